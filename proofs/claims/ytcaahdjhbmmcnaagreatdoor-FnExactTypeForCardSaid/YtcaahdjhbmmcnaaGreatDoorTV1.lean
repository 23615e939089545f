/- VEndM VEnd VPar VPutM FParamsS -/
import Derived.Lib.AppendStr
import Derived.Test.YtcaahdjhbmmcnaaGreatDoorTA1
import Derived.Test.YtcaahdjhbmmcnaaGreatDoorTF1
set_option maxRecDepth 100000
set_option maxHeartbeats 16000000
set_option linter.unusedSimpArgs false
set_option linter.unusedVariables false
namespace Go.Proofs.YtcaahdjhbmmcnaaGreatDoor
open Go.ChangeShapes Go.WideShapes Go.ChangeAt Go.RowKit
theorem yJ0{l:List UInt8}(h:l.length<=60):((fH (sB l 1 0))==(l.length:Int))=zD l:=by
 rw[zD,dT h,Bool.true_and,sB,List.drop_zero];cases hr:xW 1 l with
|none=>simp[fH]
|some k =>
  have e:((k:Int)==(l.length:Int))=decide (some k=some l.length):=by
   by_cases hk:k=l.length
   ·simp[hk]
   ·have h2:¬ ((k:Int)=(l.length:Int)):=(by omega);simp[hk,h2]
  simpa [fH] using e
theorem vK(s:ByteArray)(w:World)(hs:s.size<=maxLen) :
  Calls Tryz.prog 91 #[.string s] w fun e w'=>e=.returned (.bool (zD s.data.toList))/\w'=w:=by
 have hls:s.data.toList.length=s.size:=rfl;unfold maxLen at hs;by_cases h1:s.size<=60
 ·have d1:decide ((s.size:Int)<=60)=true:=dT (by omega);have f1:Hid (∀ W,Calls Tryz.prog 140 #[.string s,.int .i64 0] W fun e w'=>e=.returned (.int .i64 (fH (sB s.data.toList 1 0)))/\w'=W):=fun W=>eQ s 0 W (by omega) (by omega);have HE:=Ld (yJ0 (l:=s.data.toList) (by omega));rw[hls] at HE;clear hls;generalize fH (sB s.data.toList 1 0)=r at f1 HE;go_enter Tryz.func91,Tryz.ntmps91;go_wp2_with fail;(with_reducible refine mo (f1.out _) ?_);rintro w1 rfl;go_wp2;go_ret;rw[← HE.out];exact⟨rfl,rfl⟩
 ·have d1:decide ((s.size:Int)<=60)=false:=dF (by omega);have HE:Hid (zD s.data.toList=false):=(by rw[Hid,zD,hls,dF h1];rfl);clear hls;go_enter Tryz.func91,Tryz.ntmps91;go_wp2;go_ret;rw[HE.out];exact⟨rfl,rfl⟩
theorem yE5{l:List UInt8}{n p:Nat}(hp:p<l.length)(h:l[p]≠117):oX n (l.drop p)=oX n (l.drop (p+1)):=by
 rw[List.drop_eq_getElem_cons hp,oX,iN (fun hc=>h hc.1)]
theorem yE6{l:List UInt8}{n p:Nat}(hp:p+1<l.length)(h:l[p]=117)(hn:n<l[p+1].toNat - 47):oX n (l.drop p)=oX (l[p+1].toNat - 47) (l.drop (p+1)):=by
 rw[List.drop_eq_getElem_cons (show p<l.length by omega),oX];have e:(l.drop (p+1)).headD 0=l[p+1]:=by rw[List.drop_eq_getElem_cons hp];rfl
 rw[e,iP ⟨h,hn⟩]
theorem yE7{l:List UInt8}{n p:Nat}(hp:p+1<l.length)(hn:¬ n<l[p+1].toNat - 47):oX n (l.drop p)=oX n (l.drop (p+1)):=by
 rw[List.drop_eq_getElem_cons (show p<l.length by omega),oX];have e:(l.drop (p+1)).headD 0=l[p+1]:=by rw[List.drop_eq_getElem_cons hp];rfl
 rw[e,iN (fun h=>hn h.2)]
theorem sY(s:ByteArray)(w:World)(hs:s.size<=maxLen) :
  Calls Tryz.prog 92 #[.string s] w fun e w'=>e=.returned (.int .i64 (zE s.data.toList:Int))/\w'=w:=by
 have f1:=Ld fun W=>vK s W hs;have hls:s.data.toList.length=s.size:=rfl;unfold maxLen at hs;rcases Nat.eq_zero_or_pos s.size with h0|hpos
 ·have HE:Hid (zE s.data.toList=0):=by
   have:s.data.toList=[]:=List.length_eq_zero_iff.1 (by omega);rw[Hid,this];simp[zE,oX]
  have d1:decide ((0:Int)<(s.size:Int))=false:=dF (by omega);clear hls f1;go_enter Tryz.func92,Tryz.ntmps92;go_wp2;refine wp_loop_rounds 1 ?_;rw[rounds_succ];go_wp2;go_ret;rw[HE.out];exact⟨rfl,rfl⟩
 by_cases hok:zD s.data.toList=true
 ·rw[hok] at f1;have HP:=Ld (pE s.data.toList 1 (zK hok).2);have h60:=(zK hok).1;rw[hls] at h60;have HE:Hid (zE s.data.toList=oX 0 s.data.toList):=iP hok;rw[HE.out];clear hok HE hls;go_enter Tryz.func92,Tryz.ntmps92;go_wp2;go_loopw [3,4] (fun nn i wr=>∃ n p:Nat,p<=s.size/\n<=208/\nn=.int .i64 n/\i=.int .i64 p/\wr=w/\Hid (oX n (s.data.toList.drop p)=oX 0 s.data.toList)) (fun _ i _=>s.size - (intOf i).toNat)
  case atStart=>exact⟨0,0,Nat.zero_le _,Nat.zero_le _,rfl,rfl,rfl,rfl⟩
  case round =>
   obtain⟨n,p,hp,hn,rfl,rfl,rfl,HR⟩:=hrel;by_cases hlt:p<s.size
   ·have hll:p<s.data.toList.length:=hlt;have q1:=zn p;have q2:(p:Int)<(s.size:Int):=(by omega);by_cases c1:s[p]=117
    ·have e1:((s[p].toNat:Int)==117)=true:=yH c1;obtain⟨hj,b1,b2⟩:=HP.out p hll c1;have hj':p+1<s.size:=hj;have b1':48<=s[p+1].toNat:=b1;have b2':s[p+1].toNat<=50:=b2;have q3:(0:Int)<=(p:Int)+1:=(by omega);have q4:(p:Int)+1<(s.size:Int):=(by omega);by_cases hm:n<s[p+1].toNat - 47
     ·have d2:decide ((n:Int)<(s[p+1].toNat:Int) - 47)=true:=dT (by omega);have HR2:=Ld ((yE6 hj c1 hm).symm.trans HR.out);clear HR c1;go_wp2_with fail;(with_reducible refine mo (f1.out _) ?_);rintro w1 rfl;go_wp2;go_roundw
      case rel=>exact⟨s[p+1].toNat - 47,p+1,by omega,by omega,by simp<;>omega,by go_num,trivial,HR2.out⟩
      case measure=>simp[intOf];omega
     ·have d2:decide ((n:Int)<(s[p+1].toNat:Int) - 47)=false:=dF (by omega);have HR2:=Ld ((yE7 hj hm).symm.trans HR.out);clear HR c1;go_wp2_with fail;(with_reducible refine mo (f1.out _) ?_);rintro w1 rfl;go_wp2;go_roundw
      case rel=>exact⟨n,p+1,by omega,by omega,rfl,by go_num,trivial,HR2.out⟩
      case measure=>simp[intOf];omega
    ·have e1:((s[p].toNat:Int)==117)=false:=zQ c1;have HR2:=Ld ((yE5 hll c1).symm.trans HR.out);clear HR c1;go_wp2_with fail;(with_reducible refine mo (f1.out _) ?_);rintro w1 rfl;go_wp2;go_roundw
     case rel=>exact⟨n,p+1,by omega,by omega,rfl,by go_num,trivial,HR2.out⟩
     case measure=>simp[intOf];omega
   ·have hpe:p=s.size:=(by omega);have HE:Hid (oX 0 s.data.toList=n):=by
     rw[Hid,← HR.out,List.drop_eq_nil_of_le (by show s.size<=p;omega)];rfl
    have d1:decide ((p:Int)<(s.size:Int))=false:=dF (by omega);clear HR HP;go_wp2;go_ret;rw[HE.out];exact⟨rfl,rfl⟩
 ·rw[Bool.not_eq_true] at hok;rw[hok] at f1;have HE:Hid (zE s.data.toList=0):=iN (by rw[hok];decide);have d1:decide ((0:Int)<(s.size:Int))=true:=dT (by omega);clear hls hok;go_enter Tryz.func92,Tryz.ntmps92;go_wp2;refine wp_loop_rounds 1 ?_;rw[rounds_succ];go_wp2_with fail;(with_reducible refine mo (f1.out _) ?_);rintro w1 rfl;go_wp2;go_ret;rw[HE.out];exact⟨rfl,rfl⟩
def yC:Option (List UInt8)->Value
|some t=>.tuple #[.string ⟨t.toArray⟩,.bool true]
|none=>.tuple #[.string ⟨#[]⟩,.bool false]
theorem jN(args:List (List UInt8)):qG args []=[]:=by rw[qG]
theorem vC(args:List (List UInt8)){c:UInt8}(h:c≠117)(r:List UInt8):qG args (c::r)=c::qG args r:=by
 cases r with
|nil=>rw[jN,qG]
|cons d r=>rw[qG,iN h]
theorem mM(args:List (List UInt8))(d:UInt8)(r:List UInt8):qG args (117::d::r)=args.getD (d.toNat - 48) []++qG args r:=by
 rw[qG,iP rfl]
theorem yY8{args:List (List UInt8)}{l:List UInt8}{p:Nat}(hp:p<l.length)(h:l[p]≠117):qG args (l.drop p)=l[p]::qG args (l.drop (p+1)):=by
 rw[List.drop_eq_getElem_cons hp,vC args h]
theorem zW3{args:List (List UInt8)}{l:List UInt8}{p:Nat}(hp:p+1<l.length)(h:l[p]=117):qG args (l.drop p)=args.getD (l[p+1].toNat - 48) []++qG args (l.drop (p+2)):=by
 rw[List.drop_eq_getElem_cons (show p<l.length by omega),h,List.drop_eq_getElem_cons hp,mM]
theorem mP:∀ (l:List UInt8) (n:Nat),n<=oX n l
|[],n=>nR _
|c::r,n=>by
  rw[oX];split
  ·rename_i h;exact Nat.le_trans (Nat.le_of_lt h.2) (mP r _)
  ·exact mP r n
theorem cL:∀ (l:List UInt8) (n i:Nat) (hi:i+1<l.length),l[i]=117->l[i+1].toNat - 47<=oX n l
|c::d::r,n,0,_,h=>by
  rw[oX];have hc:c=117:=h;show d.toNat - 47<=_;split
  ·exact mP _ _
  ·rename_i h2;have:¬ n<d.toNat - 47:=fun h3=>h2 ⟨hc,h3⟩;exact Nat.le_trans (by omega) (mP _ n)
|c::r,n,i+1,hi,h=>by
  rw[oX];exact cL r _ i (by simpa using hi) (by simpa using h)
theorem yW{w:World}{b n:Nat}{v:Value}{xs:List Value}(h:w.ownsRow b 9 1 v n xs):∃ a cap,v=.slice a n cap:=by
 rcases h.2 with ⟨rfl,rfl⟩|⟨g,cap,cur,rfl,_⟩
 ·exact⟨_,_,rfl⟩
 ·exact⟨_,_,rfl⟩
theorem xH4:(Tryz.prog.info? 5).map (fun i=>(i.zero,i.size,i.bytes))=some (some (.int .u8 0),1,1):=by kernel_rfl
theorem zJ3(t:List UInt8):Lib.strCells ⟨t.toArray⟩=t.map bv:=rfl
noncomputable def rQ (l:List UInt8):Nat:=match vQ l with
|some T=>T.params
|none=>0
def Tm.sortP:Tm->Nat
|.sort l=>zE l
|_=>0
theorem Tm.post_ok:∀ (T:Tm),T.Ok->∀ u∈T.post,u.Ok
|.var n,h,u,hu=>by simp[Tm.post] at hu;subst hu;exact h
|.sort l,h,u,hu=>by simp[Tm.post] at hu;subst hu;exact h
|.const n ls,h,u,hu=>by simp[Tm.post] at hu;subst hu;exact h
|.app f a,h,u,hu=>by
  simp only[Tm.post,List.mem_append,List.mem_singleton] at hu;rcases hu with hu|hu|rfl
  ·exact post_ok f h.1 u hu
  ·exact post_ok a h.2 u hu
  ·exact h
|.lam f a,h,u,hu=>by
  simp only[Tm.post,List.mem_append,List.mem_singleton] at hu;rcases hu with hu|hu|rfl
  ·exact post_ok f h.1 u hu
  ·exact post_ok a h.2 u hu
  ·exact h
|.pi f a,h,u,hu=>by
  simp only[Tm.post,List.mem_append,List.mem_singleton] at hu;rcases hu with hu|hu|rfl
  ·exact post_ok f h.1 u hu
  ·exact post_ok a h.2 u hu
  ·exact h
|.lett f a b,h,u,hu=>by
  simp only[Tm.post,List.mem_append,List.mem_singleton] at hu;rcases hu with hu|hu|hu|rfl
  ·exact post_ok f h.1 u hu
  ·exact post_ok a h.2.1 u hu
  ·exact post_ok b h.2.2 u hu
  ·exact h
theorem tW(l:List UInt8):zE l<=256:=by
 unfold zE;split
 ·have:∀ (l:List UInt8) (n:Nat),n<=256->oX n l<=256:=by
   intro l
   induction l with
  |nil=>intro n h;exact h
  |cons c r ih =>
    intro n h;rw[oX];refine ih _ ?_;have:(r.headD 0).toNat<256:=UInt8.toNat_lt _;split<;>omega
  exact this l 0 (by omega)
 ·omega
theorem yI2(ls:List (List UInt8)):∀ n,n<=256->ls.foldl (fun m l=>max m (zE l)) n<=256:=by
 induction ls with
|nil=>intro n h;exact h
|cons x r ih=>intro n h;exact ih _ (by have:=tW x;show max n (zE x)<=256;omega)
theorem yZ0(u:Tm):u.ownP<=256:=by
 cases u with
|sort l=>exact tW l
|const n ls=>exact yI2 ls 0 (by omega)
|_=>exact Nat.zero_le _
theorem yT0(us:List Tm):∀ n,n<=256->us.foldl (fun m u=>max m u.ownP) n<=256:=by
 induction us with
|nil=>intro n h;exact h
|cons x r ih=>intro n h;exact ih _ (by have:=yZ0 x;show max n x.ownP<=256;omega)
theorem zZ0{us:List Tm}{k:Nat}(hk:k<us.length):(us.take (k+1)).foldl (fun m u=>max m u.ownP) 0=max ((us.take k).foldl (fun m u=>max m u.ownP) 0) us[k].ownP:=by
 rw[List.take_succ_eq_append_getElem hk,List.foldl_append];rfl
theorem zZ1{ls:List (List UInt8)}{k m:Nat}(hk:k<ls.length):(ls.take (k+1)).foldl (fun m l=>max m (zE l)) m=max ((ls.take k).foldl (fun m l=>max m (zE l)) m) (zE ls[k]):=by
 rw[List.take_succ_eq_append_getElem hk,List.foldl_append];rfl
theorem aV(s:ByteArray)(w:World)(hs:s.size<=maxLen) :
  Rt 102 #[.string s] w (.int .i64 (rQ s.data.toList:Int)):=by
 have f1:=Ld (tN s w hs);have fP:=Ld sY;go_enter Tryz.func102,Tryz.ntmps102;go_wp2_with fail;(with_reducible refine f1.out.mono ?_);rintro e W ⟨v,ns,rfl,hrow,hb,hsl,hall⟩;obtain⟨P,hPl,hPn,hPo,hPr⟩:∃ P:List Tm,P.length=ns.length/\(∀ (i:Nat) (u:Tm),P[i]?=some u->∃ nd,ns[i]?=some nd/\lL W w.heap.size nd u)/\(∀ u∈P,u.Ok)/\rQ s.data.toList=P.foldl (fun m u=>max m u.ownP) 0/\ns.length<=100000:=by
  rcases hall with ⟨t,ht,hn,hr⟩|⟨hno,rfl⟩
  ·have hsz:=t.size_pos;have hszl:=t.size_le;have hle:=ht.2.2;rw[← ht.2.1] at hle;obtain⟨_,h2⟩:=hr.at;refine⟨t.post,by rw[t.post_len,hn],fun i u hu=>?_,t.post_ok ht.1,by rw[rQ,zY ht];exact t.params_post,by omega⟩;obtain⟨nd,p,q⟩:=h2 i u hu;exact⟨nd,by rw[show i=ns.length - 1+1 - t.size+i by omega];exact p,q⟩
  ·exact⟨[],rfl,fun i u h=>by simp at h,fun u h=>by simp at h,by rw[rQ,yR hno];rfl,Nat.zero_le _⟩
 obtain⟨hPr,hn2⟩:=hPr;have HPN:=Ld hPn;have HPO:=Ld hPo;have HPR:=Ld hPr;have HB:=Ld hb;have HSL:=Ld hsl;have HROW:=Ld hrow;have HF:=Ld fun k=>yT0 (P.take k) 0 (by omega);obtain⟨la,lc,rfl⟩:=xE hrow;clear hPn hPo hPr hb hsl hrow hall f1;go_wp2;go_loopw [3,5] (fun z i wr=>∃ k:Nat,k<=ns.length/\i=.int .i64 k/\z=.int .i64 (((P.take k).foldl (fun m u=>max m u.ownP) 0:Nat):Int)/\wr=W) (fun _ i _=>ns.length - (intOf i).toNat)
 case atStart=>exact⟨0,Nat.zero_le _,rfl,rfl,rfl⟩
 case round =>
  obtain⟨k,hk,rfl,rfl,rfl⟩:=hrel;by_cases hlt:k<ns.length
  ·obtain⟨nd,hnd,hnk,hns,hnr⟩:=HPN.out k P[k] (by simp[show k<P.length by omega]);have hok:=HPO.out _ (List.getElem_mem (show k<P.length by omega));have HS:=Ld (zZ0 (us:=P) (k:=k) (by omega));have hm:=HF.out k;have hm1:=HF.out (k+1);obtain⟨g,cap,e0,_,hgl⟩:=HROW.out.form (by omega);cases e0;have c0:wr.cell? ⟨g,k*7,none⟩=some (.int .u8 (nd.kind.toNat:Int)):=xP HROW.out hnd 0 (by decide);have c5:wr.cell? ⟨g,k*7+5,none⟩=some (.string ⟨nd.text.toArray⟩):=xP HROW.out hnd 5 (by decide);have c6:wr.cell? ⟨g,k*7+6,none⟩=some nd.lv:=xP HROW.out hnd 6 (by decide);have q1:=zn k;have q2:(k:Int)<(ns.length:Int):=(by omega);rw[hnk] at c0;generalize P[k]=u at HS hns hnr hok c0;generalize hE:(P.take (k+1)).foldl (fun m u=>max m u.ownP) 0=m1 at HS hm1;have HE:=Ld hE;clear hE;generalize (P.take k).foldl (fun m u=>max m u.ownP) 0=m0 at HS hm |-;obtain⟨al,cl,hlv⟩:=yW hnr;rw[hlv] at c6 hnr;clear hnd hnk hlv;have hl0:∀ x∈u.lvOf,x.length<=60:=fun x hx=>by
    cases u with
   |const n ls=>exact(zK (hok.2.2 x hx)).1
   |_=>simp[Tm.lvOf] at hx
   have hln:u.lvOf.length<=100000:=by
    cases u with
   |const n ls=>have:=hok.2.1;show ls.length<=_;omega
   |_=>exact Nat.zero_le _
   have HL:=Ld hl0;have HIF:=Ld fun (j MS:Nat) (h:MS<=256)=>yI2 (u.lvOf.take j) MS h;have HNR:=Ld hnr;have hu0:m1=u.lvOf.foldl (fun m l=>max m (zE l)) (max m0 u.sortP):=by
    rw[HS.out];cases u with
   |const n ls=>simp only[Tm.ownP,Tm.lvOf,Tm.sortP];rw[vR zE ls (max m0 0)];omega
   |_=>simp[Tm.ownP,Tm.lvOf,Tm.sortP]
   have HU:=Ld hu0;clear hu0 hl0;cases u with
  |sort l =>
    rw[hns l rfl] at c5;have h60:l.length<=60:=(zK hok).1;have g1:=Ld fun W=>fP.out ⟨l.toArray⟩ W (by show l.length<=_;unfold maxLen;omega);rw[show (⟨l.toArray⟩:ByteArray).data.toList=l from rfl] at g1;have hp:=tW l;have HV:Hid (m1=([]:List (List UInt8)).foldl (fun m l=>max m (zE l)) (max m0 (zE l))):=HU;replace c0:wr.cell? ⟨g,k*7,none⟩=some (.int .u8 115):=c0;replace c6:wr.cell? ⟨g,k*7+6,none⟩=some (.slice al 0 cl):=c6;clear hns hnr hok HS HNR HIF HL HU hln;generalize zE l=p at g1 hp HV;by_cases hgt:m0<p
    ·have d1:decide ((m0:Int)<(p:Int))=true:=dT (by omega);have d1n:decide (m0<p)=true:=dT hgt;go_wp2_with fail;(with_reducible refine mo (g1.out _) ?_);rintro w2 rfl;go_wp2_with fail;(with_reducible refine mo (g1.out _) ?_);rintro w2 rfl;go_wp2;go_loopw [3,6] (fun z i wi=>i=.int .i64 0/\z=.int .i64 (p:Int)/\wi=w2) (fun _ _ _=>0)
     case atStart=>exact⟨rfl,rfl,rfl⟩
     case round =>
      obtain⟨rfl,rfl,rfl⟩:=hrel;go_wp2;go_roundw
      case rel=>exact⟨k+1,by omega,by go_num,by rw[HE.out,HV.out];show _=Value.int .i64 ((max m0 p:Nat):Int);rw[show max m0 p=p by omega],trivial⟩
      case measure=>simp[intOf];omega
    ·have d1:decide ((m0:Int)<(p:Int))=false:=dF (by omega);have d1n:decide (m0<p)=false:=dF hgt;go_wp2_with fail;(with_reducible refine mo (g1.out _) ?_);rintro w2 rfl;go_wp2;go_loopw [3,6] (fun z i wi=>i=.int .i64 0/\z=.int .i64 (m0:Int)/\wi=w2) (fun _ _ _=>0)
     case atStart=>exact⟨rfl,rfl,rfl⟩
     case round =>
      obtain⟨rfl,rfl,rfl⟩:=hrel;go_wp2;go_roundw
      case rel=>exact⟨k+1,by omega,by go_num,by rw[HE.out,HV.out];show _=Value.int .i64 ((max m0 p:Nat):Int);rw[show max m0 p=m0 by omega],trivial⟩
      case measure=>simp[intOf];omega
  |const nm ls =>
    have HV:Hid (m1=ls.foldl (fun m l=>max m (zE l)) m0):=Ld (by have:=HU.out;rw[show max m0 (Tm.const nm ls).sortP=m0 by simp[Tm.sortP]] at this;exact this);have HL:Hid (∀ x∈ls,x.length<=60):=HL;have HIF:Hid (∀ (j MS:Nat),MS<=256->(ls.take j).foldl (fun m l=>max m (zE l)) MS<=256):=HIF;have HNR:Hid (wr.ownsRow w.heap.size 9 1 (.slice al ls.length cl) ls.length (ls.map sv)):=HNR;have hln:ls.length<=100000:=hln;replace c0:wr.cell? ⟨g,k*7,none⟩=some (.int .u8 99):=c0;replace c6:wr.cell? ⟨g,k*7+6,none⟩=some (.slice al ls.length cl):=c6;clear hns hnr hok HS HU
    rename World=>wo
    go_wp2;go_loopw [3,6] (fun z i wi=>∃ j:Nat,j<=ls.length/\i=.int .i64 j/\z=.int .i64 (((ls.take j).foldl (fun m l=>max m (zE l)) m0:Nat):Int)/\wi=wo) (fun _ i _=>ls.length - (intOf i).toNat)
    case atStart=>exact⟨0,Nat.zero_le _,rfl,rfl,rfl⟩
    case round =>
     obtain⟨j,hj,rfl,rfl,rfl⟩:=hrel;by_cases hjl:j<ls.length
     ·obtain⟨g2,cap2,e2,_,hgl2⟩:=HNR.out.form (by omega);cases e2;have ex:(ls.map sv)[j]?=some (sv ls[j]):=(by simp[hjl]);have cj:=(HNR.out.cellAt j (by omega)).trans ex;unfold sv at cj;have q3:=zn j;have q4:(j:Int)<(ls.length:Int):=(by omega);have h60:ls[j].length<=60:=HL.out _ (List.getElem_mem hjl);have hp:=tW ls[j];have HS3:=Ld (zZ1 (ls:=ls) (k:=j) (m:=m0) hjl);have b0:=HIF.out j m0 hm;have b1:=HIF.out (j+1) m0 hm;have g1:=Ld fun W=>fP.out ⟨ls[j].toArray⟩ W (by show ls[j].length<=_;unfold maxLen;omega);rw[show (⟨ls[j].toArray⟩:ByteArray).data.toList=ls[j] from rfl] at g1;generalize ls[j]=l at cj h60 hp HS3 g1;generalize zE l=p at hp HS3 g1;generalize hx1:(ls.take (j+1)).foldl (fun m l=>max m (zE l)) m0=x1 at HS3 b1;have HX:=Ld hx1;generalize (ls.take j).foldl (fun m l=>max m (zE l)) m0=x0 at HS3 b0 |-;clear hx1 ex;by_cases hgt:x0<p
      ·have d1:decide ((x0:Int)<(p:Int))=true:=dT (by omega);have d1n:decide (x0<p)=true:=dT hgt;go_wp2_with fail;(with_reducible refine mo (g1.out _) ?_);rintro w2 rfl;go_wp2_with fail;(with_reducible refine mo (g1.out _) ?_);rintro w2 rfl;go_wp2;go_roundw
       case rel=>exact⟨j+1,by omega,by go_num,by rw[HX.out,HS3.out,show max x0 p=p by omega],trivial⟩
       case measure=>simp[intOf];omega
      ·have d1:decide ((x0:Int)<(p:Int))=false:=dF (by omega);have d1n:decide (x0<p)=false:=dF hgt;go_wp2_with fail;(with_reducible refine mo (g1.out _) ?_);rintro w2 rfl;go_wp2;go_roundw
       case rel=>exact⟨j+1,by omega,by go_num,by rw[HX.out,HS3.out,show max x0 p=x0 by omega],trivial⟩
       case measure=>simp[intOf];omega
     ·obtain rfl:j=ls.length:=(by omega);rw[List.take_length];have d2:decide ((ls.length:Int)<(ls.length:Int))=false:=dF (by omega);have b0:=HIF.out ls.length m0 hm;rw[List.take_length] at b0;generalize ls.foldl (fun m l=>max m (zE l)) m0=x0 at HV b0 |-;go_wp2;go_roundw
      case rel=>exact⟨k+1,by omega,by go_num,by rw[HE.out,HV.out],trivial⟩
      case measure=>simp[intOf];omega
  |var _ =>
    have HV:Hid (m1=m0):=Ld (by have:=HU.out;simpa [Tm.sortP,Tm.lvOf] using this);replace c0:wr.cell? ⟨g,k*7,none⟩=some (.int .u8 118):=c0;replace c6:wr.cell? ⟨g,k*7+6,none⟩=some (.slice al 0 cl):=c6;clear hns hnr hok HS HNR HIF HL HU hln
    rename World=>wo
    go_wp2;go_loopw [3,6] (fun z i wi=>i=.int .i64 0/\z=.int .i64 (m0:Int)/\wi=wo) (fun _ _ _=>0)
    case atStart=>exact⟨rfl,rfl,rfl⟩
    case round =>
     obtain⟨rfl,rfl,rfl⟩:=hrel;go_wp2;go_roundw
     case rel=>exact⟨k+1,by omega,by go_num,by rw[HE.out,HV.out],trivial⟩
     case measure=>simp[intOf];omega
  |app _ _ =>
    have HV:Hid (m1=m0):=Ld (by have:=HU.out;simpa [Tm.sortP,Tm.lvOf] using this);replace c0:wr.cell? ⟨g,k*7,none⟩=some (.int .u8 64):=c0;replace c6:wr.cell? ⟨g,k*7+6,none⟩=some (.slice al 0 cl):=c6;clear hns hnr hok HS HNR HIF HL HU hln
    rename World=>wo
    go_wp2;go_loopw [3,6] (fun z i wi=>i=.int .i64 0/\z=.int .i64 (m0:Int)/\wi=wo) (fun _ _ _=>0)
    case atStart=>exact⟨rfl,rfl,rfl⟩
    case round =>
     obtain⟨rfl,rfl,rfl⟩:=hrel;go_wp2;go_roundw
     case rel=>exact⟨k+1,by omega,by go_num,by rw[HE.out,HV.out],trivial⟩
     case measure=>simp[intOf];omega
  |lam _ _ =>
    have HV:Hid (m1=m0):=Ld (by have:=HU.out;simpa [Tm.sortP,Tm.lvOf] using this);replace c0:wr.cell? ⟨g,k*7,none⟩=some (.int .u8 108):=c0;replace c6:wr.cell? ⟨g,k*7+6,none⟩=some (.slice al 0 cl):=c6;clear hns hnr hok HS HNR HIF HL HU hln
    rename World=>wo
    go_wp2;go_loopw [3,6] (fun z i wi=>i=.int .i64 0/\z=.int .i64 (m0:Int)/\wi=wo) (fun _ _ _=>0)
    case atStart=>exact⟨rfl,rfl,rfl⟩
    case round =>
     obtain⟨rfl,rfl,rfl⟩:=hrel;go_wp2;go_roundw
     case rel=>exact⟨k+1,by omega,by go_num,by rw[HE.out,HV.out],trivial⟩
     case measure=>simp[intOf];omega
  |pi _ _ =>
    have HV:Hid (m1=m0):=Ld (by have:=HU.out;simpa [Tm.sortP,Tm.lvOf] using this);replace c0:wr.cell? ⟨g,k*7,none⟩=some (.int .u8 112):=c0;replace c6:wr.cell? ⟨g,k*7+6,none⟩=some (.slice al 0 cl):=c6;clear hns hnr hok HS HNR HIF HL HU hln
    rename World=>wo
    go_wp2;go_loopw [3,6] (fun z i wi=>i=.int .i64 0/\z=.int .i64 (m0:Int)/\wi=wo) (fun _ _ _=>0)
    case atStart=>exact⟨rfl,rfl,rfl⟩
    case round =>
     obtain⟨rfl,rfl,rfl⟩:=hrel;go_wp2;go_roundw
     case rel=>exact⟨k+1,by omega,by go_num,by rw[HE.out,HV.out],trivial⟩
     case measure=>simp[intOf];omega
  |lett _ _ _ =>
    have HV:Hid (m1=m0):=Ld (by have:=HU.out;simpa [Tm.sortP,Tm.lvOf] using this);replace c0:wr.cell? ⟨g,k*7,none⟩=some (.int .u8 116):=c0;replace c6:wr.cell? ⟨g,k*7+6,none⟩=some (.slice al 0 cl):=c6;clear hns hnr hok HS HNR HIF HL HU hln
    rename World=>wo
    go_wp2;go_loopw [3,6] (fun z i wi=>i=.int .i64 0/\z=.int .i64 (m0:Int)/\wi=wo) (fun _ _ _=>0)
    case atStart=>exact⟨rfl,rfl,rfl⟩
    case round =>
     obtain⟨rfl,rfl,rfl⟩:=hrel;go_wp2;go_roundw
     case rel=>exact⟨k+1,by omega,by go_num,by rw[HE.out,HV.out],trivial⟩
     case measure=>simp[intOf];omega
  ·obtain rfl:k=ns.length:=(by omega);have hE:P.take ns.length=P:=(by rw[← hPl];exact List.take_length);rw[hE];have hm:=HF.out ns.length;rw[hE] at hm;have d1:decide ((ns.length:Int)<(ns.length:Int))=false:=dF (by omega);clear hE;generalize P.foldl (fun m u=>max m u.ownP) 0=m0 at HPR hm |-;go_wp2;go_ret;exact⟨by rw[HPR.out];rfl,HB.out⟩
end Go.Proofs.YtcaahdjhbmmcnaaGreatDoor
