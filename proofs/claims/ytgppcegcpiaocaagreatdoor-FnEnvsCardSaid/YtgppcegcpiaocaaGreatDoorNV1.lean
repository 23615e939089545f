/- VEndM VEnd VPar VPutM FParamsS Dr1P Dr1 Big OpenB FParams -/
import Derived.Lib.AppendStr
import Derived.BigQuiet
import Derived.Laws.Bits128
import Derived.ChangeSlices
import Derived.Test.YtgppcegcpiaocaaGreatDoorNA1
import Derived.Test.YtgppcegcpiaocaaGreatDoorNA5
set_option maxRecDepth 100000
set_option maxHeartbeats 16000000
set_option linter.unusedSimpArgs false
set_option linter.unusedVariables false
namespace Go.Proofs.YtgppcegcpiaocaaGreatDoor
open Go.ChangeShapes Go.WideShapes Go.ChangeAt Go.RowKit
theorem yQ4{l:List UInt8}(h:l.length<=60):((dO (sM l 1 0))==(l.length:Int))=zD l:=by
 rw[zD,dT h,Bool.true_and,sM,List.drop_zero];cases hr:zY 1 l with
|none=>simp[dO]
|some k =>
  have e:((k:Int)==(l.length:Int))=decide (some k=some l.length):=by
   by_cases hk:k=l.length
   ·simp[hk]
   ·have h2:¬ ((k:Int)=(l.length:Int)):=(by omega);simp[hk,h2]
  simpa [dO] using e
theorem zO0(s:ByteArray)(w:World)(hs:s.size<=maxLen) :
  Calls Tryz.prog 157 #[.string s] w fun e w'=>e=.returned (.bool (zD s.data.toList))/\w'=w:=by
 have hls:s.data.toList.length=s.size:=rfl;unfold maxLen at hs;by_cases h1:s.size<=60
 ·have d1:decide ((s.size:Int)<=60)=true:=dT (by omega);have f1:Hid (∀ W,Calls Tryz.prog 180 #[.string s,.int .i64 0] W fun e w'=>e=.returned (.int .i64 (dO (sM s.data.toList 1 0)))/\w'=W):=fun W=>cR s 0 W (by omega) (by omega);have HE:=Ld (yQ4 (l:=s.data.toList) (by omega));rw[hls] at HE;clear hls;generalize dO (sM s.data.toList 1 0)=r at f1 HE;go_enter Tryz.func157,Tryz.ntmps157;go_wp2_with fail;(with_reducible refine mo (f1.out _) ?_);rintro w1 rfl;go_wp2;go_ret;rw[← HE.out];exact⟨rfl,rfl⟩
 ·have d1:decide ((s.size:Int)<=60)=false:=dF (by omega);have HE:Hid (zD s.data.toList=false):=(by rw[Hid,zD,hls,dF h1];rfl);clear hls;go_enter Tryz.func157,Tryz.ntmps157;go_wp2;go_ret;rw[HE.out];exact⟨rfl,rfl⟩
theorem yK2{l:List UInt8}{n p:Nat}(hp:p<l.length)(h:l[p]≠117):xJ n (l.drop p)=xJ n (l.drop (p+1)):=by
 rw[List.drop_eq_getElem_cons hp,xJ,iN (fun hc=>h hc.1)]
theorem yK3{l:List UInt8}{n p:Nat}(hp:p+1<l.length)(h:l[p]=117)(hn:n<l[p+1].toNat - 47):xJ n (l.drop p)=xJ (l[p+1].toNat - 47) (l.drop (p+1)):=by
 rw[List.drop_eq_getElem_cons (show p<l.length by omega),xJ];have e:(l.drop (p+1)).headD 0=l[p+1]:=by rw[List.drop_eq_getElem_cons hp];rfl
 rw[e,iP ⟨h,hn⟩]
theorem yK4{l:List UInt8}{n p:Nat}(hp:p+1<l.length)(hn:¬ n<l[p+1].toNat - 47):xJ n (l.drop p)=xJ n (l.drop (p+1)):=by
 rw[List.drop_eq_getElem_cons (show p<l.length by omega),xJ];have e:(l.drop (p+1)).headD 0=l[p+1]:=by rw[List.drop_eq_getElem_cons hp];rfl
 rw[e,iN (fun h=>hn h.2)]
theorem fA(s:ByteArray)(w:World)(hs:s.size<=maxLen) :
  Calls Tryz.prog 133 #[.string s] w fun e w'=>e=.returned (.int .i64 (zC s.data.toList:Int))/\w'=w:=by
 have f1:=Ld fun W=>zO0 s W hs;have hls:s.data.toList.length=s.size:=rfl;unfold maxLen at hs;rcases Nat.eq_zero_or_pos s.size with h0|hpos
 ·have HE:Hid (zC s.data.toList=0):=by
   have:s.data.toList=[]:=List.length_eq_zero_iff.1 (by omega);rw[Hid,this];simp[zC,xJ]
  have d1:decide ((0:Int)<(s.size:Int))=false:=dF (by omega);clear hls f1;go_enter Tryz.func133,Tryz.ntmps133;go_wp2;refine wp_loop_rounds 1 ?_;rw[rounds_succ];go_wp2;go_ret;rw[HE.out];exact⟨rfl,rfl⟩
 by_cases hok:zD s.data.toList=true
 ·rw[hok] at f1;have HP:=Ld (mR s.data.toList 1 (zU hok).2);have h60:=(zU hok).1;rw[hls] at h60;have HE:Hid (zC s.data.toList=xJ 0 s.data.toList):=iP hok;rw[HE.out];clear hok HE hls;go_enter Tryz.func133,Tryz.ntmps133;go_wp2;go_loopw [3,4] (fun nn i wr=>∃ n p:Nat,p<=s.size/\n<=208/\nn=.int .i64 n/\i=.int .i64 p/\wr=w/\Hid (xJ n (s.data.toList.drop p)=xJ 0 s.data.toList)) (fun _ i _=>s.size - (intOf i).toNat)
  case atStart=>exact⟨0,0,Nat.zero_le _,Nat.zero_le _,rfl,rfl,rfl,rfl⟩
  case round =>
   obtain⟨n,p,hp,hn,rfl,rfl,rfl,HR⟩:=hrel;by_cases hlt:p<s.size
   ·have hll:p<s.data.toList.length:=hlt;have q1:=zn p;have q2:(p:Int)<(s.size:Int):=(by omega);by_cases c1:s[p]=117
    ·have e1:((s[p].toNat:Int)==117)=true:=yV c1;obtain⟨hj,b1,b2⟩:=HP.out p hll c1;have hj':p+1<s.size:=hj;have b1':48<=s[p+1].toNat:=b1;have b2':s[p+1].toNat<=50:=b2;have q3:(0:Int)<=(p:Int)+1:=(by omega);have q4:(p:Int)+1<(s.size:Int):=(by omega);by_cases hm:n<s[p+1].toNat - 47
     ·have d2:decide ((n:Int)<(s[p+1].toNat:Int) - 47)=true:=dT (by omega);have HR2:=Ld ((yK3 hj c1 hm).symm.trans HR.out);clear HR c1;go_wp2_with fail;(with_reducible refine mo (f1.out _) ?_);rintro w1 rfl;go_wp2;go_roundw
      case rel=>exact⟨s[p+1].toNat - 47,p+1,by omega,by omega,by simp<;>omega,by go_num,trivial,HR2.out⟩
      case measure=>simp[intOf];omega
     ·have d2:decide ((n:Int)<(s[p+1].toNat:Int) - 47)=false:=dF (by omega);have HR2:=Ld ((yK4 hj hm).symm.trans HR.out);clear HR c1;go_wp2_with fail;(with_reducible refine mo (f1.out _) ?_);rintro w1 rfl;go_wp2;go_roundw
      case rel=>exact⟨n,p+1,by omega,by omega,rfl,by go_num,trivial,HR2.out⟩
      case measure=>simp[intOf];omega
    ·have e1:((s[p].toNat:Int)==117)=false:=zZ c1;have HR2:=Ld ((yK2 hll c1).symm.trans HR.out);clear HR c1;go_wp2_with fail;(with_reducible refine mo (f1.out _) ?_);rintro w1 rfl;go_wp2;go_roundw
     case rel=>exact⟨n,p+1,by omega,by omega,rfl,by go_num,trivial,HR2.out⟩
     case measure=>simp[intOf];omega
   ·have hpe:p=s.size:=(by omega);have HE:Hid (xJ 0 s.data.toList=n):=by
     rw[Hid,← HR.out,List.drop_eq_nil_of_le (by show s.size<=p;omega)];rfl
    have d1:decide ((p:Int)<(s.size:Int))=false:=dF (by omega);clear HR HP;go_wp2;go_ret;rw[HE.out];exact⟨rfl,rfl⟩
 ·rw[Bool.not_eq_true] at hok;rw[hok] at f1;have HE:Hid (zC s.data.toList=0):=iN (by rw[hok];decide);have d1:decide ((0:Int)<(s.size:Int))=true:=dT (by omega);clear hls hok;go_enter Tryz.func133,Tryz.ntmps133;go_wp2;refine wp_loop_rounds 1 ?_;rw[rounds_succ];go_wp2_with fail;(with_reducible refine mo (f1.out _) ?_);rintro w1 rfl;go_wp2;go_ret;rw[HE.out];exact⟨rfl,rfl⟩
def vO:Option (List UInt8)->Value
|some t=>.tuple #[.string ⟨t.toArray⟩,.bool true]
|none=>.tuple #[.string ⟨#[]⟩,.bool false]
theorem aM(args:List (List UInt8)):nY args []=[]:=by rw[nY]
theorem vJ(args:List (List UInt8)){c:UInt8}(h:c≠117)(r:List UInt8):nY args (c::r)=c::nY args r:=by
 cases r with
|nil=>rw[aM,nY]
|cons d r=>rw[nY,iN h]
theorem gA(args:List (List UInt8))(d:UInt8)(r:List UInt8):nY args (117::d::r)=args.getD (d.toNat - 48) []++nY args r:=by
 rw[nY,iP rfl]
theorem lR:∀ (l:List UInt8) (n:Nat),n<=xJ n l
|[],n=>nR _
|c::r,n=>by
  rw[xJ];split
  ·rename_i h;exact Nat.le_trans (Nat.le_of_lt h.2) (lR r _)
  ·exact lR r n
theorem yK5:∀ (l:List UInt8) (n i:Nat) (hi:i+1<l.length),l[i]=117->l[i+1].toNat - 47<=xJ n l
|c::d::r,n,0,_,h=>by
  rw[xJ];have hc:c=117:=h;show d.toNat - 47<=_;split
  ·exact lR _ _
  ·rename_i h2;have:¬ n<d.toNat - 47:=fun h3=>h2 ⟨hc,h3⟩;exact Nat.le_trans (by omega) (lR _ n)
|c::r,n,i+1,hi,h=>by
  rw[xJ];exact yK5 r _ i (by simpa using hi) (by simpa using h)
theorem xZ{w:World}{b n:Nat}{v:Value}{xs:List Value}(h:w.ownsRow b 9 1 v n xs):∃ a cap,v=.slice a n cap:=by
 rcases h.2 with ⟨rfl,rfl⟩|⟨g,cap,cur,rfl,_⟩
 ·exact⟨_,_,rfl⟩
 ·exact⟨_,_,rfl⟩
noncomputable def yY (l:List UInt8):Nat:=match vN l with
|some T=>T.params
|none=>0
def Tm.sortP:Tm->Nat
|.sort l=>zC l
|_=>0
theorem Tm.post_ok:∀ (T:Tm),T.Ok->∀ u∈T.post,u.Ok
|.var n,h,u,hu=>by simp[Tm.post] at hu;subst hu;exact h
|.sort l,h,u,hu=>by simp[Tm.post] at hu;subst hu;exact h
|.const n ls,h,u,hu=>by simp[Tm.post] at hu;subst hu;exact h
|.app f a,h,u,hu=>by
  simp only[Tm.post,List.mem_append,List.mem_singleton] at hu;rcases hu with hu|hu|rfl
  ·exact post_ok f h.1 u hu
  ·exact post_ok a h.2 u hu
  ·exact h
|.lam f a,h,u,hu=>by
  simp only[Tm.post,List.mem_append,List.mem_singleton] at hu;rcases hu with hu|hu|rfl
  ·exact post_ok f h.1 u hu
  ·exact post_ok a h.2 u hu
  ·exact h
|.pi f a,h,u,hu=>by
  simp only[Tm.post,List.mem_append,List.mem_singleton] at hu;rcases hu with hu|hu|rfl
  ·exact post_ok f h.1 u hu
  ·exact post_ok a h.2 u hu
  ·exact h
|.lett f a b,h,u,hu=>by
  simp only[Tm.post,List.mem_append,List.mem_singleton] at hu;rcases hu with hu|hu|hu|rfl
  ·exact post_ok f h.1 u hu
  ·exact post_ok a h.2.1 u hu
  ·exact post_ok b h.2.2 u hu
  ·exact h
theorem sG(l:List UInt8):zC l<=256:=by
 unfold zC;split
 ·have:∀ (l:List UInt8) (n:Nat),n<=256->xJ n l<=256:=by
   intro l
   induction l with
  |nil=>intro n h;exact h
  |cons c r ih =>
    intro n h;rw[xJ];refine ih _ ?_;have:(r.headD 0).toNat<256:=UInt8.toNat_lt _;split<;>omega
  exact this l 0 (by omega)
 ·omega
theorem yP8(ls:List (List UInt8)):∀ n,n<=256->ls.foldl (fun m l=>max m (zC l)) n<=256:=by
 induction ls with
|nil=>intro n h;exact h
|cons x r ih=>intro n h;exact ih _ (by have:=sG x;show max n (zC x)<=256;omega)
theorem xH8(u:Tm):u.ownP<=256:=by
 cases u with
|sort l=>exact sG l
|const n ls=>exact yP8 ls 0 (by omega)
|_=>exact Nat.zero_le _
theorem xB4(us:List Tm):∀ n,n<=256->us.foldl (fun m u=>max m u.ownP) n<=256:=by
 induction us with
|nil=>intro n h;exact h
|cons x r ih=>intro n h;exact ih _ (by have:=xH8 x;show max n x.ownP<=256;omega)
theorem yE9{us:List Tm}{k:Nat}(hk:k<us.length):(us.take (k+1)).foldl (fun m u=>max m u.ownP) 0=max ((us.take k).foldl (fun m u=>max m u.ownP) 0) us[k].ownP:=by
 rw[List.take_succ_eq_append_getElem hk,List.foldl_append];rfl
theorem yF0{ls:List (List UInt8)}{k m:Nat}(hk:k<ls.length):(ls.take (k+1)).foldl (fun m l=>max m (zC l)) m=max ((ls.take k).foldl (fun m l=>max m (zC l)) m) (zC ls[k]):=by
 rw[List.take_succ_eq_append_getElem hk,List.foldl_append];rfl
theorem zE5(s:ByteArray)(w:World)(hs:s.size<=maxLen) :
  Rt 98 #[.string s] w (.int .i64 (yY s.data.toList:Int)):=by
 have f1:=Ld (mL s w hs);have fP:=Ld fA;go_enter Tryz.func98,Tryz.ntmps98;go_wp2_with fail;(with_reducible refine f1.out.mono ?_);rintro e W ⟨v,ns,rfl,hrow,hb,hsl,hall⟩;obtain⟨P,hPl,hPn,hPo,hPr⟩:∃ P:List Tm,P.length=ns.length/\(∀ (i:Nat) (u:Tm),P[i]?=some u->∃ nd,ns[i]?=some nd/\iW W w.heap.size nd u)/\(∀ u∈P,u.Ok)/\yY s.data.toList=P.foldl (fun m u=>max m u.ownP) 0/\ns.length<=100000:=by
  rcases hall with ⟨t,ht,hn,hr⟩|⟨hno,rfl⟩
  ·have hsz:=t.size_pos;have hszl:=t.size_le;have hle:=ht.2.2;rw[← ht.2.1] at hle;obtain⟨_,h2⟩:=hr.at;refine⟨t.post,by rw[t.post_len,hn],fun i u hu=>?_,t.post_ok ht.1,by rw[yY,zW ht];exact t.params_post,by omega⟩;obtain⟨nd,p,q⟩:=h2 i u hu;exact⟨nd,by rw[show i=ns.length - 1+1 - t.size+i by omega];exact p,q⟩
  ·exact⟨[],rfl,fun i u h=>by simp at h,fun u h=>by simp at h,by rw[yY,yZ hno];rfl,Nat.zero_le _⟩
 obtain⟨hPr,hn2⟩:=hPr;have HPN:=Ld hPn;have HPO:=Ld hPo;have HPR:=Ld hPr;have HB:=Ld hb;have HSL:=Ld hsl;have HROW:=Ld hrow;have HF:=Ld fun k=>xB4 (P.take k) 0 (by omega);obtain⟨la,lc,rfl⟩:=vU hrow;clear hPn hPo hPr hb hsl hrow hall f1;go_wp2;go_loopw [3,5] (fun z i wr=>∃ k:Nat,k<=ns.length/\i=.int .i64 k/\z=.int .i64 (((P.take k).foldl (fun m u=>max m u.ownP) 0:Nat):Int)/\wr=W) (fun _ i _=>ns.length - (intOf i).toNat)
 case atStart=>exact⟨0,Nat.zero_le _,rfl,rfl,rfl⟩
 case round =>
  obtain⟨k,hk,rfl,rfl,rfl⟩:=hrel;by_cases hlt:k<ns.length
  ·obtain⟨nd,hnd,hnk,hns,hnr⟩:=HPN.out k P[k] (by simp[show k<P.length by omega]);have hok:=HPO.out _ (List.getElem_mem (show k<P.length by omega));have HS:=Ld (yE9 (us:=P) (k:=k) (by omega));have hm:=HF.out k;have hm1:=HF.out (k+1);obtain⟨g,cap,e0,_,hgl⟩:=HROW.out.form (by omega);cases e0;have c0:wr.cell? ⟨g,k*7,none⟩=some (.int .u8 (nd.kind.toNat:Int)):=sQ HROW.out hnd 0 (by decide);have c5:wr.cell? ⟨g,k*7+5,none⟩=some (.string ⟨nd.text.toArray⟩):=sQ HROW.out hnd 5 (by decide);have c6:wr.cell? ⟨g,k*7+6,none⟩=some nd.lv:=sQ HROW.out hnd 6 (by decide);have q1:=zn k;have q2:(k:Int)<(ns.length:Int):=(by omega);rw[hnk] at c0;generalize P[k]=u at HS hns hnr hok c0;generalize hE:(P.take (k+1)).foldl (fun m u=>max m u.ownP) 0=m1 at HS hm1;have HE:=Ld hE;clear hE;generalize (P.take k).foldl (fun m u=>max m u.ownP) 0=m0 at HS hm |-;obtain⟨al,cl,hlv⟩:=xZ hnr;rw[hlv] at c6 hnr;clear hnd hnk hlv;have hl0:∀ x∈u.lvOf,x.length<=60:=fun x hx=>by
    cases u with
   |const n ls=>exact(zU (hok.2.2 x hx)).1
   |_=>simp[Tm.lvOf] at hx
   have hln:u.lvOf.length<=100000:=by
    cases u with
   |const n ls=>have:=hok.2.1;show ls.length<=_;omega
   |_=>exact Nat.zero_le _
   have HL:=Ld hl0;have HIF:=Ld fun (j MS:Nat) (h:MS<=256)=>yP8 (u.lvOf.take j) MS h;have HNR:=Ld hnr;have hu0:m1=u.lvOf.foldl (fun m l=>max m (zC l)) (max m0 u.sortP):=by
    rw[HS.out];cases u with
   |const n ls=>simp only[Tm.ownP,Tm.lvOf,Tm.sortP];rw[vM zC ls (max m0 0)];omega
   |_=>simp[Tm.ownP,Tm.lvOf,Tm.sortP]
   have HU:=Ld hu0;clear hu0 hl0;cases u with
  |sort l =>
    rw[hns l rfl] at c5;have h60:l.length<=60:=(zU hok).1;have g1:=Ld fun W=>fP.out ⟨l.toArray⟩ W (by show l.length<=_;unfold maxLen;omega);rw[show (⟨l.toArray⟩:ByteArray).data.toList=l from rfl] at g1;have hp:=sG l;have HV:Hid (m1=([]:List (List UInt8)).foldl (fun m l=>max m (zC l)) (max m0 (zC l))):=HU;replace c0:wr.cell? ⟨g,k*7,none⟩=some (.int .u8 115):=c0;replace c6:wr.cell? ⟨g,k*7+6,none⟩=some (.slice al 0 cl):=c6;clear hns hnr hok HS HNR HIF HL HU hln;generalize zC l=p at g1 hp HV;by_cases hgt:m0<p
    ·have d1:decide ((m0:Int)<(p:Int))=true:=dT (by omega);have d1n:decide (m0<p)=true:=dT hgt;go_wp2_with fail;(with_reducible refine mo (g1.out _) ?_);rintro w2 rfl;go_wp2_with fail;(with_reducible refine mo (g1.out _) ?_);rintro w2 rfl;go_wp2;go_loopw [3,6] (fun z i wi=>i=.int .i64 0/\z=.int .i64 (p:Int)/\wi=w2) (fun _ _ _=>0)
     case atStart=>exact⟨rfl,rfl,rfl⟩
     case round =>
      obtain⟨rfl,rfl,rfl⟩:=hrel;go_wp2;go_roundw
      case rel=>exact⟨k+1,by omega,by go_num,by rw[HE.out,HV.out];show _=Value.int .i64 ((max m0 p:Nat):Int);rw[show max m0 p=p by omega],trivial⟩
      case measure=>simp[intOf];omega
    ·have d1:decide ((m0:Int)<(p:Int))=false:=dF (by omega);have d1n:decide (m0<p)=false:=dF hgt;go_wp2_with fail;(with_reducible refine mo (g1.out _) ?_);rintro w2 rfl;go_wp2;go_loopw [3,6] (fun z i wi=>i=.int .i64 0/\z=.int .i64 (m0:Int)/\wi=w2) (fun _ _ _=>0)
     case atStart=>exact⟨rfl,rfl,rfl⟩
     case round =>
      obtain⟨rfl,rfl,rfl⟩:=hrel;go_wp2;go_roundw
      case rel=>exact⟨k+1,by omega,by go_num,by rw[HE.out,HV.out];show _=Value.int .i64 ((max m0 p:Nat):Int);rw[show max m0 p=m0 by omega],trivial⟩
      case measure=>simp[intOf];omega
  |const nm ls =>
    have HV:Hid (m1=ls.foldl (fun m l=>max m (zC l)) m0):=Ld (by have:=HU.out;rw[show max m0 (Tm.const nm ls).sortP=m0 by simp[Tm.sortP]] at this;exact this);have HL:Hid (∀ x∈ls,x.length<=60):=HL;have HIF:Hid (∀ (j MS:Nat),MS<=256->(ls.take j).foldl (fun m l=>max m (zC l)) MS<=256):=HIF;have HNR:Hid (wr.ownsRow w.heap.size 9 1 (.slice al ls.length cl) ls.length (ls.map sv)):=HNR;have hln:ls.length<=100000:=hln;replace c0:wr.cell? ⟨g,k*7,none⟩=some (.int .u8 99):=c0;replace c6:wr.cell? ⟨g,k*7+6,none⟩=some (.slice al ls.length cl):=c6;clear hns hnr hok HS HU
    rename World=>wo
    go_wp2;go_loopw [3,6] (fun z i wi=>∃ j:Nat,j<=ls.length/\i=.int .i64 j/\z=.int .i64 (((ls.take j).foldl (fun m l=>max m (zC l)) m0:Nat):Int)/\wi=wo) (fun _ i _=>ls.length - (intOf i).toNat)
    case atStart=>exact⟨0,Nat.zero_le _,rfl,rfl,rfl⟩
    case round =>
     obtain⟨j,hj,rfl,rfl,rfl⟩:=hrel;by_cases hjl:j<ls.length
     ·obtain⟨g2,cap2,e2,_,hgl2⟩:=HNR.out.form (by omega);cases e2;have ex:(ls.map sv)[j]?=some (sv ls[j]):=(by simp[hjl]);have cj:=(HNR.out.cellAt j (by omega)).trans ex;unfold sv at cj;have q3:=zn j;have q4:(j:Int)<(ls.length:Int):=(by omega);have h60:ls[j].length<=60:=HL.out _ (List.getElem_mem hjl);have hp:=sG ls[j];have HS3:=Ld (yF0 (ls:=ls) (k:=j) (m:=m0) hjl);have b0:=HIF.out j m0 hm;have b1:=HIF.out (j+1) m0 hm;have g1:=Ld fun W=>fP.out ⟨ls[j].toArray⟩ W (by show ls[j].length<=_;unfold maxLen;omega);rw[show (⟨ls[j].toArray⟩:ByteArray).data.toList=ls[j] from rfl] at g1;generalize ls[j]=l at cj h60 hp HS3 g1;generalize zC l=p at hp HS3 g1;generalize hx1:(ls.take (j+1)).foldl (fun m l=>max m (zC l)) m0=x1 at HS3 b1;have HX:=Ld hx1;generalize (ls.take j).foldl (fun m l=>max m (zC l)) m0=x0 at HS3 b0 |-;clear hx1 ex;by_cases hgt:x0<p
      ·have d1:decide ((x0:Int)<(p:Int))=true:=dT (by omega);have d1n:decide (x0<p)=true:=dT hgt;go_wp2_with fail;(with_reducible refine mo (g1.out _) ?_);rintro w2 rfl;go_wp2_with fail;(with_reducible refine mo (g1.out _) ?_);rintro w2 rfl;go_wp2;go_roundw
       case rel=>exact⟨j+1,by omega,by go_num,by rw[HX.out,HS3.out,show max x0 p=p by omega],trivial⟩
       case measure=>simp[intOf];omega
      ·have d1:decide ((x0:Int)<(p:Int))=false:=dF (by omega);have d1n:decide (x0<p)=false:=dF hgt;go_wp2_with fail;(with_reducible refine mo (g1.out _) ?_);rintro w2 rfl;go_wp2;go_roundw
       case rel=>exact⟨j+1,by omega,by go_num,by rw[HX.out,HS3.out,show max x0 p=x0 by omega],trivial⟩
       case measure=>simp[intOf];omega
     ·obtain rfl:j=ls.length:=(by omega);rw[List.take_length];have d2:decide ((ls.length:Int)<(ls.length:Int))=false:=dF (by omega);have b0:=HIF.out ls.length m0 hm;rw[List.take_length] at b0;generalize ls.foldl (fun m l=>max m (zC l)) m0=x0 at HV b0 |-;go_wp2;go_roundw
      case rel=>exact⟨k+1,by omega,by go_num,by rw[HE.out,HV.out],trivial⟩
      case measure=>simp[intOf];omega
  |var _ =>
    have HV:Hid (m1=m0):=Ld (by have:=HU.out;simpa [Tm.sortP,Tm.lvOf] using this);replace c0:wr.cell? ⟨g,k*7,none⟩=some (.int .u8 118):=c0;replace c6:wr.cell? ⟨g,k*7+6,none⟩=some (.slice al 0 cl):=c6;clear hns hnr hok HS HNR HIF HL HU hln
    rename World=>wo
    go_wp2;go_loopw [3,6] (fun z i wi=>i=.int .i64 0/\z=.int .i64 (m0:Int)/\wi=wo) (fun _ _ _=>0)
    case atStart=>exact⟨rfl,rfl,rfl⟩
    case round =>
     obtain⟨rfl,rfl,rfl⟩:=hrel;go_wp2;go_roundw
     case rel=>exact⟨k+1,by omega,by go_num,by rw[HE.out,HV.out],trivial⟩
     case measure=>simp[intOf];omega
  |app _ _ =>
    have HV:Hid (m1=m0):=Ld (by have:=HU.out;simpa [Tm.sortP,Tm.lvOf] using this);replace c0:wr.cell? ⟨g,k*7,none⟩=some (.int .u8 64):=c0;replace c6:wr.cell? ⟨g,k*7+6,none⟩=some (.slice al 0 cl):=c6;clear hns hnr hok HS HNR HIF HL HU hln
    rename World=>wo
    go_wp2;go_loopw [3,6] (fun z i wi=>i=.int .i64 0/\z=.int .i64 (m0:Int)/\wi=wo) (fun _ _ _=>0)
    case atStart=>exact⟨rfl,rfl,rfl⟩
    case round =>
     obtain⟨rfl,rfl,rfl⟩:=hrel;go_wp2;go_roundw
     case rel=>exact⟨k+1,by omega,by go_num,by rw[HE.out,HV.out],trivial⟩
     case measure=>simp[intOf];omega
  |lam _ _ =>
    have HV:Hid (m1=m0):=Ld (by have:=HU.out;simpa [Tm.sortP,Tm.lvOf] using this);replace c0:wr.cell? ⟨g,k*7,none⟩=some (.int .u8 108):=c0;replace c6:wr.cell? ⟨g,k*7+6,none⟩=some (.slice al 0 cl):=c6;clear hns hnr hok HS HNR HIF HL HU hln
    rename World=>wo
    go_wp2;go_loopw [3,6] (fun z i wi=>i=.int .i64 0/\z=.int .i64 (m0:Int)/\wi=wo) (fun _ _ _=>0)
    case atStart=>exact⟨rfl,rfl,rfl⟩
    case round =>
     obtain⟨rfl,rfl,rfl⟩:=hrel;go_wp2;go_roundw
     case rel=>exact⟨k+1,by omega,by go_num,by rw[HE.out,HV.out],trivial⟩
     case measure=>simp[intOf];omega
  |pi _ _ =>
    have HV:Hid (m1=m0):=Ld (by have:=HU.out;simpa [Tm.sortP,Tm.lvOf] using this);replace c0:wr.cell? ⟨g,k*7,none⟩=some (.int .u8 112):=c0;replace c6:wr.cell? ⟨g,k*7+6,none⟩=some (.slice al 0 cl):=c6;clear hns hnr hok HS HNR HIF HL HU hln
    rename World=>wo
    go_wp2;go_loopw [3,6] (fun z i wi=>i=.int .i64 0/\z=.int .i64 (m0:Int)/\wi=wo) (fun _ _ _=>0)
    case atStart=>exact⟨rfl,rfl,rfl⟩
    case round =>
     obtain⟨rfl,rfl,rfl⟩:=hrel;go_wp2;go_roundw
     case rel=>exact⟨k+1,by omega,by go_num,by rw[HE.out,HV.out],trivial⟩
     case measure=>simp[intOf];omega
  |lett _ _ _ =>
    have HV:Hid (m1=m0):=Ld (by have:=HU.out;simpa [Tm.sortP,Tm.lvOf] using this);replace c0:wr.cell? ⟨g,k*7,none⟩=some (.int .u8 116):=c0;replace c6:wr.cell? ⟨g,k*7+6,none⟩=some (.slice al 0 cl):=c6;clear hns hnr hok HS HNR HIF HL HU hln
    rename World=>wo
    go_wp2;go_loopw [3,6] (fun z i wi=>i=.int .i64 0/\z=.int .i64 (m0:Int)/\wi=wo) (fun _ _ _=>0)
    case atStart=>exact⟨rfl,rfl,rfl⟩
    case round =>
     obtain⟨rfl,rfl,rfl⟩:=hrel;go_wp2;go_roundw
     case rel=>exact⟨k+1,by omega,by go_num,by rw[HE.out,HV.out],trivial⟩
     case measure=>simp[intOf];omega
  ·obtain rfl:k=ns.length:=(by omega);have hE:P.take ns.length=P:=(by rw[← hPl];exact List.take_length);rw[hE];have hm:=HF.out ns.length;rw[hE] at hm;have d1:decide ((ns.length:Int)<(ns.length:Int))=false:=dF (by omega);clear hE;generalize P.foldl (fun m u=>max m u.ownP) 0=m0 at HPR hm |-;go_wp2;go_ret;exact⟨by rw[HPR.out];rfl,HB.out⟩
def cM (w:World) (v:Value) (l:List UInt8):Prop :=
 ∃ a0 cap b off,v=.slice a0 l.length cap/\(0<l.length->a0=some ⟨b,off,none⟩/\b<w.heap.size)/\∀ j (h:j<l.length),w.cell? ⟨b,off+j,none⟩=some (.int .u8 (l[j].toNat:Int))
def Cur (w0:World) (v:Value) (l:List UInt8) (cb:Nat) (w:World):Prop :=
 Below w0.heap.size w0 w/\w0.heap.size<=cb/\cb<w.heap.size/\∃ (i:Nat) (h:Int),i<=l.length/\w.cell? ⟨cb,0,none⟩=some v/\w.cell? ⟨cb,1,none⟩=some (.int .i64 i)/\w.cell? ⟨cb,2,none⟩=some (.int .i64 h)/\w.frozen? ⟨cb,1,none⟩=false/\w.frozen? ⟨cb,2,none⟩=false
theorem yE6(n:Int):bits .and .i64 n 255=n % 256:=by
 have h255:(BitVec.ofInt 64 255).toNat=2 ^ 8 - 1:=by decide
 have key:(BitVec.ofInt 64 n &&& BitVec.ofInt 64 255).toNat=(n % ((2 ^ 64:Nat):Int)).toNat % 2 ^ 8:=by
  rw[BitVec.toNat_and,BitVec.toNat_ofInt,h255,Nat.and_two_pow_sub_one_eq_mod]
 show IntKind.i64.wrap ((BitVec.ofInt 64 n &&& BitVec.ofInt 64 255).toNat:Nat)=n % 256;rw[key,IntKind.wrap_i64];omega
theorem xG1(n:Int):∃ x:Nat,x<=255/\bits .and .i64 n 255=(x:Int):=⟨(n % 256).toNat,by omega,by rw[yE6];omega⟩
theorem cM.below{w w':World}{v:Value}{l:List UInt8}(h:cM w v l)(hb:Below w.heap.size w w'):cM w' v l:=by
 obtain⟨a0,cap,b,off,h1,h2,h3⟩:=h;refine⟨a0,cap,b,off,h1,fun h0=>⟨(h2 h0).1,Nat.lt_of_lt_of_le (h2 h0).2 hb.size⟩,fun j hj=>?_⟩;rw[hb.cell (p:=⟨b,off+j,none⟩) (h2 (by omega)).2];exact h3 j hj
theorem zY5{w0 w:World}{v:Value}{l:List UInt8}{cb:Nat}(hl:cM w0 v l)(hc:Cur w0 v l cb w)(hn:l.length<=2000000) :
  Calls Tryz.prog 22 #[.pointer (some ⟨cb,0,none⟩)] w fun e w'=>(∃ x:Nat,x<=255/\e=.returned (.int .i64 x))/\Cur w0 v l cb w'/\w.grownBy w' (some cb):=by
 obtain⟨a0,cap,b,off,rfl,h2,h3⟩:=hl;obtain⟨hbel,hcb,hcw,i,hh,hi,c0,c1,c2,z1,z2⟩:=hc;go_enter Tryz.func22,Tryz.ntmps22;go_wp2;generalize wrap64 (wrap64 (hh*6364136223846793005)+1442695040888963407)=h1;have k0:(w.setCell ⟨cb,2,none⟩ (.int .i64 h1)).cell? ⟨cb,0,none⟩=some (.slice a0 l.length cap):=(World.cell?_setCell_other _ _ _ _ (by simp)).trans c0;have k1:(w.setCell ⟨cb,2,none⟩ (.int .i64 h1)).cell? ⟨cb,1,none⟩=some (.int .i64 i):=(World.cell?_setCell_other _ _ _ _ (by simp)).trans c1;have k2:(w.setCell ⟨cb,2,none⟩ (.int .i64 h1)).cell? ⟨cb,2,none⟩=some (.int .i64 h1):=World.cell?_setCell_same _ _ _ c2;have y1:(w.setCell ⟨cb,2,none⟩ (.int .i64 h1)).frozen? ⟨cb,1,none⟩=false:=by simpa using z1
 have y2:(w.setCell ⟨cb,2,none⟩ (.int .i64 h1)).frozen? ⟨cb,2,none⟩=false:=by simpa using z2
 have B1:=hbel.setCell (p:=⟨cb,2,none⟩) hcb (.int .i64 h1);have G1:w.grownBy (w.setCell ⟨cb,2,none⟩ (.int .i64 h1)) (some cb):=⟨rfl,rfl,rfl,by simp[World.setCell],fun k hk hne=>Below.heap_setCell _ _ _ _ (fun e=>hne (by rw[e]))⟩;have hcw1:cb<(w.setCell ⟨cb,2,none⟩ (.int .i64 h1)).heap.size:=by simpa [World.setCell] using hcw
 generalize w.setCell ⟨cb,2,none⟩ (.int .i64 h1)=w1 at k0 k1 k2 y1 y2 B1 G1 hcw1;clear c0 c1 c2 z1 z2;go_quiet (fail);obtain⟨x0,hx0,ex0⟩:=xG1 (bits BinOp.xor IntKind.i64 (h1 / 8589934592) (h1 / 35184372088832));rw[ex0];have B2:=zG B1 nq;have G2:w.grownBy (w1.drewN nq) (some cb):=⟨G1.os,G1.tape,G1.output,G1.size,G1.block⟩;have k0':(w1.drewN nq).cell? ⟨cb,0,none⟩=some (.slice a0 l.length cap):=k0;have k1':(w1.drewN nq).cell? ⟨cb,1,none⟩=some (.int .i64 i):=k1;have k2':(w1.drewN nq).cell? ⟨cb,2,none⟩=some (.int .i64 h1):=k2;have y1':(w1.drewN nq).frozen? ⟨cb,1,none⟩=false:=y1;have y2':(w1.drewN nq).frozen? ⟨cb,2,none⟩=false:=y2;have hcw2:cb<(w1.drewN nq).heap.size:=hcw1;generalize w1.drewN nq=w2 at k0' k1' k2' y1' y2' B2 G2 hcw2;clear k0 k1 k2 y1 y2 B1 G1 hcw1 ex0;by_cases hlt:i<l.length
 ·have d1:decide ((i:Int)<(l.length:Int))=true:=dT (by omega);obtain⟨rfl,hb⟩:=h2 (by omega);have cc:=(B2.cell (p:=⟨b,off+i,none⟩) hb).trans (h3 i hlt);have hby:=l[i].toNat_lt;generalize l[i].toNat=u at cc hby
  have q1:=zn i;have q2:(i:Int)<(l.length:Int):=(by omega);have e1:IntKind.i64.wrap ((u:Int))=(u:Int):=IntWalk.i64_in _ (by omega);have e2:IntKind.i64.wrap ((x0:Int)+(u:Int))=(x0:Int)+(u:Int):=IntWalk.i64_in _ (by omega);obtain⟨x1,hx1,ex1⟩:=xG1 ((x0:Int)+(u:Int));clear h2 h3;go_wp2;go_quiet (fail);have B3:=zG B2 nq;have G3:w.grownBy (w2.drewN nq) (some cb):=⟨G2.os,G2.tape,G2.output,G2.size,G2.block⟩;have m0:(w2.drewN nq).cell? ⟨cb,0,none⟩=some (.slice (some ⟨b,off,none⟩) l.length cap):=k0';have m1:(w2.drewN nq).cell? ⟨cb,1,none⟩=some (.int .i64 i):=k1';have m2:(w2.drewN nq).cell? ⟨cb,2,none⟩=some (.int .i64 h1):=k2';have s1:(w2.drewN nq).frozen? ⟨cb,1,none⟩=false:=y1';have s2:(w2.drewN nq).frozen? ⟨cb,2,none⟩=false:=y2';have hcw3:cb<(w2.drewN nq).heap.size:=hcw2;have cd:(w2.drewN nq).cell? ⟨b,off+i,none⟩=some (.int .u8 (u:Int)):=cc;generalize w2.drewN nq=w3 at m0 m1 m2 s1 s2 B3 G3 hcw3 cd;clear k0' k1' k2' y1' y2' B2 G2 hcw2 cc;have k0':=m0;have k1':=m1;have k2':=m2;have y1':=s1;have y2':=s2;have cc:=cd;clear m0 m1 m2 s1 s2 cd;go_wp2;go_quiet (fail);have B4:=zG B3 nq;have G4:w.grownBy (w3.drewN nq) (some cb):=⟨G3.os,G3.tape,G3.output,G3.size,G3.block⟩;have m0:(w3.drewN nq).cell? ⟨cb,0,none⟩=some (.slice (some ⟨b,off,none⟩) l.length cap):=k0';have m1:(w3.drewN nq).cell? ⟨cb,1,none⟩=some (.int .i64 i):=k1';have m2:(w3.drewN nq).cell? ⟨cb,2,none⟩=some (.int .i64 h1):=k2';have s1:(w3.drewN nq).frozen? ⟨cb,1,none⟩=false:=y1';have s2:(w3.drewN nq).frozen? ⟨cb,2,none⟩=false:=y2'
  have hcw4:cb<(w3.drewN nq).heap.size:=hcw3;have cd:(w3.drewN nq).cell? ⟨b,off+i,none⟩=some (.int .u8 (u:Int)):=cc;generalize w3.drewN nq=w4 at m0 m1 m2 s1 s2 B4 G4 hcw4 cd;clear k0' k1' k2' y1' y2' B3 G3 hcw3 cc;have k0':=m0;have k1':=m1;have k2':=m2;have y1':=s1;have y2':=s2;have cc:=cd;clear m0 m1 m2 s1 s2 cd;have K0:=Ld ((World.cell?_setCell_other w4 ⟨cb,1,none⟩ ⟨cb,0,none⟩ (.int .i64 ((i:Int)+1)) (by simp)).trans k0');have K1:=Ld (World.cell?_setCell_same w4 ⟨cb,1,none⟩ (.int .i64 ((i:Int)+1)) k1');have K2:=Ld ((World.cell?_setCell_other w4 ⟨cb,1,none⟩ ⟨cb,2,none⟩ (.int .i64 ((i:Int)+1)) (by simp)).trans k2');have BB:=Ld (B4.setCell (p:=⟨cb,1,none⟩) hcb (.int .i64 ((i:Int)+1)));have GG:Hid (w.grownBy (w4.setCell ⟨cb,1,none⟩ (.int .i64 ((i:Int)+1))) (some cb)):=⟨G4.os,G4.tape,G4.output,by simpa [World.setCell] using G4.size,fun k hk hne=>(Below.heap_setCell _ _ _ _ (fun e=>hne (by rw[e]))).trans (G4.block k hk hne)⟩;go_wp2;go_ret;refine⟨⟨x1,hx1,rfl⟩,⟨BB.out,hcb,by simpa [World.setCell] using hcw4,i+1,h1,by omega,K0.out,?_,K2.out,by simpa using y1',by simpa using y2'⟩,GG.out⟩;rw[K1.out];simp
 ·have d1:decide ((i:Int)<(l.length:Int))=false:=dF (by omega);clear h2 h3;go_wp2;go_quiet (fail);go_wp2;go_ret;exact⟨⟨x0,hx0,rfl⟩,⟨zG B2 _,hcb,hcw2,i,h1,hi,k0',k1',k2',y1',y2'⟩,⟨G2.os,G2.tape,G2.output,G2.size,G2.block⟩⟩
theorem bigB{w:World}{v:Value}{l:List UInt8}(hl:cM w v l)(hm:l.length<=maxLen) :
  Calls Tryz.prog 4 #[v] w fun e w'=>e=.returned (.bool (decide (1048576<l.length)))/\w'=w:=by
 obtain⟨a0,cap,_,_,rfl,_⟩:=hl;unfold maxLen at hm;by_cases h:1048576<l.length
 ·have d1:decide ((1048576:Int)<(l.length:Int))=true:=dT (by omega);have HE:Hid (decide (1048576<l.length)=true):=dT h;go_enter Tryz.func4,Tryz.ntmps4;go_wp2;go_ret;rw[HE.out];exact⟨rfl,rfl⟩
 ·have d1:decide ((1048576:Int)<(l.length:Int))=false:=dF (by omega);have HE:Hid (decide (1048576<l.length)=false):=dF h;go_enter Tryz.func4,Tryz.ntmps4;go_wp2;go_ret;rw[HE.out];exact⟨rfl,rfl⟩
end Go.Proofs.YtgppcegcpiaocaaGreatDoor
