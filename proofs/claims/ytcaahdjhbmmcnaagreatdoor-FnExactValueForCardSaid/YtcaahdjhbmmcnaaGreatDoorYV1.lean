/- VEndM VEnd VPar VPutM FParamsS -/
import Derived.Lib.AppendStr
import Derived.Test.YtcaahdjhbmmcnaaGreatDoorYA1
import Derived.Test.YtcaahdjhbmmcnaaGreatDoorYF1
set_option maxRecDepth 100000
set_option maxHeartbeats 16000000
set_option linter.unusedSimpArgs false
set_option linter.unusedVariables false
namespace Go.Proofs.YtcaahdjhbmmcnaaGreatDoor
open Go.ChangeShapes Go.WideShapes Go.ChangeAt Go.RowKit
theorem endV_ok {l:List UInt8} (h:l.length<=60):((endV (runE l 1 0)) == (l.length:Int))=levelOk l:=by
 rw [levelOk,dT h,Bool.true_and,runE,List.drop_zero];cases hr:lend 1 l with
 | none=>simp [endV]
 | some k =>
  have e:((k:Int) == (l.length:Int))=decide (some k=some l.length):=by
   by_cases hk:k=l.length
   ·simp [hk]
   ·have h2:¬ ((k:Int)=(l.length:Int)):=(by omega);simp [hk,h2]
  simpa [endV] using e
theorem specLevelOk (s:ByteArray) (w:World) (hs:s.size<=maxLen) :
  Calls Tryz.prog 91 #[.string s] w fun e w'=>e=.returned (.bool (levelOk s.data.toList))/\w'=w:=by
 have hls:s.data.toList.length=s.size:=rfl;unfold maxLen at hs;by_cases h1:s.size<=60
 ·have d1:decide ((s.size:Int)<=60)=true:=dT (by omega);have f1:Hid (∀ W,Calls Tryz.prog 140 #[.string s,.int .i64 0] W fun e w'=>e=.returned (.int .i64 (endV (runE s.data.toList 1 0)))/\w'=W):=fun W=>specL04End s 0 W (by omega) (by omega);have HE:=Ld (endV_ok (l:=s.data.toList) (by omega));rw [hls] at HE;clear hls;generalize endV (runE s.data.toList 1 0)=r at f1 HE;go_enter Tryz.func91,Tryz.ntmps91;go_wp2_with fail;(with_reducible refine mo (f1.out _) ?_);rintro w1 rfl;go_wp2;go_ret;rw [← HE.out];exact ⟨rfl,rfl⟩
 ·have d1:decide ((s.size:Int)<=60)=false:=dF (by omega);have HE:Hid (levelOk s.data.toList=false):=(by rw [Hid,levelOk,hls,dF h1];rfl);clear hls;go_enter Tryz.func91,Tryz.ntmps91;go_wp2;go_ret;rw [HE.out];exact ⟨rfl,rfl⟩
theorem parF_step {l:List UInt8} {n p:Nat} (hp:p < l.length) (h:l[p]≠117):parF n (l.drop p)=parF n (l.drop (p+1)):=by
 rw [List.drop_eq_getElem_cons hp,parF,iN (fun hc=>h hc.1)]
theorem parF_more {l:List UInt8} {n p:Nat} (hp:p+1 < l.length) (h:l[p]=117) (hn:n < l[p+1].toNat - 47):parF n (l.drop p)=parF (l[p+1].toNat - 47) (l.drop (p+1)):=by
 rw [List.drop_eq_getElem_cons (show p < l.length by omega),parF];have e:(l.drop (p+1)).headD 0=l[p+1]:=by rw [List.drop_eq_getElem_cons hp];rfl
 rw [e,iP ⟨h,hn⟩]
theorem parF_less {l:List UInt8} {n p:Nat} (hp:p+1 < l.length) (hn:¬ n < l[p+1].toNat - 47):parF n (l.drop p)=parF n (l.drop (p+1)):=by
 rw [List.drop_eq_getElem_cons (show p < l.length by omega),parF];have e:(l.drop (p+1)).headD 0=l[p+1]:=by rw [List.drop_eq_getElem_cons hp];rfl
 rw [e,iN (fun h=>hn h.2)]
theorem specLevelParams (s:ByteArray) (w:World) (hs:s.size<=maxLen) :
  Calls Tryz.prog 92 #[.string s] w fun e w'=>e=.returned (.int .i64 (levelParams s.data.toList:Int))/\w'=w:=by
 have f1:=Ld fun W=>specLevelOk s W hs;have hls:s.data.toList.length=s.size:=rfl;unfold maxLen at hs;rcases Nat.eq_zero_or_pos s.size with h0 | hpos
 ·have HE:Hid (levelParams s.data.toList=0):=by
   have:s.data.toList=[]:=List.length_eq_zero_iff.1 (by omega);rw [Hid,this];simp [levelParams,parF]
  have d1:decide ((0:Int) < (s.size:Int))=false:=dF (by omega);clear hls f1;go_enter Tryz.func92,Tryz.ntmps92;go_wp2;refine wp_loop_rounds 1 ?_;rw [rounds_succ];go_wp2;go_ret;rw [HE.out];exact ⟨rfl,rfl⟩
 by_cases hok:levelOk s.data.toList=true
 ·rw [hok] at f1;have HP:=Ld (lend_par_at s.data.toList 1 (levelOk_len hok).2);have h60:=(levelOk_len hok).1;rw [hls] at h60;have HE:Hid (levelParams s.data.toList=parF 0 s.data.toList):=iP hok;rw [HE.out];clear hok HE hls;go_enter Tryz.func92,Tryz.ntmps92;go_wp2;go_loopw [3,4] (fun nn i wr=>∃ n p:Nat,p<=s.size/\n<=208/\nn=.int .i64 n/\i=.int .i64 p/\wr=w/\Hid (parF n (s.data.toList.drop p)=parF 0 s.data.toList)) (fun _ i _=>s.size - (intOf i).toNat)
  case atStart=>exact ⟨0,0,Nat.zero_le _,Nat.zero_le _,rfl,rfl,rfl,rfl⟩
  case round =>
   obtain ⟨n,p,hp,hn,rfl,rfl,rfl,HR⟩:=hrel;by_cases hlt:p < s.size
   ·have hll:p < s.data.toList.length:=hlt;have q1:=zn p;have q2:(p:Int) < (s.size:Int):=(by omega);by_cases c1:s[p]=117
    ·have e1:((s[p].toNat:Int) == 117)=true:=is_byte c1;obtain ⟨hj,b1,b2⟩:=HP.out p hll c1;have hj':p+1 < s.size:=hj;have b1':48<=s[p+1].toNat:=b1;have b2':s[p+1].toNat<=50:=b2;have q3:(0:Int)<=(p:Int)+1:=(by omega);have q4:(p:Int)+1 < (s.size:Int):=(by omega);by_cases hm:n < s[p+1].toNat - 47
     ·have d2:decide ((n:Int) < (s[p+1].toNat:Int) - 47)=true:=dT (by omega);have HR2:=Ld ((parF_more hj c1 hm).symm.trans HR.out);clear HR c1;go_wp2_with fail;(with_reducible refine mo (f1.out _) ?_);rintro w1 rfl;go_wp2;go_roundw
      case rel=>exact ⟨s[p+1].toNat - 47,p+1,by omega,by omega,by simp<;>omega,by go_num,trivial,HR2.out⟩
      case measure=>simp [intOf];omega
     ·have d2:decide ((n:Int) < (s[p+1].toNat:Int) - 47)=false:=dF (by omega);have HR2:=Ld ((parF_less hj hm).symm.trans HR.out);clear HR c1;go_wp2_with fail;(with_reducible refine mo (f1.out _) ?_);rintro w1 rfl;go_wp2;go_roundw
      case rel=>exact ⟨n,p+1,by omega,by omega,rfl,by go_num,trivial,HR2.out⟩
      case measure=>simp [intOf];omega
    ·have e1:((s[p].toNat:Int) == 117)=false:=ne_byte c1;have HR2:=Ld ((parF_step hll c1).symm.trans HR.out);clear HR c1;go_wp2_with fail;(with_reducible refine mo (f1.out _) ?_);rintro w1 rfl;go_wp2;go_roundw
     case rel=>exact ⟨n,p+1,by omega,by omega,rfl,by go_num,trivial,HR2.out⟩
     case measure=>simp [intOf];omega
   ·have hpe:p=s.size:=(by omega);have HE:Hid (parF 0 s.data.toList=n):=by
     rw [Hid,← HR.out,List.drop_eq_nil_of_le (by show s.size<=p;omega)];rfl
    have d1:decide ((p:Int) < (s.size:Int))=false:=dF (by omega);clear HR HP;go_wp2;go_ret;rw [HE.out];exact ⟨rfl,rfl⟩
 ·rw [Bool.not_eq_true] at hok;rw [hok] at f1;have HE:Hid (levelParams s.data.toList=0):=iN (by rw [hok];decide);have d1:decide ((0:Int) < (s.size:Int))=true:=dT (by omega);clear hls hok;go_enter Tryz.func92,Tryz.ntmps92;go_wp2;refine wp_loop_rounds 1 ?_;rw [rounds_succ];go_wp2_with fail;(with_reducible refine mo (f1.out _) ?_);rintro w1 rfl;go_wp2;go_ret;rw [HE.out];exact ⟨rfl,rfl⟩
def putRes:Option (List UInt8)->Value
 | some t=>.tuple #[.string ⟨t.toArray⟩,.bool true]
 | none=>.tuple #[.string ⟨#[]⟩,.bool false]
theorem putF_nil (args:List (List UInt8)):putF args []=[]:=by rw [putF]
theorem putF_step (args:List (List UInt8)) {c:UInt8} (h:c≠117) (r:List UInt8):putF args (c :: r)=c :: putF args r:=by
 cases r with
 | nil=>rw [putF_nil,putF]
 | cons d r=>rw [putF,iN h]
theorem putF_par (args:List (List UInt8)) (d:UInt8) (r:List UInt8):putF args (117 :: d :: r)=args.getD (d.toNat - 48) [] ++ putF args r:=by
 rw [putF,iP rfl]
theorem putF_at {args:List (List UInt8)} {l:List UInt8} {p:Nat} (hp:p < l.length) (h:l[p]≠117):putF args (l.drop p)=l[p] :: putF args (l.drop (p+1)):=by
 rw [List.drop_eq_getElem_cons hp,putF_step args h]
theorem putF_atPar {args:List (List UInt8)} {l:List UInt8} {p:Nat} (hp:p+1 < l.length) (h:l[p]=117):putF args (l.drop p)=args.getD (l[p+1].toNat - 48) [] ++ putF args (l.drop (p+2)):=by
 rw [List.drop_eq_getElem_cons (show p < l.length by omega),h,List.drop_eq_getElem_cons hp,putF_par]
theorem parF_mono:∀ (l:List UInt8) (n:Nat),n<=parF n l
 | [],n=>nR _
 | c :: r,n=>by
  rw [parF];split
  ·rename_i h;exact Nat.le_trans (Nat.le_of_lt h.2) (parF_mono r _)
  ·exact parF_mono r n
theorem parF_ge:∀ (l:List UInt8) (n i:Nat) (hi:i+1 < l.length),l[i]=117->l[i+1].toNat - 47<=parF n l
 | c :: d :: r,n,0,_,h=>by
  rw [parF];have hc:c=117:=h;show d.toNat - 47<=_;split
  ·exact parF_mono _ _
  ·rename_i h2;have:¬ n < d.toNat - 47:=fun h3=>h2 ⟨hc,h3⟩;exact Nat.le_trans (by omega) (parF_mono _ n)
 | c :: r,n,i+1,hi,h=>by
  rw [parF];exact parF_ge r _ i (by simpa using hi) (by simpa using h)
theorem own_sliceV {w:World} {b n:Nat} {v:Value} {xs:List Value} (h:w.ownsRow b 9 1 v n xs):∃ a cap,v=.slice a n cap:=by
 rcases h.2 with ⟨rfl,rfl⟩ | ⟨g,cap,cur,rfl,_⟩
 ·exact ⟨_,_,rfl⟩
 ·exact ⟨_,_,rfl⟩
theorem info8:(Tryz.prog.info? 5).map (fun i=>(i.zero,i.size,i.bytes))=some (some (.int .u8 0),1,1):=by kernel_rfl
theorem strCells_bv (t:List UInt8):Lib.strCells ⟨t.toArray⟩=t.map bv:=rfl
noncomputable def paramsIn (l:List UInt8):Nat:=match termOf l with
 | some T=>T.params
 | none=>0
def Tm.sortP:Tm->Nat
 | .sort l=>levelParams l
 | _=>0
theorem Tm.post_ok:∀ (T:Tm),T.Ok->∀ u∈T.post,u.Ok
 | .var n,h,u,hu=>by simp [Tm.post] at hu;subst hu;exact h
 | .sort l,h,u,hu=>by simp [Tm.post] at hu;subst hu;exact h
 | .const n ls,h,u,hu=>by simp [Tm.post] at hu;subst hu;exact h
 | .app f a,h,u,hu=>by
  simp only [Tm.post,List.mem_append,List.mem_singleton] at hu;rcases hu with hu | hu | rfl
  ·exact post_ok f h.1 u hu
  ·exact post_ok a h.2 u hu
  ·exact h
 | .lam f a,h,u,hu=>by
  simp only [Tm.post,List.mem_append,List.mem_singleton] at hu;rcases hu with hu | hu | rfl
  ·exact post_ok f h.1 u hu
  ·exact post_ok a h.2 u hu
  ·exact h
 | .pi f a,h,u,hu=>by
  simp only [Tm.post,List.mem_append,List.mem_singleton] at hu;rcases hu with hu | hu | rfl
  ·exact post_ok f h.1 u hu
  ·exact post_ok a h.2 u hu
  ·exact h
 | .lett f a b,h,u,hu=>by
  simp only [Tm.post,List.mem_append,List.mem_singleton] at hu;rcases hu with hu | hu | hu | rfl
  ·exact post_ok f h.1 u hu
  ·exact post_ok a h.2.1 u hu
  ·exact post_ok b h.2.2 u hu
  ·exact h
theorem levelParams_le (l:List UInt8):levelParams l<=256:=by
 unfold levelParams;split
 ·have:∀ (l:List UInt8) (n:Nat),n<=256->parF n l<=256:=by
   intro l
   induction l with
   | nil=>intro n h;exact h
   | cons c r ih =>
    intro n h;rw [parF];refine ih _ ?_;have:(r.headD 0).toNat < 256:=UInt8.toNat_lt _;split<;>omega
  exact this l 0 (by omega)
 ·omega
theorem fold_le (ls:List (List UInt8)):∀ n,n<=256->ls.foldl (fun m l=>max m (levelParams l)) n<=256:=by
 induction ls with
 | nil=>intro n h;exact h
 | cons x r ih=>intro n h;exact ih _ (by have:=levelParams_le x;show max n (levelParams x)<=256;omega)
theorem ownP_le (u:Tm):u.ownP<=256:=by
 cases u with
 | sort l=>exact levelParams_le l
 | const n ls=>exact fold_le ls 0 (by omega)
 | _=>exact Nat.zero_le _
theorem foldO_le (us:List Tm):∀ n,n<=256->us.foldl (fun m u=>max m u.ownP) n<=256:=by
 induction us with
 | nil=>intro n h;exact h
 | cons x r ih=>intro n h;exact ih _ (by have:=ownP_le x;show max n x.ownP<=256;omega)
theorem foldO_succ {us:List Tm} {k:Nat} (hk:k < us.length):(us.take (k+1)).foldl (fun m u=>max m u.ownP) 0=max ((us.take k).foldl (fun m u=>max m u.ownP) 0) us[k].ownP:=by
 rw [List.take_succ_eq_append_getElem hk,List.foldl_append];rfl
theorem foldL_succ {ls:List (List UInt8)} {k m:Nat} (hk:k < ls.length):(ls.take (k+1)).foldl (fun m l=>max m (levelParams l)) m=max ((ls.take k).foldl (fun m l=>max m (levelParams l)) m) (levelParams ls[k]):=by
 rw [List.take_succ_eq_append_getElem hk,List.foldl_append];rfl
theorem specParamsIn (s:ByteArray) (w:World) (hs:s.size<=maxLen) :
  Rt 102 #[.string s] w (.int .i64 (paramsIn s.data.toList:Int)):=by
 have f1:=Ld (specL06AllP s w hs);have fP:=Ld specLevelParams;go_enter Tryz.func102,Tryz.ntmps102;go_wp2_with fail;(with_reducible refine f1.out.mono ?_);rintro e W ⟨v,ns,rfl,hrow,hb,hsl,hall⟩;obtain ⟨P,hPl,hPn,hPo,hPr⟩:∃ P:List Tm,P.length=ns.length/\(∀ (i:Nat) (u:Tm),P[i]?=some u->∃ nd,ns[i]?=some nd/\NodeIs W w.heap.size nd u)/\(∀ u∈P,u.Ok)/\paramsIn s.data.toList=P.foldl (fun m u=>max m u.ownP) 0/\ns.length<=100000:=by
  rcases hall with ⟨t,ht,hn,hr⟩ | ⟨hno,rfl⟩
  ·have hsz:=t.size_pos;have hszl:=t.size_le;have hle:=ht.2.2;rw [← ht.2.1] at hle;obtain ⟨_,h2⟩:=hr.at;refine ⟨t.post,by rw [t.post_len,hn],fun i u hu=>?_,t.post_ok ht.1,by rw [paramsIn,termOf_some ht];exact t.params_post,by omega⟩;obtain ⟨nd,p,q⟩:=h2 i u hu;exact ⟨nd,by rw [show i=ns.length - 1+1 - t.size+i by omega];exact p,q⟩
  ·exact ⟨[],rfl,fun i u h=>by simp at h,fun u h=>by simp at h,by rw [paramsIn,termOf_none hno];rfl,Nat.zero_le _⟩
 obtain ⟨hPr,hn2⟩:=hPr;have HPN:=Ld hPn;have HPO:=Ld hPo;have HPR:=Ld hPr;have HB:=Ld hb;have HSL:=Ld hsl;have HROW:=Ld hrow;have HF:=Ld fun k=>foldO_le (P.take k) 0 (by omega);obtain ⟨la,lc,rfl⟩:=own_sliceN hrow;clear hPn hPo hPr hb hsl hrow hall f1;go_wp2;go_loopw [3,5] (fun z i wr=>∃ k:Nat,k<=ns.length/\i=.int .i64 k/\z=.int .i64 (((P.take k).foldl (fun m u=>max m u.ownP) 0:Nat):Int)/\wr=W) (fun _ i _=>ns.length - (intOf i).toNat)
 case atStart=>exact ⟨0,Nat.zero_le _,rfl,rfl,rfl⟩
 case round =>
  obtain ⟨k,hk,rfl,rfl,rfl⟩:=hrel;by_cases hlt:k < ns.length
  ·obtain ⟨nd,hnd,hnk,hns,hnr⟩:=HPN.out k P[k] (by simp [show k < P.length by omega]);have hok:=HPO.out _ (List.getElem_mem (show k < P.length by omega));have HS:=Ld (foldO_succ (us:=P) (k:=k) (by omega));have hm:=HF.out k;have hm1:=HF.out (k+1);obtain ⟨g,cap,e0,_,hgl⟩:=HROW.out.form (by omega);cases e0;have c0:wr.cell? ⟨g,k*7,none⟩=some (.int .u8 (nd.kind.toNat:Int)):=node_at HROW.out hnd 0 (by decide);have c5:wr.cell? ⟨g,k*7+5,none⟩=some (.string ⟨nd.text.toArray⟩):=node_at HROW.out hnd 5 (by decide);have c6:wr.cell? ⟨g,k*7+6,none⟩=some nd.lv:=node_at HROW.out hnd 6 (by decide);have q1:=zn k;have q2:(k:Int) < (ns.length:Int):=(by omega);rw [hnk] at c0;generalize P[k]=u at HS hns hnr hok c0;generalize hE:(P.take (k+1)).foldl (fun m u=>max m u.ownP) 0=m1 at HS hm1;have HE:=Ld hE;clear hE;generalize (P.take k).foldl (fun m u=>max m u.ownP) 0=m0 at HS hm |-;obtain ⟨al,cl,hlv⟩:=own_sliceV hnr;rw [hlv] at c6 hnr;clear hnd hnk hlv;have hl0:∀ x∈u.lvOf,x.length<=60:=fun x hx=>by
    cases u with
    | const n ls=>exact (levelOk_len (hok.2.2 x hx)).1
    | _=>simp [Tm.lvOf] at hx
   have hln:u.lvOf.length<=100000:=by
    cases u with
    | const n ls=>have:=hok.2.1;show ls.length<=_;omega
    | _=>exact Nat.zero_le _
   have HL:=Ld hl0;have HIF:=Ld fun (j MS:Nat) (h:MS<=256)=>fold_le (u.lvOf.take j) MS h;have HNR:=Ld hnr;have hu0:m1=u.lvOf.foldl (fun m l=>max m (levelParams l)) (max m0 u.sortP):=by
    rw [HS.out];cases u with
    | const n ls=>simp only [Tm.ownP,Tm.lvOf,Tm.sortP];rw [foldl_max levelParams ls (max m0 0)];omega
    | _=>simp [Tm.ownP,Tm.lvOf,Tm.sortP]
   have HU:=Ld hu0;clear hu0 hl0;cases u with
   | sort l =>
    rw [hns l rfl] at c5;have h60:l.length<=60:=(levelOk_len hok).1;have g1:=Ld fun W=>fP.out ⟨l.toArray⟩ W (by show l.length<=_;unfold maxLen;omega);rw [show (⟨l.toArray⟩:ByteArray).data.toList=l from rfl] at g1;have hp:=levelParams_le l;have HV:Hid (m1=([]:List (List UInt8)).foldl (fun m l=>max m (levelParams l)) (max m0 (levelParams l))):=HU;replace c0:wr.cell? ⟨g,k*7,none⟩=some (.int .u8 115):=c0;replace c6:wr.cell? ⟨g,k*7+6,none⟩=some (.slice al 0 cl):=c6;clear hns hnr hok HS HNR HIF HL HU hln;generalize levelParams l=p at g1 hp HV;by_cases hgt:m0 < p
    ·have d1:decide ((m0:Int) < (p:Int))=true:=dT (by omega);have d1n:decide (m0 < p)=true:=dT hgt;go_wp2_with fail;(with_reducible refine mo (g1.out _) ?_);rintro w2 rfl;go_wp2_with fail;(with_reducible refine mo (g1.out _) ?_);rintro w2 rfl;go_wp2;go_loopw [3,6] (fun z i wi=>i=.int .i64 0/\z=.int .i64 (p:Int)/\wi=w2) (fun _ _ _=>0)
     case atStart=>exact ⟨rfl,rfl,rfl⟩
     case round =>
      obtain ⟨rfl,rfl,rfl⟩:=hrel;go_wp2;go_roundw
      case rel=>exact ⟨k+1,by omega,by go_num,by rw [HE.out,HV.out];show _=Value.int .i64 ((max m0 p:Nat):Int);rw [show max m0 p=p by omega],trivial⟩
      case measure=>simp [intOf];omega
    ·have d1:decide ((m0:Int) < (p:Int))=false:=dF (by omega);have d1n:decide (m0 < p)=false:=dF hgt;go_wp2_with fail;(with_reducible refine mo (g1.out _) ?_);rintro w2 rfl;go_wp2;go_loopw [3,6] (fun z i wi=>i=.int .i64 0/\z=.int .i64 (m0:Int)/\wi=w2) (fun _ _ _=>0)
     case atStart=>exact ⟨rfl,rfl,rfl⟩
     case round =>
      obtain ⟨rfl,rfl,rfl⟩:=hrel;go_wp2;go_roundw
      case rel=>exact ⟨k+1,by omega,by go_num,by rw [HE.out,HV.out];show _=Value.int .i64 ((max m0 p:Nat):Int);rw [show max m0 p=m0 by omega],trivial⟩
      case measure=>simp [intOf];omega
   | const nm ls =>
    have HV:Hid (m1=ls.foldl (fun m l=>max m (levelParams l)) m0):=Ld (by have:=HU.out;rw [show max m0 (Tm.const nm ls).sortP=m0 by simp [Tm.sortP]] at this;exact this);have HL:Hid (∀ x∈ls,x.length<=60):=HL;have HIF:Hid (∀ (j MS:Nat),MS<=256->(ls.take j).foldl (fun m l=>max m (levelParams l)) MS<=256):=HIF;have HNR:Hid (wr.ownsRow w.heap.size 9 1 (.slice al ls.length cl) ls.length (ls.map sv)):=HNR;have hln:ls.length<=100000:=hln;replace c0:wr.cell? ⟨g,k*7,none⟩=some (.int .u8 99):=c0;replace c6:wr.cell? ⟨g,k*7+6,none⟩=some (.slice al ls.length cl):=c6;clear hns hnr hok HS HU
    rename World=>wo
    go_wp2;go_loopw [3,6] (fun z i wi=>∃ j:Nat,j<=ls.length/\i=.int .i64 j/\z=.int .i64 (((ls.take j).foldl (fun m l=>max m (levelParams l)) m0:Nat):Int)/\wi=wo) (fun _ i _=>ls.length - (intOf i).toNat)
    case atStart=>exact ⟨0,Nat.zero_le _,rfl,rfl,rfl⟩
    case round =>
     obtain ⟨j,hj,rfl,rfl,rfl⟩:=hrel;by_cases hjl:j < ls.length
     ·obtain ⟨g2,cap2,e2,_,hgl2⟩:=HNR.out.form (by omega);cases e2;have ex:(ls.map sv)[j]?=some (sv ls[j]):=(by simp [hjl]);have cj:=(HNR.out.cellAt j (by omega)).trans ex;unfold sv at cj;have q3:=zn j;have q4:(j:Int) < (ls.length:Int):=(by omega);have h60:ls[j].length<=60:=HL.out _ (List.getElem_mem hjl);have hp:=levelParams_le ls[j];have HS3:=Ld (foldL_succ (ls:=ls) (k:=j) (m:=m0) hjl);have b0:=HIF.out j m0 hm;have b1:=HIF.out (j+1) m0 hm;have g1:=Ld fun W=>fP.out ⟨ls[j].toArray⟩ W (by show ls[j].length<=_;unfold maxLen;omega);rw [show (⟨ls[j].toArray⟩:ByteArray).data.toList=ls[j] from rfl] at g1;generalize ls[j]=l at cj h60 hp HS3 g1;generalize levelParams l=p at hp HS3 g1;generalize hx1:(ls.take (j+1)).foldl (fun m l=>max m (levelParams l)) m0=x1 at HS3 b1;have HX:=Ld hx1;generalize (ls.take j).foldl (fun m l=>max m (levelParams l)) m0=x0 at HS3 b0 |-;clear hx1 ex;by_cases hgt:x0 < p
      ·have d1:decide ((x0:Int) < (p:Int))=true:=dT (by omega);have d1n:decide (x0 < p)=true:=dT hgt;go_wp2_with fail;(with_reducible refine mo (g1.out _) ?_);rintro w2 rfl;go_wp2_with fail;(with_reducible refine mo (g1.out _) ?_);rintro w2 rfl;go_wp2;go_roundw
       case rel=>exact ⟨j+1,by omega,by go_num,by rw [HX.out,HS3.out,show max x0 p=p by omega],trivial⟩
       case measure=>simp [intOf];omega
      ·have d1:decide ((x0:Int) < (p:Int))=false:=dF (by omega);have d1n:decide (x0 < p)=false:=dF hgt;go_wp2_with fail;(with_reducible refine mo (g1.out _) ?_);rintro w2 rfl;go_wp2;go_roundw
       case rel=>exact ⟨j+1,by omega,by go_num,by rw [HX.out,HS3.out,show max x0 p=x0 by omega],trivial⟩
       case measure=>simp [intOf];omega
     ·obtain rfl:j=ls.length:=(by omega);rw [List.take_length];have d2:decide ((ls.length:Int) < (ls.length:Int))=false:=dF (by omega);have b0:=HIF.out ls.length m0 hm;rw [List.take_length] at b0;generalize ls.foldl (fun m l=>max m (levelParams l)) m0=x0 at HV b0 |-;go_wp2;go_roundw
      case rel=>exact ⟨k+1,by omega,by go_num,by rw [HE.out,HV.out],trivial⟩
      case measure=>simp [intOf];omega
   | var _ =>
    have HV:Hid (m1=m0):=Ld (by have:=HU.out;simpa [Tm.sortP,Tm.lvOf] using this);replace c0:wr.cell? ⟨g,k*7,none⟩=some (.int .u8 118):=c0;replace c6:wr.cell? ⟨g,k*7+6,none⟩=some (.slice al 0 cl):=c6;clear hns hnr hok HS HNR HIF HL HU hln
    rename World=>wo
    go_wp2;go_loopw [3,6] (fun z i wi=>i=.int .i64 0/\z=.int .i64 (m0:Int)/\wi=wo) (fun _ _ _=>0)
    case atStart=>exact ⟨rfl,rfl,rfl⟩
    case round =>
     obtain ⟨rfl,rfl,rfl⟩:=hrel;go_wp2;go_roundw
     case rel=>exact ⟨k+1,by omega,by go_num,by rw [HE.out,HV.out],trivial⟩
     case measure=>simp [intOf];omega
   | app _ _ =>
    have HV:Hid (m1=m0):=Ld (by have:=HU.out;simpa [Tm.sortP,Tm.lvOf] using this);replace c0:wr.cell? ⟨g,k*7,none⟩=some (.int .u8 64):=c0;replace c6:wr.cell? ⟨g,k*7+6,none⟩=some (.slice al 0 cl):=c6;clear hns hnr hok HS HNR HIF HL HU hln
    rename World=>wo
    go_wp2;go_loopw [3,6] (fun z i wi=>i=.int .i64 0/\z=.int .i64 (m0:Int)/\wi=wo) (fun _ _ _=>0)
    case atStart=>exact ⟨rfl,rfl,rfl⟩
    case round =>
     obtain ⟨rfl,rfl,rfl⟩:=hrel;go_wp2;go_roundw
     case rel=>exact ⟨k+1,by omega,by go_num,by rw [HE.out,HV.out],trivial⟩
     case measure=>simp [intOf];omega
   | lam _ _ =>
    have HV:Hid (m1=m0):=Ld (by have:=HU.out;simpa [Tm.sortP,Tm.lvOf] using this);replace c0:wr.cell? ⟨g,k*7,none⟩=some (.int .u8 108):=c0;replace c6:wr.cell? ⟨g,k*7+6,none⟩=some (.slice al 0 cl):=c6;clear hns hnr hok HS HNR HIF HL HU hln
    rename World=>wo
    go_wp2;go_loopw [3,6] (fun z i wi=>i=.int .i64 0/\z=.int .i64 (m0:Int)/\wi=wo) (fun _ _ _=>0)
    case atStart=>exact ⟨rfl,rfl,rfl⟩
    case round =>
     obtain ⟨rfl,rfl,rfl⟩:=hrel;go_wp2;go_roundw
     case rel=>exact ⟨k+1,by omega,by go_num,by rw [HE.out,HV.out],trivial⟩
     case measure=>simp [intOf];omega
   | pi _ _ =>
    have HV:Hid (m1=m0):=Ld (by have:=HU.out;simpa [Tm.sortP,Tm.lvOf] using this);replace c0:wr.cell? ⟨g,k*7,none⟩=some (.int .u8 112):=c0;replace c6:wr.cell? ⟨g,k*7+6,none⟩=some (.slice al 0 cl):=c6;clear hns hnr hok HS HNR HIF HL HU hln
    rename World=>wo
    go_wp2;go_loopw [3,6] (fun z i wi=>i=.int .i64 0/\z=.int .i64 (m0:Int)/\wi=wo) (fun _ _ _=>0)
    case atStart=>exact ⟨rfl,rfl,rfl⟩
    case round =>
     obtain ⟨rfl,rfl,rfl⟩:=hrel;go_wp2;go_roundw
     case rel=>exact ⟨k+1,by omega,by go_num,by rw [HE.out,HV.out],trivial⟩
     case measure=>simp [intOf];omega
   | lett _ _ _ =>
    have HV:Hid (m1=m0):=Ld (by have:=HU.out;simpa [Tm.sortP,Tm.lvOf] using this);replace c0:wr.cell? ⟨g,k*7,none⟩=some (.int .u8 116):=c0;replace c6:wr.cell? ⟨g,k*7+6,none⟩=some (.slice al 0 cl):=c6;clear hns hnr hok HS HNR HIF HL HU hln
    rename World=>wo
    go_wp2;go_loopw [3,6] (fun z i wi=>i=.int .i64 0/\z=.int .i64 (m0:Int)/\wi=wo) (fun _ _ _=>0)
    case atStart=>exact ⟨rfl,rfl,rfl⟩
    case round =>
     obtain ⟨rfl,rfl,rfl⟩:=hrel;go_wp2;go_roundw
     case rel=>exact ⟨k+1,by omega,by go_num,by rw [HE.out,HV.out],trivial⟩
     case measure=>simp [intOf];omega
  ·obtain rfl:k=ns.length:=(by omega);have hE:P.take ns.length=P:=(by rw [← hPl];exact List.take_length);rw [hE];have hm:=HF.out ns.length;rw [hE] at hm;have d1:decide ((ns.length:Int) < (ns.length:Int))=false:=dF (by omega);clear hE;generalize P.foldl (fun m u=>max m u.ownP) 0=m0 at HPR hm |-;go_wp2;go_ret;exact ⟨by rw [HPR.out];rfl,HB.out⟩
end Go.Proofs.YtcaahdjhbmmcnaaGreatDoor
