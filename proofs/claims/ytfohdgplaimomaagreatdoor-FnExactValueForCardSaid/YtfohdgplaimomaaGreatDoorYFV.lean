/- VPut FLv -/
import Derived.Lib.AppendStr
import Derived.Lib.Builder
import Derived.Test.YtfohdgplaimomaaGreatDoorYV1
import Derived.Test.YtfohdgplaimomaaGreatDoorYKC
import Derived.Test.YtfohdgplaimomaaGreatDoorYE2
import Derived.Test.YtfohdgplaimomaaGreatDoorYMK
set_option maxRecDepth 100000
set_option maxHeartbeats 16000000
set_option linter.unusedSimpArgs false
set_option linter.unusedVariables false
namespace Go.Proofs.YtfohdgplaimomaaGreatDoor
open Go.ChangeShapes Go.WideShapes Go.ChangeAt Go.RowKit
theorem specLevelPut (s:ByteArray) {w:World} {b:Nat} {v:Value} {args:List (List UInt8)} (h:w.ownsRow b 9 1 v args.length (args.map sv)) (hs:s.size≤maxLen) (hx:∀ x∈args,x.length≤maxLen) (hn:args.length≤10000000) :
  Calls Tryz.prog 62 #[.string s,v] w fun e w'=>e=.returned (putRes (levelPut s.data.toList args))∧Below w.heap.size w w':=by
 obtain ⟨a0,cap,rfl⟩:=own_sliceV h
 have f1:=Ld fun W=>specLevelOk s W hs
 have f2:=Ld fun W=>specLevelParams s W hs
 have hls:s.data.toList.length=s.size:=rfl
 by_cases hok:levelOk s.data.toList=true
 rotate_left
 ·have HE:Hid (levelPut s.data.toList args=none):=if_neg fun hc=>hok hc.1
  rw [Bool.not_eq_true] at hok
  rw [hok] at f1
  clear hok h hls f2
  go_enter Tryz.func62,Tryz.ntmps62
  go_wp2_with fail
  (with_reducible refine (f1.out _).mono ?_);rintro e w1 ⟨rfl,rfl⟩
  go_wp2
  go_ret2
  rw [HE.out]
  exact ⟨rfl,Below.refl _ _⟩
 have h60:=(levelOk_len hok).1
 rw [hls] at h60
 have HP:=Ld (lend_par_at s.data.toList 1 (levelOk_len hok).2)
 have hpar:levelParams s.data.toList=parF 0 s.data.toList:=if_pos hok
 have HOK:=Ld hok
 rw [hok] at f1
 clear hok hls
 by_cases h3:args.length≤3
 rotate_left
 ·have HE:Hid (levelPut s.data.toList args=none):=if_neg fun hc=>h3 hc.2.1
  have d1:decide ((3:Int) < (args.length:Int))=true:=decide_eq_true (by omega)
  clear h f2 hpar HP
  go_enter Tryz.func62,Tryz.ntmps62
  go_wp2_with fail
  (with_reducible refine (f1.out _).mono ?_);rintro e w1 ⟨rfl,rfl⟩
  go_wp2
  go_ret2
  rw [HE.out]
  exact ⟨rfl,Below.refl _ _⟩
 have d1:decide ((3:Int) < (args.length:Int))=false:=decide_eq_false (by omega)
 by_cases h4:levelParams s.data.toList≤args.length
 rotate_left
 ·have HE:Hid (levelPut s.data.toList args=none):=if_neg fun hc=>h4 hc.2.2.1
  have d2:decide ((args.length:Int) < (levelParams s.data.toList:Int))=true:=decide_eq_true (by omega)
  clear h hpar HP
  go_enter Tryz.func62,Tryz.ntmps62
  go_wp2_with fail
  (with_reducible refine (f1.out _).mono ?_);rintro e w1 ⟨rfl,rfl⟩
  go_wp2_with fail
  (with_reducible refine (f2.out _).mono ?_);rintro e w1 ⟨rfl,rfl⟩
  go_wp2
  go_ret2
  rw [HE.out]
  exact ⟨rfl,Below.refl _ _⟩
 have d2:decide ((args.length:Int) < (levelParams s.data.toList:Int))=false:=decide_eq_false (by omega)
 have d2n:decide (args.length < levelParams s.data.toList)=false:=decide_eq_false (by omega)
 have HG:=Ld (parF_ge s.data.toList 0)
 rw [← hpar] at HG
 clear hpar
 have f3:=Ld fun (x:List UInt8) (hm:x∈args) W=>specLevelOk ⟨x.toArray⟩ W (by simpa [ByteArray.size] using hx x hm)
 simp only at f3
 go_enter Tryz.func62,Tryz.ntmps62
 go_wp2_with fail
 (with_reducible refine (f1.out _).mono ?_);rintro e w1 ⟨rfl,rfl⟩
 go_wp2_with fail
 (with_reducible refine (f2.out _).mono ?_);rintro e w1 ⟨rfl,rfl⟩
 clear f1 f2
 go_wp2
 go_loopw [6] (fun i wr=>∃ k:Nat,k≤args.length∧i=.int .i64 k∧wr=w1∧Hid (∀ j (hj:j < args.length),j < k→levelOk args[j]=true)) (fun i _=>args.length - (intOf i).toNat)
 case atStart=>exact ⟨0,Nat.zero_le _,rfl,rfl,fun j _ hj=>by omega⟩
 case round =>
  obtain ⟨k,hk,rfl,rfl,HA⟩:=hrel
  by_cases hlt:k < args.length
  ·obtain ⟨g,cap',e0,_,hgl⟩:=h.form (by omega)
   cases e0
   have ex:(args.map sv)[k]?=some (sv args[k]):=by simp [hlt]
   have cc:=(h.cellAt k (by omega)).trans ex
   unfold sv at cc
   have q1:(0:Int)≤(k:Int):=by omega
   have q2:(k:Int) < (args.length:Int):=by omega
   have g3:=Ld (f3.out args[k] (List.getElem_mem hlt))
   have HB:Hid (levelOk args[k]=false→levelPut s.data.toList args=none):=fun hb=>if_neg fun hc=>by
    have:=hc.2.2.2.1 args[k] (List.getElem_mem hlt)
    rw [hb] at this
    cases this
   have HA2:Hid (levelOk args[k]=true→∀ j (hj:j < args.length),j < k+1→levelOk args[j]=true):=fun hb j hj hjk=>if e:j=k then by subst e;exact hb else HA.out j hj (by omega)
   clear ex HA f3
   generalize levelOk args[k]=ok at g3 HB HA2
   generalize args[k]=x at cc g3
   cases ok
   ·have HE:=Ld (HB.out rfl)
    clear HB HA2
    go_wp2_with fail
    (with_reducible refine (g3.out _).mono ?_);rintro e w2 ⟨rfl,rfl⟩
    go_wp2
    go_ret2
    rw [HE.out]
    exact ⟨rfl,Below.refl _ _⟩
   ·have HN:=Ld (HA2.out rfl)
    clear HB HA2
    go_wp2_with fail
    (with_reducible refine (g3.out _).mono ?_);rintro e w2 ⟨rfl,rfl⟩
    go_wp2
    go_roundw
    case rel=>exact ⟨k+1,by omega,by go_num,trivial,HN.out⟩
    case measure=>simp [intOf];omega
  ·rename World=>wz
   have hke:args.length≤k:=by omega
   have hall:∀ x∈args,levelOk x=true:=fun x hm=>by
    obtain ⟨j,hj,e⟩:=List.getElem_of_mem hm
    rw [← e]
    exact HA.out j hj (by omega)
   have HL:Hid (∀ x∈args,x.length≤60):=fun x hm=>(levelOk_len (hall x hm)).1
   have HY:Hid ((putF args s.data.toList).length≤60→levelPut s.data.toList args=some (putF args s.data.toList)):=fun hc=>if_pos ⟨HOK.out,h3,h4,hall,hc⟩
   have HN:Hid (¬ (putF args s.data.toList).length≤60→levelPut s.data.toList args=none):=fun hc=>if_neg fun h5=>hc h5.2.2.2.2
   have dk:decide ((k:Int) < (args.length:Int))=false:=decide_eq_false (by omega)
   obtain ⟨i0,hi,hz0,hz1,hz2⟩:=info_parts info8
   clear HA hall f3
   go_wp2
   go_loopw [7,8] (fun vo i wq=>∃ (p:Nat) (out:List UInt8),p≤s.size∧out.length≤60*p∧i=.int .i64 p∧wq.ownsRow wz.heap.size 5 1 vo out.length (out.map bv)∧Below wz.heap.size wz wq∧Hid (out ++ putF args (s.data.toList.drop p)=putF args s.data.toList)) (fun _ i _=>s.size - (intOf i).toNat)
   case atStart=>exact ⟨0,[],Nat.zero_le _,Nat.le_refl _,rfl,World.ownsRow_lit wz #[] 0 (Nat.le_refl _) (by decide) (by simp),(Below.refl _ _).alloc (Nat.le_refl _) _,rfl⟩
   case round =>
    obtain ⟨p,out,hp,hol,rfl,hown,hbel,HR⟩:=hrel
    have hz:=hbel.size
    have hl:=hown.lt
    by_cases hlt2:p < s.size
    ·have hll:p < s.data.toList.length:=hlt2
     have q1:(0:Int)≤(p:Int):=by omega
     have q2:(p:Int) < (s.size:Int):=by omega
     by_cases c1:s[p]=117
     ·have e1:((s[p].toNat:Int) == 117)=true:=is_byte c1
      obtain ⟨hj,b1,b2⟩:=HP.out p hll c1
      have hj':p+1 < s.size:=hj
      have hge:=HG.out p hj c1
      have b1':48≤s[p+1].toNat:=b1
      have b2':s[p+1].toNat≤50:=b2
      have hge':s[p+1].toNat - 47≤levelParams s.data.toList:=hge
      have q3:(0:Int)≤(p:Int)+1:=by omega
      have q4:(p:Int)+1 < (s.size:Int):=by omega
      obtain ⟨d,hd⟩:∃ d,s[p+1].toNat=d+48:=⟨s[p+1].toNat - 48,by omega⟩
      have hda:d < args.length:=by omega
      obtain ⟨g,cap',e0,_,hgl⟩:=h.form (by omega)
      cases e0
      have ex:(args.map sv)[d]?=some (sv args[d]):=by simp [hda]
      have cc:=(hbel.cell (p:=⟨g,d,none⟩) hgl).trans ((h.cellAt d (by omega)).trans ex)
      unfold sv at cc
      have q5:(0:Int)≤(d:Int):=by omega
      have q6:(d:Int) < (args.length:Int):=by omega
      have e3:IntKind.i64.wrap ((s[p+1].toNat:Int))=(d:Int)+48:=by rw [hd];exact IntWalk.i64_in _ (by omega)
      have e4:IntKind.i64.wrap ((d:Int)+48 - 48)=(d:Int):=by rw [show (d:Int)+48 - 48=(d:Int) by omega];exact IntWalk.i64_in _ (by omega)
      have hxl:=HL.out args[d] (List.getElem_mem hda)
      have HS:=Ld (putF_atPar (args:=args) hj c1)
      have hget:args.getD (s.data.toList[p+1].toNat - 48) []=args[d]:=by
       have:s.data.toList[p+1].toNat - 48=d:=by show s[p+1].toNat - 48=d;omega
       rw [this]
       simp [hda]
      rw [hget] at HS
      have HR2:Hid ((out ++ args[d]) ++ putF args (s.data.toList.drop (p+2))=putF args s.data.toList):=by rw [Hid,List.append_assoc,← HS.out,HR.out]
      clear HS HR ex hget hge b1 b2
      generalize args[d]=x at cc hxl HR2
      go_wp2_with (at_builtin;refine Lib.wpList_append_own_string _ rfl _ _ 99 9 rfl wz.heap.size 5 i0 Tryz.underlying99 Tryz.underlying9 hi hz0 hz1 hz2 _ _ _ rfl hown ⟨x.toArray⟩ rfl (by simp only [maxLen,ByteArray.size,List.size_toArray];omega) (by simp only [ByteArray.size,List.size_toArray];omega) hz ?_;intro v1 w2 hown1 hgrow hat)
      rw [strCells_bv,← List.map_append] at hown1
      go_roundw
      case rel=>exact ⟨p+2,out ++ x,by omega,by simp;omega,by go_num,by simpa [ByteArray.size] using hown1,hbel.grown hgrow hz (fun q hq=>(hl q hq).1),HR2.out⟩
      case measure=>simp [intOf];omega
     ·have e1:((s[p].toNat:Int) == 117)=false:=ne_byte c1
      have HS:=Ld (putF_at (args:=args) hll c1)
      have HR2:Hid ((out ++ [s[p]]) ++ putF args (s.data.toList.drop (p+1))=putF args s.data.toList):=by
       rw [Hid,List.append_assoc]
       exact (congrArg (out ++ ·) HS.out.symm).trans HR.out
      clear HS HR c1
      go_wp2_with (at_builtin;refine wpList_append_own _ rfl _ _ 99 rfl wz.heap.size 5 i0 _ 1 1 Tryz.underlying99 hi hz0 hz1 hz2 rfl (by decide) _ _ _ rfl (hown.alloc _) ⟨_,0,none⟩ 1 1 [.int .u8 (s[p].toNat:Int)] rfl rfl (oneNew _ _ _) (by simp [Value.oneCell']) (by simp only [maxLen];omega) (by omega) (by simp;omega) ?_;intro v1 w2 hown1 hgrow hat)
      go_roundw
      case rel=>exact ⟨p+1,out ++ [s[p]],by omega,by simp;omega,by go_num,by simpa [bv] using hown1,(hbel.alloc hz _).grown hgrow (by simp;omega) (fun q hq=>(hl q hq).1),HR2.out⟩
      case measure=>simp [intOf];omega
    ·have hE:out=putF args s.data.toList:=by
      have:=HR.out
      rw [List.drop_eq_nil_of_le (by show s.size≤p;omega),putF_nil,List.append_nil] at this
      exact this
     have dp:decide ((p:Int) < (s.size:Int))=false:=decide_eq_false (by omega)
     rw [← hE] at HY HN
     have hcv:=conv_own _ Tryz.underlying99 Tryz.underlying5 Tryz.underlying9 hown
     obtain ⟨ao,co,rfl⟩:∃ a c,u7=.slice a out.length c:=by
      rcases hown.2 with ⟨rfl,e⟩ | ⟨g,cap,cur,rfl,_⟩
      ·exact ⟨_,_,by rw [e]⟩
      ·exact ⟨_,_,rfl⟩
     clear hE HR hown
     by_cases h6:out.length≤60
     ·have HE:=Ld (HY.out h6)
      have d6:decide ((60:Int) < (out.length:Int))=false:=decide_eq_false (by omega)
      go_wp2
      go_ret2
      rw [HE.out]
      exact ⟨rfl,hbel⟩
     ·have HE:=Ld (HN.out h6)
      have d6:decide ((60:Int) < (out.length:Int))=true:=decide_eq_true (by omega)
      go_wp2
      go_ret2
      rw [HE.out]
      exact ⟨rfl,hbel⟩
theorem postOk:∀ (T:Tm),T.Ok→∀ u∈T.post,u.Ok
 | .var n,h,u,hu=>by simp [Tm.post] at hu;subst hu;exact h
 | .sort l,h,u,hu=>by simp [Tm.post] at hu;subst hu;exact h
 | .const n ls,h,u,hu=>by simp [Tm.post] at hu;subst hu;exact h
 | .app f a,h,u,hu=>by
  simp only [Tm.post,List.mem_append,List.mem_singleton] at hu
  rcases hu with hu | hu | rfl
  ·exact postOk f h.1 u hu
  ·exact postOk a h.2 u hu
  ·exact h
 | .lam f a,h,u,hu=>by
  simp only [Tm.post,List.mem_append,List.mem_singleton] at hu
  rcases hu with hu | hu | rfl
  ·exact postOk f h.1 u hu
  ·exact postOk a h.2 u hu
  ·exact h
 | .pi f a,h,u,hu=>by
  simp only [Tm.post,List.mem_append,List.mem_singleton] at hu
  rcases hu with hu | hu | rfl
  ·exact postOk f h.1 u hu
  ·exact postOk a h.2 u hu
  ·exact h
 | .lett f a b,h,u,hu=>by
  simp only [Tm.post,List.mem_append,List.mem_singleton] at hu
  rcases hu with hu | hu | hu | rfl
  ·exact postOk f h.1 u hu
  ·exact postOk a h.2.1 u hu
  ·exact postOk b h.2.2 u hu
  ·exact h
theorem flatN_set {j:Nat} (hj:j < 7) (u:Value):∀ (cur:List Nd) (k:Nat) (nd nd':Nd),cur[k]?=some nd→nd'.cells=nd.cells.set j u→(flatN cur).set (k*7+j) u=flatN (cur.set k nd')
 | [],k,nd,nd',h,_=>by simp at h
 | n :: cur,0,nd,nd',h,e=>by
  simp at h
  subst h
  unfold flatN
  rw [List.set_cons_zero,List.flatMap_cons,List.flatMap_cons,e,Nat.zero_mul,Nat.zero_add,List.set_append_left _ _ (by rw [cells_len];exact hj)]
 | n :: cur,k+1,nd,nd',h,e=>by
  have ih:=flatN_set hj u cur k nd nd' (by simpa using h) e
  unfold flatN at ih ⊢
  rw [List.set_cons_succ,List.flatMap_cons,List.flatMap_cons,List.set_append_right _ _ (by rw [cells_len];omega),cells_len,show (k+1)*7+j - 7=k*7+j by omega,ih]
structure LSt (w W wr:World) (B b g cap:Nat) (av:Value) (args:List (List UInt8)) (P:List Tm) (ns cur:List Nd) (k:Nat):Prop where
 len:cur.length=ns.length
 row:wr.ownsRow B 96 7 (.slice (some ⟨g,0,none⟩) ns.length cap) ns.length (flatN cur)
 rest:∀ i,k≤i→cur[i]?=ns[i]?
 done:∀ i u,i < k→P[i]?=some u→∃ nd nd',ns[i]?=some nd∧cur[i]?=some nd'∧UpdT wr B args nd nd' u
 sl:∀ nd∈cur,∃ a n c,nd.lv=.slice a n c
 strs:KeepS B W wr
 arg:wr.ownsRow b 9 1 av args.length (args.map sv)
 below:Below B w wr
 sz:B≤wr.heap.size
structure LSm (w W wr:World) (B b g cap:Nat) (av:Value) (args:List (List UInt8)) (P:List Tm) (ns cur:List Nd) (k:Nat) (nd:Nd):Prop where
 len:cur.length=ns.length
 row:wr.ownsRow B 96 7 (.slice (some ⟨g,0,none⟩) ns.length cap) ns.length (flatN cur)
 rest:∀ i,k < i→cur[i]?=ns[i]?
 here:cur[k]?=some nd
 done:∀ i u,i < k→P[i]?=some u→∃ nd nd',ns[i]?=some nd∧cur[i]?=some nd'∧UpdT wr B args nd nd' u
 sl:∀ nd∈cur,∃ a n c,nd.lv=.slice a n c
 strs:KeepS B W wr
 arg:wr.ownsRow b 9 1 av args.length (args.map sv)
 below:Below B w wr
 sz:B≤wr.heap.size
theorem UpdT.keep {W W':World} {B:Nat} {args:List (List UInt8)} {nd nd':Nd} {u:Tm} (h:UpdT W B args nd nd' u) (hk:KeepS B W W'):UpdT W' B args nd nd' u:=by
 cases u with
 | const n ls=>obtain ⟨h1,h2,ls',h3,h4⟩:=h;exact ⟨h1,h2,ls',h3,hk _ _ _ h4⟩
 | _=>exact h
section
variable {w W wr wr':World} {B b g cap k:Nat} {av:Value} {args:List (List UInt8)} {P:List Tm} {ns cur:List Nd} {nd:Nd}
theorem LSt.at (h:LSt w W wr B b g cap av args P ns cur k) (hk:ns[k]?=some nd):LSm w W wr B b g cap av args P ns cur k nd := ⟨h.len,h.row,fun i hi=>h.rest i (by omega),(h.rest k (Nat.le_refl _)).trans hk,h.done,h.sl,h.strs,h.arg,h.below,h.sz⟩
theorem LSm.keep (h:LSm w W wr B b g cap av args P ns cur k nd) (hb:Below wr.heap.size wr wr'):LSm w W wr' B b g cap av args P ns cur k nd := ⟨h.len,own_below h.row hb,h.rest,h.here,fun i u hi hu=>by
  obtain ⟨x,y,h1,h2,h3⟩:=h.done i u hi hu
  exact ⟨x,y,h1,h2,h3.keep fun _ _ _ hr=>own_below hr hb⟩,h.sl,fun v n xs hv=>own_below (h.strs v n xs hv) hb,own_below h.arg hb,h.below.trans (hb.mono h.sz),Nat.le_trans h.sz hb.size⟩
theorem LSm.put (h:LSm w W wr B b g cap av args P ns cur k nd) {j:Nat} (hj:j < 7) {u:Value} {nd':Nd} (hc:nd'.cells=nd.cells.set j u) (hlv:∃ a n c,nd'.lv=.slice a n c) :
  LSm w W (wr.setCell ⟨g,k*7+j,none⟩ u) B b g cap av args P ns (cur.set k nd') k nd'∧wr.grownBy (wr.setCell ⟨g,k*7+j,none⟩ u) (some g)∧KeepS B wr (wr.setCell ⟨g,k*7+j,none⟩ u):=by
 obtain ⟨h1,hg⟩:=h.row.stored (k*7+j) u
 rw [flatN_set hj u cur k nd nd' h.here hc] at h1
 have hks:∀ (b:Nat) (v:Value) (n:Nat) (xs:List Value),wr.ownsRow b 9 1 v n xs→(wr.setCell ⟨g,k*7+j,none⟩ u).ownsRow b 9 1 v n xs:=fun b v n xs hv=>own_other hv h.row (by decide) hg
 have hkl:k < cur.length:=(List.getElem?_eq_some_iff.1 h.here).1
 refine ⟨⟨by rw [List.length_set];exact h.len,h1,fun i hi=>by rw [List.getElem?_set_ne (by omega)];exact h.rest i hi,by rw [List.getElem?_set_self hkl],fun i x hi hx=>?_,fun x hx=>?_,fun v n xs hv=>hks B v n xs (h.strs v n xs hv),hks _ _ _ _ h.arg,h.below.grown hg h.sz (fun q hq=>by injection hq with hq;subst hq;exact (h.row.lt _ rfl).1),Nat.le_trans h.sz hg.size⟩,hg,fun v n xs hv=>hks B v n xs hv⟩
 ·obtain ⟨x1,y1,k1,k2,k3⟩:=h.done i x hi hx
  exact ⟨x1,y1,k1,by rw [List.getElem?_set_ne (by omega)];exact k2,k3.keep fun v n xs hv=>hks B v n xs hv⟩
 ·rcases List.mem_or_eq_of_mem_set hx with hx | rfl
  ·exact h.sl x hx
  ·exact hlv
theorem LSm.next {nd0:Nd} {u:Tm} (h:LSm w W wr B b g cap av args P ns cur k nd) (h0:ns[k]?=some nd0) (hP:P[k]?=some u) (hu:UpdT wr B args nd0 nd u):LSt w W wr B b g cap av args P ns cur (k+1) := ⟨h.len,h.row,fun i hi=>h.rest i (by omega),fun i x hi hx=>by
  by_cases e:i=k
  ·subst e
   rw [hP] at hx
   cases hx
   exact ⟨nd0,nd,h0,h.here,hu⟩
  ·exact h.done i x (by omega) hx,h.sl,h.strs,h.arg,h.below,h.sz⟩
end
theorem own_baseL {W:World} {b b' z n:Nat} {e:TypeId} {v:Value} {xs:List Value} (h:W.ownsRow b e z v n xs) (hb:b'≤b):W.ownsRow b' e z v n xs:=by
 refine ⟨h.1,?_⟩
 rcases h.2 with h1 | ⟨g,cap,cur,h1,h2,h3⟩
 ·exact .inl h1
 ·exact .inr ⟨g,cap,cur,h1,Nat.le_trans hb h2,h3⟩
theorem mapM_bad {args:List (List UInt8)}:∀ {ls:List (List UInt8)} {j:Nat} (h:j < ls.length),levelPut ls[j] args=none→(ls.mapM fun l=>levelPut l args)=none
 | l :: ls,0,_,e=>by
  rw [List.mapM_cons]
  simp only [List.getElem_cons_zero] at e
  rw [e]
  rfl
 | l :: ls,j+1,h,e=>by
  have ih:=mapM_bad (ls:=ls) (j:=j) (by simpa using h) (by simpa using e)
  rw [List.mapM_cons,ih]
  cases levelPut l args<;>rfl
theorem mapM_take {args ls:List (List UInt8)} {j:Nat} {rr:List (List UInt8)} {x:List UInt8} (h:j < ls.length) (h1:((ls.take j).mapM fun l=>levelPut l args)=some rr) (h2:levelPut ls[j] args=some x):((ls.take (j+1)).mapM fun l=>levelPut l args)=some (rr ++ [x]):=by
 rw [List.take_succ_eq_append_getElem h,List.mapM_append,h1]
 simp [h2]
theorem node_case (u:Tm):(∃ l,u=.sort l)∨(∃ nm ls,u=.const nm ls)∨(u.kind≠115∧u.lvOf=[]∧∀ W B args nd nd',SameN nd nd'→UpdT W B args nd nd' u):=by
 cases u with
 | sort l=>exact .inl ⟨l,rfl⟩
 | const nm ls=>exact .inr (.inl ⟨nm,ls,rfl⟩)
 | _=>exact .inr (.inr ⟨by simp [Tm.kind],rfl,fun _ _ _ _ _ h=>h⟩)
theorem specTermLevels (s:ByteArray) {w:World} {b:Nat} {av:Value} {args:List (List UInt8)} (h:w.ownsRow b 9 1 av args.length (args.map sv)) (hs:s.size≤maxLen) (hx:∀ x∈args,x.length≤maxLen) (hn:args.length≤10000000) :
  Calls Tryz.prog 37 #[.string s,av] w fun e w'=>e=.returned (putRes (termLevels s.data.toList args))∧Below w.heap.size w w':=by
 obtain ⟨aa,ac,rfl⟩:=own_sliceV h
 have f1:=Ld (specL06AllP s w hs)
 obtain ⟨i0,hi,hz0,hz1,hz2'⟩:=info_parts infoStr
 have HARG:=Ld h
 have FP:Hid (∀ (l:List UInt8) (wr:World),l.length≤60→wr.ownsRow b 9 1 (.slice aa args.length ac) args.length (args.map sv)→Calls Tryz.prog 62 #[.string ⟨l.toArray⟩,.slice aa args.length ac] wr fun e w'=>e=.returned (putRes (levelPut l args))∧Below wr.heap.size wr w'):=fun l wr hl ha=>specLevelPut ⟨l.toArray⟩ ha (by show l.length≤_;unfold maxLen;omega) hx hn
 clear h hs hx
 go_enter Tryz.func37,Tryz.ntmps37
 go_wp2_with fail
 (with_reducible refine f1.out.mono ?_);rintro e W ⟨v,ns,rfl,hrow,hb,hsl,hall⟩
 have HB:=Ld hb
 have hzW:=hb.size
 rcases hall with ⟨t,ht,hnt,hr⟩ | ⟨hno,rfl⟩
 rotate_left
 ·obtain ⟨la,lc,rfl⟩:=own_sliceN hrow
  have HE:Hid (termLevels s.data.toList args=none):=by rw [Hid,termLevels,termOf_none hno]
  clear hrow hno hb f1 hsl FP
  go_wp2
  go_ret2
  rw [HE.out]
  exact ⟨rfl,HB.out⟩
 have hsz:=t.size_pos
 obtain ⟨g,cap,rfl,hgB,hgl⟩:=hrow.form (by omega)
 have d0:((ns.length:Int) == 0)=false:=beq_eq_false_iff_ne.2 (by omega)
 by_cases h3:args.length≤3
 rotate_left
 ·have HE:Hid (termLevels s.data.toList args=none):=by rw [Hid,termLevels,termOf_some ht];exact if_neg h3
  have d1:decide ((3:Int) < (args.length:Int))=true:=decide_eq_true (by omega)
  clear hrow hb f1 hsl FP ht hr
  go_wp2
  go_ret2
  rw [HE.out]
  exact ⟨rfl,HB.out⟩
 have d1:decide ((3:Int) < (args.length:Int))=false:=decide_eq_false (by omega)
 have hszl:=t.size_le
 have hle:=ht.2.2
 rw [← ht.2.1] at hle
 have HTL:Hid (termLevels s.data.toList args=(t.lvs args).bind fun T'=>if T'.bytes.length≤2000 then some T'.bytes else none):=by rw [Hid,termLevels,termOf_some ht];exact if_pos h3
 have HLO:Hid (∀ T',t.lvs args=some T'→T'.Ok∧T'.bytes.length≤62000):=fun T' hT=>by
  obtain ⟨k1,k2⟩:=lvs_ok t T' ht.1 hT
  exact ⟨k1,by omega⟩
 have HPO:Hid (∀ T',t.lvs args=some T'→∀ u∈t.post,PutsOk args u):=fun T' hT=>lvs_post t T' hT
 have HREP:Hid (∀ (wr:World) (cur:List Nd),(∀ (i:Nat) (u:Tm),t.post[i]?=some u→∃ nd nd',ns[i]?=some nd∧cur[i]?=some nd'∧UpdT wr w.heap.size args nd nd' u)→∃ T',t.lvs args=some T'∧RepT wr w.heap.size cur (ns.length - 1) T'):=fun wr cur hu =>
  rep_upd t (ns.length - 1) hr fun i u hi=>by
   rw [show ns.length - 1+1 - t.size+i=i by omega]
   exact hu i u hi
 have HPN:Hid (∀ (i:Nat) (u:Tm),t.post[i]?=some u→∃ nd,ns[i]?=some nd∧NodeIs W w.heap.size nd u):=fun i u hu=>by
  obtain ⟨nd,p,q⟩:=(hr.at).2 i u hu
  exact ⟨nd,by rw [show i=ns.length - 1+1 - t.size+i by omega];exact p,q⟩
 have HPK:Hid (∀ u∈t.post,u.Ok):=postOk t ht.1
 have hPl:t.post.length=ns.length:=by rw [t.post_len,hnt]
 have hPl1:t.post.length≤ns.length:=by omega
 have hPl2:ns.length≤t.post.length:=by omega
 have hn2:ns.length≤2000:=by omega
 have hn1:1≤ns.length:=by omega
 have h0:LSt w W W w.heap.size b g cap (.slice aa args.length ac) args t.post ns ns 0:=⟨rfl,hrow,fun _ _=>rfl,fun i u hi _=>by omega,hsl,KeepS.refl _ _,own_below HARG.out hb,hb,hzW⟩
 have H0:=Ld h0
 generalize t.post=P at HPO HREP HPN HPK hPl hPl1 hPl2 H0
 clear hrow hb hsl ht hr hnt hsz hszl hle f1 h0 hPl h3 HARG
 go_wp2
 go_loopw [7] (fun i wr=>∃ (k:Nat) (cur:List Nd),k≤ns.length∧i=.int .i64 k∧LSt w W wr w.heap.size b g cap (.slice aa args.length ac) args P ns cur k) (fun i _=>ns.length - (intOf i).toNat)
 case atStart=>exact ⟨0,ns,Nat.zero_le _,rfl,H0.out⟩
 case round =>
  obtain ⟨k,cur,hk,rfl,hst⟩:=hrel
  by_cases hlt:k < ns.length
  rotate_left
  ·have hkk:k=ns.length:=by omega
   obtain ⟨T',hT,hrep⟩:=HREP.out wr cur (fun i u hu=>hst.done i u (by have:=(List.getElem?_eq_some_iff.1 hu).1;omega) hu)
   obtain ⟨k1,k2⟩:=HLO.out T' hT
   have hrow2:wr.ownsRow w.heap.size 96 7 (.slice (some ⟨g,0,none⟩) ns.length cap) cur.length (flatN cur):=by rw [hst.len];exact hst.row
   have f5:=Ld (specL06TextT (ns:=cur) (by rw [hst.len];omega) hst.sl T' (ns.length - 1) wr (.slice (some ⟨g,0,none⟩) ns.length cap) hrow2 hrep k1 (by omega))
   rw [show ((ns.length - 1:Nat):Int)=(ns.length:Int) - 1 by omega] at f5
   have HBr:=Ld hst.below
   have hzr:=hst.sz
   have HT2:Hid (termLevels s.data.toList args=if T'.bytes.length≤2000 then some T'.bytes else none):=by rw [Hid,HTL.out,hT];rfl
   have dk:decide ((k:Int) < (ns.length:Int))=false:=decide_eq_false (by omega)
   have hz5:(⟨T'.bytes.toArray⟩:ByteArray).size=T'.bytes.length:=by simp [ByteArray.size]
   generalize T'.bytes=tb at f5 HT2 k2 hz5
   clear hst hrep hrow2 hT k1 H0 HTL HLO HPO HREP HPN HPK
   go_wp2_with fail
   (with_reducible refine f5.out.mono ?_);rintro e w5 ⟨rfl,hb5⟩
   have HB5:=Ld (HBr.out.trans (hb5.mono hzr))
   clear hb5
   by_cases h2k:tb.length≤2000
   ·have HE:Hid (termLevels s.data.toList args=some tb):=by rw [Hid,HT2.out,if_pos h2k]
    have d5:decide ((2000:Int) < (tb.length:Int))=false:=decide_eq_false (by omega)
    go_wp2
    go_ret2
    rw [HE.out]
    exact ⟨rfl,HB5.out⟩
   ·have HE:Hid (termLevels s.data.toList args=none):=by rw [Hid,HT2.out,if_neg h2k]
    have d5:decide ((2000:Int) < (tb.length:Int))=true:=decide_eq_true (by omega)
    go_wp2
    go_ret2
    rw [HE.out]
    exact ⟨rfl,HB5.out⟩
  ·have hPk:P[k]?=some P[k]:=by simp
   obtain ⟨nd,hnd,hnk,hns,hnr⟩:=HPN.out k _ hPk
   have hum:=List.getElem_mem (show k < P.length by omega)
   have hok:=HPK.out _ hum
   have HNo:Hid (¬ PutsOk args P[k]→termLevels s.data.toList args=none):=fun hnp=>by
    rw [HTL.out]
    cases hT:t.lvs args with
    | none=>rfl
    | some T'=>exact absurd (HPO.out T' hT _ hum) hnp
   have M:=hst.at hnd
   have hrow2:wr.ownsRow w.heap.size 96 7 (.slice (some ⟨g,0,none⟩) cur.length cap) cur.length (flatN cur):=by rw [M.len];exact M.row
   have c0:wr.cell? ⟨g,k*7,none⟩=some (.int .u8 (nd.kind.toNat:Int)):=node_at hrow2 M.here 0 (by decide)
   have c5:wr.cell? ⟨g,k*7+5,none⟩=some (.string ⟨nd.text.toArray⟩):=node_at hrow2 M.here 5 (by decide)
   have c6:wr.cell? ⟨g,k*7+6,none⟩=some nd.lv:=node_at hrow2 M.here 6 (by decide)
   have z5:wr.frozen? ⟨g,k*7+5,none⟩=false:=M.row.frozenAt _
   have z6:wr.frozen? ⟨g,k*7+6,none⟩=false:=M.row.frozenAt _
   have q1:(0:Int)≤(k:Int):=by omega
   have q2:(k:Int) < (ns.length:Int):=by omega
   have dk:decide ((k:Int) < (ns.length:Int))=true:=decide_eq_true q2
   have hnr2:=M.strs _ _ _ hnr
   obtain ⟨al,cl,hlv⟩:=own_sliceV hnr
   have hsl1:=M.sl nd (List.mem_of_getElem? M.here)
   have HND:=Ld hnd
   have HPk:=Ld hPk
   rw [hlv] at c6
   have HM:=Ld M
   clear hst hnr hrow2 M hum hnd hPk H0
   generalize P[k]=u at hnk hns hok HNo hnr2 hlv c6 HPk
   rename World=>wo
   rcases node_case u with ⟨l,rfl⟩ | ⟨nm,ls,rfl⟩ | ⟨hk1,hk2,hk3⟩
   ·have ht:=hns l rfl
    have h60:l.length≤60:=(levelOk_len hok).1
    have f2:=Ld (FP.out l wo h60 HM.out.arg)
    rw [ht] at c5
    have e115:(nd.kind.toNat:Int)=115:=by rw [hnk];rfl
    rw [e115] at c0
    replace c6:wo.cell? ⟨g,k*7+6,none⟩=some (.slice al 0 cl):=c6
    cases hput:levelPut l args with
    | none =>
     have HE:=Ld (HNo.out (fun hp=>by obtain ⟨r,hr⟩:=hp;rw [hput] at hr;cases hr))
     rw [hput] at f2
     simp only [putRes] at f2
     clear hnr2 hlv hns hok HNo
     go_wp2_with fail
     (with_reducible refine f2.out.mono ?_);rintro e w2 ⟨rfl,hb2⟩
     have HB2:=Ld (HM.out.below.trans (hb2.mono HM.out.sz))
     clear hb2
     go_wp2
     go_ret2
     rw [HE.out]
     exact ⟨rfl,HB2.out⟩
    | some r =>
     rw [hput] at f2
     simp only [putRes] at f2
     have HPUT:=Ld hput
     clear hput hnr2 hns hok HNo
     go_wp2_with fail
     (with_reducible refine f2.out.mono ?_);rintro e w2 ⟨rfl,hb2⟩
     have M2:=HM.out.keep hb2
     have y5:w2.frozen? ⟨g,k*7+5,none⟩=false:=M2.row.frozenAt _
     have x5:w2.cell? ⟨g,k*7+5,none⟩=some (.string ⟨l.toArray⟩):=by
      have:=node_at (W:=w2) (ns:=cur) (g:=g) (cap:=cap) (by rw [M2.len];exact M2.row) M2.here 5 (by decide)
      rw [this,← ht];rfl
     have M3:=(M2.put (j:=5) (by decide) (u:=.string ⟨r.toArray⟩) (nd':={ nd with text:=r }) rfl hsl1).1
     have hz3:=M3.sz
     have b4:=Below.alloc (Below.refl (w2.setCell ⟨g,k*7+5,none⟩ (.string ⟨r.toArray⟩)).heap.size (w2.setCell ⟨g,k*7+5,none⟩ (.string ⟨r.toArray⟩))) (Nat.le_refl _) (.cells #[] 9)
     have M4:=M3.keep b4
     clear M2 M3 hb2
     go_wp2
     generalize (w2.setCell ⟨g,k*7+5,none⟩ (.string ⟨r.toArray⟩)).alloc (.cells #[] 9)=w4 at M4 b4 ⊢
     have M4h:=Ld M4
     have c6':w4.cell? ⟨g,k*7+6,none⟩=some (.slice al 0 cl):=by
      have:=node_at (W:=w4) (g:=g) (cap:=cap) (by rw [M4.len];exact M4.row) M4.here 6 (by decide)
      rw [this,show (.slice al 0 cl:Value)=nd.lv from hlv.symm];rfl
     have z6':w4.frozen? ⟨g,k*7+6,none⟩=false:=M4.row.frozenAt _
     clear M4 b4 c0 c5 c6 z5 z6
     go_loopw [10,11] (fun z i wi=>i=.int .i64 0∧z=.slice (some ⟨w2.heap.size,0,none⟩) 0 0∧wi=w4) (fun _ _ _=>0)
     case atStart=>exact ⟨rfl,rfl,rfl⟩
     case round =>
      obtain ⟨rfl,rfl,rfl⟩:=hrel
      go_wp2
      have M5:=(M4h.out.put (j:=6) (by decide) (u:=.slice (some ⟨w2.heap.size,0,none⟩) 0 0) (nd':={ ({ nd with text:=r }:Nd) with lv:=.slice (some ⟨w2.heap.size,0,none⟩) 0 0 }) rfl ⟨_,_,_,rfl⟩).1
      have MN:=M5.next HND.out HPk.out (⟨⟨rfl,rfl,rfl,rfl,rfl⟩,HPUT.out⟩)
      have HMN:=Ld MN
      clear M5 MN
      go_roundw
      case rel=>exact ⟨k+1,_,by omega,by go_num,HMN.out⟩
      case measure=>simp [intOf];omega
   ·have e115:((nd.kind.toNat:Int) == 115)=false:=ne_byte (d:=115) (by rw [hnk];simp [Tm.kind])
    replace c6:wo.cell? ⟨g,k*7+6,none⟩=some (.slice al ls.length cl):=c6
    have hlv2:nd.lv=.slice al ls.length cl:=hlv
    have hnr3:wo.ownsRow w.heap.size 9 1 (.slice al ls.length cl) ls.length (ls.map sv):=by rw [← hlv2];exact hnr2
    have hl3:ls.length≤3:=hok.2.1
    have HL60:Hid (∀ x∈ls,x.length≤60):=fun x hx=>(levelOk_len (hok.2.2 x hx)).1
    have b4:=Below.alloc (Below.refl wo.heap.size wo) (Nat.le_refl _) (.cells #[] 9)
    have r4:=World.ownsRow_lit (base:=wo.heap.size) (e:=9) (size:=1) wo #[] 0 (Nat.le_refl _) (by decide) (by simp)
    have HNR:=Ld hnr3
    have HB4:=Ld b4
    have HR4:=Ld r4
    clear hnr2 hnr3 hns hok b4 r4 z5 c5
    go_wp2
    go_loopw [10,11] (fun z i wi=>∃ (j:Nat) (rr:List (List UInt8)) (zz:Value),zz=z∧j≤ls.length∧i=.int .i64 j∧Hid ((ls.take j).mapM (fun l=>levelPut l args)=some rr)∧rr.length≤j∧wi.ownsRow wo.heap.size 9 1 zz rr.length (rr.map sv)∧Below wo.heap.size wo wi) (fun _ i _=>ls.length - (intOf i).toNat)
    case atStart=>exact ⟨0,[],_,rfl,Nat.zero_le _,rfl,rfl,Nat.le_refl _,HR4.out,HB4.out⟩
    case round =>
     obtain ⟨j,rr,zz,rfl,hj,rfl,HMP,hrl,hzz,hbi⟩:=hrel
     rename World=>wi
     have Mi:=HM.out.keep hbi
     have hszi:=hbi.size
     have c6i:wi.cell? ⟨g,k*7+6,none⟩=some (.slice al ls.length cl):=by
      have:=node_at (W:=wi) (g:=g) (cap:=cap) (by rw [Mi.len];exact Mi.row) Mi.here 6 (by decide)
      rw [this,← hlv2];rfl
     have z6i:wi.frozen? ⟨g,k*7+6,none⟩=false:=Mi.row.frozenAt _
     have HMi:=Ld Mi
     have HZZ:=Ld hzz
     have HBI:=Ld hbi
     have hri:=own_below HNR.out hbi
     clear HR4 HB4 c0 c6 z6 hbi hzz Mi
     by_cases hjl:j < ls.length
     ·obtain ⟨g2,cap2,e2,_,_⟩:=hri.form (by omega)
      cases e2
      have ex:(ls.map sv)[j]?=some (sv ls[j]):=by simp [hjl]
      have cj:=(hri.cellAt j (by omega)).trans ex
      unfold sv at cj
      have q3:(0:Int)≤(j:Int):=by omega
      have q4:(j:Int) < (ls.length:Int):=by omega
      have f2:=Ld (FP.out ls[j] wi (HL60.out _ (List.getElem_mem hjl)) HMi.out.arg)
      have HMB:Hid (levelPut ls[j] args=none→termLevels s.data.toList args=none):=fun hb0=>HNo.out (fun hp=>by
       obtain ⟨r,hr⟩:=hp
       rw [mapM_bad hjl hb0] at hr
       cases hr)
      have HMT:Hid (∀ x,levelPut ls[j] args=some x→(ls.take (j+1)).mapM (fun l=>levelPut l args)=some (rr ++ [x])):=fun x hx=>mapM_take hjl HMP.out hx
      clear ex hri HMP
      generalize ls[j]=lj at cj f2 HMB HMT
      cases hput:levelPut lj args with
      | none =>
       have HE:=Ld (HMB.out hput)
       rw [hput] at f2
       simp only [putRes] at f2
       clear HMB HMT hput
       go_wp2_with fail
       (with_reducible refine f2.out.mono ?_);rintro e w2 ⟨rfl,hb2⟩
       have HB2:=Ld (HMi.out.below.trans (hb2.mono HMi.out.sz))
       clear hb2
       go_wp2
       go_ret2
       rw [HE.out]
       exact ⟨rfl,HB2.out⟩
      | some x =>
       have HX:=Ld (HMT.out x hput)
       rw [hput] at f2
       simp only [putRes] at f2
       clear HMB HMT hput
       go_wp2_with fail
       (with_reducible refine f2.out.mono ?_);rintro e w2 ⟨rfl,hb2⟩
       have hz2:=own_below HZZ.out hb2
       have hB2:=HBI.out.trans (hb2.mono HBI.out.size)
       have hs2:=hB2.size
       clear hb2 HZZ
       go_wp2_with (at_builtin;refine wpList_append_own _ rfl _ _ 31 rfl wo.heap.size 9 i0 _ 1 16 Tryz.underlying31 hi hz0 hz1 hz2' rfl (by decide) _ _ _ rfl (hz2.alloc _) ⟨w2.heap.size,0,none⟩ 1 1 [.string ⟨x.toArray⟩] rfl rfl (oneNew _ _ _) (by simp [Value.oneCell']) (by simp only [maxLen];omega) (by omega) (by simp;omega) ?_)
       intro v3 w3 ho3 hg3 _
       have HB3:=Ld ((hB2.alloc hs2 (.cells #[.string ⟨x.toArray⟩] 9)).grown hg3 (by simp;omega) (fun q hq=>(hz2.lt q hq).1))
       have HO3:=Ld ho3
       clear ho3 hg3 hz2 hB2
       go_wp2
       go_roundw
       case rel=>exact ⟨j+1,rr ++ [x],_,rfl,by omega,by go_num,HX.out,by simp;omega,by simpa [sv] using HO3.out,HB3.out⟩
       case measure=>simp [intOf];omega
     ·have hje:j=ls.length:=by omega
      have HMF:Hid (ls.mapM (fun l=>levelPut l args)=some rr):=by
       have:=HMP.out
       rw [hje,List.take_length] at this
       exact this
      obtain ⟨za,zc,rfl⟩:=own_sliceV HZZ.out
      have dj:decide ((j:Int) < (ls.length:Int))=false:=decide_eq_false (by omega)
      have HPT:=Ld (HMi.out.put (j:=6) (by decide) (u:=.slice za rr.length zc) (nd':={ nd with lv:=.slice za rr.length zc }) rfl ⟨_,_,_,rfl⟩)
      have HRB:Hid (wi.ownsRow w.heap.size 9 1 (.slice za rr.length zc) rr.length (rr.map sv)):=own_baseL HZZ.out HM.out.sz
      have MN:=HPT.out.1.next HND.out HPk.out ⟨⟨rfl,rfl,rfl,rfl,rfl⟩,rfl,rr,HMF.out,HPT.out.2.2 _ _ _ HRB.out⟩
      have HMN:=Ld MN
      clear MN hri HMP hje
      go_wp2
      go_roundw
      case rel=>exact ⟨k+1,_,by omega,by go_num,HMN.out⟩
      case measure=>simp [intOf];omega
   ·have e115:((nd.kind.toNat:Int) == 115)=false:=ne_byte (d:=115) (by rw [hnk];exact hk1)
    rw [hk2] at c6 hlv
    replace hlv:nd.lv=.slice al 0 cl:=hlv
    replace c6:wo.cell? ⟨g,k*7+6,none⟩=some (.slice al 0 cl):=c6
    have b4:=Below.alloc (Below.refl wo.heap.size wo) (Nat.le_refl _) (.cells #[] 9)
    have M4:=HM.out.keep b4
    clear hnr2 hns hok HNo hnk hk1 hk2
    go_wp2
    generalize wo.alloc (.cells #[] 9)=w4 at M4 b4 ⊢
    have M4h:=Ld M4
    have c6':w4.cell? ⟨g,k*7+6,none⟩=some (.slice al 0 cl):=by
     have:=node_at (W:=w4) (g:=g) (cap:=cap) (by rw [M4.len];exact M4.row) M4.here 6 (by decide)
     rw [this,show (.slice al 0 cl:Value)=nd.lv from hlv.symm];rfl
    have z6':w4.frozen? ⟨g,k*7+6,none⟩=false:=M4.row.frozenAt _
    clear M4 b4 c0 c5 c6 z5 z6
    go_loopw [10,11] (fun z i wi=>i=.int .i64 0∧z=.slice (some ⟨wo.heap.size,0,none⟩) 0 0∧wi=w4) (fun _ _ _=>0)
    case atStart=>exact ⟨rfl,rfl,rfl⟩
    case round =>
     obtain ⟨rfl,rfl,rfl⟩:=hrel
     go_wp2
     have M5:=(M4h.out.put (j:=6) (by decide) (u:=.slice (some ⟨wo.heap.size,0,none⟩) 0 0) (nd':={ nd with lv:=.slice (some ⟨wo.heap.size,0,none⟩) 0 0 }) rfl ⟨_,_,_,rfl⟩).1
     have MN:=M5.next HND.out HPk.out (hk3 _ _ _ _ _ ⟨rfl,rfl,rfl,rfl,rfl⟩)
     have HMN:=Ld MN
     clear M5 MN
     go_roundw
     case rel=>exact ⟨k+1,_,by omega,by go_num,HMN.out⟩
     case measure=>simp [intOf];omega
end Go.Proofs.YtfohdgplaimomaaGreatDoor
