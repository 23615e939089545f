/-
  Contracts of slices.Backward at terms, the function that it returns, and impl.arrows.
  The contract of impl.Arrows.
  The contract of impl.NamesOk: whether a list consists of names and rises strictly.
-/
import Derived.RangeFuncBox
import Derived.RangeFuncCalls
import Derived.RangeFuncWrites
import Derived.Test.YtgielbamebjjdaaGreatDoorQ1
import Derived.Test.YtgielbamebjjdaaGreatDoorR1
import Derived.Test.YtgielbamebjjdaaGreatDoorE3
import Derived.Test.YtgielbamebjjdaaGreatDoorSP
import Derived.Test.YtgielbamebjjdaaGreatDoorNWalks2
import Derived.Laws.Cover1
import Derived.Sort.Walk0
namespace Go.Proofs.YtgielbamebjjdaaGreatDoor
set_option maxRecDepth 100000
open Go.ChangeShapes Go.WideShapes Go.ChangeAt Go.RowKit Go.Shelf
set_option linter.unusedSimpArgs false
set_option linter.unusedVariables false
attribute [local go_sem] Oper.semAt_some

/-- What lay below a block lies on, and one block above it too. -/
def KpB (n₀ Bs : Nat) (W W' : World) : Prop := Below n₀ W W' ∧ W'.heap[Bs]? = W.heap[Bs]?
theorem KpB.trans {n₀ Bs : Nat} {A B C : World} (h : KpB n₀ Bs A B) (k : KpB n₀ Bs B C) : KpB n₀ Bs A C := ⟨h.1.trans k.1, k.2.trans h.2⟩
theorem ptList {W : World} : ∀ {ts : List Tm} {vs : List Value}, IReps W ts vs → (∀ t ∈ ts, IsTm t.bytes t) → ∃ zs : List (Pt W), trees zs = ts ∧ (zs.map fun x => x.1.2) = vs
  | [], [], _, _ => ⟨[], rfl, rfl⟩
  | t :: ts, v :: vs, ⟨h1, h2⟩, h => by
    obtain ⟨zs, e1, e2⟩ := ptList h2 (fun u hu => h u (List.mem_cons_of_mem _ hu))
    have ht := h t List.mem_cons_self
    refine ⟨⟨(t, v), h1, ht.1, ht.2.2⟩ :: zs, ?_, ?_⟩
    · show t :: trees zs = t :: ts
      rw [e1]
    · show v :: (zs.map fun x => x.1.2) = v :: vs
      rw [e2]
  | [], _ :: _, h, _ => h.elim
  | _ :: _, [], h, _ => h.elim

set_option maxHeartbeats 4000000 in
theorem backLoop (F : Fence) (n : Nat) (hn : 1 ≤ n) (hF : F.fn 145) (hro : F.round = none) (l Bs b : Nat) (W0 : World) (u : Value) (zs : List (Pt W0)) (hz : zs.length ≤ 100000) (J Jx : List (Int × Pt W0) → World → Prop)
    (hrow : W0.ownsRow b 66 1 u zs.length (zs.map fun x => x.1.2))
    (hY : ∀ pre (x : Int × Pt W0) W, J pre W → pre.length < zs.length → YieldAt F (n - 1) Tryz.prog l #[.int .i64 x.1, x.2.1.2] W fun e W' =>
      (e = .returned (.bool true) ∧ J (pre ++ [x]) W' ∧ KpB W0.heap.size Bs W W') ∨ (e = .returned (.bool false) ∧ Jx (pre ++ [x]) W'))
    (W : World) (hB : Below W0.heap.size W0 W) (hbox : Boxed W Bs 69 u) (h0 : J [] W) :
    CallsIn F n Tryz.prog 145 #[.func (.yield l) #[] #[], .pointer (some ⟨Bs, 0, none⟩)] W fun e W' => (∃ v, e = .returned v) ∧
      ((∃ ys, ys.map Prod.snd = zs.reverse ∧ J ys W') ∨ (∃ pre, True ∧ Jx pre W')) := by
  obtain ⟨ua, uc, rfl⟩ := row_slice hrow
  have HROW := Lib.hid hrow
  have hbc := hbox.cell
  clear hrow
  refine callsIn_of_wp Tryz.func145 rfl hF ?_ hro
  simp only [Tryz.ntmps145, List.size_toArray, List.length_cons, List.length_nil, Nat.reduceAdd, Nat.reduceSub, Array.replicate_succ, Array.replicate_zero, List.push_toArray, List.append_toArray, List.nil_append, List.cons_append]
  gi_wp2
  gi_loopw [3] (fun i wr => ∃ (k : Nat) (pre : List (Int × Pt W0)), ((k = 0 ∧ i = .int .i64 (-1)) ∨ ∃ j : Nat, k = j + 1 ∧ i = .int .i64 (j : Int)) ∧ k ≤ zs.length ∧ Hid (pre.map Prod.snd = (zs.drop k).reverse) ∧ J pre wr ∧ Below W0.heap.size W0 wr ∧ Boxed wr Bs 69 (.slice ua zs.length uc)) (fun i _ => (intOf i + 1).toNat)
  case atStart =>
    refine ⟨zs.length, [], ?_, Nat.le_refl _, by simp [Hid], h0, hB, hbox⟩
    rcases Nat.eq_zero_or_pos zs.length with hl | hl
    · exact .inl ⟨hl, by rw [hl]; rfl⟩
    · obtain ⟨j, hj⟩ : ∃ j, zs.length = j + 1 := ⟨zs.length - 1, by omega⟩
      exact .inr ⟨j, hj, by rw [hj]; congr 1; omega⟩
  case round =>
    obtain ⟨k, pre, hk, hkl, HP, hJs, hBr, hbr⟩ := hrel
    clear hbc h0 hbox hB
    rcases hk with ⟨rfl, rfl⟩ | ⟨j, rfl, rfl⟩
    · have HE : Hid (pre.map Prod.snd = zs.reverse) := by have := HP.out; rwa [List.drop_zero] at this
      gi_wp2
      go_end0
      exact ⟨⟨_, rfl⟩, .inl ⟨pre, HE.out, hJs⟩⟩
    · have hlt : j < zs.length := by omega
      have hu := own_below HROW.out hBr
      obtain ⟨g, cap', e0, _, hgl⟩ := hu.form (by omega)
      cases e0
      have ex : (zs.map fun x => x.1.2)[j]? = some zs[j].1.2 := by simp [hlt]
      have cc := (hu.cellAt j (by omega)).trans ex
      have hbc := hbr.cell
      have HD : Hid ((zs.drop j).reverse = (zs.drop (j + 1)).reverse ++ [zs[j]]) := by rw [Hid, List.drop_eq_getElem_cons hlt, List.reverse_cons]
      have hpl : pre.length < zs.length := by
        have := congrArg List.length HP.out
        simp only [List.length_map, List.length_reverse, List.length_drop] at this
        omega
      obtain ⟨fn, tmps, assign, body, hyy, hR⟩ := hY pre ((j : Int), zs[j]) wr hJs hpl
      dsimp only at hyy
      obtain ⟨T1, x1, e1⟩ := IRep.iface zs[j].2.1
      rw [e1] at hyy cc
      have q1 : (0 : Int) ≤ (j : Int) := by omega
      have q2 : (j : Int) < (zs.length : Int) := by omega
      clear hu ex hY
      gi_wp2
      refine hR.mono ?_
      rintro e W3 (⟨rfl, hJ3, hk3⟩ | ⟨rfl, hJx3⟩)
      · have hB3 : Below W0.heap.size W0 W3 := hBr.trans hk3.1
        have hb3 : Boxed W3 Bs 69 (.slice (some ⟨g, 0, none⟩) zs.length uc) := hk3.2.trans hbr
        gi_wp2
        go_roundw
        case rel =>
          refine ⟨j, _, ?_, by omega, ?_, hJ3, hB3, hb3⟩
          · cases j with
            | zero => exact .inl ⟨rfl, by first | rfl | go_num⟩
            | succ j => exact .inr ⟨j, rfl, by go_num⟩
          · rw [Hid, List.map_append, HP.out, HD.out]
            rfl
        case measure => simp [intOf] <;> omega
      · gi_wp2
        refine bodyPost_ret (results_none rfl _ _ _) rfl ?_
        exact ⟨⟨_, rfl⟩, .inr ⟨_, trivial, hJx3⟩⟩
theorem backStops (F : Fence) (n : Nat) (hn : 1 ≤ n) (hF : F.fn 145) (hro : F.round = none) (Bs b : Nat) (W0 wB : World) (u : Value) (zs : List (Pt W0)) (hz : zs.length ≤ 100000)
    (hrow : W0.ownsRow b 66 1 u zs.length (zs.map fun x => x.1.2)) (hB : Below W0.heap.size W0 wB) (hbox : Boxed wB Bs 69 u) :
    SeqStopsK F n Tryz.prog 145 #[.pointer (some ⟨Bs, 0, none⟩)] (fun x : Int × Pt W0 => #[.int .i64 x.1, x.2.1.2]) (KpB W0.heap.size Bs) (fun ys => ys.map Prod.snd = zs.reverse) (fun _ => True) zs.length wB := fun l J Jx W hW _ _ hY h0 =>
  backLoop F n hn hF hro l Bs b W0 u zs hz J Jx hrow hY W (hB.trans (hW.mono hB.size)) ((hW.block _ hbox.lt).trans hbox) h0
theorem implBackward (a : Option Addr) (m c : Nat) (w : World) :
    Calls Tryz.prog 108 #[.slice a m c] w fun e w' => e = .returned (.func (.func 145) #[] #[.pointer (some ⟨w.heap.size, 0, none⟩)]) ∧ w' = w.alloc (.cells #[.slice a m c] 69) := by
  go_enter Tryz.func108, Tryz.ntmps108
  go_wp2
  go_ret
  exact ⟨rfl, rfl⟩

theorem noStr_of {A : World} {row : Option Nat} (hr : ∀ r, row = some r → ∃ o : Obj, A.heap[r]? = some o ∧ o.isCells = false) : NoStr A row := fun k cs e fr hk _ hh => by
  obtain ⟨o, ho, hc⟩ := hr k hk
  rw [ho] at hh
  cases hh
  cases hc
theorem irepBox_own {β : Type} (B : Nat) (f : β → Tm) : Own (fun s W => ∃ v, Boxed W B 66 v ∧ IRep W (f s) v) := by
  rintro s X Y row ⟨v, h1, h2⟩ hg hr
  refine ⟨v, h1.kept hg (fun e' => ?_), h2.grown hg (noStr_of hr)⟩
  obtain ⟨o, ho, hc⟩ := hr B e'.symm
  rw [show X.heap[B]? = _ from h1] at ho
  cases ho
  cases hc
def piFold {W : World} (t : Tm) (pre : List (Int × Pt W)) : Tm := pre.foldl (fun acc x => .pi x.2.1.1 acc) t
theorem piFold_snoc {W : World} (t : Tm) (pre : List (Int × Pt W)) (x : Int × Pt W) : piFold t (pre ++ [x]) = .pi x.2.1.1 (piFold t pre) := by simp [piFold]
theorem piFold_all {W : World} (t : Tm) (zs : List (Pt W)) (pre : List (Int × Pt W)) (h : pre.map Prod.snd = zs.reverse) : piFold t pre = Tm.arrows (trees zs) t := by
  have h1 : ∀ (l : List (Int × Pt W)) (t : Tm), l.foldl (fun acc x => Tm.pi x.2.1.1 acc) t = (l.map Prod.snd).foldl (fun acc x => Tm.pi x.1.1 acc) t := fun l => by
    induction l with
    | nil => intro t; rfl
    | cons x l ih => intro t; exact ih _
  rw [piFold, h1, h, List.foldl_reverse, Tm.arrows, trees, List.foldr_map]

set_option maxHeartbeats 8000000 in
theorem implArrowsT {w : World} {t : Tm} {v u : Value} {b : Nat} {ts : List Tm} {vs : List Value} (hr : IRep w t v) (h : w.ownsRow b 66 1 u ts.length vs) (hs : IReps w ts vs) (hts : ∀ t ∈ ts, IsTm t.bytes t) (hn : ts.length ≤ 100000) :
    Calls Tryz.prog 62 #[u, v] w fun e W' => Below w.heap.size w W' ∧ ∃ v', e = .returned v' ∧ IRep W' (Tm.arrows ts t) v' := by
  obtain ⟨zs, e1, e2⟩ := ptList hs hts
  have hzl : zs.length = ts.length := by rw [← e1, trees_len]
  rw [← hzl, ← e2] at h
  rw [← hzl] at hn
  subst e1
  obtain ⟨ua, uc, rfl⟩ := row_slice h
  obtain ⟨T0, x0, rfl⟩ := hr.iface
  clear hs hts e2 hzl
  refine (callsIn_wide (n := 3)).1 ?_
  refine callsIn_of_wp_marks Tryz.func62 rfl trivial ?_ rfl
  simp only [Tryz.ntmps62, List.size_toArray, List.length_cons, List.length_nil, Nat.reduceAdd, Nat.reduceSub, Array.replicate_succ, Array.replicate_zero, List.push_toArray, List.append_toArray, List.nil_append, List.cons_append]
  gi_wp2_with ((try refine ⟨trivial, ?_⟩); gi_at_call 108; refine (callsIn_wide.2 (implBackward _ _ _ _)).mono ?_; rintro e w' ⟨rfl, rfl⟩)
  have bT := Boxed.new w 66 (.iface T0 x0)
  have hB0 : Below w.heap.size w (w.alloc (.cells #[.iface T0 x0] 66)) := (Below.refl _ w).alloc (Nat.le_refl _) _
  have bS := Boxed.new (w.alloc (.cells #[.iface T0 x0] 66)) 69 (.slice ua zs.length uc)
  have hB1 := hB0.alloc hB0.size (.cells #[.slice ua zs.length uc] 69)
  have bT1 := bT.alloc (.cells #[.slice ua zs.length uc] 69)
  rw [World.size_alloc] at bS
  refine wpIn_rangeFunc_ownG rfl (by omega) (gf := 145) (lb := #[.pointer (some ⟨w.heap.size + 1, 0, none⟩)]) rfl trivial (enters_of Tryz.func145 (by kernel_rfl) rfl)
    (backStops Fence.wide 2 (by omega) trivial rfl (w.heap.size + 1) b w _ _ zs hn h hB1 bS) KpB.trans
    (fun W l o o' hl ho hc hw => ⟨belowK_b (w := w) (Nat.le_refl _) W l o o' (by simp at hl; omega) ho hc hw, World.putObj_heap_other (fun e => by simp at hl; omega)⟩) (Below.refl _ _) (fun _ => rfl)
    (fun (pre : List (Int × Pt w)) W => (∃ v, Boxed W w.heap.size 66 v ∧ IRep W (piFold t pre) v) ∧ Below w.heap.size ((w.alloc (.cells #[.iface T0 x0] 66)).alloc (.cells #[.slice ua zs.length uc] 69)) W)
    (fun _ _ _ => False)
    (OwnFrom.and (Own.from (irepBox_own w.heap.size (fun pre : List (Int × Pt w) => piFold t pre)) _) (ownFrom_below hB1.size hB1.size))
    (fun _ _ _ _ _ hs _ _ => hs)
    ⟨⟨_, bT1, hr.below hB1⟩, Below.refl _ _⟩
    (fun x : Int × Pt w => { tmps := #[.slice ua zs.length uc, .iface T0 x0, undef, .pointer (some ⟨w.heap.size, 0, none⟩), .nilIface, undef, x.2.1.2, .slice ua zs.length uc, .func (.func 145) #[] #[.pointer (some ⟨w.heap.size + 1, 0, none⟩)], .int .i64 x.1, x.2.1.2, undef, undef, undef, undef, undef, undef], defers := [] }) ?assign ?body ?done ?stop
  case assign =>
    intro l x W K hK
    gi_wp2
    exact hK
  case body =>
    rintro l pre ⟨ix, ⟨⟨tm, tv⟩, hr0, hok, hlen⟩⟩ W ⟨⟨v, hv1, hrv⟩, hB⟩ hlt
    obtain ⟨T2, x2, rfl⟩ := IRep.iface hr0
    obtain ⟨T3, x3, rfl⟩ := hrv.iface
    have hc := hv1.cell
    have hf := hv1.frozen
    have hB2 := hB1.trans hB
    have hrW : IRep W tm (.iface T2 x2) := IRep.below hB2 hr0
    have hsz : w.heap.size + 2 ≤ W.heap.size := by have := hB.size; simp at this; omega
    have hca := (hv1.alloc (.cells #[.iface T2 x2, .iface T3 x3] 130)).cell
    have hfa := (hv1.alloc (.cells #[.iface T2 x2, .iface T3 x3] 130)).frozen
    gi_wp2
    have ka : Below W.heap.size W (W.alloc (.cells #[.iface T2 x2, .iface T3 x3] 130)) := Below.alloc (Below.refl _ _) (Nat.le_refl _) _
    have ko := KeepsOthers.alloc W (.cells #[.iface T2 x2, .iface T3 x3] 130)
    have hna := heap_alloc_new W (.cells #[.iface T2 x2, .iface T3 x3] 130)
    have hva := hv1.alloc (.cells #[.iface T2 x2, .iface T3 x3] 130)
    have ra := hrW.below ka
    have rb := hrv.below ka
    have oa := ka.block (w.heap.size + 1) (by omega)
    have kb := ka.mono hB2.size
    generalize W.alloc (.cells #[.iface T2 x2, .iface T3 x3] 130) = Wa at ko hna hva ra rb oa kb ⊢
    have ns : NoStr Wa (some w.heap.size) := fun k cs e fr hk ht hh => by
      cases hk
      rw [show Wa.heap[w.heap.size]? = _ from hva] at hh
      cases hh
      exact absurd ht (by decide)
    have g1 := grownBy_setCell' Wa w.heap.size (.iface 128 (.pointer (some ⟨W.heap.size, 0, none⟩)))
    have o1 := Below.heap_setCell Wa ⟨w.heap.size, 0, none⟩ (.iface 128 (.pointer (some ⟨W.heap.size, 0, none⟩))) (w.heap.size + 1) (by simp)
    have kc := kb.setCell (p := ⟨w.heap.size, 0, none⟩) (Nat.le_refl _) (.iface 128 (.pointer (some ⟨W.heap.size, 0, none⟩)))
    refine ⟨(ko.trans (KeepsOthers.setCell _ _ _)).from _, ⟨kc, o1.trans oa⟩, ⟨_, hva.set _, ?_⟩, hB.trans kc⟩
    rw [piFold_snoc]
    exact ⟨_, _, _, rfl, heap_grown g1 ns (by decide) hna, ra.grown g1 ns, rb.grown g1 ns⟩
  case done =>
    rintro D ys W hD hys ⟨⟨v, hv1, hrv⟩, hB⟩ hK
    have hc := hv1.cell
    gi_wp2
    refine ⟨by simp, .inl ⟨_, _, rfl, run_takeDeferred hK, ?_⟩⟩
    refine ⟨_, results_tmp rfl _ _ _, (hB1.trans hB).trans (belowK_b (w := w) (Nat.le_refl _) W D _ _ (by simp at hD; omega) hK rfl rfl), v, rfl, ?_⟩
    rw [← piFold_all t zs ys hys]
    exact hrv.grown (grownBy_putObj' W D _) (noStr_of fun r e => by cases e; exact ⟨_, hK, rfl⟩)
  case stop =>
    rintro D c pre W _ _ h _
    exact h.elim
end Go.Proofs.YtgielbamebjjdaaGreatDoor

namespace Go.Proofs.YtgielbamebjjdaaGreatDoor
set_option maxRecDepth 100000
open Go.ChangeShapes Go.WideShapes Go.ChangeAt Go.RowKit
set_option linter.unusedSimpArgs false
set_option linter.unusedVariables false

theorem AllTm.flatP {ls : List (List UInt8)} {ts : List Tm} (h : AllTm ls ts) : catP ts = (ls.map fun d => 112 :: d).flatten := by rw [catP, ← h.1, List.map_map]; rfl
theorem flatP_len : ∀ (ls : List (List UInt8)), (ls.map fun d => (112 : UInt8) :: d).flatten.length = ls.length + ls.flatten.length
  | [] => rfl
  | x :: ls => by
    have := flatP_len ls
    simp only [List.map_cons, List.flatten_cons, List.length_append, List.length_cons, this]
    omega
theorem arrows_no {t : List UInt8} (ls : List (List UInt8)) (hno : ∀ u, ¬ IsTm t u) : arrowsOf ls t = none := by
  unfold arrowsOf
  rw [if_neg]
  rintro ⟨h1, _⟩
  obtain ⟨u, hu⟩ := termOk_iff.1 h1
  exact hno u hu
theorem arrows_no2 (t : List UInt8) {ls : List (List UInt8)} (hno : (∃ a ∈ ls, ∀ t, ¬ IsTm a t) ∨ 2000 < ls.flatten.length) : arrowsOf ls t = none := by
  unfold arrowsOf
  rw [if_neg]
  rintro ⟨_, h2, h3⟩
  rcases hno with ⟨a, ha, hx⟩ | hl
  · obtain ⟨t, ht⟩ := termOk_iff.1 (h2 a ha)
    exact hx t ht
  · omega
theorem arrows_yes {t : List UInt8} {ls : List (List UInt8)} {T : Tm} {ts : List Tm} (ht : IsTm t T) (ha : AllTm ls ts) : arrowsOf ls t = sayT (some []) (Tm.arrows ts T) := by
  have hok := arrows_ok ts T ht.1 ha.ok
  have hb := arrows_bytes ts T
  rw [ha.flatP, ht.2.1] at hb
  have hl : (Tm.arrows ts T).bytes.length = t.length + ls.length + ls.flatten.length := by rw [hb, List.length_append, flatP_len]; omega
  unfold arrowsOf
  by_cases hk : t.length + ls.length + ls.flatten.length ≤ 2000
  · rw [if_pos ⟨termOk_iff.2 ⟨T, ht⟩, ha.all, hk⟩, (sayT_nil _).1 ⟨hok, by omega⟩, hb]
  · rw [if_neg (fun hh => hk hh.2.2), (sayT_nil _).2 (fun hh => hk (by have := hh.2; omega))]

set_option maxHeartbeats 4000000 in
theorem implArrows (s : ByteArray) {W : World} {b : Nat} {v : Value} {ls : List (List UInt8)} (hv : Vars W) (hs : s.size ≤ maxLen) (h : W.ownsRow b 9 1 v ls.length (ls.map sv)) (hn : ls.length ≤ 1048576) (hx : ∀ x ∈ ls, x.length ≤ 1048576) :
    Calls Tryz.prog 18 #[v, .string s] W fun e w' => e = .returned (putRes (arrowsOf ls s.data.toList)) ∧ Below W.heap.size W w' := by
  have f1 := Lib.hid (implReadTerms hv h hn hx)
  have f2 := Lib.hid fun W1 (hb : Below W.heap.size W W1) => implReadTerm s W1 (hv.below hb) hs
  have HV := Lib.hid hv
  obtain ⟨ua, uc, rfl⟩ := row_slice h
  clear hv h hx hs
  go_enter Tryz.func18, Tryz.ntmps18
  go_wp2_with fail
  (with_reducible refine f1.out.mono ?_); rintro e w1 ⟨hb, ⟨ts, u, vs, hA, hfl, hl2, rfl, hu, hvs⟩ | ⟨hno, rfl⟩⟩
  rotate_left
  · have HB := Lib.hid hb
    have HE : Hid (arrowsOf ls s.data.toList = none) := arrows_no2 _ hno
    clear hno f1 hb
    go_wp2_with fail
    (with_reducible refine (f2.out _ HB.out).mono ?_); rintro e w2 ⟨hb2, ⟨t, tv, ht, rfl, hr⟩ | ⟨hno2, rfl⟩⟩
    · have HB2 := Lib.hid (HB.out.trans (hb2.mono HB.out.size))
      obtain ⟨T, x, rfl⟩ := hr.iface
      clear hb2 ht hr f2
      go_wp2
      go_ret2
      rw [HE.out]
      exact ⟨rfl, HB2.out⟩
    · have HB2 := Lib.hid (HB.out.trans (hb2.mono HB.out.size))
      clear hb2 hno2 f2
      go_wp2
      go_ret2
      rw [HE.out]
      exact ⟨rfl, HB2.out⟩
  have HB := Lib.hid hb
  have HU := Lib.hid hu
  obtain ⟨xa, xc, rfl⟩ := row_slice hu
  clear hb f1 hu
  go_wp2_with fail
  (with_reducible refine (f2.out _ HB.out).mono ?_); rintro e w2 ⟨hb2, ⟨t, tv, ht, rfl, hr⟩ | ⟨hno2, rfl⟩⟩
  rotate_left
  · have HB2 := Lib.hid (HB.out.trans (hb2.mono HB.out.size))
    have HE : Hid (arrowsOf ls s.data.toList = none) := arrows_no _ hno2
    clear hb2 hno2 f2 hA hvs HU
    go_wp2
    go_ret2
    rw [HE.out]
    exact ⟨rfl, HB2.out⟩
  have HB2 := Lib.hid (HB.out.trans (hb2.mono HB.out.size))
  have HE := Lib.hid (arrows_yes ht hA)
  have hok := arrows_ok ts t ht.1 hA.ok
  have hbl := congrArg List.length (arrows_bytes ts t)
  rw [hA.flatP, List.length_append, flatP_len] at hbl
  have hle := ht.2.2
  rw [← ht.2.1] at hle
  have hll := hA.len
  have f3 := Lib.hid (implArrowsT hr (own_below HU.out hb2) (hvs.below hb2) hA.2 (by omega))
  have f4 := Lib.hid fun W2 v' (hb3 : Below W.heap.size W W2) (hr3 : IRep W2 (Tm.arrows ts t) v') => implTextWithin (HV.out.below hb3) hok.lim9 hok.pre (by omega) hr3
  obtain ⟨T0, x0, rfl⟩ := hr.iface
  generalize Tm.arrows ts t = R at f3 f4 HE
  clear hb2 hA HU hvs f2 ht hr hok hbl hle hll hfl HB
  go_wp2_with fail
  (with_reducible refine f3.out.mono ?_); rintro e w3 ⟨hb3, v', rfl, hr3⟩
  have HB3 := Lib.hid (HB2.out.trans (hb3.mono HB2.out.size))
  have f5 := Lib.hid (f4.out w3 v' HB3.out hr3)
  obtain ⟨T1, x1, rfl⟩ := hr3.iface
  obtain ⟨o2, ho⟩ := putRes_get (sayT (some []) R)
  rw [ho] at f5
  have HO := Lib.hid ho
  clear hr3 hb3 f3 f4 ho
  go_wp2_with fail
  (with_reducible refine f5.out.mono ?_); rintro e w4 ⟨rfl, hb4⟩
  have HB4 := Lib.hid (HB3.out.trans (hb4.mono HB3.out.size))
  clear hb4 f5
  go_wp2
  go_ret2
  rw [HE.out, HO.out]
  exact ⟨rfl, HB4.out⟩
end Go.Proofs.YtgielbamebjjdaaGreatDoor

namespace Go.Proofs.YtgielbamebjjdaaGreatDoor
set_option maxRecDepth 100000
open Go.ChangeShapes Go.WideShapes Go.ChangeAt Go.RowKit

set_option maxHeartbeats 1000000 in
theorem implNamesOk {w : World} {b : Nat} {v : Value} {l : List (List UInt8)} (h : w.ownsRow b 9 1 v l.length (l.map sv)) (hn : l.length ≤ 1048576) (hx : ∀ x ∈ l, x.length ≤ maxLen) :
    Calls Tryz.prog 22 #[v] w fun e w' => e = .returned (.bool (namesOk l)) ∧ Below w.heap.size w w' := by
  rcases Nat.eq_zero_or_pos l.length with h0 | hp
  · obtain ⟨a, cap, rfl⟩ := own_nil_or h h0
    obtain rfl : l = [] := List.length_eq_zero_iff.1 h0
    clear h h0 hn
    go_enter Tryz.func22, Tryz.ntmps22
    go_wp2
    refine wp_loop_rounds 1 ?_
    rw [rounds_succ]
    go_wp2
    go_ret
    exact ⟨rfl, Below.refl _ _⟩
  · obtain ⟨g, cap, rfl, _, hgl⟩ := h.form hp
    go_enter Tryz.func22, Tryz.ntmps22
    go_wp2
    go_loopw [7] (fun i wr => ∃ k : Nat, k ≤ l.length ∧ i = .int .i64 k ∧ Below w.heap.size w wr ∧ Hid (∀ j, j < k → okAt l j = true)) (fun i _ => l.length - (intOf i).toNat)
    case atStart => exact ⟨0, Nat.zero_le _, rfl, Below.refl _ _, by simp [Hid]⟩
    case round =>
      obtain ⟨k, hk, rfl, hbel, HA⟩ := hrel
      by_cases hlt : k < l.length
      · have cc := h.cellAt k (by omega)
        have ex : (l.map sv)[k]? = some (sv l[k]) := by simp [hlt]
        rw [ex] at cc
        unfold sv at cc
        have cr := (hbel.cell (p := ⟨g, k, none⟩) hgl).trans cc
        have q1 : (0 : Int) ≤ (k : Int) := by omega
        have q2 : (k : Int) < (l.length : Int) := by omega
        have f1 := Lib.hid fun W => implNameOk ⟨l[k].toArray⟩ W (by rw [size_sv]; exact hx _ (List.getElem_mem hlt))
        simp only at f1
        by_cases hN : nameOk l[k] = true
        · rw [hN] at f1
          rcases Nat.eq_zero_or_pos k with hk0 | hkp
          · have HR := Lib.hid (show ∀ j, j < k + 1 → okAt l j = true by
              intro j hj
              obtain rfl : j = 0 := by omega
              subst hk0
              exact okAt_zero hlt hN)
            have q3 : decide ((0 : Int) < (k : Int)) = false := by simp; omega
            have q5 : k ≤ 0 := by omega
            have q6 : decide (0 < k) = false := by simp; omega
            clear ex cc hN HA hk0
            generalize l[k] = y at cr f1
            go_wp2_with fail
            (with_reducible refine (f1.out _).mono ?_); rintro e w1 ⟨rfl, hb1⟩
            go_wp2
            go_roundw
            case rel => exact ⟨k + 1, by omega, by go_num, hbel.trans (hb1.mono hbel.size), HR.out⟩
            case measure => simp [intOf]; omega
          · obtain ⟨k', rfl⟩ : ∃ k', k = k' + 1 := ⟨k - 1, by omega⟩
            have cc2 := h.cellAt k' (by omega)
            have ex2 : (l.map sv)[k']? = some (sv l[k']) := by simp [show k' < l.length by omega]
            rw [ex2] at cc2
            unfold sv at cc2
            have hO := Lib.hid (okAt_succ hlt hN)
            have hF := Lib.hid fun hb => namesOk_bad (l := l) hlt hb
            clear ex ex2 cc hN
            generalize l[k'] = x at cc2 hO
            generalize l[k' + 1] = y at cr f1 hO
            have q3 : decide ((0 : Int) < ((k' : Nat) : Int) + 1) = true := decide_eq_true (by omega)
            have hz := hbel.size
            by_cases hL : x < y
            · have hL2 : Op.bytesLess x y = true := by rw [Go.Proofs.bytesLess_eq]; simpa using hL
              have HR := Lib.hid (show ∀ j, j < k' + 1 + 1 → okAt l j = true by
                intro j hj
                by_cases e : j = k' + 1
                · rw [e, hO.out]; simpa using hL
                · exact HA.out j (by omega))
              clear HA hL hO
              go_wp2_with fail
              (with_reducible refine (f1.out _).mono ?_); rintro e w1 ⟨rfl, hb1⟩
              have cr2 : w1.cell? ⟨g, k', none⟩ = some (.string ⟨x.toArray⟩) := (hb1.cell (p := ⟨g, k', none⟩) (Nat.lt_of_lt_of_le hgl hz)).trans ((hbel.cell (p := ⟨g, k', none⟩) hgl).trans cc2)
              go_wp2
              go_roundw
              case rel => exact ⟨k' + 1 + 1, by omega, by go_num, hbel.trans (hb1.mono hz), HR.out⟩
              case measure => simp [intOf]; omega
            · have hL2 : Op.bytesLess x y = false := by rw [Go.Proofs.bytesLess_eq]; simpa using hL
              have HR := Lib.hid (hF.out (by rw [hO.out]; simpa using hL))
              clear HA hL hO
              go_wp2_with fail
              (with_reducible refine (f1.out _).mono ?_); rintro e w1 ⟨rfl, hb1⟩
              have cr2 : w1.cell? ⟨g, k', none⟩ = some (.string ⟨x.toArray⟩) := (hb1.cell (p := ⟨g, k', none⟩) (Nat.lt_of_lt_of_le hgl hz)).trans ((hbel.cell (p := ⟨g, k', none⟩) hgl).trans cc2)
              go_wp2
              go_ret
              rw [HR.out]
              exact ⟨rfl, hbel.trans (hb1.mono hz)⟩
        · rw [Bool.not_eq_true] at hN
          have HR := Lib.hid (namesOk_bad hlt (okAt_name hlt hN))
          rw [hN] at f1
          clear ex cc hN HA
          generalize l[k] = y at cr f1
          go_wp2_with fail
          (with_reducible refine (f1.out _).mono ?_); rintro e w1 ⟨rfl, hb1⟩
          go_wp2
          go_ret
          rw [HR.out]
          exact ⟨rfl, hbel.trans (hb1.mono hbel.size)⟩
      · obtain rfl : k = l.length := by omega
        have HR := Lib.hid (namesOk_done HA.out)
        clear h HA
        go_wp2
        go_ret
        rw [HR.out]
        exact ⟨rfl, hbel⟩
end Go.Proofs.YtgielbamebjjdaaGreatDoor
