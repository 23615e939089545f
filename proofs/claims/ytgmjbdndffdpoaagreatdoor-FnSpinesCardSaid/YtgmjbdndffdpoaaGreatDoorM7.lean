/-
  Contracts of impl.headOf, impl.targetOf, impl.HeadOf and impl.Target.
  The iterators: contracts of impl.yieldArguments, impl.argumentsOf, impl.domainsOf and the functions that these return.
  Contracts of impl.textsOf, impl.ArgsOf and impl.Domains.
  Contracts of slices.Backward at terms, the function that it returns, and impl.arrows.
  The contract of impl.Arrows.
-/
import Derived.Test.YtgmjbdndffdpoaaGreatDoorM3
import Derived.Test.YtgmjbdndffdpoaaGreatDoorEMath
import Derived.Test.YtgmjbdndffdpoaaGreatDoorENode
import Derived.Test.YtgmjbdndffdpoaaGreatDoorM5
import Derived.RangeFuncKeeps
import Derived.RangeFuncBound
import Derived.RangeFuncLeaves
import Derived.Shelf.Abstract
import Derived.WalkKit
import Derived.OwnWalkIn
import Derived.TacticsInMore
import Derived.LoopNIn
import Derived.LoopIn
import Derived.RangeFuncBox
import Derived.Maps.AppendAt
import Derived.RangeFuncCalls
import Derived.RangeFuncWrites
import Derived.RegionIn
import Derived.Shelf.RegionOpen
import Derived.Test.YtgmjbdndffdpoaaGreatDoorListsP
import Derived.Test.YtgmjbdndffdpoaaGreatDoorEKeep
import Derived.Test.YtgmjbdndffdpoaaGreatDoorNWalks
import Derived.Test.YtgmjbdndffdpoaaGreatDoorM6
namespace Go.Proofs.YtgmjbdndffdpoaaGreatDoor
set_option maxRecDepth 100000
open Go.ChangeShapes Go.WideShapes Go.ChangeAt Go.RowKit
set_option linter.unusedSimpArgs false
set_option linter.unusedVariables false

set_option maxHeartbeats 4000000 in
theorem implHeadOfT {t : Tm} {v : Value} {W : World} (h : IRep W t v) :
    Calls Tryz.prog 31 #[v] W fun e W' => W' = W ∧ ∃ v', e = .returned v' ∧ IRep W t.head v' := by
  have HT := Lib.hid h
  clear h
  go_enter Tryz.func31, Tryz.ntmps31
  go_wp2
  go_loopw [0] (fun o wr => ∃ (u : Tm) (oo : Value), oo = o ∧ wr = W ∧ Hid (IRep W u oo ∧ u.head = t.head)) (fun o _ => msr W o)
  case atStart => exact ⟨t, _, rfl, rfl, ⟨HT.out, rfl⟩⟩
  case round =>
    obtain ⟨u, oo, rfl, rfl, HU⟩ := hrel
    clear HT
    by_cases hk : u.kind = 64
    · obtain ⟨p, q, rfl⟩ := kind_app hk
      obtain ⟨h1, h2⟩ := HU.out
      obtain ⟨g, x, y, rfl, hg, hx, hy⟩ := id h1
      have HM := Lib.hid (msr_app h1 hg)
      have HN : Hid (IRep wr p x ∧ p.head = t.head) := ⟨hx, h2⟩
      have cc : wr.cell? ⟨g, 0, none⟩ = some x := by rw [Lib.cell_of_heap hg]; rfl
      have tA := (taApp 75 (.pointer (some ⟨g, 0, none⟩)) wr).trans (by rw [if_pos rfl])
      clear HU h1 h2 hg hx hy hk
      go_wp2
      go_roundw
      case rel => exact ⟨_, _, rfl, trivial, HN⟩
      case measure => exact HM.out
    · have tA := asked_app HU.out.1 hk wr
      have HR : Hid (IRep wr t.head oo) := by rw [Hid, ← HU.out.2, (not_app hk).1]; exact HU.out.1
      clear HU hk
      go_wp2
      go_ret
      exact ⟨rfl, _, rfl, HR.out⟩

set_option maxHeartbeats 4000000 in
theorem implHeadOf (s : ByteArray) (W : World) (hv : Vars W) (hs : s.size ≤ maxLen) :
    Calls Tryz.prog 10 #[.string s] W fun e W' => e = .returned (.string ⟨(headOf s.data.toList).toArray⟩) ∧ Below W.heap.size W W' := by
  have f1 := Lib.hid (implReadTerm s W hv hs)
  go_enter Tryz.func10, Tryz.ntmps10
  go_wp2_with fail
  (with_reducible refine f1.out.mono ?_); rintro e W1 ⟨hb, ⟨t, v, ht, rfl, hr⟩ | ⟨hno, rfl⟩⟩
  rotate_left
  · have HE : Hid (headOf s.data.toList = []) := by rw [Hid, headOf, termOf_none hno]
    have HB := Lib.hid hb
    clear hno hb f1
    go_wp2
    go_ret
    rw [HE.out]
    exact ⟨rfl, HB.out⟩
  have HE : Hid (headOf s.data.toList = t.head.bytes) := by rw [Hid, headOf, termOf_some ht]
  have hle := ht.2.2
  rw [← ht.2.1] at hle
  have HB := Lib.hid hb
  have HV := Lib.hid (hv.below hb)
  have f2 := Lib.hid (implHeadOfT hr)
  have f3 := Lib.hid fun v' (h : IRep W1 t.head v') => implText HV.out (Tm.head_ok ht.1).lim9 h (by have := t.head_len; omega)
  obtain ⟨T0, x0, rfl⟩ := hr.iface
  clear f1 ht hle hr hb
  go_wp2_with fail
  (with_reducible refine f2.out.mono ?_); rintro e w2 ⟨rfl, v', rfl, hr2⟩
  have f4 := Lib.hid (f3.out v' hr2)
  obtain ⟨T1, x1, rfl⟩ := hr2.iface
  clear f2 f3 hr2
  go_wp2_with fail
  (with_reducible refine f4.out.mono ?_); rintro e W3 ⟨rfl, hb2⟩
  have HB2 := Lib.hid (HB.out.trans (hb2.mono HB.out.size))
  clear hb2
  go_wp2
  go_ret
  rw [HE.out]
  exact ⟨rfl, HB2.out⟩

set_option maxHeartbeats 4000000 in
theorem implTargetT {t : Tm} {v : Value} {W : World} (h : IRep W t v) :
    Calls Tryz.prog 36 #[v] W fun e W' => W' = W ∧ ∃ v', e = .returned v' ∧ IRep W t.targ v' := by
  have HT := Lib.hid h
  clear h
  go_enter Tryz.func36, Tryz.ntmps36
  go_wp2
  go_loopw [0] (fun o wr => ∃ (u : Tm) (oo : Value), oo = o ∧ wr = W ∧ Hid (IRep W u oo ∧ u.targ = t.targ)) (fun o _ => msr W o)
  case atStart => exact ⟨t, _, rfl, rfl, ⟨HT.out, rfl⟩⟩
  case round =>
    obtain ⟨u, oo, rfl, rfl, HU⟩ := hrel
    clear HT
    by_cases hk : u.kind = 112
    · obtain ⟨p, q, rfl⟩ := kind_pi hk
      obtain ⟨h1, h2⟩ := HU.out
      obtain ⟨g, x, y, rfl, hg, hx, hy⟩ := id h1
      have HM := Lib.hid (msr_pi h1 hg)
      have HN : Hid (IRep wr q y ∧ q.targ = t.targ) := ⟨hy, h2⟩
      have cc : wr.cell? ⟨g, 1, none⟩ = some y := by rw [Lib.cell_of_heap hg]; rfl
      have tA := (taPi 85 (.pointer (some ⟨g, 0, none⟩)) wr).trans (by rw [if_pos rfl])
      clear HU h1 h2 hg hx hy hk
      go_wp2
      go_roundw
      case rel => exact ⟨_, _, rfl, trivial, HN⟩
      case measure => exact HM.out
    · have tA := asked_pi HU.out.1 hk wr
      have HR : Hid (IRep wr t.targ oo) := by rw [Hid, ← HU.out.2, (not_pi hk).1]; exact HU.out.1
      clear HU hk
      go_wp2
      go_ret
      exact ⟨rfl, _, rfl, HR.out⟩

set_option maxHeartbeats 4000000 in
theorem implTarget (s : ByteArray) (W : World) (hv : Vars W) (hs : s.size ≤ maxLen) :
    Calls Tryz.prog 14 #[.string s] W fun e W' => e = .returned (.string ⟨(targetOf s.data.toList).toArray⟩) ∧ Below W.heap.size W W' := by
  have f1 := Lib.hid (implReadTerm s W hv hs)
  go_enter Tryz.func14, Tryz.ntmps14
  go_wp2_with fail
  (with_reducible refine f1.out.mono ?_); rintro e W1 ⟨hb, ⟨t, v, ht, rfl, hr⟩ | ⟨hno, rfl⟩⟩
  rotate_left
  · have HE : Hid (targetOf s.data.toList = []) := by rw [Hid, targetOf, termOf_none hno]
    have HB := Lib.hid hb
    clear hno hb f1
    go_wp2
    go_ret
    rw [HE.out]
    exact ⟨rfl, HB.out⟩
  have HE : Hid (targetOf s.data.toList = t.targ.bytes) := by rw [Hid, targetOf, termOf_some ht]
  have hle := ht.2.2
  rw [← ht.2.1] at hle
  have HB := Lib.hid hb
  have HV := Lib.hid (hv.below hb)
  have f2 := Lib.hid (implTargetT hr)
  have f3 := Lib.hid fun v' (h : IRep W1 t.targ v') => implText HV.out (Tm.targ_ok ht.1).lim9 h (by have := t.targ_len; omega)
  obtain ⟨T0, x0, rfl⟩ := hr.iface
  clear f1 ht hle hr hb
  go_wp2_with fail
  (with_reducible refine f2.out.mono ?_); rintro e w2 ⟨rfl, v', rfl, hr2⟩
  have f4 := Lib.hid (f3.out v' hr2)
  obtain ⟨T1, x1, rfl⟩ := hr2.iface
  clear f2 f3 hr2
  go_wp2_with fail
  (with_reducible refine f4.out.mono ?_); rintro e W3 ⟨rfl, hb2⟩
  have HB2 := Lib.hid (HB.out.trans (hb2.mono HB.out.size))
  clear hb2
  go_wp2
  go_ret
  rw [HE.out]
  exact ⟨rfl, HB2.out⟩

end Go.Proofs.YtgmjbdndffdpoaaGreatDoor

namespace Go.Proofs.YtgmjbdndffdpoaaGreatDoor
set_option maxRecDepth 100000
open Go.ChangeShapes Go.WideShapes Go.ChangeAt Go.RowKit Go.Shelf
set_option linter.unusedSimpArgs false
set_option linter.unusedVariables false
attribute [local go_sem] Oper.semAt_some

/-- A tree with a value that stands for it. -/
abbrev Pt (W0 : World) := { p : Tm × Value // IRep W0 p.1 p.2 ∧ p.1.Ok ∧ p.1.bytes.length ≤ 2000 }
def trees {W0 : World} (l : List (Pt W0)) : List Tm := l.map fun x => x.1.1
theorem trees_snoc {W0 : World} (l : List (Pt W0)) (x : Pt W0) : trees (l ++ [x]) = trees l ++ [x.1.1] := by simp [trees]
theorem trees_len {W0 : World} (l : List (Pt W0)) : (trees l).length = l.length := by simp [trees]
theorem yieldAny {F : Fence} (hd : F.depth = none) {m m' : Nat} {P : Program} {l : Nat} {args : Array Value} {W : World} {R : Ending → World → Prop} (h : YieldAt F m P l args W R) : YieldAt F m' P l args W R := by
  obtain ⟨fn, tmps, assign, body, hy, hR⟩ := h
  exact ⟨fn, tmps, assign, body, hy, hR.1, fun c cs _ => hR.2 c cs (fun d h => by rw [hd] at h; cases h)⟩

theorem undefBool {b : Bool} (h : some undef = some (Value.bool b)) : False := by simp [undef] at h

set_option maxHeartbeats 4000000 in
theorem yieldNone (F : Fence) (hF : F.fn 54) (hro : F.round = none) {l : Nat} {W0 : World} {T : Tm} (hk : T.kind ≠ 64) (n : Nat) (v : Value) (W : World) (hr : IRep W0 T v) :
    CallsIn F n Tryz.prog 54 #[v, .func (.yield l) #[] #[]] W fun e W' => e = .returned (.bool true) ∧ W' = W := by
  have tA := asked_app hr hk W
  obtain ⟨T0, x0, rfl⟩ := hr.iface
  clear hr hk
  refine callsIn_of_wp Tryz.func54 rfl hF ?_ hro
  simp only [Tryz.ntmps54, List.size_toArray, List.length_cons, List.length_nil, Nat.reduceAdd, Nat.reduceSub, Array.replicate_succ, Array.replicate_zero, List.push_toArray, List.append_toArray, List.nil_append, List.cons_append]
  gi_wp2
  any_goals exact (undefBool (by assumption)).elim
  refine ⟨fun _ h => (by cases h), ?_⟩
  gi_wp2
  go_ret
  exact ⟨rfl, rfl⟩

set_option maxHeartbeats 8000000 in
theorem yieldArgs (F : Fence) (hd : F.depth = none) (hF : F.fn 54) (hro : F.round = none) (l N : Nat) (W0 : World) (J Jx : List (Pt W0) → World → Prop)
    (hY : ∀ m pre (x : Pt W0) W, J pre W → pre.length < N → YieldAt F m Tryz.prog l #[x.1.2] W fun e W' =>
      (e = .returned (.bool true) ∧ J (pre ++ [x]) W' ∧ Below W0.heap.size W W') ∨ (e = .returned (.bool false) ∧ Jx (pre ++ [x]) W')) (T : Tm) :
    ∀ (n : Nat) (v : Value) (pre : List (Pt W0)) (W : World), IRep W0 T v → T.Ok → T.bytes.length ≤ 2000 → Below W0.heap.size W0 W → J pre W → pre.length + T.args.length ≤ N →
      CallsIn F n Tryz.prog 54 #[v, .func (.yield l) #[] #[]] W fun e W' =>
        (e = .returned (.bool true) ∧ (∃ ys, trees ys = T.args ∧ J (pre ++ ys) W') ∧ Below W0.heap.size W W') ∨ (e = .returned (.bool false) ∧ ∃ q, Jx q W') := by
  have base : ∀ T : Tm, T.kind ≠ 64 → ∀ (n : Nat) (v : Value) (pre : List (Pt W0)) (W : World), IRep W0 T v → T.Ok → T.bytes.length ≤ 2000 → Below W0.heap.size W0 W → J pre W → pre.length + T.args.length ≤ N →
      CallsIn F n Tryz.prog 54 #[v, .func (.yield l) #[] #[]] W fun e W' =>
        (e = .returned (.bool true) ∧ (∃ ys, trees ys = T.args ∧ J (pre ++ ys) W') ∧ Below W0.heap.size W W') ∨ (e = .returned (.bool false) ∧ ∃ q, Jx q W') := by
    intro T hk n v pre W hr _ _ _ hJ _
    refine (yieldNone F hF hro hk n v W hr).mono ?_
    rintro e W' ⟨rfl, rfl⟩
    exact .inl ⟨rfl, ⟨[], by rw [(not_app hk).2]; rfl, by simpa using hJ⟩, Below.refl _ _⟩
  induction T with
  | var _ => exact base _ (by simp [Tm.kind])
  | sort _ => exact base _ (by simp [Tm.kind])
  | const _ _ => exact base _ (by simp [Tm.kind])
  | lam _ _ => exact base _ (by simp [Tm.kind])
  | pi _ _ => exact base _ (by simp [Tm.kind])
  | lett _ _ _ => exact base _ (by simp [Tm.kind])
  | app f a ihf iha =>
    clear base iha
    intro n v pre W hr hok hlen hB hJ hN
    obtain ⟨g, x, y, rfl, hg, hx, hy⟩ := hr
    have hgl : g < W0.heap.size := (Array.getElem?_eq_some_iff.1 hg).1
    have c0 : W.cell? ⟨g, 0, none⟩ = some x := (hB.cell (p := ⟨g, 0, none⟩) hgl).trans (by rw [Lib.cell_of_heap hg]; rfl)
    have c1 : ∀ W1, Below W0.heap.size W W1 → W1.cell? ⟨g, 1, none⟩ = some y := fun W1 h => ((hB.trans h).cell (p := ⟨g, 1, none⟩) hgl).trans (by rw [Lib.cell_of_heap hg]; rfl)
    simp only [Tm.bytes, List.length_cons, List.length_append] at hlen
    simp only [Tm.args, List.length_append, List.length_cons, List.length_nil] at hN
    have hdd : ∀ k : Nat, (F.depth.isSome = true → 1 ≤ k) := fun k h => by rw [hd] at h; cases h
    have ih1 := (ihf (n - 1) x pre W hx hok.1 (by omega) hB hJ (by omega)).mono (R' := fun e W1 =>
        (e = .returned (.bool true) ∧ W1.cell? ⟨g, 1, none⟩ = some y ∧ YieldAt F (n - 1) Tryz.prog l #[y] W1 fun e W2 =>
          (e = .returned (.bool true) ∧ (∃ ys, trees ys = (Tm.app f a).args ∧ J (pre ++ ys) W2) ∧ Below W0.heap.size W W2) ∨ (e = .returned (.bool false) ∧ ∃ q, Jx q W2)) ∨
        (e = .returned (.bool false) ∧ ∃ q, Jx q W1))
      (fun e W1 h => h.elim (fun ⟨he, ⟨ys, h1, h2⟩, hb1⟩ => .inl ⟨he, c1 W1 hb1, YieldAt.mono (hY (n - 1) (pre ++ ys) ⟨(a, y), hy, hok.2, by show a.bytes.length ≤ 2000; omega⟩ W1 h2 (by
          have h3 := trees_len ys
          rw [h1] at h3
          rw [List.length_append]
          omega)) fun e W2 h => h.elim
        (fun ⟨he, hj, hb2⟩ => .inl ⟨he, ⟨ys ++ [⟨(a, y), hy, hok.2, by show a.bytes.length ≤ 2000; omega⟩], by rw [trees_snoc, h1]; rfl, by rw [← List.append_assoc]; exact hj⟩, hb1.trans hb2⟩)
        (fun ⟨he, hj⟩ => .inr ⟨he, _, hj⟩)⟩) .inr)
    have tA := (taApp 75 (.pointer (some ⟨g, 0, none⟩)) W).trans (by rw [if_pos rfl])
    obtain ⟨T0, x0, rfl⟩ := hx.iface
    obtain ⟨T1, y0, rfl⟩ := hy.iface
    clear ihf c1 hY hJ hN hlen hok hg hgl hx hy hB
    refine callsIn_of_wp Tryz.func54 rfl hF ?_ hro
    simp only [Tryz.ntmps54, List.size_toArray, List.length_cons, List.length_nil, Nat.reduceAdd, Nat.reduceSub, Array.replicate_succ, Array.replicate_zero, List.push_toArray, List.append_toArray, List.nil_append, List.cons_append]
    gi_wp2_with (first
      | ((try refine ⟨hdd _, ?_⟩); gi_at_call 54; refine ih1.mono ?_; clear ih1; rintro e W1 (⟨rfl, c1', fn, tmps, assign, body, hy, hR⟩ | ⟨rfl, q, hx1⟩))
      | ((try refine ⟨hdd _, ?_⟩); refine hR.mono ?_; clear hR; rintro e W2 (⟨rfl, ⟨ys, h1, h2⟩, hb2⟩ | ⟨rfl, q, hx2⟩)))
    · go_ret
      exact .inl ⟨rfl, ⟨ys, h1, h2⟩, hb2⟩
    · go_ret
      exact .inr ⟨rfl, q, hx2⟩
    · refine ⟨fun _ h => (by cases h), ?_⟩
      gi_wp2
      go_ret
      exact .inr ⟨rfl, q, hx1⟩

set_option maxHeartbeats 1000000 in
theorem argsLoop (F : Fence) (hd : F.depth = none) (n : Nat) (hF1 : F.fn 53) (hF2 : F.fn 54) (hro : F.round = none) (l Bt : Nat) (W0 : World) (v : Value) (T : Tm) (J Jx : List (Pt W0) → World → Prop)
    (hY : ∀ pre (x : Pt W0) W, J pre W → pre.length < T.args.length → YieldAt F (n - 1) Tryz.prog l #[x.1.2] W fun e W' =>
      (e = .returned (.bool true) ∧ J (pre ++ [x]) W' ∧ Below W0.heap.size W W') ∨ (e = .returned (.bool false) ∧ Jx (pre ++ [x]) W'))
    (W : World) (hBt : W.cell? ⟨Bt, 0, none⟩ = some v) (hr : IRep W0 T v) (hok : T.Ok) (hlen : T.bytes.length ≤ 2000) (hB : Below W0.heap.size W0 W) (h0 : J [] W) :
    CallsIn F n Tryz.prog 53 #[.func (.yield l) #[] #[], .pointer (some ⟨Bt, 0, none⟩)] W fun e W' => (∃ v, e = .returned v) ∧
      ((∃ ys, trees ys = T.args ∧ J ys W') ∨ (∃ pre, True ∧ Jx pre W')) := by
  have hdd : ∀ k : Nat, (F.depth.isSome = true → 1 ≤ k) := fun k h => by rw [hd] at h; cases h
  have hp := yieldArgs F hd hF2 hro l T.args.length W0 J Jx (fun m pre x W hj hl => yieldAny hd (hY pre x W hj hl)) T (n - 1) v [] W hr hok hlen hB h0 (by simp)
  obtain ⟨T0, x0, rfl⟩ := hr.iface
  clear hY hr hok hlen hB h0
  refine callsIn_of_wp Tryz.func53 rfl hF1 ?_ hro
  simp only [Tryz.ntmps53, List.size_toArray, List.length_cons, List.length_nil, Nat.reduceAdd, Nat.reduceSub, Array.replicate_succ, Array.replicate_zero, List.push_toArray, List.append_toArray, List.nil_append, List.cons_append]
  gi_wp2_with ((try refine ⟨hdd _, ?_⟩); gi_at_call 54; refine hp.mono ?_; clear hp; rintro e W1 (⟨rfl, ⟨ys, h1, h2⟩, _⟩ | ⟨rfl, q, hx⟩))
  · go_end0
    exact ⟨⟨_, rfl⟩, .inl ⟨ys, h1, by simpa using h2⟩⟩
  · go_end0
    exact ⟨⟨_, rfl⟩, .inr ⟨q, trivial, hx⟩⟩

theorem argsStops (F : Fence) (hd : F.depth = none) (n : Nat) (hF1 : F.fn 53) (hF2 : F.fn 54) (hro : F.round = none) (Bt : Nat) (v : Value) (T : Tm) (w : World) (hBt : Bt < w.heap.size)
    (hc : w.cell? ⟨Bt, 0, none⟩ = some v) (hr : IRep w T v) (hok : T.Ok) (hlen : T.bytes.length ≤ 2000) :
    SeqStopsK F n Tryz.prog 53 #[.pointer (some ⟨Bt, 0, none⟩)] (fun x : Pt w => #[x.1.2]) (Below w.heap.size) (fun ys => trees ys = T.args) (fun _ => True) T.args.length w := fun l J Jx W hW _ _ hY h0 =>
  argsLoop F hd n hF1 hF2 hro l Bt w v T J Jx hY W ((hW.cell (p := ⟨Bt, 0, none⟩) hBt).trans hc) hr hok hlen hW h0

set_option maxHeartbeats 1000000 in
theorem implArgumentsOf (T : TypeId) (x : Value) (w : World) :
    Calls Tryz.prog 33 #[.iface T x] w fun e w' => e = .returned (.func (.func 53) #[] #[.pointer (some ⟨w.heap.size, 0, none⟩)]) ∧ w' = w.alloc (.cells #[.iface T x] 42) := by
  go_enter Tryz.func33, Tryz.ntmps33
  go_wp2
  go_ret
  exact ⟨rfl, rfl⟩
theorem implDomainsOf (T : TypeId) (x : Value) (w : World) :
    Calls Tryz.prog 35 #[.iface T x] w fun e w' => e = .returned (.func (.func 56) #[] #[.pointer (some ⟨w.heap.size, 0, none⟩)]) ∧ w' = w.alloc (.cells #[.iface T x] 42) := by
  go_enter Tryz.func35, Tryz.ntmps35
  go_wp2
  go_ret
  exact ⟨rfl, rfl⟩

set_option maxHeartbeats 4000000 in
theorem domsLoop (F : Fence) (n : Nat) (hF1 : F.fn 56) (hro : F.round = none) (l Bt : Nat) (W0 : World) (v : Value) (T : Tm) (J Jx : List (Pt W0) → World → Prop) (hn : 1 ≤ n)
    (hY : ∀ pre (x : Pt W0) W, J pre W → pre.length < T.doms.length → YieldAt F (n - 1) Tryz.prog l #[x.1.2] W fun e W' =>
      (e = .returned (.bool true) ∧ J (pre ++ [x]) W' ∧ Below W0.heap.size W W') ∨ (e = .returned (.bool false) ∧ Jx (pre ++ [x]) W'))
    (W : World) (hBt : W.cell? ⟨Bt, 0, none⟩ = some v) (hr : IRep W0 T v) (hok : T.Ok) (hlen : T.bytes.length ≤ 2000) (hB : Below W0.heap.size W0 W) (h0 : J [] W) :
    CallsIn F n Tryz.prog 56 #[.func (.yield l) #[] #[], .pointer (some ⟨Bt, 0, none⟩)] W fun e W' => (∃ v, e = .returned v) ∧
      ((∃ ys, trees ys = T.doms ∧ J ys W') ∨ (∃ pre, True ∧ Jx pre W')) := by
  have HR := Lib.hid hr
  obtain ⟨T0, x0, rfl⟩ := hr.iface
  clear hr
  refine callsIn_of_wp Tryz.func56 rfl hF1 ?_ hro
  simp only [Tryz.ntmps56, List.size_toArray, List.length_cons, List.length_nil, Nat.reduceAdd, Nat.reduceSub, Array.replicate_succ, Array.replicate_zero, List.push_toArray, List.append_toArray, List.nil_append, List.cons_append]
  gi_wp2
  gi_loopw [3] (fun p wr => ∃ (pre : List (Pt W0)) (u : Tm) (oo : Value), oo = p ∧ Hid (IRep W0 u oo ∧ u.Ok ∧ u.bytes.length ≤ 2000 ∧ trees pre ++ u.doms = T.doms) ∧ Below W0.heap.size W0 wr ∧ J pre wr) (fun p _ => msr W0 p)
  case atStart => exact ⟨[], T, _, rfl, ⟨HR.out, hok, hlen, rfl⟩, hB, h0⟩
  case round =>
    obtain ⟨pre, u, oo, rfl, HU, hBr, hJs⟩ := hrel
    by_cases hk : u.kind = 112
    · obtain ⟨p, q, rfl⟩ := kind_pi hk
      obtain ⟨h1, h2, h3, h4⟩ := HU.out
      obtain ⟨g, x, y, rfl, hg, hx, hy⟩ := id h1
      have HM := Lib.hid (msr_pi h1 hg)
      have hgl : g < W0.heap.size := (Array.getElem?_eq_some_iff.1 hg).1
      have c0 : wr.cell? ⟨g, 0, none⟩ = some x := (hBr.cell (p := ⟨g, 0, none⟩) hgl).trans (by rw [Lib.cell_of_heap hg]; rfl)
      have C1 : Hid (∀ W1, Below W0.heap.size wr W1 → W1.cell? ⟨g, 1, none⟩ = some y) := fun W1 h => ((hBr.trans h).cell (p := ⟨g, 1, none⟩) hgl).trans (by rw [Lib.cell_of_heap hg]; rfl)
      simp only [Tm.bytes, List.length_cons, List.length_append] at h3
      have tA := (taPi 85 (.pointer (some ⟨g, 0, none⟩)) wr).trans (by rw [if_pos rfl])
      obtain ⟨pt, hp1, hp2⟩ : ∃ pt : Pt W0, pt.1.1 = p ∧ pt.1.2 = x := ⟨⟨(p, x), hx, h2.1, by show p.bytes.length ≤ 2000; omega⟩, rfl, rfl⟩
      obtain ⟨fn, tmps, assign, body, hyy, hR⟩ := hY pre pt wr hJs (by
        rw [← h4, List.length_append, trees_len]
        simp only [Tm.doms, List.length_cons]
        omega)
      have HN : Hid (IRep W0 q y ∧ q.Ok ∧ q.bytes.length ≤ 2000 ∧ trees (pre ++ [pt]) ++ q.doms = T.doms) := ⟨hy, h2.2, by omega, by rw [trees_snoc, ← h4, hp1]; simp [Tm.doms]⟩
      have HB := Lib.hid hBr
      rw [hp2] at hyy
      obtain ⟨T1, x1, rfl⟩ := hx.iface
      obtain ⟨T2, y1, rfl⟩ := hy.iface
      clear HU h1 h2 h3 h4 hg hgl hk hx hy hY hBr hB h0 HR hp1 hp2
      gi_wp2
      refine hR.mono ?_
      rintro e W3 (⟨rfl, hJ3, hk3⟩ | ⟨rfl, hJx3⟩)
      · have c1 := C1.out W3 hk3
        gi_wp2
        go_roundw
        case rel => exact ⟨_, q, _, rfl, HN.out, HB.out.trans hk3, hJ3⟩
        case measure => exact HM.out
      · gi_wp2
        refine bodyPost_ret (results_none rfl _ _ _) rfl ?_
        exact ⟨⟨_, rfl⟩, .inr ⟨_, trivial, hJx3⟩⟩
    · have tA := asked_pi HU.out.1 hk wr
      have HE : Hid (trees pre = T.doms) := by have := HU.out.2.2.2; rw [(not_pi hk).2, List.append_nil] at this; exact this
      clear HU hk hY HR
      gi_wp2
      refine ⟨fun _ h => (by cases h), ?_⟩
      gi_wp2
      refine bodyPost_ret (results_none rfl _ _ _) rfl ?_
      exact ⟨⟨_, rfl⟩, .inl ⟨pre, HE.out, hJs⟩⟩

theorem domsStops (F : Fence) (n : Nat) (hn : 1 ≤ n) (hF1 : F.fn 56) (hro : F.round = none) (Bt : Nat) (v : Value) (T : Tm) (w : World) (hBt : Bt < w.heap.size)
    (hc : w.cell? ⟨Bt, 0, none⟩ = some v) (hr : IRep w T v) (hok : T.Ok) (hlen : T.bytes.length ≤ 2000) :
    SeqStopsK F n Tryz.prog 56 #[.pointer (some ⟨Bt, 0, none⟩)] (fun x : Pt w => #[x.1.2]) (Below w.heap.size) (fun ys => trees ys = T.doms) (fun _ => True) T.doms.length w := fun l J Jx W hW _ _ hY h0 =>
  domsLoop F n hF1 hro l Bt w v T J Jx hn hY W ((hW.cell (p := ⟨Bt, 0, none⟩) hBt).trans hc) hr hok hlen hW h0
end Go.Proofs.YtgmjbdndffdpoaaGreatDoor

namespace Go.Proofs.YtgmjbdndffdpoaaGreatDoor
set_option maxRecDepth 100000
open Go.ChangeShapes Go.WideShapes Go.ChangeAt Go.RowKit Go.Shelf
set_option linter.unusedSimpArgs false
set_option linter.unusedVariables false
attribute [local go_sem] Oper.semAt_some

/-- append of new elements onto an owned row, as one operation inside a fence. -/
theorem appendIn {F : Fence} {n : Nat} {P : Program} {o : Oper} {a : Act} {K : Act → World → Prop} {Q : Exit → Act → World → Prop} (w : World) (s x : Operand) (t : TypeId)
    (ho : o.op = .call { callee := .builtin .append, args := #[s, x], argTypes := #[t, t] })
    (b : Nat) (e : TypeId) (i : TypeInfo) (z : Value) (size bytes : Nat) (ht : P.underlying t = some (.slice e)) (hi : P.info? e = some i) (hz : i.zero = some z) (hs1 : i.size = size) (hb1 : i.bytes = bytes) (hzs : z.cells.size = size) (hsz : 0 < size)
    (v : Value) (k : Nat) (xs : List Value) (hs : a.eval s = v) (hown : w.ownsRow b e size v k xs) (ad : Addr) (m c : Nat) (news : List Value) (hx : a.eval x = .slice (some ad) m c) (hl : news.length = m * size)
    (hnews : ∀ j u, news[j]? = some u → w.cell? (ad.add j) = some u) (h1 : ∀ u ∈ news, u.oneCell' = true) (h63 : k + m ≤ maxLen) (hby : (k + m) * bytes ≤ 140737488355328) (hbase : b ≤ w.heap.size)
    (h : ∀ v' w', w'.ownsRow b e size v' (k + m) (xs ++ news) → w.grownBy w' v.ownBlock → K (a.put o.dst v') w') : o.wpIn F n P a w K Q := by
  obtain ⟨v', w', hr, h2, h3, _⟩ := run_append_own (P := P) w b t o.type e i z size bytes ht hi hz hs1 hb1 hzs hsz v k xs hown ad m c news hl hnews h1 h63 hby hbase
  unfold Oper.wpIn
  constructor
  · simp [Oper.about, ho, resolve, Target.leads, Sem.run_pure]
  · rw [Oper.semAt_plain F _ _ (fun d hd => by rw [ho] at hd; cases hd)]
    simp only [execOp, ho, resolve, invoke, builtin, Sem.run_bind, Sem.run_pure, Result.andThen_ok, List.map_toArray, List.map_cons, List.map_nil, hs, hx, hr]
    exact h v' w' h2 h3

set_option maxHeartbeats 8000000 in
theorem implTextsOf (gf : Nat) (lb : Array Value) (ts : List Tm) (w : World) (hv : Vars w) (eg : ∀ args w, (callFunc gf args).run Tryz.prog w = .ok (.enter gf args) w) (hn : ts.length ≤ 2000)
    (hseq : ∀ n, 1 ≤ n → SeqStopsK Fence.wide n Tryz.prog gf lb (fun x : Pt w => #[x.1.2]) (Below w.heap.size) (fun ys => trees ys = ts) (fun _ => True) ts.length w) :
    Calls Tryz.prog 32 #[.func (.func gf) #[] lb] w (LRes' (ts.map Tm.bytes) w) := by
  obtain ⟨i0, hi, hz0, hz1', hz2⟩ := info_parts infoStr
  refine (callsIn_wide (n := 3)).1 ?_
  refine callsIn_of_wp_marks Tryz.func32 rfl trivial ?_ rfl
  simp only [Tryz.ntmps32, List.size_toArray, List.length_cons, List.length_nil, Nat.reduceAdd, Nat.reduceSub, Array.replicate_succ, Array.replicate_zero, List.push_toArray, List.append_toArray, List.nil_append, List.cons_append]
  gi_wp2
  have bO := Boxed.new w 25 (.slice none 0 0)
  have hB0 : Below w.heap.size w (w.alloc (.cells #[.slice none 0 0] 25)) := (Below.refl _ w).alloc (Nat.le_refl _) _
  refine wpIn_rangeFunc_ownG rfl (by omega) (gf := gf) (lb := lb) rfl trivial eg (hseq _ (by omega)) belowK_t (belowK_b (by simp)) hB0 (fun _ => rfl)
    (fun (pre : List (Pt w)) W => (∃ v, Boxed W w.heap.size 25 v ∧ W.ownsRow w.heap.size 9 1 v pre.length (pre.map fun x => sv x.1.1.bytes) ∧ True) ∧ Below w.heap.size w W)
    (fun _ _ _ => False)
    (OwnFrom.and (Own.from (holdsRow_own w.heap.size w.heap.size 25 9 1 (fun pre : List (Pt w) => pre.length) (fun pre : List (Pt w) => pre.map fun x => sv x.1.1.bytes) (fun _ _ => True)) _) (ownFrom_below (Nat.le_refl _) (by simp)))
    (fun _ _ _ _ _ hs _ _ => hs)
    ⟨⟨_, bO, World.ownsRow_nil _ _ _ _, trivial⟩, hB0⟩
    (fun x : Pt w => { tmps := #[.func (.func gf) #[] lb, undef, .slice none 0 0, .pointer (some ⟨w.heap.size, 0, none⟩), x.1.2, .func (.func gf) #[] lb, x.1.2, undef, undef, undef, undef, undef, undef], defers := [] }) ?assign ?body ?done ?stop
  case assign =>
    intro l x W K hK
    gi_wp2
    exact hK
  case body =>
    rintro l pre ⟨⟨tm, tv⟩, hr0, hok, hlen⟩ W ⟨⟨v, hv1, hrow, -⟩, hB⟩ hlt
    obtain ⟨T0, x0, rfl⟩ := IRep.iface hr0
    have hc := hv1.cell
    have hBd := hB.drew
    have f1 := Lib.hid (implText (hv.below hBd) (Tm.Ok.lim9 hok) (IRep.below hBd hr0) (by show tm.bytes.length ≤ 100000000; have : tm.bytes.length ≤ 2000 := hlen; omega))
    dsimp only at f1
    have hmx : Tryz.prog.follows .mixedOrders = true := by kernel_rfl
    have hlt2 : pre.length < 2000 := by omega
    gi_wp2
    refine wpIn_region_any hmx ?_
    change wpAnyIn _ _ _ _ _ _ 6 #[false, false, false, false, false, false] _ W.drew
    refine wpAnyIn_ready (rs := [0, 1]) (by kernel_rfl) (by simp) ?_
    refine AllReadyIn.cons rfl (fun K hK => ?_) (AllReadyIn.cons rfl (fun K hK => ?_) AllReadyIn.nil)
    · go_simp
      refine hK _ _ ?_; clear hK K
      refine wpAnyIn_ready (rs := [1]) (by kernel_rfl) (by simp) ?_
      refine AllReadyIn.cons rfl (fun K hK => ?_) AllReadyIn.nil
      go_simp
      refine hK _ _ ?_; clear hK K
      refine wpAnyIn_ready (rs := [2]) (by kernel_rfl) (by simp) ?_
      refine AllReadyIn.cons rfl (fun K hK => ?_) AllReadyIn.nil
      go_simp
      refine ⟨trivial, ?_⟩
      gi_at_call 30
      refine (CallsIn.inRound l (callsIn_wide.2 f1.out)).mono ?_
      rintro e w1 ⟨rfl, hb1⟩
      refine hK _ _ ?_; clear hK K
      have bx1 : Boxed w1 w.heap.size 25 v := (hb1.block _ hv1.lt).trans hv1
      have hc1 := bx1.cell
      have hc1a := (bx1.alloc (.cells #[.string ⟨tm.bytes.toArray⟩] 9)).cell
      refine wpAnyIn_ready (rs := [3]) (by kernel_rfl) (by simp) ?_
      refine AllReadyIn.cons rfl (fun K hK => ?_) AllReadyIn.nil
      go_simp
      refine hK _ _ ?_; clear hK K
      have row1 : w1.ownsRow w.heap.size 9 1 v pre.length (pre.map fun x => sv x.1.1.bytes) := own_below (w := W.drew) hrow hb1
      have hz1 : w.heap.size ≤ w1.heap.size := Nat.le_trans hBd.size hb1.size
      refine wpAnyIn_ready (rs := [4]) (by kernel_rfl) (by simp) ?_
      refine AllReadyIn.cons rfl (fun K hK => ?_) AllReadyIn.nil
      rw [if_pos (by rfl)]
      refine appendIn _ _ _ 25 rfl w.heap.size 9 i0 (.string ⟨#[]⟩) 1 16 Tryz.underlying25 hi hz0 hz1' hz2 rfl (by decide) v pre.length _ rfl (row1.alloc _) ⟨w1.heap.size, 0, none⟩ 1 1 [.string ⟨tm.bytes.toArray⟩] rfl rfl (oneNew _ _ _) (by simp [Value.oneCell']) (by simp only [maxLen]; omega) (by omega) (by simp; omega) ?_
      intro v' w' r1 r2
      refine hK _ _ ?_; clear hK K
      obtain ⟨p1, p2, p3, p4, p5⟩ := bx1.appended (by decide) row1 hz1 (Nat.le_refl _) r1 r2
      have hc2 := p1.cell
      have hf2 := p1.frozen
      obtain ⟨va, vc, rfl⟩ := row_slice r1
      refine wpAnyIn_ready (rs := [5]) (by kernel_rfl) (by simp) ?_
      refine AllReadyIn.cons rfl (fun K hK => ?_) AllReadyIn.nil
      go_simp
      refine hK _ _ ?_; clear hK K
      refine wpAnyIn_done (by kernel_rfl) ?_ _
      have hb1W : Below W.heap.size W w1 := ((Below.refl W.heap.size W).drew).trans hb1
      refine ⟨((KeepsOthers.of_grownBy (grownBy_of_below hb1W none) (fun j o e => by cases e)).trans p4).from _, (hb1W.mono hB.size).trans p5, ⟨_, p2, ?_, trivial⟩, (hB.trans (hb1W.mono hB.size)).trans p5⟩
      rw [List.length_append, List.map_append]
      exact p3
    · go_simp
      refine hK _ _ ?_; clear hK K
      refine wpAnyIn_ready (rs := [0, 2]) (by kernel_rfl) (by simp) ?_
      refine AllReadyIn.cons rfl (fun K hK => ?_) (AllReadyIn.cons rfl (fun K hK => ?_) AllReadyIn.nil)
      · go_simp
        refine hK _ _ ?_; clear hK K
        refine wpAnyIn_ready (rs := [2]) (by kernel_rfl) (by simp) ?_
        refine AllReadyIn.cons rfl (fun K hK => ?_) AllReadyIn.nil
        go_simp
        refine ⟨trivial, ?_⟩
        gi_at_call 30
        refine (CallsIn.inRound l (callsIn_wide.2 f1.out)).mono ?_
        rintro e w1 ⟨rfl, hb1⟩
        refine hK _ _ ?_; clear hK K
        have bx1 : Boxed w1 w.heap.size 25 v := (hb1.block _ hv1.lt).trans hv1
        have hc1 := bx1.cell
        have hc1a := (bx1.alloc (.cells #[.string ⟨tm.bytes.toArray⟩] 9)).cell
        refine wpAnyIn_ready (rs := [3]) (by kernel_rfl) (by simp) ?_
        refine AllReadyIn.cons rfl (fun K hK => ?_) AllReadyIn.nil
        go_simp
        refine hK _ _ ?_; clear hK K
        have row1 : w1.ownsRow w.heap.size 9 1 v pre.length (pre.map fun x => sv x.1.1.bytes) := own_below (w := W.drew) hrow hb1
        have hz1 : w.heap.size ≤ w1.heap.size := Nat.le_trans hBd.size hb1.size
        refine wpAnyIn_ready (rs := [4]) (by kernel_rfl) (by simp) ?_
        refine AllReadyIn.cons rfl (fun K hK => ?_) AllReadyIn.nil
        rw [if_pos (by rfl)]
        refine appendIn _ _ _ 25 rfl w.heap.size 9 i0 (.string ⟨#[]⟩) 1 16 Tryz.underlying25 hi hz0 hz1' hz2 rfl (by decide) v pre.length _ rfl (row1.alloc _) ⟨w1.heap.size, 0, none⟩ 1 1 [.string ⟨tm.bytes.toArray⟩] rfl rfl (oneNew _ _ _) (by simp [Value.oneCell']) (by simp only [maxLen]; omega) (by omega) (by simp; omega) ?_
        intro v' w' r1 r2
        refine hK _ _ ?_; clear hK K
        obtain ⟨p1, p2, p3, p4, p5⟩ := bx1.appended (by decide) row1 hz1 (Nat.le_refl _) r1 r2
        have hc2 := p1.cell
        have hf2 := p1.frozen
        obtain ⟨va, vc, rfl⟩ := row_slice r1
        refine wpAnyIn_ready (rs := [5]) (by kernel_rfl) (by simp) ?_
        refine AllReadyIn.cons rfl (fun K hK => ?_) AllReadyIn.nil
        go_simp
        refine hK _ _ ?_; clear hK K
        refine wpAnyIn_done (by kernel_rfl) ?_ _
        have hb1W : Below W.heap.size W w1 := ((Below.refl W.heap.size W).drew).trans hb1
        refine ⟨((KeepsOthers.of_grownBy (grownBy_of_below hb1W none) (fun j o e => by cases e)).trans p4).from _, (hb1W.mono hB.size).trans p5, ⟨_, p2, ?_, trivial⟩, (hB.trans (hb1W.mono hB.size)).trans p5⟩
        rw [List.length_append, List.map_append]
        exact p3
      · go_simp
        refine ⟨trivial, ?_⟩
        gi_at_call 30
        refine (CallsIn.inRound l (callsIn_wide.2 f1.out)).mono ?_
        rintro e w1 ⟨rfl, hb1⟩
        refine hK _ _ ?_; clear hK K
        have bx1 : Boxed w1 w.heap.size 25 v := (hb1.block _ hv1.lt).trans hv1
        have hc1 := bx1.cell
        have hc1a := (bx1.alloc (.cells #[.string ⟨tm.bytes.toArray⟩] 9)).cell
        refine wpAnyIn_ready (rs := [0, 3]) (by kernel_rfl) (by simp) ?_
        refine AllReadyIn.cons rfl (fun K hK => ?_) (AllReadyIn.cons rfl (fun K hK => ?_) AllReadyIn.nil)
        · go_simp
          refine hK _ _ ?_; clear hK K
          refine wpAnyIn_ready (rs := [3]) (by kernel_rfl) (by simp) ?_
          refine AllReadyIn.cons rfl (fun K hK => ?_) AllReadyIn.nil
          go_simp
          refine hK _ _ ?_; clear hK K
          have row1 : w1.ownsRow w.heap.size 9 1 v pre.length (pre.map fun x => sv x.1.1.bytes) := own_below (w := W.drew) hrow hb1
          have hz1 : w.heap.size ≤ w1.heap.size := Nat.le_trans hBd.size hb1.size
          refine wpAnyIn_ready (rs := [4]) (by kernel_rfl) (by simp) ?_
          refine AllReadyIn.cons rfl (fun K hK => ?_) AllReadyIn.nil
          rw [if_pos (by rfl)]
          refine appendIn _ _ _ 25 rfl w.heap.size 9 i0 (.string ⟨#[]⟩) 1 16 Tryz.underlying25 hi hz0 hz1' hz2 rfl (by decide) v pre.length _ rfl (row1.alloc _) ⟨w1.heap.size, 0, none⟩ 1 1 [.string ⟨tm.bytes.toArray⟩] rfl rfl (oneNew _ _ _) (by simp [Value.oneCell']) (by simp only [maxLen]; omega) (by omega) (by simp; omega) ?_
          intro v' w' r1 r2
          refine hK _ _ ?_; clear hK K
          obtain ⟨p1, p2, p3, p4, p5⟩ := bx1.appended (by decide) row1 hz1 (Nat.le_refl _) r1 r2
          have hc2 := p1.cell
          have hf2 := p1.frozen
          obtain ⟨va, vc, rfl⟩ := row_slice r1
          refine wpAnyIn_ready (rs := [5]) (by kernel_rfl) (by simp) ?_
          refine AllReadyIn.cons rfl (fun K hK => ?_) AllReadyIn.nil
          go_simp
          refine hK _ _ ?_; clear hK K
          refine wpAnyIn_done (by kernel_rfl) ?_ _
          have hb1W : Below W.heap.size W w1 := ((Below.refl W.heap.size W).drew).trans hb1
          refine ⟨((KeepsOthers.of_grownBy (grownBy_of_below hb1W none) (fun j o e => by cases e)).trans p4).from _, (hb1W.mono hB.size).trans p5, ⟨_, p2, ?_, trivial⟩, (hB.trans (hb1W.mono hB.size)).trans p5⟩
          rw [List.length_append, List.map_append]
          exact p3
        · go_simp
          refine hK _ _ ?_; clear hK K
          refine wpAnyIn_ready (rs := [0]) (by kernel_rfl) (by simp) ?_
          refine AllReadyIn.cons rfl (fun K hK => ?_) AllReadyIn.nil
          go_simp
          refine hK _ _ ?_; clear hK K
          have row1 : w1.ownsRow w.heap.size 9 1 v pre.length (pre.map fun x => sv x.1.1.bytes) := own_below (w := W.drew) hrow hb1
          have hz1 : w.heap.size ≤ w1.heap.size := Nat.le_trans hBd.size hb1.size
          refine wpAnyIn_ready (rs := [4]) (by kernel_rfl) (by simp) ?_
          refine AllReadyIn.cons rfl (fun K hK => ?_) AllReadyIn.nil
          rw [if_pos (by rfl)]
          refine appendIn _ _ _ 25 rfl w.heap.size 9 i0 (.string ⟨#[]⟩) 1 16 Tryz.underlying25 hi hz0 hz1' hz2 rfl (by decide) v pre.length _ rfl (row1.alloc _) ⟨w1.heap.size, 0, none⟩ 1 1 [.string ⟨tm.bytes.toArray⟩] rfl rfl (oneNew _ _ _) (by simp [Value.oneCell']) (by simp only [maxLen]; omega) (by omega) (by simp; omega) ?_
          intro v' w' r1 r2
          refine hK _ _ ?_; clear hK K
          obtain ⟨p1, p2, p3, p4, p5⟩ := bx1.appended (by decide) row1 hz1 (Nat.le_refl _) r1 r2
          have hc2 := p1.cell
          have hf2 := p1.frozen
          obtain ⟨va, vc, rfl⟩ := row_slice r1
          refine wpAnyIn_ready (rs := [5]) (by kernel_rfl) (by simp) ?_
          refine AllReadyIn.cons rfl (fun K hK => ?_) AllReadyIn.nil
          go_simp
          refine hK _ _ ?_; clear hK K
          refine wpAnyIn_done (by kernel_rfl) ?_ _
          have hb1W : Below W.heap.size W w1 := ((Below.refl W.heap.size W).drew).trans hb1
          refine ⟨((KeepsOthers.of_grownBy (grownBy_of_below hb1W none) (fun j o e => by cases e)).trans p4).from _, (hb1W.mono hB.size).trans p5, ⟨_, p2, ?_, trivial⟩, (hB.trans (hb1W.mono hB.size)).trans p5⟩
          rw [List.length_append, List.map_append]
          exact p3
  case done =>
    rintro D ys W hD hys ⟨⟨v, hv1, hrow, -⟩, hB⟩ hK
    have hc := hv1.cell
    gi_wp2
    refine ⟨by simp, .inl ⟨_, _, rfl, run_takeDeferred hK, ?_⟩⟩
    refine ⟨_, results_tmp rfl _ _ _, v, rfl, ?_, hB.trans (belowK_b (w := w) (Nat.le_refl _) W D _ _ (by simp at hD; omega) hK rfl rfl)⟩
    have h1 := ownsRow_putObj hrow (.deferred none) hK rfl
    rw [List.length_map, ← hys, trees_len, List.map_map, trees, List.map_map]
    exact h1
  case stop =>
    rintro D c pre W _ _ h _
    exact h.elim
set_option maxHeartbeats 4000000 in
theorem implArgsOf (s : ByteArray) (W : World) (hv : Vars W) (hs : s.size ≤ maxLen) :
    Calls Tryz.prog 11 #[.string s] W (LRes' (argsOf s.data.toList) W) := by
  have f1 := Lib.hid (implReadTerm s W hv hs)
  have hn := argsOf_len s.data.toList
  have HV := Lib.hid hv
  clear hv hs
  go_enter Tryz.func11, Tryz.ntmps11
  go_wp2_with fail
  (with_reducible refine f1.out.mono ?_); rintro e W1 ⟨hb, ⟨t, v, ht, rfl, hr⟩ | ⟨hno, rfl⟩⟩
  rotate_left
  · have HE : Hid (argsOf s.data.toList = []) := by rw [Hid, argsOf, termOf_none hno]
    have HB := Lib.hid hb
    clear hno hb f1 hn
    go_wp2
    go_ret
    rw [HE.out]
    exact ⟨_, rfl, World.ownsRow_nil _ _ _ _, HB.out⟩
  have HE : Hid (argsOf s.data.toList = t.args.map Tm.bytes) := by rw [Hid, argsOf, termOf_some ht]
  rw [HE.out, List.length_map] at hn
  have hle := ht.2.2
  rw [← ht.2.1] at hle
  obtain ⟨T0, x0, rfl⟩ := hr.iface
  have hb2 : Below W1.heap.size W1 (W1.alloc (.cells #[.iface T0 x0] 42)) := (Below.refl _ _).alloc (Nat.le_refl _) _
  have f2 := Lib.hid (implArgumentsOf T0 x0 W1)
  have f3 := Lib.hid (implTextsOf 53 #[.pointer (some ⟨W1.heap.size, 0, none⟩)] t.args (W1.alloc (.cells #[.iface T0 x0] 42)) ((HV.out.below hb).below hb2) (enters_of Tryz.func53 (by kernel_rfl) rfl) hn
    (fun n hn1 => argsStops Fence.wide rfl n trivial trivial rfl W1.heap.size (.iface T0 x0) t _ (by simp) (by simp) (hr.below hb2) ht.1 hle))
  have HB : Hid (Below W.heap.size W (W1.alloc (.cells #[.iface T0 x0] 42))) := hb.trans (hb2.mono hb.size)
  clear hb hb2 hr ht hle hn f1 HV
  generalize t.args.map Tm.bytes = lt at f3 HE
  go_wp2_with fail
  (with_reducible refine f2.out.mono ?_); rintro e w2 ⟨rfl, rfl⟩
  clear f2
  generalize W1.alloc (.cells #[.iface T0 x0] 42) = w2 at f3 HB
  go_wp2_with fail
  (with_reducible refine f3.out.mono ?_); rintro e w3 ⟨u, rfl, hu, hb3⟩
  have HO : Hid (w3.ownsRow W.heap.size 9 1 u (argsOf s.data.toList).length ((argsOf s.data.toList).map sv)) := by
    rw [Hid, HE.out]
    exact own_baseE hu HB.out.size
  have HB3 := Lib.hid (HB.out.trans (hb3.mono HB.out.size))
  obtain ⟨ua, uc, rfl⟩ := row_slice hu
  clear hu hb3 f3
  go_wp2
  go_ret
  exact ⟨_, rfl, HO.out, HB3.out⟩

set_option maxHeartbeats 4000000 in
theorem implDomains (s : ByteArray) (W : World) (hv : Vars W) (hs : s.size ≤ maxLen) :
    Calls Tryz.prog 13 #[.string s] W (LRes' (domainsOf s.data.toList) W) := by
  have f1 := Lib.hid (implReadTerm s W hv hs)
  have hn := domainsOf_len s.data.toList
  have HV := Lib.hid hv
  clear hv hs
  go_enter Tryz.func13, Tryz.ntmps13
  go_wp2_with fail
  (with_reducible refine f1.out.mono ?_); rintro e W1 ⟨hb, ⟨t, v, ht, rfl, hr⟩ | ⟨hno, rfl⟩⟩
  rotate_left
  · have HE : Hid (domainsOf s.data.toList = []) := by rw [Hid, domainsOf, termOf_none hno]
    have HB := Lib.hid hb
    clear hno hb f1 hn
    go_wp2
    go_ret
    rw [HE.out]
    exact ⟨_, rfl, World.ownsRow_nil _ _ _ _, HB.out⟩
  have HE : Hid (domainsOf s.data.toList = t.doms.map Tm.bytes) := by rw [Hid, domainsOf, termOf_some ht]
  rw [HE.out, List.length_map] at hn
  have hle := ht.2.2
  rw [← ht.2.1] at hle
  obtain ⟨T0, x0, rfl⟩ := hr.iface
  have hb2 : Below W1.heap.size W1 (W1.alloc (.cells #[.iface T0 x0] 42)) := (Below.refl _ _).alloc (Nat.le_refl _) _
  have f2 := Lib.hid (implDomainsOf T0 x0 W1)
  have f3 := Lib.hid (implTextsOf 56 #[.pointer (some ⟨W1.heap.size, 0, none⟩)] t.doms (W1.alloc (.cells #[.iface T0 x0] 42)) ((HV.out.below hb).below hb2) (enters_of Tryz.func56 (by kernel_rfl) rfl) hn
    (fun n hn1 => domsStops Fence.wide n hn1 trivial rfl W1.heap.size (.iface T0 x0) t _ (by simp) (by simp) (hr.below hb2) ht.1 hle))
  have HB : Hid (Below W.heap.size W (W1.alloc (.cells #[.iface T0 x0] 42))) := hb.trans (hb2.mono hb.size)
  clear hb hb2 hr ht hle hn f1 HV
  generalize t.doms.map Tm.bytes = lt at f3 HE
  go_wp2_with fail
  (with_reducible refine f2.out.mono ?_); rintro e w2 ⟨rfl, rfl⟩
  clear f2
  generalize W1.alloc (.cells #[.iface T0 x0] 42) = w2 at f3 HB
  go_wp2_with fail
  (with_reducible refine f3.out.mono ?_); rintro e w3 ⟨u, rfl, hu, hb3⟩
  have HO : Hid (w3.ownsRow W.heap.size 9 1 u (domainsOf s.data.toList).length ((domainsOf s.data.toList).map sv)) := by
    rw [Hid, HE.out]
    exact own_baseE hu HB.out.size
  have HB3 := Lib.hid (HB.out.trans (hb3.mono HB.out.size))
  obtain ⟨ua, uc, rfl⟩ := row_slice hu
  clear hu hb3 f3
  go_wp2
  go_ret
  exact ⟨_, rfl, HO.out, HB3.out⟩

end Go.Proofs.YtgmjbdndffdpoaaGreatDoor

namespace Go.Proofs.YtgmjbdndffdpoaaGreatDoor
set_option maxRecDepth 100000
open Go.ChangeShapes Go.WideShapes Go.ChangeAt Go.RowKit Go.Shelf
set_option linter.unusedSimpArgs false
set_option linter.unusedVariables false
attribute [local go_sem] Oper.semAt_some

/-- What lay below a block lies on, and one block above it too. -/
def KpB (n₀ Bs : Nat) (W W' : World) : Prop := Below n₀ W W' ∧ W'.heap[Bs]? = W.heap[Bs]?
theorem KpB.trans {n₀ Bs : Nat} {A B C : World} (h : KpB n₀ Bs A B) (k : KpB n₀ Bs B C) : KpB n₀ Bs A C := ⟨h.1.trans k.1, k.2.trans h.2⟩
theorem ptList {W : World} : ∀ {ts : List Tm} {vs : List Value}, IReps W ts vs → (∀ t ∈ ts, IsTm t.bytes t) → ∃ zs : List (Pt W), trees zs = ts ∧ (zs.map fun x => x.1.2) = vs
  | [], [], _, _ => ⟨[], rfl, rfl⟩
  | t :: ts, v :: vs, ⟨h1, h2⟩, h => by
    obtain ⟨zs, e1, e2⟩ := ptList h2 (fun u hu => h u (List.mem_cons_of_mem _ hu))
    have ht := h t List.mem_cons_self
    refine ⟨⟨(t, v), h1, ht.1, ht.2.2⟩ :: zs, ?_, ?_⟩
    · show t :: trees zs = t :: ts
      rw [e1]
    · show v :: (zs.map fun x => x.1.2) = v :: vs
      rw [e2]
  | [], _ :: _, h, _ => h.elim
  | _ :: _, [], h, _ => h.elim

set_option maxHeartbeats 4000000 in
theorem backLoop (F : Fence) (n : Nat) (hn : 1 ≤ n) (hF : F.fn 69) (hro : F.round = none) (l Bs b : Nat) (W0 : World) (u : Value) (zs : List (Pt W0)) (hz : zs.length ≤ 100000) (J Jx : List (Int × Pt W0) → World → Prop)
    (hrow : W0.ownsRow b 42 1 u zs.length (zs.map fun x => x.1.2))
    (hY : ∀ pre (x : Int × Pt W0) W, J pre W → pre.length < zs.length → YieldAt F (n - 1) Tryz.prog l #[.int .i64 x.1, x.2.1.2] W fun e W' =>
      (e = .returned (.bool true) ∧ J (pre ++ [x]) W' ∧ KpB W0.heap.size Bs W W') ∨ (e = .returned (.bool false) ∧ Jx (pre ++ [x]) W'))
    (W : World) (hB : Below W0.heap.size W0 W) (hbox : Boxed W Bs 45 u) (h0 : J [] W) :
    CallsIn F n Tryz.prog 69 #[.func (.yield l) #[] #[], .pointer (some ⟨Bs, 0, none⟩)] W fun e W' => (∃ v, e = .returned v) ∧
      ((∃ ys, ys.map Prod.snd = zs.reverse ∧ J ys W') ∨ (∃ pre, True ∧ Jx pre W')) := by
  obtain ⟨ua, uc, rfl⟩ := row_slice hrow
  have HROW := Lib.hid hrow
  have hbc := hbox.cell
  clear hrow
  refine callsIn_of_wp Tryz.func69 rfl hF ?_ hro
  simp only [Tryz.ntmps69, List.size_toArray, List.length_cons, List.length_nil, Nat.reduceAdd, Nat.reduceSub, Array.replicate_succ, Array.replicate_zero, List.push_toArray, List.append_toArray, List.nil_append, List.cons_append]
  gi_wp2
  gi_loopw [3] (fun i wr => ∃ (k : Nat) (pre : List (Int × Pt W0)), ((k = 0 ∧ i = .int .i64 (-1)) ∨ ∃ j : Nat, k = j + 1 ∧ i = .int .i64 (j : Int)) ∧ k ≤ zs.length ∧ Hid (pre.map Prod.snd = (zs.drop k).reverse) ∧ J pre wr ∧ Below W0.heap.size W0 wr ∧ Boxed wr Bs 45 (.slice ua zs.length uc)) (fun i _ => (intOf i + 1).toNat)
  case atStart =>
    refine ⟨zs.length, [], ?_, Nat.le_refl _, by simp [Hid], h0, hB, hbox⟩
    rcases Nat.eq_zero_or_pos zs.length with hl | hl
    · exact .inl ⟨hl, by rw [hl]; rfl⟩
    · obtain ⟨j, hj⟩ : ∃ j, zs.length = j + 1 := ⟨zs.length - 1, by omega⟩
      exact .inr ⟨j, hj, by rw [hj]; congr 1; omega⟩
  case round =>
    obtain ⟨k, pre, hk, hkl, HP, hJs, hBr, hbr⟩ := hrel
    clear hbc h0 hbox hB
    rcases hk with ⟨rfl, rfl⟩ | ⟨j, rfl, rfl⟩
    · have HE : Hid (pre.map Prod.snd = zs.reverse) := by have := HP.out; rwa [List.drop_zero] at this
      gi_wp2
      go_end0
      exact ⟨⟨_, rfl⟩, .inl ⟨pre, HE.out, hJs⟩⟩
    · have hlt : j < zs.length := by omega
      have hu := own_below HROW.out hBr
      obtain ⟨g, cap', e0, _, hgl⟩ := hu.form (by omega)
      cases e0
      have ex : (zs.map fun x => x.1.2)[j]? = some zs[j].1.2 := by simp [hlt]
      have cc := (hu.cellAt j (by omega)).trans ex
      have hbc := hbr.cell
      have HD : Hid ((zs.drop j).reverse = (zs.drop (j + 1)).reverse ++ [zs[j]]) := by rw [Hid, List.drop_eq_getElem_cons hlt, List.reverse_cons]
      have hpl : pre.length < zs.length := by
        have := congrArg List.length HP.out
        simp only [List.length_map, List.length_reverse, List.length_drop] at this
        omega
      obtain ⟨fn, tmps, assign, body, hyy, hR⟩ := hY pre ((j : Int), zs[j]) wr hJs hpl
      dsimp only at hyy
      obtain ⟨T1, x1, e1⟩ := IRep.iface zs[j].2.1
      rw [e1] at hyy cc
      have q1 : (0 : Int) ≤ (j : Int) := by omega
      have q2 : (j : Int) < (zs.length : Int) := by omega
      clear hu ex hY
      gi_wp2
      refine hR.mono ?_
      rintro e W3 (⟨rfl, hJ3, hk3⟩ | ⟨rfl, hJx3⟩)
      · have hB3 : Below W0.heap.size W0 W3 := hBr.trans hk3.1
        have hb3 : Boxed W3 Bs 45 (.slice (some ⟨g, 0, none⟩) zs.length uc) := hk3.2.trans hbr
        gi_wp2
        go_roundw
        case rel =>
          refine ⟨j, _, ?_, by omega, ?_, hJ3, hB3, hb3⟩
          · cases j with
            | zero => exact .inl ⟨rfl, by first | rfl | go_num⟩
            | succ j => exact .inr ⟨j, rfl, by go_num⟩
          · rw [Hid, List.map_append, HP.out, HD.out]
            rfl
        case measure => simp [intOf] <;> omega
      · gi_wp2
        refine bodyPost_ret (results_none rfl _ _ _) rfl ?_
        exact ⟨⟨_, rfl⟩, .inr ⟨_, trivial, hJx3⟩⟩
theorem backStops (F : Fence) (n : Nat) (hn : 1 ≤ n) (hF : F.fn 69) (hro : F.round = none) (Bs b : Nat) (W0 wB : World) (u : Value) (zs : List (Pt W0)) (hz : zs.length ≤ 100000)
    (hrow : W0.ownsRow b 42 1 u zs.length (zs.map fun x => x.1.2)) (hB : Below W0.heap.size W0 wB) (hbox : Boxed wB Bs 45 u) :
    SeqStopsK F n Tryz.prog 69 #[.pointer (some ⟨Bs, 0, none⟩)] (fun x : Int × Pt W0 => #[.int .i64 x.1, x.2.1.2]) (KpB W0.heap.size Bs) (fun ys => ys.map Prod.snd = zs.reverse) (fun _ => True) zs.length wB := fun l J Jx W hW _ _ hY h0 =>
  backLoop F n hn hF hro l Bs b W0 u zs hz J Jx hrow hY W (hB.trans (hW.mono hB.size)) ((hW.block _ hbox.lt).trans hbox) h0
theorem implBackward (a : Option Addr) (m c : Nat) (w : World) :
    Calls Tryz.prog 55 #[.slice a m c] w fun e w' => e = .returned (.func (.func 69) #[] #[.pointer (some ⟨w.heap.size, 0, none⟩)]) ∧ w' = w.alloc (.cells #[.slice a m c] 45) := by
  go_enter Tryz.func55, Tryz.ntmps55
  go_wp2
  go_ret
  exact ⟨rfl, rfl⟩

theorem noStr_of {A : World} {row : Option Nat} (hr : ∀ r, row = some r → ∃ o : Obj, A.heap[r]? = some o ∧ o.isCells = false) : NoStr A row := fun k cs e fr hk _ hh => by
  obtain ⟨o, ho, hc⟩ := hr k hk
  rw [ho] at hh
  cases hh
  cases hc
theorem irepBox_own {β : Type} (B : Nat) (f : β → Tm) : Own (fun s W => ∃ v, Boxed W B 42 v ∧ IRep W (f s) v) := by
  rintro s X Y row ⟨v, h1, h2⟩ hg hr
  refine ⟨v, h1.kept hg (fun e' => ?_), h2.grown hg (noStr_of hr)⟩
  obtain ⟨o, ho, hc⟩ := hr B e'.symm
  rw [show X.heap[B]? = _ from h1] at ho
  cases ho
  cases hc
def piFold {W : World} (t : Tm) (pre : List (Int × Pt W)) : Tm := pre.foldl (fun acc x => .pi x.2.1.1 acc) t
theorem piFold_snoc {W : World} (t : Tm) (pre : List (Int × Pt W)) (x : Int × Pt W) : piFold t (pre ++ [x]) = .pi x.2.1.1 (piFold t pre) := by simp [piFold]
theorem piFold_all {W : World} (t : Tm) (zs : List (Pt W)) (pre : List (Int × Pt W)) (h : pre.map Prod.snd = zs.reverse) : piFold t pre = Tm.arrows (trees zs) t := by
  have h1 : ∀ (l : List (Int × Pt W)) (t : Tm), l.foldl (fun acc x => Tm.pi x.2.1.1 acc) t = (l.map Prod.snd).foldl (fun acc x => Tm.pi x.1.1 acc) t := fun l => by
    induction l with
    | nil => intro t; rfl
    | cons x l ih => intro t; exact ih _
  rw [piFold, h1, h, List.foldl_reverse, Tm.arrows, trees, List.foldr_map]

set_option maxHeartbeats 8000000 in
theorem implArrowsT {w : World} {t : Tm} {v u : Value} {b : Nat} {ts : List Tm} {vs : List Value} (hr : IRep w t v) (h : w.ownsRow b 42 1 u ts.length vs) (hs : IReps w ts vs) (hts : ∀ t ∈ ts, IsTm t.bytes t) (hn : ts.length ≤ 100000) :
    Calls Tryz.prog 34 #[u, v] w fun e W' => Below w.heap.size w W' ∧ ∃ v', e = .returned v' ∧ IRep W' (Tm.arrows ts t) v' := by
  obtain ⟨zs, e1, e2⟩ := ptList hs hts
  have hzl : zs.length = ts.length := by rw [← e1, trees_len]
  rw [← hzl, ← e2] at h
  rw [← hzl] at hn
  subst e1
  obtain ⟨ua, uc, rfl⟩ := row_slice h
  obtain ⟨T0, x0, rfl⟩ := hr.iface
  clear hs hts e2 hzl
  refine (callsIn_wide (n := 3)).1 ?_
  refine callsIn_of_wp_marks Tryz.func34 rfl trivial ?_ rfl
  simp only [Tryz.ntmps34, List.size_toArray, List.length_cons, List.length_nil, Nat.reduceAdd, Nat.reduceSub, Array.replicate_succ, Array.replicate_zero, List.push_toArray, List.append_toArray, List.nil_append, List.cons_append]
  gi_wp2_with ((try refine ⟨trivial, ?_⟩); gi_at_call 55; refine (callsIn_wide.2 (implBackward _ _ _ _)).mono ?_; rintro e w' ⟨rfl, rfl⟩)
  have bT := Boxed.new w 42 (.iface T0 x0)
  have hB0 : Below w.heap.size w (w.alloc (.cells #[.iface T0 x0] 42)) := (Below.refl _ w).alloc (Nat.le_refl _) _
  have bS := Boxed.new (w.alloc (.cells #[.iface T0 x0] 42)) 45 (.slice ua zs.length uc)
  have hB1 := hB0.alloc hB0.size (.cells #[.slice ua zs.length uc] 45)
  have bT1 := bT.alloc (.cells #[.slice ua zs.length uc] 45)
  rw [World.size_alloc] at bS
  refine wpIn_rangeFunc_ownG rfl (by omega) (gf := 69) (lb := #[.pointer (some ⟨w.heap.size + 1, 0, none⟩)]) rfl trivial (enters_of Tryz.func69 (by kernel_rfl) rfl)
    (backStops Fence.wide 2 (by omega) trivial rfl (w.heap.size + 1) b w _ _ zs hn h hB1 bS) KpB.trans
    (fun W l o o' hl ho hc hw => ⟨belowK_b (w := w) (Nat.le_refl _) W l o o' (by simp at hl; omega) ho hc hw, World.putObj_heap_other (fun e => by simp at hl; omega)⟩) (Below.refl _ _) (fun _ => rfl)
    (fun (pre : List (Int × Pt w)) W => (∃ v, Boxed W w.heap.size 42 v ∧ IRep W (piFold t pre) v) ∧ Below w.heap.size ((w.alloc (.cells #[.iface T0 x0] 42)).alloc (.cells #[.slice ua zs.length uc] 45)) W)
    (fun _ _ _ => False)
    (OwnFrom.and (Own.from (irepBox_own w.heap.size (fun pre : List (Int × Pt w) => piFold t pre)) _) (ownFrom_below hB1.size hB1.size))
    (fun _ _ _ _ _ hs _ _ => hs)
    ⟨⟨_, bT1, hr.below hB1⟩, Below.refl _ _⟩
    (fun x : Int × Pt w => { tmps := #[.slice ua zs.length uc, .iface T0 x0, undef, .pointer (some ⟨w.heap.size, 0, none⟩), .nilIface, undef, x.2.1.2, .slice ua zs.length uc, .func (.func 69) #[] #[.pointer (some ⟨w.heap.size + 1, 0, none⟩)], .int .i64 x.1, x.2.1.2, undef, undef, undef, undef, undef, undef], defers := [] }) ?assign ?body ?done ?stop
  case assign =>
    intro l x W K hK
    gi_wp2
    exact hK
  case body =>
    rintro l pre ⟨ix, ⟨⟨tm, tv⟩, hr0, hok, hlen⟩⟩ W ⟨⟨v, hv1, hrv⟩, hB⟩ hlt
    obtain ⟨T2, x2, rfl⟩ := IRep.iface hr0
    obtain ⟨T3, x3, rfl⟩ := hrv.iface
    have hc := hv1.cell
    have hf := hv1.frozen
    have hB2 := hB1.trans hB
    have hrW : IRep W tm (.iface T2 x2) := IRep.below hB2 hr0
    have hsz : w.heap.size + 2 ≤ W.heap.size := by have := hB.size; simp at this; omega
    have hca := (hv1.alloc (.cells #[.iface T2 x2, .iface T3 x3] 87)).cell
    have hfa := (hv1.alloc (.cells #[.iface T2 x2, .iface T3 x3] 87)).frozen
    gi_wp2
    have ka : Below W.heap.size W (W.alloc (.cells #[.iface T2 x2, .iface T3 x3] 87)) := Below.alloc (Below.refl _ _) (Nat.le_refl _) _
    have ko := KeepsOthers.alloc W (.cells #[.iface T2 x2, .iface T3 x3] 87)
    have hna := heap_alloc_new W (.cells #[.iface T2 x2, .iface T3 x3] 87)
    have hva := hv1.alloc (.cells #[.iface T2 x2, .iface T3 x3] 87)
    have ra := hrW.below ka
    have rb := hrv.below ka
    have oa := ka.block (w.heap.size + 1) (by omega)
    have kb := ka.mono hB2.size
    generalize W.alloc (.cells #[.iface T2 x2, .iface T3 x3] 87) = Wa at ko hna hva ra rb oa kb ⊢
    have ns : NoStr Wa (some w.heap.size) := fun k cs e fr hk ht hh => by
      cases hk
      rw [show Wa.heap[w.heap.size]? = _ from hva] at hh
      cases hh
      exact absurd ht (by decide)
    have g1 := grownBy_setCell' Wa w.heap.size (.iface 85 (.pointer (some ⟨W.heap.size, 0, none⟩)))
    have o1 := Below.heap_setCell Wa ⟨w.heap.size, 0, none⟩ (.iface 85 (.pointer (some ⟨W.heap.size, 0, none⟩))) (w.heap.size + 1) (by simp)
    have kc := kb.setCell (p := ⟨w.heap.size, 0, none⟩) (Nat.le_refl _) (.iface 85 (.pointer (some ⟨W.heap.size, 0, none⟩)))
    refine ⟨(ko.trans (KeepsOthers.setCell _ _ _)).from _, ⟨kc, o1.trans oa⟩, ⟨_, hva.set _, ?_⟩, hB.trans kc⟩
    rw [piFold_snoc]
    exact ⟨_, _, _, rfl, heap_grown g1 ns (by decide) hna, ra.grown g1 ns, rb.grown g1 ns⟩
  case done =>
    rintro D ys W hD hys ⟨⟨v, hv1, hrv⟩, hB⟩ hK
    have hc := hv1.cell
    gi_wp2
    refine ⟨by simp, .inl ⟨_, _, rfl, run_takeDeferred hK, ?_⟩⟩
    refine ⟨_, results_tmp rfl _ _ _, (hB1.trans hB).trans (belowK_b (w := w) (Nat.le_refl _) W D _ _ (by simp at hD; omega) hK rfl rfl), v, rfl, ?_⟩
    rw [← piFold_all t zs ys hys]
    exact hrv.grown (grownBy_putObj' W D _) (noStr_of fun r e => by cases e; exact ⟨_, hK, rfl⟩)
  case stop =>
    rintro D c pre W _ _ h _
    exact h.elim
end Go.Proofs.YtgmjbdndffdpoaaGreatDoor

namespace Go.Proofs.YtgmjbdndffdpoaaGreatDoor
set_option maxRecDepth 100000
open Go.ChangeShapes Go.WideShapes Go.ChangeAt Go.RowKit
set_option linter.unusedSimpArgs false
set_option linter.unusedVariables false

theorem AllTm.flatP {ls : List (List UInt8)} {ts : List Tm} (h : AllTm ls ts) : catP ts = (ls.map fun d => 112 :: d).flatten := by rw [catP, ← h.1, List.map_map]; rfl
theorem flatP_len : ∀ (ls : List (List UInt8)), (ls.map fun d => (112 : UInt8) :: d).flatten.length = ls.length + ls.flatten.length
  | [] => rfl
  | x :: ls => by
    have := flatP_len ls
    simp only [List.map_cons, List.flatten_cons, List.length_append, List.length_cons, this]
    omega
theorem arrows_no {t : List UInt8} (ls : List (List UInt8)) (hno : ∀ u, ¬ IsTm t u) : arrowsOf ls t = none := by
  unfold arrowsOf
  rw [if_neg]
  rintro ⟨h1, _⟩
  obtain ⟨u, hu⟩ := termOk_iff.1 h1
  exact hno u hu
theorem arrows_no2 (t : List UInt8) {ls : List (List UInt8)} (hno : (∃ a ∈ ls, ∀ t, ¬ IsTm a t) ∨ 2000 < ls.flatten.length) : arrowsOf ls t = none := by
  unfold arrowsOf
  rw [if_neg]
  rintro ⟨_, h2, h3⟩
  rcases hno with ⟨a, ha, hx⟩ | hl
  · obtain ⟨t, ht⟩ := termOk_iff.1 (h2 a ha)
    exact hx t ht
  · omega
theorem arrows_yes {t : List UInt8} {ls : List (List UInt8)} {T : Tm} {ts : List Tm} (ht : IsTm t T) (ha : AllTm ls ts) : arrowsOf ls t = sayT (some []) (Tm.arrows ts T) := by
  have hok := arrows_ok ts T ht.1 ha.ok
  have hb := arrows_bytes ts T
  rw [ha.flatP, ht.2.1] at hb
  have hl : (Tm.arrows ts T).bytes.length = t.length + ls.length + ls.flatten.length := by rw [hb, List.length_append, flatP_len]; omega
  unfold arrowsOf
  by_cases hk : t.length + ls.length + ls.flatten.length ≤ 2000
  · rw [if_pos ⟨termOk_iff.2 ⟨T, ht⟩, ha.all, hk⟩, (sayT_nil _).1 ⟨hok, by omega⟩, hb]
  · rw [if_neg (fun hh => hk hh.2.2), (sayT_nil _).2 (fun hh => hk (by have := hh.2; omega))]

set_option maxHeartbeats 4000000 in
theorem implArrows (s : ByteArray) {W : World} {b : Nat} {v : Value} {ls : List (List UInt8)} (hv : Vars W) (hs : s.size ≤ maxLen) (h : W.ownsRow b 9 1 v ls.length (ls.map sv)) (hn : ls.length ≤ 1048576) (hx : ∀ x ∈ ls, x.length ≤ 1048576) :
    Calls Tryz.prog 12 #[v, .string s] W fun e w' => e = .returned (putRes (arrowsOf ls s.data.toList)) ∧ Below W.heap.size W w' := by
  have f1 := Lib.hid (implReadTerms hv h hn hx)
  have f2 := Lib.hid fun W1 (hb : Below W.heap.size W W1) => implReadTerm s W1 (hv.below hb) hs
  have HV := Lib.hid hv
  obtain ⟨ua, uc, rfl⟩ := row_slice h
  clear hv h hx hs
  go_enter Tryz.func12, Tryz.ntmps12
  go_wp2_with fail
  (with_reducible refine f1.out.mono ?_); rintro e w1 ⟨hb, ⟨ts, u, vs, hA, hfl, hl2, rfl, hu, hvs⟩ | ⟨hno, rfl⟩⟩
  rotate_left
  · have HB := Lib.hid hb
    have HE : Hid (arrowsOf ls s.data.toList = none) := arrows_no2 _ hno
    clear hno f1 hb
    go_wp2_with fail
    (with_reducible refine (f2.out _ HB.out).mono ?_); rintro e w2 ⟨hb2, ⟨t, tv, ht, rfl, hr⟩ | ⟨hno2, rfl⟩⟩
    · have HB2 := Lib.hid (HB.out.trans (hb2.mono HB.out.size))
      obtain ⟨T, x, rfl⟩ := hr.iface
      clear hb2 ht hr f2
      go_wp2
      go_ret2
      rw [HE.out]
      exact ⟨rfl, HB2.out⟩
    · have HB2 := Lib.hid (HB.out.trans (hb2.mono HB.out.size))
      clear hb2 hno2 f2
      go_wp2
      go_ret2
      rw [HE.out]
      exact ⟨rfl, HB2.out⟩
  have HB := Lib.hid hb
  have HU := Lib.hid hu
  obtain ⟨xa, xc, rfl⟩ := row_slice hu
  clear hb f1 hu
  go_wp2_with fail
  (with_reducible refine (f2.out _ HB.out).mono ?_); rintro e w2 ⟨hb2, ⟨t, tv, ht, rfl, hr⟩ | ⟨hno2, rfl⟩⟩
  rotate_left
  · have HB2 := Lib.hid (HB.out.trans (hb2.mono HB.out.size))
    have HE : Hid (arrowsOf ls s.data.toList = none) := arrows_no _ hno2
    clear hb2 hno2 f2 hA hvs HU
    go_wp2
    go_ret2
    rw [HE.out]
    exact ⟨rfl, HB2.out⟩
  have HB2 := Lib.hid (HB.out.trans (hb2.mono HB.out.size))
  have HE := Lib.hid (arrows_yes ht hA)
  have hok := arrows_ok ts t ht.1 hA.ok
  have hbl := congrArg List.length (arrows_bytes ts t)
  rw [hA.flatP, List.length_append, flatP_len] at hbl
  have hle := ht.2.2
  rw [← ht.2.1] at hle
  have hll := hA.len
  have f3 := Lib.hid (implArrowsT hr (own_below HU.out hb2) (hvs.below hb2) hA.2 (by omega))
  have f4 := Lib.hid fun W2 v' (hb3 : Below W.heap.size W W2) (hr3 : IRep W2 (Tm.arrows ts t) v') => implTextWithin (HV.out.below hb3) hok.lim9 hok.pre (by omega) hr3
  obtain ⟨T0, x0, rfl⟩ := hr.iface
  generalize Tm.arrows ts t = R at f3 f4 HE
  clear hb2 hA HU hvs f2 ht hr hok hbl hle hll hfl HB
  go_wp2_with fail
  (with_reducible refine f3.out.mono ?_); rintro e w3 ⟨hb3, v', rfl, hr3⟩
  have HB3 := Lib.hid (HB2.out.trans (hb3.mono HB2.out.size))
  have f5 := Lib.hid (f4.out w3 v' HB3.out hr3)
  obtain ⟨T1, x1, rfl⟩ := hr3.iface
  obtain ⟨o2, ho⟩ := putRes_get (sayT (some []) R)
  rw [ho] at f5
  have HO := Lib.hid ho
  clear hr3 hb3 f3 f4 ho
  go_wp2_with fail
  (with_reducible refine f5.out.mono ?_); rintro e w4 ⟨rfl, hb4⟩
  have HB4 := Lib.hid (HB3.out.trans (hb4.mono HB3.out.size))
  clear hb4 f5
  go_wp2
  go_ret2
  rw [HE.out, HO.out]
  exact ⟨rfl, HB4.out⟩
end Go.Proofs.YtgmjbdndffdpoaaGreatDoor
