/-
  The iterators: contracts of impl.yieldArguments, impl.argumentsOf, impl.domainsOf and the functions that these return.
-/
import Derived.RangeFuncKeeps
import Derived.RangeFuncBound
import Derived.RangeFuncLeaves
import Derived.Shelf.Abstract
import Derived.WalkKit
import Derived.OwnWalkIn
import Derived.TacticsInMore
import Derived.LoopNIn
import Derived.LoopIn
import Derived.Test.YtgmjbdndffdpoaaDoorM3
import Derived.Test.YtgmjbdndffdpoaaDoorEMath
import Derived.Test.YtgmjbdndffdpoaaDoorENode
namespace Go.Proofs.YtgmjbdndffdpoaaDoor
set_option maxRecDepth 100000
open Go.ChangeShapes Go.WideShapes Go.ChangeAt Go.RowKit Go.Shelf
set_option linter.unusedSimpArgs false
set_option linter.unusedVariables false
attribute [local go_sem] Oper.semAt_some

/-- A tree with a value that stands for it. -/
abbrev Pt (W0 : World) := { p : Tm × Value // IRep W0 p.1 p.2 ∧ p.1.Ok ∧ p.1.bytes.length ≤ 2000 }
def trees {W0 : World} (l : List (Pt W0)) : List Tm := l.map fun x => x.1.1
theorem trees_snoc {W0 : World} (l : List (Pt W0)) (x : Pt W0) : trees (l ++ [x]) = trees l ++ [x.1.1] := by simp [trees]
theorem trees_len {W0 : World} (l : List (Pt W0)) : (trees l).length = l.length := by simp [trees]
theorem yieldAny {F : Fence} (hd : F.depth = none) {m m' : Nat} {P : Program} {l : Nat} {args : Array Value} {W : World} {R : Ending → World → Prop} (h : YieldAt F m P l args W R) : YieldAt F m' P l args W R := by
  obtain ⟨fn, tmps, assign, body, hy, hR⟩ := h
  exact ⟨fn, tmps, assign, body, hy, hR.1, fun c cs _ => hR.2 c cs (fun d h => by rw [hd] at h; cases h)⟩

theorem undefBool {b : Bool} (h : some undef = some (Value.bool b)) : False := by simp [undef] at h

set_option maxHeartbeats 4000000 in
theorem yieldNone (F : Fence) (hF : F.fn 47) (hro : F.round = none) {l : Nat} {W0 : World} {T : Tm} (hk : T.kind ≠ 64) (n : Nat) (v : Value) (W : World) (hr : IRep W0 T v) :
    CallsIn F n Tryd.prog 47 #[v, .func (.yield l) #[] #[]] W fun e W' => e = .returned (.bool true) ∧ W' = W := by
  have tA := asked_app hr hk W
  obtain ⟨T0, x0, rfl⟩ := hr.iface
  clear hr hk
  refine callsIn_of_wp Tryd.func47 rfl hF ?_ hro
  simp only [Tryd.ntmps47, List.size_toArray, List.length_cons, List.length_nil, Nat.reduceAdd, Nat.reduceSub, Array.replicate_succ, Array.replicate_zero, List.push_toArray, List.append_toArray, List.nil_append, List.cons_append]
  gi_wp2
  any_goals exact (undefBool (by assumption)).elim
  refine ⟨fun _ h => (by cases h), ?_⟩
  gi_wp2
  go_ret
  exact ⟨rfl, rfl⟩

set_option maxHeartbeats 8000000 in
theorem yieldArgs (F : Fence) (hd : F.depth = none) (hF : F.fn 47) (hro : F.round = none) (l N : Nat) (W0 : World) (J Jx : List (Pt W0) → World → Prop)
    (hY : ∀ m pre (x : Pt W0) W, J pre W → pre.length < N → YieldAt F m Tryd.prog l #[x.1.2] W fun e W' =>
      (e = .returned (.bool true) ∧ J (pre ++ [x]) W' ∧ Below W0.heap.size W W') ∨ (e = .returned (.bool false) ∧ Jx (pre ++ [x]) W')) (T : Tm) :
    ∀ (n : Nat) (v : Value) (pre : List (Pt W0)) (W : World), IRep W0 T v → T.Ok → T.bytes.length ≤ 2000 → Below W0.heap.size W0 W → J pre W → pre.length + T.args.length ≤ N →
      CallsIn F n Tryd.prog 47 #[v, .func (.yield l) #[] #[]] W fun e W' =>
        (e = .returned (.bool true) ∧ (∃ ys, trees ys = T.args ∧ J (pre ++ ys) W') ∧ Below W0.heap.size W W') ∨ (e = .returned (.bool false) ∧ ∃ q, Jx q W') := by
  have base : ∀ T : Tm, T.kind ≠ 64 → ∀ (n : Nat) (v : Value) (pre : List (Pt W0)) (W : World), IRep W0 T v → T.Ok → T.bytes.length ≤ 2000 → Below W0.heap.size W0 W → J pre W → pre.length + T.args.length ≤ N →
      CallsIn F n Tryd.prog 47 #[v, .func (.yield l) #[] #[]] W fun e W' =>
        (e = .returned (.bool true) ∧ (∃ ys, trees ys = T.args ∧ J (pre ++ ys) W') ∧ Below W0.heap.size W W') ∨ (e = .returned (.bool false) ∧ ∃ q, Jx q W') := by
    intro T hk n v pre W hr _ _ _ hJ _
    refine (yieldNone F hF hro hk n v W hr).mono ?_
    rintro e W' ⟨rfl, rfl⟩
    exact .inl ⟨rfl, ⟨[], by rw [(not_app hk).2]; rfl, by simpa using hJ⟩, Below.refl _ _⟩
  induction T with
  | var _ => exact base _ (by simp [Tm.kind])
  | sort _ => exact base _ (by simp [Tm.kind])
  | const _ _ => exact base _ (by simp [Tm.kind])
  | lam _ _ => exact base _ (by simp [Tm.kind])
  | pi _ _ => exact base _ (by simp [Tm.kind])
  | lett _ _ _ => exact base _ (by simp [Tm.kind])
  | app f a ihf iha =>
    clear base iha
    intro n v pre W hr hok hlen hB hJ hN
    obtain ⟨g, x, y, rfl, hg, hx, hy⟩ := hr
    have hgl : g < W0.heap.size := (Array.getElem?_eq_some_iff.1 hg).1
    have c0 : W.cell? ⟨g, 0, none⟩ = some x := (hB.cell (p := ⟨g, 0, none⟩) hgl).trans (by rw [Lib.cell_of_heap hg]; rfl)
    have c1 : ∀ W1, Below W0.heap.size W W1 → W1.cell? ⟨g, 1, none⟩ = some y := fun W1 h => ((hB.trans h).cell (p := ⟨g, 1, none⟩) hgl).trans (by rw [Lib.cell_of_heap hg]; rfl)
    simp only [Tm.bytes, List.length_cons, List.length_append] at hlen
    simp only [Tm.args, List.length_append, List.length_cons, List.length_nil] at hN
    have hdd : ∀ k : Nat, (F.depth.isSome = true → 1 ≤ k) := fun k h => by rw [hd] at h; cases h
    have ih1 := (ihf (n - 1) x pre W hx hok.1 (by omega) hB hJ (by omega)).mono (R' := fun e W1 =>
        (e = .returned (.bool true) ∧ W1.cell? ⟨g, 1, none⟩ = some y ∧ YieldAt F (n - 1) Tryd.prog l #[y] W1 fun e W2 =>
          (e = .returned (.bool true) ∧ (∃ ys, trees ys = (Tm.app f a).args ∧ J (pre ++ ys) W2) ∧ Below W0.heap.size W W2) ∨ (e = .returned (.bool false) ∧ ∃ q, Jx q W2)) ∨
        (e = .returned (.bool false) ∧ ∃ q, Jx q W1))
      (fun e W1 h => h.elim (fun ⟨he, ⟨ys, h1, h2⟩, hb1⟩ => .inl ⟨he, c1 W1 hb1, YieldAt.mono (hY (n - 1) (pre ++ ys) ⟨(a, y), hy, hok.2, by show a.bytes.length ≤ 2000; omega⟩ W1 h2 (by
          have h3 := trees_len ys
          rw [h1] at h3
          rw [List.length_append]
          omega)) fun e W2 h => h.elim
        (fun ⟨he, hj, hb2⟩ => .inl ⟨he, ⟨ys ++ [⟨(a, y), hy, hok.2, by show a.bytes.length ≤ 2000; omega⟩], by rw [trees_snoc, h1]; rfl, by rw [← List.append_assoc]; exact hj⟩, hb1.trans hb2⟩)
        (fun ⟨he, hj⟩ => .inr ⟨he, _, hj⟩)⟩) .inr)
    have tA := (taApp 66 (.pointer (some ⟨g, 0, none⟩)) W).trans (by rw [if_pos rfl])
    obtain ⟨T0, x0, rfl⟩ := hx.iface
    obtain ⟨T1, y0, rfl⟩ := hy.iface
    clear ihf c1 hY hJ hN hlen hok hg hgl hx hy hB
    refine callsIn_of_wp Tryd.func47 rfl hF ?_ hro
    simp only [Tryd.ntmps47, List.size_toArray, List.length_cons, List.length_nil, Nat.reduceAdd, Nat.reduceSub, Array.replicate_succ, Array.replicate_zero, List.push_toArray, List.append_toArray, List.nil_append, List.cons_append]
    gi_wp2_with (first
      | ((try refine ⟨hdd _, ?_⟩); gi_at_call 47; refine ih1.mono ?_; clear ih1; rintro e W1 (⟨rfl, c1', fn, tmps, assign, body, hy, hR⟩ | ⟨rfl, q, hx1⟩))
      | ((try refine ⟨hdd _, ?_⟩); refine hR.mono ?_; clear hR; rintro e W2 (⟨rfl, ⟨ys, h1, h2⟩, hb2⟩ | ⟨rfl, q, hx2⟩)))
    · go_ret
      exact .inl ⟨rfl, ⟨ys, h1, h2⟩, hb2⟩
    · go_ret
      exact .inr ⟨rfl, q, hx2⟩
    · refine ⟨fun _ h => (by cases h), ?_⟩
      gi_wp2
      go_ret
      exact .inr ⟨rfl, q, hx1⟩

set_option maxHeartbeats 1000000 in
theorem argsLoop (F : Fence) (hd : F.depth = none) (n : Nat) (hF1 : F.fn 46) (hF2 : F.fn 47) (hro : F.round = none) (l Bt : Nat) (W0 : World) (v : Value) (T : Tm) (J Jx : List (Pt W0) → World → Prop)
    (hY : ∀ pre (x : Pt W0) W, J pre W → pre.length < T.args.length → YieldAt F (n - 1) Tryd.prog l #[x.1.2] W fun e W' =>
      (e = .returned (.bool true) ∧ J (pre ++ [x]) W' ∧ Below W0.heap.size W W') ∨ (e = .returned (.bool false) ∧ Jx (pre ++ [x]) W'))
    (W : World) (hBt : W.cell? ⟨Bt, 0, none⟩ = some v) (hr : IRep W0 T v) (hok : T.Ok) (hlen : T.bytes.length ≤ 2000) (hB : Below W0.heap.size W0 W) (h0 : J [] W) :
    CallsIn F n Tryd.prog 46 #[.func (.yield l) #[] #[], .pointer (some ⟨Bt, 0, none⟩)] W fun e W' => (∃ v, e = .returned v) ∧
      ((∃ ys, trees ys = T.args ∧ J ys W') ∨ (∃ pre, True ∧ Jx pre W')) := by
  have hdd : ∀ k : Nat, (F.depth.isSome = true → 1 ≤ k) := fun k h => by rw [hd] at h; cases h
  have hp := yieldArgs F hd hF2 hro l T.args.length W0 J Jx (fun m pre x W hj hl => yieldAny hd (hY pre x W hj hl)) T (n - 1) v [] W hr hok hlen hB h0 (by simp)
  obtain ⟨T0, x0, rfl⟩ := hr.iface
  clear hY hr hok hlen hB h0
  refine callsIn_of_wp Tryd.func46 rfl hF1 ?_ hro
  simp only [Tryd.ntmps46, List.size_toArray, List.length_cons, List.length_nil, Nat.reduceAdd, Nat.reduceSub, Array.replicate_succ, Array.replicate_zero, List.push_toArray, List.append_toArray, List.nil_append, List.cons_append]
  gi_wp2_with ((try refine ⟨hdd _, ?_⟩); gi_at_call 47; refine hp.mono ?_; clear hp; rintro e W1 (⟨rfl, ⟨ys, h1, h2⟩, _⟩ | ⟨rfl, q, hx⟩))
  · go_end0
    exact ⟨⟨_, rfl⟩, .inl ⟨ys, h1, by simpa using h2⟩⟩
  · go_end0
    exact ⟨⟨_, rfl⟩, .inr ⟨q, trivial, hx⟩⟩

theorem argsStops (F : Fence) (hd : F.depth = none) (n : Nat) (hF1 : F.fn 46) (hF2 : F.fn 47) (hro : F.round = none) (Bt : Nat) (v : Value) (T : Tm) (w : World) (hBt : Bt < w.heap.size)
    (hc : w.cell? ⟨Bt, 0, none⟩ = some v) (hr : IRep w T v) (hok : T.Ok) (hlen : T.bytes.length ≤ 2000) :
    SeqStopsK F n Tryd.prog 46 #[.pointer (some ⟨Bt, 0, none⟩)] (fun x : Pt w => #[x.1.2]) (Below w.heap.size) (fun ys => trees ys = T.args) (fun _ => True) T.args.length w := fun l J Jx W hW _ _ hY h0 =>
  argsLoop F hd n hF1 hF2 hro l Bt w v T J Jx hY W ((hW.cell (p := ⟨Bt, 0, none⟩) hBt).trans hc) hr hok hlen hW h0

set_option maxHeartbeats 1000000 in
theorem implArgumentsOf (T : TypeId) (x : Value) (w : World) :
    Calls Tryd.prog 32 #[.iface T x] w fun e w' => e = .returned (.func (.func 46) #[] #[.pointer (some ⟨w.heap.size, 0, none⟩)]) ∧ w' = w.alloc (.cells #[.iface T x] 40) := by
  go_enter Tryd.func32, Tryd.ntmps32
  go_wp2
  go_ret
  exact ⟨rfl, rfl⟩
theorem implDomainsOf (T : TypeId) (x : Value) (w : World) :
    Calls Tryd.prog 39 #[.iface T x] w fun e w' => e = .returned (.func (.func 49) #[] #[.pointer (some ⟨w.heap.size, 0, none⟩)]) ∧ w' = w.alloc (.cells #[.iface T x] 40) := by
  go_enter Tryd.func39, Tryd.ntmps39
  go_wp2
  go_ret
  exact ⟨rfl, rfl⟩

set_option maxHeartbeats 4000000 in
theorem domsLoop (F : Fence) (n : Nat) (hF1 : F.fn 49) (hro : F.round = none) (l Bt : Nat) (W0 : World) (v : Value) (T : Tm) (J Jx : List (Pt W0) → World → Prop) (hn : 1 ≤ n)
    (hY : ∀ pre (x : Pt W0) W, J pre W → pre.length < T.doms.length → YieldAt F (n - 1) Tryd.prog l #[x.1.2] W fun e W' =>
      (e = .returned (.bool true) ∧ J (pre ++ [x]) W' ∧ Below W0.heap.size W W') ∨ (e = .returned (.bool false) ∧ Jx (pre ++ [x]) W'))
    (W : World) (hBt : W.cell? ⟨Bt, 0, none⟩ = some v) (hr : IRep W0 T v) (hok : T.Ok) (hlen : T.bytes.length ≤ 2000) (hB : Below W0.heap.size W0 W) (h0 : J [] W) :
    CallsIn F n Tryd.prog 49 #[.func (.yield l) #[] #[], .pointer (some ⟨Bt, 0, none⟩)] W fun e W' => (∃ v, e = .returned v) ∧
      ((∃ ys, trees ys = T.doms ∧ J ys W') ∨ (∃ pre, True ∧ Jx pre W')) := by
  have HR := Lib.hid hr
  obtain ⟨T0, x0, rfl⟩ := hr.iface
  clear hr
  refine callsIn_of_wp Tryd.func49 rfl hF1 ?_ hro
  simp only [Tryd.ntmps49, List.size_toArray, List.length_cons, List.length_nil, Nat.reduceAdd, Nat.reduceSub, Array.replicate_succ, Array.replicate_zero, List.push_toArray, List.append_toArray, List.nil_append, List.cons_append]
  gi_wp2
  gi_loopw [3] (fun p wr => ∃ (pre : List (Pt W0)) (u : Tm) (oo : Value), oo = p ∧ Hid (IRep W0 u oo ∧ u.Ok ∧ u.bytes.length ≤ 2000 ∧ trees pre ++ u.doms = T.doms) ∧ Below W0.heap.size W0 wr ∧ J pre wr) (fun p _ => msr W0 p)
  case atStart => exact ⟨[], T, _, rfl, ⟨HR.out, hok, hlen, rfl⟩, hB, h0⟩
  case round =>
    obtain ⟨pre, u, oo, rfl, HU, hBr, hJs⟩ := hrel
    by_cases hk : u.kind = 112
    · obtain ⟨p, q, rfl⟩ := kind_pi hk
      obtain ⟨h1, h2, h3, h4⟩ := HU.out
      obtain ⟨g, x, y, rfl, hg, hx, hy⟩ := id h1
      have HM := Lib.hid (msr_pi h1 hg)
      have hgl : g < W0.heap.size := (Array.getElem?_eq_some_iff.1 hg).1
      have c0 : wr.cell? ⟨g, 0, none⟩ = some x := (hBr.cell (p := ⟨g, 0, none⟩) hgl).trans (by rw [Lib.cell_of_heap hg]; rfl)
      have C1 : Hid (∀ W1, Below W0.heap.size wr W1 → W1.cell? ⟨g, 1, none⟩ = some y) := fun W1 h => ((hBr.trans h).cell (p := ⟨g, 1, none⟩) hgl).trans (by rw [Lib.cell_of_heap hg]; rfl)
      simp only [Tm.bytes, List.length_cons, List.length_append] at h3
      have tA := (taPi 72 (.pointer (some ⟨g, 0, none⟩)) wr).trans (by rw [if_pos rfl])
      obtain ⟨pt, hp1, hp2⟩ : ∃ pt : Pt W0, pt.1.1 = p ∧ pt.1.2 = x := ⟨⟨(p, x), hx, h2.1, by show p.bytes.length ≤ 2000; omega⟩, rfl, rfl⟩
      obtain ⟨fn, tmps, assign, body, hyy, hR⟩ := hY pre pt wr hJs (by
        rw [← h4, List.length_append, trees_len]
        simp only [Tm.doms, List.length_cons]
        omega)
      have HN : Hid (IRep W0 q y ∧ q.Ok ∧ q.bytes.length ≤ 2000 ∧ trees (pre ++ [pt]) ++ q.doms = T.doms) := ⟨hy, h2.2, by omega, by rw [trees_snoc, ← h4, hp1]; simp [Tm.doms]⟩
      have HB := Lib.hid hBr
      rw [hp2] at hyy
      obtain ⟨T1, x1, rfl⟩ := hx.iface
      obtain ⟨T2, y1, rfl⟩ := hy.iface
      clear HU h1 h2 h3 h4 hg hgl hk hx hy hY hBr hB h0 HR hp1 hp2
      gi_wp2
      refine hR.mono ?_
      rintro e W3 (⟨rfl, hJ3, hk3⟩ | ⟨rfl, hJx3⟩)
      · have c1 := C1.out W3 hk3
        gi_wp2
        go_roundw
        case rel => exact ⟨_, q, _, rfl, HN.out, HB.out.trans hk3, hJ3⟩
        case measure => exact HM.out
      · gi_wp2
        refine bodyPost_ret (results_none rfl _ _ _) rfl ?_
        exact ⟨⟨_, rfl⟩, .inr ⟨_, trivial, hJx3⟩⟩
    · have tA := asked_pi HU.out.1 hk wr
      have HE : Hid (trees pre = T.doms) := by have := HU.out.2.2.2; rw [(not_pi hk).2, List.append_nil] at this; exact this
      clear HU hk hY HR
      gi_wp2
      refine ⟨fun _ h => (by cases h), ?_⟩
      gi_wp2
      refine bodyPost_ret (results_none rfl _ _ _) rfl ?_
      exact ⟨⟨_, rfl⟩, .inl ⟨pre, HE.out, hJs⟩⟩

theorem domsStops (F : Fence) (n : Nat) (hn : 1 ≤ n) (hF1 : F.fn 49) (hro : F.round = none) (Bt : Nat) (v : Value) (T : Tm) (w : World) (hBt : Bt < w.heap.size)
    (hc : w.cell? ⟨Bt, 0, none⟩ = some v) (hr : IRep w T v) (hok : T.Ok) (hlen : T.bytes.length ≤ 2000) :
    SeqStopsK F n Tryd.prog 49 #[.pointer (some ⟨Bt, 0, none⟩)] (fun x : Pt w => #[x.1.2]) (Below w.heap.size) (fun ys => trees ys = T.doms) (fun _ => True) T.doms.length w := fun l J Jx W hW _ _ hY h0 =>
  domsLoop F n hF1 hro l Bt w v T J Jx hn hY W ((hW.cell (p := ⟨Bt, 0, none⟩) hBt).trans hc) hr hok hlen hW h0
end Go.Proofs.YtgmjbdndffdpoaaDoor
