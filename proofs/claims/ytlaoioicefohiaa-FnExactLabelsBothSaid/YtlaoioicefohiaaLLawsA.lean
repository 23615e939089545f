/-
  The laws of chapter 3 on one label, on LabelsOk and on LabelIn, each from the contract of its own function of the program (handed in as a hypothesis).
-/
import Derived.Test.YtlaoioicefohiaaLb3
import Derived.Test.YtlaoioicefohiaaMarksL
import Derived.Test.YtlaoioicefohiaaLsOk
import Derived.Test.YtlaoioicefohiaaLIn
import Derived.Deep.RegionHeld3
namespace Go.Proofs.Ytlaoioicefohiaa
set_option maxRecDepth 100000
open Go.ChangeShapes Go.WideShapes Go.ChangeAt Go.RowKit
set_option linter.unusedSimpArgs false

theorem boxed {w : World} {k : Int} {n : List UInt8} : ∀ W, Below (w.alloc (.cells #[.int .i64 k, .string ⟨n.toArray⟩] 28)).heap.size (w.alloc (.cells #[.int .i64 k, .string ⟨n.toArray⟩] 28)) W → W.cell? ⟨w.heap.size, 0, none⟩ = some (.int .i64 k) ∧ W.cell? ⟨w.heap.size, 1, none⟩ = some (.string ⟨n.toArray⟩) := by
  intro W hb
  exact ⟨(hb.cell (p := ⟨w.heap.size, 0, none⟩) (by simp)).trans (World.news_of_block (cs := #[.int .i64 k, .string ⟨n.toArray⟩]) (t := 28) (fr := (0, 0)) (heap_alloc_new w _) 0 _ rfl), (hb.cell (p := ⟨w.heap.size, 1, none⟩) (by simp)).trans (World.news_of_block (cs := #[.int .i64 k, .string ⟨n.toArray⟩]) (t := 28) (fr := (0, 0)) (heap_alloc_new w _) 1 _ rfl)⟩

set_option maxHeartbeats 1000000 in
theorem lawLabelOk (k : Int) (n : List UInt8) (w : World) (hn : n.length ≤ maxLen)
    (hI : n.length ≤ 1048576 → ∀ W, Calls Try.prog 21 #[.agg #[.int .i64 k, .string ⟨n.toArray⟩]] W fun e w' => e = .returned (.bool (labelOk k n)) ∧ Below W.heap.size W w') :
    Calls Try.prog 4 #[.agg #[.int .i64 k, .string ⟨n.toArray⟩]] w fun e w' => e = .returned (.bool true) ∧ Below w.heap.size w w' := by
  have f0 : Hid (∀ W, Calls Try.prog 18 #[.agg #[.int .i64 k, .string ⟨n.toArray⟩], .int .i64 1048576] W fun e w' => e = .returned (.int .i64 (if 1048576 < n.length then -1 else ((1048576 - n.length : Nat) : Int))) ∧ Below W.heap.size W w') := fun W => szLabel k n 1048576 W hn (Nat.le_refl _)
  have f1 := Lib.hid fun W => toLabel k n W
  have f2 := Lib.hid fun W => specLabelOk k n W hn
  have HB := Lib.hid (boxed (w := w) (k := k) (n := n))
  have B0 : Below w.heap.size w (w.alloc (.cells #[.int .i64 k, .string ⟨n.toArray⟩] 28)) := (Below.refl _ _).alloc (Nat.le_refl _) _
  have hza : w.heap.size ≤ (w.alloc (.cells #[.int .i64 k, .string ⟨n.toArray⟩] 28)).heap.size := by simp
  by_cases h1 : 1048576 < n.length
  · rw [if_pos h1] at f0
    go_enter Try.func4, Try.ntmps4
    go_wp2_with fail
    (with_reducible refine (f0.out _).mono ?_); rintro e w1 ⟨rfl, hb1⟩
    go_wp2
    go_ret
    exact ⟨rfl, B0.trans (hb1.mono hza)⟩
  · rw [if_neg h1] at f0
    have f3 := Lib.hid (hI (by omega))
    generalize labelOk k n = b at f2 f3
    obtain ⟨r, hr⟩ : ∃ r, 1048576 - n.length = r := ⟨_, rfl⟩
    rw [hr] at f0
    have d0 : decide ((r : Int) < 0) = false := decide_eq_false (by omega)
    clear hr hI
    go_enter Try.func4, Try.ntmps4
    go_wp2_with fail
    (with_reducible refine (f0.out _).mono ?_); rintro e w1 ⟨rfl, hb1⟩
    obtain ⟨p1, q1⟩ := HB.out _ hb1
    go_wp2_with fail
    (with_reducible refine (f1.out _).mono ?_); rintro e w2 ⟨rfl, hb2⟩
    have B2 := hb1.trans (hb2.mono hb1.size)
    go_wp2_with fail
    (with_reducible refine (f2.out _).mono ?_); rintro e w3 ⟨rfl, hb3⟩
    have B3 := B2.trans (hb3.mono B2.size)
    obtain ⟨p3, q3⟩ := HB.out _ B3
    go_wp2_with fail
    (with_reducible refine (f1.out _).mono ?_); rintro e w4 ⟨rfl, hb4⟩
    have B4 := B3.trans (hb4.mono B3.size)
    go_wp2_with fail
    (with_reducible refine (f3.out _).mono ?_); rintro e w5 ⟨rfl, hb5⟩
    have B5 := B4.trans (hb5.mono B4.size)
    cases b
    all_goals
      go_wp2
      go_ret
      exact ⟨rfl, B0.trans (B5.mono hza)⟩

set_option maxHeartbeats 1000000 in
theorem lawLabelText (k : Int) (n : List UInt8) (w : World) (hn : n.length ≤ maxLen)
    (hI : n.length ≤ 1048576 → ∀ W, Calls Try.prog 23 #[.agg #[.int .i64 k, .string ⟨n.toArray⟩]] W fun e w' => e = .returned (textRes k n) ∧ Below W.heap.size W w') :
    Calls Try.prog 5 #[.agg #[.int .i64 k, .string ⟨n.toArray⟩]] w fun e w' => e = .returned (.bool true) ∧ Below w.heap.size w w' := by
  have f0 : Hid (∀ W, Calls Try.prog 18 #[.agg #[.int .i64 k, .string ⟨n.toArray⟩], .int .i64 1048576] W fun e w' => e = .returned (.int .i64 (if 1048576 < n.length then -1 else ((1048576 - n.length : Nat) : Int))) ∧ Below W.heap.size W w') := fun W => szLabel k n 1048576 W hn (Nat.le_refl _)
  have f1 := Lib.hid fun W => toLabel k n W
  have f2 := Lib.hid fun W => specLabelText k n W hn
  have HB := Lib.hid (boxed (w := w) (k := k) (n := n))
  have B0 : Below w.heap.size w (w.alloc (.cells #[.int .i64 k, .string ⟨n.toArray⟩] 28)) := (Below.refl _ _).alloc (Nat.le_refl _) _
  have hza : w.heap.size ≤ (w.alloc (.cells #[.int .i64 k, .string ⟨n.toArray⟩] 28)).heap.size := by simp
  by_cases h1 : 1048576 < n.length
  · rw [if_pos h1] at f0
    go_enter Try.func5, Try.ntmps5
    go_wp2_with fail
    (with_reducible refine (f0.out _).mono ?_); rintro e w1 ⟨rfl, hb1⟩
    go_wp2
    go_ret
    exact ⟨rfl, B0.trans (hb1.mono hza)⟩
  · rw [if_neg h1] at f0
    have f3 := Lib.hid (hI (by omega))
    obtain ⟨x, b, hx⟩ : ∃ x b, textRes k n = .tuple #[.string x, .bool b] := by
      unfold textRes
      split
      · exact ⟨_, _, rfl⟩
      · exact ⟨_, _, rfl⟩
    rw [hx] at f2 f3
    obtain ⟨r, hr⟩ : ∃ r, 1048576 - n.length = r := ⟨_, rfl⟩
    rw [hr] at f0
    have d0 : decide ((r : Int) < 0) = false := decide_eq_false (by omega)
    clear hr hI hx
    go_enter Try.func5, Try.ntmps5
    go_wp2_with fail
    (with_reducible refine (f0.out _).mono ?_); rintro e w1 ⟨rfl, hb1⟩
    obtain ⟨p1, q1⟩ := HB.out _ hb1
    go_wp2_with fail
    (with_reducible refine (f1.out _).mono ?_); rintro e w2 ⟨rfl, hb2⟩
    have B2 := hb1.trans (hb2.mono hb1.size)
    go_wp2_with fail
    (with_reducible refine (f2.out _).mono ?_); rintro e w3 ⟨rfl, hb3⟩
    have B3 := B2.trans (hb3.mono B2.size)
    obtain ⟨p3, q3⟩ := HB.out _ B3
    go_wp2_with fail
    (with_reducible refine (f1.out _).mono ?_); rintro e w4 ⟨rfl, hb4⟩
    have B4 := B3.trans (hb4.mono B3.size)
    go_wp2_with fail
    (with_reducible refine (f3.out _).mono ?_); rintro e w5 ⟨rfl, hb5⟩
    have B5 := B4.trans (hb5.mono B4.size)
    cases b
    all_goals
      go_wp2
      go_ret
      exact ⟨rfl, B0.trans (B5.mono hza)⟩

set_option maxHeartbeats 1000000 in
theorem lawReadLabel (s : ByteArray) (w : World) (hm : s.size ≤ maxLen)
    (hI : s.size ≤ 1048576 → ∀ W, Calls Try.prog 25 #[.string s] W (LabelPost (readL s.data.toList) W)) :
    Calls Try.prog 6 #[.string s] w fun e w' => e = .returned (.bool true) ∧ Below w.heap.size w w' := by
  have f1 := Lib.hid fun W => specReadLabel s W hm
  by_cases h1 : 1048576 < s.size
  · unfold maxLen at hm
    go_enter Try.func6, Try.ntmps6
    go_wp2
    go_ret
    exact ⟨rfl, Below.refl _ _⟩
  · have f2 := Lib.hid (hI (by omega))
    obtain ⟨k, n, b, hx⟩ : ∃ (k : Int) (n : List UInt8) (b : Bool), labelRes (readL s.data.toList) = .tuple #[.agg #[.int .i64 k, .string ⟨n.toArray⟩], .bool b] := by
      cases readL s.data.toList with
      | none => exact ⟨0, [], false, rfl⟩
      | some p => exact ⟨p.1, p.2, true, rfl⟩
    unfold LabelPost at f1 f2
    rw [hx] at f1 f2
    have f3 := Lib.hid fun W => eqLabel k k n n W
    simp only [beq_self_eq_true, Bool.and_self] at f3
    unfold maxLen at hm
    clear hI hx
    go_enter Try.func6, Try.ntmps6
    go_wp2_with fail
    (with_reducible refine (f1.out _).mono ?_); rintro e w1 ⟨rfl, hb1⟩
    have n0 : (w1.alloc (.cells #[.int .i64 k, .string ⟨n.toArray⟩] 31)).cell? ⟨w1.heap.size, 0, none⟩ = some (.int .i64 k) := World.news_of_block (cs := #[.int .i64 k, .string ⟨n.toArray⟩]) (t := 31) (fr := (0, 0)) (heap_alloc_new w1 _) 0 _ rfl
    have n1 : (w1.alloc (.cells #[.int .i64 k, .string ⟨n.toArray⟩] 31)).cell? ⟨w1.heap.size, 1, none⟩ = some (.string ⟨n.toArray⟩) := World.news_of_block (cs := #[.int .i64 k, .string ⟨n.toArray⟩]) (t := 31) (fr := (0, 0)) (heap_alloc_new w1 _) 1 _ rfl
    have BA : Below w.heap.size w (w1.alloc (.cells #[.int .i64 k, .string ⟨n.toArray⟩] 31)) := hb1.alloc hb1.size _
    have hz1 := hb1.size
    go_wp2_with fail
    (with_reducible refine (f2.out _).mono ?_); rintro e w2 ⟨rfl, hb2⟩
    have m0 := (hb2.cell (p := ⟨w1.heap.size, 0, none⟩) (by simp)).trans n0
    have m1 := (hb2.cell (p := ⟨w1.heap.size, 1, none⟩) (by simp)).trans n1
    have hs2 : w1.heap.size + 1 ≤ w2.heap.size := by have := hb2.size; simpa using this
    have hne : w1.heap.size ≠ w2.heap.size := by omega
    have B2 := BA.trans (hb2.mono BA.size)
    have hz2 := B2.size
    have BB := (Below.refl w2.heap.size w2).alloc (Nat.le_refl _) (.cells #[.int .i64 k, .string ⟨n.toArray⟩] 31)
    have m0a := (BB.cell (p := ⟨w1.heap.size, 0, none⟩) (by show w1.heap.size < _; omega)).trans m0
    have m1a := (BB.cell (p := ⟨w1.heap.size, 1, none⟩) (by show w1.heap.size < _; omega)).trans m1
    clear n0 n1
    go_wp2_with fail
    (with_reducible refine (f3.out _).mono ?_); rintro e w3 ⟨rfl, hb3⟩
    cases b
    all_goals
      go_wp2
      go_ret
      exact ⟨rfl, (B2.alloc hz2 _).trans (hb3.mono (by simp; omega))⟩

theorem CameL.sizes {w : World} {v : Value} {l : List Lbl} (h : CameL w v l) : ∀ x ∈ l, x.2.length ≤ maxLen := by
  obtain ⟨a0, cap, b, off, h1, h2, h3, h4, h5⟩ := h
  exact h5

set_option maxHeartbeats 1000000 in
theorem lawLabelsOk {v : Value} {l : List Lbl} (w : World) (h : CameL w v l)
    (hI : l.length ≤ 1048576 → (∀ x ∈ l, x.2.length ≤ 1048576) → ∀ (W : World) (b : Nat) (v : Value), W.ownsRow b 31 2 v l.length (flat l) → Calls Try.prog 30 #[v] W fun e w' => e = .returned (.bool (labelsOk l)) ∧ Below W.heap.size W w') :
    Calls Try.prog 7 #[v] w fun e w' => e = .returned (.bool true) ∧ Below w.heap.size w w' := by
  have f0 : Hid (Calls Try.prog 27 #[v, .int .i64 1048576] w (SzResL l 1048576 w)) := szLabelS h 1048576 (Nat.le_refl _)
  go_enter Try.func7, Try.ntmps7
  go_wp2_with fail
  (refine f0.out.mono ?_); rintro e w0 ⟨hb0, (rfl | ⟨r, rfl, hr⟩)⟩
  · go_wp2
    go_ret
    exact ⟨rfl, hb0⟩
  · have hn : l.length ≤ 1048576 := by omega
    have hx := h.sizes
    have fI := Lib.hid (hI hn (fun x hx => by have := totLb_mem hx; omega))
    have f1 := Lib.hid fun W (hb : Below w.heap.size w W) => toLabelS (h.below hb) hn
    have d0 : decide ((r : Int) < 0) = false := decide_eq_false (by omega)
    clear hI f0
    go_wp2_with fail
    (refine (f1.out _ hb0).mono ?_); rintro e w1 ⟨v1, rfl, ho1, hb1⟩
    have B1 := hb0.trans (hb1.mono hb0.size)
    go_wp2_with fail
    (refine (specLabelsOk ho1 (by omega) hx).mono ?_); rintro e w2 ⟨rfl, hb2⟩
    have B2 := B1.trans (hb2.mono B1.size)
    go_wp2_with fail
    (refine (f1.out _ B2).mono ?_); rintro e w3 ⟨v3, rfl, ho3, hb3⟩
    have B3 := B2.trans (hb3.mono B2.size)
    go_wp2_with fail
    (refine (fI.out _ _ _ ho3).mono ?_); rintro e w4 ⟨rfl, hb4⟩
    have B4 := B3.trans (hb4.mono B3.size)
    have ho4 := own_below ho3 hb4
    generalize labelsOk l = c
    have hcc : (c == c) = true := by simp
    go_wp2_with fail
    (refine (f1.out _ B4).mono ?_); rintro e w5 ⟨v5, rfl, ho5, hb5⟩
    have B5 := B4.trans (hb5.mono B4.size)
    go_wp2_with fail
    (refine (eqLabelS (own_below ho4 hb5) ho5 (by omega)).mono ?_); rintro e w6 ⟨rfl, hb6⟩
    go_wp2
    go_ret
    exact ⟨rfl, B5.trans (hb6.mono B5.size)⟩

set_option maxHeartbeats 2000000 in
theorem lawLabelIn {v : Value} {l : List Lbl} (k : Int) (n : List UInt8) (w : World) (h : CameL w v l) (hn : n.length ≤ maxLen)
    (hI : l.length ≤ 1048576 → (∀ x ∈ l, x.2.length ≤ 1048576) → n.length ≤ 1048576 → ∀ (W : World) (b : Nat) (v : Value), W.ownsRow b 31 2 v l.length (flat l) → Calls Try.prog 39 #[v, .agg #[.int .i64 k, .string ⟨n.toArray⟩]] W fun e w' => e = .returned (.bool (inLb l (k, n))) ∧ Below W.heap.size W w') :
    Calls Try.prog 10 #[v, .agg #[.int .i64 k, .string ⟨n.toArray⟩]] w fun e w' => e = .returned (.bool true) ∧ Below w.heap.size w w' := by
  have HB := Lib.hid (boxed (w := w) (k := k) (n := n))
  have B0 : Below w.heap.size w (w.alloc (.cells #[.int .i64 k, .string ⟨n.toArray⟩] 28)) := (Below.refl _ _).alloc (Nat.le_refl _) _
  have hza : w.heap.size ≤ (w.alloc (.cells #[.int .i64 k, .string ⟨n.toArray⟩] 28)).heap.size := by simp
  have f0 : Hid (Calls Try.prog 27 #[v, .int .i64 1048576] (w.alloc (.cells #[.int .i64 k, .string ⟨n.toArray⟩] 28)) (SzResL l 1048576 (w.alloc (.cells #[.int .i64 k, .string ⟨n.toArray⟩] 28)))) := szLabelS (h.below B0) 1048576 (Nat.le_refl _)
  have f2 := Lib.hid fun W => toLabel k n W
  go_enter Try.func10, Try.ntmps10
  go_wp2_with fail
  generalize w.alloc (.cells #[.int .i64 k, .string ⟨n.toArray⟩] 28) = wa at HB B0 hza f0
  (refine f0.out.mono ?_); rintro e w0 ⟨hb0, (rfl | ⟨r, rfl, hr⟩)⟩
  · go_wp2
    go_ret
    exact ⟨rfl, B0.trans (hb0.mono hza)⟩
  have d0 : decide ((r : Int) < 0) = false := decide_eq_false (by omega)
  have hrl : r ≤ 1048576 := by omega
  obtain ⟨p0, q0⟩ := HB.out _ hb0
  have f3 := Lib.hid fun W => szLabel k n r W hn hrl
  clear f0
  by_cases h1 : r < n.length
  · rw [if_pos h1] at f3
    go_wp2_with fail
    (with_reducible refine (f3.out _).mono ?_); rintro e w1 ⟨rfl, hb1⟩
    go_wp2
    go_ret
    exact ⟨rfl, (B0.trans (hb0.mono hza)).trans (hb1.mono (Nat.le_trans hza hb0.size))⟩
  rw [if_neg h1] at f3
  obtain ⟨r2, hr2⟩ : ∃ r2, r - n.length = r2 := ⟨_, rfl⟩
  rw [hr2] at f3
  have d1 : decide ((r2 : Int) < 0) = false := decide_eq_false (by omega)
  have hln : l.length ≤ 1048576 := by omega
  have fI := Lib.hid (hI hln (fun x hx => by have := totLb_mem hx; omega) (by omega))
  have f1 := Lib.hid fun W (hb : Below wa.heap.size wa W) => toLabelS ((h.below B0).below hb) hln
  clear hI hr2
  go_wp2_with fail
  (with_reducible refine (f3.out _).mono ?_); rintro e w1 ⟨rfl, hb1⟩
  have B1 : Below wa.heap.size wa w1 := hb0.trans (hb1.mono hb0.size)
  have X1 := HB.out _ B1
  have z1 := B1.size
  clear p0 q0 hb0 hb1
  go_wp2_with fail
  go_region_held3 (fun w' => w'.cell? ⟨w.heap.size, 0, none⟩ = some (.int .i64 k) ∧ w'.cell? ⟨w.heap.size, 1, none⟩ = some (.string ⟨n.toArray⟩)) (first | exact X1 | exact X2 | exact X3 | exact X4)
    (first
      | (go_at_call 29; (refine (f1.out _ B1.drew).mono ?_); rintro e w2 ⟨u1, rfl, hu1, hb2⟩; have B2 := B1.drew.trans (hb2.mono (by simp; omega)); have X2 := HB.out _ B2; have z2 := B2.size)
      | (go_at_call 20; (with_reducible refine (f2.out _).mono ?_); rintro e w3 ⟨rfl, hb3⟩; have B3 := B2.trans (hb3.mono z2); have X3 := HB.out _ B3; have hu3 := own_below hu1 hb3; have z3 := B3.size)
      | (go_at_call 38; (refine (specLabelIn hu3 k n (by omega)).mono ?_); rintro e w4 ⟨rfl, hb4⟩; have B4 := B3.trans (hb4.mono z3); have X4 := HB.out _ B4; have z4 := B4.size))
  go_wp2_with fail
  (refine (f1.out _ B4).mono ?_); rintro e w5 ⟨x0, rfl, hx0, hb5⟩
  have B5 := B4.trans (hb5.mono z4)
  obtain ⟨p5, q5⟩ := HB.out _ B5
  go_wp2_with fail
  (with_reducible refine (f2.out _).mono ?_); rintro e w6 ⟨rfl, hb6⟩
  have B6 := B5.trans (hb6.mono B5.size)
  have hx06 := own_below hx0 hb6
  go_wp2_with fail
  (refine (fI.out _ _ _ hx06).mono ?_); rintro e w7 ⟨rfl, hb7⟩
  have B7 := B6.trans (hb7.mono B6.size)
  have hx07 := own_below hx06 hb7
  generalize inLb l (k, n) = c
  have hcc : (c == c) = true := by simp
  go_wp2_with fail
  (refine (f1.out _ B7).mono ?_); rintro e w8 ⟨t8, rfl, ht8, hb8⟩
  have B8 := B7.trans (hb8.mono B7.size)
  go_wp2_with fail
  (refine (eqLabelS (own_below hx07 hb8) ht8 (by omega)).mono ?_); rintro e w9 ⟨rfl, hb9⟩
  have B9 := B8.trans (hb9.mono B8.size)
  go_wp2
  go_ret
  exact ⟨rfl, B0.trans (B9.mono hza)⟩
end Go.Proofs.Ytlaoioicefohiaa
