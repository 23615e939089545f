/-
  The exact laws of chapter 5, each from the contract of its own function of the program (handed in as a hypothesis).
-/
import Derived.Test.YtdeophmdpbgkdaaULe
import Derived.Test.YtdeophmdpbgkdaaInts
namespace Go.Proofs.Ytdeophmdpbgkdaa
set_option maxRecDepth 100000
open Go.ChangeShapes Go.WideShapes Go.ChangeAt Go.RowKit
set_option linter.unusedSimpArgs false

def LoI (v : Value) (m : Nat) : Prop := ∀ k, v.ownBlock = some k → m ≤ k
def HiI (v : Value) (m : Nat) : Prop := ∀ k, v.ownBlock = some k → k < m
theorem own_loI {w : World} {b n : Nat} {v : Value} {xs : List Value} (h : w.ownsRow b 3 1 v n xs) : LoI v b := fun k hk => (h.lt k hk).1
theorem own_hiI {w : World} {b n : Nat} {v : Value} {xs : List Value} (h : w.ownsRow b 3 1 v n xs) : HiI v w.heap.size := fun k hk => (h.lt k hk).2
theorem kept_apartI {w w' : World} {b n M : Nat} {v v' : Value} {xs : List Value} (h : w.ownsRow b 3 1 v n xs) (hg : w.grownBy w' v'.ownBlock) (h1 : HiI v M) (h2 : LoI v' M) : w'.ownsRow b 3 1 v n xs := by
  refine h.kept hg ?_
  rcases hv : v.ownBlock with _ | k
  · exact .inl rfl
  · refine .inr fun e => ?_
    have := h1 k hv; have := h2 k e.symm; omega

set_option maxHeartbeats 1000000 in
theorem lawLevelAt (s : ByteArray) {v : Value} {vs : List Int} (w : World) (hm : s.size ≤ maxLen) (h : CameI w v vs)
    (hI : s.size ≤ 1048576 → vs.length ≤ 1048576 → ∀ (W : World) (b : Nat) (v : Value), W.ownsRow b 3 1 v vs.length (vs.map iv) → Calls Try.prog 16 #[.string s, v] W fun e w' => e = .returned (.int .i64 (levelAt s.data.toList vs)) ∧ Below W.heap.size W w') :
    Calls Try.prog 5 #[.string s, v] w fun e w' => e = .returned (.bool true) ∧ Below w.heap.size w w' := by
  have hl : vs.length ≤ maxLen := by obtain ⟨_, _, _, _, _, _, _, h4⟩ := h; exact h4
  have hform : ∃ a cap, v = .slice a vs.length cap := by obtain ⟨a0, cap, _, _, e, _⟩ := h; exact ⟨a0, cap, e⟩
  have HC := Lib.hid h
  obtain ⟨a0, cap, rfl⟩ := hform
  clear h
  unfold maxLen at hl
  by_cases h1 : s.size ≤ 1048576
  rotate_left
  · have d1 : decide ((1048576 : Int) < (s.size : Int)) = true := decide_eq_true (by omega)
    clear hI
    unfold maxLen at hm
    go_enter Try.func5, Try.ntmps5
    go_wp2
    go_ret
    exact ⟨rfl, Below.refl _ _⟩
  have d1 : decide ((1048576 : Int) < (s.size : Int)) = false := decide_eq_false (by omega)
  by_cases h2 : vs.length ≤ 1048576
  rotate_left
  · have d2 : decide ((1048576 : Int) < (vs.length : Int)) = true := decide_eq_true (by omega)
    clear hI
    unfold maxLen at hm
    go_enter Try.func5, Try.ntmps5
    go_wp2
    go_ret
    exact ⟨rfl, Below.refl _ _⟩
  have d2 : decide ((1048576 : Int) < (vs.length : Int)) = false := decide_eq_false (by omega)
  have fA := Lib.hid fun W (hb : Below w.heap.size w W) => toIntS (HC.out.below hb) h2
  have fS := Lib.hid fun (W : World) (b : Nat) (u : Value) (hu : W.ownsRow b 3 1 u vs.length (vs.map iv)) => specLevelAt s hu hm (by omega)
  have fI := Lib.hid (hI h1 h2)
  clear hI
  unfold maxLen at hm
  generalize levelAt s.data.toList vs = r at fS fI
  go_enter Try.func5, Try.ntmps5
  go_wp2_with fail
  (with_reducible refine (fA.out _ (Below.refl _ _)).mono ?_); rintro e w2 ⟨u1, rfl, hu1, hb2⟩
  go_wp2_with fail
  (with_reducible refine (fS.out _ _ _ hu1).mono ?_); rintro e w3 ⟨rfl, rfl⟩
  clear hu1
  go_wp2_with fail
  (with_reducible refine (fA.out _ hb2).mono ?_); rintro e w4 ⟨u2, rfl, hu2, hb4⟩
  have B4 := hb2.trans (hb4.mono hb2.size)
  go_wp2_with fail
  (with_reducible refine (fI.out _ _ _ hu2).mono ?_); rintro e w5 ⟨rfl, hb5⟩
  have B5 := B4.trans (hb5.mono B4.size)
  have hu5 := own_below hu2 hb5
  clear hu2
  go_wp2_with fail
  (with_reducible refine (fA.out _ B5).mono ?_); rintro e w6 ⟨u3, rfl, hu3, hb6⟩
  have B6 := B5.trans (hb6.mono B5.size)
  have hu6 := own_below hu5 hb6
  go_wp2_with fail
  (refine (eqIntS hu6 hu3 (by omega)).mono ?_); rintro e w7 ⟨rfl, q, rfl⟩
  go_wp2
  go_ret
  exact ⟨rfl, below_drewN B6 q⟩

theorem lawLevelLe (a b : ByteArray) (w : World) (ha : a.size ≤ maxLen) (hb : b.size ≤ maxLen)
    (hI : a.size ≤ 1048576 → b.size ≤ 1048576 → ∀ W, Calls Try.prog 18 #[.string a, .string b] W fun e w' => e = .returned (.bool (levelLe a.data.toList b.data.toList)) ∧ Below W.heap.size W w') :
    Calls Try.prog 6 #[.string a, .string b] w fun e w' => e = .returned (.bool true) ∧ Below w.heap.size w w' := by
  by_cases h1 : a.size ≤ 1048576
  rotate_left
  · have d1 : decide ((1048576 : Int) < (a.size : Int)) = true := decide_eq_true (by omega)
    clear hI
    unfold maxLen at ha hb
    go_enter Try.func6, Try.ntmps6
    go_wp2
    go_ret
    exact ⟨rfl, Below.refl _ _⟩
  have d1 : decide ((1048576 : Int) < (a.size : Int)) = false := decide_eq_false (by omega)
  by_cases h2 : b.size ≤ 1048576
  rotate_left
  · have d2 : decide ((1048576 : Int) < (b.size : Int)) = true := decide_eq_true (by omega)
    clear hI
    unfold maxLen at ha hb
    go_enter Try.func6, Try.ntmps6
    go_wp2
    go_ret
    exact ⟨rfl, Below.refl _ _⟩
  have d2 : decide ((1048576 : Int) < (b.size : Int)) = false := decide_eq_false (by omega)
  have fS := Lib.hid fun W => specLevelLe a b W ha hb
  have fI := Lib.hid (hI h1 h2)
  clear hI
  unfold maxLen at ha hb
  generalize levelLe a.data.toList b.data.toList = r at fS fI
  go_enter Try.func6, Try.ntmps6
  go_wp2_with fail
  (with_reducible refine (fS.out _).mono ?_); rintro e w1 ⟨rfl, hb1⟩
  go_wp2_with fail
  (with_reducible refine (fI.out _).mono ?_); rintro e w2 ⟨rfl, hb2⟩
  go_wp2
  go_ret
  exact ⟨rfl, hb1.trans (hb2.mono hb1.size)⟩

theorem lawLevelSame (a b : ByteArray) (w : World) (ha : a.size ≤ maxLen) (hb : b.size ≤ maxLen)
    (hI : a.size ≤ 1048576 → b.size ≤ 1048576 → ∀ W, Calls Try.prog 22 #[.string a, .string b] W fun e w' => e = .returned (.bool (levelSame a.data.toList b.data.toList)) ∧ Below W.heap.size W w') :
    Calls Try.prog 7 #[.string a, .string b] w fun e w' => e = .returned (.bool true) ∧ Below w.heap.size w w' := by
  by_cases h1 : a.size ≤ 1048576
  rotate_left
  · have d1 : decide ((1048576 : Int) < (a.size : Int)) = true := decide_eq_true (by omega)
    clear hI
    unfold maxLen at ha hb
    go_enter Try.func7, Try.ntmps7
    go_wp2
    go_ret
    exact ⟨rfl, Below.refl _ _⟩
  have d1 : decide ((1048576 : Int) < (a.size : Int)) = false := decide_eq_false (by omega)
  by_cases h2 : b.size ≤ 1048576
  rotate_left
  · have d2 : decide ((1048576 : Int) < (b.size : Int)) = true := decide_eq_true (by omega)
    clear hI
    unfold maxLen at ha hb
    go_enter Try.func7, Try.ntmps7
    go_wp2
    go_ret
    exact ⟨rfl, Below.refl _ _⟩
  have d2 : decide ((1048576 : Int) < (b.size : Int)) = false := decide_eq_false (by omega)
  have fS := Lib.hid fun W => specLevelSame a b W ha hb
  have fI := Lib.hid (hI h1 h2)
  clear hI
  unfold maxLen at ha hb
  generalize levelSame a.data.toList b.data.toList = r at fS fI
  go_enter Try.func7, Try.ntmps7
  go_wp2_with fail
  (with_reducible refine (fS.out _).mono ?_); rintro e w1 ⟨rfl, hb1⟩
  go_wp2_with fail
  (with_reducible refine (fI.out _).mono ?_); rintro e w2 ⟨rfl, hb2⟩
  go_wp2
  go_ret
  exact ⟨rfl, hb1.trans (hb2.mono hb1.size)⟩

theorem lawLevelZero (s : ByteArray) (w : World) (hm : s.size ≤ maxLen)
    (hI : s.size ≤ 1048576 → ∀ W, Calls Try.prog 21 #[.string s] W fun e w' => e = .returned (.bool (levelLe s.data.toList [122])) ∧ Below W.heap.size W w') :
    Calls Try.prog 8 #[.string s] w fun e w' => e = .returned (.bool true) ∧ Below w.heap.size w w' := by
  by_cases h1 : s.size ≤ 1048576
  · have d1 : decide ((1048576 : Int) < (s.size : Int)) = false := decide_eq_false (by omega)
    have f1 := Lib.hid fun W => specLevelZero s W hm
    have f2 := Lib.hid (hI h1)
    clear hI
    generalize levelLe s.data.toList [122] = r at f1 f2
    go_enter Try.func8, Try.ntmps8
    go_wp2_with fail
    (with_reducible refine (f1.out _).mono ?_); rintro e w1 ⟨rfl, hb1⟩
    go_wp2_with fail
    (with_reducible refine (f2.out _).mono ?_); rintro e w2 ⟨rfl, hb2⟩
    go_wp2
    go_ret
    exact ⟨rfl, hb1.trans (hb2.mono hb1.size)⟩
  · have d1 : decide ((1048576 : Int) < (s.size : Int)) = true := decide_eq_true (by omega)
    clear hI
    unfold maxLen at hm
    go_enter Try.func8, Try.ntmps8
    go_wp2
    go_ret
    exact ⟨rfl, Below.refl _ _⟩

theorem lawLevelAbove (s : ByteArray) (w : World) (hm : s.size ≤ maxLen)
    (hI : s.size ≤ 1048576 → ∀ W, Calls Try.prog 20 #[.string s] W fun e w' => e = .returned (.bool (levelLe [43, 122] s.data.toList)) ∧ Below W.heap.size W w') :
    Calls Try.prog 9 #[.string s] w fun e w' => e = .returned (.bool true) ∧ Below w.heap.size w w' := by
  by_cases h1 : s.size ≤ 1048576
  · have d1 : decide ((1048576 : Int) < (s.size : Int)) = false := decide_eq_false (by omega)
    have f1 := Lib.hid fun W => specLevelAbove s W hm
    have f2 := Lib.hid (hI h1)
    clear hI
    generalize levelLe [43, 122] s.data.toList = r at f1 f2
    go_enter Try.func9, Try.ntmps9
    go_wp2_with fail
    (with_reducible refine (f1.out _).mono ?_); rintro e w1 ⟨rfl, hb1⟩
    go_wp2_with fail
    (with_reducible refine (f2.out _).mono ?_); rintro e w2 ⟨rfl, hb2⟩
    go_wp2
    go_ret
    exact ⟨rfl, hb1.trans (hb2.mono hb1.size)⟩
  · have d1 : decide ((1048576 : Int) < (s.size : Int)) = true := decide_eq_true (by omega)
    clear hI
    unfold maxLen at hm
    go_enter Try.func9, Try.ntmps9
    go_wp2
    go_ret
    exact ⟨rfl, Below.refl _ _⟩

theorem wit_len {a b : List UInt8} : ((levelWit a b).getD []).length ≤ 3 := by
  rw [levelWit]
  split
  · cases witIdx a b with
    | none => exact Nat.zero_le _
    | some i => exact Nat.le_refl _
  · exact Nat.zero_le _
set_option maxHeartbeats 2000000 in
theorem lawLevelWitness (a b : ByteArray) (w : World) (ha : a.size ≤ maxLen) (hb : b.size ≤ maxLen)
    (hI : a.size ≤ 1048576 → b.size ≤ 1048576 → ∀ W, Calls Try.prog 19 #[.string a, .string b] W (WitRes (levelWit a.data.toList b.data.toList) W)) :
    Calls Try.prog 10 #[.string a, .string b] w fun e w' => e = .returned (.bool true) ∧ Below w.heap.size w w' := by
  by_cases h1 : a.size ≤ 1048576
  rotate_left
  · have d1 : decide ((1048576 : Int) < (a.size : Int)) = true := decide_eq_true (by omega)
    clear hI
    unfold maxLen at ha hb
    go_enter Try.func10, Try.ntmps10
    go_wp2
    go_ret
    exact ⟨rfl, Below.refl _ _⟩
  have d1 : decide ((1048576 : Int) < (a.size : Int)) = false := decide_eq_false (by omega)
  by_cases h2 : b.size ≤ 1048576
  rotate_left
  · have d2 : decide ((1048576 : Int) < (b.size : Int)) = true := decide_eq_true (by omega)
    clear hI
    unfold maxLen at ha hb
    go_enter Try.func10, Try.ntmps10
    go_wp2
    go_ret
    exact ⟨rfl, Below.refl _ _⟩
  have d2 : decide ((1048576 : Int) < (b.size : Int)) = false := decide_eq_false (by omega)
  have fS := Lib.hid fun W => specLevelWitness a b W ha hb
  have fI := Lib.hid (hI h1 h2)
  have hn := wit_len (a := a.data.toList) (b := b.data.toList)
  clear hI
  unfold maxLen at ha hb
  unfold WitRes at fS fI
  generalize (levelWit a.data.toList b.data.toList).isSome = o at fS fI
  rw [show natV = (iv ∘ fun (x : Nat) => (x : Int)) from rfl] at fS fI
  simp only [← List.map_map] at fS fI
  obtain ⟨n, hnn⟩ : ∃ n, ((levelWit a.data.toList b.data.toList).getD []).length = n := ⟨_, rfl⟩
  rw [hnn] at fS fI hn
  clear hnn
  generalize ((levelWit a.data.toList b.data.toList).getD []).map (fun (x : Nat) => (x : Int)) = l at fS fI
  have dn : decide ((n : Int) + 1 < 0) = false := decide_eq_false (by omega)
  go_enter Try.func10, Try.ntmps10
  go_wp2_with fail
  (with_reducible refine (fS.out _).mono ?_); rintro e w1 ⟨u, rfl, hu1, hb1⟩
  have hiU := own_hiI hu1
  have z1 := hb1.size
  go_wp2_with fail
  (with_reducible refine (fI.out _).mono ?_); rintro e w2 ⟨g, rfl, hg2, hb2⟩
  have B2 := hb1.trans (hb2.mono z1)
  have z2 := B2.size
  have hu2 := own_below hu1 hb2
  have log := own_loI hg2
  clear hu1 hb2
  go_wp2_with fail
  (refine (eqIntS hg2 hu2 (by omega)).mono ?_); rintro e w3 ⟨rfl, q1, rfl⟩
  have D3 := below_drewN B2 q1
  have hg3 := own_drew hg2 q1
  have hu3 := own_drew hu2 q1
  have z3 := D3.size
  clear hg2 hu2
  cases o
  all_goals
    go_wp2_with fail
    (refine (markOneI hg3 (by omega)).mono ?_); rintro e w4 ⟨rfl, hm4, hgr4⟩
    have B4 := D3.grown hgr4 z3 (fun k hk => by have := log k hk; omega)
    have hu4 := kept_apartI hu3 hgr4 hiU log
    have z4 := B4.size
    clear hg3 hu3 hgr4
    go_wp2_with fail
    (refine (heldOneI hm4 (by omega)).mono ?_); rintro e w5 ⟨rfl, hb5⟩
    have B5 := B4.trans (hb5.mono z4)
    have hm5 := own_below hm4 hb5
    have hu5 := own_below hu4 hb5
    clear hm4 hu4 hb5
    go_wp2_with fail
    (with_reducible refine (fI.out _).mono ?_); rintro e w6 ⟨h, rfl, hh6, hb6⟩
    have B6 := B5.trans (hb6.mono B5.size)
    have hm6 := own_below hm5 hb6
    have hu6 := own_below hu5 hb6
    clear hm5 hu5 hb6
    go_wp2_with fail
    (refine (eqIntS hh6 hu6 (by omega)).mono ?_); rintro e w7 ⟨rfl, q2, rfl⟩
    have D7 := below_drewN B6 q2
    have hm7 := own_drew hm6 q2
    clear hh6 hu6 hm6
    go_wp2_with fail
    (refine (heldOneI hm7 (by omega)).mono ?_); rintro e w8 ⟨rfl, hb8⟩
    go_wp2
    go_ret
    exact ⟨rfl, D7.trans (hb8.mono D7.size)⟩
end Go.Proofs.Ytdeophmdpbgkdaa
