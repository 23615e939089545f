/-
  Whether a list of strings holds one, plainly.
  The contract of spec.NameIn.
  The contract of spec.HasName.
  The contract of spec.HasName and the law of HasName.
-/
import Derived.Test.YtgielbamebjjdaaDoorListsP
import Derived.Test.YtgielbamebjjdaaDoorEUses
namespace Go.Proofs.YtgielbamebjjdaaDoor
set_option maxRecDepth 100000
open Go.ChangeShapes Go.WideShapes Go.ChangeAt Go.RowKit
set_option linter.unusedSimpArgs false
set_option linter.unusedVariables false

theorem own_nil_or {w : World} {b n : Nat} {v : Value} {xs : List Value} (h : w.ownsRow b 9 1 v n xs) (h0 : n = 0) : ∃ a cap, v = .slice a 0 cap := by
  subst h0
  rcases h.2 with ⟨rfl, _⟩ | ⟨g, cap, cur, rfl, _⟩
  · exact ⟨_, _, rfl⟩
  · exact ⟨_, _, rfl⟩
def inL (l : List (List UInt8)) (y : List UInt8) : Bool := decide (y ∈ l)
theorem inL_at {l : List (List UInt8)} {y : List UInt8} {k : Nat} (h : k < l.length) (he : l[k] = y) : inL l y = true := by
  simp only [inL, decide_eq_true_eq]
  rw [← he]
  exact List.getElem_mem h
theorem inL_succ {l : List (List UInt8)} {y : List UInt8} {k : Nat} (h : k < l.length) (h0 : inL (l.take k) y = false) (he : l[k] ≠ y) : inL (l.take (k + 1)) y = false := by
  simp only [inL, decide_eq_false_iff_not] at h0 ⊢
  rw [List.take_succ_eq_append_getElem h, List.mem_append]
  rintro (h1 | h1)
  · exact h0 h1
  · exact he (List.mem_singleton.1 h1).symm

end Go.Proofs.YtgielbamebjjdaaDoor

namespace Go.Proofs.YtgielbamebjjdaaDoor
set_option maxRecDepth 100000
open Go.ChangeShapes Go.WideShapes Go.ChangeAt Go.RowKit
set_option linter.unusedSimpArgs false
set_option linter.unusedVariables false

theorem specNameIn {w : World} {b : Nat} {v : Value} {l : List (List UInt8)} (h : w.ownsRow b 9 1 v l.length (l.map sv)) (y : List UInt8) (hn : l.length ≤ 1048576) :
    Calls Tryd.prog 6 #[v, .string ⟨y.toArray⟩] w fun e w' => e = .returned (.bool (inL l y)) ∧ w' = w := by
  rcases Nat.eq_zero_or_pos l.length with h0 | hp
  · obtain ⟨a, cap, rfl⟩ := own_nil_or h h0
    obtain rfl : l = [] := List.length_eq_zero_iff.1 h0
    clear h h0 hn
    go_enter Tryd.func6, Tryd.ntmps6
    go_wp2
    refine wp_loop_rounds 1 ?_
    rw [rounds_succ]
    go_wp2
    go_ret
    exact ⟨rfl, rfl⟩
  · obtain ⟨g, cap, rfl, _, _⟩ := h.form hp
    go_enter Tryd.func6, Tryd.ntmps6
    go_wp2
    go_loopw [5] (fun i wr => ∃ k : Nat, k ≤ l.length ∧ i = .int .i64 k ∧ wr = w ∧ Hid (inL (l.take k) y = false)) (fun i _ => l.length - (intOf i).toNat)
    case atStart => exact ⟨0, Nat.zero_le _, rfl, rfl, by simp [Hid, inL]⟩
    case round =>
      obtain ⟨k, hk, rfl, rfl, HA⟩ := hrel
      by_cases hlt : k < l.length
      · have cc := h.cellAt k (by omega)
        have ex : (l.map sv)[k]? = some (sv l[k]) := by simp [hlt]
        rw [ex] at cc
        unfold sv at cc
        have q1 : (0 : Int) ≤ (k : Int) := by omega
        have q2 : (k : Int) < (l.length : Int) := by omega
        by_cases hE : l[k] = y
        · have HR := Lib.hid (inL_at hlt hE)
          rw [hE] at cc
          clear h ex hE HA
          go_wp2
          go_ret
          rw [HR.out]
          exact ⟨rfl, rfl⟩
        · have HR := Lib.hid (inL_succ hlt HA.out hE)
          clear h ex HA
          generalize l[k] = x at cc hE
          have hE2 : (x == y) = false := by rw [beq_eq_false_iff_ne]; exact hE
          go_wp2
          go_roundw
          case rel => exact ⟨k + 1, by omega, by go_num, trivial, HR.out⟩
          case measure => simp [intOf]; omega
      · obtain rfl : k = l.length := by omega
        have HR := HA.out
        rw [List.take_length] at HR
        have HR2 := Lib.hid HR
        clear h HA HR
        go_wp2
        go_ret
        rw [HR2.out]
        exact ⟨rfl, rfl⟩

end Go.Proofs.YtgielbamebjjdaaDoor

namespace Go.Proofs.YtgielbamebjjdaaDoor
set_option maxRecDepth 100000
open Go.ChangeShapes Go.WideShapes Go.ChangeAt Go.RowKit
set_option linter.unusedSimpArgs false
set_option linter.unusedVariables false

theorem specHasName (s y : ByteArray) (w : World) (hs : s.size ≤ maxLen) :
    Calls Tryd.prog 4 #[.string s, .string y] w fun e w' => e = .returned (.bool (inL (usesIn s.data.toList) y.data.toList)) ∧ Below w.heap.size w w' := by
  have f1 := Lib.hid (specUsesIn s w hs)
  have hn := usesIn_len s.data.toList
  generalize usesIn s.data.toList = l at f1 hn
  go_enter Tryd.func4, Tryd.ntmps4
  go_wp2_with fail
  (with_reducible refine f1.out.mono ?_); rintro e w1 ⟨u, rfl, hu, hb⟩
  have f2 : Hid (Calls Tryd.prog 6 #[u, .string y] w1 fun e w' => e = .returned (.bool (inL l y.data.toList)) ∧ w' = w1) := specNameIn hu y.data.toList (by omega)
  have HB := Lib.hid hb
  clear hu hb f1
  go_wp2_with fail
  (with_reducible refine f2.out.mono ?_); rintro e w2 ⟨rfl, rfl⟩
  go_wp2
  go_ret
  exact ⟨rfl, HB.out⟩
end Go.Proofs.YtgielbamebjjdaaDoor

namespace Go.Proofs.YtgielbamebjjdaaDoor
set_option maxRecDepth 100000
open Go.ChangeShapes Go.WideShapes Go.ChangeAt Go.RowKit
set_option linter.unusedSimpArgs false
set_option linter.unusedVariables false

theorem lawHasName (s y : ByteArray) (w : World) (hm : s.size ≤ maxLen) (hm2 : y.size ≤ maxLen)
    (hI : s.size ≤ 1048576 → y.size ≤ 1048576 → ∀ W, Below w.heap.size w W → Calls Tryd.prog 5 #[.string s, .string y] W fun e w' => e = .returned (.bool (inL (usesIn s.data.toList) y.data.toList)) ∧ Below W.heap.size W w') :
    Calls Tryd.prog 3 #[.string s, .string y] w fun e w' => e = .returned (.bool true) ∧ Below w.heap.size w w' := by
  have hms := hm
  unfold maxLen at hm hm2
  by_cases h1 : s.size ≤ 1048576
  rotate_left
  · have d1 : decide ((1048576 : Int) < (s.size : Int)) = true := decide_eq_true (by omega)
    clear hI hms
    go_enter Tryd.func3, Tryd.ntmps3
    go_wp2
    go_ret
    exact ⟨rfl, Below.refl _ _⟩
  have d1 : decide ((1048576 : Int) < (s.size : Int)) = false := decide_eq_false (by omega)
  by_cases h2 : y.size ≤ 1048576
  rotate_left
  · have d2 : decide ((1048576 : Int) < (y.size : Int)) = true := decide_eq_true (by omega)
    clear hI hms
    go_enter Tryd.func3, Tryd.ntmps3
    go_wp2
    go_ret
    exact ⟨rfl, Below.refl _ _⟩
  have d2 : decide ((1048576 : Int) < (y.size : Int)) = false := decide_eq_false (by omega)
  have fS := Lib.hid (specHasName s y w hms)
  have fI := Lib.hid (hI h1 h2)
  clear hI hms
  generalize inL (usesIn s.data.toList) y.data.toList = b at fS fI
  go_enter Tryd.func3, Tryd.ntmps3
  go_wp2_with fail
  (with_reducible refine fS.out.mono ?_); rintro e w1 ⟨rfl, hb1⟩
  have f2 := Lib.hid (fI.out _ hb1)
  have HB := Lib.hid hb1
  clear fS fI hb1
  go_wp2_with fail
  (with_reducible refine f2.out.mono ?_); rintro e w2 ⟨rfl, hb2⟩
  have HB2 := Lib.hid (HB.out.trans (hb2.mono HB.out.size))
  clear hb2
  have hbb : (b == b) = true := by cases b <;> rfl
  go_wp2
  go_ret
  exact ⟨rfl, HB2.out⟩
end Go.Proofs.YtgielbamebjjdaaDoor
