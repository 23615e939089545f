/-
  The contract of spec.NameIn.
-/
import Derived.Test.YtgmjbdndffdpoaaGreatDoorListsP
namespace Go.Proofs.YtgmjbdndffdpoaaGreatDoor
set_option maxRecDepth 100000
open Go.ChangeShapes Go.WideShapes Go.ChangeAt Go.RowKit
set_option linter.unusedSimpArgs false
set_option linter.unusedVariables false

theorem own_nil_or {w : World} {b n : Nat} {v : Value} {xs : List Value} (h : w.ownsRow b 9 1 v n xs) (h0 : n = 0) : ∃ a cap, v = .slice a 0 cap := by
  subst h0
  rcases h.2 with ⟨rfl, _⟩ | ⟨g, cap, cur, rfl, _⟩
  · exact ⟨_, _, rfl⟩
  · exact ⟨_, _, rfl⟩
def inL (l : List (List UInt8)) (y : List UInt8) : Bool := decide (y ∈ l)
theorem inL_at {l : List (List UInt8)} {y : List UInt8} {k : Nat} (h : k < l.length) (he : l[k] = y) : inL l y = true := by
  simp only [inL, decide_eq_true_eq]
  rw [← he]
  exact List.getElem_mem h
theorem inL_succ {l : List (List UInt8)} {y : List UInt8} {k : Nat} (h : k < l.length) (h0 : inL (l.take k) y = false) (he : l[k] ≠ y) : inL (l.take (k + 1)) y = false := by
  simp only [inL, decide_eq_false_iff_not] at h0 ⊢
  rw [List.take_succ_eq_append_getElem h, List.mem_append]
  rintro (h1 | h1)
  · exact h0 h1
  · exact he (List.mem_singleton.1 h1).symm

theorem specNameIn {w : World} {b : Nat} {v : Value} {l : List (List UInt8)} (h : w.ownsRow b 9 1 v l.length (l.map sv)) (y : List UInt8) (hn : l.length ≤ 1048576) :
    Calls Tryz.prog 44 #[v, .string ⟨y.toArray⟩] w fun e w' => e = .returned (.bool (inL l y)) ∧ w' = w := by
  rcases Nat.eq_zero_or_pos l.length with h0 | hp
  · obtain ⟨a, cap, rfl⟩ := own_nil_or h h0
    obtain rfl : l = [] := List.length_eq_zero_iff.1 h0
    clear h h0 hn
    go_enter Tryz.func44, Tryz.ntmps44
    go_wp2
    refine wp_loop_rounds 1 ?_
    rw [rounds_succ]
    go_wp2
    go_ret
    exact ⟨rfl, rfl⟩
  · obtain ⟨g, cap, rfl, _, _⟩ := h.form hp
    go_enter Tryz.func44, Tryz.ntmps44
    go_wp2
    go_loopw [5] (fun i wr => ∃ k : Nat, k ≤ l.length ∧ i = .int .i64 k ∧ wr = w ∧ Hid (inL (l.take k) y = false)) (fun i _ => l.length - (intOf i).toNat)
    case atStart => exact ⟨0, Nat.zero_le _, rfl, rfl, by simp [Hid, inL]⟩
    case round =>
      obtain ⟨k, hk, rfl, rfl, HA⟩ := hrel
      by_cases hlt : k < l.length
      · have cc := h.cellAt k (by omega)
        have ex : (l.map sv)[k]? = some (sv l[k]) := by simp [hlt]
        rw [ex] at cc
        unfold sv at cc
        have q1 : (0 : Int) ≤ (k : Int) := by omega
        have q2 : (k : Int) < (l.length : Int) := by omega
        by_cases hE : l[k] = y
        · have HR := Lib.hid (inL_at hlt hE)
          rw [hE] at cc
          clear h ex hE HA
          go_wp2
          go_ret
          rw [HR.out]
          exact ⟨rfl, rfl⟩
        · have HR := Lib.hid (inL_succ hlt HA.out hE)
          clear h ex HA
          generalize l[k] = x at cc hE
          have hE2 : (x == y) = false := by rw [beq_eq_false_iff_ne]; exact hE
          go_wp2
          go_roundw
          case rel => exact ⟨k + 1, by omega, by go_num, trivial, HR.out⟩
          case measure => simp [intOf]; omega
      · obtain rfl : k = l.length := by omega
        have HR := HA.out
        rw [List.take_length] at HR
        have HR2 := Lib.hid HR
        clear h HA HR
        go_wp2
        go_ret
        rw [HR2.out]
        exact ⟨rfl, rfl⟩

end Go.Proofs.YtgmjbdndffdpoaaGreatDoor
