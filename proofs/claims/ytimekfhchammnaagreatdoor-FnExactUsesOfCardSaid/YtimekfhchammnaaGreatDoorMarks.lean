/-
  Contracts of the laws' helpers over lists of strings: laws.markStringS, heldStringS.
-/
import Derived.Test.YtimekfhchammnaaGreatDoorMarkText
import Derived.Test.YtimekfhchammnaaGreatDoorEqS
namespace Go.Proofs.YtimekfhchammnaaGreatDoor
set_option maxRecDepth 100000
open Go.ChangeShapes Go.WideShapes Go.ChangeAt Go.RowKit

def marks (k n : Nat) : List Value := (List.range n).map fun i => sv (markL (k + i))
theorem marks_succ (k n : Nat) : marks k (n + 1) = marks k n ++ [sv (markL (k + n))] := by simp [marks, List.range_succ]
theorem marks_length (k n : Nat) : (marks k n).length = n := by simp [marks]
theorem marks_set {k j : Nat} {xs : List Value} (h : j < xs.length) : (marks k j ++ xs.drop j).set j (sv (markL (k + j))) = marks k (j + 1) ++ xs.drop (j + 1) := by
  rw [List.set_append_right _ _ (by rw [marks_length]; exact Nat.le_refl _), marks_length, Nat.sub_self, marks_succ, List.append_assoc]
  congr 1
  rw [List.drop_eq_getElem_cons h]
  rfl

set_option maxHeartbeats 400000 in
theorem markStringS {w : World} {base n k : Nat} {v : Value} {xs : List Value} (h : w.ownsRow base 9 1 v n xs) (hn : n ≤ 100000000) (hk0 : 0 < k) (hk : k ≤ 100000000) :
    Calls Tryz.prog 19 #[v, .int .i64 (k : Int)] w fun e w' => e = .returned (.int .i64 ((k + n : Nat) : Int)) ∧ w'.ownsRow base 9 1 v n (marks k n) ∧ w.grownBy w' v.ownBlock := by
  have hl : xs.length = n := by simpa using h.1
  rcases Nat.eq_zero_or_pos n with h0 | hp
  · subst h0
    have h' := Lib.hid h
    rcases h.2 with ⟨rfl, _⟩ | ⟨g, cap, cur, rfl, _⟩
    all_goals
      clear h hl hn
      go_enter Tryz.func19, Tryz.ntmps19
      go_wp2
      refine wp_loop_rounds 1 ?_
      rw [rounds_succ]
      go_wp2
      go_ret
      refine ⟨by simp, ?_, World.grownBy.refl _ _⟩
      have e : xs = marks k 0 := by have := h'.out.1; simpa [marks] using this
      rw [← e]
      exact h'.out
  · obtain ⟨g, c, rfl, _, _⟩ := h.form hp
    go_enter Tryz.func19, Tryz.ntmps19
    go_wp2
    go_loopw [1, 5] (fun kk i wr => ∃ j : Nat, j ≤ n ∧ i = .int .i64 j ∧ kk = .int .i64 ((k : Int) + (j : Int)) ∧ wr.ownsRow base 9 1 (.slice (some ⟨g, 0, none⟩) n c) n (marks k j ++ xs.drop j) ∧ w.grownBy wr (some g)) (fun _ i _ => n - (intOf i).toNat)
    case atStart => exact ⟨0, Nat.zero_le _, rfl, by go_num, h, World.grownBy.refl _ _⟩
    case round =>
      obtain ⟨j, hj, rfl, rfl, hown, hg⟩ := hrel
      clear h
      by_cases hlt : j < n
      · have f1 := Lib.hid fun W => markText (k + j) W (by omega) (by omega)
        simp only [Int.natCast_add] at f1
        go_wp2_with fail
        (with_reducible refine (f1.out _).mono ?_); rintro e w1 ⟨rfl, hb1⟩
        have hown1 := own_below hown hb1
        have hlen : j < (marks k j ++ xs.drop j).length := by simp [marks_length]; omega
        have cc := hown1.cellAt j (by omega)
        rw [List.getElem?_eq_getElem hlen] at cc
        have cf := hown1.frozenAt j
        generalize (marks k j ++ xs.drop j)[j] = old at cc
        have HS := Lib.hid (hown1.stored j (sv (markL (k + j))))
        have HG := Lib.hid hg
        clear hown hown1 hlen hg
        go_wp2
        go_roundw
        case rel =>
          have e1 := HS.out
          rw [marks_set (by omega)] at e1
          exact ⟨j + 1, by omega, by go_num, by go_num, e1.1, HG.out.trans ((grownBy_of_below hb1 _).trans e1.2)⟩
        case measure => simp [intOf]; omega
      · obtain rfl : j = n := by omega
        go_wp2
        go_ret
        rw [List.drop_eq_nil_of_le (by omega), List.append_nil] at hown
        exact ⟨by go_num, hown, hg⟩

set_option maxHeartbeats 400000 in
theorem heldStringS {w : World} {base n k : Nat} {v : Value} (h : w.ownsRow base 9 1 v n (marks k n)) (hn : n ≤ 100000000) (hk0 : 0 < k) (hk : k ≤ 100000000) :
    Calls Tryz.prog 20 #[v, .int .i64 (k : Int)] w fun e w' => e = .returned (.int .i64 ((k + n : Nat) : Int)) ∧ Below w.heap.size w w' := by
  rcases Nat.eq_zero_or_pos n with h0 | hp
  · subst h0
    rcases h.2 with ⟨rfl, _⟩ | ⟨g, cap, cur, rfl, _⟩
    all_goals
      clear h hn
      go_enter Tryz.func20, Tryz.ntmps20
      go_wp2
      refine wp_loop_rounds 1 ?_
      rw [rounds_succ]
      go_wp2
      go_ret
      exact ⟨by simp, Below.refl _ _⟩
  · obtain ⟨g, c, rfl, _, hgl⟩ := h.form hp
    go_enter Tryz.func20, Tryz.ntmps20
    go_wp2
    go_loopw [1, 5] (fun kk i wr => ∃ j : Nat, j ≤ n ∧ i = .int .i64 j ∧ kk = .int .i64 ((k : Int) + (j : Int)) ∧ Below w.heap.size w wr) (fun _ i _ => n - (intOf i).toNat)
    case atStart => exact ⟨0, Nat.zero_le _, rfl, by go_num, Below.refl _ _⟩
    case round =>
      obtain ⟨j, hj, rfl, rfl, hbel⟩ := hrel
      by_cases hlt : j < n
      · have f1 := Lib.hid fun W => markText (k + j) W (by omega) (by omega)
        simp only [Int.natCast_add] at f1
        have cc := h.cellAt j (by omega)
        have ex : (marks k n)[j]? = some (.string ⟨(markL (k + j)).toArray⟩) := by simp [marks, hlt, sv]
        rw [ex] at cc
        have cr : wr.cell? ⟨g, j, none⟩ = some (.string ⟨(markL (k + j)).toArray⟩) := (hbel.cell (p := ⟨g, j, none⟩) hgl).trans cc
        have hz := hbel.size
        have q1 : (0 : Int) ≤ (j : Int) := by omega
        have q2 : (j : Int) < (n : Int) := by omega
        clear ex cc h
        go_wp2
        go_region_law (first
          | (go_simp; go_at_call 41; (with_reducible refine (f1.out _).mono ?_); rintro e w1 ⟨rfl, hb1⟩; have cr1 : w1.cell? ⟨g, j, none⟩ = some (.string ⟨(markL (k + j)).toArray⟩) := (hb1.cell (p := ⟨g, j, none⟩) (by show g < _; simp; omega)).trans cr))
        all_goals
          go_wp2
          go_roundw
          case rel => exact ⟨j + 1, by omega, by go_num, by go_num, hbel.drew.trans (hb1.mono (by simp; omega))⟩
          case measure => simp [intOf]; omega
      · obtain rfl : j = n := by omega
        go_wp2
        go_ret
        exact ⟨by go_num, hbel⟩
theorem markOne {w : World} {base n : Nat} {v : Value} {xs : List Value} (h : w.ownsRow base 9 1 v n xs) (hn : n ≤ 100000000) :
    Calls Tryz.prog 19 #[v, .int .i64 1] w fun e w' => e = .returned (.int .i64 ((n : Int) + 1)) ∧ w'.ownsRow base 9 1 v n (marks 1 n) ∧ w.grownBy w' v.ownBlock := by
  have := markStringS (k := 1) h hn (by decide) (by decide)
  rw [show ((1 + n : Nat) : Int) = (n : Int) + 1 by omega] at this
  exact this
theorem heldOne {w : World} {base n : Nat} {v : Value} (h : w.ownsRow base 9 1 v n (marks 1 n)) (hn : n ≤ 100000000) :
    Calls Tryz.prog 20 #[v, .int .i64 1] w fun e w' => e = .returned (.int .i64 ((n : Int) + 1)) ∧ Below w.heap.size w w' := by
  have := heldStringS (k := 1) h hn (by decide) (by decide)
  rw [show ((1 + n : Nat) : Int) = (n : Int) + 1 by omega] at this
  exact this
end Go.Proofs.YtimekfhchammnaaGreatDoor
