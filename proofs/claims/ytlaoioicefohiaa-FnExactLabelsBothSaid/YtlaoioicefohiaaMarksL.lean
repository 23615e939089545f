/-
  Contracts of laws.markLabelS and laws.heldLabelS.
-/
import Derived.Test.YtlaoioicefohiaaRowsL
import Derived.Test.YtlaoioicefohiaaMarkText
namespace Go.Proofs.Ytlaoioicefohiaa
set_option maxRecDepth 100000
open Go.ChangeShapes Go.WideShapes Go.ChangeAt Go.RowKit
set_option linter.unusedSimpArgs false

def marksL (k n : Nat) : List Lbl := (List.range n).map fun i => (((k + 2 * i : Nat) : Int), markL (k + 2 * i + 1))
theorem marksL_length (k n : Nat) : (marksL k n).length = n := by simp [marksL]
theorem marksL_at {k n j : Nat} (h : j < n) : (flat (marksL k n))[j * 2]? = some (.int .i64 ((k : Int) + 2 * (j : Int))) ∧ (flat (marksL k n))[j * 2 + 1]? = some (.string ⟨(markL (k + 2 * j + 1)).toArray⟩) := by
  obtain ⟨h1, h2⟩ := flat_at (l := marksL k n) (j := j) (by rw [marksL_length]; exact h)
  rw [h1, h2]
  simp [marksL, sv]

set_option maxHeartbeats 1000000 in
theorem markLabelS {w : World} {base n k : Nat} {v : Value} {xs : List Value} (h : w.ownsRow base 31 2 v n xs) (hn : n ≤ 10000000) (hk0 : 0 < k) (hk : k ≤ 100000000) :
    Calls Try.prog 34 #[v, .int .i64 (k : Int)] w fun e w' => e = .returned (.int .i64 ((k : Int) + 2 * (n : Int))) ∧ w'.ownsRow base 31 2 v n (flat (marksL k n)) ∧ w.grownBy w' v.ownBlock := by
  have hl : xs.length = n * 2 := h.1
  have hM : (flat (marksL k n)).length = n * 2 := by rw [flat_length, marksL_length]
  rcases Nat.eq_zero_or_pos n with h0 | hp
  · subst h0
    have h' := Lib.hid h
    have e : xs = flat (marksL k 0) := by
      have : xs = [] := List.length_eq_zero_iff.1 (by omega)
      rw [this]; rfl
    have he := Lib.hid e
    rcases h.2 with ⟨rfl, _⟩ | ⟨g, cap, cur, rfl, _⟩
    all_goals
      clear h hl hn hM e
      go_enter Try.func34, Try.ntmps34
      go_wp2
      refine wp_loop_rounds 1 ?_
      rw [rounds_succ]
      go_wp2
      go_ret
      refine ⟨by simp, ?_, World.grownBy.refl _ _⟩
      rw [← he.out]
      exact h'.out
  · obtain ⟨g, c, rfl, _, _⟩ := h.form hp
    go_enter Try.func34, Try.ntmps34
    go_wp2
    go_loopw [1, 5] (fun kk i wr => ∃ j : Nat, j ≤ n ∧ i = .int .i64 j ∧ kk = .int .i64 ((k : Int) + 2 * (j : Int)) ∧ wr.ownsRow base 31 2 (.slice (some ⟨g, 0, none⟩) n c) n ((flat (marksL k n)).take (j * 2) ++ xs.drop (j * 2)) ∧ w.grownBy wr (some g)) (fun _ i _ => n - (intOf i).toNat)
    case atStart => exact ⟨0, Nat.zero_le _, rfl, by go_num, by simpa using h, World.grownBy.refl _ _⟩
    case round =>
      obtain ⟨j, hj, rfl, rfl, hown, hg⟩ := hrel
      clear h
      by_cases hlt : j < n
      · obtain ⟨m1, m2⟩ := marksL_at (k := k) hlt
        have HU := Lib.hid (fill2 (a := flat (marksL k n)) (b := xs) (k := j * 2) (by omega) (by omega) m1 m2)
        have f1 := Lib.hid fun W => markText (k + 2 * j + 1) W (by omega) (by omega)
        simp only [Int.natCast_add, Int.natCast_mul, Int.cast_ofNat_Int, Int.natCast_one] at f1
        clear m1 m2
        generalize markL (k + 2 * j + 1) = mk at f1 HU
        have hlen : ((flat (marksL k n)).take (j * 2) ++ xs.drop (j * 2)).length = n * 2 := by simp; omega
        generalize (flat (marksL k n)).take (j * 2) ++ xs.drop (j * 2) = ys at hown HU hlen
        have co := hown.cellAt (j * 2) (by omega)
        rw [List.getElem?_eq_getElem (by omega)] at co
        have cf := hown.frozenAt (j * 2)
        generalize ys[j * 2] = old1 at co
        have HS1 := hown.stored (j * 2) (.int .i64 ((k : Int) + 2 * (j : Int)))
        obtain ⟨hown2, hg2⟩ := HS1
        have q1 : (0 : Int) ≤ (j : Int) := by omega
        have q2 : (j : Int) < (n : Int) := by omega
        have HG := Lib.hid (hg.trans hg2)
        clear hown hg hg2
        go_wp2_with fail
        (with_reducible refine (f1.out _).mono ?_); rintro e w1 ⟨rfl, hb1⟩
        have hown3 := own_below hown2 hb1
        have hl3 : (ys.set (j * 2) (.int .i64 ((k : Int) + 2 * (j : Int)))).length = n * 2 := by simp; omega
        have co2 := hown3.cellAt (j * 2 + 1) (by omega)
        rw [List.getElem?_eq_getElem (by omega)] at co2
        have cf2 := hown3.frozenAt (j * 2 + 1)
        generalize (ys.set (j * 2) (.int .i64 ((k : Int) + 2 * (j : Int))))[j * 2 + 1] = old2 at co2
        have HS2 := Lib.hid (hown3.stored (j * 2 + 1) (.string ⟨mk.toArray⟩))
        clear hown2 hown3 hl3 co cf
        go_wp2
        go_roundw
        case rel =>
          have e1 := HS2.out
          rw [HU.out] at e1
          exact ⟨j + 1, by omega, by go_num, by go_num, by rw [show (j + 1) * 2 = j * 2 + 2 by omega]; exact e1.1, HG.out.trans ((grownBy_of_below hb1 _).trans e1.2)⟩
        case measure => simp [intOf]; omega
      · obtain rfl : j = n := by omega
        rw [List.drop_eq_nil_of_le (by omega), List.append_nil, List.take_of_length_le (by omega)] at hown
        go_wp2
        go_ret
        exact ⟨rfl, hown, hg⟩

set_option maxHeartbeats 1000000 in
theorem heldLabelS {w : World} {base n k : Nat} {v : Value} (h : w.ownsRow base 31 2 v n (flat (marksL k n))) (hn : n ≤ 10000000) (hk0 : 0 < k) (hk : k ≤ 100000000) :
    Calls Try.prog 35 #[v, .int .i64 (k : Int)] w fun e w' => e = .returned (.int .i64 ((k : Int) + 2 * (n : Int))) ∧ Below w.heap.size w w' := by
  rcases Nat.eq_zero_or_pos n with h0 | hp
  · subst h0
    rcases h.2 with ⟨rfl, _⟩ | ⟨g, cap, cur, rfl, _⟩
    all_goals
      clear h hn
      go_enter Try.func35, Try.ntmps35
      go_wp2
      refine wp_loop_rounds 1 ?_
      rw [rounds_succ]
      go_wp2
      go_ret
      exact ⟨by simp, Below.refl _ _⟩
  · obtain ⟨g, c, rfl, _, hgl⟩ := h.form hp
    go_enter Try.func35, Try.ntmps35
    go_wp2
    go_loopw [1, 5] (fun kk i wr => ∃ j : Nat, j ≤ n ∧ i = .int .i64 j ∧ kk = .int .i64 ((k : Int) + 2 * (j : Int)) ∧ Below w.heap.size w wr) (fun _ i _ => n - (intOf i).toNat)
    case atStart => exact ⟨0, Nat.zero_le _, rfl, by go_num, Below.refl _ _⟩
    case round =>
      obtain ⟨j, hj, rfl, rfl, hbel⟩ := hrel
      have hz := hbel.size
      by_cases hlt : j < n
      · obtain ⟨m1, m2⟩ := marksL_at (k := k) hlt
        have f1 := Lib.hid fun W => markText (k + 2 * j + 1) W (by omega) (by omega)
        simp only [Int.natCast_add, Int.natCast_mul, Int.cast_ofNat_Int, Int.natCast_one] at f1
        have c1 := (hbel.cell (p := ⟨g, j * 2, none⟩) hgl).trans ((h.cellAt (j * 2) (by omega)).trans m1)
        have c2 := (hbel.cell (p := ⟨g, j * 2 + 1, none⟩) hgl).trans ((h.cellAt (j * 2 + 1) (by omega)).trans m2)
        clear m1 m2 h
        generalize markL (k + 2 * j + 1) = mk at f1 c2
        have q1 : (0 : Int) ≤ (j : Int) := by omega
        have q2 : (j : Int) < (n : Int) := by omega
        have bb : (((k : Int) + 2 * (j : Int)) == ((k : Int) + 2 * (j : Int))) = true := by simp
        go_wp2
        go_region_held3 (fun w' => w'.cell? ⟨g, j * 2 + 1, none⟩ = some (.string ⟨mk.toArray⟩)) (first | exact c2 | exact c3)
          (first | (go_at_call 44; (with_reducible refine (f1.out _).mono ?_); rintro e w1 ⟨rfl, hb1⟩; have c3 : w1.cell? ⟨g, j * 2 + 1, none⟩ = some (.string ⟨mk.toArray⟩) := (hb1.cell (p := ⟨g, j * 2 + 1, none⟩) (by show g < _; simp; omega)).trans c2))
        go_wp2
        go_roundw
        case rel => exact ⟨j + 1, by omega, by go_num, by go_num, hbel.drew.trans (hb1.mono (by simp; omega))⟩
        case measure => simp [intOf]; omega
      · obtain rfl : j = n := by omega
        go_wp2
        go_ret
        exact ⟨rfl, hbel⟩
end Go.Proofs.Ytlaoioicefohiaa
