/-
  The contract of laws.markCtorS, and those of the laws' helpers on one declaration.
-/
import Derived.Test.YtimekfhchammnaaGreatDoorGCt
namespace Go.Proofs.YtimekfhchammnaaGreatDoor
set_option maxRecDepth 100000
open Go.ChangeShapes Go.WideShapes Go.ChangeAt Go.RowKit
set_option linter.unusedSimpArgs false
set_option linter.unusedVariables false

set_option maxHeartbeats 2000000 in
theorem markCtorS {w : World} {base n k : Nat} {v : Value} {xs : List Value} (h : w.ownsRow base 49 2 v n xs) (hn : n ≤ 10000000) (hk0 : 0 < k) (hk : k ≤ 100000000) :
    Calls Tryz.prog 40 #[v, .int .i64 (k : Int)] w fun e w' => e = .returned (.int .i64 ((k : Int) + 2 * (n : Int))) ∧ w.grownBy w' v.ownBlock := by
  rcases Nat.eq_zero_or_pos n with h0 | hp
  · subst h0
    rcases h.2 with ⟨rfl, _⟩ | ⟨g, cap, cur, rfl, _⟩
    all_goals
      clear h hn
      go_enter Tryz.func40, Tryz.ntmps40
      go_wp2
      refine wp_loop_rounds 1 ?_
      rw [rounds_succ]
      go_wp2
      go_ret
      exact ⟨by simp, World.grownBy.refl _ _⟩
  · obtain ⟨g, c, rfl, _, _⟩ := h.form hp
    go_enter Tryz.func40, Tryz.ntmps40
    go_wp2
    go_loopw [1, 5] (fun kk i wr => ∃ (j : Nat) (ys : List Value), j ≤ n ∧ i = .int .i64 j ∧ kk = .int .i64 ((k : Int) + 2 * (j : Int)) ∧ Hid (wr.ownsRow base 49 2 (.slice (some ⟨g, 0, none⟩) n c) n ys ∧ w.grownBy wr (some g))) (fun _ i _ => n - (intOf i).toNat)
    case atStart => exact ⟨0, xs, Nat.zero_le _, rfl, by go_num, h, World.grownBy.refl _ _⟩
    case round =>
      obtain ⟨j, ys, hj, rfl, rfl, HO⟩ := hrel
      clear h
      by_cases hlt : j < n
      · have f1 := Lib.hid fun W => markText (k + 2 * j) W (by omega) (by omega)
        have f2 := Lib.hid fun W => markText (k + 2 * j + 1) W (by omega) (by omega)
        simp only [Int.natCast_add, Int.natCast_mul, Int.cast_ofNat_Int, Int.natCast_one] at f1 f2
        generalize markL (k + 2 * j + 1) = mk2 at f2
        generalize markL (k + 2 * j) = mk1 at f1
        have q1 : (0 : Int) ≤ (j : Int) := by omega
        have q2 : (j : Int) < (n : Int) := by omega
        go_wp2_with fail
        (with_reducible refine (f1.out _).mono ?_); rintro e w1 ⟨rfl, hb1⟩
        have hown := own_below HO.out.1 hb1
        have hyl : ys.length = n * 2 := hown.1
        have co := hown.cellAt (j * 2) (by omega)
        rw [List.getElem?_eq_getElem (by omega)] at co
        have cf := hown.frozenAt (j * 2)
        generalize ys[j * 2] = old1 at co
        have HS1 := Lib.hid (hown.stored (j * 2) (.string ⟨mk1.toArray⟩))
        have HG1 := Lib.hid (HO.out.2.trans (grownBy_of_below hb1 (some g)))
        clear hown hyl hb1 HO f1
        go_wp2_with fail
        (with_reducible refine (f2.out _).mono ?_); rintro e w2 ⟨rfl, hb2⟩
        have hown2 := own_below HS1.out.1 hb2
        have hyl2 : (ys.set (j * 2) (.string ⟨mk1.toArray⟩)).length = n * 2 := hown2.1
        have co2 := hown2.cellAt (j * 2 + 1) (by omega)
        rw [List.getElem?_eq_getElem (by omega)] at co2
        have cf2 := hown2.frozenAt (j * 2 + 1)
        generalize (ys.set (j * 2) (.string ⟨mk1.toArray⟩))[j * 2 + 1] = old2 at co2
        have HS2 := Lib.hid (hown2.stored (j * 2 + 1) (.string ⟨mk2.toArray⟩))
        have HG2 := Lib.hid ((HG1.out.trans HS1.out.2).trans ((grownBy_of_below hb2 (some g)).trans HS2.out.2))
        clear hown2 hyl2 hb2 f2 HS1 HG1 co cf
        go_wp2
        go_roundw
        case rel => exact ⟨j + 1, _, by omega, by go_num, by go_num, HS2.out.1, HG2.out⟩
        case measure => simp [intOf]; omega
      · obtain rfl : j = n := by omega
        have HG := Lib.hid HO.out.2
        clear HO
        go_wp2
        go_ret
        exact ⟨rfl, HG.out⟩
end Go.Proofs.YtimekfhchammnaaGreatDoor
