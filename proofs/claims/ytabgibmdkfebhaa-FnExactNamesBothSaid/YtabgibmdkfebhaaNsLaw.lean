/-
  laws.FnExactNamesOk returns true for every list, by the contracts of spec.NamesOk and impl.NamesOk.
-/
import Derived.Test.YtabgibmdkfebhaaNsSpec
namespace Go.Proofs.Ytabgibmdkfebhaa
open Go.ChangeShapes Go.WideShapes Go.ChangeAt Go.RowKit
theorem Came.sizes {w : World} {v : Value} {l : List (List UInt8)} (h : Came w v l) : ∀ x ∈ l, x.length ≤ maxLen := by
  obtain ⟨a0, cap, b, off, h1, h2, h3, h4, h5⟩ := h
  exact h5
set_option maxHeartbeats 1000000 in
theorem lawNamesOk {v : Value} {l : List (List UInt8)} (w : World) (h : Came w v l) :
    Calls Try.prog 6 #[v] w fun e w' => e = .returned (.bool true) ∧ Below w.heap.size w w' := by
  have f0 : Hid (Calls Try.prog 15 #[v, .int .i64 1048576] w (SzRes l 1048576 w)) := szStringS h 1048576 (Nat.le_refl _)
  go_enter Try.func6, Try.ntmps6
  go_wp2_with fail
  (refine f0.out.mono ?_); rintro e w0 ⟨rfl, (rfl | ⟨r, rfl, hr⟩)⟩
  · go_wp2
    go_ret
    exact ⟨rfl, Below.refl _ _⟩
  · have hn : l.length ≤ 1048576 := by omega
    have hx := h.sizes
    have f1 := Lib.hid fun W (hb : Below w0.heap.size w0 W) => toStringS (h.below hb) hn
    go_wp2_with fail
    (refine (f1.out _ (Below.refl _ _)).mono ?_); rintro e w1 ⟨v1, rfl, ho1, hb1⟩
    go_wp2_with fail
    (refine (specNamesOk ho1 hn hx).mono ?_); rintro e w2 ⟨rfl, hb2⟩
    have hB2 := hb1.trans (hb2.mono hb1.size)
    go_wp2_with fail
    (refine (f1.out _ hB2).mono ?_); rintro e w3 ⟨v3, rfl, ho3, hb3⟩
    have hB3 := hB2.trans (hb3.mono hB2.size)
    go_wp2_with fail
    (refine (implNamesOk ho3 hn hx).mono ?_); rintro e w4 ⟨rfl, hb4⟩
    have hB4 := hB3.trans (hb4.mono hB3.size)
    have ho4 := own_below ho3 hb4
    generalize namesOk l = c
    have hcc : (c == c) = true := by simp
    go_wp2_with fail
    (refine (f1.out _ hB4).mono ?_); rintro e w5 ⟨v5, rfl, ho5, hb5⟩
    go_wp2_with fail
    (refine (eqStringS (own_below ho4 hb5) ho5 (by omega)).mono ?_); rintro e w6 ⟨rfl, q, rfl⟩
    go_wp2
    go_ret
    exact ⟨rfl, below_drewN (hB4.trans (hb5.mono hB4.size)) _⟩
end Go.Proofs.Ytabgibmdkfebhaa
