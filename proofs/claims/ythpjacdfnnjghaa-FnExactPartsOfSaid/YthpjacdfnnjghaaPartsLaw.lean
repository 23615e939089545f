/-
  laws.FnExactPartsOf returns true for every string, by the contracts of spec.PartsOf, impl.PartsOf and of the laws' helpers.
-/
import Derived.Test.YthpjacdfnnjghaaPartsWalks
namespace Go.Proofs.Ythpjacdfnnjghaa
open Go.ChangeShapes Go.WideShapes Go.ChangeAt Go.RowKit
theorem below_drewN {B : Nat} {a w : World} (h : Below B a w) (q : Nat) : Below B a (w.drewN q) := ⟨h.os, h.tape, h.output, h.size, h.block⟩
theorem markOne {w : World} {base n : Nat} {v : Value} {xs : List Value} (h : w.ownsRow base 9 1 v n xs) (hn : n ≤ 100000000) :
    Calls Try.prog 14 #[v, .int .i64 1] w fun e w' => e = .returned (.int .i64 ((n : Int) + 1)) ∧ w'.ownsRow base 9 1 v n (marks 1 n) ∧ w.grownBy w' v.ownBlock := by
  have := markStringS (k := 1) h hn (by decide) (by decide)
  rw [show ((1 + n : Nat) : Int) = (n : Int) + 1 by omega] at this
  exact this
theorem heldOne {w : World} {base n : Nat} {v : Value} (h : w.ownsRow base 9 1 v n (marks 1 n)) (hn : n ≤ 100000000) :
    Calls Try.prog 15 #[v, .int .i64 1] w fun e w' => e = .returned (.int .i64 ((n : Int) + 1)) ∧ Below w.heap.size w w' := by
  have := heldStringS (k := 1) h hn (by decide) (by decide)
  rw [show ((1 + n : Nat) : Int) = (n : Int) + 1 by omega] at this
  exact this
set_option maxHeartbeats 1000000 in
theorem lawParts (s : ByteArray) (w : World) (hm : s.size ≤ maxLen) :
    Calls Try.prog 5 #[.string s] w fun e w' => e = .returned (.bool true) ∧ Below w.heap.size w w' := by
  have f1 := Lib.hid fun W => specPartsAll s W hm
  have f2 := Lib.hid fun W => implPartsAll s W hm
  have hlen := partsAll_len s.data.toList
  generalize partsAll s.data.toList = r at f1 f2 hlen
  obtain ⟨l, b⟩ := r
  simp only at hlen
  unfold maxLen at hm
  by_cases h1 : 1048576 < s.size
  · go_enter Try.func5, Try.ntmps5
    go_wp2
    go_ret
    exact ⟨rfl, Below.refl _ _⟩
  · go_enter Try.func5, Try.ntmps5
    go_wp2_with fail
    (with_reducible refine (f1.out _).mono ?_); rintro e w1 ⟨v1, rfl, ho1, hb1⟩
    go_wp2_with fail
    (with_reducible refine (f2.out _).mono ?_); rintro e w2 ⟨v2, rfl, ho2, hb2⟩
    go_wp2_with fail
    refine (eqStringS ho2 (own_below ho1 hb2) (by omega)).mono ?_
    rintro e w3 ⟨rfl, q, rfl⟩
    have hb : (b == b) = true := by simp
    go_wp2_with fail
    refine (markOne (own_drew ho2 q) (by omega)).mono ?_
    rintro e w4 ⟨rfl, ho4, hg4⟩
    go_wp2_with fail
    refine (heldOne ho4 (by omega)).mono ?_
    rintro e w5 ⟨rfl, hb5⟩
    go_wp2_with fail
    (with_reducible refine (f2.out _).mono ?_); rintro e w6 ⟨v6, rfl, ho6, hb6⟩
    have hz1 := hb1.size
    have hz2 := hb2.size
    have ho14 : w4.ownsRow w.heap.size 9 1 v1 l.length (l.map sv) := by
      refine (own_drew (own_below ho1 hb2) q).kept hg4 ?_
      rcases hv : v1.ownBlock with _ | g
      · exact .inl rfl
      · refine .inr fun e => ?_
        have := (ho2.lt g e.symm).1
        have := (ho1.lt g hv).2
        omega
    have B4 : Below w.heap.size w w4 := (hb1.trans (hb2.mono hz1)).trans ((below_drewN (Below.refl w.heap.size w2) q).grown hg4 (by show _ ≤ w2.heap.size; omega) (fun g e => by have := (ho2.lt g e).1; omega))
    have B6 : Below w.heap.size w w6 := (B4.trans (hb5.mono B4.size)).trans (hb6.mono (by have := B4.size; have := hb5.size; omega))
    have ho16 := own_below (own_below ho14 hb5) hb6
    have ho46 := own_below (own_below ho4 hb5) hb6
    clear ho14 hb5 hb6 hg4 ho4 hb1 hb2 ho1 ho2 hz1 hz2 B4
    go_wp2_with fail
    refine (eqStringS ho6 ho16 (by omega)).mono ?_
    rintro e w7 ⟨rfl, q2, rfl⟩
    go_wp2_with fail
    refine (heldOne (own_drew ho46 q2) (by omega)).mono ?_
    rintro e w8 ⟨rfl, hb8⟩
    go_wp2
    go_ret
    exact ⟨rfl, B6.trans ((below_drewN (Below.refl w.heap.size w6) q2).trans (hb8.mono B6.size))⟩
end Go.Proofs.Ythpjacdfnnjghaa
