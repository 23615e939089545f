/-
  laws.FnExactNameParts returns true for every string, by the contracts of spec.NameParts, impl.NameParts and of the laws' helpers.
-/
import Derived.Test.YtabgibmdkfebhaaDoorParts
import Derived.Test.YtabgibmdkfebhaaDoorMarks
namespace Go.Proofs.YtabgibmdkfebhaaDoor
open Go.ChangeShapes Go.WideShapes Go.ChangeAt Go.RowKit

theorem nameOk_le {l : List UInt8} (h : nameOk l = true) : l.length ≤ 40 := by
  simp only [nameOk, Bool.and_eq_true, decide_eq_true_eq] at h
  exact h.1.1
theorem own_mono {w : World} {base base' : Nat} {e : TypeId} {size : Nat} {v : Value} {n : Nat} {xs : List Value} (h : w.ownsRow base e size v n xs) (hb : base' ≤ base) : w.ownsRow base' e size v n xs := by
  refine ⟨h.1, ?_⟩
  rcases h.2 with h | ⟨g, cap, cur, h1, h2, h3⟩
  · exact .inl h
  · exact .inr ⟨g, cap, cur, h1, Nat.le_trans hb h2, h3⟩
def nparts (l : List UInt8) : List (List UInt8) := if nameOk l = true then cutL l else []
theorem nparts_len (l : List UInt8) : (nparts l).length ≤ 5 := by
  unfold nparts
  split
  · rename_i h
    simp only [nameOk, Bool.and_eq_true, decide_eq_true_eq] at h
    exact h.1.2
  · simp

theorem specNameParts (s : ByteArray) (w : World) (hs : s.size ≤ maxLen) : Calls Tryd.prog 4 #[.string s] w (LRes (nparts s.data.toList) w) := by
  have f1 := Lib.hid fun W => specNameOk s W hs
  by_cases h1 : nameOk s.data.toList = true
  · have hz : s.size ≤ 40 := nameOk_le h1
    have f2 := Lib.hid fun W => specCut46 s W (by omega)
    have HR := Lib.hid (show nparts s.data.toList = _ from if_pos h1)
    rw [h1] at f1
    clear h1
    go_enter Tryd.func4, Tryd.ntmps4
    go_wp2_with fail
    (with_reducible refine (f1.out _).mono ?_); rintro e w1 ⟨rfl, hb1⟩
    go_wp2_with fail
    (with_reducible refine (f2.out _).mono ?_); rintro e w2 ⟨v2, rfl, ho2, hb2⟩
    go_wp2
    go_ret
    rw [HR.out]
    exact ⟨_, rfl, own_mono ho2 hb1.size, hb1.trans (hb2.mono hb1.size)⟩
  · have HR := Lib.hid (show nparts s.data.toList = _ from if_neg h1)
    rw [Bool.not_eq_true] at h1
    rw [h1] at f1
    clear h1
    go_enter Tryd.func4, Tryd.ntmps4
    go_wp2_with fail
    (with_reducible refine (f1.out _).mono ?_); rintro e w1 ⟨rfl, hb1⟩
    go_wp2
    go_ret
    rw [HR.out]
    exact ⟨_, rfl, World.ownsRow_lit w1 #[] 0 hb1.size (by decide) (by simp), hb1.alloc hb1.size _⟩

/-- Some int stands in the first variable's cell (internal/bytealg.MaxLen). -/
def MaxLenInt (w : World) : Prop := ∃ m, w.cell? ⟨0, 0, none⟩ = some (.int .i64 m)
theorem MaxLenInt.pos {w : World} (h : MaxLenInt w) : 0 < w.heap.size := by
  obtain ⟨m, h⟩ := h
  rcases Nat.eq_zero_or_pos w.heap.size with h0 | h0
  · simp [World.cell?, Array.getElem?_eq_none (Nat.le_of_eq h0)] at h
  · exact h0
theorem MaxLenInt.below {w w' : World} (h : MaxLenInt w) (hb : Below w.heap.size w w') : MaxLenInt w' := by
  have hp := h.pos
  obtain ⟨m, h⟩ := h
  exact ⟨m, (hb.cell (p := ⟨0, 0, none⟩) hp).trans h⟩

theorem implNameParts (s : ByteArray) (w : World) (hs : s.size ≤ maxLen) (hm : MaxLenInt w) : Calls Tryd.prog 5 #[.string s] w (LRes (nparts s.data.toList) w) := by
  have f1 := Lib.hid fun W => implNameOk s W hs
  by_cases h1 : nameOk s.data.toList = true
  · have hz : s.size ≤ 40 := nameOk_le h1
    have f2 := Lib.hid fun W (hW : MaxLenInt W) => split46 s W hz hW
    have HR := Lib.hid (show nparts s.data.toList = _ from if_pos h1)
    have hpart := Lib.hid (cutF_part 46 s.data.toList [])
    have hl5 : (cutL s.data.toList).length ≤ 5 := by have := nparts_len s.data.toList; rw [HR.out] at this; exact this
    have hls : s.data.toList.length = s.size := rfl
    have hsz : ∀ x ∈ cutL s.data.toList, x.length ≤ 281474976710656 := fun x hx => by have := hpart.out x hx; simp only [List.length_nil, hls] at this; omega
    rw [h1] at f1
    clear h1 hpart hls
    generalize cutL s.data.toList = r at f2 HR hl5 hsz
    go_enter Tryd.func5, Tryd.ntmps5
    go_wp2_with fail
    (with_reducible refine (f1.out _).mono ?_); rintro e w1 ⟨rfl, hb1⟩
    go_wp2_with fail
    (with_reducible refine (f2.out _ (hm.below hb1)).mono ?_); rintro e w2 ⟨v2, rfl, ho2, hb2⟩
    have hB := hb1.trans (hb2.mono hb1.size)
    go_wp2_with fail
    refine (clones ho2 (by omega) hsz).mono ?_
    rintro e w3 ⟨v3, rfl, ho3, hb3⟩
    go_wp2
    go_ret
    rw [HR.out]
    exact ⟨_, rfl, own_mono ho3 hB.size, hB.trans (hb3.mono hB.size)⟩
  · have HR := Lib.hid (show nparts s.data.toList = _ from if_neg h1)
    rw [Bool.not_eq_true] at h1
    rw [h1] at f1
    clear h1
    go_enter Tryd.func5, Tryd.ntmps5
    go_wp2_with fail
    (with_reducible refine (f1.out _).mono ?_); rintro e w1 ⟨rfl, hb1⟩
    go_wp2
    go_ret
    rw [HR.out]
    exact ⟨_, rfl, World.ownsRow_nil _ _ _ _, hb1⟩

set_option maxHeartbeats 1000000 in
theorem lawNameParts (s : ByteArray) (w : World) (hm : s.size ≤ maxLen) (hM : MaxLenInt w) :
    Calls Tryd.prog 3 #[.string s] w fun e w' => e = .returned (.bool true) ∧ Below w.heap.size w w' := by
  have f1 := Lib.hid fun W => specNameParts s W hm
  have f2 := Lib.hid fun W hW => implNameParts s W hm hW
  have hlen := nparts_len s.data.toList
  generalize nparts s.data.toList = l at f1 f2 hlen
  unfold maxLen at hm
  by_cases h1 : 1048576 < s.size
  · go_enter Tryd.func3, Tryd.ntmps3
    go_wp2
    go_ret
    exact ⟨rfl, Below.refl _ _⟩
  · go_enter Tryd.func3, Tryd.ntmps3
    go_wp2_with fail
    (with_reducible refine (f1.out _).mono ?_); rintro e w1 ⟨v1, rfl, ho1, hb1⟩
    go_wp2_with fail
    (with_reducible refine (f2.out _ (hM.below hb1)).mono ?_); rintro e w2 ⟨v2, rfl, ho2, hb2⟩
    go_wp2_with fail
    refine (eqStringS ho2 (own_below ho1 hb2) (by omega)).mono ?_
    rintro e w3 ⟨rfl, q, rfl⟩
    go_wp2_with fail
    refine (markOne (own_drew ho2 q) (by omega)).mono ?_
    rintro e w4 ⟨rfl, ho4, hg4⟩
    go_wp2_with fail
    refine (heldOne ho4 (by omega)).mono ?_
    rintro e w5 ⟨rfl, hb5⟩
    have hz1 := hb1.size
    have hz2 := hb2.size
    have ho14 : w4.ownsRow w.heap.size 9 1 v1 l.length (l.map sv) := by
      refine (own_drew (own_below ho1 hb2) q).kept hg4 ?_
      rcases hv : v1.ownBlock with _ | g
      · exact .inl rfl
      · refine .inr fun e => ?_
        have := (ho2.lt g e.symm).1
        have := (ho1.lt g hv).2
        omega
    have B4 : Below w.heap.size w w4 := (hb1.trans (hb2.mono hz1)).trans ((below_drewN (Below.refl w.heap.size w2) q).grown hg4 (by show _ ≤ w2.heap.size; omega) (fun g e => by have := (ho2.lt g e).1; omega))
    have B5 : Below w.heap.size w w5 := B4.trans (hb5.mono B4.size)
    go_wp2_with fail
    (with_reducible refine (f2.out _ (hM.below B5)).mono ?_); rintro e w6 ⟨v6, rfl, ho6, hb6⟩
    have B6 : Below w.heap.size w w6 := B5.trans (hb6.mono B5.size)
    have ho16 := own_below (own_below ho14 hb5) hb6
    have ho46 := own_below (own_below ho4 hb5) hb6
    clear ho14 hb5 hb6 hg4 ho4 hb1 hb2 ho1 ho2 hz1 hz2 B4 B5
    go_wp2_with fail
    refine (eqStringS ho6 ho16 (by omega)).mono ?_
    rintro e w7 ⟨rfl, q2, rfl⟩
    go_wp2_with fail
    refine (heldOne (own_drew ho46 q2) (by omega)).mono ?_
    rintro e w8 ⟨rfl, hb8⟩
    go_wp2
    go_ret
    exact ⟨rfl, B6.trans ((below_drewN (Below.refl w.heap.size w6) q2).trans (hb8.mono B6.size))⟩
end Go.Proofs.YtabgibmdkfebhaaDoor
