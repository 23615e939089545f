/-
  The contract of spec.Lifted, and its law from the contract of the program's function (handed in as a hypothesis).
-/
import Derived.Test.YtnklajagefedmaaDoorFLift
import Derived.Test.YtnklajagefedmaaDoorVIn
namespace Go.Proofs.YtnklajagefedmaaDoor
set_option maxRecDepth 100000
open Go.ChangeShapes Go.WideShapes Go.ChangeAt Go.RowKit
set_option linter.unusedSimpArgs false

theorem putRes_formF (o : Option (List UInt8)) : ∃ t b, putRes o = .tuple #[.string t, .bool b] := by
  cases o with
  | none => exact ⟨_, _, rfl⟩
  | some t => exact ⟨_, _, rfl⟩
set_option maxHeartbeats 4000000 in
theorem specLifted (s : ByteArray) (x y : Int) (w : World) (hs : s.size ≤ maxLen) :
    Calls Tryd.prog 39 #[.string s, .int .i64 x, .int .i64 y] w fun e w' => e = .returned (putRes (lifted s.data.toList x y)) ∧ Below w.heap.size w w' := by
  have f1 := Lib.hid (specL06All s w hs)
  have g1 := Lib.hid fun W => specInV x 0 999 W
  have g2 := Lib.hid fun W => specInV y 0 999 W
  go_enter Tryd.func39, Tryd.ntmps39
  go_wp2_with fail
  (with_reducible refine f1.out.mono ?_); rintro e W ⟨v, ns, rfl, hrow, hb, hsl, (⟨t, ht, hn, hr⟩ | ⟨hno, rfl⟩)⟩
  rotate_left
  · obtain ⟨la, lc, rfl⟩ := own_sliceN hrow
    have HE : Hid (lifted s.data.toList x y = none) := by rw [Hid, lifted, termOf_none hno]
    have HB := Lib.hid hb
    clear hrow hno hb f1 hsl
    go_wp2
    go_ret2
    rw [HE.out]
    exact ⟨rfl, HB.out⟩
  have hle := ht.2.2
  rw [← ht.2.1] at hle
  have hok := ht.1
  have hszl := t.size_le
  have hsz := t.size_pos
  have HT : Hid (lifted s.data.toList x y = if 0 ≤ x ∧ x ≤ 999 ∧ 0 ≤ y ∧ y ≤ 999 then sayT (some []) (t.lift x.toNat y.toNat) else none) := by rw [Hid, lifted, termOf_some ht]
  obtain ⟨k, hk⟩ : ∃ k, ns.length = k + 1 := ⟨ns.length - 1, by omega⟩
  rw [hk, Nat.add_sub_cancel] at hr
  have hn2 : ns.length ≤ 100000 := by omega
  have hk2 : k ≤ 100000 := by omega
  have d0 : (((k : Int) + 1) == 0) = false := beq_eq_false_iff_ne.2 (by omega)
  have HB := Lib.hid hb
  obtain ⟨la, lc, rfl⟩ := own_sliceN hrow
  clear f1 ht hsz hszl hb hn
  by_cases hx : 0 ≤ x ∧ x ≤ 999
  rotate_left
  · have HE : Hid (lifted s.data.toList x y = none) := by rw [Hid, HT.out, if_neg (fun h => hx ⟨h.1, h.2.1⟩)]
    rw [show (decide ((0 : Int) ≤ x) && decide (x ≤ 999)) = false by rw [Bool.and_eq_false_iff, decide_eq_false_iff_not, decide_eq_false_iff_not]; omega] at g1
    rw [hk]
    clear hrow hsl hr HT hx hk hn2
    go_wp2_with fail
    (with_reducible refine (g1.out _).mono ?_); rintro e w2 ⟨rfl, rfl⟩
    go_wp2
    go_ret2
    rw [HE.out]
    exact ⟨rfl, HB.out⟩
  rw [show (decide ((0 : Int) ≤ x) && decide (x ≤ 999)) = true by rw [decide_eq_true hx.1, decide_eq_true hx.2]; rfl] at g1
  by_cases hy : 0 ≤ y ∧ y ≤ 999
  rotate_left
  · have HE : Hid (lifted s.data.toList x y = none) := by rw [Hid, HT.out, if_neg (fun h => hy h.2.2)]
    rw [show (decide ((0 : Int) ≤ y) && decide (y ≤ 999)) = false by rw [Bool.and_eq_false_iff, decide_eq_false_iff_not, decide_eq_false_iff_not]; omega] at g2
    rw [hk]
    clear hrow hsl hr HT hx hy hk hn2
    go_wp2_with fail
    (with_reducible refine (g1.out _).mono ?_); rintro e w2 ⟨rfl, rfl⟩
    go_wp2_with fail
    (with_reducible refine (g2.out _).mono ?_); rintro e w2 ⟨rfl, rfl⟩
    go_wp2
    go_ret2
    rw [HE.out]
    exact ⟨rfl, HB.out⟩
  rw [show (decide ((0 : Int) ≤ y) && decide (y ≤ 999)) = true by rw [decide_eq_true hy.1, decide_eq_true hy.2]; rfl] at g2
  obtain ⟨a, rfl⟩ : ∃ a : Nat, x = (a : Int) := ⟨x.toNat, by omega⟩
  obtain ⟨c, rfl⟩ : ∃ c : Nat, y = (c : Int) := ⟨y.toNat, by omega⟩
  have HE : Hid (lifted s.data.toList (a : Int) (c : Int) = sayT (some []) (t.lift a c)) := by rw [Hid, HT.out, if_pos ⟨hx.1, hx.2, hy.1, hy.2⟩]; rfl
  have bs := (Below.refl W.heap.size W).alloc (Nat.le_refl _) (.cells #[.slice none 0 0, .bool false] 82)
  have HO : OStO W.heap.size (W.alloc (.cells #[.slice none 0 0, .bool false] 82)) (some []) :=
    ⟨_, [], false, ⟨heap_alloc_new W _, World.ownsRow_nil _ _ _ _⟩, Nat.zero_le _, rfl⟩
  have fL := Lib.hid (specLift hn2 hsl (by omega) t k c _ _ _ HO (own_below hrow bs) (Rep.keep (fun _ _ _ h => own_below h bs) (Ext.refl _) t _ hr) hok (by omega) (by omega) (a := a))
  have HB1 := Lib.hid (HB.out.trans (bs.mono HB.out.size))
  have hbz := HB.out.size
  rw [hk] at fL ⊢
  clear hrow hsl hr HT hk hn2 HO bs hok hle
  go_wp2_with fail
  (with_reducible refine (g1.out _).mono ?_); rintro e w2 ⟨rfl, rfl⟩
  go_wp2_with fail
  (with_reducible refine (g2.out _).mono ?_); rintro e w2 ⟨rfl, rfl⟩
  go_wp2_with fail
  (with_reducible refine fL.out.mono ?_); rintro e w3 ⟨rfl, hk3, vb, B, bad, ho, hBl, hst⟩
  have HB3 := Lib.hid (hk3.belowOf HB1.out hbz)
  have k1 : w3.cell? ⟨w2.heap.size, 1, none⟩ = some (.bool bad) := cell_of_row _ _ _ _ _ _ ho.box
  have hrow := Lib.hid ho.row
  obtain ⟨a1, cp1, rfl⟩ := own_sliceF ho.row
  have k0 : w3.cell? ⟨w2.heap.size, 0, none⟩ = some (.slice a1 B.length cp1) := cell_of_row _ _ _ _ _ _ ho.box
  clear hk3 ho fL HB1
  cases bad
  · have HE2 : Hid (lifted s.data.toList (a : Int) (c : Int) = some B) := by rw [Hid, HE.out, hst]; rfl
    have cv := conv_own (P := Tryd.prog) (t := 22) (d := 9) w3 Tryd.underlying22 Tryd.underlying5 Tryd.underlying9 hrow.out
    clear hst HE hrow
    go_wp2
    go_ret2
    rw [HE2.out]
    exact ⟨rfl, HB3.out⟩
  · have HE2 : Hid (lifted s.data.toList (a : Int) (c : Int) = none) := by rw [Hid, HE.out, hst]; rfl
    clear hst HE hrow
    go_wp2
    go_ret2
    rw [HE2.out]
    exact ⟨rfl, HB3.out⟩
theorem lawLifted (s : ByteArray) (x y : Int) (w : World) (hm : s.size ≤ maxLen)
    (hI : s.size ≤ 1048576 → ∀ W, Below w.heap.size w W → Calls Tryd.prog 28 #[.string s, .int .i64 x, .int .i64 y] W fun e w' => e = .returned (putRes (lifted s.data.toList x y)) ∧ Below W.heap.size W w') :
    Calls Tryd.prog 11 #[.string s, .int .i64 x, .int .i64 y] w fun e w' => e = .returned (.bool true) ∧ Below w.heap.size w w' := by
  by_cases h1 : s.size ≤ 1048576
  · have d1 : decide ((1048576 : Int) < (s.size : Int)) = false := decide_eq_false (by omega)
    have f1 := Lib.hid fun W => specLifted s x y W hm
    have f2 := Lib.hid (hI h1)
    clear hI
    obtain ⟨t, o, hres⟩ := putRes_formF (lifted s.data.toList x y)
    rw [hres] at f1 f2
    clear hres
    cases o
    all_goals
      go_enter Tryd.func11, Tryd.ntmps11
      go_wp2_with fail
      (with_reducible refine (f1.out _).mono ?_); rintro e w1 ⟨rfl, hb1⟩
      go_wp2_with fail
      (with_reducible refine (f2.out _ hb1).mono ?_); rintro e w2 ⟨rfl, hb2⟩
      go_wp2
      go_ret
      exact ⟨rfl, hb1.trans (hb2.mono hb1.size)⟩
  · have d1 : decide ((1048576 : Int) < (s.size : Int)) = true := decide_eq_true (by omega)
    clear hI
    unfold maxLen at hm
    go_enter Tryd.func11, Tryd.ntmps11
    go_wp2
    go_ret
    exact ⟨rfl, Below.refl _ _⟩
end Go.Proofs.YtnklajagefedmaaDoor
