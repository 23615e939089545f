/-
  Contracts of spec.Brought and TermOpen, and the law of TermOpen from the contract of the program's function (handed in as a hypothesis).
-/
import Derived.Test.YtnklajagefedmaaDoorTOpen
namespace Go.Proofs.YtnklajagefedmaaDoor
set_option maxRecDepth 100000
open Go.ChangeShapes Go.WideShapes Go.ChangeAt Go.RowKit
set_option linter.unusedSimpArgs false

theorem specBroughtIn (n : Nat) (w : World) (h : n ≤ 1000) :
    Calls Tryd.prog 62 #[.int .i64 (n : Int), .int .i64 0, .int .i64 1000] w fun e w' => e = .returned (.int .i64 (n : Int)) ∧ w' = w := by
  have d1 : decide ((n : Int) < 0) = false := decide_eq_false (by omega)
  have d2 : decide ((1000 : Int) < (n : Int)) = false := decide_eq_false (by omega)
  have d2n : decide (1000 < n) = false := decide_eq_false (by omega)
  go_enter Tryd.func62, Tryd.ntmps62
  go_wp2
  go_ret
  exact ⟨rfl, rfl⟩
theorem specTermOpen (s : ByteArray) (w : World) (hs : s.size ≤ maxLen) :
    Calls Tryd.prog 37 #[.string s] w fun e w' => e = .returned (.int .i64 (termOpen s.data.toList : Int)) ∧ Below w.heap.size w w' := by
  have f1 := Lib.hid (specL06All s w hs)
  go_enter Tryd.func37, Tryd.ntmps37
  go_wp2_with fail
  (with_reducible refine f1.out.mono ?_); rintro e w1 ⟨v, ns, rfl, hr, hb, hsl, (⟨t, ht, hn, hp⟩ | ⟨hno, rfl⟩)⟩
  · have hsz := t.size_pos
    have hle := t.size_le
    have h2 := ht.2.2
    rw [← ht.2.1] at h2
    have f2 := Lib.hid (specL06Open (ns := ns) (by omega) hsl t (ns.length - 1) w1 v hr hp ht.1)
    rw [show ((ns.length - 1 : Nat) : Int) = (ns.length : Int) - 1 by omega] at f2
    have f3 := Lib.hid fun W => specBroughtIn t.opn W (Tm.opn_le t ht.1)
    obtain ⟨la, lc, rfl⟩ := own_sliceN hr
    have HE : Hid (termOpen s.data.toList = t.opn) := by rw [Hid, termOpen, termOf_some ht]
    have d1 : ((ns.length : Int) == 0) = false := beq_eq_false_iff_ne.2 (by omega)
    have HB := Lib.hid hb
    generalize t.opn = x at f2 f3 HE
    have hn2 : ns.length ≤ 2000 := by omega
    have hn1 : 1 ≤ ns.length := by omega
    clear hr ht hp hb f1 hsl hn hle h2
    go_wp2_with fail
    (with_reducible refine f2.out.mono ?_); rintro e w2 ⟨rfl, hb2⟩
    have HB2 := Lib.hid (HB.out.trans (hb2.mono HB.out.size))
    clear hb2
    go_wp2_with fail
    (with_reducible refine (f3.out _).mono ?_); rintro e w3 ⟨rfl, rfl⟩
    go_wp2
    go_ret
    rw [HE.out]
    exact ⟨rfl, HB2.out⟩
  · obtain ⟨la, lc, rfl⟩ := own_sliceN hr
    have HE : Hid (termOpen s.data.toList = 0) := by rw [Hid, termOpen, termOf_none hno]
    have HB := Lib.hid hb
    clear hr hno hb f1 hsl
    go_wp2
    go_ret
    rw [HE.out]
    exact ⟨rfl, HB.out⟩
theorem lawTermOpen (s : ByteArray) (w : World) (hm : s.size ≤ maxLen)
    (hI : s.size ≤ 1048576 → ∀ W, Below w.heap.size w W → Calls Tryd.prog 24 #[.string s] W fun e w' => e = .returned (.int .i64 (termOpen s.data.toList : Int)) ∧ Below W.heap.size W w') :
    Calls Tryd.prog 9 #[.string s] w fun e w' => e = .returned (.bool true) ∧ Below w.heap.size w w' := by
  by_cases h1 : s.size ≤ 1048576
  · have d1 : decide ((1048576 : Int) < (s.size : Int)) = false := decide_eq_false (by omega)
    have f1 := Lib.hid fun W => specTermOpen s W hm
    have f2 := Lib.hid (hI h1)
    clear hI
    generalize termOpen s.data.toList = r at f1 f2
    go_enter Tryd.func9, Tryd.ntmps9
    go_wp2_with fail
    (with_reducible refine (f1.out _).mono ?_); rintro e w1 ⟨rfl, hb1⟩
    go_wp2_with fail
    (with_reducible refine (f2.out _ hb1).mono ?_); rintro e w2 ⟨rfl, hb2⟩
    go_wp2
    go_ret
    exact ⟨rfl, hb1.trans (hb2.mono hb1.size)⟩
  · have d1 : decide ((1048576 : Int) < (s.size : Int)) = true := decide_eq_true (by omega)
    clear hI
    unfold maxLen at hm
    go_enter Tryd.func9, Tryd.ntmps9
    go_wp2
    go_ret
    exact ⟨rfl, Below.refl _ _⟩
end Go.Proofs.YtnklajagefedmaaDoor
