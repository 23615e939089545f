/-
  What the listed variables hold, and the contract of impl.ReadDecimal.
-/
import Derived.Test.YtpljjkhlgckfkaaDoorDecI
import Derived.Test.YtpljjkhlgckfkaaDoorRdPo
import Derived.Lib.AtoiErrMem
import Derived.BigCall
import Derived.WideLaws
namespace Go.Proofs.YtpljjkhlgckfkaaDoor
set_option maxRecDepth 100000
open Go.ChangeShapes Go.WideShapes Go.ChangeAt Go.RowKit

/-- What the listed variables hold, as the walk asks it. -/
structure Vars (w : World) : Prop where
  tab : Lib.TabIs Tryd.prog w tabName .u64 Lib.pow10Tab
  bad : ∃ tp p, w.var? Tryd.prog "strconv.ErrSyntax" = some #[.iface tp p]
  far : ∃ tp p, w.var? Tryd.prog "strconv.ErrRange" = some #[.iface tp p]
theorem Vars.below {w w' : World} (h : Vars w) (hb : Below w.heap.size w w') : Vars w' :=
  ⟨var_below h.tab hb, let ⟨tp, p, e⟩ := h.bad; ⟨tp, p, var_below e hb⟩, let ⟨tp, p, e⟩ := h.far; ⟨tp, p, var_below e hb⟩⟩

/-- strconv.Atoi by how it ends: a number and no error, or an error that is not nil. -/
theorem atoi_any (s : ByteArray) (w : World) (hs : s.size ≤ 281474976710656) (hv : Vars w) :
    (∃ v, Lib.atoiAll s.data.toList = .ok v ∧ Calls Tryd.prog 16 #[.string s] w fun e w' => e = .returned (.tuple #[.int .i64 v, .nilIface]) ∧ Below w.heap.size w w') ∨
    ((∀ v, Lib.atoiAll s.data.toList ≠ .ok v) ∧ ∃ x : Int, Calls Tryd.prog 16 #[.string s] w fun e w' => ∃ N, e = .returned (.tuple #[.int .i64 x, .iface 50 (.pointer (some ⟨N, 0, none⟩))]) ∧ Below w.heap.size w w') := by
  cases h : Lib.atoiAll s.data.toList
  · rename_i v
    refine .inl ⟨v, rfl, (Tryd.strconv_Atoi_ok s (by omega) v h w).mono ?_⟩
    rintro e w' ⟨rfl, rfl | ⟨t, rfl⟩⟩
    · exact ⟨rfl, Below.refl _ _⟩
    · exact ⟨rfl, Lib.bytesWorld_below _ _ _⟩
  · obtain ⟨tp, p, hp⟩ := hv.bad
    refine .inr ⟨fun v hv => (by cases hv), 0, (Go.Proofs.Any.strconv_Atoi_syntax_var Tryd.laysC172 s hs h tp p w hp).mono ?_⟩
    rintro e w' ⟨N, rfl, _, _, hb⟩
    exact ⟨N, rfl, hb⟩
  · obtain ⟨tp, p, hp⟩ := hv.far
    refine .inr ⟨fun v hv => (by cases hv), Lib.atoiSat s.data.toList, (Go.Proofs.Any.strconv_Atoi_range_var Tryd.laysC172 s hs h tp p w hp).mono ?_⟩
    rintro e w' ⟨N, rfl, _, _, hb⟩
    exact ⟨N, rfl, hb⟩

set_option maxHeartbeats 400000 in
theorem implRead (s : ByteArray) (w : World) (hs : s.size ≤ 281474976710656) (hv : Vars w) : Calls Tryd.prog 9 #[.string s] w (RdPost s.data.toList w) := by
  have HV := Lib.hid hv
  rcases atoi_any s w hs hv with ⟨v, hok, hc⟩ | ⟨hno, x, hc⟩
  · obtain ⟨b1, b2⟩ := Lib.atoiAll_bounds hok
    have HC := Lib.hid hc
    have HO := Lib.hid hok
    clear hc hok hv
    by_cases hx : v < 0 ∨ 1000000000 < v
    · have HN : Hid (∀ m, ¬ IsDec s.data.toList m) := fun m h => by
        have h1 := h.atoi.symm.trans HO.out
        have h2 := h.1
        injection h1 with h1
        omega
      clear b1 b2 hs
      rcases hx with hx | hx
      all_goals
        go_enter Tryd.func9, Tryd.ntmps9
        go_wp2_with fail
        (with_reducible refine HC.out.mono ?_)
        rintro e w1 ⟨rfl, hb1⟩
        go_wp2
        go_ret2
        exact ⟨hb1, .inr ⟨HN.out, rfl⟩⟩
    · obtain ⟨n, rfl⟩ : ∃ n : Nat, v = (n : Int) := ⟨v.toNat, by omega⟩
      have hn : n ≤ 1000000000 := by omega
      clear b1 b2 hs hx
      have f1 := Lib.hid fun W (hb : Below w.heap.size w W) => implDecimal (n : Int) W (by omega) (by omega) (HV.out.below hb).tab
      rw [Lib.itoa_nonneg] at f1
      go_enter Tryd.func9, Tryd.ntmps9
      go_wp2_with fail
      (with_reducible refine HC.out.mono ?_)
      rintro e w1 ⟨rfl, hb1⟩
      go_wp2_with fail
      (with_reducible refine (f1.out _ hb1).mono ?_)
      rintro e w2 ⟨rfl, hb2⟩
      by_cases heq : Lib.decDigits n = s.data.toList
      · have es : (⟨(Lib.decDigits n).toArray⟩ : ByteArray) = s := str_eq (by simpa using heq)
        rw [es]
        go_wp2
        go_ret2
        exact ⟨hb1.trans (hb2.mono hb1.size), .inl ⟨n, ⟨hn, heq⟩, rfl⟩⟩
      · have hne : (Lib.decDigits n == s.toList) = false := by rw [ByteArray.toList_eq]; simpa using heq
        have HN : Hid (∀ m, ¬ IsDec s.data.toList m) := fun m h => by
          have h1 := h.atoi.symm.trans HO.out
          injection h1 with h1
          obtain rfl : m = n := by omega
          exact heq h.2
        clear heq
        go_wp2
        go_ret2
        exact ⟨hb1.trans (hb2.mono hb1.size), .inr ⟨HN.out, rfl⟩⟩
  · have HN : Hid (∀ m, ¬ IsDec s.data.toList m) := fun m h => hno _ h.atoi
    have HC := Lib.hid hc
    clear hno hc hv hs
    go_enter Tryd.func9, Tryd.ntmps9
    go_wp2_with fail
    (with_reducible refine HC.out.mono ?_)
    rintro e w1 ⟨N, rfl, hb1⟩
    go_wp2
    go_ret2
    exact ⟨hb1, .inr ⟨HN.out, rfl⟩⟩

end Go.Proofs.YtpljjkhlgckfkaaDoor
