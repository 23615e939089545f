/-
  The contract of spec.l06Var.
-/
import Derived.Test.YtgmjbdndffdpoaaDoorTMath
import Derived.Test.YtgmjbdndffdpoaaDoorDecS
namespace Go.Proofs.YtgmjbdndffdpoaaDoor
set_option maxRecDepth 100000
open Go.ChangeShapes Go.WideShapes Go.ChangeAt Go.RowKit
set_option linter.unusedSimpArgs false

theorem var_text (n : Nat) : (⟨#[118]⟩ : ByteArray) ++ ⟨(Lib.decDigits n).toArray⟩ ++ ⟨#[46]⟩ = ⟨((Tm.var n).bytes).toArray⟩ := by
  apply ByteArray.ext
  simp [Tm.bytes]
theorem specVar (n : Nat) (w : World) (hn : n ≤ 1000000) :
    Calls Tryd.prog 43 #[.int .i64 (n : Int)] w fun e w' => e = .returned (.string ⟨(Tm.var n).bytes.toArray⟩) ∧ Below w.heap.size w w' := by
  have f1 := Lib.hid (decimal_any (n : Int) w (by omega) (by omega))
  rw [Lib.itoa_nonneg] at f1
  have HV := Lib.hid (var_text n)
  have hl : (Lib.decDigits n).length ≤ 10 := digits_len (by omega)
  have hz : (⟨(Lib.decDigits n).toArray⟩ : ByteArray).size = (Lib.decDigits n).length := by simp [ByteArray.size]
  generalize Lib.decDigits n = d at f1 HV hl hz
  generalize (Tm.var n).bytes = t at HV
  go_enter Tryd.func43, Tryd.ntmps43
  go_wp2_with fail
  (with_reducible refine f1.out.mono ?_); rintro e w1 ⟨rfl, hb⟩
  go_wp2
  go_ret
  rw [← HV.out]
  exact ⟨rfl, hb⟩
end Go.Proofs.YtgmjbdndffdpoaaDoor
