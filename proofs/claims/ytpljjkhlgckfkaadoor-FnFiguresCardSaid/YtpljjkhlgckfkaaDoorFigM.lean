/-
  A text is read back from its hexadecimal digits; a number from its decimal text; the contract of impl.Brought.
-/
import Derived.Test.YtpljjkhlgckfkaaDoorUnI
import Derived.Test.YtpljjkhlgckfkaaDoorRdMath
namespace Go.Proofs.YtpljjkhlgckfkaaDoor
set_option maxRecDepth 100000
open Go.ChangeShapes Go.WideShapes Go.ChangeAt Go.RowKit
set_option linter.unusedSimpArgs false
set_option linter.unusedVariables false

theorem hv_fig : ∀ n : Fin 16, hvI ((fig n.val).toNat : Nat) = (n.val : Int) := by decide
theorem hexL_cons (c : UInt8) (r : List UInt8) : hexL (c :: r) = fig (c.toNat / 16) :: fig (c.toNat % 16) :: hexL r := rfl
theorem un_hexL (l : List UInt8) : un (hexL l) = some l := by
  induction l with
  | nil => rfl
  | cons c r ih =>
    have hc := c.toNat_lt
    have h1 : hvI ((fig (c.toNat / 16)).toNat : Nat) = ((c.toNat / 16 : Nat) : Int) := hv_fig ⟨c.toNat / 16, by omega⟩
    have h2 : hvI ((fig (c.toNat % 16)).toNat : Nat) = ((c.toNat % 16 : Nat) : Int) := hv_fig ⟨c.toNat % 16, by omega⟩
    rw [hexL_cons, un, h1, h2, if_neg (by omega), ih]
    have e : (16 * ((c.toNat / 16 : Nat) : Int) + ((c.toNat % 16 : Nat) : Int)).toNat = c.toNat := by omega
    rw [e]
    simp
theorem hexL_len (l : List UInt8) : (hexL l).length = 2 * l.length := by
  induction l with
  | nil => rfl
  | cons c r ih => rw [hexL_cons, List.length_cons, List.length_cons, List.length_cons, ih]; omega
theorem isDec_itoa {n : Nat} (h : n ≤ 1000000000) : IsDec (Lib.itoa (n : Int)) n := ⟨h, (Lib.itoa_nonneg n).symm⟩
def brought (v lo hi : Int) : Int := if v < lo then lo else if hi < v then hi else v
theorem brought_in {v lo hi : Int} (h : lo ≤ hi) : lo ≤ brought v lo hi ∧ brought v lo hi ≤ hi ∧ brought (brought v lo hi) lo hi = brought v lo hi := by
  unfold brought
  repeat' split
  all_goals omega
theorem implBrought (v lo hi : Int) (w : World) (h : lo ≤ hi) : Calls Tryd.prog 10 #[.int .i64 v, .int .i64 lo, .int .i64 hi] w fun e w' => e = .returned (.int .i64 (brought v lo hi)) ∧ w' = w := by
  have d2 : decide (hi < lo) = false := decide_eq_false (by omega)
  by_cases h1 : v < lo
  · have HB : Hid (brought v lo hi = lo) := if_pos h1
    have d1 : decide (v < lo) = true := decide_eq_true h1
    clear h h1
    go_enter Tryd.func10, Tryd.ntmps10
    go_wp2
    go_ret
    rw [HB.out]
    exact ⟨rfl, rfl⟩
  have d1 : decide (v < lo) = false := decide_eq_false h1
  by_cases h3 : hi < v
  · have HB : Hid (brought v lo hi = hi) := by rw [Hid, brought, if_neg h1, if_pos h3]
    have d3 : decide (hi < v) = true := decide_eq_true h3
    clear h h1 h3
    go_enter Tryd.func10, Tryd.ntmps10
    go_wp2
    go_ret
    rw [HB.out]
    exact ⟨rfl, rfl⟩
  · have HB : Hid (brought v lo hi = v) := by rw [Hid, brought, if_neg h1, if_neg h3]
    have d3 : decide (hi < v) = false := decide_eq_false h3
    clear h h1 h3
    go_enter Tryd.func10, Tryd.ntmps10
    go_wp2
    go_ret
    rw [HB.out]
    exact ⟨rfl, rfl⟩
end Go.Proofs.YtpljjkhlgckfkaaDoor
