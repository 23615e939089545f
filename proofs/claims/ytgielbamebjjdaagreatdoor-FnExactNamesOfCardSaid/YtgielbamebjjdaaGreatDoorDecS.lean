/-
  Contracts of spec.Decimal and of its digit function: the decimal text of every int, as the library function itoa gives it.
-/
import Derived.Test.YtgielbamebjjdaaGreatDoorBase
import Derived.WalkKit
import Derived.ProofKit
import Derived.OpenShut
import Derived.Lib.Hide
import Derived.Deep.AppendLies
import Derived.Laws.BytesArg
import Derived.Laws.IdiomStrings
import Derived.Lib.ItoaNum
import Derived.Lib.ItoaMem
namespace Go.Proofs.YtgielbamebjjdaaGreatDoor
set_option maxRecDepth 100000
open Go.ChangeShapes Go.WideShapes Go.ChangeAt Go.RowKit

theorem figure (x : Int) (w : World) (h0 : 0 ≤ x) (h : x < 10) : Calls Tryz.prog 175 #[.int .i64 x] w fun e w' => e = .returned (.int .u8 (48 + x)) ∧ w = w' := by
  go_enter Tryz.func175, Tryz.ntmps175
  go_wp2
  go_ret
  exact ⟨rfl, rfl⟩

/-- The digits of u (none for 0), ahead of what has been written. -/
def decB (u : Nat) (acc : List UInt8) : List UInt8 := if u = 0 then acc else Lib.decDigits u ++ acc
theorem decB_step {u : Nat} (h : 0 < u) (acc : List UInt8) : decB u acc = decB (u / 10) (UInt8.ofNat (48 + u % 10) :: acc) := by
  unfold decB
  rw [if_neg (by omega), Lib.decDigits]
  by_cases h1 : u < 10
  · rw [dif_pos h1, if_pos (by omega), Nat.mod_eq_of_lt h1]
    rfl
  · rw [dif_neg h1, if_neg (by omega)]
    simp
theorem decB_zero (acc : List UInt8) : decB 0 acc = acc := if_pos rfl
theorem cat_one (x : UInt8) (acc : List UInt8) : Value.string ({ data := #[x] } ++ { data := acc.toArray }) = .string ⟨(x :: acc).toArray⟩ := by
  congr 1

theorem dig_add (m : Nat) : UInt8.ofNat (48 + m % 10) = 48 + UInt8.ofNat (m % 10) := by
  apply UInt8.toNat_inj.1; simp
set_option maxHeartbeats 400000 in
theorem decimal_pos (u : Nat) (w : World) (h0 : 0 < u) (hu : u ≤ 9223372036854775807) :
    Calls Tryz.prog 139 #[.int .i64 (u : Int)] w fun e w' => e = .returned (.string ⟨(Lib.decDigits u).toArray⟩) ∧ Below w.heap.size w w' := by
  have hb : ((u : Int) == 0) = false := by simp; omega
  have hs : Hid (decB u [] = Lib.decDigits u) := by show _ = _; unfold decB; rw [if_neg (by omega), List.append_nil]
  go_enter Tryz.func139, Tryz.ntmps139
  go_wp2
  go_loopw [0, 4] (fun i s wr => ∃ (m : Nat) (acc : List UInt8), m + acc.length ≤ u ∧ i = .int .i64 m ∧ s = .string ⟨acc.toArray⟩ ∧ Below w.heap.size w wr ∧ Hid (decB u [] = decB m acc))
    (fun i _ _ => (intOf i).toNat)
  case atStart => exact ⟨u, [], by simp, rfl, rfl, Below.refl _ _, rfl⟩
  case round =>
    obtain ⟨m, acc, hm, rfl, rfl, hbel, HD⟩ := hrel
    by_cases hp : 0 < m
    · have HD2 := Lib.hid (HD.out.trans (decB_step hp acc))
      clear HD
      have hmb : ((m : Int) != 0) = true := by simp; omega
      have hcv := conv_one (P := Tryz.prog) wr (48 + (m : Int) % 10) Tryz.underlying22 Tryz.underlying5 Tryz.underlying9 (by omega) (by omega)
      have hz : (⟨acc.toArray⟩ : ByteArray).size = acc.length := by simp [ByteArray.size]
      have f1 := Lib.hid fun W => figure ((m : Int) % 10) W (by omega) (by omega)
      go_wp2_with fail
      (with_reducible refine (f1.out _).mono ?_); rintro e w' ⟨rfl, rfl⟩
      go_wp2
      go_roundw
      case rel => exact ⟨m / 10, UInt8.ofNat (48 + m % 10) :: acc, by simp; omega, by go_num, (cat_one _ _).trans (by rw [dig_add]), hbel.alloc hbel.size _, HD2.out⟩
      case measure => simp [intOf]; omega
    · obtain rfl : m = 0 := by omega
      have HD2 := Lib.hid (HD.out.trans (decB_zero acc))
      clear HD
      go_wp2
      go_ret
      exact ⟨by rw [← hs.out, HD2.out]; rfl, hbel⟩

theorem tmod_neg (m : Nat) : (-(m : Int)).tmod 10 = -((m : Int) % 10) := by
  rw [Int.neg_tmod, Int.tmod_eq_emod_of_nonneg (by omega)]
theorem tdiv_neg (m : Nat) : (-(m : Int)).tdiv 10 = -((m : Int) / 10) := by
  rw [Int.neg_tdiv, Int.tdiv_eq_ediv_of_nonneg (by omega)]
set_option maxHeartbeats 400000 in
theorem decimal_neg (u : Nat) (w : World) (h0 : 0 < u) (hu : u ≤ 9223372036854775808) :
    Calls Tryz.prog 139 #[.int .i64 (-(u : Int))] w fun e w' => e = .returned (.string ⟨(45 :: Lib.decDigits u).toArray⟩) ∧ Below w.heap.size w w' := by
  have hb : (-(u : Int) == 0) = false := by simp; omega
  have hb2 : decide (-(u : Int) < 0) = true := by simp; omega
  have hs : Hid (decB u [] = Lib.decDigits u) := by show _ = _; unfold decB; rw [if_neg (by omega), List.append_nil]
  go_enter Tryz.func139, Tryz.ntmps139
  go_wp2
  go_loopw [0, 4] (fun i s wr => ∃ (m : Nat) (acc : List UInt8), 9 * acc.length ≤ u + 9 ∧ (0 < m → 9 * acc.length + m ≤ u) ∧ i = .int .i64 (-(m : Int)) ∧ s = .string ⟨acc.toArray⟩ ∧ Below w.heap.size w wr ∧ Hid (decB u [] = decB m acc))
    (fun i _ _ => (-intOf i).toNat)
  case atStart => exact ⟨u, [], by simp, fun _ => by simp, rfl, rfl, Below.refl _ _, rfl⟩
  case round =>
    obtain ⟨m, acc, hm, hm2, rfl, rfl, hbel, HD⟩ := hrel
    by_cases hp : 0 < m
    · have hm3 := hm2 hp
      clear hm2
      have HD2 := Lib.hid (HD.out.trans (decB_step hp acc))
      clear HD
      have hmb : (-(m : Int) != 0) = true := by simp; omega
      have hz : (⟨acc.toArray⟩ : ByteArray).size = acc.length := by simp [ByteArray.size]
      have e1 := tmod_neg m
      have e2 := tdiv_neg m
      by_cases hz10 : m % 10 = 0
      · have hcv := conv_one (P := Tryz.prog) wr 48 Tryz.underlying22 Tryz.underlying5 Tryz.underlying9 (by decide) (by decide)
        have f1 := Lib.hid fun W => figure 0 W (by decide) (by decide)
        simp only [Int.add_zero] at f1
        rw [show ((m : Int) % 10) = 0 by omega, Int.neg_zero] at e1
        rw [hz10] at HD2
        clear hz10
        go_wp2_with fail
        (with_reducible refine (f1.out _).mono ?_); rintro e w' ⟨rfl, rfl⟩
        go_wp2
        go_roundw
        case rel => exact ⟨m / 10, 48 :: acc, by simp; omega, fun _ => by simp; omega, by go_num, cat_one _ _, hbel.alloc hbel.size _, HD2.out⟩
        case measure => simp [intOf]; omega
      · have hcv := conv_one (P := Tryz.prog) wr (48 + (m : Int) % 10) Tryz.underlying22 Tryz.underlying5 Tryz.underlying9 (by omega) (by omega)
        have f1 := Lib.hid fun W => figure ((m : Int) % 10) W (by omega) (by omega)
        have hz11 : 0 < (m : Int) % 10 := by omega
        clear hz10
        go_wp2_with fail
        (with_reducible refine (f1.out _).mono ?_); rintro e w' ⟨rfl, rfl⟩
        go_wp2
        go_roundw
        case rel => exact ⟨m / 10, UInt8.ofNat (48 + m % 10) :: acc, by simp; omega, fun _ => by simp; omega, by go_num, (cat_one _ _).trans (by rw [dig_add]), hbel.alloc hbel.size _, HD2.out⟩
        case measure => simp [intOf]; omega
    · have e0 : -(m : Int) = 0 := by omega
      have hm0 : m = 0 := by omega
      have HD2 := Lib.hid (HD.out.trans (by rw [hm0, decB_zero]))
      have HM := Lib.hid hm0
      clear HD hm0
      have hz : (⟨acc.toArray⟩ : ByteArray).size = acc.length := by simp [ByteArray.size]
      rw [e0]
      clear e0 hp
      go_wp2
      go_ret
      exact ⟨by rw [← hs.out, HD2.out]; exact congrArg Ending.returned (cat_one _ _), hbel⟩

theorem decimal_any (n : Int) (w : World) (h0 : -9223372036854775808 ≤ n) (h1 : n ≤ 9223372036854775807) :
    Calls Tryz.prog 139 #[.int .i64 n] w fun e w' => e = .returned (.string ⟨(Lib.itoa n).toArray⟩) ∧ Below w.heap.size w w' := by
  rcases Int.lt_trichotomy n 0 with h | h | h
  · obtain ⟨u, rfl⟩ : ∃ u : Nat, n = -(u : Int) := ⟨n.natAbs, by omega⟩
    rw [Lib.itoa_neg u (by omega)]
    exact decimal_neg u w (by omega) (by omega)
  · subst h
    rw [show Lib.itoa 0 = [48] from by rw [show (0 : Int) = ((0 : Nat) : Int) from rfl, Lib.itoa_nonneg, Lib.decDigits_one (by decide)]; rfl]
    go_enter Tryz.func139, Tryz.ntmps139
    go_wp2
    go_ret
    exact ⟨rfl, Below.refl _ _⟩
  · obtain ⟨u, rfl⟩ : ∃ u : Nat, n = (u : Int) := ⟨n.natAbs, by omega⟩
    rw [Lib.itoa_nonneg u]
    exact decimal_pos u w (by omega) (by omega)
end Go.Proofs.YtgielbamebjjdaaGreatDoor
