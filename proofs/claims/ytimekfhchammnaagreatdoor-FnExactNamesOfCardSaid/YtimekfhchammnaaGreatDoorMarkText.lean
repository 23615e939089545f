/-
  The contract of laws.markText.
-/
import Derived.Test.YtimekfhchammnaaGreatDoorBase
namespace Go.Proofs.YtimekfhchammnaaGreatDoor
set_option maxRecDepth 100000
open Go.ChangeShapes Go.WideShapes Go.ChangeAt Go.RowKit

def decA (k : Nat) (acc : List UInt8) : List UInt8 := if h : k = 0 then acc else decA (k / 10) (UInt8.ofNat (48 + k % 10) :: acc)
termination_by k
decreasing_by omega
def markL (k : Nat) : List UInt8 := 109 :: decA k []
theorem decA_step {k : Nat} (h : 0 < k) (acc : List UInt8) : decA k acc = decA (k / 10) (UInt8.ofNat (48 + k % 10) :: acc) := by
  rw [decA, dif_neg (by omega)]
theorem decA_zero (acc : List UInt8) : decA 0 acc = acc := by rw [decA, dif_pos rfl]

theorem sv_cons (m : Nat) (acc : List UInt8) (k : Nat) (h : k = m := by rfl) : Value.string ({ data := #[48 + UInt8.ofNat (m % 10)] } ++ { data := acc.toArray }) = sv (UInt8.ofNat (48 + k % 10) :: acc) := by
  subst h
  have e : UInt8.ofNat (48 + k % 10) = 48 + UInt8.ofNat (k % 10) := by
    apply UInt8.toNat_inj.1; simp
  rw [e]
  unfold sv
  congr 1
theorem sv_cons109 (acc : List UInt8) : Value.string ({ data := #[109] } ++ { data := acc.toArray }) = sv (109 :: acc) := by
  unfold sv
  congr 1

set_option maxHeartbeats 400000 in
theorem markText (k : Nat) (w : World) (h0 : 0 < k) (hk : k ≤ 1000000000) :
    Calls Tryz.prog 41 #[.int .i64 (k : Int)] w fun e w' => e = .returned (.string ⟨(markL k).toArray⟩) ∧ Below w.heap.size w w' := by
  have hb : decide ((k : Int) ≤ 0) = false := by simp; omega
  go_enter Tryz.func41, Tryz.ntmps41
  go_wp2
  go_loopw [0, 3] (fun i s wr => ∃ (m : Nat) (acc : List UInt8), m + acc.length ≤ k ∧ i = .int .i64 m ∧ s = sv acc ∧ Below w.heap.size w wr ∧ Hid (decA k [] = decA m acc))
    (fun i _ _ => (intOf i).toNat)
  case atStart => exact ⟨k, [], by simp, rfl, rfl, Below.refl _ _, rfl⟩
  case round =>
    obtain ⟨m, acc, hm, rfl, rfl, hbel, HD⟩ := hrel
    by_cases hp : 0 < m
    · have HD' := HD.out.trans (decA_step hp acc)
      have HD2 := Lib.hid HD'
      clear HD' HD
      have hcv := conv_one (P := Tryz.prog) wr (48 + (m : Int) % 10) Tryz.underlying73 Tryz.underlying5 Tryz.underlying9 (by omega) (by omega)
      simp only [sv]
      go_wp2
      go_roundw
      case rel => exact ⟨m / 10, UInt8.ofNat (48 + m % 10) :: acc, by simp; omega, by go_num, sv_cons _ _ _, hbel.alloc hbel.size _, HD2.out⟩
      case measure => simp [intOf]; omega
    · obtain rfl : m = 0 := by omega
      have HD' := HD.out.trans (decA_zero acc)
      have HD2 := Lib.hid HD'
      clear HD' HD
      have hz : (⟨acc.toArray⟩ : ByteArray).size = acc.length := by simp [ByteArray.size]
      simp only [sv]
      go_wp2
      go_ret
      refine ⟨?_, hbel⟩
      unfold markL
      rw [HD2.out]
      exact congrArg Ending.returned (sv_cons109 acc)

end Go.Proofs.YtimekfhchammnaaGreatDoor
