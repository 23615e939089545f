/-
  The contract of spec.ReadDecimal: the number of at most 1000000000 whose decimal text is given, else 0 and false.
-/
import Derived.Test.YtgielbamebjjdaaGreatDoorDecS
import Derived.Test.YtgielbamebjjdaaGreatDoorRdMath
import Derived.BigCall
namespace Go.Proofs.YtgielbamebjjdaaGreatDoor
set_option maxRecDepth 100000
open Go.ChangeShapes Go.WideShapes Go.ChangeAt Go.RowKit

def RdPost (l : List UInt8) (w : World) (e : Ending) (w' : World) : Prop :=
  Below w.heap.size w w' ∧ ((∃ n, IsDec l n ∧ e = .returned (.tuple #[.int .i64 (n : Int), .bool true])) ∨ ((∀ n, ¬ IsDec l n) ∧ e = .returned (.tuple #[.int .i64 0, .bool false])))

theorem no_digit {s : ByteArray} {k : Nat} (h : k < s.size) (hx : s[k].toNat < 48 ∨ 57 < s[k].toNat) : ∀ n, ¬ IsDec s.data.toList n := by
  intro n hn
  obtain ⟨d, hd⟩ := Lib.digit_of_decFrom _ 0 n hn.from_ k s[k] (List.getElem?_eq_getElem (l := s.data.toList) h)
  have := Lib.digitVal_eq hd
  omega
theorem next_digit {s : ByteArray} {k n : Nat} (h : k < s.size) (h0 : 48 ≤ s[k].toNat) (h1 : s[k].toNat ≤ 57) (hn : Lib.decFrom 0 (s.data.toList.take k) = some n) :
    Lib.decFrom 0 (s.data.toList.take (k + 1)) = some (n * 10 + (s[k].toNat - 48)) := by
  refine Lib.decFrom_take _ k 0 n s[k] _ hn (List.getElem?_eq_getElem (l := s.data.toList) h) ?_
  unfold Lib.digitVal
  rw [if_pos ⟨h0, h1⟩]
theorem small_num {s : ByteArray} {k n : Nat} (hk : k ≤ 10) (h : Lib.decFrom 0 (s.data.toList.take k) = some n) : n < 10000000000 := by
  have h1 := Lib.decFrom_lt _ 0 n h
  have h2 : (s.data.toList.take k).length ≤ 10 := by have := List.length_take_le k s.data.toList; omega
  have h3 : 10 ^ (s.data.toList.take k).length ≤ 10 ^ 10 := Nat.pow_le_pow_right (by decide) h2
  have h4 : (10 : Nat) ^ 10 = 10000000000 := by decide
  omega
set_option maxHeartbeats 400000 in
theorem specRead (s : ByteArray) (w : World) (hm : s.size ≤ maxLen) : Calls Tryz.prog 214 #[.string s] w (RdPost s.data.toList w) := by
  unfold maxLen at hm
  by_cases h10 : 10 < s.size
  · have hno : ∀ n, ¬ IsDec s.data.toList n := fun n hn => by have h1 := hn.len; have h2 : s.data.toList.length = s.size := rfl; omega
    have HN := Lib.hid hno
    clear hno
    go_enter Tryz.func214, Tryz.ntmps214
    go_wp2
    go_ret2
    exact ⟨Below.refl _ _, .inr ⟨HN.out, rfl⟩⟩
  · have hb : decide ((10 : Int) < (s.size : Int)) = false := by simp; omega
    go_enter Tryz.func214, Tryz.ntmps214
    go_wp2
    go_loop [4, 5] (fun x i => ∃ k n : Nat, k ≤ s.size ∧ n < 10000000000 ∧ i = .int .i64 k ∧ x = .int .i64 n ∧ Hid (Lib.decFrom 0 (s.data.toList.take k) = some n)) (fun _ i => s.size - (intOf i).toNat)
    case atStart => exact ⟨0, 0, Nat.zero_le _, by decide, rfl, rfl, rfl⟩
    case round =>
      obtain ⟨k, n, hk, hn, rfl, rfl, HD⟩ := hrel
      by_cases hlt : k < s.size
      · have hc := s[k].toNat_lt
        by_cases hx : s[k].toNat < 48 ∨ 57 < s[k].toNat
        · have HN := Lib.hid (no_digit hlt hx)
          clear HD
          rcases hx with hx | hx
          all_goals
            go_wp2
            go_ret2
            exact ⟨Below.refl _ _, .inr ⟨HN.out, rfl⟩⟩
        · have h0 : 48 ≤ s[k].toNat := by omega
          have h1 : s[k].toNat ≤ 57 := by omega
          have HN := Lib.hid (next_digit hlt h0 h1 HD.out)
          have hb2 := small_num (by omega) HN.out
          clear HD hx
          go_wp2
          go_round
          case rel => exact ⟨k + 1, n * 10 + (s[k].toNat - 48), by omega, hb2, by go_num, by go_num, HN.out⟩
          case measure => simp [intOf]; omega
      · obtain rfl : k = s.size := by omega
        have e1 : s.data.toList.take s.size = s.data.toList := List.take_of_length_le (show s.data.toList.length ≤ s.size from Nat.le_refl _)
        have HD' := HD.out
        rw [e1] at HD'
        have HD2 := Lib.hid HD'
        clear HD HD' e1
        by_cases hbig : 1000000000 < n
        · have HN : Hid (∀ m, ¬ IsDec s.data.toList m) := fun m h => by
            have h1 := h.from_.symm.trans HD2.out
            have h2 := h.1
            injection h1 with h1
            omega
          go_wp2
          go_ret2
          exact ⟨Below.refl _ _, .inr ⟨HN.out, rfl⟩⟩
        · have f1 := Lib.hid fun W => decimal_any (n : Int) W (by omega) (by omega)
          rw [Lib.itoa_nonneg] at f1
          go_wp2_with fail
          (with_reducible refine (f1.out _).mono ?_)
          rintro e w1 ⟨rfl, hb1⟩
          by_cases heq : Lib.decDigits n = s.data.toList
          · have es : (⟨(Lib.decDigits n).toArray⟩ : ByteArray) = s := str_eq (by simpa using heq)
            rw [es]
            go_wp2
            go_ret2
            exact ⟨hb1, .inl ⟨n, ⟨by omega, heq⟩, rfl⟩⟩
          · have hne : (Lib.decDigits n == s.toList) = false := by rw [ByteArray.toList_eq]; simpa using heq
            have HN : Hid (∀ m, ¬ IsDec s.data.toList m) := fun m h => by
              have h1 := h.from_.symm.trans HD2.out
              injection h1 with h1
              subst h1
              exact heq h.2
            clear heq
            go_wp2
            go_ret2
            exact ⟨hb1, .inr ⟨HN.out, rfl⟩⟩

end Go.Proofs.YtgielbamebjjdaaGreatDoor
