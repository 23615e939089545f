/-
  Contracts of spec.NameAdd and impl.NameAdd.
-/
import Derived.Test.YtanhnicfkghkbaaDoorNLe
namespace Go.Proofs.YtanhnicfkghkbaaDoor
set_option maxRecDepth 100000
open Go.ChangeShapes Go.WideShapes Go.ChangeAt Go.RowKit

theorem size_join (s t : ByteArray) : (s ++ (⟨#[46]⟩ : ByteArray) ++ t).size = s.size + 1 + t.size := by
  simp [ByteArray.size_append]; rfl
def addRes (s t : ByteArray) : Value := if nameOk s.data.toList = true ∧ nameOk t.data.toList = true ∧ nameOk (s ++ (⟨#[46]⟩ : ByteArray) ++ t).data.toList = true then .tuple #[.string (s ++ (⟨#[46]⟩ : ByteArray) ++ t), .bool true] else .tuple #[.string ⟨#[]⟩, .bool false]

set_option maxHeartbeats 1000000 in
theorem implNameAdd (s t : ByteArray) (w : World) (hs : s.size ≤ maxLen) (ht : t.size ≤ maxLen) :
    Calls Tryd.prog 6 #[.string s, .string t] w fun e w' => e = .returned (addRes s t) ∧ Below w.heap.size w w' := by
  have f1 := Lib.hid fun W => implNameOk s W hs
  have f2 := Lib.hid fun W => implNameOk t W ht
  by_cases h1 : nameOk s.data.toList = true
  · by_cases h2 : nameOk t.data.toList = true
    · have l1 : s.size ≤ 40 := nameOk_le h1
      have l2 : t.size ≤ 40 := nameOk_le h2
      have hj := size_join s t
      have f3 := Lib.hid fun W => implNameOk (s ++ (⟨#[46]⟩ : ByteArray) ++ t) W (by rw [hj]; unfold maxLen; omega)
      have hz : (s ++ (⟨#[46]⟩ : ByteArray)).size = s.size + 1 := by rw [ByteArray.size_append]; rfl
      rw [h1] at f1
      rw [h2] at f2
      by_cases h3 : nameOk (s ++ (⟨#[46]⟩ : ByteArray) ++ t).data.toList = true
      · have HR := Lib.hid (show addRes s t = _ from if_pos ⟨h1, h2, h3⟩)
        rw [h3] at f3
        clear h1 h2 h3
        go_enter Tryd.func6, Tryd.ntmps6
        go_wp2_with fail
        (with_reducible refine (f1.out _).mono ?_); rintro e w1 ⟨rfl, hb1⟩
        go_wp2_with fail
        (with_reducible refine (f2.out _).mono ?_); rintro e w2 ⟨rfl, hb2⟩
        go_wp2_with fail
        (with_reducible refine (f3.out _).mono ?_); rintro e w3 ⟨rfl, hb3⟩
        go_wp2
        go_ret2
        rw [HR.out]
        exact ⟨rfl, (hb1.trans (hb2.mono hb1.size)).trans (hb3.mono (Nat.le_trans hb1.size hb2.size))⟩
      · have HR := Lib.hid (show addRes s t = _ from if_neg fun h => h3 h.2.2)
        rw [Bool.not_eq_true] at h3
        rw [h3] at f3
        clear h1 h2 h3
        go_enter Tryd.func6, Tryd.ntmps6
        go_wp2_with fail
        (with_reducible refine (f1.out _).mono ?_); rintro e w1 ⟨rfl, hb1⟩
        go_wp2_with fail
        (with_reducible refine (f2.out _).mono ?_); rintro e w2 ⟨rfl, hb2⟩
        go_wp2_with fail
        (with_reducible refine (f3.out _).mono ?_); rintro e w3 ⟨rfl, hb3⟩
        go_wp2
        go_ret2
        rw [HR.out]
        exact ⟨rfl, (hb1.trans (hb2.mono hb1.size)).trans (hb3.mono (Nat.le_trans hb1.size hb2.size))⟩
    · have HR := Lib.hid (show addRes s t = _ from if_neg fun h => h2 h.2.1)
      rw [Bool.not_eq_true] at h2
      rw [h1] at f1
      rw [h2] at f2
      clear h1 h2
      go_enter Tryd.func6, Tryd.ntmps6
      go_wp2_with fail
      (with_reducible refine (f1.out _).mono ?_); rintro e w1 ⟨rfl, hb1⟩
      go_wp2_with fail
      (with_reducible refine (f2.out _).mono ?_); rintro e w2 ⟨rfl, hb2⟩
      go_wp2
      go_ret2
      rw [HR.out]
      exact ⟨rfl, hb1.trans (hb2.mono hb1.size)⟩
  · have HR := Lib.hid (show addRes s t = _ from if_neg fun h => h1 h.1)
    rw [Bool.not_eq_true] at h1
    rw [h1] at f1
    clear h1
    go_enter Tryd.func6, Tryd.ntmps6
    go_wp2_with fail
    (with_reducible refine (f1.out _).mono ?_); rintro e w1 ⟨rfl, hb1⟩
    go_wp2
    go_ret2
    rw [HR.out]
    exact ⟨rfl, hb1⟩

end Go.Proofs.YtanhnicfkghkbaaDoor
