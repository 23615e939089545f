/-
  The contract of impl.Under.
-/
import Derived.Test.YtanhnicfkghkbaaDoorAddC
import Derived.Test.YtanhnicfkghkbaaDoorUnderS
import Derived.Test.YtanhnicfkghkbaaDoorShelfHp
namespace Go.Proofs.YtanhnicfkghkbaaDoor
set_option maxRecDepth 100000
open Go.ChangeShapes Go.WideShapes Go.ChangeAt Go.RowKit

set_option maxHeartbeats 1000000 in
theorem implUnder (s t : ByteArray) (w : World) (hs : s.size ≤ maxLen) (ht : t.size ≤ maxLen) :
    Calls Tryd.prog 8 #[.string s, .string t] w fun e w' => e = .returned (.bool (under s.data.toList t.data.toList)) ∧ Below w.heap.size w w' := by
  have f1 := Lib.hid fun W => implNameOk s W hs
  have f2 := Lib.hid fun W => implNameOk t W ht
  by_cases h1 : nameOk s.data.toList = true
  · rw [h1] at f1
    by_cases h2 : nameOk t.data.toList = true
    · rw [h2] at f2
      have r1 : s.size ≤ 40 := nameOk_le h1
      have r2 : t.size ≤ 40 := nameOk_le h2
      have f3 := Lib.hid fun W => Tryd.strings_HasPrefix (t ++ (⟨#[46]⟩ : ByteArray)) (s ++ (⟨#[46]⟩ : ByteArray)) W
      have hx : Lib.hasPrefix (t ++ (⟨#[46]⟩ : ByteArray)).data.toList (s ++ (⟨#[46]⟩ : ByteArray)).data.toList = under s.data.toList t.data.toList := by
        rw [Lib.hasPrefix, ByteArray.data_append, ByteArray.data_append, Array.toList_append, Array.toList_append]
        show ((s.data.toList ++ [46]).isPrefixOf (t.data.toList ++ [46])) = _
        rw [prefix_cut, under, h1, h2]
        rfl
      rw [hx] at f3
      have hz1 : (s ++ (⟨#[46]⟩ : ByteArray)).size = s.size + 1 := by rw [ByteArray.size_append]; rfl
      have hz2 : (t ++ (⟨#[46]⟩ : ByteArray)).size = t.size + 1 := by rw [ByteArray.size_append]; rfl
      clear h1 h2 hx
      generalize under s.data.toList t.data.toList = u at f3
      go_enter Tryd.func8, Tryd.ntmps8
      go_wp2_with fail
      (with_reducible refine (f1.out _).mono ?_); rintro e w1 ⟨rfl, hb1⟩
      go_wp2_with fail
      (with_reducible refine (f2.out _).mono ?_); rintro e w2 ⟨rfl, hb2⟩
      go_wp2_with fail
      (with_reducible refine (f3.out _).mono ?_); rintro e w3 ⟨rfl, rfl⟩
      go_wp2
      go_ret
      exact ⟨rfl, hb1.trans (hb2.mono hb1.size)⟩
    · have HR := Lib.hid (show under s.data.toList t.data.toList = false by simp [under, h2])
      rw [Bool.not_eq_true] at h2
      rw [h2] at f2
      clear h1 h2
      go_enter Tryd.func8, Tryd.ntmps8
      go_wp2_with fail
      (with_reducible refine (f1.out _).mono ?_); rintro e w1 ⟨rfl, hb1⟩
      go_wp2_with fail
      (with_reducible refine (f2.out _).mono ?_); rintro e w2 ⟨rfl, hb2⟩
      go_wp2
      go_ret
      rw [HR.out]
      exact ⟨rfl, hb1.trans (hb2.mono hb1.size)⟩
  · have HR := Lib.hid (show under s.data.toList t.data.toList = false by simp [under, h1])
    rw [Bool.not_eq_true] at h1
    rw [h1] at f1
    clear h1
    go_enter Tryd.func8, Tryd.ntmps8
    go_wp2_with fail
    (with_reducible refine (f1.out _).mono ?_); rintro e w1 ⟨rfl, hb1⟩
    go_wp2
    go_ret
    rw [HR.out]
    exact ⟨rfl, hb1⟩

end Go.Proofs.YtanhnicfkghkbaaDoor
