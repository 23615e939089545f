/-
  Plain lemmas: a term said after what has been said; what Lifted and PutIn answer; no function of the program is named here.
-/
import Derived.Test.YtnklajagefedmaaGreatDoorFMath
namespace Go.Proofs.YtnklajagefedmaaGreatDoor
open Go
set_option maxRecDepth 100000

def say (st : Option (List UInt8)) (s : List UInt8) : Option (List UInt8) := st.bind fun B => if B.length + s.length ≤ 2000 then some (B ++ s) else none
open Classical in
/-- A term is said, if it is one and what is said is not too long. -/
noncomputable def sayT (st : Option (List UInt8)) (R : Tm) : Option (List UInt8) := st.bind fun B => if R.Ok ∧ B.length + R.bytes.length ≤ 2000 then some (B ++ R.bytes) else none
theorem sayT_none (R : Tm) : sayT none R = none := rfl
theorem sayT_ok {R : Tm} (h : R.Ok) (st : Option (List UInt8)) : sayT st R = say st R.bytes := by
  cases st with
  | none => rfl
  | some B => simp [sayT, say, h]
theorem sayT_bad {R : Tm} (h : ¬ R.Ok) (st : Option (List UInt8)) : sayT st R = none := by
  cases st with
  | none => rfl
  | some B => simp [sayT, h]
theorem sayT_some {B : List UInt8} {R : Tm} (h : R.Ok) (hl : B.length + R.bytes.length ≤ 2000) : sayT (some B) R = some (B ++ R.bytes) := if_pos ⟨h, hl⟩
theorem sayT_fail {B : List UInt8} {R : Tm} (h : ¬ (R.Ok ∧ B.length + R.bytes.length ≤ 2000)) : sayT (some B) R = none := if_neg h
theorem say_some {B s : List UInt8} (h : B.length + s.length ≤ 2000) : say (some B) s = some (B ++ s) := if_pos h
theorem say_fail {B s : List UInt8} (h : ¬ B.length + s.length ≤ 2000) : say (some B) s = none := if_neg h
theorem len1 (B : List UInt8) (c : UInt8) : (B ++ [c]).length = B.length + 1 := by simp
theorem sayT_two {c : UInt8} {f x R : Tm} (hb : R.bytes = c :: (f.bytes ++ x.bytes)) (hO : R.Ok ↔ f.Ok ∧ x.Ok) (st : Option (List UInt8)) : sayT (sayT (say st [c]) f) x = sayT st R := by
  cases st with
  | none => rfl
  | some B =>
    have hl : R.bytes.length = 1 + f.bytes.length + x.bytes.length := by rw [hb]; simp; omega
    have l1 := len1 B c
    have l2 : (B ++ [c] ++ f.bytes).length = B.length + 1 + f.bytes.length := by simp; omega
    by_cases h1 : B.length + 1 ≤ 2000
    · rw [say_some (s := [c]) h1]
      by_cases h2 : f.Ok ∧ B.length + 1 + f.bytes.length ≤ 2000
      · rw [sayT_some h2.1 (by omega)]
        by_cases h3 : x.Ok ∧ B.length + 1 + f.bytes.length + x.bytes.length ≤ 2000
        · rw [sayT_some h3.1 (by omega), sayT_some (hO.2 ⟨h2.1, h3.1⟩) (by omega), hb]
          simp
        · rw [sayT_fail (fun h => h3 ⟨h.1, by omega⟩), sayT_fail (fun h => h3 ⟨(hO.1 h.1).2, by omega⟩)]
      · rw [sayT_fail (fun h => h2 ⟨h.1, by omega⟩), sayT_none, sayT_fail (fun h => h2 ⟨(hO.1 h.1).1, by omega⟩)]
    · rw [say_fail (s := [c]) h1, sayT_none, sayT_none, sayT_fail (fun h => h1 (by omega))]
theorem sayT_three {c : UInt8} {f x y R : Tm} (hb : R.bytes = c :: (f.bytes ++ (x.bytes ++ y.bytes))) (hO : R.Ok ↔ f.Ok ∧ x.Ok ∧ y.Ok) (st : Option (List UInt8)) : sayT (sayT (sayT (say st [c]) f) x) y = sayT st R := by
  cases st with
  | none => rfl
  | some B =>
    have hl : R.bytes.length = 1 + f.bytes.length + x.bytes.length + y.bytes.length := by rw [hb]; simp; omega
    have l1 := len1 B c
    have l2 : (B ++ [c] ++ f.bytes).length = B.length + 1 + f.bytes.length := by simp; omega
    have l3 : (B ++ [c] ++ f.bytes ++ x.bytes).length = B.length + 1 + f.bytes.length + x.bytes.length := by simp; omega
    by_cases h1 : B.length + 1 ≤ 2000
    · rw [say_some (s := [c]) h1]
      by_cases h2 : f.Ok ∧ B.length + 1 + f.bytes.length ≤ 2000
      · rw [sayT_some h2.1 (by omega)]
        by_cases h3 : x.Ok ∧ B.length + 1 + f.bytes.length + x.bytes.length ≤ 2000
        · rw [sayT_some h3.1 (by omega)]
          by_cases h5 : y.Ok ∧ B.length + 1 + f.bytes.length + x.bytes.length + y.bytes.length ≤ 2000
          · rw [sayT_some h5.1 (by omega), sayT_some (hO.2 ⟨h2.1, h3.1, h5.1⟩) (by omega), hb]
            simp
          · rw [sayT_fail (fun h => h5 ⟨h.1, by omega⟩), sayT_fail (fun h => h5 ⟨(hO.1 h.1).2.2, by omega⟩)]
        · rw [sayT_fail (fun h => h3 ⟨h.1, by omega⟩), sayT_none, sayT_fail (fun h => h3 ⟨(hO.1 h.1).2.1, by omega⟩)]
      · rw [sayT_fail (fun h => h2 ⟨h.1, by omega⟩), sayT_none, sayT_none, sayT_fail (fun h => h2 ⟨(hO.1 h.1).1, by omega⟩)]
    · rw [say_fail (s := [c]) h1, sayT_none, sayT_none, sayT_none, sayT_fail (fun h => h1 (by omega))]

/-- What Lifted answers. -/
noncomputable def lifted (l : List UInt8) (x y : Int) : Option (List UInt8) := match termOf l with
  | some T => if 0 ≤ x ∧ x ≤ 999 ∧ 0 ≤ y ∧ y ≤ 999 then sayT (some []) (T.lift x.toNat y.toNat) else none
  | none => none
/-- What PutIn answers. -/
noncomputable def putIn (l m : List UInt8) : Option (List UInt8) := match termOf l, termOf m with
  | some T, some A => sayT (some []) (Tm.put A 0 T)
  | _, _ => none
end Go.Proofs.YtnklajagefedmaaGreatDoor
