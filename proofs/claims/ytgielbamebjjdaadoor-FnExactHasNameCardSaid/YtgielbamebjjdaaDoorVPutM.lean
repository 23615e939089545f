/-
  Plain lemmas on what is put into a level.
-/
import Derived.Test.YtgielbamebjjdaaDoorV4
import Derived.Lib.AppendStr
namespace Go.Proofs.YtgielbamebjjdaaDoor
set_option maxRecDepth 100000
open Go.ChangeShapes Go.WideShapes Go.ChangeAt Go.RowKit
set_option linter.unusedSimpArgs false

def putRes : Option (List UInt8) → Value
  | some t => .tuple #[.string ⟨t.toArray⟩, .bool true]
  | none => .tuple #[.string ⟨#[]⟩, .bool false]
theorem putF_nil (args : List (List UInt8)) : putF args [] = [] := by rw [putF]
theorem putF_step (args : List (List UInt8)) {c : UInt8} (h : c ≠ 117) (r : List UInt8) : putF args (c :: r) = c :: putF args r := by
  cases r with
  | nil => rw [putF_nil, putF]
  | cons d r => rw [putF, if_neg h]
theorem putF_par (args : List (List UInt8)) (d : UInt8) (r : List UInt8) : putF args (117 :: d :: r) = args.getD (d.toNat - 48) [] ++ putF args r := by
  rw [putF, if_pos rfl]
theorem putF_at {args : List (List UInt8)} {l : List UInt8} {p : Nat} (hp : p < l.length) (h : l[p] ≠ 117) : putF args (l.drop p) = l[p] :: putF args (l.drop (p + 1)) := by
  rw [List.drop_eq_getElem_cons hp, putF_step args h]
theorem putF_atPar {args : List (List UInt8)} {l : List UInt8} {p : Nat} (hp : p + 1 < l.length) (h : l[p] = 117) : putF args (l.drop p) = args.getD (l[p + 1].toNat - 48) [] ++ putF args (l.drop (p + 2)) := by
  rw [List.drop_eq_getElem_cons (show p < l.length by omega), h, List.drop_eq_getElem_cons hp, putF_par]
theorem parF_mono : ∀ (l : List UInt8) (n : Nat), n ≤ parF n l
  | [], n => Nat.le_refl _
  | c :: r, n => by
    rw [parF]
    split
    · rename_i h
      exact Nat.le_trans (Nat.le_of_lt h.2) (parF_mono r _)
    · exact parF_mono r n
theorem parF_ge : ∀ (l : List UInt8) (n i : Nat) (hi : i + 1 < l.length), l[i] = 117 → l[i + 1].toNat - 47 ≤ parF n l
  | c :: d :: r, n, 0, _, h => by
    rw [parF]
    have hc : c = 117 := h
    show d.toNat - 47 ≤ _
    split
    · exact parF_mono _ _
    · rename_i h2
      have : ¬ n < d.toNat - 47 := fun h3 => h2 ⟨hc, h3⟩
      exact Nat.le_trans (by omega) (parF_mono _ n)
  | c :: r, n, i + 1, hi, h => by
    rw [parF]
    exact parF_ge r _ i (by simpa using hi) (by simpa using h)

theorem own_sliceV {w : World} {b n : Nat} {v : Value} {xs : List Value} (h : w.ownsRow b 9 1 v n xs) : ∃ a cap, v = .slice a n cap := by
  rcases h.2 with ⟨rfl, rfl⟩ | ⟨g, cap, cur, rfl, _⟩
  · exact ⟨_, _, rfl⟩
  · exact ⟨_, _, rfl⟩
theorem info8 : (Tryd.prog.info? 5).map (fun i => (i.zero, i.size, i.bytes)) = some (some (.int .u8 0), 1, 1) := by kernel_rfl
theorem strCells_bv (t : List UInt8) : Lib.strCells ⟨t.toArray⟩ = t.map bv := rfl

end Go.Proofs.YtgielbamebjjdaaDoor
