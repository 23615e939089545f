/-
  Plain lemmas: what the general laws of chapter 5 ask of drawn levels; no function of the program is named here.
-/
import Derived.Test.YtdeophmdpbgkdaaUWit
import Derived.Test.YtdeophmdpbgkdaaDr2
namespace Go.Proofs.Ytdeophmdpbgkdaa
set_option maxRecDepth 100000

theorem asV_fun (X Y Z : Nat) (v : Fin 3 → Nat) (h0 : X = v 0) (h1 : Y = v 1) (h2 : Z = v 2) : asV [X, Y, Z] = v := by
  funext k
  have : k = 0 ∨ k = 1 ∨ k = 2 := by
    have := k.isLt
    rcases (by omega : k.val = 0 ∨ k.val = 1 ∨ k.val = 2) with h | h | h
    · exact .inl (Fin.ext h)
    · exact .inr (.inl (Fin.ext h))
    · exact .inr (.inr (Fin.ext h))
  rcases this with rfl | rfl | rfl
  · exact h0
  · exact h1
  · exact h2
theorem tryOne_of {k x : Nat} (h : x = 0 ∨ x = 1 ∨ x = k) : ∃ i, i < 3 ∧ tryOne k i = x := by
  rcases h with rfl | rfl | rfl
  · exact ⟨0, by omega, rfl⟩
  · exact ⟨1, by omega, rfl⟩
  · exact ⟨2, by omega, rfl⟩
/-- One level is at most another one exactly if no values show the contrary. -/
theorem levelLe_iff {a b : Lv} (ha : levelOk a.bytes = true) (hb : levelOk b.bytes = true) : levelLe a.bytes b.bytes = true ↔ ∀ V : Fin 3 → Nat, a.val V ≤ b.val V := by
  rw [levelLe, ha, hb, levelWit, if_pos ⟨ha, hb⟩, tree_ups ha, tree_ups hb, witIdx, tree_ups ha, tree_ups hb]
  simp only [Bool.true_and, Option.isNone_map, Option.isNone_iff_eq_none, List.find?_eq_none, above, decide_eq_true_eq, lval_tree, List.mem_range, Nat.not_lt]
  constructor
  · intro h V
    by_cases hlt : b.val V < a.val V
    · obtain ⟨v', h1, h2⟩ := Lv.above_small a b (2 + a.ups + b.ups) (by omega) V hlt
      obtain ⟨x, hx, ex⟩ := tryOne_of (h1 0)
      obtain ⟨y, hy, ey⟩ := tryOne_of (h1 1)
      obtain ⟨z, hz, ez⟩ := tryOne_of (h1 2)
      have h3 := h (9 * x + 3 * y + z) (by omega)
      rw [tri_form hy hz, asV_fun _ _ _ v' ex ey ez] at h3
      omega
    · omega
  · intro h i _
    exact h _
theorem ok_of {t : Lv} {l : List UInt8} (e : l = t.bytes) (h : l.length ≤ 60) : levelOk l = true := by
  subst e
  exact tree_ok t h
theorem le_of {a b : Lv} {l m : List UInt8} (ea : l = a.bytes) (eb : m = b.bytes) (ha : l.length ≤ 60) (hb : m.length ≤ 60) (h : ∀ V : Fin 3 → Nat, a.val V ≤ b.val V) : levelLe l m = true := by
  subst ea eb
  exact (levelLe_iff (tree_ok a ha) (tree_ok b hb)).2 h
theorem at_of {t : Lv} {l : List UInt8} {vs : List Int} (e : l = t.bytes) (h : l.length ≤ 60) (h3 : vs.length = 3) (hv : ∀ x ∈ vs, 0 ≤ x ∧ x ≤ 1000) : levelAt l vs = (t.val (asV (vs.map Int.toNat)) : Int) := by
  rw [levelAt, if_pos ⟨ok_of e h, by omega, by rw [h3]; exact levelParams_top, hv⟩, e, lval_tree]

/-- What FnLevelOrder asks of two levels and three values. -/
structure OrdP (a b : List UInt8) (vs : List Int) : Prop where
  x : ∃ n : Nat, levelAt a vs = n
  y : ∃ n : Nat, levelAt b vs = n
  le : levelLe a b = true → levelAt a vs ≤ levelAt b vs
  anti : levelLe a b = !(levelWit a b).isSome
  wit : ∀ ws, levelWit a b = some ws → ∃ n m : Nat, levelAt a (ws.map fun (x : Nat) => (x : Int)) = n ∧ levelAt b (ws.map fun (x : Nat) => (x : Int)) = m ∧ m < n
  aa : levelLe a a = true
  am : levelLe a (109 :: (a ++ b)) = true
  im : levelLe (105 :: (a ++ b)) (109 :: (a ++ b)) = true
  bi : levelLe b (105 :: (a ++ b)) = true
  up : levelLe (43 :: a) a = false
  ab : levelLe [43, 122] (43 :: a) = true
  ze : levelLe (105 :: (a ++ [122])) [122] = true
  sm : levelSame (109 :: (a ++ b)) (109 :: (b ++ a)) = true
theorem ordP {a b : List UInt8} {vs : List Int} (ha : levelOk a = true) (hb : levelOk b = true) (la : a.length ≤ 23) (lb : b.length ≤ 23) (h3 : vs.length = 3) (hv : ∀ x ∈ vs, 0 ≤ x ∧ x ≤ 1000) : OrdP a b vs := by
  obtain ⟨s, rfl⟩ := level_tree ha
  obtain ⟨t, rfl⟩ := level_tree hb
  have l0 : (109 :: (s.bytes ++ t.bytes)).length ≤ 60 := by simp; omega
  have l1 : (105 :: (s.bytes ++ t.bytes)).length ≤ 60 := by simp; omega
  have l2 : (109 :: (t.bytes ++ s.bytes)).length ≤ 60 := by simp; omega
  have l3 : (43 :: s.bytes).length ≤ 60 := by simp; omega
  have l4 : (105 :: (s.bytes ++ [122])).length ≤ 60 := by simp; omega
  have em : (109 :: (s.bytes ++ t.bytes)) = (Lv.mx s t).bytes := rfl
  have em2 : (109 :: (t.bytes ++ s.bytes)) = (Lv.mx t s).bytes := rfl
  have ei : (105 :: (s.bytes ++ t.bytes)) = (Lv.im s t).bytes := rfl
  have eu : (43 :: s.bytes) = (Lv.up s).bytes := rfl
  have ez : (105 :: (s.bytes ++ [122])) = (Lv.im s .z).bytes := rfl
  refine ⟨⟨_, at_of rfl (by omega) h3 hv⟩, ⟨_, at_of rfl (by omega) h3 hv⟩, ?_, ?_, ?_, ?_, ?_, ?_, ?_, ?_, ?_, ?_, ?_⟩
  · intro h
    rw [at_of rfl (by omega) h3 hv, at_of rfl (by omega) h3 hv]
    have := (levelLe_iff ha hb).1 h (asV (vs.map Int.toNat))
    omega
  · rw [levelLe, ha, hb]
    cases levelWit s.bytes t.bytes <;> rfl
  · intro ws hw
    rw [levelWit, if_pos ⟨ha, hb⟩] at hw
    obtain ⟨i, hi, rfl⟩ := Option.map_eq_some_iff.1 hw
    rw [witIdx] at hi
    have hab := List.find?_some hi
    have hu1 : levelUps s.bytes ≤ 23 := by rw [tree_ups ha]; have := Lv.ups_lt s; omega
    have hu2 : levelUps t.bytes ≤ 23 := by rw [tree_ups hb]; have := Lv.ups_lt t; omega
    have hvs : ∀ x ∈ tryTri (2 + levelUps s.bytes + levelUps t.bytes) i, x ≤ 1000 := by
      intro x hx
      have h2 : 2 ≤ 2 + levelUps s.bytes + levelUps t.bytes := by omega
      have q1 := tryOne_le h2 (i / 9)
      have q2 := tryOne_le h2 (i / 3 % 3)
      have q3 := tryOne_le h2 (i % 3)
      simp only [tryTri, List.mem_cons, List.not_mem_nil, or_false] at hx
      rcases hx with rfl | rfl | rfl <;> omega
    refine ⟨_, _, levelAt_try ha rfl levelParams_top hvs, levelAt_try hb rfl levelParams_top hvs, ?_⟩
    simpa [above] using hab
  · exact le_of rfl rfl (by omega) (by omega) fun V => Nat.le_refl _
  · exact le_of rfl em (by omega) l0 fun V => by simp only [Lv.val]; omega
  · exact le_of ei em l1 l0 fun V => by simp only [Lv.val]; split <;> omega
  · exact le_of rfl ei (by omega) l1 fun V => by simp only [Lv.val]; split <;> omega
  · rw [← Bool.not_eq_true, eu, levelLe_iff (tree_ok (.up s) l3) ha]
    intro h
    have := h fun _ => 0
    simp only [Lv.val] at this
    omega
  · exact le_of (show [43, 122] = (Lv.up .z).bytes from rfl) eu (by decide) l3 fun V => by simp only [Lv.val]; omega
  · exact le_of ez (show [122] = Lv.z.bytes from rfl) l4 (by decide) fun V => by simp [Lv.val]
  · rw [levelSame, Bool.and_eq_true]
    exact ⟨le_of em em2 l0 l2 fun V => by simp only [Lv.val]; omega, le_of em2 em l2 l0 fun V => by simp only [Lv.val]; omega⟩

theorem putF_tree (args : List (List UInt8)) (σ : Fin 3 → Lv) (h : ∀ k : Fin 3, args.getD k.val [] = (σ k).bytes) : ∀ (t : Lv) (r : List UInt8), putF args (t.bytes ++ r) = (t.sub σ).bytes ++ putF args r
  | .z, r => putF_step args (by decide) r
  | .up t, r => by
    rw [Lv.bytes, List.cons_append, putF_step args (by decide), putF_tree args σ h t]; rfl
  | .mx a b, r => by
    rw [Lv.bytes, List.cons_append, putF_step args (by decide), List.append_assoc, putF_tree args σ h a, putF_tree args σ h b]
    simp [Lv.sub, Lv.bytes]
  | .im a b, r => by
    rw [Lv.bytes, List.cons_append, putF_step args (by decide), List.append_assoc, putF_tree args σ h a, putF_tree args σ h b]
    simp [Lv.sub, Lv.bytes]
  | .par k, r => by
    rw [Lv.bytes, List.cons_append, List.cons_append, putF_par, (Lv.par_byte k).2.2, h k]
    rfl
/-- What FnLevelValues asks where something can be put. -/
def ValY (a b c d : List UInt8) (vs : List Int) (s : List UInt8) : Prop :=
  ∃ xb xc xd n m : Nat, xb ≤ 1000 ∧ xc ≤ 1000 ∧ xd ≤ 1000 ∧ n ≤ 1000 ∧ levelAt b vs = xb ∧ levelAt c vs = xc ∧ levelAt d vs = xd ∧ levelAt a vs = n ∧ levelAt s vs = m ∧ levelAt a [(xb : Int), (xc : Int), (xd : Int)] = m ∧ levelAt (43 :: a) vs = ((n + 1 : Nat) : Int) ∧ n ≤ 4 + levelUps a
theorem valY {a b c d s : List UInt8} {vs : List Int} (ha : levelOk a = true) (hb : levelOk b = true) (hc : levelOk c = true) (hd : levelOk d = true) (la : a.length ≤ 23) (lb : b.length ≤ 23) (lc : c.length ≤ 23) (ld : d.length ≤ 23)
    (h3 : vs.length = 3) (hv : ∀ x ∈ vs, 0 ≤ x ∧ x ≤ 4) (hs : levelPut a [b, c, d] = some s) : ValY a b c d vs s ∧ s.length ≤ 60 := by
  have hv2 : ∀ x ∈ vs, 0 ≤ x ∧ x ≤ 1000 := fun x hx => by have := hv x hx; omega
  have hs60 : s.length ≤ 60 := by
    unfold levelPut at hs
    split at hs
    · rename_i h
      have e := Option.some.inj hs
      rw [← e]
      exact h.2.2.2.2
    · cases hs
  have hsp : s = putF [b, c, d] a := by
    unfold levelPut at hs
    split at hs
    · exact (Option.some.inj hs).symm
    · cases hs
  obtain ⟨ta, rfl⟩ := level_tree ha
  obtain ⟨tb, rfl⟩ := level_tree hb
  obtain ⟨tc, rfl⟩ := level_tree hc
  obtain ⟨td, rfl⟩ := level_tree hd
  have hV : ∀ k, asV (vs.map Int.toNat) k ≤ 4 := fun k => by
    unfold asV
    by_cases hk : k.val < vs.length
    · have e : (vs.map Int.toNat).getD k.val 0 = (vs[k.val]).toNat := by simp [hk]
      rw [e]
      have := hv _ (List.getElem_mem hk)
      omega
    · have e : (vs.map Int.toNat).getD k.val 0 = 0 := by simp [List.getD, List.getElem?_eq_none (show vs.length ≤ k.val by omega)]
      omega
  have va := Lv.val_le hV ta
  have vb := Lv.val_le hV tb
  have vc := Lv.val_le hV tc
  have vd := Lv.val_le hV td
  have ua := Lv.ups_lt ta
  have ub := Lv.ups_lt tb
  have uc := Lv.ups_lt tc
  have ud := Lv.ups_lt td
  let σ : Fin 3 → Lv := fun k => if k = 0 then tb else if k = 1 then tc else td
  have hσ : ∀ k : Fin 3, [tb.bytes, tc.bytes, td.bytes].getD k.val [] = (σ k).bytes := fun k => by
    rcases (by have := k.isLt; omega : k.val = 0 ∨ k.val = 1 ∨ k.val = 2) with h | h | h
    · obtain rfl : k = 0 := Fin.ext h; rfl
    · obtain rfl : k = 1 := Fin.ext h; rfl
    · obtain rfl : k = 2 := Fin.ext h; rfl
  have hst : s = (ta.sub σ).bytes := by
    have := putF_tree _ σ hσ ta []
    rw [List.append_nil, putF_nil, List.append_nil] at this
    rw [hsp, this]
  have hw : ∀ x ∈ [(tb.val (asV (vs.map Int.toNat)) : Int), (tc.val (asV (vs.map Int.toNat)) : Int), (td.val (asV (vs.map Int.toNat)) : Int)], 0 ≤ x ∧ x ≤ 1000 := by
    intro x hx
    simp only [List.mem_cons, List.not_mem_nil, or_false] at hx
    rcases hx with rfl | rfl | rfl <;> omega
  refine ⟨⟨_, _, _, _, _, ?_, ?_, ?_, ?_, at_of rfl (by omega) h3 hv2, at_of rfl (by omega) h3 hv2, at_of rfl (by omega) h3 hv2, at_of rfl (by omega) h3 hv2, at_of hst hs60 h3 hv2, ?_, ?_, ?_⟩, hs60⟩
  · omega
  · omega
  · omega
  · omega
  · rw [at_of rfl (by omega) rfl hw, Lv.val_sub]
    congr 2
    exact asV_fun _ _ _ _ rfl rfl rfl
  · rw [at_of (show (43 :: ta.bytes) = (Lv.up ta).bytes from rfl) (by simp; omega) h3 hv2]
    rfl
  · rw [tree_ups ha]
    exact va
end Go.Proofs.Ytdeophmdpbgkdaa
