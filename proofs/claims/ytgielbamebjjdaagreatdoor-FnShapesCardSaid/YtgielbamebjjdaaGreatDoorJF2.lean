/-
  Plain lemmas: what the general laws of chapter 5 ask of drawn levels; no function of the program is named here.
  Data types of a small library, plainly: each is valid, its constructors make it and use it only where they may.
  The cursor of a draw, with what it draws as a function of the bytes that came: contracts of spec.l01New, l01Byte, l01Below and l01PickInt.
  The contracts of spec.l09Known at the data types of the library and of spec.DrawData.
  laws.FnShapes from the contracts of the program's functions (handed in as hypotheses).
-/
import Derived.Test.YtgielbamebjjdaaGreatDoorJ0
import Derived.Test.YtgielbamebjjdaaGreatDoorE1
import Derived.Test.YtgielbamebjjdaaGreatDoorJF1
import Derived.Test.YtgielbamebjjdaaGreatDoorGDecl
import Derived.Test.YtgielbamebjjdaaGreatDoorG1
namespace Go.Proofs.YtgielbamebjjdaaGreatDoor
set_option maxRecDepth 100000

theorem asV_fun (X Y Z : Nat) (v : Fin 3 → Nat) (h0 : X = v 0) (h1 : Y = v 1) (h2 : Z = v 2) : asV [X, Y, Z] = v := by
  funext k
  have : k = 0 ∨ k = 1 ∨ k = 2 := by
    have := k.isLt
    rcases (by omega : k.val = 0 ∨ k.val = 1 ∨ k.val = 2) with h | h | h
    · exact .inl (Fin.ext h)
    · exact .inr (.inl (Fin.ext h))
    · exact .inr (.inr (Fin.ext h))
  rcases this with rfl | rfl | rfl
  · exact h0
  · exact h1
  · exact h2
theorem tryOne_of {k x : Nat} (h : x = 0 ∨ x = 1 ∨ x = k) : ∃ i, i < 3 ∧ tryOne k i = x := by
  rcases h with rfl | rfl | rfl
  · exact ⟨0, by omega, rfl⟩
  · exact ⟨1, by omega, rfl⟩
  · exact ⟨2, by omega, rfl⟩
/-- One level is at most another one exactly if no values show the contrary. -/
theorem levelLe_iff {a b : Lv} (ha : levelOk a.bytes = true) (hb : levelOk b.bytes = true) : levelLe a.bytes b.bytes = true ↔ ∀ V : Fin 3 → Nat, a.val V ≤ b.val V := by
  rw [levelLe, ha, hb, levelWit, if_pos ⟨ha, hb⟩, tree_ups ha, tree_ups hb, witIdx, tree_ups ha, tree_ups hb]
  simp only [Bool.true_and, Option.isNone_map, Option.isNone_iff_eq_none, List.find?_eq_none, above, decide_eq_true_eq, lval_tree, List.mem_range, Nat.not_lt]
  constructor
  · intro h V
    by_cases hlt : b.val V < a.val V
    · obtain ⟨v', h1, h2⟩ := Lv.above_small a b (2 + a.ups + b.ups) (by omega) V hlt
      obtain ⟨x, hx, ex⟩ := tryOne_of (h1 0)
      obtain ⟨y, hy, ey⟩ := tryOne_of (h1 1)
      obtain ⟨z, hz, ez⟩ := tryOne_of (h1 2)
      have h3 := h (9 * x + 3 * y + z) (by omega)
      rw [tri_form hy hz, asV_fun _ _ _ v' ex ey ez] at h3
      omega
    · omega
  · intro h i _
    exact h _
theorem ok_of {t : Lv} {l : List UInt8} (e : l = t.bytes) (h : l.length ≤ 60) : levelOk l = true := by
  subst e
  exact tree_ok t h
theorem le_of {a b : Lv} {l m : List UInt8} (ea : l = a.bytes) (eb : m = b.bytes) (ha : l.length ≤ 60) (hb : m.length ≤ 60) (h : ∀ V : Fin 3 → Nat, a.val V ≤ b.val V) : levelLe l m = true := by
  subst ea eb
  exact (levelLe_iff (tree_ok a ha) (tree_ok b hb)).2 h
theorem at_of {t : Lv} {l : List UInt8} {vs : List Int} (e : l = t.bytes) (h : l.length ≤ 60) (h3 : vs.length = 3) (hv : ∀ x ∈ vs, 0 ≤ x ∧ x ≤ 1000) : levelAt l vs = (t.val (asV (vs.map Int.toNat)) : Int) := by
  rw [levelAt, if_pos ⟨ok_of e h, by omega, by rw [h3]; exact levelParams_top, hv⟩, e, lval_tree]

/-- What FnLevelOrder asks of two levels and three values. -/
structure OrdP (a b : List UInt8) (vs : List Int) : Prop where
  x : ∃ n : Nat, levelAt a vs = n
  y : ∃ n : Nat, levelAt b vs = n
  le : levelLe a b = true → levelAt a vs ≤ levelAt b vs
  anti : levelLe a b = !(levelWit a b).isSome
  wit : ∀ ws, levelWit a b = some ws → ∃ n m : Nat, levelAt a (ws.map fun (x : Nat) => (x : Int)) = n ∧ levelAt b (ws.map fun (x : Nat) => (x : Int)) = m ∧ m < n
  aa : levelLe a a = true
  am : levelLe a (109 :: (a ++ b)) = true
  im : levelLe (105 :: (a ++ b)) (109 :: (a ++ b)) = true
  bi : levelLe b (105 :: (a ++ b)) = true
  up : levelLe (43 :: a) a = false
  ab : levelLe [43, 122] (43 :: a) = true
  ze : levelLe (105 :: (a ++ [122])) [122] = true
  sm : levelSame (109 :: (a ++ b)) (109 :: (b ++ a)) = true
theorem ordP {a b : List UInt8} {vs : List Int} (ha : levelOk a = true) (hb : levelOk b = true) (la : a.length ≤ 23) (lb : b.length ≤ 23) (h3 : vs.length = 3) (hv : ∀ x ∈ vs, 0 ≤ x ∧ x ≤ 1000) : OrdP a b vs := by
  obtain ⟨s, rfl⟩ := level_tree ha
  obtain ⟨t, rfl⟩ := level_tree hb
  have l0 : (109 :: (s.bytes ++ t.bytes)).length ≤ 60 := by simp; omega
  have l1 : (105 :: (s.bytes ++ t.bytes)).length ≤ 60 := by simp; omega
  have l2 : (109 :: (t.bytes ++ s.bytes)).length ≤ 60 := by simp; omega
  have l3 : (43 :: s.bytes).length ≤ 60 := by simp; omega
  have l4 : (105 :: (s.bytes ++ [122])).length ≤ 60 := by simp; omega
  have em : (109 :: (s.bytes ++ t.bytes)) = (Lv.mx s t).bytes := rfl
  have em2 : (109 :: (t.bytes ++ s.bytes)) = (Lv.mx t s).bytes := rfl
  have ei : (105 :: (s.bytes ++ t.bytes)) = (Lv.im s t).bytes := rfl
  have eu : (43 :: s.bytes) = (Lv.up s).bytes := rfl
  have ez : (105 :: (s.bytes ++ [122])) = (Lv.im s .z).bytes := rfl
  refine ⟨⟨_, at_of rfl (by omega) h3 hv⟩, ⟨_, at_of rfl (by omega) h3 hv⟩, ?_, ?_, ?_, ?_, ?_, ?_, ?_, ?_, ?_, ?_, ?_⟩
  · intro h
    rw [at_of rfl (by omega) h3 hv, at_of rfl (by omega) h3 hv]
    have := (levelLe_iff ha hb).1 h (asV (vs.map Int.toNat))
    omega
  · rw [levelLe, ha, hb]
    cases levelWit s.bytes t.bytes <;> rfl
  · intro ws hw
    rw [levelWit, if_pos ⟨ha, hb⟩] at hw
    obtain ⟨i, hi, rfl⟩ := Option.map_eq_some_iff.1 hw
    rw [witIdx] at hi
    have hab := List.find?_some hi
    have hu1 : levelUps s.bytes ≤ 23 := by rw [tree_ups ha]; have := Lv.ups_lt s; omega
    have hu2 : levelUps t.bytes ≤ 23 := by rw [tree_ups hb]; have := Lv.ups_lt t; omega
    have hvs : ∀ x ∈ tryTri (2 + levelUps s.bytes + levelUps t.bytes) i, x ≤ 1000 := by
      intro x hx
      have h2 : 2 ≤ 2 + levelUps s.bytes + levelUps t.bytes := by omega
      have q1 := tryOne_le h2 (i / 9)
      have q2 := tryOne_le h2 (i / 3 % 3)
      have q3 := tryOne_le h2 (i % 3)
      simp only [tryTri, List.mem_cons, List.not_mem_nil, or_false] at hx
      rcases hx with rfl | rfl | rfl <;> omega
    refine ⟨_, _, levelAt_try ha rfl levelParams_top hvs, levelAt_try hb rfl levelParams_top hvs, ?_⟩
    simpa [above] using hab
  · exact le_of rfl rfl (by omega) (by omega) fun V => Nat.le_refl _
  · exact le_of rfl em (by omega) l0 fun V => by simp only [Lv.val]; omega
  · exact le_of ei em l1 l0 fun V => by simp only [Lv.val]; split <;> omega
  · exact le_of rfl ei (by omega) l1 fun V => by simp only [Lv.val]; split <;> omega
  · rw [← Bool.not_eq_true, eu, levelLe_iff (tree_ok (.up s) l3) ha]
    intro h
    have := h fun _ => 0
    simp only [Lv.val] at this
    omega
  · exact le_of (show [43, 122] = (Lv.up .z).bytes from rfl) eu (by decide) l3 fun V => by simp only [Lv.val]; omega
  · exact le_of ez (show [122] = Lv.z.bytes from rfl) l4 (by decide) fun V => by simp [Lv.val]
  · rw [levelSame, Bool.and_eq_true]
    exact ⟨le_of em em2 l0 l2 fun V => by simp only [Lv.val]; omega, le_of em2 em l2 l0 fun V => by simp only [Lv.val]; omega⟩

theorem putF_tree (args : List (List UInt8)) (σ : Fin 3 → Lv) (h : ∀ k : Fin 3, args.getD k.val [] = (σ k).bytes) : ∀ (t : Lv) (r : List UInt8), putF args (t.bytes ++ r) = (t.sub σ).bytes ++ putF args r
  | .z, r => putF_step args (by decide) r
  | .up t, r => by
    rw [Lv.bytes, List.cons_append, putF_step args (by decide), putF_tree args σ h t]; rfl
  | .mx a b, r => by
    rw [Lv.bytes, List.cons_append, putF_step args (by decide), List.append_assoc, putF_tree args σ h a, putF_tree args σ h b]
    simp [Lv.sub, Lv.bytes]
  | .im a b, r => by
    rw [Lv.bytes, List.cons_append, putF_step args (by decide), List.append_assoc, putF_tree args σ h a, putF_tree args σ h b]
    simp [Lv.sub, Lv.bytes]
  | .par k, r => by
    rw [Lv.bytes, List.cons_append, List.cons_append, putF_par, (Lv.par_byte k).2.2, h k]
    rfl
/-- What FnLevelValues asks where something can be put. -/
def ValY (a b c d : List UInt8) (vs : List Int) (s : List UInt8) : Prop :=
  ∃ xb xc xd n m : Nat, xb ≤ 1000 ∧ xc ≤ 1000 ∧ xd ≤ 1000 ∧ n ≤ 1000 ∧ levelAt b vs = xb ∧ levelAt c vs = xc ∧ levelAt d vs = xd ∧ levelAt a vs = n ∧ levelAt s vs = m ∧ levelAt a [(xb : Int), (xc : Int), (xd : Int)] = m ∧ levelAt (43 :: a) vs = ((n + 1 : Nat) : Int) ∧ n ≤ 4 + levelUps a
theorem valY {a b c d s : List UInt8} {vs : List Int} (ha : levelOk a = true) (hb : levelOk b = true) (hc : levelOk c = true) (hd : levelOk d = true) (la : a.length ≤ 23) (lb : b.length ≤ 23) (lc : c.length ≤ 23) (ld : d.length ≤ 23)
    (h3 : vs.length = 3) (hv : ∀ x ∈ vs, 0 ≤ x ∧ x ≤ 4) (hs : levelPut a [b, c, d] = some s) : ValY a b c d vs s ∧ s.length ≤ 60 := by
  have hv2 : ∀ x ∈ vs, 0 ≤ x ∧ x ≤ 1000 := fun x hx => by have := hv x hx; omega
  have hs60 : s.length ≤ 60 := by
    unfold levelPut at hs
    split at hs
    · rename_i h
      have e := Option.some.inj hs
      rw [← e]
      exact h.2.2.2.2
    · cases hs
  have hsp : s = putF [b, c, d] a := by
    unfold levelPut at hs
    split at hs
    · exact (Option.some.inj hs).symm
    · cases hs
  obtain ⟨ta, rfl⟩ := level_tree ha
  obtain ⟨tb, rfl⟩ := level_tree hb
  obtain ⟨tc, rfl⟩ := level_tree hc
  obtain ⟨td, rfl⟩ := level_tree hd
  have hV : ∀ k, asV (vs.map Int.toNat) k ≤ 4 := fun k => by
    unfold asV
    by_cases hk : k.val < vs.length
    · have e : (vs.map Int.toNat).getD k.val 0 = (vs[k.val]).toNat := by simp [hk]
      rw [e]
      have := hv _ (List.getElem_mem hk)
      omega
    · have e : (vs.map Int.toNat).getD k.val 0 = 0 := by simp [List.getD, List.getElem?_eq_none (show vs.length ≤ k.val by omega)]
      omega
  have va := Lv.val_le hV ta
  have vb := Lv.val_le hV tb
  have vc := Lv.val_le hV tc
  have vd := Lv.val_le hV td
  have ua := Lv.ups_lt ta
  have ub := Lv.ups_lt tb
  have uc := Lv.ups_lt tc
  have ud := Lv.ups_lt td
  let σ : Fin 3 → Lv := fun k => if k = 0 then tb else if k = 1 then tc else td
  have hσ : ∀ k : Fin 3, [tb.bytes, tc.bytes, td.bytes].getD k.val [] = (σ k).bytes := fun k => by
    rcases (by have := k.isLt; omega : k.val = 0 ∨ k.val = 1 ∨ k.val = 2) with h | h | h
    · obtain rfl : k = 0 := Fin.ext h; rfl
    · obtain rfl : k = 1 := Fin.ext h; rfl
    · obtain rfl : k = 2 := Fin.ext h; rfl
  have hst : s = (ta.sub σ).bytes := by
    have := putF_tree _ σ hσ ta []
    rw [List.append_nil, putF_nil, List.append_nil] at this
    rw [hsp, this]
  have hw : ∀ x ∈ [(tb.val (asV (vs.map Int.toNat)) : Int), (tc.val (asV (vs.map Int.toNat)) : Int), (td.val (asV (vs.map Int.toNat)) : Int)], 0 ≤ x ∧ x ≤ 1000 := by
    intro x hx
    simp only [List.mem_cons, List.not_mem_nil, or_false] at hx
    rcases hx with rfl | rfl | rfl <;> omega
  refine ⟨⟨_, _, _, _, _, ?_, ?_, ?_, ?_, at_of rfl (by omega) h3 hv2, at_of rfl (by omega) h3 hv2, at_of rfl (by omega) h3 hv2, at_of rfl (by omega) h3 hv2, at_of hst hs60 h3 hv2, ?_, ?_, ?_⟩, hs60⟩
  · omega
  · omega
  · omega
  · omega
  · rw [at_of rfl (by omega) rfl hw, Lv.val_sub]
    congr 2
    exact asV_fun _ _ _ _ rfl rfl rfl
  · rw [at_of (show (43 :: ta.bytes) = (Lv.up ta).bytes from rfl) (by simp; omega) h3 hv2]
    rfl
  · rw [tree_ups ha]
    exact va
end Go.Proofs.YtgielbamebjjdaaGreatDoor

namespace Go.Proofs.YtgielbamebjjdaaGreatDoor
set_option maxRecDepth 100000
open Go
set_option linter.unusedVariables false
set_option linter.unusedSimpArgs false

theorem termOf_bytes {t : Tm} (hok : t.Ok) (hl : t.bytes.length ≤ 2000) : termOf t.bytes = some t := termOf_some ⟨hok, rfl, hl⟩
theorem inL_uses {t : Tm} (hok : t.Ok) (hl : t.bytes.length ≤ 2000) (name : List UInt8) : inL (usesIn t.bytes) name = decide (name ∈ t.cnames) := by
  unfold usesIn
  rw [termOf_bytes hok hl]
  simp only [inL]
  rw [decide_eq_decide]
  exact (srt_spec _ t.cnames (Nat.le_refl _)).2.1 name
/-- The shape of an argument, by its tree. -/
def shapeT (self name : List UInt8) (a : Tm) : Int :=
  if name ∈ a.cnames then (if (a.doms.any fun b => decide (name ∈ b.cnames)) = true then 2 else if a.targ.bytes = self then 1 else 2) else 0
theorem doms_len {a b : Tm} (h : b ∈ a.doms) : b.bytes.length ≤ a.bytes.length := by
  have h2 := congrArg List.length (doms_targ a)
  rw [List.length_append] at h2
  have := catP_mem h
  omega
theorem any_congr {α : Type} {l : List α} {p q : α → Bool} (h : ∀ x ∈ l, p x = q x) : l.any p = l.any q := by
  induction l with
  | nil => rfl
  | cons a l ih =>
    rw [List.any_cons, List.any_cons, h a List.mem_cons_self, ih fun x hx => h x (List.mem_cons_of_mem _ hx)]
theorem argShape_tm {a : Tm} (hok : a.Ok) (hl : a.bytes.length ≤ 2000) (self name : List UInt8) : argShape self name a.bytes = shapeT self name a := by
  have e1 : termOk a.bytes = true := by rw [termOk, termOf_bytes hok hl]; rfl
  have e2 : domainsOf a.bytes = a.doms.map Tm.bytes := by rw [domainsOf, termOf_bytes hok hl]
  have e3 : targetOf a.bytes = a.targ.bytes := by rw [targetOf, termOf_bytes hok hl]
  have e4 : ((a.doms.map Tm.bytes).any fun x => inL (usesIn x) name) = (a.doms.any fun b => decide (name ∈ b.cnames)) := by
    rw [List.any_map]
    exact any_congr fun b hb => inL_uses (Tm.doms_ok hok b hb) (Nat.le_trans (doms_len hb) hl) name
  unfold argShape shapeT
  rw [e1, e2, e3, e4, inL_uses hok hl]
  simp only [if_true, decide_eq_true_eq]
theorem closed_tm {t : Tm} {p : Int} (hok : t.Ok) (hl : t.bytes.length ≤ 2000) (h0 : t.opn = 0) (hp : (t.params : Int) ≤ p) : closedOf t.bytes p = true := by
  unfold closedOf
  rw [termOk, termOpen, paramsIn, termOf_bytes hok hl]
  simp [h0, hp]
theorem levelsN_okL {n : Nat} (hn : n ≤ 3) : ∀ x ∈ levelsN n, levelOk x = true ∧ x.length ≤ 2 := by
  have h0 : Lib.decDigits 0 = [48] := Lib.decDigits_one (by decide)
  have h1 : Lib.decDigits 1 = [49] := Lib.decDigits_one (by decide)
  have h2 : Lib.decDigits 2 = [50] := Lib.decDigits_one (by decide)
  have l0 : levelOk [117, 48] = true := by simp [levelOk, lend]
  have l1 : levelOk [117, 49] = true := by simp [levelOk, lend]
  have l2 : levelOk [117, 50] = true := by simp [levelOk, lend]
  intro x hx
  unfold levelsN at hx
  obtain ⟨i, hi, rfl⟩ := List.mem_map.1 hx
  rw [List.mem_range] at hi
  have e : i = 0 ∨ i = 1 ∨ i = 2 := by omega
  rcases e with rfl | rfl | rfl
  · rw [h0]; exact ⟨l0, by simp⟩
  · rw [h1]; exact ⟨l1, by simp⟩
  · rw [h2]; exact ⟨l2, by simp⟩
/-- The tree of the constant that a declaration declares. -/
def selfT (d : Dc) : Tm := .const d.name (levelsN d.params.toNat)
/-- What a constructor of a library's data type has: its tree. -/
structure CtorP (d : Dc) (c : Ct) (t : Tm) : Prop where
  bytes : t.bytes = c.2
  ok : t.Ok
  len : t.bytes.length ≤ 2000
  opn : t.opn = 0
  params : (t.params : Int) ≤ d.params
  head : headOk d.name c.1 = true
  part : (nparts (restOf d.name c.1)).length = 1
  notRec : restOf d.name c.1 ≠ recB
  targ : t.targ = selfT d
  shapes : ∀ a ∈ t.doms, shapeT (selfT d).bytes d.name a = 0 ∨ shapeT (selfT d).bytes d.name a = 1
/-- What a data type of the library has. -/
structure LibP (d : Dc) (lv : List UInt8) : Prop where
  kind : d.kind = 4
  name : nameOk d.name = true
  rname : nameOk (d.name ++ 46 :: recB) = true
  par0 : 0 ≤ d.params
  par2 : d.params ≤ 2
  flags : d.flags = 0 ∨ d.flags = 2
  value : d.value = []
  type : d.type = (Tm.sort lv).bytes
  level : levelOk lv = true
  lparams : (levelParams lv : Int) ≤ d.params
  count : d.ctors.length ≤ 6
  ctors : ∀ (k : Nat) (h : k < d.ctors.length), (∃ t, CtorP d d.ctors[k] t) ∧ ∀ (j : Nat) (hj : j < k), d.ctors[j].1 ≠ d.ctors[k].1
theorem sort_short {lv : List UInt8} (h : levelOk lv = true) : (Tm.sort lv).bytes.length ≤ 2000 := by
  have := (levelOk_len h).1
  simp [Tm.bytes]
  omega
theorem LibP.decl {d : Dc} {lv : List UInt8} (h : LibP d lv) : declOk d = true := by
  have hs := sort_short h.level
  have hok : (Tm.sort lv).Ok := h.level
  have hcl : closedOf d.type d.params = true := by rw [h.type]; exact closed_tm hok hs rfl h.lparams
  have hk : termKind d.type = [115] := by
    rw [h.type, termKind, termOk, termOf_bytes hok hs]
    rfl
  have hcs : ctorsOk d.name d.params d.ctors d.ctors.length = true := by
    simp only [ctorsOk, decide_eq_true_eq]
    intro i hi _
    obtain ⟨⟨t, ht⟩, hd⟩ := h.ctors i hi
    refine ⟨?_, hd⟩
    simp only [ctorOk, tailOk, Bool.and_eq_true, decide_eq_true_eq]
    refine ⟨ht.head, ht.part, ht.notRec, ?_⟩
    rw [← ht.bytes]
    exact closed_tm ht.ok ht.len ht.opn ht.params
  have h0 := h.par0
  have h2 := h.par2
  simp only [declOk, declKindOk, h.kind, Bool.and_eq_true, decide_eq_true_eq, show ((4 : Int) = 1) = False by simp, show ((4 : Int) = 2 ∨ (4 : Int) = 3) = False by simp, if_false, if_true]
  refine ⟨h.name, ⟨h0, by omega⟩, ?_, hcl, ?_⟩
  · rcases h.flags with e | e <;> omega
  · simp only [dataOk, Bool.and_eq_true, decide_eq_true_eq]
    refine ⟨?_, h.value, by omega, hk, h.count, ⟨h.name, h.rname⟩, hcs⟩
    rcases h.flags with e | e <;> rw [e] <;> decide
theorem LibP.data {d : Dc} {lv : List UInt8} (h : LibP d lv) : isData d = true := by simp [isData, h.kind, h.decl]
theorem LibP.self {d : Dc} {lv : List UInt8} (h : LibP d lv) : selfConst d = (selfT d).bytes := by rw [selfConst, if_pos h.decl]; rfl
theorem LibP.selfOk {d : Dc} {lv : List UInt8} (h : LibP d lv) : (selfT d).Ok := by
  have h2 := h.par2
  refine ⟨h.name, ?_, fun x hx => (levelsN_okL (n := d.params.toNat) (by omega) x hx).1⟩
  simp [levelsN]
  omega
theorem LibP.selfLen {d : Dc} {lv : List UInt8} (h : LibP d lv) : (selfT d).bytes.length ≤ 100 := by
  have h2 := h.par2
  have hn := nameOk_le h.name
  have hl : ∀ (ls : List (List UInt8)), (∀ x ∈ ls, x.length ≤ 2) → (lvsB ls).length ≤ 3 * ls.length := by
    intro ls
    induction ls with
    | nil => intro _; simp [lvsB]
    | cons a ls ih =>
      intro hx
      have := hx a List.mem_cons_self
      have := ih fun x hx' => hx x (List.mem_cons_of_mem _ hx')
      simp [lvsB]
      omega
  have h3 := hl (levelsN d.params.toNat) (fun x hx => (levelsN_okL (n := d.params.toNat) (by omega) x hx).2)
  have h4 : (levelsN d.params.toNat).length ≤ 3 := by simp [levelsN]; omega
  simp only [selfT, Tm.bytes, List.length_cons, List.length_append, List.length_nil]
  omega
theorem LibP.isCtor {d : Dc} {lv : List UInt8} (h : LibP d lv) {k : Nat} (hk : k < d.ctors.length) : isCtor d (k : Int) = true := by
  simp [Go.Proofs.YtgielbamebjjdaaGreatDoor.isCtor, h.data, hk]
theorem LibP.shapes {d : Dc} {lv : List UInt8} (h : LibP d lv) {k : Nat} (hk : k < d.ctors.length) : (shapesOf d (k : Int)).length = (domainsOf d.ctors[k].2).length ∧ ∀ s ∈ shapesOf d (k : Int), s = 0 ∨ s = 1 := by
  obtain ⟨⟨t, ht⟩, _⟩ := h.ctors k hk
  have e1 : shapesOf d (k : Int) = (domainsOf d.ctors[k].2).map fun x => argShape (selfConst d) d.name x := by
    rw [shapesOf, if_pos (h.isCtor hk), ctorType_at hk]
  refine ⟨by rw [e1, List.length_map], ?_⟩
  rw [e1, ← ht.bytes, domainsOf, termOf_bytes ht.ok ht.len, h.self]
  intro s hs
  obtain ⟨x, hx, rfl⟩ := List.mem_map.1 hs
  obtain ⟨a, ha, rfl⟩ := List.mem_map.1 hx
  rw [argShape_tm (Tm.doms_ok ht.ok a ha) (Nat.le_trans (doms_len ha) ht.len)]
  exact ht.shapes a ha
theorem LibP.result {d : Dc} {lv : List UInt8} (h : LibP d lv) {k : Nat} (hk : k < d.ctors.length) : resultOk d (k : Int) = true := by
  obtain ⟨⟨t, ht⟩, _⟩ := h.ctors k hk
  rw [resultOk, h.isCtor hk, ctorType_at hk, ← ht.bytes, targetOf, termOf_bytes ht.ok ht.len, h.self]
  simp [ht.targ]
theorem LibP.over {d : Dc} {lv : List UInt8} (h : LibP d lv) : resultOk d (d.ctors.length : Int) = false := by
  simp [resultOk, Go.Proofs.YtgielbamebjjdaaGreatDoor.isCtor]
theorem LibP.pos {d : Dc} {lv : List UInt8} (h : LibP d lv) : positive d = true := by
  rw [positive, h.data, Bool.true_and]
  simp only [goodTo, decide_eq_true_eq]
  intro i hi s hs
  rcases (h.shapes hi).2 s hs with e | e <;> omega
theorem LibP.large {d : Dc} {lv : List UInt8} (h : LibP d lv) : largeOk d = levelLe [43, 122] lv := by
  rw [largeOk, h.data, Bool.true_and]
  congr 1
  rw [h.type]
  simp [levelIn, Tm.bytes]
theorem LibP.shSelf {d : Dc} {lv : List UInt8} (h : LibP d lv) : argShape (selfConst d) d.name (selfConst d) = 1 := by
  rw [h.self, argShape_tm h.selfOk (Nat.le_trans h.selfLen (by decide))]
  simp [shapeT, selfT, Tm.cnames, Tm.doms, Tm.targ]
theorem LibP.shBad {d : Dc} {lv : List UInt8} (h : LibP d lv) : argShape (selfConst d) d.name (112 :: (selfConst d ++ selfConst d)) = 2 := by
  have e : 112 :: (selfConst d ++ selfConst d) = (Tm.pi (selfT d) (selfT d)).bytes := by rw [h.self]; rfl
  have hl := h.selfLen
  rw [e, argShape_tm (a := .pi (selfT d) (selfT d)) ⟨h.selfOk, h.selfOk⟩ (by simp [Tm.bytes]; omega)]
  simp [shapeT, selfT, Tm.cnames, Tm.doms]
theorem LibP.shNone {d : Dc} {lv : List UInt8} (h : LibP d lv) : argShape (selfConst d) d.name [115, 122, 46] = 0 := by
  have e : ([115, 122, 46] : List UInt8) = (Tm.sort [122]).bytes := rfl
  rw [e, argShape_tm (a := .sort [122]) (by simp [Tm.Ok, levelOk, lend]) (by simp [Tm.bytes])]
  simp [shapeT, Tm.cnames]
theorem LibP.rng {d : Dc} {lv : List UInt8} (h : LibP d lv) : -9223372036854775808 ≤ d.flags ∧ d.flags ≤ 9223372036854775807 := by
  rcases h.flags with e | e <;> rw [e] <;> decide

def libNat : Dc := ⟨4, [110, 97, 116], 0, 0, [115, 43, 122, 46], [], [([110, 97, 116, 46, 122, 101, 114, 111], [99, 110, 97, 116, 59, 46]), ([110, 97, 116, 46, 115, 117, 99, 99], [112, 99, 110, 97, 116, 59, 46, 99, 110, 97, 116, 59, 46])]⟩
def libBool : Dc := ⟨4, [98, 111, 111, 108], 0, 0, [115, 43, 122, 46], [], [([98, 111, 111, 108, 46, 116, 116], [99, 98, 111, 111, 108, 59, 46]), ([98, 111, 111, 108, 46, 102, 102], [99, 98, 111, 111, 108, 59, 46])]⟩
def libTree : Dc := ⟨4, [116, 114, 101, 101], 0, 0, [115, 43, 122, 46], [], [([116, 114, 101, 101, 46, 108, 101, 97, 102], [99, 116, 114, 101, 101, 59, 46]), ([116, 114, 101, 101, 46, 110, 111, 100, 101], [112, 99, 110, 97, 116, 59, 46, 112, 112, 99, 110, 97, 116, 59, 46, 99, 116, 114, 101, 101, 59, 46, 99, 116, 114, 101, 101, 59, 46])]⟩
def libFalse : Dc := ⟨4, [102, 97, 108, 115, 101], 0, 0, [115, 122, 46], [], []⟩
def libBig : Dc := ⟨4, [98, 105, 103], 0, 2, [115, 43, 122, 46], [], [([98, 105, 103, 46, 109, 107], [112, 115, 43, 122, 46, 99, 98, 105, 103, 59, 46])]⟩
def libBox : Dc := ⟨4, [98, 111, 120], 1, 0, [115, 43, 109, 117, 48, 43, 122, 46], [], [([98, 111, 120, 46, 109, 107], [112, 115, 117, 48, 46, 112, 118, 48, 46, 99, 98, 111, 120, 59, 117, 48, 44, 46])]⟩
theorem libNatC0 : CtorP libNat ([110, 97, 116, 46, 122, 101, 114, 111], [99, 110, 97, 116, 59, 46]) (.const [110, 97, 116] []) where
  bytes := by rfl
  ok := by simp [Tm.Ok, levelOk, lend]; try decide
  len := by decide
  opn := by decide
  params := by simp [Tm.bytes, Tm.targ, Tm.doms, Tm.cnames, Tm.opn, Tm.params, selfT, levelsN, List.range, List.range.loop, lvsB, libBox, Lib.decDigits_one, levelParams, parF, levelOk, lend, shapeT] <;> decide
  head := by decide
  part := by decide
  notRec := by decide
  targ := by rfl
  shapes := by
    intro a ha
    simp only [Tm.doms, List.mem_cons, List.not_mem_nil, or_false] at ha
theorem libNatC1 : CtorP libNat ([110, 97, 116, 46, 115, 117, 99, 99], [112, 99, 110, 97, 116, 59, 46, 99, 110, 97, 116, 59, 46]) (.pi (.const [110, 97, 116] []) (.const [110, 97, 116] [])) where
  bytes := by rfl
  ok := by simp [Tm.Ok, levelOk, lend]; try decide
  len := by decide
  opn := by decide
  params := by simp [Tm.bytes, Tm.targ, Tm.doms, Tm.cnames, Tm.opn, Tm.params, selfT, levelsN, List.range, List.range.loop, lvsB, libBox, Lib.decDigits_one, levelParams, parF, levelOk, lend, shapeT] <;> decide
  head := by decide
  part := by decide
  notRec := by decide
  targ := by rfl
  shapes := by
    intro a ha
    simp only [Tm.doms, List.mem_cons, List.not_mem_nil, or_false] at ha
    rcases ha with rfl
    · decide
theorem libNatP : LibP libNat [43, 122] where
  kind := rfl
  name := by decide
  rname := by decide
  par0 := by decide
  par2 := by decide
  flags := by decide
  value := rfl
  type := rfl
  level := by simp [levelOk, lend]
  lparams := by simp [Tm.bytes, Tm.targ, Tm.doms, Tm.cnames, Tm.opn, Tm.params, selfT, levelsN, List.range, List.range.loop, lvsB, libBox, Lib.decDigits_one, levelParams, parF, levelOk, lend, shapeT] <;> decide
  count := by decide
  ctors := by
    intro k h
    have h1 : k < 2 := h
    have e : k = 0 ∨ k = 1 := by omega
    rcases e with rfl | rfl
    · refine ⟨⟨_, libNatC0⟩, fun j hj => ?_⟩
      omega
    · refine ⟨⟨_, libNatC1⟩, fun j hj => ?_⟩
      obtain rfl : j = 0 := by omega
      show ([110, 97, 116, 46, 122, 101, 114, 111] : List UInt8) ≠ [110, 97, 116, 46, 115, 117, 99, 99]
      decide
theorem libBoolC0 : CtorP libBool ([98, 111, 111, 108, 46, 116, 116], [99, 98, 111, 111, 108, 59, 46]) (.const [98, 111, 111, 108] []) where
  bytes := by rfl
  ok := by simp [Tm.Ok, levelOk, lend]; try decide
  len := by decide
  opn := by decide
  params := by simp [Tm.bytes, Tm.targ, Tm.doms, Tm.cnames, Tm.opn, Tm.params, selfT, levelsN, List.range, List.range.loop, lvsB, libBox, Lib.decDigits_one, levelParams, parF, levelOk, lend, shapeT] <;> decide
  head := by decide
  part := by decide
  notRec := by decide
  targ := by rfl
  shapes := by
    intro a ha
    simp only [Tm.doms, List.mem_cons, List.not_mem_nil, or_false] at ha
theorem libBoolC1 : CtorP libBool ([98, 111, 111, 108, 46, 102, 102], [99, 98, 111, 111, 108, 59, 46]) (.const [98, 111, 111, 108] []) where
  bytes := by rfl
  ok := by simp [Tm.Ok, levelOk, lend]; try decide
  len := by decide
  opn := by decide
  params := by simp [Tm.bytes, Tm.targ, Tm.doms, Tm.cnames, Tm.opn, Tm.params, selfT, levelsN, List.range, List.range.loop, lvsB, libBox, Lib.decDigits_one, levelParams, parF, levelOk, lend, shapeT] <;> decide
  head := by decide
  part := by decide
  notRec := by decide
  targ := by rfl
  shapes := by
    intro a ha
    simp only [Tm.doms, List.mem_cons, List.not_mem_nil, or_false] at ha
theorem libBoolP : LibP libBool [43, 122] where
  kind := rfl
  name := by decide
  rname := by decide
  par0 := by decide
  par2 := by decide
  flags := by decide
  value := rfl
  type := rfl
  level := by simp [levelOk, lend]
  lparams := by simp [Tm.bytes, Tm.targ, Tm.doms, Tm.cnames, Tm.opn, Tm.params, selfT, levelsN, List.range, List.range.loop, lvsB, libBox, Lib.decDigits_one, levelParams, parF, levelOk, lend, shapeT] <;> decide
  count := by decide
  ctors := by
    intro k h
    have h1 : k < 2 := h
    have e : k = 0 ∨ k = 1 := by omega
    rcases e with rfl | rfl
    · refine ⟨⟨_, libBoolC0⟩, fun j hj => ?_⟩
      omega
    · refine ⟨⟨_, libBoolC1⟩, fun j hj => ?_⟩
      obtain rfl : j = 0 := by omega
      show ([98, 111, 111, 108, 46, 116, 116] : List UInt8) ≠ [98, 111, 111, 108, 46, 102, 102]
      decide
theorem libTreeC0 : CtorP libTree ([116, 114, 101, 101, 46, 108, 101, 97, 102], [99, 116, 114, 101, 101, 59, 46]) (.const [116, 114, 101, 101] []) where
  bytes := by rfl
  ok := by simp [Tm.Ok, levelOk, lend]; try decide
  len := by decide
  opn := by decide
  params := by simp [Tm.bytes, Tm.targ, Tm.doms, Tm.cnames, Tm.opn, Tm.params, selfT, levelsN, List.range, List.range.loop, lvsB, libBox, Lib.decDigits_one, levelParams, parF, levelOk, lend, shapeT] <;> decide
  head := by decide
  part := by decide
  notRec := by decide
  targ := by rfl
  shapes := by
    intro a ha
    simp only [Tm.doms, List.mem_cons, List.not_mem_nil, or_false] at ha
theorem libTreeC1 : CtorP libTree ([116, 114, 101, 101, 46, 110, 111, 100, 101], [112, 99, 110, 97, 116, 59, 46, 112, 112, 99, 110, 97, 116, 59, 46, 99, 116, 114, 101, 101, 59, 46, 99, 116, 114, 101, 101, 59, 46]) (.pi (.const [110, 97, 116] []) (.pi (.pi (.const [110, 97, 116] []) (.const [116, 114, 101, 101] [])) (.const [116, 114, 101, 101] []))) where
  bytes := by rfl
  ok := by simp [Tm.Ok, levelOk, lend]; try decide
  len := by decide
  opn := by decide
  params := by simp [Tm.bytes, Tm.targ, Tm.doms, Tm.cnames, Tm.opn, Tm.params, selfT, levelsN, List.range, List.range.loop, lvsB, libBox, Lib.decDigits_one, levelParams, parF, levelOk, lend, shapeT] <;> decide
  head := by decide
  part := by decide
  notRec := by decide
  targ := by rfl
  shapes := by
    intro a ha
    simp only [Tm.doms, List.mem_cons, List.not_mem_nil, or_false] at ha
    rcases ha with rfl | rfl
    · decide
    · decide
theorem libTreeP : LibP libTree [43, 122] where
  kind := rfl
  name := by decide
  rname := by decide
  par0 := by decide
  par2 := by decide
  flags := by decide
  value := rfl
  type := rfl
  level := by simp [levelOk, lend]
  lparams := by simp [Tm.bytes, Tm.targ, Tm.doms, Tm.cnames, Tm.opn, Tm.params, selfT, levelsN, List.range, List.range.loop, lvsB, libBox, Lib.decDigits_one, levelParams, parF, levelOk, lend, shapeT] <;> decide
  count := by decide
  ctors := by
    intro k h
    have h1 : k < 2 := h
    have e : k = 0 ∨ k = 1 := by omega
    rcases e with rfl | rfl
    · refine ⟨⟨_, libTreeC0⟩, fun j hj => ?_⟩
      omega
    · refine ⟨⟨_, libTreeC1⟩, fun j hj => ?_⟩
      obtain rfl : j = 0 := by omega
      show ([116, 114, 101, 101, 46, 108, 101, 97, 102] : List UInt8) ≠ [116, 114, 101, 101, 46, 110, 111, 100, 101]
      decide
theorem libFalseP : LibP libFalse [122] where
  kind := rfl
  name := by decide
  rname := by decide
  par0 := by decide
  par2 := by decide
  flags := by decide
  value := rfl
  type := rfl
  level := by simp [levelOk, lend]
  lparams := by simp [Tm.bytes, Tm.targ, Tm.doms, Tm.cnames, Tm.opn, Tm.params, selfT, levelsN, List.range, List.range.loop, lvsB, libBox, Lib.decDigits_one, levelParams, parF, levelOk, lend, shapeT] <;> decide
  count := by decide
  ctors := by
    intro k h
    have h1 : k < 0 := h
    omega
theorem libBigC0 : CtorP libBig ([98, 105, 103, 46, 109, 107], [112, 115, 43, 122, 46, 99, 98, 105, 103, 59, 46]) (.pi (.sort [43, 122]) (.const [98, 105, 103] [])) where
  bytes := by rfl
  ok := by simp [Tm.Ok, levelOk, lend]; try decide
  len := by decide
  opn := by decide
  params := by simp [Tm.bytes, Tm.targ, Tm.doms, Tm.cnames, Tm.opn, Tm.params, selfT, levelsN, List.range, List.range.loop, lvsB, libBox, Lib.decDigits_one, levelParams, parF, levelOk, lend, shapeT] <;> decide
  head := by decide
  part := by decide
  notRec := by decide
  targ := by rfl
  shapes := by
    intro a ha
    simp only [Tm.doms, List.mem_cons, List.not_mem_nil, or_false] at ha
    rcases ha with rfl
    · decide
theorem libBigP : LibP libBig [43, 122] where
  kind := rfl
  name := by decide
  rname := by decide
  par0 := by decide
  par2 := by decide
  flags := by decide
  value := rfl
  type := rfl
  level := by simp [levelOk, lend]
  lparams := by simp [Tm.bytes, Tm.targ, Tm.doms, Tm.cnames, Tm.opn, Tm.params, selfT, levelsN, List.range, List.range.loop, lvsB, libBox, Lib.decDigits_one, levelParams, parF, levelOk, lend, shapeT] <;> decide
  count := by decide
  ctors := by
    intro k h
    have h1 : k < 1 := h
    have e : k = 0 := by omega
    rcases e with rfl
    · refine ⟨⟨_, libBigC0⟩, fun j hj => ?_⟩
      omega
theorem libBoxC0 : CtorP libBox ([98, 111, 120, 46, 109, 107], [112, 115, 117, 48, 46, 112, 118, 48, 46, 99, 98, 111, 120, 59, 117, 48, 44, 46]) (.pi (.sort [117, 48]) (.pi (.var 0) (.const [98, 111, 120] [[117, 48]]))) where
  bytes := by simp [Tm.bytes, Tm.targ, Tm.doms, Tm.cnames, Tm.opn, Tm.params, selfT, levelsN, List.range, List.range.loop, lvsB, libBox, Lib.decDigits_one, levelParams, parF, levelOk, lend, shapeT]
  ok := by simp [Tm.Ok, levelOk, lend]; try decide
  len := by simp [Tm.bytes, Tm.targ, Tm.doms, Tm.cnames, Tm.opn, Tm.params, selfT, levelsN, List.range, List.range.loop, lvsB, libBox, Lib.decDigits_one, levelParams, parF, levelOk, lend, shapeT]
  opn := by decide
  params := by simp [Tm.bytes, Tm.targ, Tm.doms, Tm.cnames, Tm.opn, Tm.params, selfT, levelsN, List.range, List.range.loop, lvsB, libBox, Lib.decDigits_one, levelParams, parF, levelOk, lend, shapeT] <;> decide
  head := by decide
  part := by decide
  notRec := by decide
  targ := by simp [Tm.bytes, Tm.targ, Tm.doms, Tm.cnames, Tm.opn, Tm.params, selfT, levelsN, List.range, List.range.loop, lvsB, libBox, Lib.decDigits_one, levelParams, parF, levelOk, lend, shapeT]
  shapes := by
    intro a ha
    simp only [Tm.doms, List.mem_cons, List.not_mem_nil, or_false] at ha
    rcases ha with rfl | rfl
    · simp [Tm.bytes, Tm.targ, Tm.doms, Tm.cnames, Tm.opn, Tm.params, selfT, levelsN, List.range, List.range.loop, lvsB, libBox, Lib.decDigits_one, levelParams, parF, levelOk, lend, shapeT]
    · simp [Tm.bytes, Tm.targ, Tm.doms, Tm.cnames, Tm.opn, Tm.params, selfT, levelsN, List.range, List.range.loop, lvsB, libBox, Lib.decDigits_one, levelParams, parF, levelOk, lend, shapeT]
theorem libBoxP : LibP libBox [43, 109, 117, 48, 43, 122] where
  kind := rfl
  name := by decide
  rname := by decide
  par0 := by decide
  par2 := by decide
  flags := by decide
  value := rfl
  type := rfl
  level := by simp [levelOk, lend]
  lparams := by simp [Tm.bytes, Tm.targ, Tm.doms, Tm.cnames, Tm.opn, Tm.params, selfT, levelsN, List.range, List.range.loop, lvsB, libBox, Lib.decDigits_one, levelParams, parF, levelOk, lend, shapeT] <;> decide
  count := by decide
  ctors := by
    intro k h
    have h1 : k < 1 := h
    have e : k = 0 := by omega
    rcases e with rfl
    · refine ⟨⟨_, libBoxC0⟩, fun j hj => ?_⟩
      omega
theorem libNatL : largeOk libNat = true := by
  rw [libNatP.large]
  exact le_of (a := .up .z) (b := .up .z) (by rfl) (by rfl) (by decide) (by decide) (fun V => by simp [Lv.val])
theorem libBoolL : largeOk libBool = true := by
  rw [libBoolP.large]
  exact le_of (a := .up .z) (b := .up .z) (by rfl) (by rfl) (by decide) (by decide) (fun V => by simp [Lv.val])
theorem libTreeL : largeOk libTree = true := by
  rw [libTreeP.large]
  exact le_of (a := .up .z) (b := .up .z) (by rfl) (by rfl) (by decide) (by decide) (fun V => by simp [Lv.val])
theorem libFalseL : largeOk libFalse = false := by
  rw [libFalseP.large, Bool.eq_false_iff]
  intro h
  have h1 := (levelLe_iff (a := .up .z) (b := .z) (tree_ok _ (by decide)) (tree_ok _ (by decide))).1 h (fun _ => 0)
  simp [Lv.val] at h1
theorem libBigL : largeOk libBig = true := by
  rw [libBigP.large]
  exact le_of (a := .up .z) (b := .up .z) (by rfl) (by rfl) (by decide) (by decide) (fun V => by simp [Lv.val])
theorem libBoxL : largeOk libBox = true := by
  rw [libBoxP.large]
  exact le_of (a := .up .z) (b := .up (.mx (.par 0) (.up .z))) (by rfl) (by rfl) (by decide) (by decide) (fun V => by simp [Lv.val])
end Go.Proofs.YtgielbamebjjdaaGreatDoor

namespace Go.Proofs.YtgielbamebjjdaaGreatDoor
set_option maxRecDepth 100000
open Go.ChangeShapes Go.WideShapes Go.ChangeAt Go.RowKit
set_option linter.unusedSimpArgs false
set_option linter.unusedVariables false

/-- The hash of the first p bytes. -/
def hashTo (l : List UInt8) : Nat → Int
  | 0 => 94701 + (l.length : Int)
  | p + 1 => if p < 4000 then bits .and .i64 (wrap64 (wrap64 (wrap64 (hashTo l p * 131) + ((l.getD p 0).toNat : Int)) + 7)) 1073741823 else hashTo l p
def hashL (l : List UInt8) : Int := hashTo l (min l.length 4000)
def nextH (h : Int) : Int := wrap64 (wrap64 (h * 6364136223846793005) + 1442695040888963407)
def rawB (h : Int) : Nat := (bits .xor .i64 (nextH h / 8589934592) (nextH h / 35184372088832) % 256).toNat
/-- What is drawn at this place of the bytes with this hash. -/
def byteV (l : List UInt8) (i : Nat) (h : Int) : Nat := if i < l.length then (((rawB h : Int) + ((l.getD i 0).toNat : Int)) % 256).toNat else rawB h
def nextI (l : List UInt8) (i : Nat) : Nat := if i < l.length then i + 1 else i
theorem byteV_lt (l : List UInt8) (i : Nat) (h : Int) : byteV l i h ≤ 255 := by
  unfold byteV rawB
  split <;> omega
/-- A cursor at block cb over a list that came in with the world w0, at this place, with this hash. -/
def CurD (w0 : World) (v : Value) (l : List UInt8) (cb i : Nat) (h : Int) (w : World) : Prop :=
  Below w0.heap.size w0 w ∧ w0.heap.size ≤ cb ∧ cb < w.heap.size ∧ i ≤ l.length ∧ w.cell? ⟨cb, 0, none⟩ = some v ∧ w.cell? ⟨cb, 1, none⟩ = some (.int .i64 i) ∧ w.cell? ⟨cb, 2, none⟩ = some (.int .i64 h) ∧ w.frozen? ⟨cb, 1, none⟩ = false ∧ w.frozen? ⟨cb, 2, none⟩ = false
theorem CurD.cur {w0 w : World} {v : Value} {l : List UInt8} {cb i : Nat} {h : Int} (hc : CurD w0 v l cb i h w) : Cur w0 v l cb w := by
  obtain ⟨h1, h2, h3, h4, c0, c1, c2, z1, z2⟩ := hc
  exact ⟨h1, h2, h3, i, h, h4, c0, c1, c2, z1, z2⟩
theorem CurD.below {w0 w w' : World} {v : Value} {l : List UInt8} {cb i : Nat} {x : Int} (h : CurD w0 v l cb i x w) (hb : Below w.heap.size w w') : CurD w0 v l cb i x w' := by
  obtain ⟨h1, h2, h3, h4, c0, c1, c2, z1, z2⟩ := h
  exact ⟨h1.trans (hb.mono h1.size), h2, Nat.lt_of_lt_of_le h3 hb.size, h4, (hb.cell (p := ⟨cb, 0, none⟩) h3).trans c0, (hb.cell (p := ⟨cb, 1, none⟩) h3).trans c1, (hb.cell (p := ⟨cb, 2, none⟩) h3).trans c2, (hb.frozen (p := ⟨cb, 1, none⟩) h3).trans z1, (hb.frozen (p := ⟨cb, 2, none⟩) h3).trans z2⟩

set_option maxHeartbeats 2000000 in
theorem drawByteD {w0 w : World} {v : Value} {l : List UInt8} {cb i : Nat} {hh : Int} (hl : CameB w0 v l) (hc : CurD w0 v l cb i hh w) (hn : l.length ≤ 2000000) :
    Calls Tryz.prog 103 #[.pointer (some ⟨cb, 0, none⟩)] w fun e w' => e = .returned (.int .i64 (byteV l i hh : Int)) ∧ CurD w0 v l cb (nextI l i) (nextH hh) w' ∧ w.grownBy w' (some cb) := by
  obtain ⟨a0, cap, b, off, rfl, h2, h3⟩ := hl
  obtain ⟨hbel, hcb, hcw, hi, c0, c1, c2, z1, z2⟩ := hc
  have HN : Hid (nextH hh = wrap64 (wrap64 (hh * 6364136223846793005) + 1442695040888963407)) := rfl
  have HR : Hid (rawB hh = (bits .xor .i64 (nextH hh / 8589934592) (nextH hh / 35184372088832) % 256).toNat) := rfl
  rw [HN.out] at HR
  have HV : Hid (byteV l i hh = if i < l.length then (((rawB hh : Int) + ((l.getD i 0).toNat : Int)) % 256).toNat else rawB hh) := rfl
  have HI : Hid (nextI l i = if i < l.length then i + 1 else i) := rfl
  go_enter Tryz.func103, Tryz.ntmps103
  go_wp2
  generalize hgen : wrap64 (wrap64 (hh * 6364136223846793005) + 1442695040888963407) = h1
  rw [hgen] at HN HR
  clear hgen
  have k0 : (w.setCell ⟨cb, 2, none⟩ (.int .i64 h1)).cell? ⟨cb, 0, none⟩ = some (.slice a0 l.length cap) := (World.cell?_setCell_other _ _ _ _ (by simp)).trans c0
  have k1 : (w.setCell ⟨cb, 2, none⟩ (.int .i64 h1)).cell? ⟨cb, 1, none⟩ = some (.int .i64 i) := (World.cell?_setCell_other _ _ _ _ (by simp)).trans c1
  have k2 : (w.setCell ⟨cb, 2, none⟩ (.int .i64 h1)).cell? ⟨cb, 2, none⟩ = some (.int .i64 h1) := World.cell?_setCell_same _ _ _ c2
  have y1 : (w.setCell ⟨cb, 2, none⟩ (.int .i64 h1)).frozen? ⟨cb, 1, none⟩ = false := by simpa using z1
  have y2 : (w.setCell ⟨cb, 2, none⟩ (.int .i64 h1)).frozen? ⟨cb, 2, none⟩ = false := by simpa using z2
  have B1 := hbel.setCell (p := ⟨cb, 2, none⟩) hcb (.int .i64 h1)
  have G1 : w.grownBy (w.setCell ⟨cb, 2, none⟩ (.int .i64 h1)) (some cb) := ⟨rfl, rfl, rfl, by simp [World.setCell], fun k hk hne => Below.heap_setCell _ _ _ _ (fun e => hne (by rw [e]))⟩
  have hcw1 : cb < (w.setCell ⟨cb, 2, none⟩ (.int .i64 h1)).heap.size := by simpa [World.setCell] using hcw
  generalize w.setCell ⟨cb, 2, none⟩ (.int .i64 h1) = w1 at k0 k1 k2 y1 y2 B1 G1 hcw1
  clear c0 c1 c2 z1 z2
  go_quiet (fail)
  obtain ⟨x0, hx0e⟩ : ∃ x0, rawB hh = x0 := ⟨_, rfl⟩
  have ex0 : bits .and .i64 (bits BinOp.xor IntKind.i64 (h1 / 8589934592) (h1 / 35184372088832)) 255 = (x0 : Int) := by
    rw [i64_and255, ← hx0e, HR.out]
    omega
  have hx0 : x0 ≤ 255 := by
    rw [← hx0e, HR.out]
    omega
  rw [hx0e] at HV
  rw [ex0]
  have B2 := below_drewN B1 nq
  have G2 : w.grownBy (w1.drewN nq) (some cb) := ⟨G1.os, G1.tape, G1.output, G1.size, G1.block⟩
  have k0' : (w1.drewN nq).cell? ⟨cb, 0, none⟩ = some (.slice a0 l.length cap) := k0
  have k1' : (w1.drewN nq).cell? ⟨cb, 1, none⟩ = some (.int .i64 i) := k1
  have k2' : (w1.drewN nq).cell? ⟨cb, 2, none⟩ = some (.int .i64 h1) := k2
  have y1' : (w1.drewN nq).frozen? ⟨cb, 1, none⟩ = false := y1
  have y2' : (w1.drewN nq).frozen? ⟨cb, 2, none⟩ = false := y2
  have hcw2 : cb < (w1.drewN nq).heap.size := hcw1
  generalize w1.drewN nq = w2 at k0' k1' k2' y1' y2' B2 G2 hcw2
  clear k0 k1 k2 y1 y2 B1 G1 hcw1 ex0
  by_cases hlt : i < l.length
  · have d1 : decide ((i : Int) < (l.length : Int)) = true := decide_eq_true (by omega)
    obtain ⟨rfl, hb⟩ := h2 (by omega)
    have cc := (B2.cell (p := ⟨b, off + i, none⟩) hb).trans (h3 i hlt)
    have hby := l[i].toNat_lt
    have hgd : l.getD i 0 = l[i] := by simp [List.getD, hlt]
    rw [hgd] at HV
    generalize l[i].toNat = u at cc hby HV
    have q1 : (0 : Int) ≤ (i : Int) := by omega
    have q2 : (i : Int) < (l.length : Int) := by omega
    have e1 : IntKind.i64.wrap ((u : Int)) = (u : Int) := IntWalk.i64_in _ (by omega)
    have e2 : IntKind.i64.wrap ((x0 : Int) + (u : Int)) = (x0 : Int) + (u : Int) := IntWalk.i64_in _ (by omega)
    obtain ⟨x1, hx1e⟩ : ∃ x1 : Nat, x1 = (((x0 : Int) + (u : Int)) % 256).toNat := ⟨_, rfl⟩
    have ex1 : bits .and .i64 ((x0 : Int) + (u : Int)) 255 = (x1 : Int) := by
      rw [i64_and255, hx1e]
      omega
    have HV2 : Hid (byteV l i hh = x1) := by rw [Hid, HV.out, if_pos hlt, hx1e]
    have HI2 : Hid (nextI l i = i + 1) := by rw [Hid, HI.out, if_pos hlt]
    clear hx1e
    clear h2 h3
    go_wp2
    go_quiet (fail)
    have B3 := below_drewN B2 nq
    have G3 : w.grownBy (w2.drewN nq) (some cb) := ⟨G2.os, G2.tape, G2.output, G2.size, G2.block⟩
    have m0 : (w2.drewN nq).cell? ⟨cb, 0, none⟩ = some (.slice (some ⟨b, off, none⟩) l.length cap) := k0'
    have m1 : (w2.drewN nq).cell? ⟨cb, 1, none⟩ = some (.int .i64 i) := k1'
    have m2 : (w2.drewN nq).cell? ⟨cb, 2, none⟩ = some (.int .i64 h1) := k2'
    have s1 : (w2.drewN nq).frozen? ⟨cb, 1, none⟩ = false := y1'
    have s2 : (w2.drewN nq).frozen? ⟨cb, 2, none⟩ = false := y2'
    have hcw3 : cb < (w2.drewN nq).heap.size := hcw2
    have cd : (w2.drewN nq).cell? ⟨b, off + i, none⟩ = some (.int .u8 (u : Int)) := cc
    generalize w2.drewN nq = w3 at m0 m1 m2 s1 s2 B3 G3 hcw3 cd
    clear k0' k1' k2' y1' y2' B2 G2 hcw2 cc
    have k0' := m0
    have k1' := m1
    have k2' := m2
    have y1' := s1
    have y2' := s2
    have cc := cd
    clear m0 m1 m2 s1 s2 cd
    go_wp2
    go_quiet (fail)
    have B4 := below_drewN B3 nq
    have G4 : w.grownBy (w3.drewN nq) (some cb) := ⟨G3.os, G3.tape, G3.output, G3.size, G3.block⟩
    have m0 : (w3.drewN nq).cell? ⟨cb, 0, none⟩ = some (.slice (some ⟨b, off, none⟩) l.length cap) := k0'
    have m1 : (w3.drewN nq).cell? ⟨cb, 1, none⟩ = some (.int .i64 i) := k1'
    have m2 : (w3.drewN nq).cell? ⟨cb, 2, none⟩ = some (.int .i64 h1) := k2'
    have s1 : (w3.drewN nq).frozen? ⟨cb, 1, none⟩ = false := y1'
    have s2 : (w3.drewN nq).frozen? ⟨cb, 2, none⟩ = false := y2'
    have hcw4 : cb < (w3.drewN nq).heap.size := hcw3
    have cd : (w3.drewN nq).cell? ⟨b, off + i, none⟩ = some (.int .u8 (u : Int)) := cc
    generalize w3.drewN nq = w4 at m0 m1 m2 s1 s2 B4 G4 hcw4 cd
    clear k0' k1' k2' y1' y2' B3 G3 hcw3 cc
    have k0' := m0
    have k1' := m1
    have k2' := m2
    have y1' := s1
    have y2' := s2
    have cc := cd
    clear m0 m1 m2 s1 s2 cd
    have K0 := Lib.hid ((World.cell?_setCell_other w4 ⟨cb, 1, none⟩ ⟨cb, 0, none⟩ (.int .i64 ((i : Int) + 1)) (by simp)).trans k0')
    have K1 := Lib.hid (World.cell?_setCell_same w4 ⟨cb, 1, none⟩ (.int .i64 ((i : Int) + 1)) k1')
    have K2 := Lib.hid ((World.cell?_setCell_other w4 ⟨cb, 1, none⟩ ⟨cb, 2, none⟩ (.int .i64 ((i : Int) + 1)) (by simp)).trans k2')
    have BB := Lib.hid (B4.setCell (p := ⟨cb, 1, none⟩) hcb (.int .i64 ((i : Int) + 1)))
    have GG : Hid (w.grownBy (w4.setCell ⟨cb, 1, none⟩ (.int .i64 ((i : Int) + 1))) (some cb)) := ⟨G4.os, G4.tape, G4.output, by simpa [World.setCell] using G4.size, fun k hk hne => (Below.heap_setCell _ _ _ _ (fun e => hne (by rw [e]))).trans (G4.block k hk hne)⟩
    go_wp2
    go_ret
    rw [HV2.out, HI2.out, HN.out]
    refine ⟨rfl, ⟨BB.out, hcb, by simpa [World.setCell] using hcw4, by omega, K0.out, ?_, K2.out, by simpa using y1', by simpa using y2'⟩, GG.out⟩
    rw [K1.out]
    simp
  · have d1 : decide ((i : Int) < (l.length : Int)) = false := decide_eq_false (by omega)
    clear h2 h3
    go_wp2
    go_quiet (fail)
    go_wp2
    go_ret
    have HV2 : Hid (byteV l i hh = x0) := by rw [Hid, HV.out, if_neg hlt]
    have HI2 : Hid (nextI l i = i) := by rw [Hid, HI.out, if_neg hlt]
    rw [HV2.out, HI2.out, HN.out]
    exact ⟨rfl, ⟨below_drewN B2 _, hcb, hcw2, hi, k0', k1', k2', y1', y2'⟩, ⟨G2.os, G2.tape, G2.output, G2.size, G2.block⟩⟩

theorem drawBelowD {w0 w : World} {v : Value} {l : List UInt8} {cb i : Nat} {hh : Int} (hl : CameB w0 v l) (hc : CurD w0 v l cb i hh w) (hn : l.length ≤ 2000000) (n : Nat) (h1 : 1 ≤ n) (h2 : n ≤ 256) :
    Calls Tryz.prog 53 #[.pointer (some ⟨cb, 0, none⟩), .int .i64 (n : Int)] w fun e w' => e = .returned (.int .i64 ((byteV l i hh % n : Nat) : Int)) ∧ CurD w0 v l cb (nextI l i) (nextH hh) w' ∧ w.grownBy w' (some cb) := by
  have f1 := Lib.hid (drawByteD hl hc hn)
  have d1 : decide ((n : Int) ≤ 0) = false := decide_eq_false (by omega)
  have d2 : decide ((n : Int) ≤ 256) = true := decide_eq_true (by omega)
  have d3 : ((n : Int) == 0) = false := beq_eq_false_iff_ne.2 (by omega)
  generalize byteV l i hh = x at f1 ⊢
  clear hl hc
  go_enter Tryz.func53, Tryz.ntmps53
  go_wp2_with fail
  (with_reducible refine f1.out.mono ?_); rintro e w1 ⟨rfl, hc1, hg1⟩
  have e1 : ((x : Int)).tmod (n : Int) = ((x % n : Nat) : Int) := by
    rw [Int.tmod_eq_emod_of_nonneg (by omega)]
    omega
  have hxn : x % n < n := Nat.mod_lt _ (by omega)
  go_wp2
  go_ret
  refine ⟨?_, hc1, hg1⟩
  simp
set_option maxHeartbeats 1000000 in
theorem drawNewD {w : World} {v : Value} {l : List UInt8} (hl : CameB w v l) (hn : l.length ≤ 2000000) :
    Calls Tryz.prog 52 #[v] w fun e w' => ∃ cb, e = .returned (.pointer (some ⟨cb, 0, none⟩)) ∧ CurD w v l cb 0 (hashL l) w' := by
  obtain ⟨a0, cap, b, off, rfl, h2, h3⟩ := hl
  go_enter Tryz.func52, Tryz.ntmps52
  go_wp2
  go_loopw [3, 4] (fun hh i wr => ∃ (p : Nat) (x : Int), p ≤ l.length ∧ p ≤ 4000 ∧ hh = .int .i64 x ∧ i = .int .i64 p ∧ wr = w ∧ Hid (x = hashTo l p)) (fun _ i _ => l.length - (intOf i).toNat)
  case atStart => exact ⟨0, _, Nat.zero_le _, Nat.zero_le _, rfl, rfl, rfl, by rw [Hid]; simp [hashTo]⟩
  case round =>
    obtain ⟨p, x, hp, hp4, rfl, rfl, rfl, HX⟩ := hrel
    by_cases hlt : p < l.length
    · by_cases h4 : p < 4000
      · have d1 : decide ((p : Int) < (l.length : Int)) = true := decide_eq_true (by omega)
        have d2 : decide ((p : Int) < 4000) = true := decide_eq_true (by omega)
        obtain ⟨rfl, hb⟩ := h2 (by omega)
        have cc := h3 p hlt
        have hby := l[p].toNat_lt
        have HS : Hid (hashTo l (p + 1) = bits .and .i64 (wrap64 (wrap64 (wrap64 (x * 131) + (l[p].toNat : Int)) + 7)) 1073741823) := by
          rw [Hid, hashTo, if_pos h4, ← HX.out, show l.getD p 0 = l[p] by simp [List.getD, hlt]]
        generalize l[p].toNat = u at cc hby HS
        have q1 : (0 : Int) ≤ (p : Int) := by omega
        have q2 : (p : Int) < (l.length : Int) := by omega
        clear h2 h3
        go_wp2
        go_roundw
        case rel => exact ⟨p + 1, _, by omega, by omega, rfl, by go_num, by trivial, HS.out.symm⟩
        case measure => simp [intOf]; omega
      · have d1 : decide ((p : Int) < (l.length : Int)) = true := decide_eq_true (by omega)
        have d2 : decide ((p : Int) < 4000) = false := decide_eq_false (by omega)
        have HF : Hid (x = hashL l) := by rw [Hid, HX.out, hashL, show min l.length 4000 = p by omega]
        clear h2 h3
        go_wp2
        go_ret
        rw [← HF.out]
        exact ⟨wr.heap.size, rfl, (Below.refl _ _).alloc (Nat.le_refl _) _, Nat.le_refl _, by simp, Nat.zero_le _, World.news_of_block (cs := #[.slice a0 l.length cap, .int .i64 0, .int .i64 x]) (t := 113) (fr := (0, 0)) (heap_alloc_new wr _) 0 _ rfl, World.news_of_block (cs := #[.slice a0 l.length cap, .int .i64 0, .int .i64 x]) (t := 113) (fr := (0, 0)) (heap_alloc_new wr _) 1 _ rfl, World.news_of_block (cs := #[.slice a0 l.length cap, .int .i64 0, .int .i64 x]) (t := 113) (fr := (0, 0)) (heap_alloc_new wr _) 2 _ rfl, by simp, by simp⟩
    · have d1 : decide ((p : Int) < (l.length : Int)) = false := decide_eq_false (by omega)
      have HF : Hid (x = hashL l) := by rw [Hid, HX.out, hashL, show min l.length 4000 = p by omega]
      clear h2 h3
      go_wp2
      go_ret
      rw [← HF.out]
      exact ⟨wr.heap.size, rfl, (Below.refl _ _).alloc (Nat.le_refl _) _, Nat.le_refl _, by simp, Nat.zero_le _, World.news_of_block (cs := #[.slice a0 l.length cap, .int .i64 0, .int .i64 x]) (t := 113) (fr := (0, 0)) (heap_alloc_new wr _) 0 _ rfl, World.news_of_block (cs := #[.slice a0 l.length cap, .int .i64 0, .int .i64 x]) (t := 113) (fr := (0, 0)) (heap_alloc_new wr _) 1 _ rfl, World.news_of_block (cs := #[.slice a0 l.length cap, .int .i64 0, .int .i64 x]) (t := 113) (fr := (0, 0)) (heap_alloc_new wr _) 2 _ rfl, by simp, by simp⟩


theorem drawPickInt {w0 w : World} {v : Value} {l : List UInt8} {cb i : Nat} {hh : Int} (hl : CameB w0 v l) (hc : CurD w0 v l cb i hh w) (hn : l.length ≤ 2000000) {b n : Nat} {u : Value} {zs : List Int} (hu : w.ownsRow b 3 1 u n (zs.map iv)) (h1 : 1 ≤ n) (h2 : n ≤ 256) :
    Calls Tryz.prog 70 #[.pointer (some ⟨cb, 0, none⟩), u] w fun e w' => e = .returned (.int .i64 (zs.getD (byteV l i hh % n) 0)) ∧ Below w0.heap.size w0 w' := by
  have hz : zs.length = n := by have := hu.1; simpa using this
  have f1 := Lib.hid (drawBelowD hl hc hn n h1 h2)
  have hlt : byteV l i hh % n < n := Nat.mod_lt _ (by omega)
  obtain ⟨g, cap, rfl, _, hgl⟩ := hu.form (by omega)
  have cc := hu.cellAt (byteV l i hh % n) (by omega)
  have ex : (zs.map iv)[byteV l i hh % n]? = some (iv (zs.getD (byteV l i hh % n) 0)) := by
    rw [List.getElem?_map, List.getElem?_eq_getElem (by omega)]
    simp [List.getD, hz, hlt]
  rw [ex] at cc
  unfold iv at cc
  have hne : g ≠ cb := by
    intro e
    subst e
    obtain ⟨_, _, _, _, c0, _⟩ := hc
    have c1 := hu.cellAt 0 (by omega)
    obtain ⟨a0, cp, _, _, rfl, _⟩ := hl
    rw [c0] at c1
    cases zs with
    | nil => simp at hz; omega
    | cons z zs => simp [iv] at c1
  have hcell : Hid (∀ w', w.grownBy w' (some cb) → w'.cell? ⟨g, byteV l i hh % n, none⟩ = some (.int .i64 (zs.getD (byteV l i hh % n) 0))) := fun w' hg => by
    have hb := hg.block g hgl (by simpa using hne)
    unfold World.cell? at cc ⊢
    rw [hb]
    exact cc
  generalize zs.getD (byteV l i hh % n) 0 = z at hcell ⊢
  generalize byteV l i hh % n = k at f1 hlt hcell
  have q1 : (0 : Int) ≤ (k : Int) := by omega
  have q2 : (k : Int) < (n : Int) := by omega
  clear hl hc hu cc ex hz
  go_enter Tryz.func70, Tryz.ntmps70
  go_wp2_with fail
  (with_reducible refine f1.out.mono ?_); rintro e w1 ⟨rfl, hc1, hg1⟩
  have c1 := hcell.out _ hg1
  have HB := Lib.hid hc1.1
  clear hc1 hg1 hcell f1
  go_wp2
  go_ret
  exact ⟨rfl, HB.out⟩
end Go.Proofs.YtgielbamebjjdaaGreatDoor

namespace Go.Proofs.YtgielbamebjjdaaGreatDoor
set_option maxRecDepth 100000
open Go.ChangeShapes Go.WideShapes Go.ChangeAt Go.RowKit
set_option linter.unusedSimpArgs false
set_option linter.unusedVariables false

set_option maxHeartbeats 4000000 in
theorem known_libNat (w : World) : Calls Tryz.prog 69 #[.int .i64 0] w (DRes libNat w) := by
  have hb1 := alloc_any w (.cells #[.int .i64 4, .string ⟨#[110, 97, 116]⟩, .int .i64 0, .int .i64 0, .string ⟨#[115, 43, 122, 46]⟩, .string ⟨#[]⟩, .slice (some ⟨w.heap.size + 1, 0, none⟩) 2 2] 36)
  have hz : (w.alloc (.cells #[.int .i64 4, .string ⟨#[110, 97, 116]⟩, .int .i64 0, .int .i64 0, .string ⟨#[115, 43, 122, 46]⟩, .string ⟨#[]⟩, .slice (some ⟨w.heap.size + 1, 0, none⟩) 2 2] 36)).heap.size = w.heap.size + 1 := by simp
  have hrow : Hid (((w.alloc (.cells #[.int .i64 4, .string ⟨#[110, 97, 116]⟩, .int .i64 0, .int .i64 0, .string ⟨#[115, 43, 122, 46]⟩, .string ⟨#[]⟩, .slice (some ⟨w.heap.size + 1, 0, none⟩) 2 2] 36)).alloc (.cells #[.string ⟨#[110, 97, 116, 46, 122, 101, 114, 111]⟩, .string ⟨#[99, 110, 97, 116, 59, 46]⟩, .string ⟨#[110, 97, 116, 46, 115, 117, 99, 99]⟩, .string ⟨#[112, 99, 110, 97, 116, 59, 46, 99, 110, 97, 116, 59, 46]⟩] 42)).ownsRow w.heap.size 42 2 (.slice (some ⟨w.heap.size + 1, 0, none⟩) 2 2) libNat.ctors.length (flatC libNat.ctors)) := by
    have h1 := World.ownsRow_lit (base := w.heap.size) (e := 42) (size := 2) (w.alloc (.cells #[.int .i64 4, .string ⟨#[110, 97, 116]⟩, .int .i64 0, .int .i64 0, .string ⟨#[115, 43, 122, 46]⟩, .string ⟨#[]⟩, .slice (some ⟨w.heap.size + 1, 0, none⟩) 2 2] 36)) #[.string ⟨#[110, 97, 116, 46, 122, 101, 114, 111]⟩, .string ⟨#[99, 110, 97, 116, 59, 46]⟩, .string ⟨#[110, 97, 116, 46, 115, 117, 99, 99]⟩, .string ⟨#[112, 99, 110, 97, 116, 59, 46, 99, 110, 97, 116, 59, 46]⟩] 2 (by rw [hz]; omega) (by decide) (by simp)
    rw [hz] at h1
    exact h1
  have HB := Lib.hid (hb1.trans ((alloc_any (w.alloc (.cells #[.int .i64 4, .string ⟨#[110, 97, 116]⟩, .int .i64 0, .int .i64 0, .string ⟨#[115, 43, 122, 46]⟩, .string ⟨#[]⟩, .slice (some ⟨w.heap.size + 1, 0, none⟩) 2 2] 36)) (.cells #[.string ⟨#[110, 97, 116, 46, 122, 101, 114, 111]⟩, .string ⟨#[99, 110, 97, 116, 59, 46]⟩, .string ⟨#[110, 97, 116, 46, 115, 117, 99, 99]⟩, .string ⟨#[112, 99, 110, 97, 116, 59, 46, 99, 110, 97, 116, 59, 46]⟩] 42)).mono hb1.size))
  clear hb1 hz
  go_enter Tryz.func69, Tryz.ntmps69
  go_wp2
  exact bodyPost_ret (v := .agg #[.int .i64 4, .string ⟨#[110, 97, 116]⟩, .int .i64 0, .int .i64 0, .string ⟨#[115, 43, 122, 46]⟩, .string ⟨#[]⟩, .slice (some ⟨w.heap.size + 1, 0, none⟩) 2 2]) (by simp [results, Tryz.results69, go_sem]) rfl ⟨.slice (some ⟨w.heap.size + 1, 0, none⟩) 2 2, rfl, hrow.out, HB.out⟩
set_option maxHeartbeats 4000000 in
theorem known_libBool (w : World) : Calls Tryz.prog 69 #[.int .i64 9] w (DRes libBool w) := by
  have hb1 := alloc_any w (.cells #[.int .i64 4, .string ⟨#[98, 111, 111, 108]⟩, .int .i64 0, .int .i64 0, .string ⟨#[115, 43, 122, 46]⟩, .string ⟨#[]⟩, .slice (some ⟨w.heap.size + 1, 0, none⟩) 2 2] 36)
  have hz : (w.alloc (.cells #[.int .i64 4, .string ⟨#[98, 111, 111, 108]⟩, .int .i64 0, .int .i64 0, .string ⟨#[115, 43, 122, 46]⟩, .string ⟨#[]⟩, .slice (some ⟨w.heap.size + 1, 0, none⟩) 2 2] 36)).heap.size = w.heap.size + 1 := by simp
  have hrow : Hid (((w.alloc (.cells #[.int .i64 4, .string ⟨#[98, 111, 111, 108]⟩, .int .i64 0, .int .i64 0, .string ⟨#[115, 43, 122, 46]⟩, .string ⟨#[]⟩, .slice (some ⟨w.heap.size + 1, 0, none⟩) 2 2] 36)).alloc (.cells #[.string ⟨#[98, 111, 111, 108, 46, 116, 116]⟩, .string ⟨#[99, 98, 111, 111, 108, 59, 46]⟩, .string ⟨#[98, 111, 111, 108, 46, 102, 102]⟩, .string ⟨#[99, 98, 111, 111, 108, 59, 46]⟩] 42)).ownsRow w.heap.size 42 2 (.slice (some ⟨w.heap.size + 1, 0, none⟩) 2 2) libBool.ctors.length (flatC libBool.ctors)) := by
    have h1 := World.ownsRow_lit (base := w.heap.size) (e := 42) (size := 2) (w.alloc (.cells #[.int .i64 4, .string ⟨#[98, 111, 111, 108]⟩, .int .i64 0, .int .i64 0, .string ⟨#[115, 43, 122, 46]⟩, .string ⟨#[]⟩, .slice (some ⟨w.heap.size + 1, 0, none⟩) 2 2] 36)) #[.string ⟨#[98, 111, 111, 108, 46, 116, 116]⟩, .string ⟨#[99, 98, 111, 111, 108, 59, 46]⟩, .string ⟨#[98, 111, 111, 108, 46, 102, 102]⟩, .string ⟨#[99, 98, 111, 111, 108, 59, 46]⟩] 2 (by rw [hz]; omega) (by decide) (by simp)
    rw [hz] at h1
    exact h1
  have HB := Lib.hid (hb1.trans ((alloc_any (w.alloc (.cells #[.int .i64 4, .string ⟨#[98, 111, 111, 108]⟩, .int .i64 0, .int .i64 0, .string ⟨#[115, 43, 122, 46]⟩, .string ⟨#[]⟩, .slice (some ⟨w.heap.size + 1, 0, none⟩) 2 2] 36)) (.cells #[.string ⟨#[98, 111, 111, 108, 46, 116, 116]⟩, .string ⟨#[99, 98, 111, 111, 108, 59, 46]⟩, .string ⟨#[98, 111, 111, 108, 46, 102, 102]⟩, .string ⟨#[99, 98, 111, 111, 108, 59, 46]⟩] 42)).mono hb1.size))
  clear hb1 hz
  go_enter Tryz.func69, Tryz.ntmps69
  go_wp2
  exact bodyPost_ret (v := .agg #[.int .i64 4, .string ⟨#[98, 111, 111, 108]⟩, .int .i64 0, .int .i64 0, .string ⟨#[115, 43, 122, 46]⟩, .string ⟨#[]⟩, .slice (some ⟨w.heap.size + 1, 0, none⟩) 2 2]) (by simp [results, Tryz.results69, go_sem]) rfl ⟨.slice (some ⟨w.heap.size + 1, 0, none⟩) 2 2, rfl, hrow.out, HB.out⟩
set_option maxHeartbeats 4000000 in
theorem known_libTree (w : World) : Calls Tryz.prog 69 #[.int .i64 12] w (DRes libTree w) := by
  have hb1 := alloc_any w (.cells #[.int .i64 4, .string ⟨#[116, 114, 101, 101]⟩, .int .i64 0, .int .i64 0, .string ⟨#[115, 43, 122, 46]⟩, .string ⟨#[]⟩, .slice (some ⟨w.heap.size + 1, 0, none⟩) 2 2] 36)
  have hz : (w.alloc (.cells #[.int .i64 4, .string ⟨#[116, 114, 101, 101]⟩, .int .i64 0, .int .i64 0, .string ⟨#[115, 43, 122, 46]⟩, .string ⟨#[]⟩, .slice (some ⟨w.heap.size + 1, 0, none⟩) 2 2] 36)).heap.size = w.heap.size + 1 := by simp
  have hrow : Hid (((w.alloc (.cells #[.int .i64 4, .string ⟨#[116, 114, 101, 101]⟩, .int .i64 0, .int .i64 0, .string ⟨#[115, 43, 122, 46]⟩, .string ⟨#[]⟩, .slice (some ⟨w.heap.size + 1, 0, none⟩) 2 2] 36)).alloc (.cells #[.string ⟨#[116, 114, 101, 101, 46, 108, 101, 97, 102]⟩, .string ⟨#[99, 116, 114, 101, 101, 59, 46]⟩, .string ⟨#[116, 114, 101, 101, 46, 110, 111, 100, 101]⟩, .string ⟨#[112, 99, 110, 97, 116, 59, 46, 112, 112, 99, 110, 97, 116, 59, 46, 99, 116, 114, 101, 101, 59, 46, 99, 116, 114, 101, 101, 59, 46]⟩] 42)).ownsRow w.heap.size 42 2 (.slice (some ⟨w.heap.size + 1, 0, none⟩) 2 2) libTree.ctors.length (flatC libTree.ctors)) := by
    have h1 := World.ownsRow_lit (base := w.heap.size) (e := 42) (size := 2) (w.alloc (.cells #[.int .i64 4, .string ⟨#[116, 114, 101, 101]⟩, .int .i64 0, .int .i64 0, .string ⟨#[115, 43, 122, 46]⟩, .string ⟨#[]⟩, .slice (some ⟨w.heap.size + 1, 0, none⟩) 2 2] 36)) #[.string ⟨#[116, 114, 101, 101, 46, 108, 101, 97, 102]⟩, .string ⟨#[99, 116, 114, 101, 101, 59, 46]⟩, .string ⟨#[116, 114, 101, 101, 46, 110, 111, 100, 101]⟩, .string ⟨#[112, 99, 110, 97, 116, 59, 46, 112, 112, 99, 110, 97, 116, 59, 46, 99, 116, 114, 101, 101, 59, 46, 99, 116, 114, 101, 101, 59, 46]⟩] 2 (by rw [hz]; omega) (by decide) (by simp)
    rw [hz] at h1
    exact h1
  have HB := Lib.hid (hb1.trans ((alloc_any (w.alloc (.cells #[.int .i64 4, .string ⟨#[116, 114, 101, 101]⟩, .int .i64 0, .int .i64 0, .string ⟨#[115, 43, 122, 46]⟩, .string ⟨#[]⟩, .slice (some ⟨w.heap.size + 1, 0, none⟩) 2 2] 36)) (.cells #[.string ⟨#[116, 114, 101, 101, 46, 108, 101, 97, 102]⟩, .string ⟨#[99, 116, 114, 101, 101, 59, 46]⟩, .string ⟨#[116, 114, 101, 101, 46, 110, 111, 100, 101]⟩, .string ⟨#[112, 99, 110, 97, 116, 59, 46, 112, 112, 99, 110, 97, 116, 59, 46, 99, 116, 114, 101, 101, 59, 46, 99, 116, 114, 101, 101, 59, 46]⟩] 42)).mono hb1.size))
  clear hb1 hz
  go_enter Tryz.func69, Tryz.ntmps69
  go_wp2
  exact bodyPost_ret (v := .agg #[.int .i64 4, .string ⟨#[116, 114, 101, 101]⟩, .int .i64 0, .int .i64 0, .string ⟨#[115, 43, 122, 46]⟩, .string ⟨#[]⟩, .slice (some ⟨w.heap.size + 1, 0, none⟩) 2 2]) (by simp [results, Tryz.results69, go_sem]) rfl ⟨.slice (some ⟨w.heap.size + 1, 0, none⟩) 2 2, rfl, hrow.out, HB.out⟩
set_option maxHeartbeats 4000000 in
theorem known_libFalse (w : World) : Calls Tryz.prog 69 #[.int .i64 13] w (DRes libFalse w) := by
  have hb1 := alloc_any w (.cells #[.int .i64 4, .string ⟨#[102, 97, 108, 115, 101]⟩, .int .i64 0, .int .i64 0, .string ⟨#[115, 122, 46]⟩, .string ⟨#[]⟩, .slice none 0 0] 36)
  have hrow : Hid ((w.alloc (.cells #[.int .i64 4, .string ⟨#[102, 97, 108, 115, 101]⟩, .int .i64 0, .int .i64 0, .string ⟨#[115, 122, 46]⟩, .string ⟨#[]⟩, .slice none 0 0] 36)).ownsRow w.heap.size 42 2 (.slice none 0 0) libFalse.ctors.length (flatC libFalse.ctors)) := World.ownsRow_nil _ _ _ _
  have HB := Lib.hid hb1
  clear hb1
  go_enter Tryz.func69, Tryz.ntmps69
  go_wp2
  exact bodyPost_ret (v := .agg #[.int .i64 4, .string ⟨#[102, 97, 108, 115, 101]⟩, .int .i64 0, .int .i64 0, .string ⟨#[115, 122, 46]⟩, .string ⟨#[]⟩, .slice none 0 0]) (by simp [results, Tryz.results69, go_sem]) rfl ⟨.slice none 0 0, rfl, hrow.out, HB.out⟩
set_option maxHeartbeats 4000000 in
theorem known_libBig (w : World) : Calls Tryz.prog 69 #[.int .i64 14] w (DRes libBig w) := by
  have hb1 := alloc_any w (.cells #[.int .i64 4, .string ⟨#[98, 105, 103]⟩, .int .i64 0, .int .i64 2, .string ⟨#[115, 43, 122, 46]⟩, .string ⟨#[]⟩, .slice (some ⟨w.heap.size + 1, 0, none⟩) 1 1] 36)
  have hz : (w.alloc (.cells #[.int .i64 4, .string ⟨#[98, 105, 103]⟩, .int .i64 0, .int .i64 2, .string ⟨#[115, 43, 122, 46]⟩, .string ⟨#[]⟩, .slice (some ⟨w.heap.size + 1, 0, none⟩) 1 1] 36)).heap.size = w.heap.size + 1 := by simp
  have hrow : Hid (((w.alloc (.cells #[.int .i64 4, .string ⟨#[98, 105, 103]⟩, .int .i64 0, .int .i64 2, .string ⟨#[115, 43, 122, 46]⟩, .string ⟨#[]⟩, .slice (some ⟨w.heap.size + 1, 0, none⟩) 1 1] 36)).alloc (.cells #[.string ⟨#[98, 105, 103, 46, 109, 107]⟩, .string ⟨#[112, 115, 43, 122, 46, 99, 98, 105, 103, 59, 46]⟩] 42)).ownsRow w.heap.size 42 2 (.slice (some ⟨w.heap.size + 1, 0, none⟩) 1 1) libBig.ctors.length (flatC libBig.ctors)) := by
    have h1 := World.ownsRow_lit (base := w.heap.size) (e := 42) (size := 2) (w.alloc (.cells #[.int .i64 4, .string ⟨#[98, 105, 103]⟩, .int .i64 0, .int .i64 2, .string ⟨#[115, 43, 122, 46]⟩, .string ⟨#[]⟩, .slice (some ⟨w.heap.size + 1, 0, none⟩) 1 1] 36)) #[.string ⟨#[98, 105, 103, 46, 109, 107]⟩, .string ⟨#[112, 115, 43, 122, 46, 99, 98, 105, 103, 59, 46]⟩] 1 (by rw [hz]; omega) (by decide) (by simp)
    rw [hz] at h1
    exact h1
  have HB := Lib.hid (hb1.trans ((alloc_any (w.alloc (.cells #[.int .i64 4, .string ⟨#[98, 105, 103]⟩, .int .i64 0, .int .i64 2, .string ⟨#[115, 43, 122, 46]⟩, .string ⟨#[]⟩, .slice (some ⟨w.heap.size + 1, 0, none⟩) 1 1] 36)) (.cells #[.string ⟨#[98, 105, 103, 46, 109, 107]⟩, .string ⟨#[112, 115, 43, 122, 46, 99, 98, 105, 103, 59, 46]⟩] 42)).mono hb1.size))
  clear hb1 hz
  go_enter Tryz.func69, Tryz.ntmps69
  go_wp2
  exact bodyPost_ret (v := .agg #[.int .i64 4, .string ⟨#[98, 105, 103]⟩, .int .i64 0, .int .i64 2, .string ⟨#[115, 43, 122, 46]⟩, .string ⟨#[]⟩, .slice (some ⟨w.heap.size + 1, 0, none⟩) 1 1]) (by simp [results, Tryz.results69, go_sem]) rfl ⟨.slice (some ⟨w.heap.size + 1, 0, none⟩) 1 1, rfl, hrow.out, HB.out⟩
set_option maxHeartbeats 4000000 in
theorem known_libBox (w : World) : Calls Tryz.prog 69 #[.int .i64 16] w (DRes libBox w) := by
  have hb1 := alloc_any w (.cells #[.int .i64 4, .string ⟨#[98, 111, 120]⟩, .int .i64 1, .int .i64 0, .string ⟨#[115, 43, 109, 117, 48, 43, 122, 46]⟩, .string ⟨#[]⟩, .slice (some ⟨w.heap.size + 1, 0, none⟩) 1 1] 36)
  have hz : (w.alloc (.cells #[.int .i64 4, .string ⟨#[98, 111, 120]⟩, .int .i64 1, .int .i64 0, .string ⟨#[115, 43, 109, 117, 48, 43, 122, 46]⟩, .string ⟨#[]⟩, .slice (some ⟨w.heap.size + 1, 0, none⟩) 1 1] 36)).heap.size = w.heap.size + 1 := by simp
  have hrow : Hid (((w.alloc (.cells #[.int .i64 4, .string ⟨#[98, 111, 120]⟩, .int .i64 1, .int .i64 0, .string ⟨#[115, 43, 109, 117, 48, 43, 122, 46]⟩, .string ⟨#[]⟩, .slice (some ⟨w.heap.size + 1, 0, none⟩) 1 1] 36)).alloc (.cells #[.string ⟨#[98, 111, 120, 46, 109, 107]⟩, .string ⟨#[112, 115, 117, 48, 46, 112, 118, 48, 46, 99, 98, 111, 120, 59, 117, 48, 44, 46]⟩] 42)).ownsRow w.heap.size 42 2 (.slice (some ⟨w.heap.size + 1, 0, none⟩) 1 1) libBox.ctors.length (flatC libBox.ctors)) := by
    have h1 := World.ownsRow_lit (base := w.heap.size) (e := 42) (size := 2) (w.alloc (.cells #[.int .i64 4, .string ⟨#[98, 111, 120]⟩, .int .i64 1, .int .i64 0, .string ⟨#[115, 43, 109, 117, 48, 43, 122, 46]⟩, .string ⟨#[]⟩, .slice (some ⟨w.heap.size + 1, 0, none⟩) 1 1] 36)) #[.string ⟨#[98, 111, 120, 46, 109, 107]⟩, .string ⟨#[112, 115, 117, 48, 46, 112, 118, 48, 46, 99, 98, 111, 120, 59, 117, 48, 44, 46]⟩] 1 (by rw [hz]; omega) (by decide) (by simp)
    rw [hz] at h1
    exact h1
  have HB := Lib.hid (hb1.trans ((alloc_any (w.alloc (.cells #[.int .i64 4, .string ⟨#[98, 111, 120]⟩, .int .i64 1, .int .i64 0, .string ⟨#[115, 43, 109, 117, 48, 43, 122, 46]⟩, .string ⟨#[]⟩, .slice (some ⟨w.heap.size + 1, 0, none⟩) 1 1] 36)) (.cells #[.string ⟨#[98, 111, 120, 46, 109, 107]⟩, .string ⟨#[112, 115, 117, 48, 46, 112, 118, 48, 46, 99, 98, 111, 120, 59, 117, 48, 44, 46]⟩] 42)).mono hb1.size))
  clear hb1 hz
  go_enter Tryz.func69, Tryz.ntmps69
  go_wp2
  exact bodyPost_ret (v := .agg #[.int .i64 4, .string ⟨#[98, 111, 120]⟩, .int .i64 1, .int .i64 0, .string ⟨#[115, 43, 109, 117, 48, 43, 122, 46]⟩, .string ⟨#[]⟩, .slice (some ⟨w.heap.size + 1, 0, none⟩) 1 1]) (by simp [results, Tryz.results69, go_sem]) rfl ⟨.slice (some ⟨w.heap.size + 1, 0, none⟩) 1 1, rfl, hrow.out, HB.out⟩
def libAt (i : Nat) : Dc := if i = 0 then libNat else if i = 1 then libBool else if i = 2 then libTree else if i = 3 then libFalse else if i = 4 then libBig else libBox
def libNo (i : Nat) : Int := ([0, 9, 12, 13, 14, 16] : List Int).getD i 0
theorem known_at {i : Nat} (hi : i < 6) (w : World) : Calls Tryz.prog 69 #[.int .i64 (libNo i)] w (DRes (libAt i) w) := by
  have e : i = 0 ∨ i = 1 ∨ i = 2 ∨ i = 3 ∨ i = 4 ∨ i = 5 := by omega
  rcases e with rfl | rfl | rfl | rfl | rfl | rfl
  · exact known_libNat w
  · exact known_libBool w
  · exact known_libTree w
  · exact known_libFalse w
  · exact known_libBig w
  · exact known_libBox w
/-- The data type that these bytes draw. -/
def dataOf (l : List UInt8) : Dc := libAt (byteV l 0 (hashL l) % 6)
theorem zeroBox (w : World) : ∀ W, Below (w.alloc (.cells #[.int .i64 0, .string ⟨#[]⟩, .int .i64 0, .int .i64 0, .string ⟨#[]⟩, .string ⟨#[]⟩, .slice none 0 0] 36)).heap.size (w.alloc (.cells #[.int .i64 0, .string ⟨#[]⟩, .int .i64 0, .int .i64 0, .string ⟨#[]⟩, .string ⟨#[]⟩, .slice none 0 0] 36)) W → (W.cell? ⟨w.heap.size, 0, none⟩ = some (.int .i64 0) ∧ W.cell? ⟨w.heap.size, 1, none⟩ = some (.string ⟨#[]⟩) ∧ W.cell? ⟨w.heap.size, 2, none⟩ = some (.int .i64 0) ∧ W.cell? ⟨w.heap.size, 3, none⟩ = some (.int .i64 0) ∧ W.cell? ⟨w.heap.size, 4, none⟩ = some (.string ⟨#[]⟩) ∧ W.cell? ⟨w.heap.size, 5, none⟩ = some (.string ⟨#[]⟩) ∧ W.cell? ⟨w.heap.size, 6, none⟩ = some (.slice none 0 0)) ∧ (W.frozen? ⟨w.heap.size, 0, none⟩ = false ∧ W.frozen? ⟨w.heap.size, 1, none⟩ = false ∧ W.frozen? ⟨w.heap.size, 2, none⟩ = false ∧ W.frozen? ⟨w.heap.size, 3, none⟩ = false ∧ W.frozen? ⟨w.heap.size, 4, none⟩ = false ∧ W.frozen? ⟨w.heap.size, 5, none⟩ = false ∧ W.frozen? ⟨w.heap.size, 6, none⟩ = false) := by
  intro W hb
  have h := fun i => (hb.cell (p := ⟨w.heap.size, i, none⟩) (by simp))
  have k := fun i => (hb.frozen (p := ⟨w.heap.size, i, none⟩) (by simp))
  refine ⟨⟨(h 0).trans ?_, (h 1).trans ?_, (h 2).trans ?_, (h 3).trans ?_, (h 4).trans ?_, (h 5).trans ?_, (h 6).trans ?_⟩, (k 0).trans ?_, (k 1).trans ?_, (k 2).trans ?_, (k 3).trans ?_, (k 4).trans ?_, (k 5).trans ?_, (k 6).trans ?_⟩ <;> first | simp | simp [go_sem] | simp [World.frozen?, World.alloc]
set_option maxHeartbeats 4000000 in
theorem drawData {w : World} {v : Value} {l : List UInt8} (hl : CameB w v l) (hn : l.length ≤ 2000000) :
    Calls Tryz.prog 24 #[v] w (DRes (dataOf l) w) := by
  have hb0 := alloc_any w (.cells #[.int .i64 0, .string ⟨#[]⟩, .int .i64 0, .int .i64 0, .string ⟨#[]⟩, .string ⟨#[]⟩, .slice none 0 0] 36)
  have HB0 := Lib.hid hb0
  have hl0 := hl.below hb0
  have HL := Lib.hid hl0
  have f1 := Lib.hid (drawNewD hl0 hn)
  have HZ := Lib.hid (zeroBox w)
  have hzs : (w.alloc (.cells #[.int .i64 0, .string ⟨#[]⟩, .int .i64 0, .int .i64 0, .string ⟨#[]⟩, .string ⟨#[]⟩, .slice none 0 0] 36)).heap.size = w.heap.size + 1 := by simp
  have hi6 : byteV l 0 (hashL l) % 6 < 6 := Nat.mod_lt _ (by omega)
  have HK := Lib.hid fun W => known_at hi6 W
  have hd : Hid (dataOf l = libAt (byteV l 0 (hashL l) % 6)) := rfl
  have hp : Hid (∀ W cb b u, CurD (w.alloc (.cells #[.int .i64 0, .string ⟨#[]⟩, .int .i64 0, .int .i64 0, .string ⟨#[]⟩, .string ⟨#[]⟩, .slice none 0 0] 36)) v l cb 0 (hashL l) W → W.ownsRow b 3 1 u 6 (([0, 9, 12, 13, 14, 16] : List Int).map iv) → Calls Tryz.prog 70 #[.pointer (some ⟨cb, 0, none⟩), u] W fun e w' => e = .returned (.int .i64 (libNo (byteV l 0 (hashL l) % 6))) ∧ Below (w.alloc (.cells #[.int .i64 0, .string ⟨#[]⟩, .int .i64 0, .int .i64 0, .string ⟨#[]⟩, .string ⟨#[]⟩, .slice none 0 0] 36)).heap.size (w.alloc (.cells #[.int .i64 0, .string ⟨#[]⟩, .int .i64 0, .int .i64 0, .string ⟨#[]⟩, .string ⟨#[]⟩, .slice none 0 0] 36)) w') := fun W cb b u hc hu => drawPickInt HL.out hc hn hu (by decide) (by decide)
  rw [← hd.out] at HK
  generalize libNo (byteV l 0 (hashL l) % 6) = no at HK hp
  generalize dataOf l = d at HK ⊢
  unfold DRes at HK
  obtain ⟨kd, nm, ps, fl, ty, vl, cs⟩ := d
  have hval : ∀ u, Dc.val ⟨kd, nm, ps, fl, ty, vl, cs⟩ u = .agg #[.int .i64 kd, .string ⟨nm.toArray⟩, .int .i64 ps, .int .i64 fl, .string ⟨ty.toArray⟩, .string ⟨vl.toArray⟩, u] := fun u => rfl
  simp only [hval] at HK
  obtain ⟨a0, cap, _, _, rfl, _⟩ := id hl
  clear hl hl0 hb0 hi6 hd HL
  go_enter Tryz.func24, Tryz.ntmps24
  go_wp2_with fail
  (with_reducible refine f1.out.mono ?_); rintro e w1 ⟨cb, rfl, hc1⟩
  have hcb := hc1.1
  have hrow := World.ownsRow_lit (base := 0) (e := 3) (size := 1) w1 #[.int .i64 0, .int .i64 9, .int .i64 12, .int .i64 13, .int .i64 14, .int .i64 16] 6 (Nat.zero_le _) (by decide) (by simp)
  have hc2 := hc1.below (alloc_any w1 (.cells #[.int .i64 0, .int .i64 9, .int .i64 12, .int .i64 13, .int .i64 14, .int .i64 16] 3))
  have f2 := Lib.hid (hp.out _ _ _ _ hc2 hrow)
  clear hc1 hc2 hcb hrow f1 hp
  go_wp2_with fail
  (with_reducible refine f2.out.mono ?_); rintro e w2 ⟨rfl, hb2⟩
  have HB2 := Lib.hid (HB0.out.trans (hb2.mono HB0.out.size))
  have HZ2 := Lib.hid hb2
  have hlt2 : w.heap.size < w2.heap.size := by have := hb2.size; rw [hzs] at this; omega
  clear hb2 f2
  go_wp2_with fail
  (with_reducible refine (HK.out _).mono ?_); rintro e w3 ⟨u, rfl, hu, hb3⟩
  obtain ⟨⟨r0, r1, r2, r3, r4, r5, r6⟩, z0, z1, z2, z3, z4, z5, z6⟩ := HZ.out _ (HZ2.out.trans (hb3.mono HZ2.out.size))
  have HU := Lib.hid hu
  have HB := Lib.hid (HB2.out.trans (hb3.mono HB2.out.size))
  obtain ⟨ua, uc, rfl⟩ : ∃ a c, u = .slice a cs.length c := by
    rcases hu.2 with ⟨rfl, e⟩ | ⟨g, cap', cur, rfl, _⟩
    · exact ⟨_, _, by rw [← e]⟩
    · exact ⟨_, _, rfl⟩
  clear hu hb3 HK HZ HZ2
  have HR := Lib.hid (own_setD (own_setD (own_setD (own_setD (own_setD (own_setD (own_setD HU.out w.heap.size 0 (.int .i64 kd) (by omega)) w.heap.size 1 (.string ⟨nm.toArray⟩) (by omega)) w.heap.size 2 (.int .i64 ps) (by omega)) w.heap.size 3 (.int .i64 fl) (by omega)) w.heap.size 4 (.string ⟨ty.toArray⟩) (by omega)) w.heap.size 5 (.string ⟨vl.toArray⟩) (by omega)) w.heap.size 6 (.slice ua cs.length uc) (by omega))
  have HBF := Lib.hid (((((((HB.out.setCell (p := ⟨w.heap.size, 0, none⟩) (by show w.heap.size ≤ w.heap.size; omega) (.int .i64 kd)).setCell (p := ⟨w.heap.size, 1, none⟩) (by show w.heap.size ≤ w.heap.size; omega) (.string ⟨nm.toArray⟩)).setCell (p := ⟨w.heap.size, 2, none⟩) (by show w.heap.size ≤ w.heap.size; omega) (.int .i64 ps)).setCell (p := ⟨w.heap.size, 3, none⟩) (by show w.heap.size ≤ w.heap.size; omega) (.int .i64 fl)).setCell (p := ⟨w.heap.size, 4, none⟩) (by show w.heap.size ≤ w.heap.size; omega) (.string ⟨ty.toArray⟩)).setCell (p := ⟨w.heap.size, 5, none⟩) (by show w.heap.size ≤ w.heap.size; omega) (.string ⟨vl.toArray⟩)).setCell (p := ⟨w.heap.size, 6, none⟩) (by show w.heap.size ≤ w.heap.size; omega) (.slice ua cs.length uc))
  clear HU HB
  go_wp2
  exact bodyPost_ret (v := .agg #[.int .i64 kd, .string ⟨nm.toArray⟩, .int .i64 ps, .int .i64 fl, .string ⟨ty.toArray⟩, .string ⟨vl.toArray⟩, .slice ua cs.length uc]) (by simp [results, Tryz.results24, go_sem, r0, r1, r2, r3, r4, r5, r6]) rfl ⟨_, rfl, own_lower HR.out (by omega), HBF.out⟩
end Go.Proofs.YtgielbamebjjdaaGreatDoor

namespace Go.Proofs.YtgielbamebjjdaaGreatDoor
set_option maxRecDepth 100000
open Go.ChangeShapes Go.WideShapes Go.ChangeAt Go.RowKit
set_option linter.unusedSimpArgs false
set_option linter.unusedVariables false

theorem small_of {d : Dc} (h1 : d.name.length ≤ 1048576) (h2 : d.type.length ≤ 1048576) (h3 : d.value.length ≤ 1048576) (h4 : d.ctors.length ≤ 1048576) (h5 : ∀ c ∈ d.ctors, c.1.length ≤ 1048576 ∧ c.2.length ≤ 1048576) : d.Small := ⟨h1, h2, h3, h4, h5⟩
theorem dataPJ (l : List UInt8) : (dataOf l).Small ∧ ∃ lv, LibP (dataOf l) lv ∧ largeOk (dataOf l) = decide ((dataOf l).type ≠ [115, 122, 46]) := by
  unfold dataOf libAt
  split
  · exact ⟨small_of (by decide) (by decide) (by decide) (by decide) (by decide), _, libNatP, by rw [libNatL]; decide⟩
  · split
    · exact ⟨small_of (by decide) (by decide) (by decide) (by decide) (by decide), _, libBoolP, by rw [libBoolL]; decide⟩
    · split
      · exact ⟨small_of (by decide) (by decide) (by decide) (by decide) (by decide), _, libTreeP, by rw [libTreeL]; decide⟩
      · split
        · exact ⟨small_of (by decide) (by decide) (by decide) (by decide) (by decide), _, libFalseP, by rw [libFalseL]; decide⟩
        · split
          · exact ⟨small_of (by decide) (by decide) (by decide) (by decide) (by decide), _, libBigP, by rw [libBigL]; decide⟩
          · exact ⟨small_of (by decide) (by decide) (by decide) (by decide) (by decide), _, libBoxP, by rw [libBoxL]; decide⟩
set_option maxHeartbeats 32000000 in
theorem lawShapes {v : Value} {l : List UInt8} (w : World) (hl : CameB w v l) (hm : l.length ≤ maxLen)
    (hSh : ∀ (d : Dc) (k : Int), d.Small → (-9223372036854775808 ≤ d.flags ∧ d.flags ≤ 9223372036854775807) → ∀ (W : World) (b : Nat) (u : Value), Below w.heap.size w W → W.ownsRow b 42 2 u d.ctors.length (flatC d.ctors) → Calls Tryz.prog 25 #[d.val u, .int .i64 k] W (IRes (shapesOf d k) W))
    (hRo : ∀ (d : Dc) (k : Int), d.Small → (-9223372036854775808 ≤ d.flags ∧ d.flags ≤ 9223372036854775807) → ∀ (W : World) (b : Nat) (u : Value), Below w.heap.size w W → W.ownsRow b 42 2 u d.ctors.length (flatC d.ctors) → Calls Tryz.prog 26 #[d.val u, .int .i64 k] W fun e w' => e = .returned (.bool (resultOk d k)) ∧ Below W.heap.size W w')
    (hSc : ∀ (d : Dc), d.Small → (-9223372036854775808 ≤ d.flags ∧ d.flags ≤ 9223372036854775807) → ∀ (W : World) (b : Nat) (u : Value), Below w.heap.size w W → W.ownsRow b 42 2 u d.ctors.length (flatC d.ctors) → Calls Tryz.prog 28 #[d.val u] W fun e w' => e = .returned (.string ⟨(selfConst d).toArray⟩) ∧ Below W.heap.size W w')
    (hPo : ∀ (d : Dc), d.Small → (-9223372036854775808 ≤ d.flags ∧ d.flags ≤ 9223372036854775807) → ∀ (W : World) (b : Nat) (u : Value), Below w.heap.size w W → W.ownsRow b 42 2 u d.ctors.length (flatC d.ctors) → Calls Tryz.prog 29 #[d.val u] W fun e w' => e = .returned (.bool (positive d)) ∧ Below W.heap.size W w')
    (hLg : ∀ (d : Dc), d.Small → (-9223372036854775808 ≤ d.flags ∧ d.flags ≤ 9223372036854775807) → ∀ (W : World) (b : Nat) (u : Value), Below w.heap.size w W → W.ownsRow b 42 2 u d.ctors.length (flatC d.ctors) → Calls Tryz.prog 30 #[d.val u] W fun e w' => e = .returned (.bool (largeOk d)) ∧ Below W.heap.size W w')
    (hAs : ∀ (s n t : ByteArray), s.size ≤ 1048576 → n.size ≤ 1048576 → t.size ≤ 1048576 → ∀ W, Below w.heap.size w W → Calls Tryz.prog 31 #[.string s, .string n, .string t] W fun e w' => e = .returned (.int .i64 (argShape s.data.toList n.data.toList t.data.toList)) ∧ Below W.heap.size W w') :
    Calls Tryz.prog 4 #[v] w fun e w' => e = .returned (.bool true) ∧ Below w.heap.size w w' := by
  have f0 := Lib.hid (bigB hl hm)
  by_cases hbig : 1048576 < l.length
  · rw [decide_eq_true hbig] at f0
    obtain ⟨a0, cap, _, _, rfl, _⟩ := hl
    clear hSh hRo hSc hPo hLg hAs
    go_enter Tryz.func4, Tryz.ntmps4
    go_wp2_with fail
    (with_reducible refine f0.out.mono ?_); rintro e w1 ⟨rfl, rfl⟩
    go_wp2
    go_ret
    exact ⟨rfl, Below.refl _ _⟩
  rw [decide_eq_false hbig] at f0
  obtain ⟨hsm, lv, HP, HLg⟩ := dataPJ l
  have f1 := Lib.hid fun W (hb : Below w.heap.size w W) => drawData (hl.below hb) (by omega)
  generalize dataOf l = d at hsm HP HLg f1
  -- what the program's functions answer at this data type
  have gSh := Lib.hid fun (k : Nat) => hSh d (k : Int) hsm HP.rng
  have gRo := Lib.hid fun (k : Nat) (hk : k < d.ctors.length) => hRo d (k : Int) hsm HP.rng
  have gRt := Lib.hid fun (k : Nat) (hk : k < d.ctors.length) => HP.result hk
  have gOv := Lib.hid (hRo d (d.ctors.length : Int) hsm HP.rng)
  have gSc := Lib.hid (hSc d hsm HP.rng)
  have gPo := Lib.hid (hPo d hsm HP.rng)
  have gLg := Lib.hid (hLg d hsm HP.rng)
  have gSp := Lib.hid fun (k : Nat) (hk : k < d.ctors.length) => HP.shapes hk
  rw [HP.over] at gOv
  rw [HP.pos] at gPo
  rw [HLg] at gLg
  have s1 := hsm.name
  have s4 := hsm.ctors
  have s5 := Lib.hid hsm.each
  have hsl : (selfConst d).length ≤ 100 := by rw [HP.self]; exact HP.selfLen
  have e1 := Lib.hid HP.shSelf
  have e2 := Lib.hid HP.shBad
  have e0 := Lib.hid HP.shNone
  have gAs := Lib.hid hAs
  clear hSh hRo hSc hPo hLg hAs HP HLg hsm
  unfold DRes at f1
  generalize selfConst d = sf at gSc hsl e0 e1 e2
  obtain ⟨kd, nm, ps, fl, ty, vl, cs⟩ := d
  have hval : ∀ u, Dc.val ⟨kd, nm, ps, fl, ty, vl, cs⟩ u = .agg #[.int .i64 kd, .string ⟨nm.toArray⟩, .int .i64 ps, .int .i64 fl, .string ⟨ty.toArray⟩, .string ⟨vl.toArray⟩, u] := fun u => rfl
  simp only [hval] at f1 gSh gRo gOv gSc gPo gLg
  simp only at s1 s4 s5 e0 e1 e2 gLg gSh gRo gRt gOv gSc gPo gSp f1
  have znm := size_sv nm
  have zsf := size_sv sf
  have zp : ((⟨#[112]⟩ : ByteArray) ++ (⟨sf.toArray⟩ : ByteArray)).size = 1 + sf.length := by rw [ByteArray.size_append, zsf]; rfl
  have gA1 := Lib.hid (gAs.out ⟨sf.toArray⟩ ⟨nm.toArray⟩ ⟨sf.toArray⟩ (by omega) (by omega) (by omega))
  have gA2 := Lib.hid (gAs.out ⟨sf.toArray⟩ ⟨nm.toArray⟩ ((⟨#[112]⟩ : ByteArray) ++ (⟨sf.toArray⟩ : ByteArray) ++ (⟨sf.toArray⟩ : ByteArray)) (by omega) (by omega) (by rw [ByteArray.size_append, zp, zsf]; omega))
  have gA0 := Lib.hid (gAs.out ⟨sf.toArray⟩ ⟨nm.toArray⟩ ⟨#[115, 122, 46]⟩ (by omega) (by omega) (by decide))
  simp only [show ((⟨#[112]⟩ : ByteArray) ++ (⟨sf.toArray⟩ : ByteArray) ++ (⟨sf.toArray⟩ : ByteArray)).data.toList = 112 :: (sf ++ sf) by simp] at gA2
  simp only at gA0 gA1 gA2
  rw [e0.out] at gA0
  rw [e1.out] at gA1
  rw [e2.out] at gA2
  obtain ⟨bt, hbt⟩ : ∃ bt : Bool, decide (ty ≠ [115, 122, 46]) = bt := ⟨_, rfl⟩
  have dty : (ty == [115, 122, 46]) = !bt := by
    rw [← hbt]
    by_cases h : ty = [115, 122, 46]
    · simp [h]
    · simp [h]
  rw [hbt] at gLg
  have HX := Lib.hid fun w u => anyBox (w := w) (kd := kd) (ps := ps) (fl := fl) (nm := nm) (ty := ty) (vl := vl) (u := u) (T := 36)
  obtain ⟨a0, cap, _, _, rfl, _⟩ := id hl
  clear hl hbt e0 e1 e2 gAs hval
  go_enter Tryz.func4, Tryz.ntmps4
  go_wp2_with fail
  (with_reducible refine f0.out.mono ?_); rintro e w0 ⟨rfl, rfl⟩
  clear f0
  go_wp2_with fail
  (with_reducible refine (f1.out _ (Below.refl _ _)).mono ?_); rintro e w1 ⟨u1, rfl, hu1, hb1⟩
  obtain ⟨ua, uc, rfl⟩ := row_sliceD hu1
  have bx1 := alloc_any w1 (.cells #[.int .i64 kd, .string ⟨nm.toArray⟩, .int .i64 ps, .int .i64 fl, .string ⟨ty.toArray⟩, .string ⟨vl.toArray⟩, .slice ua cs.length uc] 36)
  have hu1a := own_below hu1 bx1
  have hb1a := hb1.trans (bx1.mono hb1.size)
  have HX1 := Lib.hid (HX.out w1 (.slice ua cs.length uc))
  have hk1 := Below.refl (w1.alloc (.cells #[.int .i64 kd, .string ⟨nm.toArray⟩, .int .i64 ps, .int .i64 fl, .string ⟨ty.toArray⟩, .string ⟨vl.toArray⟩, .slice ua cs.length uc] 36)).heap.size (w1.alloc (.cells #[.int .i64 kd, .string ⟨nm.toArray⟩, .int .i64 ps, .int .i64 fl, .string ⟨ty.toArray⟩, .string ⟨vl.toArray⟩, .slice ua cs.length uc] 36))
  have HB1 := Lib.hid hb1a
  have HU1 := Lib.hid hu1a
  have HK1 := Lib.hid hk1
  clear hu1 hb1 bx1 hu1a hb1a hk1
  go_wp2_with fail
  (with_reducible refine (f1.out _ HB1.out).mono ?_); rintro e w2 ⟨u2, rfl, hu2, hb2⟩
  obtain ⟨va, vc, rfl⟩ := row_sliceD hu2
  have bx2 := alloc_any w2 (.cells #[.int .i64 kd, .string ⟨nm.toArray⟩, .int .i64 ps, .int .i64 fl, .string ⟨ty.toArray⟩, .string ⟨vl.toArray⟩, .slice va cs.length vc] 36)
  have HB2 := Lib.hid ((HB1.out.trans (hb2.mono HB1.out.size)).trans (bx2.mono (HB1.out.trans (hb2.mono HB1.out.size)).size))
  have HU12 := Lib.hid (own_below (own_below HU1.out hb2) bx2)
  have HU2 := Lib.hid (own_below hu2 bx2)
  have hk12 := hb2.trans (bx2.mono hb2.size)
  have HK12 := Lib.hid (HK1.out.trans hk12)
  have HX2 := Lib.hid (HX.out w2 (.slice va cs.length vc))
  have HK2 := Lib.hid (Below.refl (w2.alloc (.cells #[.int .i64 kd, .string ⟨nm.toArray⟩, .int .i64 ps, .int .i64 fl, .string ⟨ty.toArray⟩, .string ⟨vl.toArray⟩, .slice va cs.length vc] 36)).heap.size (w2.alloc (.cells #[.int .i64 kd, .string ⟨nm.toArray⟩, .int .i64 ps, .int .i64 fl, .string ⟨ty.toArray⟩, .string ⟨vl.toArray⟩, .slice va cs.length vc] 36)))
  clear hu2 hb2 bx2 hk12 HU1 HK1 HB1 f1 HX
  obtain ⟨l0, l1, l2, l3, l4, l5, l6⟩ := HX2.out _ HK2.out
  go_wp2
  clear l0 l1 l2 l3 l4 l5 l6
  generalize hWB : (w2.alloc (.cells #[.int .i64 kd, .string ⟨nm.toArray⟩, .int .i64 ps, .int .i64 fl, .string ⟨ty.toArray⟩, .string ⟨vl.toArray⟩, .slice va cs.length vc] 36)) = W0 at HK2 ⊢
  rw [hWB] at HB2 HU12 HU2 HK12 HX2
  clear hWB
  have HA1 : Hid (∀ W, Below W0.heap.size W0 W → W.cell? ⟨w1.heap.size, 0, none⟩ = some (.int .i64 kd) ∧ W.cell? ⟨w1.heap.size, 1, none⟩ = some (.string ⟨nm.toArray⟩) ∧ W.cell? ⟨w1.heap.size, 2, none⟩ = some (.int .i64 ps) ∧ W.cell? ⟨w1.heap.size, 3, none⟩ = some (.int .i64 fl) ∧ W.cell? ⟨w1.heap.size, 4, none⟩ = some (.string ⟨ty.toArray⟩) ∧ W.cell? ⟨w1.heap.size, 5, none⟩ = some (.string ⟨vl.toArray⟩) ∧ W.cell? ⟨w1.heap.size, 6, none⟩ = some (.slice ua cs.length uc)) := fun W hb => HX1.out W (HK12.out.trans (hb.mono HK12.out.size))
  have HA2 : Hid (∀ W, Below W0.heap.size W0 W → W.cell? ⟨w2.heap.size, 0, none⟩ = some (.int .i64 kd) ∧ W.cell? ⟨w2.heap.size, 1, none⟩ = some (.string ⟨nm.toArray⟩) ∧ W.cell? ⟨w2.heap.size, 2, none⟩ = some (.int .i64 ps) ∧ W.cell? ⟨w2.heap.size, 3, none⟩ = some (.int .i64 fl) ∧ W.cell? ⟨w2.heap.size, 4, none⟩ = some (.string ⟨ty.toArray⟩) ∧ W.cell? ⟨w2.heap.size, 5, none⟩ = some (.string ⟨vl.toArray⟩) ∧ W.cell? ⟨w2.heap.size, 6, none⟩ = some (.slice va cs.length vc)) := fun W hb => HX2.out W hb
  clear HX1 HX2 HK12
  go_loopw [5] (fun i wr => ∃ k : Nat, k ≤ cs.length ∧ i = .int .i64 k ∧ Hid (Below W0.heap.size W0 wr)) (fun i _ => cs.length - (intOf i).toNat)
  case atStart => exact ⟨0, Nat.zero_le _, rfl, HK2.out⟩
  case round =>
    obtain ⟨k, hk, rfl, HW⟩ := hrel
    clear HK2
    obtain ⟨c0, c1, c2, c3, c4, c5, c6⟩ := HA1.out _ HW.out
    obtain ⟨d0, d1, d2, d3, d4, d5, d6⟩ := HA2.out _ HW.out
    have HBw := Lib.hid (HB2.out.trans (HW.out.mono HB2.out.size))
    by_cases hlt : k < cs.length
    · have hres := gRt.out k hlt
      have r1 := Lib.hid (gSh.out k wr _ _ HBw.out (own_below HU12.out HW.out))
      have r2 := gRo.out k hlt
      rw [hres] at r2
      have R2 := Lib.hid r2
      obtain ⟨hspl, hsp⟩ := gSp.out k hlt
      have hrow := own_below HU2.out HW.out
      obtain ⟨g2, cap2, eg2, _, hg2⟩ := hrow.form (by omega)
      cases eg2
      obtain ⟨fa, fb⟩ := flatC_at hlt
      have y1 := (hrow.cellAt (k * 2 + 1) (by omega)).trans fb
      unfold sv at y1
      have hel := (s5.out _ (List.getElem_mem hlt)).2
      have q1 : (0 : Int) ≤ (k : Int) := by omega
      have q2 : (k : Int) < (cs.length : Int) := by omega
      clear fa fb hrow r2 hres
      unfold IRes at r1
      generalize cs[k].2 = t at y1 hel hspl
      have f5 := Lib.hid fun W => specDomains ⟨t.toArray⟩ W (by rw [size_sv]; unfold maxLen; omega)
      simp only at f5
      unfold LRes' at f5
      have hdl := domainsOf_len t
      generalize domainsOf t = dl at f5 hspl hdl
      generalize shapesOf ⟨kd, nm, ps, fl, ty, vl, cs⟩ (k : Int) = sl at r1 hspl hsp
      go_wp2_with fail
      (with_reducible refine r1.out.mono ?_); rintro e w5 ⟨u5, rfl, hu5, hb5⟩
      obtain ⟨sa, sc, rfl⟩ := own_sliceI hu5
      have HW5 := Lib.hid (HW.out.trans (hb5.mono HW.out.size))
      have y5 := (hb5.cell (p := ⟨g2, k * 2 + 1, none⟩) hg2).trans y1
      have hg5 : g2 < w5.heap.size := Nat.lt_of_lt_of_le hg2 hb5.size
      have HS5 := Lib.hid hu5
      have HB5 := Lib.hid (HB2.out.trans (HW5.out.mono HB2.out.size))
      have R3 := Lib.hid (R2.out _ _ _ HB5.out (own_below HU12.out HW5.out))
      clear hu5 hb5 r1 y1 hg2 R2 c0 c1 c2 c3 c4 c5 c6 d0 d1 d2 d3 d4 d5 d6
      obtain ⟨c0, c1, c2, c3, c4, c5, c6⟩ := HA1.out _ HW5.out
      go_wp2_with fail
      (with_reducible refine R3.out.mono ?_); rintro e w6 ⟨rfl, hb6⟩
      have HW6 := Lib.hid (HW5.out.trans (hb6.mono HW5.out.size))
      have HS6 := Lib.hid (own_below HS5.out hb6)
      have y6 := (hb6.cell (p := ⟨g2, k * 2 + 1, none⟩) hg5).trans y5
      clear hb6 R3 y5 HS5 c0 c1 c2 c3 c4 c5 c6
      obtain ⟨d0, d1, d2, d3, d4, d5, d6⟩ := HA2.out _ HW6.out
      go_wp2_with fail
      (with_reducible refine (f5.out _).mono ?_); rintro e w7 ⟨u7, rfl, hu7, hb7⟩
      obtain ⟨ta, tc, rfl⟩ := own_sliceV hu7
      have HW7 := Lib.hid (HW6.out.trans (hb7.mono HW6.out.size))
      have HS7 := Lib.hid (own_below HS6.out hb7)
      clear hu7 hb7 f5 HS6 y6 d0 d1 d2 d3 d4 d5 d6
      rw [← hspl]
      go_wp2
      go_loopw [7] (fun i wr => ∃ m : Nat, m ≤ sl.length ∧ i = .int .i64 m ∧ wr = w7) (fun i _ => sl.length - (intOf i).toNat)
      case atStart => exact ⟨0, Nat.zero_le _, rfl, rfl⟩
      case round =>
        obtain ⟨m, hm', rfl, rfl⟩ := hrel
        by_cases hlm : m < sl.length
        · obtain ⟨g3, cap3, eg3, _, _⟩ := HS7.out.form (by omega)
          cases eg3
          have cc := HS7.out.cellAt m (by omega)
          have ex : (sl.map iv)[m]? = some (iv sl[m]) := by simp [hlm]
          rw [ex] at cc
          unfold iv at cc
          have hx := hsp sl[m] (List.getElem_mem hlm)
          have p1 : (0 : Int) ≤ (m : Int) := by omega
          have p2 : (m : Int) < (sl.length : Int) := by omega
          have hsl2 : sl.length ≤ 2000 := by omega
          clear ex hsp
          generalize sl[m] = x at cc hx
          rcases hx with rfl | rfl
          all_goals
            go_wp2
            go_roundw
            case rel => exact ⟨m + 1, by omega, by go_num, by trivial⟩
            case measure => simp [intOf]; omega
        · obtain rfl : m = sl.length := by omega
          clear HS7 hsp
          go_wp2
          go_roundw
          case rel => exact ⟨k + 1, by omega, by go_num, HW7.out⟩
          case measure => simp [intOf]; omega
    · obtain rfl : k = cs.length := by omega
      clear gSh gRo gRt gSp
      have r1 := Lib.hid (gSc.out _ _ _ HBw.out (own_below HU12.out HW.out))
      clear gSc
      go_wp2_with fail
      (with_reducible refine r1.out.mono ?_); rintro e w5 ⟨rfl, hb5⟩
      have HW5 := Lib.hid (HW.out.trans (hb5.mono HW.out.size))
      clear hb5 r1 c0 c1 c2 c3 c4 c5 c6 d0 d1 d2 d3 d4 d5 d6 HBw HW
      have hS5 := And.intro (HA1.out _ HW5.out) (HA2.out _ HW5.out)
      go_wp2
      refine wp_region_held_drew (S := (fun w' => (w'.cell? ⟨w1.heap.size, 0, none⟩ = some (.int .i64 kd) ∧ w'.cell? ⟨w1.heap.size, 1, none⟩ = some (.string ⟨nm.toArray⟩) ∧ w'.cell? ⟨w1.heap.size, 2, none⟩ = some (.int .i64 ps) ∧ w'.cell? ⟨w1.heap.size, 3, none⟩ = some (.int .i64 fl) ∧ w'.cell? ⟨w1.heap.size, 4, none⟩ = some (.string ⟨ty.toArray⟩) ∧ w'.cell? ⟨w1.heap.size, 5, none⟩ = some (.string ⟨vl.toArray⟩) ∧ w'.cell? ⟨w1.heap.size, 6, none⟩ = some (.slice ua cs.length uc)) ∧ (w'.cell? ⟨w2.heap.size, 0, none⟩ = some (.int .i64 kd) ∧ w'.cell? ⟨w2.heap.size, 1, none⟩ = some (.string ⟨nm.toArray⟩) ∧ w'.cell? ⟨w2.heap.size, 2, none⟩ = some (.int .i64 ps) ∧ w'.cell? ⟨w2.heap.size, 3, none⟩ = some (.int .i64 fl) ∧ w'.cell? ⟨w2.heap.size, 4, none⟩ = some (.string ⟨ty.toArray⟩) ∧ w'.cell? ⟨w2.heap.size, 5, none⟩ = some (.string ⟨vl.toArray⟩) ∧ w'.cell? ⟨w2.heap.size, 6, none⟩ = some (.slice va cs.length vc)))) (by kernel_rfl) hS5 (fun hS0 => ?_)
      have HWdw5 := Lib.hid HW5.out.drew
      refine heldW 0 62 (.agg #[.int .i64 kd, .string ⟨nm.toArray⟩, .int .i64 ps, .int .i64 fl, .string ⟨ty.toArray⟩, .string ⟨vl.toArray⟩, .slice ua cs.length uc]) rfl rfl (by kernel_rfl) (by kernel_rfl) (by kernel_rfl) (fun _ _ _ h => h) (by rfl) hS0 (fun W hSW => ?_) ?_
      · (try dsimp only at hSW); (try obtain ⟨hSA, hSB⟩ := hSW); go_simp
      simp only [Act.put, List.setIfInBounds_toArray, List.set_cons_zero, List.set_cons_succ]
      refine wpAnyH_ready (rs := [1]) (by kernel_rfl) (by simp) (AllReadyH.cons rfl (fun K hK => ?_) AllReadyH.nil)
      rw [if_pos (by rfl)]
      go_simp
      (with_reducible refine (gPo.out _ _ _ (HB2.out.trans (HWdw5.out.mono HB2.out.size)) (own_below HU12.out HWdw5.out)).mono ?_); rintro e w6 ⟨rfl, hbw6⟩
      have HWw6 := Lib.hid (HWdw5.out.trans (hbw6.mono HWdw5.out.size))
      have HWdw6 := HWw6
      refine hK.out _ _ ⟨HA1.out _ HWw6.out, HA2.out _ HWw6.out⟩ (fun hSw6 => ?_)
      clear hK K hbw6 hS0
      try simp only [Act.put, List.setIfInBounds_toArray, List.set_cons_zero, List.set_cons_succ]
      refine heldW 2 64 (.bool true) rfl rfl (by kernel_rfl) (by kernel_rfl) (by kernel_rfl) (fun _ _ _ h => h) (by rfl) hSw6 (fun W hSW => ?_) ?_
      · (try dsimp only at hSW); (try obtain ⟨hSA, hSB⟩ := hSW); go_simp
      simp only [Act.put, List.setIfInBounds_toArray, List.set_cons_zero, List.set_cons_succ]
      refine heldW 3 65 (.agg #[.int .i64 kd, .string ⟨nm.toArray⟩, .int .i64 ps, .int .i64 fl, .string ⟨ty.toArray⟩, .string ⟨vl.toArray⟩, .slice ua cs.length uc]) rfl rfl (by kernel_rfl) (by kernel_rfl) (by kernel_rfl) (fun _ _ _ h => h) (by rfl) hSw6 (fun W hSW => ?_) ?_
      · (try dsimp only at hSW); (try obtain ⟨hSA, hSB⟩ := hSW); go_simp
      simp only [Act.put, List.setIfInBounds_toArray, List.set_cons_zero, List.set_cons_succ]
      refine heldW 4 66 (.pointer (some ⟨w2.heap.size, 6, none⟩)) rfl rfl (by kernel_rfl) (by kernel_rfl) (by kernel_rfl) (fun _ _ _ h => h) (by rfl) hSw6 (fun W hSW => ?_) ?_
      · (try dsimp only at hSW); (try obtain ⟨hSA, hSB⟩ := hSW); go_simp
      simp only [Act.put, List.setIfInBounds_toArray, List.set_cons_zero, List.set_cons_succ]
      refine heldW 5 67 (.slice va cs.length vc) rfl rfl (by kernel_rfl) (by kernel_rfl) (by kernel_rfl) (fun _ _ _ h => h) (by rfl) hSw6 (fun W hSW => ?_) ?_
      · (try dsimp only at hSW); (try obtain ⟨hSA, hSB⟩ := hSW); go_simp
      simp only [Act.put, List.setIfInBounds_toArray, List.set_cons_zero, List.set_cons_succ]
      refine heldW 6 68 (.int .i64 cs.length) rfl rfl (by kernel_rfl) (by kernel_rfl) (by kernel_rfl) (fun _ _ _ h => h) (by rfl) hSw6 (fun W hSW => ?_) ?_
      · (try dsimp only at hSW); (try obtain ⟨hSA, hSB⟩ := hSW); go_simp
      simp only [Act.put, List.setIfInBounds_toArray, List.set_cons_zero, List.set_cons_succ]
      refine wpAnyH_ready (rs := [7]) (by kernel_rfl) (by simp) (AllReadyH.cons rfl (fun K hK => ?_) AllReadyH.nil)
      rw [if_pos (by rfl)]
      go_simp
      (with_reducible refine (gOv.out _ _ _ (HB2.out.trans (HWdw6.out.mono HB2.out.size)) (own_below HU12.out HWdw6.out)).mono ?_); rintro e w7 ⟨rfl, hbw7⟩
      have HWw7 := Lib.hid (HWdw6.out.trans (hbw7.mono HWdw6.out.size))
      have HWdw7 := HWw7
      refine hK.out _ _ ⟨HA1.out _ HWw7.out, HA2.out _ HWw7.out⟩ (fun hSw7 => ?_)
      clear hK K hbw7 hSw6
      try simp only [Act.put, List.setIfInBounds_toArray, List.set_cons_zero, List.set_cons_succ]
      refine heldW 8 70 (.bool true) rfl rfl (by kernel_rfl) (by kernel_rfl) (by kernel_rfl) (fun _ _ _ h => h) (by rfl) hSw7 (fun W hSW => ?_) ?_
      · (try dsimp only at hSW); (try obtain ⟨hSA, hSB⟩ := hSW); go_simp
      simp only [Act.put, List.setIfInBounds_toArray, List.set_cons_zero, List.set_cons_succ]
      refine heldW 9 71 (.bool true) rfl rfl (by kernel_rfl) (by kernel_rfl) (by kernel_rfl) (fun _ _ _ h => h) (by rfl) hSw7 (fun W hSW => ?_) ?_
      · (try dsimp only at hSW); (try obtain ⟨hSA, hSB⟩ := hSW); go_simp
      simp only [Act.put, List.setIfInBounds_toArray, List.set_cons_zero, List.set_cons_succ]
      refine heldW 10 72 (.bool true) rfl rfl (by kernel_rfl) (by kernel_rfl) (by kernel_rfl) (fun _ _ _ h => h) (by rfl) hSw7 (fun W hSW => ?_) ?_
      · (try dsimp only at hSW); (try obtain ⟨hSA, hSB⟩ := hSW); go_simp
      simp only [Act.put, List.setIfInBounds_toArray, List.set_cons_zero, List.set_cons_succ]
      refine heldW 11 73 (.agg #[.int .i64 kd, .string ⟨nm.toArray⟩, .int .i64 ps, .int .i64 fl, .string ⟨ty.toArray⟩, .string ⟨vl.toArray⟩, .slice ua cs.length uc]) rfl rfl (by kernel_rfl) (by kernel_rfl) (by kernel_rfl) (fun _ _ _ h => h) (by rfl) hSw7 (fun W hSW => ?_) ?_
      · (try dsimp only at hSW); (try obtain ⟨hSA, hSB⟩ := hSW); go_simp
      simp only [Act.put, List.setIfInBounds_toArray, List.set_cons_zero, List.set_cons_succ]
      refine heldW 13 75 (.pointer (some ⟨w2.heap.size, 4, none⟩)) rfl rfl (by kernel_rfl) (by kernel_rfl) (by kernel_rfl) (fun _ _ _ h => h) (by rfl) hSw7 (fun W hSW => ?_) ?_
      · (try dsimp only at hSW); (try obtain ⟨hSA, hSB⟩ := hSW); go_simp
      simp only [Act.put, List.setIfInBounds_toArray, List.set_cons_zero, List.set_cons_succ]
      refine heldW 14 76 (.string ⟨ty.toArray⟩) rfl rfl (by kernel_rfl) (by kernel_rfl) (by kernel_rfl) (fun _ _ _ h => h) (by rfl) hSw7 (fun W hSW => ?_) ?_
      · (try dsimp only at hSW); (try obtain ⟨hSA, hSB⟩ := hSW); go_simp
      simp only [Act.put, List.setIfInBounds_toArray, List.set_cons_zero, List.set_cons_succ]
      refine heldW 15 77 (.bool bt) rfl rfl (by kernel_rfl) (by kernel_rfl) (by kernel_rfl) (fun _ _ _ h => h) (by rfl) hSw7 (fun W hSW => ?_) ?_
      · (try dsimp only at hSW); (try obtain ⟨hSA, hSB⟩ := hSW); go_simp
      simp only [Act.put, List.setIfInBounds_toArray, List.set_cons_zero, List.set_cons_succ]
      refine wpAnyH_ready (rs := [12]) (by kernel_rfl) (by simp) (AllReadyH.cons rfl (fun K hK => ?_) AllReadyH.nil)
      rw [if_pos (by rfl)]
      go_simp
      (with_reducible refine (gLg.out _ _ _ (HB2.out.trans (HWdw7.out.mono HB2.out.size)) (own_below HU12.out HWdw7.out)).mono ?_); rintro e w8 ⟨rfl, hbw8⟩
      have HWw8 := Lib.hid (HWdw7.out.trans (hbw8.mono HWdw7.out.size))
      have HWdw8 := HWw8
      refine hK.out _ _ ⟨HA1.out _ HWw8.out, HA2.out _ HWw8.out⟩ (fun hSw8 => ?_)
      clear hK K hbw8 hSw7
      try simp only [Act.put, List.setIfInBounds_toArray, List.set_cons_zero, List.set_cons_succ]
      refine heldW 16 78 (.bool true) rfl rfl (by kernel_rfl) (by kernel_rfl) (by kernel_rfl) (fun _ _ _ h => h) (by rfl) hSw8 (fun W hSW => ?_) ?_
      · (try dsimp only at hSW); (try obtain ⟨hSA, hSB⟩ := hSW); go_simp
      simp only [Act.put, List.setIfInBounds_toArray, List.set_cons_zero, List.set_cons_succ]
      refine heldW 17 79 (.bool true) rfl rfl (by kernel_rfl) (by kernel_rfl) (by kernel_rfl) (fun _ _ _ h => h) (by rfl) hSw8 (fun W hSW => ?_) ?_
      · (try dsimp only at hSW); (try obtain ⟨hSA, hSB⟩ := hSW); go_simp
      simp only [Act.put, List.setIfInBounds_toArray, List.set_cons_zero, List.set_cons_succ]
      refine heldW 18 80 (.bool true) rfl rfl (by kernel_rfl) (by kernel_rfl) (by kernel_rfl) (fun _ _ _ h => h) (by rfl) hSw8 (fun W hSW => ?_) ?_
      · (try dsimp only at hSW); (try obtain ⟨hSA, hSB⟩ := hSW); go_simp
      simp only [Act.put, List.setIfInBounds_toArray, List.set_cons_zero, List.set_cons_succ]
      refine heldW 19 81 (.string ⟨sf.toArray⟩) rfl rfl (by kernel_rfl) (by kernel_rfl) (by kernel_rfl) (fun _ _ _ h => h) (by rfl) hSw8 (fun W hSW => ?_) ?_
      · (try dsimp only at hSW); (try obtain ⟨hSA, hSB⟩ := hSW); go_simp
      simp only [Act.put, List.setIfInBounds_toArray, List.set_cons_zero, List.set_cons_succ]
      refine heldW 20 82 (.pointer (some ⟨w2.heap.size, 1, none⟩)) rfl rfl (by kernel_rfl) (by kernel_rfl) (by kernel_rfl) (fun _ _ _ h => h) (by rfl) hSw8 (fun W hSW => ?_) ?_
      · (try dsimp only at hSW); (try obtain ⟨hSA, hSB⟩ := hSW); go_simp
      simp only [Act.put, List.setIfInBounds_toArray, List.set_cons_zero, List.set_cons_succ]
      refine heldW 21 83 (.string ⟨nm.toArray⟩) rfl rfl (by kernel_rfl) (by kernel_rfl) (by kernel_rfl) (fun _ _ _ h => h) (by rfl) hSw8 (fun W hSW => ?_) ?_
      · (try dsimp only at hSW); (try obtain ⟨hSA, hSB⟩ := hSW); go_simp
      simp only [Act.put, List.setIfInBounds_toArray, List.set_cons_zero, List.set_cons_succ]
      refine heldW 22 84 (.string ⟨sf.toArray⟩) rfl rfl (by kernel_rfl) (by kernel_rfl) (by kernel_rfl) (fun _ _ _ h => h) (by rfl) hSw8 (fun W hSW => ?_) ?_
      · (try dsimp only at hSW); (try obtain ⟨hSA, hSB⟩ := hSW); go_simp
      simp only [Act.put, List.setIfInBounds_toArray, List.set_cons_zero, List.set_cons_succ]
      refine heldW 23 85 (.string ((⟨#[112]⟩ : ByteArray) ++ (⟨sf.toArray⟩ : ByteArray))) rfl rfl (by kernel_rfl) (by kernel_rfl) (by kernel_rfl) (fun _ _ _ h => h) (by rfl) hSw8 (fun W hSW => ?_) ?_
      · (try dsimp only at hSW); (try obtain ⟨hSA, hSB⟩ := hSW); go_simp <;> omega
      simp only [Act.put, List.setIfInBounds_toArray, List.set_cons_zero, List.set_cons_succ]
      refine heldW 24 86 (.string ⟨sf.toArray⟩) rfl rfl (by kernel_rfl) (by kernel_rfl) (by kernel_rfl) (fun _ _ _ h => h) (by rfl) hSw8 (fun W hSW => ?_) ?_
      · (try dsimp only at hSW); (try obtain ⟨hSA, hSB⟩ := hSW); go_simp
      simp only [Act.put, List.setIfInBounds_toArray, List.set_cons_zero, List.set_cons_succ]
      refine heldW 25 87 (.string ((⟨#[112]⟩ : ByteArray) ++ (⟨sf.toArray⟩ : ByteArray) ++ (⟨sf.toArray⟩ : ByteArray))) rfl rfl (by kernel_rfl) (by kernel_rfl) (by kernel_rfl) (fun _ _ _ h => h) (by rfl) hSw8 (fun W hSW => ?_) ?_
      · (try dsimp only at hSW); (try obtain ⟨hSA, hSB⟩ := hSW); go_simp <;> omega
      simp only [Act.put, List.setIfInBounds_toArray, List.set_cons_zero, List.set_cons_succ]
      refine wpAnyH_ready (rs := [26]) (by kernel_rfl) (by simp) (AllReadyH.cons rfl (fun K hK => ?_) AllReadyH.nil)
      rw [if_pos (by rfl)]
      go_simp
      (with_reducible refine (gA2.out _ (HB2.out.trans (HWdw8.out.mono HB2.out.size))).mono ?_); rintro e w9 ⟨rfl, hbw9⟩
      have HWw9 := Lib.hid (HWdw8.out.trans (hbw9.mono HWdw8.out.size))
      have HWdw9 := HWw9
      refine hK.out _ _ ⟨HA1.out _ HWw9.out, HA2.out _ HWw9.out⟩ (fun hSw9 => ?_)
      clear hK K hbw9 hSw8
      try simp only [Act.put, List.setIfInBounds_toArray, List.set_cons_zero, List.set_cons_succ]
      refine heldW 27 89 (.bool true) rfl rfl (by kernel_rfl) (by kernel_rfl) (by kernel_rfl) (fun _ _ _ h => h) (by rfl) hSw9 (fun W hSW => ?_) ?_
      · (try dsimp only at hSW); (try obtain ⟨hSA, hSB⟩ := hSW); go_simp
      simp only [Act.put, List.setIfInBounds_toArray, List.set_cons_zero, List.set_cons_succ]
      refine heldW 28 90 (.bool true) rfl rfl (by kernel_rfl) (by kernel_rfl) (by kernel_rfl) (fun _ _ _ h => h) (by rfl) hSw9 (fun W hSW => ?_) ?_
      · (try dsimp only at hSW); (try obtain ⟨hSA, hSB⟩ := hSW); go_simp
      simp only [Act.put, List.setIfInBounds_toArray, List.set_cons_zero, List.set_cons_succ]
      refine heldW 29 91 (.bool true) rfl rfl (by kernel_rfl) (by kernel_rfl) (by kernel_rfl) (fun _ _ _ h => h) (by rfl) hSw9 (fun W hSW => ?_) ?_
      · (try dsimp only at hSW); (try obtain ⟨hSA, hSB⟩ := hSW); go_simp
      simp only [Act.put, List.setIfInBounds_toArray, List.set_cons_zero, List.set_cons_succ]
      refine heldW 30 92 (.string ⟨sf.toArray⟩) rfl rfl (by kernel_rfl) (by kernel_rfl) (by kernel_rfl) (fun _ _ _ h => h) (by rfl) hSw9 (fun W hSW => ?_) ?_
      · (try dsimp only at hSW); (try obtain ⟨hSA, hSB⟩ := hSW); go_simp
      simp only [Act.put, List.setIfInBounds_toArray, List.set_cons_zero, List.set_cons_succ]
      refine heldW 31 93 (.pointer (some ⟨w2.heap.size, 1, none⟩)) rfl rfl (by kernel_rfl) (by kernel_rfl) (by kernel_rfl) (fun _ _ _ h => h) (by rfl) hSw9 (fun W hSW => ?_) ?_
      · (try dsimp only at hSW); (try obtain ⟨hSA, hSB⟩ := hSW); go_simp
      simp only [Act.put, List.setIfInBounds_toArray, List.set_cons_zero, List.set_cons_succ]
      refine heldW 32 94 (.string ⟨nm.toArray⟩) rfl rfl (by kernel_rfl) (by kernel_rfl) (by kernel_rfl) (fun _ _ _ h => h) (by rfl) hSw9 (fun W hSW => ?_) ?_
      · (try dsimp only at hSW); (try obtain ⟨hSA, hSB⟩ := hSW); go_simp
      simp only [Act.put, List.setIfInBounds_toArray, List.set_cons_zero, List.set_cons_succ]
      refine heldW 33 95 (.string ⟨sf.toArray⟩) rfl rfl (by kernel_rfl) (by kernel_rfl) (by kernel_rfl) (fun _ _ _ h => h) (by rfl) hSw9 (fun W hSW => ?_) ?_
      · (try dsimp only at hSW); (try obtain ⟨hSA, hSB⟩ := hSW); go_simp
      simp only [Act.put, List.setIfInBounds_toArray, List.set_cons_zero, List.set_cons_succ]
      refine wpAnyH_ready (rs := [34]) (by kernel_rfl) (by simp) (AllReadyH.cons rfl (fun K hK => ?_) AllReadyH.nil)
      rw [if_pos (by rfl)]
      go_simp
      (with_reducible refine (gA1.out _ (HB2.out.trans (HWdw9.out.mono HB2.out.size))).mono ?_); rintro e w10 ⟨rfl, hbw10⟩
      have HWw10 := Lib.hid (HWdw9.out.trans (hbw10.mono HWdw9.out.size))
      have HWdw10 := HWw10
      refine hK.out _ _ ⟨HA1.out _ HWw10.out, HA2.out _ HWw10.out⟩ (fun hSw10 => ?_)
      clear hK K hbw10 hSw9
      try simp only [Act.put, List.setIfInBounds_toArray, List.set_cons_zero, List.set_cons_succ]
      refine heldW 35 97 (.bool true) rfl rfl (by kernel_rfl) (by kernel_rfl) (by kernel_rfl) (fun _ _ _ h => h) (by rfl) hSw10 (fun W hSW => ?_) ?_
      · (try dsimp only at hSW); (try obtain ⟨hSA, hSB⟩ := hSW); go_simp
      simp only [Act.put, List.setIfInBounds_toArray, List.set_cons_zero, List.set_cons_succ]
      refine heldW 36 98 (.bool true) rfl rfl (by kernel_rfl) (by kernel_rfl) (by kernel_rfl) (fun _ _ _ h => h) (by rfl) hSw10 (fun W hSW => ?_) ?_
      · (try dsimp only at hSW); (try obtain ⟨hSA, hSB⟩ := hSW); go_simp
      simp only [Act.put, List.setIfInBounds_toArray, List.set_cons_zero, List.set_cons_succ]
      refine heldW 37 99 (.bool true) rfl rfl (by kernel_rfl) (by kernel_rfl) (by kernel_rfl) (fun _ _ _ h => h) (by rfl) hSw10 (fun W hSW => ?_) ?_
      · (try dsimp only at hSW); (try obtain ⟨hSA, hSB⟩ := hSW); go_simp
      simp only [Act.put, List.setIfInBounds_toArray, List.set_cons_zero, List.set_cons_succ]
      refine heldW 38 100 (.string ⟨sf.toArray⟩) rfl rfl (by kernel_rfl) (by kernel_rfl) (by kernel_rfl) (fun _ _ _ h => h) (by rfl) hSw10 (fun W hSW => ?_) ?_
      · (try dsimp only at hSW); (try obtain ⟨hSA, hSB⟩ := hSW); go_simp
      simp only [Act.put, List.setIfInBounds_toArray, List.set_cons_zero, List.set_cons_succ]
      refine heldW 39 101 (.pointer (some ⟨w2.heap.size, 1, none⟩)) rfl rfl (by kernel_rfl) (by kernel_rfl) (by kernel_rfl) (fun _ _ _ h => h) (by rfl) hSw10 (fun W hSW => ?_) ?_
      · (try dsimp only at hSW); (try obtain ⟨hSA, hSB⟩ := hSW); go_simp
      simp only [Act.put, List.setIfInBounds_toArray, List.set_cons_zero, List.set_cons_succ]
      refine heldW 40 102 (.string ⟨nm.toArray⟩) rfl rfl (by kernel_rfl) (by kernel_rfl) (by kernel_rfl) (fun _ _ _ h => h) (by rfl) hSw10 (fun W hSW => ?_) ?_
      · (try dsimp only at hSW); (try obtain ⟨hSA, hSB⟩ := hSW); go_simp
      simp only [Act.put, List.setIfInBounds_toArray, List.set_cons_zero, List.set_cons_succ]
      refine wpAnyH_ready (rs := [41]) (by kernel_rfl) (by simp) (AllReadyH.cons rfl (fun K hK => ?_) AllReadyH.nil)
      rw [if_pos (by rfl)]
      go_simp
      (with_reducible refine (gA0.out _ (HB2.out.trans (HWdw10.out.mono HB2.out.size))).mono ?_); rintro e w11 ⟨rfl, hbw11⟩
      have HWw11 := Lib.hid (HWdw10.out.trans (hbw11.mono HWdw10.out.size))
      have HWdw11 := HWw11
      refine hK.out _ _ ⟨HA1.out _ HWw11.out, HA2.out _ HWw11.out⟩ (fun hSw11 => ?_)
      clear hK K hbw11 hSw10
      try simp only [Act.put, List.setIfInBounds_toArray, List.set_cons_zero, List.set_cons_succ]
      refine heldW 42 104 (.bool true) rfl rfl (by kernel_rfl) (by kernel_rfl) (by kernel_rfl) (fun _ _ _ h => h) (by rfl) hSw11 (fun W hSW => ?_) ?_
      · (try dsimp only at hSW); (try obtain ⟨hSA, hSB⟩ := hSW); go_simp
      simp only [Act.put, List.setIfInBounds_toArray, List.set_cons_zero, List.set_cons_succ]
      refine heldW 43 105 (.bool true) rfl rfl (by kernel_rfl) (by kernel_rfl) (by kernel_rfl) (fun _ _ _ h => h) (by rfl) hSw11 (fun W hSW => ?_) ?_
      · (try dsimp only at hSW); (try obtain ⟨hSA, hSB⟩ := hSW); go_simp
      simp only [Act.put, List.setIfInBounds_toArray, List.set_cons_zero, List.set_cons_succ]
      refine heldW 44 2 (.bool true) rfl rfl (by kernel_rfl) (by kernel_rfl) (by kernel_rfl) (fun _ _ _ h => h) (by rfl) hSw11 (fun W hSW => ?_) ?_
      · (try dsimp only at hSW); (try obtain ⟨hSA, hSB⟩ := hSW); go_simp
      simp only [Act.put, List.setIfInBounds_toArray, List.set_cons_zero, List.set_cons_succ]
      refine wpAnyH_done (by kernel_rfl) ?_ _
      have HBF := Lib.hid (HB2.out.trans (HWdw11.out.mono HB2.out.size))
      clear hSw11
      go_wp2
      go_ret
      exact ⟨rfl, HBF.out⟩
end Go.Proofs.YtgielbamebjjdaaGreatDoor
