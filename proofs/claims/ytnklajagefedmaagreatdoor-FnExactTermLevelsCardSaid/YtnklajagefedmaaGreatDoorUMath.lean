/-
  Plain lemmas on universe levels as trees and their values; no function of the program is named here.
-/
import Derived.Test.YtnklajagefedmaaGreatDoorVMath
namespace Go.Proofs.YtnklajagefedmaaGreatDoor
set_option maxRecDepth 100000

inductive Lv where
  | z | par (k : Fin 3) | up (t : Lv) | mx (a b : Lv) | im (a b : Lv)
def Lv.bytes : Lv → List UInt8
  | .z => [122]
  | .par k => [117, UInt8.ofNat (48 + k.val)]
  | .up t => 43 :: t.bytes
  | .mx a b => 109 :: (a.bytes ++ b.bytes)
  | .im a b => 105 :: (a.bytes ++ b.bytes)
def Lv.val (V : Fin 3 → Nat) : Lv → Nat
  | .z => 0
  | .par k => V k
  | .up t => t.val V + 1
  | .mx a b => max (a.val V) (b.val V)
  | .im a b => if b.val V = 0 then 0 else max (a.val V) (b.val V)
def Lv.ups : Lv → Nat
  | .z => 0
  | .par _ => 0
  | .up t => t.ups + 1
  | .mx a b => a.ups + b.ups
  | .im a b => a.ups + b.ups
def Lv.sub (σ : Fin 3 → Lv) : Lv → Lv
  | .z => .z
  | .par k => σ k
  | .up t => .up (t.sub σ)
  | .mx a b => .mx (a.sub σ) (b.sub σ)
  | .im a b => .im (a.sub σ) (b.sub σ)
theorem Lv.par_byte (k : Fin 3) : 48 ≤ (UInt8.ofNat (48 + k.val)).toNat ∧ (UInt8.ofNat (48 + k.val)).toNat ≤ 50 ∧ (UInt8.ofNat (48 + k.val)).toNat - 48 = k.val := by
  have := k.isLt
  have e : (UInt8.ofNat (48 + k.val)).toNat = 48 + k.val := by
    rw [UInt8.toNat_ofNat']
    exact Nat.mod_eq_of_lt (by omega)
  rw [e]
  omega
theorem Lv.val_le {V : Fin 3 → Nat} {M : Nat} (h : ∀ k, V k ≤ M) : ∀ t : Lv, t.val V ≤ M + t.ups
  | .z => Nat.zero_le _
  | .par k => by simp only [Lv.val, Lv.ups]; have := h k; omega
  | .up t => by have := Lv.val_le h t; simp only [Lv.val, Lv.ups]; omega
  | .mx a b => by have := Lv.val_le h a; have := Lv.val_le h b; simp only [Lv.val, Lv.ups]; omega
  | .im a b => by have := Lv.val_le h a; have := Lv.val_le h b; simp only [Lv.val, Lv.ups]; split <;> omega
theorem Lv.ups_lt : ∀ t : Lv, t.ups < t.bytes.length
  | .z => by simp [Lv.ups, Lv.bytes]
  | .par k => by simp [Lv.ups, Lv.bytes]
  | .up t => by have := Lv.ups_lt t; simp only [Lv.ups, Lv.bytes, List.length_cons]; omega
  | .mx a b => by have := Lv.ups_lt a; have := Lv.ups_lt b; simp only [Lv.ups, Lv.bytes, List.length_cons, List.length_append]; omega
  | .im a b => by have := Lv.ups_lt a; have := Lv.ups_lt b; simp only [Lv.ups, Lv.bytes, List.length_cons, List.length_append]; omega
theorem Lv.val_sub (σ : Fin 3 → Lv) (V : Fin 3 → Nat) : ∀ t : Lv, (t.sub σ).val V = t.val (fun k => (σ k).val V)
  | .z => rfl
  | .par k => rfl
  | .up t => by simp only [Lv.sub, Lv.val, Lv.val_sub σ V t]
  | .mx a b => by simp only [Lv.sub, Lv.val, Lv.val_sub σ V a, Lv.val_sub σ V b]
  | .im a b => by simp only [Lv.sub, Lv.val, Lv.val_sub σ V a, Lv.val_sub σ V b]

theorem Lv.zero_pat {V U : Fin 3 → Nat} (h : ∀ k, V k = 0 ↔ U k = 0) : ∀ t : Lv, t.val V = 0 ↔ t.val U = 0
  | .z => Iff.rfl
  | .par k => h k
  | .up t => by simp [Lv.val]
  | .mx a b => by
    have h1 := Lv.zero_pat h a; have h2 := Lv.zero_pat h b
    simp only [Lv.val]; omega
  | .im a b => by
    have h1 := Lv.zero_pat h a; have h2 := Lv.zero_pat h b
    simp only [Lv.val]; split <;> split <;> omega
theorem Lv.mono_pat {V U : Fin 3 → Nat} (h : ∀ k, V k = 0 ↔ U k = 0) (hl : ∀ k, V k ≤ U k) : ∀ t : Lv, t.val V ≤ t.val U
  | .z => Nat.le_refl _
  | .par k => hl k
  | .up t => by have := Lv.mono_pat h hl t; simp only [Lv.val]; omega
  | .mx a b => by
    have h1 := Lv.mono_pat h hl a; have h2 := Lv.mono_pat h hl b
    simp only [Lv.val]; omega
  | .im a b => by
    have h1 := Lv.mono_pat h hl a; have h2 := Lv.mono_pat h hl b
    have h3 := Lv.zero_pat h b
    simp only [Lv.val]; split <;> split <;> omega
/-- Why a level has its value: by a number, or by one parameter. -/
theorem Lv.why (V : Fin 3 → Nat) : ∀ t : Lv,
    (t.val V ≤ t.ups ∧ ∀ U : Fin 3 → Nat, (∀ k, V k = 0 ↔ U k = 0) → t.val V ≤ t.val U) ∨
    (∃ i c, 0 < V i ∧ c ≤ t.ups ∧ t.val V = V i + c ∧ ∀ U : Fin 3 → Nat, (∀ k, V k = 0 ↔ U k = 0) → U i + c ≤ t.val U)
  | .z => .inl ⟨Nat.le_refl _, fun _ _ => Nat.le_refl _⟩
  | .par k => by
    by_cases hk : V k = 0
    · exact .inl ⟨by simp [Lv.val, hk], fun U _ => by simp [Lv.val, hk]⟩
    · exact .inr ⟨k, 0, by omega, Nat.zero_le _, rfl, fun U _ => Nat.le_refl _⟩
  | .up t => by
    rcases Lv.why V t with ⟨h1, h2⟩ | ⟨i, c, h0, h1, h2, h3⟩
    · exact .inl ⟨by simp only [Lv.val, Lv.ups]; omega, fun U hU => by have := h2 U hU; simp only [Lv.val]; omega⟩
    · exact .inr ⟨i, c + 1, h0, by simp only [Lv.ups]; omega, by simp only [Lv.val]; omega, fun U hU => by have := h3 U hU; simp only [Lv.val]; omega⟩
  | .mx a b => by
    by_cases hab : b.val V ≤ a.val V
    · rcases Lv.why V a with ⟨h1, h2⟩ | ⟨i, c, h0, h1, h2, h3⟩
      · exact .inl ⟨by simp only [Lv.val, Lv.ups]; omega, fun U hU => by have := h2 U hU; simp only [Lv.val]; omega⟩
      · exact .inr ⟨i, c, h0, by simp only [Lv.ups]; omega, by simp only [Lv.val]; omega, fun U hU => by have := h3 U hU; simp only [Lv.val]; omega⟩
    · rcases Lv.why V b with ⟨h1, h2⟩ | ⟨i, c, h0, h1, h2, h3⟩
      · exact .inl ⟨by simp only [Lv.val, Lv.ups]; omega, fun U hU => by have := h2 U hU; simp only [Lv.val]; omega⟩
      · exact .inr ⟨i, c, h0, by simp only [Lv.ups]; omega, by simp only [Lv.val]; omega, fun U hU => by have := h3 U hU; simp only [Lv.val]; omega⟩
  | .im a b => by
    by_cases hz : b.val V = 0
    · exact .inl ⟨by simp [Lv.val, hz], fun U _ => by simp [Lv.val, hz]⟩
    have hzU : ∀ U : Fin 3 → Nat, (∀ k, V k = 0 ↔ U k = 0) → ¬ b.val U = 0 := fun U hU h => hz ((Lv.zero_pat hU b).2 h)
    by_cases hab : b.val V ≤ a.val V
    · rcases Lv.why V a with ⟨h1, h2⟩ | ⟨i, c, h0, h1, h2, h3⟩
      · exact .inl ⟨by simp only [Lv.val, Lv.ups, if_neg hz]; omega, fun U hU => by have := h2 U hU; simp only [Lv.val, if_neg hz, if_neg (hzU U hU)]; omega⟩
      · exact .inr ⟨i, c, h0, by simp only [Lv.ups]; omega, by simp only [Lv.val, if_neg hz]; omega, fun U hU => by have := h3 U hU; simp only [Lv.val, if_neg (hzU U hU)]; omega⟩
    · rcases Lv.why V b with ⟨h1, h2⟩ | ⟨i, c, h0, h1, h2, h3⟩
      · exact .inl ⟨by simp only [Lv.val, Lv.ups, if_neg hz]; omega, fun U hU => by have := h2 U hU; simp only [Lv.val, if_neg hz, if_neg (hzU U hU)]; omega⟩
      · exact .inr ⟨i, c, h0, by simp only [Lv.ups]; omega, by simp only [Lv.val, if_neg hz]; omega, fun U hU => by have := h3 U hU; simp only [Lv.val, if_neg (hzU U hU)]; omega⟩
/-- A level that is above another one at some values is so at values 0, 1 or k. -/
theorem Lv.above_small (a b : Lv) (k : Nat) (hk : 2 + a.ups + b.ups ≤ k) (V : Fin 3 → Nat) (h : b.val V < a.val V) :
    ∃ v' : Fin 3 → Nat, (∀ i, v' i = 0 ∨ v' i = 1 ∨ v' i = k) ∧ b.val v' < a.val v' := by
  rcases Lv.why V a with ⟨h1, h2⟩ | ⟨i, c, h0, h1, h2, h3⟩
  · refine ⟨fun j => min (V j) 1, fun j => by simp only; omega, ?_⟩
    have p : ∀ j, V j = 0 ↔ min (V j) 1 = 0 := fun j => by omega
    have q := h2 _ p
    have r := Lv.mono_pat (V := fun j => min (V j) 1) (U := V) (fun j => (p j).symm) (fun j => Nat.min_le_left _ _) b
    omega
  · let U : Fin 3 → Nat := fun j => if j = i then k else min (V j) 1
    have p : ∀ j, V j = 0 ↔ U j = 0 := fun j => by
      by_cases e : j = i
      · subst e; simp only [U, if_true]; omega
      · simp only [U, if_neg e]; omega
    have ui : U i = k := by simp [U]
    refine ⟨U, fun j => ?_, ?_⟩
    · by_cases e : j = i
      · subst e; exact .inr (.inr ui)
      · simp only [U, if_neg e]; omega
    have q := h3 U p
    rw [ui] at q
    rcases Lv.why U b with ⟨g1, _⟩ | ⟨j, d, _, g1, g2, g3⟩
    · omega
    · by_cases e : j = i
      · subst e
        have := g3 V fun k => (p k).symm
        omega
      · have : U j ≤ 1 := by simp only [U, if_neg e]; omega
        omega

/-- The parameters' values. -/
def asV (vs : List Nat) (k : Fin 3) : Nat := vs.getD k.val 0
/-- The values of the levels of a text, read from its end. -/
def lvalS (vs : List Nat) : List UInt8 → List Nat
  | [] => []
  | [c] => if c = 122 then [0] else []
  | c :: d :: r =>
    if c = 122 then 0 :: lvalS vs (d :: r)
    else if c = 117 then vs.getD (d.toNat - 48) 0 :: lvalS vs r
    else match lvalS vs (d :: r) with
      | [] => []
      | x :: s => if c = 43 then (x + 1) :: s else match s with
        | [] => []
        | y :: q => if c = 109 then max x y :: q else (if y = 0 then 0 else max x y) :: q
termination_by l => l.length
def lval (vs : List Nat) (l : List UInt8) : Nat := (lvalS vs l).headD 0
theorem Lv.bytes_ne (t : Lv) : ∃ c r, t.bytes = c :: r := by cases t <;> exact ⟨_, _, rfl⟩
theorem lvalS_tree (vs : List Nat) : ∀ (t : Lv) (r : List UInt8), lvalS vs (t.bytes ++ r) = t.val (asV vs) :: lvalS vs r
  | .z, r => by
    cases r with
    | nil => rw [Lv.bytes, List.append_nil, lvalS, lvalS]; rfl
    | cons d r => rw [Lv.bytes, List.singleton_append, lvalS]; rfl
  | .par k, r => by
    rw [Lv.bytes, List.cons_append, List.cons_append, List.nil_append, lvalS, if_neg (by decide), if_pos rfl, (Lv.par_byte k).2.2]
    rfl
  | .up t, r => by
    obtain ⟨c, q, e⟩ := t.bytes_ne
    have ih := lvalS_tree vs t r
    rw [e, List.cons_append] at ih
    rw [Lv.bytes, e, List.cons_append, List.cons_append, lvalS, if_neg (by decide), if_neg (by decide), ih]
    rfl
  | .mx a b, r => by
    obtain ⟨c, q, e⟩ := a.bytes_ne
    have ih := lvalS_tree vs a (b.bytes ++ r)
    rw [lvalS_tree vs b r, e, List.cons_append] at ih
    rw [Lv.bytes, List.cons_append, List.append_assoc, e, List.cons_append, lvalS, if_neg (by decide), if_neg (by decide), ih]
    rfl
  | .im a b, r => by
    obtain ⟨c, q, e⟩ := a.bytes_ne
    have ih := lvalS_tree vs a (b.bytes ++ r)
    rw [lvalS_tree vs b r, e, List.cons_append] at ih
    rw [Lv.bytes, List.cons_append, List.append_assoc, e, List.cons_append, lvalS, if_neg (by decide), if_neg (by decide), ih]
    rfl
theorem lval_tree (vs : List Nat) (t : Lv) : lval vs t.bytes = t.val (asV vs) := by
  have := lvalS_tree vs t []
  rw [List.append_nil] at this
  rw [lval, this]
  rfl

theorem lend_trees : ∀ (l : List UInt8) (n : Nat), lend n l = some l.length → ∃ ts : List Lv, ts.length = n ∧ l = ts.flatMap Lv.bytes := by
  refine lend_ind (motive := fun n l => lend n l = some l.length → ∃ ts : List Lv, ts.length = n ∧ l = ts.flatMap Lv.bytes) ?_ ?_ ?_ ?_ ?_ ?_ ?_
  · intro l h
    rw [lend_zero] at h
    have : l = [] := List.eq_nil_of_length_eq_zero (Option.some.inj h).symm
    exact ⟨[], rfl, this⟩
  · intro n h; rw [lend_nil] at h; cases h
  · intro n r ih h
    rw [lend_z] at h
    obtain ⟨j, hj, e⟩ := Option.map_eq_some_iff.1 h
    obtain ⟨ts, h1, h2⟩ := ih (by rw [hj]; congr 1; simpa using e)
    exact ⟨.z :: ts, by simp [h1], by rw [List.flatMap_cons, ← h2]; rfl⟩
  · intro n r ih h
    rw [lend_up] at h
    obtain ⟨j, hj, e⟩ := Option.map_eq_some_iff.1 h
    obtain ⟨ts, h1, h2⟩ := ih (by rw [hj]; congr 1; simpa using e)
    match ts, h1 with
    | t :: ts, h1 => exact ⟨.up t :: ts, h1, by rw [h2, List.flatMap_cons, List.flatMap_cons]; rfl⟩
  · intro n c r hc ih h
    rw [lend_two n hc] at h
    obtain ⟨j, hj, e⟩ := Option.map_eq_some_iff.1 h
    obtain ⟨ts, h1, h2⟩ := ih (by rw [hj]; congr 1; simpa using e)
    match ts, h1 with
    | t :: u :: ts, h1 =>
      rcases hc with rfl | rfl
      · exact ⟨.mx t u :: ts, by simpa using h1, by rw [h2, List.flatMap_cons, List.flatMap_cons, List.flatMap_cons, Lv.bytes, List.cons_append, List.append_assoc]⟩
      · exact ⟨.im t u :: ts, by simpa using h1, by rw [h2, List.flatMap_cons, List.flatMap_cons, List.flatMap_cons, Lv.bytes, List.cons_append, List.append_assoc]⟩
  · intro n d r g1 g2 ih h
    rw [lend_par n g1 g2] at h
    obtain ⟨j, hj, e⟩ := Option.map_eq_some_iff.1 h
    obtain ⟨ts, h1, h2⟩ := ih (by rw [hj]; congr 1; simpa using e)
    refine ⟨.par ⟨d.toNat - 48, by omega⟩ :: ts, by simp [h1], ?_⟩
    rw [List.flatMap_cons, ← h2, Lv.bytes]
    have : UInt8.ofNat (48 + (d.toNat - 48)) = d := by rw [show 48 + (d.toNat - 48) = d.toNat by omega]; exact UInt8.ofNat_toNat
    simp only [this, List.cons_append, List.nil_append]
  · intro n c r h0 h; rw [h0] at h; cases h
theorem level_tree {l : List UInt8} (h : levelOk l = true) : ∃ t : Lv, l = t.bytes := by
  obtain ⟨ts, h1, h2⟩ := lend_trees l 1 (levelOk_len h).2
  match ts, h1 with
  | [t], _ => exact ⟨t, by simpa using h2⟩
theorem lend_tree : ∀ (t : Lv) (n : Nat) (r : List UInt8), lend (n + 1) (t.bytes ++ r) = (lend n r).map (· + t.bytes.length)
  | .z, n, r => lend_z n r
  | .par k, n, r => by
    rw [Lv.bytes, List.cons_append, List.cons_append, List.nil_append, lend_par n (Lv.par_byte k).1 (Lv.par_byte k).2.1]
    rfl
  | .up t, n, r => by
    rw [Lv.bytes, List.cons_append, lend_up, lend_tree t n r, Option.map_map]
    congr 1
  | .mx a b, n, r => by
    rw [Lv.bytes, List.cons_append, List.append_assoc, lend_two n (.inl rfl), lend_tree a (n + 1), lend_tree b n, Option.map_map, Option.map_map]
    congr 1
    funext x
    simp only [Function.comp, List.length_cons, List.length_append]
    omega
  | .im a b, n, r => by
    rw [Lv.bytes, List.cons_append, List.append_assoc, lend_two n (.inr rfl), lend_tree a (n + 1), lend_tree b n, Option.map_map, Option.map_map]
    congr 1
    funext x
    simp only [Function.comp, List.length_cons, List.length_append]
    omega
theorem tree_ok (t : Lv) (h : t.bytes.length ≤ 60) : levelOk t.bytes = true := by
  have := lend_tree t 0 []
  rw [List.append_nil, lend_zero] at this
  rw [levelOk, decide_eq_true h, this]
  simp
theorem tree_count : ∀ t : Lv, t.bytes.count 43 = t.ups
  | .z => rfl
  | .par k => by
    rw [Lv.bytes, Lv.ups, List.count_eq_zero]
    intro h
    simp only [List.mem_cons, List.not_mem_nil, or_false] at h
    rcases h with h | h
    · exact absurd h (by decide)
    · have := (Lv.par_byte k).1
      rw [← h] at this
      exact absurd this (by decide)
  | .up t => by rw [Lv.bytes, List.count_cons_self, tree_count t]; rfl
  | .mx a b => by
    rw [Lv.bytes, List.count_cons_of_ne (by decide), List.count_append, tree_count a, tree_count b]; rfl
  | .im a b => by
    rw [Lv.bytes, List.count_cons_of_ne (by decide), List.count_append, tree_count a, tree_count b]; rfl
theorem tree_ups {t : Lv} (h : levelOk t.bytes = true) : levelUps t.bytes = t.ups := by
  rw [levelUps, if_pos h, tree_count]

/-- The value of a level for these values of its parameters, or -1. -/
def levelAt (l : List UInt8) (vs : List Int) : Int :=
  if levelOk l = true ∧ vs.length ≤ 3 ∧ levelParams l ≤ vs.length ∧ (∀ x ∈ vs, 0 ≤ x ∧ x ≤ 1000) then (lval (vs.map Int.toNat) l : Int) else -1
def tryOne (k i : Nat) : Nat := if i = 0 then 0 else if i = 1 then 1 else k
def tryTri (k i : Nat) : List Nat := [tryOne k (i / 9), tryOne k (i / 3 % 3), tryOne k (i % 3)]
def above (a b : List UInt8) (vs : List Nat) : Bool := decide (lval vs b < lval vs a)
def witIdx (a b : List UInt8) : Option Nat := (List.range 27).find? fun i => above a b (tryTri (2 + levelUps a + levelUps b) i)
def levelWit (a b : List UInt8) : Option (List Nat) :=
  if levelOk a = true ∧ levelOk b = true then (witIdx a b).map (tryTri (2 + levelUps a + levelUps b)) else none
def levelLe (a b : List UInt8) : Bool := levelOk a && levelOk b && (levelWit a b).isNone
def levelSame (a b : List UInt8) : Bool := levelLe a b && levelLe b a
end Go.Proofs.YtnklajagefedmaaGreatDoor
