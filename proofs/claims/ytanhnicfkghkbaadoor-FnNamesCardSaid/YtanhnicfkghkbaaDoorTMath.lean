/-
  Plain lemmas on terms: a term as a tree, its text, how it is read; no function of the program is named here.
-/
import Derived.Test.YtanhnicfkghkbaaDoorVMath
import Derived.Test.YtanhnicfkghkbaaDoorNMath
import Derived.Test.YtanhnicfkghkbaaDoorRdMath
namespace Go.Proofs.YtanhnicfkghkbaaDoor
open Go
set_option maxRecDepth 100000

theorem lend_app : ∀ (l : List UInt8) (n k : Nat) (r : List UInt8), lend n l = some k → lend n (l ++ r) = some k := by
  refine lend_ind (motive := fun n l => ∀ (k : Nat) (r : List UInt8), lend n l = some k → lend n (l ++ r) = some k) ?_ ?_ ?_ ?_ ?_ ?_ ?_
  · intro l k r h; rw [lend_zero] at h ⊢; exact h
  · intro n k r h; rw [lend_nil] at h; cases h
  · intro n l ih k r h
    rw [lend_z] at h
    obtain ⟨j, hj, rfl⟩ := Option.map_eq_some_iff.1 h
    rw [List.cons_append, lend_z, ih j r hj]; rfl
  · intro n l ih k r h
    rw [lend_up] at h
    obtain ⟨j, hj, rfl⟩ := Option.map_eq_some_iff.1 h
    rw [List.cons_append, lend_up, ih j r hj]; rfl
  · intro n c l hc ih k r h
    rw [lend_two n hc] at h
    obtain ⟨j, hj, rfl⟩ := Option.map_eq_some_iff.1 h
    rw [List.cons_append, lend_two n hc, ih j r hj]; rfl
  · intro n d l h1 h2 ih k r h
    rw [lend_par n h1 h2] at h
    obtain ⟨j, hj, rfl⟩ := Option.map_eq_some_iff.1 h
    rw [List.cons_append, List.cons_append, lend_par n h1 h2, ih j r hj]; rfl
  · intro n c l h0 k r h; rw [h0] at h; cases h
theorem lend_take : ∀ (l : List UInt8) (n k : Nat), lend n l = some k → lend n (l.take k) = some k ∧ k ≤ l.length := by
  refine lend_ind (motive := fun n l => ∀ k : Nat, lend n l = some k → lend n (l.take k) = some k ∧ k ≤ l.length) ?_ ?_ ?_ ?_ ?_ ?_ ?_
  · intro l k h; rw [lend_zero] at h; cases h; exact ⟨by rw [lend_zero], Nat.zero_le _⟩
  · intro n k h; rw [lend_nil] at h; cases h
  · intro n l ih k h
    rw [lend_z] at h
    obtain ⟨j, hj, rfl⟩ := Option.map_eq_some_iff.1 h
    obtain ⟨h1, h2⟩ := ih j hj
    exact ⟨by rw [List.take_succ_cons, lend_z, h1]; rfl, by simp; omega⟩
  · intro n l ih k h
    rw [lend_up] at h
    obtain ⟨j, hj, rfl⟩ := Option.map_eq_some_iff.1 h
    obtain ⟨h1, h2⟩ := ih j hj
    exact ⟨by rw [List.take_succ_cons, lend_up, h1]; rfl, by simp; omega⟩
  · intro n c l hc ih k h
    rw [lend_two n hc] at h
    obtain ⟨j, hj, rfl⟩ := Option.map_eq_some_iff.1 h
    obtain ⟨h1, h2⟩ := ih j hj
    exact ⟨by rw [List.take_succ_cons, lend_two n hc, h1]; rfl, by simp; omega⟩
  · intro n d l g1 g2 ih k h
    rw [lend_par n g1 g2] at h
    obtain ⟨j, hj, rfl⟩ := Option.map_eq_some_iff.1 h
    obtain ⟨h1, h2⟩ := ih j hj
    exact ⟨by rw [show j + 2 = (j + 1) + 1 by omega, List.take_succ_cons, List.take_succ_cons, lend_par n g1 g2, h1]; rfl, by simp; omega⟩
  · intro n c l h0 k h; rw [h0] at h; cases h
theorem levelOk_app {l r : List UInt8} (h : levelOk l = true) : lend 1 (l ++ r) = some l.length := lend_app l 1 _ r (levelOk_len h).2
theorem levelOk_take {l : List UInt8} {k : Nat} (h : lend 1 l = some k) (hk : k ≤ 60) : levelOk (l.take k) = true := by
  obtain ⟨h1, h2⟩ := lend_take l 1 k h
  have e : (l.take k).length = k := by simp; omega
  rw [levelOk, e, h1]
  simp [hk]
theorem levelOk_uniq {l m r s : List UInt8} (hl : levelOk l = true) (hm : levelOk m = true) (h : l ++ r = m ++ s) : l = m ∧ r = s := by
  have h1 := levelOk_app (r := r) hl
  rw [h, levelOk_app hm] at h1
  injection h1 with h1
  exact ⟨List.append_inj_left h h1.symm, List.append_inj_right h h1.symm⟩
theorem levelOk_ne {l : List UInt8} (h : levelOk l = true) : l ≠ [] := by
  intro e
  subst e
  have := (levelOk_len h).2
  rw [lend_nil] at this
  cases this
theorem levelOk_not46 {l r s : List UInt8} (h : levelOk l = true) : l ++ r ≠ 46 :: s := by
  intro e
  have h1 := levelOk_app (r := r) h
  rw [e, lend_bad 0 (by decide) (by decide) (by decide) (by decide)] at h1
  cases h1
theorem span_uniq {c : UInt8} : ∀ {xs ys r s : List UInt8}, c ∉ xs → c ∉ ys → xs ++ c :: r = ys ++ c :: s → xs = ys ∧ r = s
  | [], [], r, s, _, _, h => by injection h with _ h; exact ⟨rfl, h⟩
  | [], y :: ys, r, s, _, hy, h => by injection h with h1 _; subst h1; exact absurd List.mem_cons_self hy
  | x :: xs, [], r, s, hx, _, h => by injection h with h1 _; subst h1; exact absurd List.mem_cons_self hx
  | x :: xs, y :: ys, r, s, hx, hy, h => by
    injection h with h1 h2
    obtain ⟨h3, h4⟩ := span_uniq (fun hm => hx (List.mem_cons_of_mem _ hm)) (fun hm => hy (List.mem_cons_of_mem _ hm)) h2
    exact ⟨by rw [h1, h3], h4⟩
theorem digits_byte : ∀ (n : Nat) (c : UInt8), c ∈ Lib.decDigits n → 48 ≤ c.toNat ∧ c.toNat ≤ 57 := by
  intro n
  induction n using Nat.strongRecOn with
  | _ n ih =>
    intro c hc
    have hd : ∀ k, k < 10 → 48 ≤ (UInt8.ofNat (48 + k)).toNat ∧ (UInt8.ofNat (48 + k)).toNat ≤ 57 := fun k hk => by
      have e : (UInt8.ofNat (48 + k)).toNat = 48 + k := UInt8.toNat_ofNat_of_lt (by show 48 + k < 256; omega)
      omega
    rw [Lib.decDigits] at hc
    by_cases h : n < 10
    · rw [dif_pos h] at hc
      simp only [List.mem_cons, List.not_mem_nil, or_false] at hc
      subst hc
      exact hd n h
    · rw [dif_neg h] at hc
      rcases List.mem_append.1 hc with h1 | h1
      · exact ih (n / 10) (by omega) c h1
      · simp only [List.mem_cons, List.not_mem_nil, or_false] at h1
        subst h1
        exact hd _ (by omega)
theorem digits_no46 (n : Nat) : (46 : UInt8) ∉ Lib.decDigits n := fun h => by
  have := digits_byte n 46 h
  revert this
  decide
theorem scan_no59 : ∀ (l : List UInt8) (d : Nat) (b : Bool), scan l d b = true → (59 : UInt8) ∉ l
  | [], _, _, _ => by simp
  | c :: r, d, b, h => by
    rw [scan] at h
    intro hm
    rcases List.mem_cons.1 hm with rfl | hm
    · revert h; simp [azB, dgB]
    · split at h
      · exact scan_no59 r _ _ h hm
      · split at h
        · exact scan_no59 r _ _ h hm
        · split at h
          · exact scan_no59 r _ _ h hm
          · cases h
theorem nameOk_len {l : List UInt8} (h : nameOk l = true) : l.length ≤ 40 := by
  by_cases hl : l.length ≤ 40
  · exact hl
  · rw [nameOk_long (by omega)] at h; cases h
theorem name_no59 {l : List UInt8} (h : nameOk l = true) : (59 : UInt8) ∉ l := by
  have hl := nameOk_len h
  rw [nameOk_scan l hl] at h
  exact scan_no59 l _ _ h

/-- A term as a tree. -/
inductive Tm where
  | var : Nat → Tm
  | sort : List UInt8 → Tm
  | const : List UInt8 → List (List UInt8) → Tm
  | app : Tm → Tm → Tm
  | lam : Tm → Tm → Tm
  | pi : Tm → Tm → Tm
  | lett : Tm → Tm → Tm → Tm

def lvsB : List (List UInt8) → List UInt8
  | [] => []
  | l :: r => l ++ 44 :: lvsB r
theorem lvsB_append : ∀ a b : List (List UInt8), lvsB (a ++ b) = lvsB a ++ lvsB b
  | [], b => rfl
  | x :: a, b => by simp [lvsB, lvsB_append a b]
namespace Tm
def bytes : Tm → List UInt8
  | var n => 118 :: (Lib.decDigits n ++ [46])
  | sort l => 115 :: (l ++ [46])
  | const n ls => 99 :: (n ++ 59 :: (lvsB ls ++ [46]))
  | app f a => 64 :: (f.bytes ++ a.bytes)
  | lam d b => 108 :: (d.bytes ++ b.bytes)
  | pi d b => 112 :: (d.bytes ++ b.bytes)
  | lett t v b => 116 :: (t.bytes ++ (v.bytes ++ b.bytes))
def Ok : Tm → Prop
  | var n => n ≤ 999
  | sort l => levelOk l = true
  | const n ls => nameOk n = true ∧ ls.length ≤ 3 ∧ ∀ x ∈ ls, levelOk x = true
  | app f a => f.Ok ∧ a.Ok
  | lam d b => d.Ok ∧ b.Ok
  | pi d b => d.Ok ∧ b.Ok
  | lett t v b => t.Ok ∧ v.Ok ∧ b.Ok
def size : Tm → Nat
  | var _ => 1
  | sort _ => 1
  | const _ _ => 1
  | app f a => f.size + a.size + 1
  | lam d b => d.size + b.size + 1
  | pi d b => d.size + b.size + 1
  | lett t v b => t.size + v.size + b.size + 1
def opn : Tm → Nat
  | var n => n + 1
  | sort _ => 0
  | const _ _ => 0
  | app f a => max f.opn a.opn
  | lam d b => max d.opn (b.opn - 1)
  | pi d b => max d.opn (b.opn - 1)
  | lett t v b => max (max t.opn v.opn) (b.opn - 1)
def parts : Tm → List Tm
  | var _ => []
  | sort _ => []
  | const _ _ => []
  | app f a => [f, a]
  | lam d b => [d, b]
  | pi d b => [d, b]
  | lett t v b => [t, v, b]
def kind : Tm → UInt8
  | var _ => 118
  | sort _ => 115
  | const _ _ => 99
  | app _ _ => 64
  | lam _ _ => 108
  | pi _ _ => 112
  | lett _ _ _ => 116
/-- No number is greater than m. -/
def Lim (m : Nat) : Tm → Prop
  | var n => n ≤ m
  | sort _ => True
  | const _ _ => True
  | app f x => Lim m f ∧ Lim m x
  | lam d b => Lim m d ∧ Lim m b
  | pi d b => Lim m d ∧ Lim m b
  | lett t v b => Lim m t ∧ Lim m v ∧ Lim m b
theorem bytes_head (t : Tm) : ∃ r, t.bytes = t.kind :: r := by
  cases t <;> exact ⟨_, rfl⟩
theorem bytes_pos (t : Tm) : 0 < t.bytes.length := by
  obtain ⟨r, h⟩ := t.bytes_head
  rw [h]
  simp
theorem size_pos (t : Tm) : 0 < t.size := by cases t <;> simp [size]
theorem size_le : ∀ t : Tm, t.size ≤ t.bytes.length
  | var _ => by simp [size, bytes]
  | sort _ => by simp [size, bytes]
  | const _ _ => by simp [size, bytes]
  | app f a => by have := size_le f; have := size_le a; simp [size, bytes]; omega
  | lam f a => by have := size_le f; have := size_le a; simp [size, bytes]; omega
  | pi f a => by have := size_le f; have := size_le a; simp [size, bytes]; omega
  | lett f a b => by have := size_le f; have := size_le a; have := size_le b; simp [size, bytes]; omega
theorem opn_le : ∀ t : Tm, t.Ok → t.opn ≤ 1000
  | var n, h => by have : n ≤ 999 := h; simp only [opn]; omega
  | sort _, _ => by simp [opn]
  | const _ _, _ => by simp [opn]
  | app f a, h => by have := opn_le f h.1; have := opn_le a h.2; simp only [opn]; omega
  | lam f a, h => by have := opn_le f h.1; have := opn_le a h.2; simp only [opn]; omega
  | pi f a, h => by have := opn_le f h.1; have := opn_le a h.2; simp only [opn]; omega
  | lett f a b, h => by have := opn_le f h.1; have := opn_le a h.2.1; have := opn_le b h.2.2; simp only [opn]; omega
end Tm
theorem lvs_uniq : ∀ {a b : List (List UInt8)} {r s : List UInt8}, (∀ x ∈ a, levelOk x = true) → (∀ x ∈ b, levelOk x = true) → lvsB a ++ 46 :: r = lvsB b ++ 46 :: s → a = b ∧ r = s
  | [], [], r, s, _, _, h => by injection h with _ h; exact ⟨rfl, h⟩
  | [], y :: b, r, s, _, hy, h => by
    rw [lvsB, lvsB, List.append_assoc] at h
    exact absurd h.symm (levelOk_not46 (hy y List.mem_cons_self))
  | x :: a, [], r, s, hx, _, h => by
    rw [lvsB, lvsB, List.append_assoc] at h
    exact absurd h (levelOk_not46 (hx x List.mem_cons_self))
  | x :: a, y :: b, r, s, hx, hy, h => by
    rw [lvsB, lvsB, List.append_assoc, List.append_assoc, List.cons_append, List.cons_append] at h
    obtain ⟨h1, h2⟩ := levelOk_uniq (hx x List.mem_cons_self) (hy y List.mem_cons_self) h
    injection h2 with _ h2
    obtain ⟨h3, h4⟩ := lvs_uniq (fun z hz => hx z (List.mem_cons_of_mem _ hz)) (fun z hz => hy z (List.mem_cons_of_mem _ hz)) h2
    exact ⟨by rw [h1, h3], h4⟩
theorem Tm.uniq : ∀ (t u : Tm) (r s : List UInt8), t.Ok → u.Ok → t.bytes ++ r = u.bytes ++ s → t = u ∧ r = s := by
  intro t
  induction t with
  | var n =>
    intro u r s ht hu h
    cases u with
    | var m =>
      simp only [Tm.bytes, List.cons_append, List.append_assoc, List.nil_append] at h
      injection h with _ h
      obtain ⟨h1, h2⟩ := span_uniq (digits_no46 n) (digits_no46 m) h
      exact ⟨by rw [digits_inj h1], h2⟩
    | _ => simp [Tm.bytes] at h
  | sort l =>
    intro u r s ht hu h
    cases u with
    | sort m =>
      simp only [Tm.bytes, List.cons_append, List.append_assoc, List.nil_append] at h
      injection h with _ h
      obtain ⟨h1, h2⟩ := levelOk_uniq ht hu h
      injection h2 with _ h2
      exact ⟨by rw [h1], h2⟩
    | _ => simp [Tm.bytes] at h
  | const n ls =>
    intro u r s ht hu h
    cases u with
    | const m ms =>
      simp only [Tm.bytes, List.cons_append, List.append_assoc, List.nil_append] at h
      injection h with _ h
      obtain ⟨h1, h2⟩ := span_uniq (name_no59 ht.1) (name_no59 hu.1) h
      obtain ⟨h3, h4⟩ := lvs_uniq ht.2.2 hu.2.2 h2
      exact ⟨by rw [h1, h3], h4⟩
    | _ => simp [Tm.bytes] at h
  | app f a ihf iha =>
    intro u r s ht hu h
    cases u with
    | app g b =>
      simp only [Tm.bytes, List.cons_append, List.append_assoc] at h
      injection h with _ h
      obtain ⟨h1, h2⟩ := ihf g _ _ ht.1 hu.1 h
      obtain ⟨h3, h4⟩ := iha b _ _ ht.2 hu.2 h2
      exact ⟨by rw [h1, h3], h4⟩
    | _ => simp [Tm.bytes] at h
  | lam f a ihf iha =>
    intro u r s ht hu h
    cases u with
    | lam g b =>
      simp only [Tm.bytes, List.cons_append, List.append_assoc] at h
      injection h with _ h
      obtain ⟨h1, h2⟩ := ihf g _ _ ht.1 hu.1 h
      obtain ⟨h3, h4⟩ := iha b _ _ ht.2 hu.2 h2
      exact ⟨by rw [h1, h3], h4⟩
    | _ => simp [Tm.bytes] at h
  | pi f a ihf iha =>
    intro u r s ht hu h
    cases u with
    | pi g b =>
      simp only [Tm.bytes, List.cons_append, List.append_assoc] at h
      injection h with _ h
      obtain ⟨h1, h2⟩ := ihf g _ _ ht.1 hu.1 h
      obtain ⟨h3, h4⟩ := iha b _ _ ht.2 hu.2 h2
      exact ⟨by rw [h1, h3], h4⟩
    | _ => simp [Tm.bytes] at h
  | lett f a c ihf iha ihc =>
    intro u r s ht hu h
    cases u with
    | lett g b d =>
      simp only [Tm.bytes, List.cons_append, List.append_assoc] at h
      injection h with _ h
      obtain ⟨h1, h2⟩ := ihf g _ _ ht.1 hu.1 h
      obtain ⟨h3, h4⟩ := iha b _ _ ht.2.1 hu.2.1 h2
      obtain ⟨h5, h6⟩ := ihc d _ _ ht.2.2 hu.2.2 h4
      exact ⟨by rw [h1, h3, h5], h6⟩
    | _ => simp [Tm.bytes] at h

/-- The text is the text of the tree, and no longer than a term may be. -/
def IsTm (l : List UInt8) (t : Tm) : Prop := t.Ok ∧ t.bytes = l ∧ l.length ≤ 2000
theorem IsTm.uniq {l : List UInt8} {t u : Tm} (h : IsTm l t) (k : IsTm l u) : t = u :=
  (Tm.uniq t u [] [] h.1 k.1 (by rw [h.2.1, k.2.1])).1
open Classical in
noncomputable def termOf (l : List UInt8) : Option Tm := if h : ∃ t, IsTm l t then some (Classical.choose h) else none
theorem termOf_some {l : List UInt8} {t : Tm} (h : IsTm l t) : termOf l = some t := by
  unfold termOf
  have he : ∃ t, IsTm l t := ⟨t, h⟩
  rw [dif_pos he]
  congr 1
  exact (Classical.choose_spec he).uniq h
theorem termOf_none {l : List UInt8} (h : ∀ t, ¬ IsTm l t) : termOf l = none := by
  unfold termOf
  rw [dif_neg (fun ⟨t, ht⟩ => h t ht)]
theorem termOf_is {l : List UInt8} {t : Tm} (h : termOf l = some t) : IsTm l t := by
  unfold termOf at h
  split at h
  · rename_i he
    injection h with h
    rw [← h]
    exact Classical.choose_spec he
  · cases h
/-- A term stands at the head of the text. -/
def Tat (l : List UInt8) (t : Tm) (r : List UInt8) : Prop := t.Ok ∧ l = t.bytes ++ r
theorem Tat.uniq {l r s : List UInt8} {t u : Tm} (h : Tat l t r) (k : Tat l u s) : t = u ∧ r = s :=
  Tm.uniq t u r s h.1 k.1 (h.2.symm.trans k.2)

noncomputable def termOk (l : List UInt8) : Bool := (termOf l).isSome
noncomputable def termKind (l : List UInt8) : List UInt8 := if termOk l = true then l.take 1 else []
noncomputable def termParts (l : List UInt8) : List (List UInt8) := match termOf l with
  | some t => t.parts.map Tm.bytes
  | none => []
noncomputable def termSize (l : List UInt8) : Nat := match termOf l with
  | some t => t.size
  | none => 0
noncomputable def termOpen (l : List UInt8) : Nat := match termOf l with
  | some t => t.opn
  | none => 0
def varText (n : Int) : List UInt8 := if 0 ≤ n ∧ n ≤ 999 then (Tm.var n.toNat).bytes else []
def constText (n : List UInt8) (ls : List (List UInt8)) : List UInt8 := if nameOk n = true ∧ ls.length ≤ 3 ∧ ∀ x ∈ ls, levelOk x = true then (Tm.const n ls).bytes else []
noncomputable def constIn (l : List UInt8) : Option (List UInt8 × List (List UInt8)) := match termOf l with
  | some (.const n ls) => some (n, ls)
  | _ => none
end Go.Proofs.YtanhnicfkghkbaaDoor
