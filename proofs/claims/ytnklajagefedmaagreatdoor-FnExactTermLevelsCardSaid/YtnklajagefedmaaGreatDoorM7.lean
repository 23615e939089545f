/-
  Plain lemmas: the leaves of a term changed one by one, with a state; texts of trees whose leaves may be beyond their limits; no function of the program is named here.
  The methods copied: what a change of leaves is, and the contracts of the methods of the terms that are leaves.
  The methods copied of the terms with parts, from those of the parts.
  The methods copied at every term, from what the function does with a leaf.
  What the methods copied leave, and the contract of impl.textWithin.
-/
import Derived.Test.YtnklajagefedmaaGreatDoorFLvM
import Derived.Test.YtnklajagefedmaaGreatDoorM1
import Derived.Test.YtnklajagefedmaaGreatDoorFSay
import Derived.Shelf.Abstract
import Derived.Deep.RegionHeld3
import Derived.Test.YtnklajagefedmaaGreatDoorM5
import Derived.Test.YtnklajagefedmaaGreatDoorM3
namespace Go.Proofs.YtnklajagefedmaaGreatDoor
open Go
set_option maxRecDepth 100000
set_option linter.unusedVariables false

namespace Tm
/-- Each leaf is changed, from left to right, with a state. -/
def mapS {σ : Type} (f : σ → Tm → Nat → Tm × σ) : Tm → σ → Nat → Tm × σ
  | var n, s, b => f s (var n) b
  | sort l, s, b => f s (sort l) b
  | const n ls, s, b => f s (const n ls) b
  | app x y, s, b => (app (mapS f x s b).1 (mapS f y (mapS f x s b).2 b).1, (mapS f y (mapS f x s b).2 b).2)
  | lam x y, s, b => (lam (mapS f x s b).1 (mapS f y (mapS f x s b).2 (b + 1)).1, (mapS f y (mapS f x s b).2 (b + 1)).2)
  | pi x y, s, b => (pi (mapS f x s b).1 (mapS f y (mapS f x s b).2 (b + 1)).1, (mapS f y (mapS f x s b).2 (b + 1)).2)
  | lett x y z, s, b => (lett (mapS f x s b).1 (mapS f y (mapS f x s b).2 b).1 (mapS f z (mapS f y (mapS f x s b).2 b).2 (b + 1)).1, (mapS f z (mapS f y (mapS f x s b).2 b).2 (b + 1)).2)
/-- Every leaf, under its binders. -/
def Lv (P : Tm → Nat → Prop) : Tm → Nat → Prop
  | var n, b => P (var n) b
  | sort l, b => P (sort l) b
  | const n ls, b => P (const n ls) b
  | app x y, b => Lv P x b ∧ Lv P y b
  | lam x y, b => Lv P x b ∧ Lv P y (b + 1)
  | pi x y, b => Lv P x b ∧ Lv P y (b + 1)
  | lett x y z, b => Lv P x b ∧ Lv P y b ∧ Lv P z (b + 1)
/-- A leaf that a term may have, under at most so many binders. -/
def OkLeaf (B : Nat) (t : Tm) (b : Nat) : Prop := b ≤ B ∧ ((∃ n, n ≤ 999 ∧ t = var n) ∨ (∃ l, levelOk l = true ∧ t = sort l) ∨ ∃ n ls, (const n ls).Ok ∧ t = const n ls)
theorem ok_lv {B : Nat} : ∀ (T : Tm) (b : Nat), T.Ok → b + T.size ≤ B → T.Lv (OkLeaf B) b
  | var n, b, h, hb => ⟨by omega, .inl ⟨n, h, rfl⟩⟩
  | sort l, b, h, hb => ⟨by omega, .inr (.inl ⟨l, h, rfl⟩)⟩
  | const n ls, b, h, hb => ⟨by omega, .inr (.inr ⟨n, ls, h, rfl⟩)⟩
  | app x y, b, h, hb => by simp only [size] at hb; exact ⟨ok_lv x b h.1 (by omega), ok_lv y b h.2 (by omega)⟩
  | lam x y, b, h, hb => by have := x.size_pos; simp only [size] at hb; exact ⟨ok_lv x b h.1 (by omega), ok_lv y (b + 1) h.2 (by omega)⟩
  | pi x y, b, h, hb => by have := x.size_pos; simp only [size] at hb; exact ⟨ok_lv x b h.1 (by omega), ok_lv y (b + 1) h.2 (by omega)⟩
  | lett x y z, b, h, hb => by have := x.size_pos; simp only [size] at hb; exact ⟨ok_lv x b h.1 (by omega), ok_lv y b h.2.1 (by omega), ok_lv z (b + 1) h.2.2 (by omega)⟩
/-- What holds of a tree if it holds of its parts. -/
structure Comp (Q : Tm → Prop) : Prop where
  app : ∀ x y, Q x → Q y → Q (app x y)
  lam : ∀ x y, Q x → Q y → Q (lam x y)
  pi : ∀ x y, Q x → Q y → Q (pi x y)
  lett : ∀ x y z, Q x → Q y → Q z → Q (lett x y z)
theorem mapS_q {σ : Type} {f : σ → Tm → Nat → Tm × σ} {P : Tm → Nat → Prop} {Q : Tm → Prop} (hQ : Comp Q) (hf : ∀ s t b, P t b → Q (f s t b).1) : ∀ (T : Tm) (s : σ) (b : Nat), T.Lv P b → Q (mapS f T s b).1
  | var n, s, b, h => hf s _ b h
  | sort l, s, b, h => hf s _ b h
  | const n ls, s, b, h => hf s _ b h
  | app x y, s, b, h => hQ.app _ _ (mapS_q hQ hf x s b h.1) (mapS_q hQ hf y _ b h.2)
  | lam x y, s, b, h => hQ.lam _ _ (mapS_q hQ hf x s b h.1) (mapS_q hQ hf y _ (b + 1) h.2)
  | pi x y, s, b, h => hQ.pi _ _ (mapS_q hQ hf x s b h.1) (mapS_q hQ hf y _ (b + 1) h.2)
  | lett x y z, s, b, h => hQ.lett _ _ _ (mapS_q hQ hf x s b h.1) (mapS_q hQ hf y _ b h.2.1) (mapS_q hQ hf z _ (b + 1) h.2.2)
theorem mapS_len {σ : Type} {f : σ → Tm → Nat → Tm × σ} {P : Tm → Nat → Prop} {K : Nat} (hK : 1 ≤ K) (hf : ∀ s t b, P t b → (f s t b).1.bytes.length ≤ K * t.bytes.length) : ∀ (T : Tm) (s : σ) (b : Nat), T.Lv P b → (mapS f T s b).1.bytes.length ≤ K * T.bytes.length
  | var n, s, b, h => hf s _ b h
  | sort l, s, b, h => hf s _ b h
  | const n ls, s, b, h => hf s _ b h
  | app x y, s, b, h => by
    have h1 := mapS_len hK hf x s b h.1
    have h2 := mapS_len hK hf y (mapS f x s b).2 b h.2
    simp only [mapS, bytes, List.length_cons, List.length_append, Nat.mul_add, Nat.mul_one]; omega
  | lam x y, s, b, h => by
    have h1 := mapS_len hK hf x s b h.1
    have h2 := mapS_len hK hf y (mapS f x s b).2 (b + 1) h.2
    simp only [mapS, bytes, List.length_cons, List.length_append, Nat.mul_add, Nat.mul_one]; omega
  | pi x y, s, b, h => by
    have h1 := mapS_len hK hf x s b h.1
    have h2 := mapS_len hK hf y (mapS f x s b).2 (b + 1) h.2
    simp only [mapS, bytes, List.length_cons, List.length_append, Nat.mul_add, Nat.mul_one]; omega
  | lett x y z, s, b, h => by
    have h1 := mapS_len hK hf x s b h.1
    have h2 := mapS_len hK hf y (mapS f x s b).2 b h.2.1
    have h3 := mapS_len hK hf z (mapS f y (mapS f x s b).2 b).2 (b + 1) h.2.2
    simp only [mapS, bytes, List.length_cons, List.length_append, Nat.mul_add, Nat.mul_one]; omega

/-- The marks of a text can be told from its leaves, though these may be beyond their limits. -/
def Pre : Tm → Prop
  | var _ => True
  | sort l => (46 : UInt8) ∉ l
  | const n ls => (59 : UInt8) ∉ n ∧ ∀ x ∈ ls, (46 : UInt8) ∉ x ∧ (44 : UInt8) ∉ x
  | app f a => f.Pre ∧ a.Pre
  | lam f a => f.Pre ∧ a.Pre
  | pi f a => f.Pre ∧ a.Pre
  | lett f a b => f.Pre ∧ a.Pre ∧ b.Pre
theorem comp_pre : Comp Pre := ⟨fun _ _ h k => ⟨h, k⟩, fun _ _ h k => ⟨h, k⟩, fun _ _ h k => ⟨h, k⟩, fun _ _ _ h k l => ⟨h, k, l⟩⟩
theorem comp_lim (m : Nat) : Comp (Lim m) := ⟨fun _ _ h k => ⟨h, k⟩, fun _ _ h k => ⟨h, k⟩, fun _ _ h k => ⟨h, k⟩, fun _ _ _ h k l => ⟨h, k, l⟩⟩
theorem Ok.pre : ∀ {t : Tm}, t.Ok → t.Pre
  | var _, _ => trivial
  | sort _, h => (level_clean h).1
  | const _ _, h => ⟨name_no59 h.1, fun x hx => level_clean (h.2.2 x hx)⟩
  | app _ _, h => ⟨h.1.pre, h.2.pre⟩
  | lam _ _, h => ⟨h.1.pre, h.2.pre⟩
  | pi _ _, h => ⟨h.1.pre, h.2.pre⟩
  | lett _ _ _, h => ⟨h.1.pre, h.2.1.pre, h.2.2.pre⟩
theorem no46 : ∀ {ls : List (List UInt8)}, (∀ x ∈ ls, (46 : UInt8) ∉ x) → (46 : UInt8) ∉ lvsB ls
  | [], _ => by simp [lvsB]
  | x :: r, h => by
    intro hm
    rw [lvsB] at hm
    rcases List.mem_append.1 hm with h1 | h1
    · exact h x List.mem_cons_self h1
    rcases List.mem_cons.1 h1 with h2 | h2
    · revert h2; decide
    · exact no46 (fun y hy => h y (List.mem_cons_of_mem _ hy)) h2
theorem preUniq : ∀ (t u : Tm) (r s : List UInt8), t.Pre → u.Pre → t.bytes ++ r = u.bytes ++ s → t = u ∧ r = s := by
  intro t
  induction t with
  | var n =>
    intro u r s ht hu h
    cases u with
    | var m =>
      simp only [Tm.bytes, List.cons_append, List.append_assoc, List.nil_append] at h
      injection h with _ h
      obtain ⟨h1, h2⟩ := span_uniq (digits_no46 n) (digits_no46 m) h
      exact ⟨by rw [digits_inj h1], h2⟩
    | _ => simp [Tm.bytes] at h
  | sort l =>
    intro u r s ht hu h
    cases u with
    | sort m =>
      simp only [Tm.bytes, List.cons_append, List.append_assoc, List.nil_append] at h
      injection h with _ h
      obtain ⟨h1, h2⟩ := span_uniq ht hu h
      exact ⟨by rw [h1], h2⟩
    | _ => simp [Tm.bytes] at h
  | const n ls =>
    intro u r s ht hu h
    cases u with
    | const m ms =>
      simp only [Tm.bytes, List.cons_append, List.append_assoc, List.nil_append] at h
      injection h with _ h
      obtain ⟨h1, h2⟩ := span_uniq ht.1 hu.1 h
      obtain ⟨h3, h4⟩ := span_uniq (no46 fun x hx => (ht.2 x hx).1) (no46 fun x hx => (hu.2 x hx).1) h2
      exact ⟨by rw [h1, lvsB_inj (fun x hx => (ht.2 x hx).2) (fun x hx => (hu.2 x hx).2) h3], h4⟩
    | _ => simp [Tm.bytes] at h
  | app f a ihf iha =>
    intro u r s ht hu h
    cases u with
    | app g b =>
      simp only [Tm.bytes, List.cons_append, List.append_assoc] at h
      injection h with _ h
      obtain ⟨h1, h2⟩ := ihf g _ _ ht.1 hu.1 h
      obtain ⟨h3, h4⟩ := iha b _ _ ht.2 hu.2 h2
      exact ⟨by rw [h1, h3], h4⟩
    | _ => simp [Tm.bytes] at h
  | lam f a ihf iha =>
    intro u r s ht hu h
    cases u with
    | lam g b =>
      simp only [Tm.bytes, List.cons_append, List.append_assoc] at h
      injection h with _ h
      obtain ⟨h1, h2⟩ := ihf g _ _ ht.1 hu.1 h
      obtain ⟨h3, h4⟩ := iha b _ _ ht.2 hu.2 h2
      exact ⟨by rw [h1, h3], h4⟩
    | _ => simp [Tm.bytes] at h
  | pi f a ihf iha =>
    intro u r s ht hu h
    cases u with
    | pi g b =>
      simp only [Tm.bytes, List.cons_append, List.append_assoc] at h
      injection h with _ h
      obtain ⟨h1, h2⟩ := ihf g _ _ ht.1 hu.1 h
      obtain ⟨h3, h4⟩ := iha b _ _ ht.2 hu.2 h2
      exact ⟨by rw [h1, h3], h4⟩
    | _ => simp [Tm.bytes] at h
  | lett f a c ihf iha ihc =>
    intro u r s ht hu h
    cases u with
    | lett g b d =>
      simp only [Tm.bytes, List.cons_append, List.append_assoc] at h
      injection h with _ h
      obtain ⟨h1, h2⟩ := ihf g _ _ ht.1 hu.1 h
      obtain ⟨h3, h4⟩ := iha b _ _ ht.2.1 hu.2.1 h2
      obtain ⟨h5, h6⟩ := ihc d _ _ ht.2.2 hu.2.2 h4
      exact ⟨by rw [h1, h3, h5], h6⟩
    | _ => simp [Tm.bytes] at h
end Tm
/-- A tree's text is a term if no limit is exceeded. -/
theorem termOk_pre {T : Tm} (h : T.Pre) : termOk T.bytes = true ↔ T.Ok ∧ T.bytes.length ≤ 2000 := by
  constructor
  · intro hk
    cases ht : termOf T.bytes with
    | none => rw [termOk, ht] at hk; cases hk
    | some t =>
      obtain ⟨h1, h2, h3⟩ := termOf_is ht
      obtain ⟨rfl, _⟩ := Tm.preUniq t T [] [] h1.pre h (by rw [h2])
      exact ⟨h1, h3⟩
  · rintro ⟨h1, h2⟩
    rw [termOk, termOf_some ⟨h1, rfl, h2⟩]
    rfl
theorem sayT_nil (T : Tm) : (T.Ok ∧ T.bytes.length ≤ 2000 → sayT (some []) T = some T.bytes) ∧ (¬ (T.Ok ∧ T.bytes.length ≤ 2000) → sayT (some []) T = none) := by
  constructor
  · intro h
    rw [sayT_some h.1 (by simpa using h.2)]
    rfl
  · intro h
    exact sayT_fail (fun k => h ⟨k.1, by simpa using k.2⟩)

/-- What Lifted does with a leaf. -/
def liftF (a c : Nat) : Unit → Tm → Nat → Tm × Unit := fun _ t b => (t.lift a (c + b), ())
theorem mapS_lift (a c : Nat) : ∀ (T : Tm) (b : Nat), (T.mapS (liftF a c) () b).1 = T.lift a (c + b)
  | .var n, b => rfl
  | .sort _, _ => rfl
  | .const _ _, _ => rfl
  | .app x y, b => by simp only [Tm.mapS, Tm.lift, mapS_lift a c x b]; rw [← mapS_lift a c y b]
  | .lam x y, b => by simp only [Tm.mapS, Tm.lift, mapS_lift a c x b]; rw [Nat.add_assoc, ← mapS_lift a c y (b + 1)]
  | .pi x y, b => by simp only [Tm.mapS, Tm.lift, mapS_lift a c x b]; rw [Nat.add_assoc, ← mapS_lift a c y (b + 1)]
  | .lett x y z, b => by simp only [Tm.mapS, Tm.lift, mapS_lift a c x b]; rw [Nat.add_assoc, ← mapS_lift a c y b, ← mapS_lift a c z (b + 1)]
theorem digits_mono : ∀ (m n : Nat), n ≤ m → (Lib.decDigits n).length ≤ (Lib.decDigits m).length := by
  intro m
  induction m using Nat.strongRecOn with
  | _ m ih =>
    intro n h
    rw [Lib.decDigits_length, Lib.decDigits_length]
    by_cases hm : m < 10
    · rw [Lib.nDigits_small hm, Lib.nDigits_small (by omega)]; exact Nat.le_refl _
    · by_cases hn : n < 10
      · rw [Lib.nDigits_small hn, Lib.nDigits_big hm]; omega
      · have := ih (m / 10) (by omega) (n / 10) (by omega)
        rw [Lib.decDigits_length, Lib.decDigits_length] at this
        rw [Lib.nDigits_big hm, Lib.nDigits_big hn]
        omega
theorem digits_four {n : Nat} (h : n ≤ 9999) : (Lib.decDigits n).length ≤ 4 := by
  have := digits_mono 9999 n h
  have e : (Lib.decDigits 9999).length = 4 := by
    rw [Lib.decDigits_length, Lib.nDigits_big (by decide), Lib.nDigits_big (by decide), Lib.nDigits_big (by decide), Lib.nDigits_small (by decide)]
  omega
theorem digits_pos (n : Nat) : 1 ≤ (Lib.decDigits n).length := by
  have := digits_mono n 0 (Nat.zero_le _)
  rw [Lib.decDigits_length, Lib.nDigits_small (by decide)] at this
  exact this
namespace Tm
theorem lift_grows (a : Nat) : ∀ (T : Tm) (c : Nat), T.bytes.length ≤ (T.lift a c).bytes.length
  | var n, c => by
    have := digits_mono (if c ≤ n then n + a else n) n (by split <;> omega)
    simp only [lift, bytes, List.length_cons, List.length_append, List.length_nil]; omega
  | sort _, _ => Nat.le_refl _
  | const _ _, _ => Nat.le_refl _
  | app x y, c => by have := lift_grows a x c; have := lift_grows a y c; simp only [lift, bytes, List.length_cons, List.length_append]; omega
  | lam x y, c => by have := lift_grows a x c; have := lift_grows a y (c + 1); simp only [lift, bytes, List.length_cons, List.length_append]; omega
  | pi x y, c => by have := lift_grows a x c; have := lift_grows a y (c + 1); simp only [lift, bytes, List.length_cons, List.length_append]; omega
  | lett x y z, c => by have := lift_grows a x c; have := lift_grows a y c; have := lift_grows a z (c + 1); simp only [lift, bytes, List.length_cons, List.length_append]; omega
theorem lift_len2 {a m : Nat} (hm : m + a ≤ 9999) : ∀ (T : Tm) (c : Nat), T.Lim m → (T.lift a c).bytes.length ≤ 2 * T.bytes.length
  | var n, c, h => by
    have h2 : n ≤ m := h
    have := digits_four (n := if c ≤ n then n + a else n) (by split <;> omega)
    have := digits_pos n
    simp only [lift, bytes, List.length_cons, List.length_append, List.length_nil]; omega
  | sort _, _, _ => by simp only [lift]; omega
  | const _ _, _, _ => by simp only [lift]; omega
  | app x y, c, h => by have := lift_len2 hm x c h.1; have := lift_len2 hm y c h.2; simp only [lift, bytes, List.length_cons, List.length_append]; omega
  | lam x y, c, h => by have := lift_len2 hm x c h.1; have := lift_len2 hm y (c + 1) h.2; simp only [lift, bytes, List.length_cons, List.length_append]; omega
  | pi x y, c, h => by have := lift_len2 hm x c h.1; have := lift_len2 hm y (c + 1) h.2; simp only [lift, bytes, List.length_cons, List.length_append]; omega
  | lett x y z, c, h => by have := lift_len2 hm x c h.1; have := lift_len2 hm y c h.2.1; have := lift_len2 hm z (c + 1) h.2.2; simp only [lift, bytes, List.length_cons, List.length_append]; omega
theorem lift_pre (a : Nat) : ∀ (T : Tm) (c : Nat), T.Pre → (T.lift a c).Pre
  | var _, _, _ => trivial
  | sort _, _, h => h
  | const _ _, _, h => h
  | app x y, c, h => ⟨lift_pre a x c h.1, lift_pre a y c h.2⟩
  | lam x y, c, h => ⟨lift_pre a x c h.1, lift_pre a y (c + 1) h.2⟩
  | pi x y, c, h => ⟨lift_pre a x c h.1, lift_pre a y (c + 1) h.2⟩
  | lett x y z, c, h => ⟨lift_pre a x c h.1, lift_pre a y c h.2.1, lift_pre a z (c + 1) h.2.2⟩
end Tm

/-- What PutIn does with a leaf: the state is how many bytes are left. -/
def pinF (A : Tm) (z : Nat) : Int → Tm → Nat → Tm × Int
  | r, .var n, b => if n < b then (.var n, r) else if b < n then (.var (n - 1), r) else if r < 0 then (.var n, r) else (A.lift b 0, r - z)
  | r, t, _ => (t, r)
theorem put_down {A : Tm} {z : Nat} : ∀ (T : Tm) (r : Int) (b : Nat), (T.mapS (pinF A z) r b).2 ≤ r
  | .var n, r, b => by
    simp only [Tm.mapS, pinF]
    split
    · exact Int.le_refl _
    · split
      · exact Int.le_refl _
      · split
        · exact Int.le_refl _
        · simp only; omega
  | .sort _, r, b => Int.le_refl _
  | .const _ _, r, b => Int.le_refl _
  | .app x y, r, b => Int.le_trans (put_down y _ b) (put_down x r b)
  | .lam x y, r, b => Int.le_trans (put_down y _ (b + 1)) (put_down x r b)
  | .pi x y, r, b => Int.le_trans (put_down y _ (b + 1)) (put_down x r b)
  | .lett x y w, r, b => Int.le_trans (put_down w _ (b + 1)) (Int.le_trans (put_down y _ b) (put_down x r b))
/-- As long as bytes are left, all is put in. -/
theorem put_same {A : Tm} {z : Nat} (hz : 1 ≤ z) : ∀ (T : Tm) (r : Int) (b : Nat), 0 ≤ (T.mapS (pinF A z) r b).2 → (T.mapS (pinF A z) r b).1 = Tm.put A b T
  | .var n, r, b, h => by
    simp only [Tm.mapS, pinF, Tm.put] at h ⊢
    by_cases h1 : n < b
    · rw [if_pos h1, if_neg (by omega), if_neg (by omega)]
    · rw [if_neg h1] at h ⊢
      by_cases h2 : b < n
      · rw [if_pos h2, if_neg (by omega), if_pos h2]
      · rw [if_neg h2] at h ⊢
        rw [if_pos (by omega : n = b)]
        by_cases h3 : r < 0
        · rw [if_pos h3] at h; simp only at h; omega
        · rw [if_neg h3]
  | .sort _, r, b, _ => rfl
  | .const _ _, r, b, _ => rfl
  | .app x y, r, b, h => by
    have h2 : 0 ≤ (y.mapS (pinF A z) (x.mapS (pinF A z) r b).2 b).2 := h
    have h1 := Int.le_trans h2 (put_down y _ b)
    simp only [Tm.mapS, Tm.put]
    rw [put_same hz x r b h1, put_same hz y _ b h2]
  | .lam x y, r, b, h => by
    have h2 : 0 ≤ (y.mapS (pinF A z) (x.mapS (pinF A z) r b).2 (b + 1)).2 := h
    have h1 := Int.le_trans h2 (put_down y _ (b + 1))
    simp only [Tm.mapS, Tm.put]
    rw [put_same hz x r b h1, put_same hz y _ (b + 1) h2]
  | .pi x y, r, b, h => by
    have h2 : 0 ≤ (y.mapS (pinF A z) (x.mapS (pinF A z) r b).2 (b + 1)).2 := h
    have h1 := Int.le_trans h2 (put_down y _ (b + 1))
    simp only [Tm.mapS, Tm.put]
    rw [put_same hz x r b h1, put_same hz y _ (b + 1) h2]
  | .lett x y w, r, b, h => by
    have h3 : 0 ≤ (w.mapS (pinF A z) (y.mapS (pinF A z) (x.mapS (pinF A z) r b).2 b).2 (b + 1)).2 := h
    have h2 := Int.le_trans h3 (put_down w _ (b + 1))
    have h1 := Int.le_trans h2 (put_down y _ b)
    simp only [Tm.mapS, Tm.put]
    rw [put_same hz x r b h1, put_same hz y _ b h2, put_same hz w _ (b + 1) h3]
/-- What is put in counts. -/
theorem put_count {A : Tm} : ∀ (T : Tm) (r : Int) (b : Nat), r ≤ ((T.mapS (pinF A A.bytes.length) r b).1.bytes.length : Int) + (T.mapS (pinF A A.bytes.length) r b).2 ∧ r ≤ ((Tm.put A b T).bytes.length : Int) + (T.mapS (pinF A A.bytes.length) r b).2
  | .var n, r, b => by
    have hl := A.lift_grows b 0
    simp only [Tm.mapS, pinF, Tm.put]
    by_cases h1 : n < b
    · rw [if_pos h1, if_neg (by omega), if_neg (by omega)]; simp only; omega
    · rw [if_neg h1]
      by_cases h2 : b < n
      · rw [if_pos h2, if_neg (by omega), if_pos h2]; simp only; omega
      · rw [if_neg h2, if_pos (by omega : n = b)]
        by_cases h3 : r < 0
        · rw [if_pos h3]; simp only; omega
        · rw [if_neg h3]; simp only; omega
  | .sort _, r, b => by simp only [Tm.mapS, pinF, Tm.put]; omega
  | .const _ _, r, b => by simp only [Tm.mapS, pinF, Tm.put]; omega
  | .app x y, r, b => by
    obtain ⟨h1, h2⟩ := put_count (A := A) x r b
    obtain ⟨h3, h4⟩ := put_count (A := A) y (x.mapS (pinF A A.bytes.length) r b).2 b
    simp only [Tm.mapS, Tm.put, Tm.bytes, List.length_cons, List.length_append]; omega
  | .lam x y, r, b => by
    obtain ⟨h1, h2⟩ := put_count (A := A) x r b
    obtain ⟨h3, h4⟩ := put_count (A := A) y (x.mapS (pinF A A.bytes.length) r b).2 (b + 1)
    simp only [Tm.mapS, Tm.put, Tm.bytes, List.length_cons, List.length_append]; omega
  | .pi x y, r, b => by
    obtain ⟨h1, h2⟩ := put_count (A := A) x r b
    obtain ⟨h3, h4⟩ := put_count (A := A) y (x.mapS (pinF A A.bytes.length) r b).2 (b + 1)
    simp only [Tm.mapS, Tm.put, Tm.bytes, List.length_cons, List.length_append]; omega
  | .lett x y w, r, b => by
    obtain ⟨h1, h2⟩ := put_count (A := A) x r b
    obtain ⟨h3, h4⟩ := put_count (A := A) y (x.mapS (pinF A A.bytes.length) r b).2 b
    obtain ⟨h5, h6⟩ := put_count (A := A) w (y.mapS (pinF A A.bytes.length) (x.mapS (pinF A A.bytes.length) r b).2 b).2 (b + 1)
    simp only [Tm.mapS, Tm.put, Tm.bytes, List.length_cons, List.length_append]; omega
theorem putIn_say {l m : List UInt8} {T A : Tm} (hT : IsTm l T) (hA : IsTm m A) : putIn l m = sayT (some []) (T.mapS (pinF A m.length) 2000 0).1 := by
  have e : m.length = A.bytes.length := by rw [hA.2.1]
  have hz := A.bytes_pos
  obtain ⟨h1, h2⟩ := put_count (A := A) T 2000 0
  rw [putIn, termOf_some hT, termOf_some hA, e]
  show sayT (some []) (Tm.put A 0 T) = _
  by_cases h0 : 0 ≤ (T.mapS (pinF A A.bytes.length) 2000 0).2
  · rw [put_same hz T 2000 0 h0]
  · rw [(sayT_nil _).2 (fun h => by have := h.2; omega), (sayT_nil _).2 (fun h => by have := h.2; omega)]

/-- What TermLevels does with a leaf. -/
def lvF (args : List (List UInt8)) : Unit → Tm → Nat → Tm × Unit
  | _, .sort l, _ => (.sort ((levelPut l args).getD []), ())
  | _, .const n ls, _ => (.const n (ls.map fun l => (levelPut l args).getD []), ())
  | _, t, _ => (t, ())
theorem mapM_some {args : List (List UInt8)} : ∀ {ls r : List (List UInt8)}, (ls.mapM fun l => levelPut l args) = some r → (ls.map fun l => (levelPut l args).getD []) = r
  | [], r, h => by simp at h; subst h; rfl
  | l :: ls, r, h => by
    rw [List.mapM_cons] at h
    obtain ⟨x, hx, h2⟩ := Option.bind_eq_some_iff.1 h
    obtain ⟨r', hr, h3⟩ := Option.bind_eq_some_iff.1 h2
    cases h3
    rw [List.map_cons, hx, mapM_some hr]
    rfl
theorem mapM_none {args : List (List UInt8)} : ∀ {ls : List (List UInt8)}, (ls.mapM fun l => levelPut l args) = none → ∃ l ∈ ls, levelPut l args = none
  | [], h => by simp at h
  | l :: ls, h => by
    cases hx : levelPut l args with
    | none => exact ⟨l, List.mem_cons_self, hx⟩
    | some x =>
      rw [List.mapM_cons, hx] at h
      cases hr : (ls.mapM fun l => levelPut l args) with
      | none =>
        obtain ⟨y, hy, h3⟩ := mapM_none hr
        exact ⟨y, List.mem_cons_of_mem _ hy, h3⟩
      | some r => rw [hr] at h; cases h
theorem levelOk_nil : levelOk [] = false := by
  cases h : levelOk [] with
  | false => rfl
  | true => exact absurd rfl (levelOk_ne h)
theorem mapS_lvs (args : List (List UInt8)) : ∀ (T : Tm) (b : Nat), (∀ T', T.lvs args = some T' → (T.mapS (lvF args) () b).1 = T') ∧ (T.lvs args = none → ¬ (T.mapS (lvF args) () b).1.Ok)
  | .var n, b => ⟨fun T' h => by cases h; rfl, fun h => by cases h⟩
  | .sort l, b => by
    cases hx : levelPut l args with
    | none =>
      refine ⟨fun T' h => ?_, fun _ hk => ?_⟩
      · rw [Tm.lvs, hx] at h; cases h
      · have h1 : levelOk ((levelPut l args).getD []) = true := hk
        rw [hx] at h1
        exact absurd h1 (by rw [Option.getD_none, levelOk_nil]; decide)
    | some x =>
      refine ⟨fun T' h => ?_, fun h => ?_⟩
      · rw [Tm.lvs, hx] at h
        cases h
        show Tm.sort ((levelPut l args).getD []) = _
        rw [hx]; rfl
      · rw [Tm.lvs, hx] at h; cases h
  | .const n ls, b => by
    cases hx : (ls.mapM fun l => levelPut l args) with
    | none =>
      refine ⟨fun T' h => ?_, fun _ hk => ?_⟩
      · rw [Tm.lvs, hx] at h; cases h
      · obtain ⟨y, hy, h3⟩ := mapM_none hx
        have h1 : ∀ x ∈ ls.map (fun l => (levelPut l args).getD []), levelOk x = true := hk.2.2
        have h2 := h1 [] (List.mem_map.2 ⟨y, hy, by rw [h3]; rfl⟩)
        rw [levelOk_nil] at h2
        cases h2
    | some x =>
      refine ⟨fun T' h => ?_, fun h => ?_⟩
      · rw [Tm.lvs, hx] at h
        cases h
        show Tm.const n (ls.map fun l => (levelPut l args).getD []) = _
        rw [mapM_some hx]
      · rw [Tm.lvs, hx] at h; cases h
  | .app x y, b => by
    obtain ⟨p1, p2⟩ := mapS_lvs args x b
    obtain ⟨q1, q2⟩ := mapS_lvs args y b
    simp only [Tm.lvs, Tm.mapS]
    cases hx : x.lvs args with
    | none => exact ⟨(fun T' h => by cases h), fun _ hk => p2 hx hk.1⟩
    | some x' =>
      cases hy : y.lvs args with
      | none => exact ⟨(fun T' h => by cases h), fun _ hk => q2 hy hk.2⟩
      | some y' => exact ⟨(fun T' h => by cases h; rw [p1 _ hx, q1 _ hy]), (fun h => by cases h)⟩
  | .lam x y, b => by
    obtain ⟨p1, p2⟩ := mapS_lvs args x b
    obtain ⟨q1, q2⟩ := mapS_lvs args y (b + 1)
    simp only [Tm.lvs, Tm.mapS]
    cases hx : x.lvs args with
    | none => exact ⟨(fun T' h => by cases h), fun _ hk => p2 hx hk.1⟩
    | some x' =>
      cases hy : y.lvs args with
      | none => exact ⟨(fun T' h => by cases h), fun _ hk => q2 hy hk.2⟩
      | some y' => exact ⟨(fun T' h => by cases h; rw [p1 _ hx, q1 _ hy]), (fun h => by cases h)⟩
  | .pi x y, b => by
    obtain ⟨p1, p2⟩ := mapS_lvs args x b
    obtain ⟨q1, q2⟩ := mapS_lvs args y (b + 1)
    simp only [Tm.lvs, Tm.mapS]
    cases hx : x.lvs args with
    | none => exact ⟨(fun T' h => by cases h), fun _ hk => p2 hx hk.1⟩
    | some x' =>
      cases hy : y.lvs args with
      | none => exact ⟨(fun T' h => by cases h), fun _ hk => q2 hy hk.2⟩
      | some y' => exact ⟨(fun T' h => by cases h; rw [p1 _ hx, q1 _ hy]), (fun h => by cases h)⟩
  | .lett x y z, b => by
    obtain ⟨p1, p2⟩ := mapS_lvs args x b
    obtain ⟨q1, q2⟩ := mapS_lvs args y b
    obtain ⟨r1, r2⟩ := mapS_lvs args z (b + 1)
    simp only [Tm.lvs, Tm.mapS]
    cases hx : x.lvs args with
    | none => exact ⟨(fun T' h => by cases h), fun _ hk => p2 hx hk.1⟩
    | some x' =>
      cases hy : y.lvs args with
      | none => exact ⟨(fun T' h => by cases h), fun _ hk => q2 hy hk.2.1⟩
      | some y' =>
        cases hz : z.lvs args with
        | none => exact ⟨(fun T' h => by cases h), fun _ hk => r2 hz hk.2.2⟩
        | some z' => exact ⟨(fun T' h => by cases h; rw [p1 _ hx, q1 _ hy, r1 _ hz]), (fun h => by cases h)⟩
theorem termLevels_say {l : List UInt8} {T : Tm} {args : List (List UInt8)} (hT : IsTm l T) (ha : args.length ≤ 3) : termLevels l args = sayT (some []) (T.mapS (lvF args) () 0).1 := by
  obtain ⟨h1, h2⟩ := mapS_lvs args T 0
  rw [termLevels, termOf_some hT]
  show (if args.length ≤ 3 then _ else _) = _
  rw [if_pos ha]
  cases hx : T.lvs args with
  | none => rw [(sayT_nil _).2 (fun h => h2 hx h.1)]; rfl
  | some T' =>
    rw [h1 _ hx]
    have hk := (lvs_ok T T' hT.1 hx).1
    show (if T'.bytes.length ≤ 2000 then some T'.bytes else none) = _
    by_cases hl : T'.bytes.length ≤ 2000
    · rw [if_pos hl, (sayT_nil T').1 ⟨hk, hl⟩]
    · rw [if_neg hl, (sayT_nil T').2 (fun h => hl h.2)]
/-- Leaves that PutIn, Lifted and TermLevels make. -/
theorem lift_leaf {a c B : Nat} (hB : B ≤ 3000) (ha : a ≤ 3000) : ∀ (s : Unit) (t : Tm) (b : Nat), t.OkLeaf B b → (liftF a c s t b).1.Pre ∧ (liftF a c s t b).1.Lim 9999 ∧ (liftF a c s t b).1.bytes.length ≤ 2000 * t.bytes.length := by
  rintro s t b ⟨hb, ⟨n, hn, rfl⟩ | ⟨l, hl, rfl⟩ | ⟨n, ls, hk, rfl⟩⟩
  · refine ⟨trivial, ?_, ?_⟩
    · show (if c + b ≤ n then n + a else n) ≤ 9999
      split <;> omega
    · have := Tm.lift_len2 (a := a) (m := 999) (by omega) (.var n) (c + b) hn
      show ((Tm.var n).lift a (c + b)).bytes.length ≤ _
      omega
  · exact ⟨(level_clean hl).1, trivial, by show (Tm.sort l).bytes.length ≤ _; omega⟩
  · exact ⟨Tm.Ok.pre (t := .const n ls) hk, trivial, by show (Tm.const n ls).bytes.length ≤ _; omega⟩
theorem put_leaf {A : Tm} {z B : Nat} (hA : A.Ok) (hl : A.bytes.length ≤ 2000) (hB : B ≤ 3000) : ∀ (s : Int) (t : Tm) (b : Nat), t.OkLeaf B b → (pinF A z s t b).1.Pre ∧ (pinF A z s t b).1.Lim 9999 ∧ (pinF A z s t b).1.bytes.length ≤ 2000 * t.bytes.length := by
  rintro s t b ⟨hb, ⟨n, hn, rfl⟩ | ⟨l, hl2, rfl⟩ | ⟨n, ls, hk, rfl⟩⟩
  · have h3 : 3 ≤ (Tm.var n).bytes.length := by have := digits_pos n; simp only [Tm.bytes, List.length_cons, List.length_append, List.length_nil]; omega
    simp only [pinF]
    split
    · exact ⟨trivial, (by show n ≤ 9999; omega), by simp only; omega⟩
    · split
      · refine ⟨trivial, (by show n - 1 ≤ 9999; omega), ?_⟩
        have := digits_four (n := n - 1) (by omega)
        simp only [Tm.bytes, List.length_cons, List.length_append, List.length_nil] at h3 ⊢
        omega
      · split
        · exact ⟨trivial, (by show n ≤ 9999; omega), by simp only; omega⟩
        · have := Tm.lift_len2 (a := b) (m := 999) (by omega) A 0 hA.lim
          exact ⟨Tm.lift_pre b A 0 hA.pre, Tm.Lim.mono (by omega : 999 + b ≤ 9999) (Tm.lift_lim A 0 hA.lim), by simp only; omega⟩
  · exact ⟨(level_clean hl2).1, trivial, by show (Tm.sort l).bytes.length ≤ _; omega⟩
  · exact ⟨Tm.Ok.pre (t := .const n ls) hk, trivial, by show (Tm.const n ls).bytes.length ≤ _; omega⟩
theorem put_clean (l : List UInt8) (args : List (List UInt8)) : (46 : UInt8) ∉ (levelPut l args).getD [] ∧ (44 : UInt8) ∉ (levelPut l args).getD [] ∧ ((levelPut l args).getD []).length ≤ 60 := by
  cases hx : levelPut l args with
  | none => simp
  | some x =>
    have h1 := (levelPut_ok hx).1
    exact ⟨(level_clean h1).1, (level_clean h1).2, (levelOk_len h1).1⟩
theorem lvsB_short : ∀ {ls : List (List UInt8)}, (∀ y ∈ ls, y.length ≤ 60) → (lvsB ls).length ≤ ls.length * 61
  | [], _ => by simp [lvsB]
  | x :: r, h => by
    have h1 := h x List.mem_cons_self
    have h2 := lvsB_short (ls := r) fun y hy => h y (List.mem_cons_of_mem _ hy)
    simp only [lvsB, List.length_append, List.length_cons]
    omega
theorem lv_leaf {args : List (List UInt8)} {B : Nat} : ∀ (s : Unit) (t : Tm) (b : Nat), t.OkLeaf B b → (lvF args s t b).1.Pre ∧ (lvF args s t b).1.Lim 9999 ∧ (lvF args s t b).1.bytes.length ≤ 2000 * t.bytes.length := by
  rintro s t b ⟨hb, ⟨n, hn, rfl⟩ | ⟨l, hl, rfl⟩ | ⟨n, ls, hk, rfl⟩⟩
  · exact ⟨trivial, (by show n ≤ 9999; omega), by show (Tm.var n).bytes.length ≤ _; omega⟩
  · obtain ⟨h1, h2, h3⟩ := put_clean l args
    refine ⟨h1, trivial, ?_⟩
    simp only [lvF, Tm.bytes, List.length_cons, List.length_append, List.length_nil]
    omega
  · refine ⟨⟨name_no59 hk.1, fun x hx => ?_⟩, trivial, ?_⟩
    · obtain ⟨y, _, rfl⟩ := List.mem_map.1 hx
      exact ⟨(put_clean y args).1, (put_clean y args).2.1⟩
    · have h3 : ls.length ≤ 3 := hk.2.1
      have h4 := lvsB_short (ls := ls.map fun l => (levelPut l args).getD []) (fun x hx => by
        obtain ⟨y, _, rfl⟩ := List.mem_map.1 hx
        exact (put_clean y args).2.2)
      rw [List.length_map] at h4
      have h5 : ls.length * 61 ≤ 183 := by omega
      simp only [lvF, Tm.bytes, List.length_cons, List.length_append, List.length_nil]
      omega
end Go.Proofs.YtnklajagefedmaaGreatDoor

namespace Go.Proofs.YtnklajagefedmaaGreatDoor
set_option maxRecDepth 100000
open Go.ChangeShapes Go.WideShapes Go.ChangeAt Go.RowKit
set_option linter.unusedSimpArgs false

/-- The method copied of values of this type is this function. -/
def MethC (T : TypeId) (fn : FuncId) : Prop :=
  (∀ n x w, (method (n + 1) T x "loop.example/g00963/impl.copied").run Tryz.prog w = .ok (fn, x) w) ∧ ∀ args w, (callFunc fn args).run Tryz.prog w = .ok (.enter fn args) w
theorem methCVar : MethC 70 111 :=
  ⟨fun n x w => by kernel_rfl, Go.Proofs.enters_of Tryz.func111 (by kernel_rfl) rfl⟩
theorem methCSort : MethC 40 107 :=
  ⟨fun n x w => by kernel_rfl, Go.Proofs.enters_of Tryz.func107 (by kernel_rfl) rfl⟩
theorem methCConst : MethC 44 109 :=
  ⟨fun n x w => by kernel_rfl, Go.Proofs.enters_of Tryz.func109 (by kernel_rfl) rfl⟩
theorem methCApp : MethC 77 113 :=
  ⟨fun n x w => by kernel_rfl, Go.Proofs.enters_of Tryz.func113 (by kernel_rfl) rfl⟩
theorem methCLam : MethC 80 116 :=
  ⟨fun n x w => by kernel_rfl, Go.Proofs.enters_of Tryz.func116 (by kernel_rfl) rfl⟩
theorem methCPi : MethC 83 118 :=
  ⟨fun n x w => by kernel_rfl, Go.Proofs.enters_of Tryz.func118 (by kernel_rfl) rfl⟩
theorem methCLet : MethC 86 120 :=
  ⟨fun n x w => by kernel_rfl, Go.Proofs.enters_of Tryz.func120 (by kernel_rfl) rfl⟩

/-- A tree in memory, and what a change of leaves keeps. -/
def CopAns {σ : Type} (I : σ → World → Prop) (row : Option Nat) (W : World) (r : Tm × σ) (e : Ending) (W' : World) : Prop :=
  ∃ T x, e = .returned (.iface T x) ∧ IRep W' r.1 (.iface T x) ∧ I r.2 W' ∧ W.grownBy W' row
/-- The function changes leaves that satisfy P as f says, with the state that I says of memory; of old blocks it changes only the row's. -/
structure LeafOk {σ : Type} (f : σ → Tm → Nat → Tm × σ) (I : σ → World → Prop) (row : Option Nat) (P : Tm → Nat → Prop) (F : FuncId) (cap : Array Value) : Prop where
  enters : ∀ args w, (callFunc F args).run Tryz.prog w = .ok (.enter F args) w
  leaf : ∀ t v W s b, P t b → I s W → IRep W t v → Calls Tryz.prog F (#[v, .int .i64 (b : Int)] ++ cap) W (CopAns I row W (f s t b))
  below : ∀ s W W', I s W → Below W.heap.size W W' → I s W'
  free : ∀ s W, I s W → NoStr W row

theorem copVar {F : FuncId} {cap : Array Value} {g : Nat} {b : Int} {W : World} {Q : Ending → World → Prop}
    (m2 : ∀ args w, (callFunc F args).run Tryz.prog w = .ok (.enter F args) w) (hc : Calls Tryz.prog F (#[.iface 70 (.pointer (some ⟨g, 0, none⟩)), .int .i64 b] ++ cap) W fun e w' => (∃ T x, e = .returned (.iface T x)) ∧ Q e w') :
    Calls Tryz.prog 111 #[.pointer (some ⟨g, 0, none⟩), .int .i64 b, .func (.func F) #[] cap] W Q := by
  have f1 := Lib.hid hc
  clear hc
  go_enter Tryz.func111, Tryz.ntmps111
  go_wp2_with fail
  (with_reducible refine f1.out.mono ?_); rintro e w1 ⟨⟨T, x, rfl⟩, hq⟩
  go_wp2
  exact hq
theorem copSort {F : FuncId} {cap : Array Value} {g : Nat} {b : Int} {W : World} {Q : Ending → World → Prop}
    (m2 : ∀ args w, (callFunc F args).run Tryz.prog w = .ok (.enter F args) w) (hc : Calls Tryz.prog F (#[.iface 40 (.pointer (some ⟨g, 0, none⟩)), .int .i64 b] ++ cap) W fun e w' => (∃ T x, e = .returned (.iface T x)) ∧ Q e w') :
    Calls Tryz.prog 107 #[.pointer (some ⟨g, 0, none⟩), .int .i64 b, .func (.func F) #[] cap] W Q := by
  have f1 := Lib.hid hc
  clear hc
  go_enter Tryz.func107, Tryz.ntmps107
  go_wp2_with fail
  (with_reducible refine f1.out.mono ?_); rintro e w1 ⟨⟨T, x, rfl⟩, hq⟩
  go_wp2
  exact hq
theorem copConst {F : FuncId} {cap : Array Value} {g : Nat} {b : Int} {W : World} {Q : Ending → World → Prop}
    (m2 : ∀ args w, (callFunc F args).run Tryz.prog w = .ok (.enter F args) w) (hc : Calls Tryz.prog F (#[.iface 44 (.pointer (some ⟨g, 0, none⟩)), .int .i64 b] ++ cap) W fun e w' => (∃ T x, e = .returned (.iface T x)) ∧ Q e w') :
    Calls Tryz.prog 109 #[.pointer (some ⟨g, 0, none⟩), .int .i64 b, .func (.func F) #[] cap] W Q := by
  have f1 := Lib.hid hc
  clear hc
  go_enter Tryz.func109, Tryz.ntmps109
  go_wp2_with fail
  (with_reducible refine f1.out.mono ?_); rintro e w1 ⟨⟨T, x, rfl⟩, hq⟩
  go_wp2
  exact hq
end Go.Proofs.YtnklajagefedmaaGreatDoor

namespace Go.Proofs.YtnklajagefedmaaGreatDoor
set_option maxRecDepth 100000
open Go.ChangeShapes Go.WideShapes Go.ChangeAt Go.RowKit
set_option linter.unusedSimpArgs false
set_option linter.unusedVariables false

set_option maxHeartbeats 4000000 in
theorem copApp {σ : Type} {f : σ → Tm → Nat → Tm × σ} {I : σ → World → Prop} {row : Option Nat} (hbel : ∀ s W W', I s W → Below W.heap.size W W' → I s W') (hfree : ∀ s W, I s W → NoStr W row)
    {t0 t1 : Tm} {T0 T1 : TypeId} {x0 x1 fv : Value} {fn0 fn1 : FuncId} {g b : Nat} {W : World} {s : σ}
    (hg : W.heap[g]? = some (.cells #[.iface T0 x0, .iface T1 x1] 79 (0, 0))) (hb : b ≤ 1000000)
    (m0 : MethC T0 fn0) (k0 : ∀ W s, I s W → IRep W t0 (.iface T0 x0) → Calls Tryz.prog fn0 #[x0, .int .i64 ((b : Nat) : Int), fv] W (CopAns I row W (t0.mapS f s b))) (h0 : IRep W t0 (.iface T0 x0))
    (m1 : MethC T1 fn1) (k1 : ∀ W s, I s W → IRep W t1 (.iface T1 x1) → Calls Tryz.prog fn1 #[x1, .int .i64 ((b : Nat) : Int), fv] W (CopAns I row W (t1.mapS f s b))) (h1 : IRep W t1 (.iface T1 x1))
    (hI : I s W) :
    Calls Tryz.prog 113 #[.pointer (some ⟨g, 0, none⟩), .int .i64 (b : Int), fv] W (CopAns I row W (Tm.mapS f (.app t0 t1) s b)) := by
  obtain ⟨ma0, mb0⟩ := m0
  obtain ⟨ma1, mb1⟩ := m1
  have HBX : Hid (∀ w', W.grownBy w' row → w'.cell? ⟨g, 0, none⟩ = some (.iface T0 x0) ∧ w'.cell? ⟨g, 1, none⟩ = some (.iface T1 x1)) := fun w' hw' => by
    have := heap_grown hw' (hfree s W hI) (by decide) hg
    exact ⟨by rw [Lib.cell_of_heap this]; rfl, by rw [Lib.cell_of_heap this]; rfl⟩
  have HD : Hid (W.grownBy W.drew row) := grownBy_of_below (below_drewN (Below.refl _ _) 1) _
  have HI0 : Hid (I s W.drew) := hbel s W _ hI (below_drewN (Below.refl _ _) 1)
  have HR0 : Hid (IRep W.drew t0 (.iface T0 x0)) := h0.below (below_drewN (Below.refl _ _) 1)
  have HR1 : Hid (IRep W.drew t1 (.iface T1 x1)) := h1.below (below_drewN (Below.refl _ _) 1)
  have X0 := HBX.out W (World.grownBy.refl _ _)
  have hbel' := Lib.hid hbel
  have hfree' := Lib.hid hfree
  have K0 := Lib.hid k0
  have K1 := Lib.hid k1
  have HE : Hid (Tm.mapS f (.app t0 t1) s b = (.app (t0.mapS f s b).1 (t1.mapS f (t0.mapS f s b).2 b).1, (t1.mapS f (t0.mapS f s b).2 b).2)) := rfl
  rw [HE.out]
  have KK0 := Lib.hid (K0.out)
  have KK1 := Lib.hid (K1.out)
  clear h0 h1 k0 k1 KK0 KK1 hI hbel hfree hg HE
  go_enter Tryz.func113, Tryz.ntmps113
  go_wp2_with fail
  go_region_held3 (fun w' => w'.cell? ⟨g, 0, none⟩ = some (.iface T0 x0) ∧ w'.cell? ⟨g, 1, none⟩ = some (.iface T1 x1)) (first | exact X0 | exact X1 | exact X2 | exact X3)
    (first
      | (go_at_fn fn0; (with_reducible refine (K0.out _ _ HI0.out HR0.out).mono ?_); rintro e w1 ⟨U0, y0, rfl, q0, hI1, hG1⟩; have G1 := HD.out.trans hG1; have X1 := HBX.out _ G1; have HR1c1 := Lib.hid (HR1.out.grown hG1 (hfree'.out _ _ HI0.out)))
      | (go_at_fn fn1; (with_reducible refine (K1.out _ _ hI1 HR1c1.out).mono ?_); rintro e w2 ⟨U1, y1, rfl, q1, hI2, hG2⟩; have G2 := G1.trans hG2; have X2 := HBX.out _ G2; have q0c2 := q0.grown hG2 (hfree'.out _ _ hI1); have X3 := HBX.out (w2.alloc (.cells #[.iface U0 y0, .iface U1 y1] 79)) (G2.trans (alloc_grown _ _ _))))
  go_wp2
  go_ret
  have BA := Below.alloc (Below.refl w2.heap.size w2) (Nat.le_refl _) (.cells #[.iface U0 y0, .iface U1 y1] 79)
  exact ⟨_, _, rfl, ⟨w2.heap.size, _, _, rfl, heap_alloc_new _ _, q0c2.below BA, q1.below BA⟩, hbel'.out _ _ _ hI2 BA, G2.trans (alloc_grown _ _ _)⟩

set_option maxHeartbeats 4000000 in
theorem copLam {σ : Type} {f : σ → Tm → Nat → Tm × σ} {I : σ → World → Prop} {row : Option Nat} (hbel : ∀ s W W', I s W → Below W.heap.size W W' → I s W') (hfree : ∀ s W, I s W → NoStr W row)
    {t0 t1 : Tm} {T0 T1 : TypeId} {x0 x1 fv : Value} {fn0 fn1 : FuncId} {g b : Nat} {W : World} {s : σ}
    (hg : W.heap[g]? = some (.cells #[.iface T0 x0, .iface T1 x1] 82 (0, 0))) (hb : b ≤ 1000000)
    (m0 : MethC T0 fn0) (k0 : ∀ W s, I s W → IRep W t0 (.iface T0 x0) → Calls Tryz.prog fn0 #[x0, .int .i64 ((b : Nat) : Int), fv] W (CopAns I row W (t0.mapS f s b))) (h0 : IRep W t0 (.iface T0 x0))
    (m1 : MethC T1 fn1) (k1 : ∀ W s, I s W → IRep W t1 (.iface T1 x1) → Calls Tryz.prog fn1 #[x1, .int .i64 (((b + 1) : Nat) : Int), fv] W (CopAns I row W (t1.mapS f s (b + 1)))) (h1 : IRep W t1 (.iface T1 x1))
    (hI : I s W) :
    Calls Tryz.prog 116 #[.pointer (some ⟨g, 0, none⟩), .int .i64 (b : Int), fv] W (CopAns I row W (Tm.mapS f (.lam t0 t1) s b)) := by
  obtain ⟨ma0, mb0⟩ := m0
  obtain ⟨ma1, mb1⟩ := m1
  have hw : IntKind.i64.wrap ((b : Int) + 1) = (b : Int) + 1 := IntWalk.i64_in _ (by omega)
  rw [show ((b + 1 : Nat) : Int) = (b : Int) + 1 by omega] at k1
  have HBX : Hid (∀ w', W.grownBy w' row → w'.cell? ⟨g, 0, none⟩ = some (.iface T0 x0) ∧ w'.cell? ⟨g, 1, none⟩ = some (.iface T1 x1)) := fun w' hw' => by
    have := heap_grown hw' (hfree s W hI) (by decide) hg
    exact ⟨by rw [Lib.cell_of_heap this]; rfl, by rw [Lib.cell_of_heap this]; rfl⟩
  have HD : Hid (W.grownBy W.drew row) := grownBy_of_below (below_drewN (Below.refl _ _) 1) _
  have HI0 : Hid (I s W.drew) := hbel s W _ hI (below_drewN (Below.refl _ _) 1)
  have HR0 : Hid (IRep W.drew t0 (.iface T0 x0)) := h0.below (below_drewN (Below.refl _ _) 1)
  have HR1 : Hid (IRep W.drew t1 (.iface T1 x1)) := h1.below (below_drewN (Below.refl _ _) 1)
  have X0 := HBX.out W (World.grownBy.refl _ _)
  have hbel' := Lib.hid hbel
  have hfree' := Lib.hid hfree
  have K0 := Lib.hid k0
  have K1 := Lib.hid k1
  have HE : Hid (Tm.mapS f (.lam t0 t1) s b = (.lam (t0.mapS f s b).1 (t1.mapS f (t0.mapS f s b).2 (b + 1)).1, (t1.mapS f (t0.mapS f s b).2 (b + 1)).2)) := rfl
  rw [HE.out]
  have KK0 := Lib.hid (K0.out)
  have KK1 := Lib.hid (K1.out)
  clear h0 h1 k0 k1 KK0 KK1 hI hbel hfree hg HE
  go_enter Tryz.func116, Tryz.ntmps116
  go_wp2_with fail
  go_region_held3 (fun w' => w'.cell? ⟨g, 0, none⟩ = some (.iface T0 x0) ∧ w'.cell? ⟨g, 1, none⟩ = some (.iface T1 x1)) (first | exact X0 | exact X1 | exact X2 | exact X3)
    (first
      | (go_at_fn fn0; (with_reducible refine (K0.out _ _ HI0.out HR0.out).mono ?_); rintro e w1 ⟨U0, y0, rfl, q0, hI1, hG1⟩; have G1 := HD.out.trans hG1; have X1 := HBX.out _ G1; have HR1c1 := Lib.hid (HR1.out.grown hG1 (hfree'.out _ _ HI0.out)))
      | (go_at_fn fn1; (with_reducible refine (K1.out _ _ hI1 HR1c1.out).mono ?_); rintro e w2 ⟨U1, y1, rfl, q1, hI2, hG2⟩; have G2 := G1.trans hG2; have X2 := HBX.out _ G2; have q0c2 := q0.grown hG2 (hfree'.out _ _ hI1); have X3 := HBX.out (w2.alloc (.cells #[.iface U0 y0, .iface U1 y1] 82)) (G2.trans (alloc_grown _ _ _))))
  go_wp2
  go_ret
  have BA := Below.alloc (Below.refl w2.heap.size w2) (Nat.le_refl _) (.cells #[.iface U0 y0, .iface U1 y1] 82)
  exact ⟨_, _, rfl, ⟨w2.heap.size, _, _, rfl, heap_alloc_new _ _, q0c2.below BA, q1.below BA⟩, hbel'.out _ _ _ hI2 BA, G2.trans (alloc_grown _ _ _)⟩

set_option maxHeartbeats 4000000 in
theorem copPi {σ : Type} {f : σ → Tm → Nat → Tm × σ} {I : σ → World → Prop} {row : Option Nat} (hbel : ∀ s W W', I s W → Below W.heap.size W W' → I s W') (hfree : ∀ s W, I s W → NoStr W row)
    {t0 t1 : Tm} {T0 T1 : TypeId} {x0 x1 fv : Value} {fn0 fn1 : FuncId} {g b : Nat} {W : World} {s : σ}
    (hg : W.heap[g]? = some (.cells #[.iface T0 x0, .iface T1 x1] 85 (0, 0))) (hb : b ≤ 1000000)
    (m0 : MethC T0 fn0) (k0 : ∀ W s, I s W → IRep W t0 (.iface T0 x0) → Calls Tryz.prog fn0 #[x0, .int .i64 ((b : Nat) : Int), fv] W (CopAns I row W (t0.mapS f s b))) (h0 : IRep W t0 (.iface T0 x0))
    (m1 : MethC T1 fn1) (k1 : ∀ W s, I s W → IRep W t1 (.iface T1 x1) → Calls Tryz.prog fn1 #[x1, .int .i64 (((b + 1) : Nat) : Int), fv] W (CopAns I row W (t1.mapS f s (b + 1)))) (h1 : IRep W t1 (.iface T1 x1))
    (hI : I s W) :
    Calls Tryz.prog 118 #[.pointer (some ⟨g, 0, none⟩), .int .i64 (b : Int), fv] W (CopAns I row W (Tm.mapS f (.pi t0 t1) s b)) := by
  obtain ⟨ma0, mb0⟩ := m0
  obtain ⟨ma1, mb1⟩ := m1
  have hw : IntKind.i64.wrap ((b : Int) + 1) = (b : Int) + 1 := IntWalk.i64_in _ (by omega)
  rw [show ((b + 1 : Nat) : Int) = (b : Int) + 1 by omega] at k1
  have HBX : Hid (∀ w', W.grownBy w' row → w'.cell? ⟨g, 0, none⟩ = some (.iface T0 x0) ∧ w'.cell? ⟨g, 1, none⟩ = some (.iface T1 x1)) := fun w' hw' => by
    have := heap_grown hw' (hfree s W hI) (by decide) hg
    exact ⟨by rw [Lib.cell_of_heap this]; rfl, by rw [Lib.cell_of_heap this]; rfl⟩
  have HD : Hid (W.grownBy W.drew row) := grownBy_of_below (below_drewN (Below.refl _ _) 1) _
  have HI0 : Hid (I s W.drew) := hbel s W _ hI (below_drewN (Below.refl _ _) 1)
  have HR0 : Hid (IRep W.drew t0 (.iface T0 x0)) := h0.below (below_drewN (Below.refl _ _) 1)
  have HR1 : Hid (IRep W.drew t1 (.iface T1 x1)) := h1.below (below_drewN (Below.refl _ _) 1)
  have X0 := HBX.out W (World.grownBy.refl _ _)
  have hbel' := Lib.hid hbel
  have hfree' := Lib.hid hfree
  have K0 := Lib.hid k0
  have K1 := Lib.hid k1
  have HE : Hid (Tm.mapS f (.pi t0 t1) s b = (.pi (t0.mapS f s b).1 (t1.mapS f (t0.mapS f s b).2 (b + 1)).1, (t1.mapS f (t0.mapS f s b).2 (b + 1)).2)) := rfl
  rw [HE.out]
  have KK0 := Lib.hid (K0.out)
  have KK1 := Lib.hid (K1.out)
  clear h0 h1 k0 k1 KK0 KK1 hI hbel hfree hg HE
  go_enter Tryz.func118, Tryz.ntmps118
  go_wp2_with fail
  go_region_held3 (fun w' => w'.cell? ⟨g, 0, none⟩ = some (.iface T0 x0) ∧ w'.cell? ⟨g, 1, none⟩ = some (.iface T1 x1)) (first | exact X0 | exact X1 | exact X2 | exact X3)
    (first
      | (go_at_fn fn0; (with_reducible refine (K0.out _ _ HI0.out HR0.out).mono ?_); rintro e w1 ⟨U0, y0, rfl, q0, hI1, hG1⟩; have G1 := HD.out.trans hG1; have X1 := HBX.out _ G1; have HR1c1 := Lib.hid (HR1.out.grown hG1 (hfree'.out _ _ HI0.out)))
      | (go_at_fn fn1; (with_reducible refine (K1.out _ _ hI1 HR1c1.out).mono ?_); rintro e w2 ⟨U1, y1, rfl, q1, hI2, hG2⟩; have G2 := G1.trans hG2; have X2 := HBX.out _ G2; have q0c2 := q0.grown hG2 (hfree'.out _ _ hI1); have X3 := HBX.out (w2.alloc (.cells #[.iface U0 y0, .iface U1 y1] 85)) (G2.trans (alloc_grown _ _ _))))
  go_wp2
  go_ret
  have BA := Below.alloc (Below.refl w2.heap.size w2) (Nat.le_refl _) (.cells #[.iface U0 y0, .iface U1 y1] 85)
  exact ⟨_, _, rfl, ⟨w2.heap.size, _, _, rfl, heap_alloc_new _ _, q0c2.below BA, q1.below BA⟩, hbel'.out _ _ _ hI2 BA, G2.trans (alloc_grown _ _ _)⟩

set_option maxHeartbeats 4000000 in
theorem copLet {σ : Type} {f : σ → Tm → Nat → Tm × σ} {I : σ → World → Prop} {row : Option Nat} (hbel : ∀ s W W', I s W → Below W.heap.size W W' → I s W') (hfree : ∀ s W, I s W → NoStr W row)
    {t0 t1 t2 : Tm} {T0 T1 T2 : TypeId} {x0 x1 x2 fv : Value} {fn0 fn1 fn2 : FuncId} {g b : Nat} {W : World} {s : σ}
    (hg : W.heap[g]? = some (.cells #[.iface T0 x0, .iface T1 x1, .iface T2 x2] 88 (0, 0))) (hb : b ≤ 1000000)
    (m0 : MethC T0 fn0) (k0 : ∀ W s, I s W → IRep W t0 (.iface T0 x0) → Calls Tryz.prog fn0 #[x0, .int .i64 ((b : Nat) : Int), fv] W (CopAns I row W (t0.mapS f s b))) (h0 : IRep W t0 (.iface T0 x0))
    (m1 : MethC T1 fn1) (k1 : ∀ W s, I s W → IRep W t1 (.iface T1 x1) → Calls Tryz.prog fn1 #[x1, .int .i64 ((b : Nat) : Int), fv] W (CopAns I row W (t1.mapS f s b))) (h1 : IRep W t1 (.iface T1 x1))
    (m2 : MethC T2 fn2) (k2 : ∀ W s, I s W → IRep W t2 (.iface T2 x2) → Calls Tryz.prog fn2 #[x2, .int .i64 (((b + 1) : Nat) : Int), fv] W (CopAns I row W (t2.mapS f s (b + 1)))) (h2 : IRep W t2 (.iface T2 x2))
    (hI : I s W) :
    Calls Tryz.prog 120 #[.pointer (some ⟨g, 0, none⟩), .int .i64 (b : Int), fv] W (CopAns I row W (Tm.mapS f (.lett t0 t1 t2) s b)) := by
  obtain ⟨ma0, mb0⟩ := m0
  obtain ⟨ma1, mb1⟩ := m1
  obtain ⟨ma2, mb2⟩ := m2
  have hw : IntKind.i64.wrap ((b : Int) + 1) = (b : Int) + 1 := IntWalk.i64_in _ (by omega)
  rw [show ((b + 1 : Nat) : Int) = (b : Int) + 1 by omega] at k2
  have HBX : Hid (∀ w', W.grownBy w' row → w'.cell? ⟨g, 0, none⟩ = some (.iface T0 x0) ∧ w'.cell? ⟨g, 1, none⟩ = some (.iface T1 x1) ∧ w'.cell? ⟨g, 2, none⟩ = some (.iface T2 x2)) := fun w' hw' => by
    have := heap_grown hw' (hfree s W hI) (by decide) hg
    exact ⟨by rw [Lib.cell_of_heap this]; rfl, by rw [Lib.cell_of_heap this]; rfl, by rw [Lib.cell_of_heap this]; rfl⟩
  have HD : Hid (W.grownBy W.drew row) := grownBy_of_below (below_drewN (Below.refl _ _) 1) _
  have HI0 : Hid (I s W.drew) := hbel s W _ hI (below_drewN (Below.refl _ _) 1)
  have HR0 : Hid (IRep W.drew t0 (.iface T0 x0)) := h0.below (below_drewN (Below.refl _ _) 1)
  have HR1 : Hid (IRep W.drew t1 (.iface T1 x1)) := h1.below (below_drewN (Below.refl _ _) 1)
  have HR2 : Hid (IRep W.drew t2 (.iface T2 x2)) := h2.below (below_drewN (Below.refl _ _) 1)
  have X0 := HBX.out W (World.grownBy.refl _ _)
  have hbel' := Lib.hid hbel
  have hfree' := Lib.hid hfree
  have K0 := Lib.hid k0
  have K1 := Lib.hid k1
  have K2 := Lib.hid k2
  have HE : Hid (Tm.mapS f (.lett t0 t1 t2) s b = (.lett (t0.mapS f s b).1 (t1.mapS f (t0.mapS f s b).2 b).1 (t2.mapS f (t1.mapS f (t0.mapS f s b).2 b).2 (b + 1)).1, (t2.mapS f (t1.mapS f (t0.mapS f s b).2 b).2 (b + 1)).2)) := rfl
  rw [HE.out]
  have KK0 := Lib.hid (K0.out)
  have KK1 := Lib.hid (K1.out)
  have KK2 := Lib.hid (K2.out)
  clear h0 h1 h2 k0 k1 k2 KK0 KK1 KK2 hI hbel hfree hg HE
  go_enter Tryz.func120, Tryz.ntmps120
  go_wp2_with fail
  go_region_held3 (fun w' => w'.cell? ⟨g, 0, none⟩ = some (.iface T0 x0) ∧ w'.cell? ⟨g, 1, none⟩ = some (.iface T1 x1) ∧ w'.cell? ⟨g, 2, none⟩ = some (.iface T2 x2)) (first | exact X0 | exact X1 | exact X2 | exact X3 | exact X4)
    (first
      | (go_at_fn fn0; (with_reducible refine (K0.out _ _ HI0.out HR0.out).mono ?_); rintro e w1 ⟨U0, y0, rfl, q0, hI1, hG1⟩; have G1 := HD.out.trans hG1; have X1 := HBX.out _ G1; have HR1c1 := Lib.hid (HR1.out.grown hG1 (hfree'.out _ _ HI0.out)); have HR2c1 := Lib.hid (HR2.out.grown hG1 (hfree'.out _ _ HI0.out)))
      | (go_at_fn fn1; (with_reducible refine (K1.out _ _ hI1 HR1c1.out).mono ?_); rintro e w2 ⟨U1, y1, rfl, q1, hI2, hG2⟩; have G2 := G1.trans hG2; have X2 := HBX.out _ G2; have HR2c2 := Lib.hid (HR2c1.out.grown hG2 (hfree'.out _ _ hI1)); have q0c2 := q0.grown hG2 (hfree'.out _ _ hI1))
      | (go_at_fn fn2; (with_reducible refine (K2.out _ _ hI2 HR2c2.out).mono ?_); rintro e w3 ⟨U2, y2, rfl, q2, hI3, hG3⟩; have G3 := G2.trans hG3; have X3 := HBX.out _ G3; have q0c3 := q0c2.grown hG3 (hfree'.out _ _ hI2); have q1c3 := q1.grown hG3 (hfree'.out _ _ hI2); have X4 := HBX.out (w3.alloc (.cells #[.iface U0 y0, .iface U1 y1, .iface U2 y2] 88)) (G3.trans (alloc_grown _ _ _))))
  go_wp2
  go_ret
  have BA := Below.alloc (Below.refl w3.heap.size w3) (Nat.le_refl _) (.cells #[.iface U0 y0, .iface U1 y1, .iface U2 y2] 88)
  exact ⟨_, _, rfl, ⟨w3.heap.size, _, _, _, rfl, heap_alloc_new _ _, q0c3.below BA, q1c3.below BA, q2.below BA⟩, hbel'.out _ _ _ hI3 BA, G3.trans (alloc_grown _ _ _)⟩
end Go.Proofs.YtnklajagefedmaaGreatDoor

namespace Go.Proofs.YtnklajagefedmaaGreatDoor
set_option maxRecDepth 100000
open Go.ChangeShapes Go.WideShapes Go.ChangeAt Go.RowKit
set_option linter.unusedSimpArgs false
set_option linter.unusedVariables false

/-- The method copied of a term's value. -/
def copFn : Tm → FuncId
  | .var _ => 111
  | .sort _ => 107
  | .const _ _ => 109
  | .app _ _ => 113
  | .lam _ _ => 116
  | .pi _ _ => 118
  | .lett _ _ _ => 120
theorem copMeth {W : World} {t : Tm} {T : TypeId} {x : Value} (h : IRep W t (.iface T x)) : MethC T (copFn t) := by
  cases t with
  | var _ => obtain ⟨_, h, _⟩ := h; injection h with h _; subst h; exact methCVar
  | sort _ => obtain ⟨_, h, _⟩ := h; injection h with h _; subst h; exact methCSort
  | const _ _ => obtain ⟨_, _, h, _⟩ := h; injection h with h _; subst h; exact methCConst
  | app _ _ => obtain ⟨_, _, _, h, _⟩ := h; injection h with h _; subst h; exact methCApp
  | lam _ _ => obtain ⟨_, _, _, h, _⟩ := h; injection h with h _; subst h; exact methCLam
  | pi _ _ => obtain ⟨_, _, _, h, _⟩ := h; injection h with h _; subst h; exact methCPi
  | lett _ _ _ => obtain ⟨_, _, _, _, h, _⟩ := h; injection h with h _; subst h; exact methCLet
theorem CopAns.both {σ : Type} {I : σ → World → Prop} {row : Option Nat} {W : World} {r : Tm × σ} {e : Ending} {W' : World} (h : CopAns I row W r e W') : (∃ T x, e = .returned (.iface T x)) ∧ CopAns I row W r e W' := by
  obtain ⟨T, x, h1, h2⟩ := h
  exact ⟨⟨T, x, h1⟩, T, x, h1, h2⟩
theorem copTree {σ : Type} {f : σ → Tm → Nat → Tm × σ} {I : σ → World → Prop} {row : Option Nat} {P : Tm → Nat → Prop} {F : FuncId} {cap : Array Value} (hL : LeafOk f I row P F cap) :
    ∀ (t : Tm) (b : Nat), t.Lv P b → b + t.size ≤ 1000000 → ∀ (W : World) (s : σ) (T : TypeId) (x : Value), I s W → IRep W t (.iface T x) →
      Calls Tryz.prog (copFn t) #[x, .int .i64 (b : Int), .func (.func F) #[] cap] W (CopAns I row W (t.mapS f s b))
  | .var n, b, hP, hz, W, s, T, x, hI, h => by
    have h2 := h
    obtain ⟨g, e, hg⟩ := h2
    injection e with e1 e2
    subst e1 e2
    exact copVar hL.enters ((hL.leaf (.var n) _ W s b hP hI h).mono fun _ _ hc => hc.both)
  | .sort n, b, hP, hz, W, s, T, x, hI, h => by
    have h2 := h
    obtain ⟨g, e, hg⟩ := h2
    injection e with e1 e2
    subst e1 e2
    exact copSort hL.enters ((hL.leaf (.sort n) _ W s b hP hI h).mono fun _ _ hc => hc.both)
  | .const n ls, b, hP, hz, W, s, T, x, hI, h => by
    have h2 := h
    obtain ⟨g, u, e, hg⟩ := h2
    injection e with e1 e2
    subst e1 e2
    exact copConst hL.enters ((hL.leaf (.const n ls) _ W s b hP hI h).mono fun _ _ hc => hc.both)
  | .app t u, b, hP, hz, W, s, T, x, hI, h => by
    obtain ⟨g, v0, v1, e, hg, h0, h1⟩ := h
    injection e with e1 e2
    subst e1 e2
    obtain ⟨T0, x0, rfl⟩ := h0.iface
    obtain ⟨T1, x1, rfl⟩ := h1.iface
    simp only [Tm.size] at hz
    exact copApp hL.below hL.free hg (by omega) (copMeth h0) (fun W s hI hr => copTree hL t b hP.1 (by omega) W s _ _ hI hr) h0 (copMeth h1) (fun W s hI hr => copTree hL u b hP.2 (by omega) W s _ _ hI hr) h1 hI
  | .lam t u, b, hP, hz, W, s, T, x, hI, h => by
    obtain ⟨g, v0, v1, e, hg, h0, h1⟩ := h
    injection e with e1 e2
    subst e1 e2
    obtain ⟨T0, x0, rfl⟩ := h0.iface
    obtain ⟨T1, x1, rfl⟩ := h1.iface
    have := t.size_pos
    simp only [Tm.size] at hz
    exact copLam hL.below hL.free hg (by omega) (copMeth h0) (fun W s hI hr => copTree hL t b hP.1 (by omega) W s _ _ hI hr) h0 (copMeth h1) (fun W s hI hr => copTree hL u (b + 1) hP.2 (by omega) W s _ _ hI hr) h1 hI
  | .pi t u, b, hP, hz, W, s, T, x, hI, h => by
    obtain ⟨g, v0, v1, e, hg, h0, h1⟩ := h
    injection e with e1 e2
    subst e1 e2
    obtain ⟨T0, x0, rfl⟩ := h0.iface
    obtain ⟨T1, x1, rfl⟩ := h1.iface
    have := t.size_pos
    simp only [Tm.size] at hz
    exact copPi hL.below hL.free hg (by omega) (copMeth h0) (fun W s hI hr => copTree hL t b hP.1 (by omega) W s _ _ hI hr) h0 (copMeth h1) (fun W s hI hr => copTree hL u (b + 1) hP.2 (by omega) W s _ _ hI hr) h1 hI
  | .lett t u r, b, hP, hz, W, s, T, x, hI, h => by
    obtain ⟨g, v0, v1, v2, e, hg, h0, h1, h2⟩ := h
    injection e with e1 e2
    subst e1 e2
    obtain ⟨T0, x0, rfl⟩ := h0.iface
    obtain ⟨T1, x1, rfl⟩ := h1.iface
    obtain ⟨T2, x2, rfl⟩ := h2.iface
    have := t.size_pos
    have := u.size_pos
    simp only [Tm.size] at hz
    exact copLet hL.below hL.free hg (by omega) (copMeth h0) (fun W s hI hr => copTree hL t b hP.1 (by omega) W s _ _ hI hr) h0 (copMeth h1) (fun W s hI hr => copTree hL u b hP.2.1 (by omega) W s _ _ hI hr) h1 (copMeth h2) (fun W s hI hr => copTree hL r (b + 1) hP.2.2 (by omega) W s _ _ hI hr) h2 hI
end Go.Proofs.YtnklajagefedmaaGreatDoor

namespace Go.Proofs.YtnklajagefedmaaGreatDoor
set_option maxRecDepth 100000
open Go.ChangeShapes Go.WideShapes Go.ChangeAt Go.RowKit
set_option linter.unusedSimpArgs false
set_option linter.unusedVariables false

/-- A tree in new memory. -/
def TreeAns (t : Tm) (W : World) (e : Ending) (W' : World) : Prop := ∃ T x, e = .returned (.iface T x) ∧ IRep W' t (.iface T x) ∧ Below W.heap.size W W'
theorem below_of_grown {W W' : World} (h : W.grownBy W' none) : Below W.heap.size W W' :=
  ⟨h.os, h.tape, h.output, h.size, fun i hi => h.block i hi (by simp)⟩
theorem putRes_get (o : Option (List UInt8)) : ∃ b, putRes o = .tuple #[.string ⟨(o.getD []).toArray⟩, .bool b] := by
  cases o with
  | none => exact ⟨_, rfl⟩
  | some t => exact ⟨_, rfl⟩
theorem putRes_say (T : Tm) (tb : List UInt8) (h : T.bytes = tb) (hp : T.Pre) : putRes (sayT (some []) T) = if termOk tb = true then .tuple #[.string ⟨tb.toArray⟩, .bool true] else .tuple #[.string ⟨#[]⟩, .bool false] := by
  subst h
  by_cases hk : termOk T.bytes = true
  · rw [if_pos hk, (sayT_nil T).1 ((termOk_pre hp).1 hk)]
    rfl
  · rw [if_neg hk, (sayT_nil T).2 (fun h => hk ((termOk_pre hp).2 h))]
    rfl
theorem implTextWithin {t : Tm} {v : Value} {W : World} (hv : Vars W) (hl : t.Lim 9999) (hp : t.Pre) (hz : t.bytes.length ≤ 100000000) (h : IRep W t v) :
    Calls Tryz.prog 13 #[v] W fun e W' => e = .returned (putRes (sayT (some []) t)) ∧ Below W.heap.size W W' := by
  obtain ⟨T, x, rfl⟩ := h.iface
  have f1 := Lib.hid (implText hv hl h hz)
  have f2 := Lib.hid fun W1 (hb : Below W.heap.size W W1) => implTermOk ⟨t.bytes.toArray⟩ W1 (hv.below hb) (by simp only [maxLen, ByteArray.size, List.size_toArray]; omega)
  have HE := Lib.hid (putRes_say t _ rfl hp)
  simp only at f2
  generalize t.bytes = tb at f1 f2 HE
  rw [HE.out]
  clear HE h hl hp hz hv
  generalize termOk tb = ok at f2
  go_enter Tryz.func13, Tryz.ntmps13
  go_wp2_with fail
  (with_reducible refine f1.out.mono ?_); rintro e w1 ⟨rfl, hb1⟩
  go_wp2_with fail
  (with_reducible refine (f2.out _ hb1).mono ?_); rintro e w2 ⟨rfl, hb2⟩
  have HB2 := Lib.hid (hb1.trans (hb2.mono hb1.size))
  clear hb1 hb2 f1 f2
  cases ok
  all_goals
    go_wp2
    go_ret2
    exact ⟨rfl, HB2.out⟩
theorem mapS_all {σ : Type} {f : σ → Tm → Nat → Tm × σ} {T : Tm} (s : σ) (hok : T.Ok) (hz : T.size ≤ 3000) (hl : T.bytes.length ≤ 2000)
    (hf : ∀ s t b, Tm.OkLeaf 3000 t b → (f s t b).1.Pre ∧ (f s t b).1.Lim 9999 ∧ (f s t b).1.bytes.length ≤ 2000 * t.bytes.length) :
    (T.mapS f s 0).1.Pre ∧ (T.mapS f s 0).1.Lim 9999 ∧ (T.mapS f s 0).1.bytes.length ≤ 100000000 := by
  have hv := Tm.ok_lv (B := 3000) T 0 hok (by omega)
  refine ⟨Tm.mapS_q Tm.comp_pre (fun s t b h => (hf s t b h).1) T s 0 hv, Tm.mapS_q (Tm.comp_lim _) (fun s t b h => (hf s t b h).2.1) T s 0 hv, ?_⟩
  have := Tm.mapS_len (K := 2000) (by decide) (fun s t b h => (hf s t b h).2.2) T s 0 hv
  omega

end Go.Proofs.YtnklajagefedmaaGreatDoor
