/-
  Plain lemmas on terms: shifting and substitution; no function of the program is named here.
-/
import Derived.Test.YtgielbamebjjdaaDoorTMath
namespace Go.Proofs.YtgielbamebjjdaaDoor
open Go
set_option maxRecDepth 100000

namespace Tm
def lift (a : Nat) : Nat → Tm → Tm
  | c, var n => var (if c ≤ n then n + a else n)
  | _, sort l => sort l
  | _, const n ls => const n ls
  | c, app f x => app (lift a c f) (lift a c x)
  | c, lam d b => lam (lift a c d) (lift a (c + 1) b)
  | c, pi d b => pi (lift a c d) (lift a (c + 1) b)
  | c, lett t v b => lett (lift a c t) (lift a c v) (lift a (c + 1) b)
def put (A : Tm) : Nat → Tm → Tm
  | u, var n => if n = u then lift u 0 A else if u < n then var (n - 1) else var n
  | _, sort l => sort l
  | _, const n ls => const n ls
  | u, app f x => app (put A u f) (put A u x)
  | u, lam d b => lam (put A u d) (put A (u + 1) b)
  | u, pi d b => pi (put A u d) (put A (u + 1) b)
  | u, lett t v b => lett (put A u t) (put A u v) (put A (u + 1) b)
/-- The levels of a term after args have been put into them. -/
def lvs (args : List (List UInt8)) : Tm → Option Tm
  | var n => some (var n)
  | sort l => (levelPut l args).map sort
  | const n ls => (ls.mapM fun l => levelPut l args).map (const n)
  | app f x => (lvs args f).bind fun f' => (lvs args x).map (app f')
  | lam d b => (lvs args d).bind fun d' => (lvs args b).map (lam d')
  | pi d b => (lvs args d).bind fun d' => (lvs args b).map (pi d')
  | lett t v b => (lvs args t).bind fun t' => (lvs args v).bind fun v' => (lvs args b).map (lett t' v')
/-- The greatest LevelParams of the levels of a term. -/
def params : Tm → Nat
  | var _ => 0
  | sort l => levelParams l
  | const _ ls => ls.foldl (fun m l => max m (levelParams l)) 0
  | app f x => max (params f) (params x)
  | lam d b => max (params d) (params b)
  | pi d b => max (params d) (params b)
  | lett t v b => max (max (params t) (params v)) (params b)

theorem lift_lift (a b : Nat) : ∀ (T : Tm) (c : Nat), lift b c (lift a c T) = lift (a + b) c T
  | var n, c => by
    simp only [lift]
    by_cases h : c ≤ n
    · rw [if_pos h, if_pos (by omega), if_pos h, Nat.add_assoc]
    · rw [if_neg h, if_neg h, if_neg h]
  | sort _, _ => rfl
  | const _ _, _ => rfl
  | app f x, c => by simp only [lift, lift_lift a b f, lift_lift a b x]
  | lam f x, c => by simp only [lift, lift_lift a b f, lift_lift a b x]
  | pi f x, c => by simp only [lift, lift_lift a b f, lift_lift a b x]
  | lett f x y, c => by simp only [lift, lift_lift a b f, lift_lift a b x, lift_lift a b y]
theorem lift_zero : ∀ (T : Tm) (c : Nat), lift 0 c T = T
  | var n, c => by simp only [lift]; split <;> rfl
  | sort _, _ => rfl
  | const _ _, _ => rfl
  | app f x, c => by simp only [lift, lift_zero f, lift_zero x]
  | lam f x, c => by simp only [lift, lift_zero f, lift_zero x]
  | pi f x, c => by simp only [lift, lift_zero f, lift_zero x]
  | lett f x y, c => by simp only [lift, lift_zero f, lift_zero x, lift_zero y]
theorem put_lift (A : Tm) : ∀ (T : Tm) (u : Nat), put A u (lift 1 u T) = T
  | var n, u => by
    simp only [lift]
    by_cases h : u ≤ n
    · rw [if_pos h, put, if_neg (by omega), if_pos (by omega)]
      rfl
    · rw [if_neg h, put, if_neg (by omega), if_neg (by omega)]
  | sort _, _ => rfl
  | const _ _, _ => rfl
  | app f x, u => by simp only [lift, put, put_lift A f, put_lift A x]
  | lam f x, u => by simp only [lift, put, put_lift A f, put_lift A x]
  | pi f x, u => by simp only [lift, put, put_lift A f, put_lift A x]
  | lett f x y, u => by simp only [lift, put, put_lift A f, put_lift A x, put_lift A y]
theorem size_lift (a : Nat) : ∀ (T : Tm) (c : Nat), (lift a c T).size = T.size
  | var n, c => rfl
  | sort _, _ => rfl
  | const _ _, _ => rfl
  | app f x, c => by simp only [lift, size, size_lift a f, size_lift a x]
  | lam f x, c => by simp only [lift, size, size_lift a f, size_lift a x]
  | pi f x, c => by simp only [lift, size, size_lift a f, size_lift a x]
  | lett f x y, c => by simp only [lift, size, size_lift a f, size_lift a x, size_lift a y]
theorem opn_lift (a : Nat) : ∀ (T : Tm) (c : Nat), (c < T.opn → (lift a c T).opn = T.opn + a) ∧ (T.opn ≤ c → (lift a c T).opn = T.opn)
  | var n, c => by
    simp only [lift, opn]
    by_cases h : c ≤ n
    · rw [if_pos h]; exact ⟨fun _ => by omega, fun h2 => by omega⟩
    · rw [if_neg h]; exact ⟨fun h2 => by omega, fun _ => rfl⟩
  | sort _, c => ⟨fun h => by simp [opn] at h, fun _ => rfl⟩
  | const _ _, c => ⟨fun h => by simp [opn] at h, fun _ => rfl⟩
  | app f x, c => by
    obtain ⟨h1, h2⟩ := opn_lift a f c; obtain ⟨h3, h4⟩ := opn_lift a x c
    simp only [lift, opn]
    generalize (lift a c f).opn = p at h1 h2 ⊢
    generalize (lift a c x).opn = q at h3 h4 ⊢
    exact ⟨fun h => by omega, fun h => by omega⟩
  | lam f x, c => by
    obtain ⟨h1, h2⟩ := opn_lift a f c; obtain ⟨h3, h4⟩ := opn_lift a x (c + 1)
    simp only [lift, opn]
    generalize (lift a c f).opn = p at h1 h2 ⊢
    generalize (lift a (c + 1) x).opn = q at h3 h4 ⊢
    exact ⟨fun h => by omega, fun h => by omega⟩
  | pi f x, c => by
    obtain ⟨h1, h2⟩ := opn_lift a f c; obtain ⟨h3, h4⟩ := opn_lift a x (c + 1)
    simp only [lift, opn]
    generalize (lift a c f).opn = p at h1 h2 ⊢
    generalize (lift a (c + 1) x).opn = q at h3 h4 ⊢
    exact ⟨fun h => by omega, fun h => by omega⟩
  | lett f x y, c => by
    obtain ⟨h1, h2⟩ := opn_lift a f c; obtain ⟨h3, h4⟩ := opn_lift a x c; obtain ⟨h5, h6⟩ := opn_lift a y (c + 1)
    simp only [lift, opn]
    generalize (lift a c f).opn = p at h1 h2 ⊢
    generalize (lift a c x).opn = q at h3 h4 ⊢
    generalize (lift a (c + 1) y).opn = r at h5 h6 ⊢
    exact ⟨fun h => by omega, fun h => by omega⟩
theorem lift_ok {a m : Nat} (hm : m + a ≤ 999) : ∀ (T : Tm) (c : Nat), T.Ok → T.Lim m → (lift a c T).Ok
  | var n, c, h, hl => by
    have h1 : n ≤ 999 := h
    have h2 : n ≤ m := hl
    show (if c ≤ n then n + a else n) ≤ 999
    split <;> omega
  | sort _, _, h, _ => h
  | const _ _, _, h, _ => h
  | app f x, c, h, hl => ⟨lift_ok hm f c h.1 hl.1, lift_ok hm x c h.2 hl.2⟩
  | lam f x, c, h, hl => ⟨lift_ok hm f c h.1 hl.1, lift_ok hm x (c + 1) h.2 hl.2⟩
  | pi f x, c, h, hl => ⟨lift_ok hm f c h.1 hl.1, lift_ok hm x (c + 1) h.2 hl.2⟩
  | lett f x y, c, h, hl => ⟨lift_ok hm f c h.1 hl.1, lift_ok hm x c h.2.1 hl.2.1, lift_ok hm y (c + 1) h.2.2 hl.2.2⟩
theorem lift_lim {a m : Nat} : ∀ (T : Tm) (c : Nat), T.Lim m → (lift a c T).Lim (m + a)
  | var n, c, hl => by
    have h2 : n ≤ m := hl
    show (if c ≤ n then n + a else n) ≤ m + a
    split <;> omega
  | sort _, _, _ => trivial
  | const _ _, _, _ => trivial
  | app f x, c, hl => ⟨lift_lim f c hl.1, lift_lim x c hl.2⟩
  | lam f x, c, hl => ⟨lift_lim f c hl.1, lift_lim x (c + 1) hl.2⟩
  | pi f x, c, hl => ⟨lift_lim f c hl.1, lift_lim x (c + 1) hl.2⟩
  | lett f x y, c, hl => ⟨lift_lim f c hl.1, lift_lim x c hl.2.1, lift_lim y (c + 1) hl.2.2⟩
/-- The text grows by no more than a byte a term as long as the numbers have two digits. -/
theorem lift_len {a m : Nat} (hm : m + a ≤ 99) (hd : ∀ n, n ≤ 99 → (Lib.decDigits n).length ≤ 2) (hp : ∀ n, 1 ≤ (Lib.decDigits n).length) : ∀ (T : Tm) (c : Nat), T.Lim m → (lift a c T).bytes.length ≤ T.bytes.length + T.size
  | var n, c, hl => by
    have h2 : n ≤ m := hl
    have h3 := hp n
    have h4 := hd (if c ≤ n then n + a else n) (by split <;> omega)
    simp only [lift, bytes, size, List.length_cons, List.length_append, List.length_nil]
    omega
  | sort _, _, _ => by simp [lift]
  | const _ _, _, _ => by simp [lift]
  | app f x, c, hl => by
    have h1 := lift_len hm hd hp f c hl.1; have h2 := lift_len hm hd hp x c hl.2
    simp only [lift, bytes, size, List.length_cons, List.length_append]; omega
  | lam f x, c, hl => by
    have h1 := lift_len hm hd hp f c hl.1; have h2 := lift_len hm hd hp x (c + 1) hl.2
    simp only [lift, bytes, size, List.length_cons, List.length_append]; omega
  | pi f x, c, hl => by
    have h1 := lift_len hm hd hp f c hl.1; have h2 := lift_len hm hd hp x (c + 1) hl.2
    simp only [lift, bytes, size, List.length_cons, List.length_append]; omega
  | lett f x y, c, hl => by
    have h1 := lift_len hm hd hp f c hl.1; have h2 := lift_len hm hd hp x c hl.2.1; have h3 := lift_len hm hd hp y (c + 1) hl.2.2
    simp only [lift, bytes, size, List.length_cons, List.length_append]; omega
/-- How many binders stand above one another. -/
def deep : Tm → Nat
  | var _ => 0
  | sort _ => 0
  | const _ _ => 0
  | app f x => max (deep f) (deep x)
  | lam d b => max (deep d) (deep b + 1)
  | pi d b => max (deep d) (deep b + 1)
  | lett t v b => max (max (deep t) (deep v)) (deep b + 1)
theorem deep_le : ∀ T : Tm, T.deep * 3 ≤ T.bytes.length
  | var n => by simp [deep]
  | sort _ => by simp [deep]
  | const _ _ => by simp [deep]
  | app f x => by
    have h1 := deep_le f; have h2 := deep_le x
    simp only [deep, bytes, List.length_cons, List.length_append]; omega
  | lam f x => by
    have h1 := deep_le f; have h2 := deep_le x; have h3 := three f
    simp only [deep, bytes, List.length_cons, List.length_append]; omega
  | pi f x => by
    have h1 := deep_le f; have h2 := deep_le x; have h3 := three f
    simp only [deep, bytes, List.length_cons, List.length_append]; omega
  | lett f x y => by
    have h1 := deep_le f; have h2 := deep_le x; have h3 := deep_le y; have h4 := three f
    simp only [deep, bytes, List.length_cons, List.length_append]; omega
where
  three : ∀ T : Tm, 2 ≤ T.bytes.length
  | var n => by simp [bytes]
  | sort _ => by simp [bytes]
  | const _ _ => by simp [bytes]; omega
  | app f x => by have := three f; simp [bytes]; omega
  | lam f x => by have := three f; simp [bytes]; omega
  | pi f x => by have := three f; simp [bytes]; omega
  | lett f x y => by have := three f; simp [bytes]; omega
end Tm
end Go.Proofs.YtgielbamebjjdaaDoor
