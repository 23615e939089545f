/-
  Plain lemmas: heads, arguments, domains, targets and names of terms; no function of the program is named here.
-/
import Derived.Test.YtgielbamebjjdaaDoorTMath
namespace Go.Proofs.YtgielbamebjjdaaDoor
open Go
set_option maxRecDepth 100000
set_option linter.unusedVariables false

namespace Tm
def head : Tm → Tm
  | app f _ => f.head
  | t => t
def args : Tm → List Tm
  | app f a => f.args ++ [a]
  | _ => []
def doms : Tm → List Tm
  | pi d b => d :: b.doms
  | _ => []
def targ : Tm → Tm
  | pi _ b => b.targ
  | t => t
/-- The names of the constants, parts first. -/
def cnames : Tm → List (List UInt8)
  | var _ => []
  | sort _ => []
  | const n _ => [n]
  | app f a => f.cnames ++ a.cnames
  | lam f a => f.cnames ++ a.cnames
  | pi f a => f.cnames ++ a.cnames
  | lett f a b => f.cnames ++ a.cnames ++ b.cnames
theorem head_ok : ∀ {t : Tm}, t.Ok → t.head.Ok
  | var _, h => h
  | sort _, h => h
  | const _ _, h => h
  | app f a, h => by rw [head]; exact head_ok h.1
  | lam _ _, h => h
  | pi _ _, h => h
  | lett _ _ _, h => h
theorem head_len : ∀ (t : Tm), t.head.bytes.length ≤ t.bytes.length
  | var _ => Nat.le_refl _
  | sort _ => Nat.le_refl _
  | const _ _ => Nat.le_refl _
  | app f a => by have := head_len f; simp only [head, bytes, List.length_cons, List.length_append]; omega
  | lam _ _ => Nat.le_refl _
  | pi _ _ => Nat.le_refl _
  | lett _ _ _ => Nat.le_refl _
theorem targ_ok : ∀ {t : Tm}, t.Ok → t.targ.Ok
  | var _, h => h
  | sort _, h => h
  | const _ _, h => h
  | pi f a, h => by rw [targ]; exact targ_ok h.2
  | lam _ _, h => h
  | app _ _, h => h
  | lett _ _ _, h => h
theorem targ_len : ∀ (t : Tm), t.targ.bytes.length ≤ t.bytes.length
  | var _ => Nat.le_refl _
  | sort _ => Nat.le_refl _
  | const _ _ => Nat.le_refl _
  | pi f a => by have := targ_len a; simp only [targ, bytes, List.length_cons, List.length_append]; omega
  | lam _ _ => Nat.le_refl _
  | app _ _ => Nat.le_refl _
  | lett _ _ _ => Nat.le_refl _
theorem args_len : ∀ (t : Tm), t.args.length < t.size
  | var _ => by simp [args, size]
  | sort _ => by simp [args, size]
  | const _ _ => by simp [args, size]
  | app f a => by have := args_len f; have := a.size_pos; simp only [args, size, List.length_append, List.length_cons, List.length_nil]; omega
  | lam f a => by have := f.size_pos; simp [args, size]
  | pi f a => by have := f.size_pos; simp [args, size]
  | lett f a b => by have := f.size_pos; simp [args, size]
theorem doms_len : ∀ (t : Tm), t.doms.length < t.size
  | var _ => by simp [doms, size]
  | sort _ => by simp [doms, size]
  | const _ _ => by simp [doms, size]
  | pi f a => by have := doms_len a; have := f.size_pos; simp only [doms, size, List.length_cons]; omega
  | lam f a => by have := f.size_pos; simp [doms, size]
  | app f a => by have := f.size_pos; simp [doms, size]
  | lett f a b => by have := f.size_pos; simp [doms, size]
theorem cnames_len : ∀ (t : Tm), t.cnames.length ≤ t.size
  | var _ => by simp [cnames]
  | sort _ => by simp [cnames]
  | const _ _ => by simp [cnames, size]
  | app f a => by have := cnames_len f; have := cnames_len a; simp only [cnames, size, List.length_append]; omega
  | lam f a => by have := cnames_len f; have := cnames_len a; simp only [cnames, size, List.length_append]; omega
  | pi f a => by have := cnames_len f; have := cnames_len a; simp only [cnames, size, List.length_append]; omega
  | lett f a b => by have := cnames_len f; have := cnames_len a; have := cnames_len b; simp only [cnames, size, List.length_append]; omega
theorem args_ok : ∀ {t : Tm}, t.Ok → ∀ a ∈ t.args, a.Ok
  | var _, _, a, h => by simp [args] at h
  | sort _, _, a, h => by simp [args] at h
  | const _ _, _, a, h => by simp [args] at h
  | app f x, k, a, h => by
    simp only [args, List.mem_append, List.mem_cons, List.not_mem_nil, or_false] at h
    exact h.elim (fun h => args_ok k.1 a h) (fun e => e ▸ k.2)
  | lam _ _, _, a, h => by simp [args] at h
  | pi _ _, _, a, h => by simp [args] at h
  | lett _ _ _, _, a, h => by simp [args] at h
theorem doms_ok : ∀ {t : Tm}, t.Ok → ∀ a ∈ t.doms, a.Ok
  | var _, _, a, h => by simp [doms] at h
  | sort _, _, a, h => by simp [doms] at h
  | const _ _, _, a, h => by simp [doms] at h
  | pi f x, k, a, h => by
    simp only [doms, List.mem_cons] at h
    exact h.elim (fun e => e ▸ k.1) (fun h => doms_ok k.2 a h)
  | lam _ _, _, a, h => by simp [doms] at h
  | app _ _, _, a, h => by simp [doms] at h
  | lett _ _ _, _, a, h => by simp [doms] at h
end Tm
/-- Terms one behind another. -/
def catB (ts : List Tm) : List UInt8 := (ts.map Tm.bytes).flatten
def catP (ts : List Tm) : List UInt8 := (ts.map fun t => 112 :: t.bytes).flatten
theorem catB_append (a b : List Tm) : catB (a ++ b) = catB a ++ catB b := by simp [catB]
/-- A term is its head given its arguments. -/
theorem head_args : ∀ (t : Tm), t.bytes = List.replicate t.args.length 64 ++ t.head.bytes ++ catB t.args
  | .var _ => by simp [Tm.args, Tm.head, catB]
  | .sort _ => by simp [Tm.args, Tm.head, catB]
  | .const _ _ => by simp [Tm.args, Tm.head, catB]
  | .app f a => by
    have h := head_args f
    rw [Tm.args, Tm.head, catB_append, List.length_append, List.length_singleton, List.replicate_succ, Tm.bytes, h]
    simp [catB]
  | .lam _ _ => by simp [Tm.args, Tm.head, catB]
  | .pi _ _ => by simp [Tm.args, Tm.head, catB]
  | .lett _ _ _ => by simp [Tm.args, Tm.head, catB]
theorem doms_targ : ∀ (t : Tm), t.bytes = catP t.doms ++ t.targ.bytes
  | .var _ => by simp [Tm.doms, Tm.targ, catP]
  | .sort _ => by simp [Tm.doms, Tm.targ, catP]
  | .const _ _ => by simp [Tm.doms, Tm.targ, catP]
  | .pi f a => by
    have h := doms_targ a
    rw [Tm.doms, Tm.targ, Tm.bytes, h]
    simp [catP]
  | .lam _ _ => by simp [Tm.doms, Tm.targ, catP]
  | .app _ _ => by simp [Tm.doms, Tm.targ, catP]
  | .lett _ _ _ => by simp [Tm.doms, Tm.targ, catP]
/-- A term given arguments. -/
def Tm.given (h : Tm) (us : List Tm) : Tm := us.foldl Tm.app h
def Tm.arrows (ds : List Tm) (t : Tm) : Tm := ds.foldr Tm.pi t
theorem given_bytes : ∀ (us : List Tm) (h : Tm), (h.given us).bytes = List.replicate us.length 64 ++ h.bytes ++ catB us
  | [], h => by simp [Tm.given, catB]
  | a :: us, h => by
    have := given_bytes us (.app h a)
    rw [Tm.given, List.foldl_cons]
    show (Tm.given (.app h a) us).bytes = _
    rw [this, List.length_cons, List.replicate_succ']
    simp [Tm.bytes, catB]
theorem given_ok : ∀ (us : List Tm) (h : Tm), h.Ok → (∀ a ∈ us, a.Ok) → (h.given us).Ok
  | [], h, k, _ => k
  | a :: us, h, k, ha => given_ok us (.app h a) ⟨k, ha a List.mem_cons_self⟩ (fun x hx => ha x (List.mem_cons_of_mem _ hx))
theorem given_head : ∀ (us : List Tm) (h : Tm), (h.given us).head = h.head
  | [], h => rfl
  | a :: us, h => given_head us (.app h a)
theorem given_args : ∀ (us : List Tm) (h : Tm), (h.given us).args = h.args ++ us
  | [], h => by simp [Tm.given]
  | a :: us, h => by
    have := given_args us (.app h a)
    show (Tm.given (.app h a) us).args = _
    rw [this, Tm.args]
    simp
theorem given_names : ∀ (us : List Tm) (h : Tm) (x : List UInt8), x ∈ h.cnames → x ∈ (h.given us).cnames
  | [], h, x, k => k
  | a :: us, h, x, k => given_names us (.app h a) x (List.mem_append_left _ k)
theorem arrows_bytes : ∀ (ds : List Tm) (t : Tm), (Tm.arrows ds t).bytes = catP ds ++ t.bytes
  | [], t => by simp [Tm.arrows, catP]
  | d :: ds, t => by
    have := arrows_bytes ds t
    show (Tm.pi d (Tm.arrows ds t)).bytes = _
    rw [Tm.bytes, this]
    simp [catP]
theorem arrows_ok : ∀ (ds : List Tm) (t : Tm), t.Ok → (∀ a ∈ ds, a.Ok) → (Tm.arrows ds t).Ok
  | [], t, k, _ => k
  | d :: ds, t, k, ha => ⟨ha d List.mem_cons_self, arrows_ok ds t k (fun x hx => ha x (List.mem_cons_of_mem _ hx))⟩
theorem arrows_targ : ∀ (ds : List Tm) (t : Tm), (Tm.arrows ds t).targ = t.targ
  | [], t => rfl
  | d :: ds, t => arrows_targ ds t
theorem arrows_doms : ∀ (ds : List Tm) (t : Tm), (Tm.arrows ds t).doms = ds ++ t.doms
  | [], t => rfl
  | d :: ds, t => by
    have := arrows_doms ds t
    show d :: (Tm.arrows ds t).doms = _
    rw [this]
    rfl

/-- What HeadOf, ArgsOf, Domains and Target answer. -/
noncomputable def headOf (l : List UInt8) : List UInt8 := match termOf l with
  | some T => T.head.bytes
  | none => []
noncomputable def argsOf (l : List UInt8) : List (List UInt8) := match termOf l with
  | some T => T.args.map Tm.bytes
  | none => []
noncomputable def domainsOf (l : List UInt8) : List (List UInt8) := match termOf l with
  | some T => T.doms.map Tm.bytes
  | none => []
noncomputable def targetOf (l : List UInt8) : List UInt8 := match termOf l with
  | some T => T.targ.bytes
  | none => []
/-- What Given and Arrows answer. -/
noncomputable def givenOf (h : List UInt8) (us : List (List UInt8)) : Option (List UInt8) :=
  if termOk h = true ∧ (∀ a ∈ us, termOk a = true) ∧ h.length + us.length + us.flatten.length ≤ 2000 then some (List.replicate us.length 64 ++ h ++ us.flatten) else none
noncomputable def arrowsOf (ds : List (List UInt8)) (t : List UInt8) : Option (List UInt8) :=
  if termOk t = true ∧ (∀ a ∈ ds, termOk a = true) ∧ t.length + ds.length + ds.flatten.length ≤ 2000 then some ((ds.map fun d => 112 :: d).flatten ++ t) else none
theorem argsOf_len (l : List UInt8) : (argsOf l).length ≤ 2000 := by
  unfold argsOf
  cases h : termOf l with
  | none => exact Nat.zero_le _
  | some t =>
    have h1 := (termOf_is h).2
    have h2 := t.args_len
    have h3 := t.size_le
    show (t.args.map Tm.bytes).length ≤ 2000
    rw [List.length_map]
    rw [← h1.1] at h1
    have := h1.2
    omega
theorem domainsOf_len (l : List UInt8) : (domainsOf l).length ≤ 2000 := by
  unfold domainsOf
  cases h : termOf l with
  | none => exact Nat.zero_le _
  | some t =>
    have h1 := (termOf_is h).2
    have h2 := t.doms_len
    have h3 := t.size_le
    show (t.doms.map Tm.bytes).length ≤ 2000
    rw [List.length_map]
    rw [← h1.1] at h1
    have := h1.2
    omega
end Go.Proofs.YtgielbamebjjdaaDoor
