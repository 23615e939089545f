/-
  Plain lemmas: heads, arguments, domains, targets and names of terms; no function of the program is named here.
  The nodes of a term: where the parts of an application and of a function type are, and the names of the constants (plain lemmas).
  Plain lemmas: rows from a block on that are as they were.
  Plain lemmas on sorted lists of strings: a merge that keeps each once, and that it is the sorted list without repetitions; no function of the program is named here.
  The contract of spec.l02Sorted: the strings of a list, rising, each once.
  The contracts of spec.UsesIn and spec.HasName.
  A row of strings appended to a row of strings, either of them nil or not; spec.l02Sorted at such a row; what UsesOf answers.
  The contract of spec.UsesOf.
  The laws of NamesOf and UsesOf from the contracts of the model's and the program's functions (the program's handed in as hypotheses).
-/
import Derived.Test.YtimekfhchammnaaGreatDoorTMath
import Derived.Test.YtimekfhchammnaaGreatDoorFPost
import Derived.Test.YtimekfhchammnaaGreatDoorTNode
import Derived.Test.YtimekfhchammnaaGreatDoorTRead
import Derived.Test.YtimekfhchammnaaGreatDoorVPutM
import Derived.Test.YtimekfhchammnaaGreatDoorBase
import Derived.Lib.SlicesCompact
import Derived.Test.YtimekfhchammnaaGreatDoorG1
import Derived.Test.YtimekfhchammnaaGreatDoorNWalks2
import Derived.Laws.AppendOwnNone
import Derived.Sort.Walk0
import Derived.Laws.Cover1
import Derived.Laws.ResultCell
import Derived.Test.YtimekfhchammnaaGreatDoorTAll
import Derived.Test.YtimekfhchammnaaGreatDoorListsP
import Derived.Deep.AppendLies
import Derived.Test.YtimekfhchammnaaGreatDoorG2
import Derived.Deep.RegionHeld3
import Derived.Deep.DeepCutAuto
import Derived.BigQuiet
import Derived.Test.YtimekfhchammnaaGreatDoorMarks
namespace Go.Proofs.YtimekfhchammnaaGreatDoor
open Go
set_option maxRecDepth 100000
set_option linter.unusedVariables false

namespace Tm
def head : Tm → Tm
  | app f _ => f.head
  | t => t
def args : Tm → List Tm
  | app f a => f.args ++ [a]
  | _ => []
def doms : Tm → List Tm
  | pi d b => d :: b.doms
  | _ => []
def targ : Tm → Tm
  | pi _ b => b.targ
  | t => t
/-- The names of the constants, parts first. -/
def cnames : Tm → List (List UInt8)
  | var _ => []
  | sort _ => []
  | const n _ => [n]
  | app f a => f.cnames ++ a.cnames
  | lam f a => f.cnames ++ a.cnames
  | pi f a => f.cnames ++ a.cnames
  | lett f a b => f.cnames ++ a.cnames ++ b.cnames
theorem head_ok : ∀ {t : Tm}, t.Ok → t.head.Ok
  | var _, h => h
  | sort _, h => h
  | const _ _, h => h
  | app f a, h => by rw [head]; exact head_ok h.1
  | lam _ _, h => h
  | pi _ _, h => h
  | lett _ _ _, h => h
theorem head_len : ∀ (t : Tm), t.head.bytes.length ≤ t.bytes.length
  | var _ => Nat.le_refl _
  | sort _ => Nat.le_refl _
  | const _ _ => Nat.le_refl _
  | app f a => by have := head_len f; simp only [head, bytes, List.length_cons, List.length_append]; omega
  | lam _ _ => Nat.le_refl _
  | pi _ _ => Nat.le_refl _
  | lett _ _ _ => Nat.le_refl _
theorem targ_ok : ∀ {t : Tm}, t.Ok → t.targ.Ok
  | var _, h => h
  | sort _, h => h
  | const _ _, h => h
  | pi f a, h => by rw [targ]; exact targ_ok h.2
  | lam _ _, h => h
  | app _ _, h => h
  | lett _ _ _, h => h
theorem targ_len : ∀ (t : Tm), t.targ.bytes.length ≤ t.bytes.length
  | var _ => Nat.le_refl _
  | sort _ => Nat.le_refl _
  | const _ _ => Nat.le_refl _
  | pi f a => by have := targ_len a; simp only [targ, bytes, List.length_cons, List.length_append]; omega
  | lam _ _ => Nat.le_refl _
  | app _ _ => Nat.le_refl _
  | lett _ _ _ => Nat.le_refl _
theorem args_len : ∀ (t : Tm), t.args.length < t.size
  | var _ => by simp [args, size]
  | sort _ => by simp [args, size]
  | const _ _ => by simp [args, size]
  | app f a => by have := args_len f; have := a.size_pos; simp only [args, size, List.length_append, List.length_cons, List.length_nil]; omega
  | lam f a => by have := f.size_pos; simp [args, size]
  | pi f a => by have := f.size_pos; simp [args, size]
  | lett f a b => by have := f.size_pos; simp [args, size]
theorem doms_len : ∀ (t : Tm), t.doms.length < t.size
  | var _ => by simp [doms, size]
  | sort _ => by simp [doms, size]
  | const _ _ => by simp [doms, size]
  | pi f a => by have := doms_len a; have := f.size_pos; simp only [doms, size, List.length_cons]; omega
  | lam f a => by have := f.size_pos; simp [doms, size]
  | app f a => by have := f.size_pos; simp [doms, size]
  | lett f a b => by have := f.size_pos; simp [doms, size]
theorem cnames_len : ∀ (t : Tm), t.cnames.length ≤ t.size
  | var _ => by simp [cnames]
  | sort _ => by simp [cnames]
  | const _ _ => by simp [cnames, size]
  | app f a => by have := cnames_len f; have := cnames_len a; simp only [cnames, size, List.length_append]; omega
  | lam f a => by have := cnames_len f; have := cnames_len a; simp only [cnames, size, List.length_append]; omega
  | pi f a => by have := cnames_len f; have := cnames_len a; simp only [cnames, size, List.length_append]; omega
  | lett f a b => by have := cnames_len f; have := cnames_len a; have := cnames_len b; simp only [cnames, size, List.length_append]; omega
theorem args_ok : ∀ {t : Tm}, t.Ok → ∀ a ∈ t.args, a.Ok
  | var _, _, a, h => by simp [args] at h
  | sort _, _, a, h => by simp [args] at h
  | const _ _, _, a, h => by simp [args] at h
  | app f x, k, a, h => by
    simp only [args, List.mem_append, List.mem_cons, List.not_mem_nil, or_false] at h
    exact h.elim (fun h => args_ok k.1 a h) (fun e => e ▸ k.2)
  | lam _ _, _, a, h => by simp [args] at h
  | pi _ _, _, a, h => by simp [args] at h
  | lett _ _ _, _, a, h => by simp [args] at h
theorem doms_ok : ∀ {t : Tm}, t.Ok → ∀ a ∈ t.doms, a.Ok
  | var _, _, a, h => by simp [doms] at h
  | sort _, _, a, h => by simp [doms] at h
  | const _ _, _, a, h => by simp [doms] at h
  | pi f x, k, a, h => by
    simp only [doms, List.mem_cons] at h
    exact h.elim (fun e => e ▸ k.1) (fun h => doms_ok k.2 a h)
  | lam _ _, _, a, h => by simp [doms] at h
  | app _ _, _, a, h => by simp [doms] at h
  | lett _ _ _, _, a, h => by simp [doms] at h
end Tm
/-- Terms one behind another. -/
def catB (ts : List Tm) : List UInt8 := (ts.map Tm.bytes).flatten
def catP (ts : List Tm) : List UInt8 := (ts.map fun t => 112 :: t.bytes).flatten
theorem catB_append (a b : List Tm) : catB (a ++ b) = catB a ++ catB b := by simp [catB]
/-- A term is its head given its arguments. -/
theorem head_args : ∀ (t : Tm), t.bytes = List.replicate t.args.length 64 ++ t.head.bytes ++ catB t.args
  | .var _ => by simp [Tm.args, Tm.head, catB]
  | .sort _ => by simp [Tm.args, Tm.head, catB]
  | .const _ _ => by simp [Tm.args, Tm.head, catB]
  | .app f a => by
    have h := head_args f
    rw [Tm.args, Tm.head, catB_append, List.length_append, List.length_singleton, List.replicate_succ, Tm.bytes, h]
    simp [catB]
  | .lam _ _ => by simp [Tm.args, Tm.head, catB]
  | .pi _ _ => by simp [Tm.args, Tm.head, catB]
  | .lett _ _ _ => by simp [Tm.args, Tm.head, catB]
theorem doms_targ : ∀ (t : Tm), t.bytes = catP t.doms ++ t.targ.bytes
  | .var _ => by simp [Tm.doms, Tm.targ, catP]
  | .sort _ => by simp [Tm.doms, Tm.targ, catP]
  | .const _ _ => by simp [Tm.doms, Tm.targ, catP]
  | .pi f a => by
    have h := doms_targ a
    rw [Tm.doms, Tm.targ, Tm.bytes, h]
    simp [catP]
  | .lam _ _ => by simp [Tm.doms, Tm.targ, catP]
  | .app _ _ => by simp [Tm.doms, Tm.targ, catP]
  | .lett _ _ _ => by simp [Tm.doms, Tm.targ, catP]
/-- A term given arguments. -/
def Tm.given (h : Tm) (us : List Tm) : Tm := us.foldl Tm.app h
def Tm.arrows (ds : List Tm) (t : Tm) : Tm := ds.foldr Tm.pi t
theorem given_bytes : ∀ (us : List Tm) (h : Tm), (h.given us).bytes = List.replicate us.length 64 ++ h.bytes ++ catB us
  | [], h => by simp [Tm.given, catB]
  | a :: us, h => by
    have := given_bytes us (.app h a)
    rw [Tm.given, List.foldl_cons]
    show (Tm.given (.app h a) us).bytes = _
    rw [this, List.length_cons, List.replicate_succ']
    simp [Tm.bytes, catB]
theorem given_ok : ∀ (us : List Tm) (h : Tm), h.Ok → (∀ a ∈ us, a.Ok) → (h.given us).Ok
  | [], h, k, _ => k
  | a :: us, h, k, ha => given_ok us (.app h a) ⟨k, ha a List.mem_cons_self⟩ (fun x hx => ha x (List.mem_cons_of_mem _ hx))
theorem given_head : ∀ (us : List Tm) (h : Tm), (h.given us).head = h.head
  | [], h => rfl
  | a :: us, h => given_head us (.app h a)
theorem given_args : ∀ (us : List Tm) (h : Tm), (h.given us).args = h.args ++ us
  | [], h => by simp [Tm.given]
  | a :: us, h => by
    have := given_args us (.app h a)
    show (Tm.given (.app h a) us).args = _
    rw [this, Tm.args]
    simp
theorem given_names : ∀ (us : List Tm) (h : Tm) (x : List UInt8), x ∈ h.cnames → x ∈ (h.given us).cnames
  | [], h, x, k => k
  | a :: us, h, x, k => given_names us (.app h a) x (List.mem_append_left _ k)
theorem arrows_bytes : ∀ (ds : List Tm) (t : Tm), (Tm.arrows ds t).bytes = catP ds ++ t.bytes
  | [], t => by simp [Tm.arrows, catP]
  | d :: ds, t => by
    have := arrows_bytes ds t
    show (Tm.pi d (Tm.arrows ds t)).bytes = _
    rw [Tm.bytes, this]
    simp [catP]
theorem arrows_ok : ∀ (ds : List Tm) (t : Tm), t.Ok → (∀ a ∈ ds, a.Ok) → (Tm.arrows ds t).Ok
  | [], t, k, _ => k
  | d :: ds, t, k, ha => ⟨ha d List.mem_cons_self, arrows_ok ds t k (fun x hx => ha x (List.mem_cons_of_mem _ hx))⟩
theorem arrows_targ : ∀ (ds : List Tm) (t : Tm), (Tm.arrows ds t).targ = t.targ
  | [], t => rfl
  | d :: ds, t => arrows_targ ds t
theorem arrows_doms : ∀ (ds : List Tm) (t : Tm), (Tm.arrows ds t).doms = ds ++ t.doms
  | [], t => rfl
  | d :: ds, t => by
    have := arrows_doms ds t
    show d :: (Tm.arrows ds t).doms = _
    rw [this]
    rfl

/-- What HeadOf, ArgsOf, Domains and Target answer. -/
noncomputable def headOf (l : List UInt8) : List UInt8 := match termOf l with
  | some T => T.head.bytes
  | none => []
noncomputable def argsOf (l : List UInt8) : List (List UInt8) := match termOf l with
  | some T => T.args.map Tm.bytes
  | none => []
noncomputable def domainsOf (l : List UInt8) : List (List UInt8) := match termOf l with
  | some T => T.doms.map Tm.bytes
  | none => []
noncomputable def targetOf (l : List UInt8) : List UInt8 := match termOf l with
  | some T => T.targ.bytes
  | none => []
/-- What Given and Arrows answer. -/
noncomputable def givenOf (h : List UInt8) (us : List (List UInt8)) : Option (List UInt8) :=
  if termOk h = true ∧ (∀ a ∈ us, termOk a = true) ∧ h.length + us.length + us.flatten.length ≤ 2000 then some (List.replicate us.length 64 ++ h ++ us.flatten) else none
noncomputable def arrowsOf (ds : List (List UInt8)) (t : List UInt8) : Option (List UInt8) :=
  if termOk t = true ∧ (∀ a ∈ ds, termOk a = true) ∧ t.length + ds.length + ds.flatten.length ≤ 2000 then some ((ds.map fun d => 112 :: d).flatten ++ t) else none
theorem argsOf_len (l : List UInt8) : (argsOf l).length ≤ 2000 := by
  unfold argsOf
  cases h : termOf l with
  | none => exact Nat.zero_le _
  | some t =>
    have h1 := (termOf_is h).2
    have h2 := t.args_len
    have h3 := t.size_le
    show (t.args.map Tm.bytes).length ≤ 2000
    rw [List.length_map]
    rw [← h1.1] at h1
    have := h1.2
    omega
theorem domainsOf_len (l : List UInt8) : (domainsOf l).length ≤ 2000 := by
  unfold domainsOf
  cases h : termOf l with
  | none => exact Nat.zero_le _
  | some t =>
    have h1 := (termOf_is h).2
    have h2 := t.doms_len
    have h3 := t.size_le
    show (t.doms.map Tm.bytes).length ≤ 2000
    rw [List.length_map]
    rw [← h1.1] at h1
    have := h1.2
    omega
end Go.Proofs.YtimekfhchammnaaGreatDoor

namespace Go.Proofs.YtimekfhchammnaaGreatDoor
set_option maxRecDepth 100000
open Go.ChangeShapes Go.WideShapes Go.ChangeAt Go.RowKit
set_option linter.unusedSimpArgs false

theorem Rep.kindAt {W : World} {B : Nat} {ns : List Nd} {k : Nat} {t : Tm} (h : Rep W B ns k t) : ∃ nd, ns[k]? = some nd ∧ nd.kind = t.kind := by
  cases t with
  | var n => obtain ⟨nd, h, h2⟩ := h; exact ⟨nd, h, h2.1⟩
  | sort n => obtain ⟨nd, h, h2⟩ := h; exact ⟨nd, h, h2.1⟩
  | const n ls => obtain ⟨nd, h, h2⟩ := h; exact ⟨nd, h, h2.1⟩
  | app f a => obtain ⟨nd, h, h2⟩ := h; exact ⟨nd, h, h2.1⟩
  | lam f a => obtain ⟨nd, h, h2⟩ := h; exact ⟨nd, h, h2.1⟩
  | pi f a => obtain ⟨nd, h, h2⟩ := h; exact ⟨nd, h, h2.1⟩
  | lett f a b => obtain ⟨nd, h, h2⟩ := h; exact ⟨nd, h, h2.1⟩
theorem RepP.appAt {W : World} {B : Nat} {ns : List Nd} {k : Nat} {f a : Tm} (h : RepP W B ns k (.app f a)) : ∃ nd, ns[k]? = some nd ∧ nd.kind = 64 ∧ nd.a < k ∧ nd.b < k ∧ RepP W B ns nd.a f ∧ RepP W B ns nd.b a := by
  obtain ⟨⟨nd, h1, h2, h3, h4⟩, ⟨nd2, g1, g0, g2, g3, g4, g5⟩⟩ := h
  obtain rfl : nd = nd2 := Option.some.inj (h1.symm.trans g1)
  exact ⟨nd, h1, h2, by omega, by omega, ⟨h3, g4⟩, ⟨h4, g5⟩⟩
theorem RepP.piAt {W : World} {B : Nat} {ns : List Nd} {k : Nat} {f a : Tm} (h : RepP W B ns k (.pi f a)) : ∃ nd, ns[k]? = some nd ∧ nd.kind = 112 ∧ nd.a < k ∧ nd.b < k ∧ RepP W B ns nd.a f ∧ RepP W B ns nd.b a := by
  obtain ⟨⟨nd, h1, h2, h3, h4⟩, ⟨nd2, g1, g0, g2, g3, g4, g5⟩⟩ := h
  obtain rfl : nd = nd2 := Option.some.inj (h1.symm.trans g1)
  exact ⟨nd, h1, h2, by omega, by omega, ⟨h3, g4⟩, ⟨h4, g5⟩⟩
theorem kind_app {u : Tm} (h : u.kind = 64) : ∃ f a, u = .app f a := by
  cases u with
  | app f a => exact ⟨f, a, rfl⟩
  | _ => simp [Tm.kind] at h
theorem kind_pi {u : Tm} (h : u.kind = 112) : ∃ f a, u = .pi f a := by
  cases u with
  | pi f a => exact ⟨f, a, rfl⟩
  | _ => simp [Tm.kind] at h
theorem not_app {u : Tm} (h : u.kind ≠ 64) : u.head = u ∧ u.args = [] := by
  cases u with
  | app f a => exact absurd rfl h
  | _ => exact ⟨rfl, rfl⟩
theorem not_pi {u : Tm} (h : u.kind ≠ 112) : u.targ = u ∧ u.doms = [] := by
  cases u with
  | pi f a => exact absurd rfl h
  | _ => exact ⟨rfl, rfl⟩

/-- The name at a node, if it is a constant's. -/
def nameAt (ns : List Nd) (i : Nat) : List (List UInt8) := match ns[i]? with
  | some nd => if nd.kind = 99 then [nd.text] else []
  | none => []
theorem nameAt_some {ns : List Nd} {i : Nat} {nd : Nd} (h : ns[i]? = some nd) : nameAt ns i = if nd.kind = 99 then [nd.text] else [] := by
  rw [nameAt, h]
theorem names_at {W : World} {B : Nat} {ns : List Nd} : ∀ (T : Tm) (k : Nat), RepP W B ns k T → (List.range' (k + 1 - T.size) T.size).flatMap (nameAt ns) = T.cnames
  | .var n, k, h => by
    obtain ⟨nd, h1, h2⟩ := h.1
    have hk : nd.kind = 118 := h2.1
    rw [show k + 1 - (Tm.var n).size = k from rfl]
    show [k].flatMap _ = _
    rw [List.flatMap_cons, nameAt_some h1, hk]
    rfl
  | .sort l, k, h => by
    obtain ⟨nd, h1, h2⟩ := h.1
    have hk : nd.kind = 115 := h2.1
    rw [show k + 1 - (Tm.sort l).size = k from rfl]
    show [k].flatMap _ = _
    rw [List.flatMap_cons, nameAt_some h1, hk]
    rfl
  | .const n ls, k, h => by
    obtain ⟨nd, h1, h2⟩ := h.1
    have hk : nd.kind = 99 := h2.1
    have ht : nd.text = n := h2.2.1
    rw [show k + 1 - (Tm.const n ls).size = k from rfl]
    show [k].flatMap _ = _
    rw [List.flatMap_cons, nameAt_some h1, hk, ht]
    rfl
  | .app f a, k, h => by
    have hz := h.at.1
    obtain ⟨⟨nd, h1, h2, h3, h4⟩, ⟨nd2, g1, g0, g2, g3, g4, g5⟩⟩ := h
    obtain rfl : nd = nd2 := Option.some.inj (h1.symm.trans g1)
    have i1 := names_at f nd.a ⟨h3, g4⟩
    have i2 := names_at a nd.b ⟨h4, g5⟩
    have z1 := (RepP.at f nd.a ⟨h3, g4⟩).1
    have z2 := (RepP.at a nd.b ⟨h4, g5⟩).1
    have y1 := f.size_pos
    simp only [Tm.size] at hz ⊢
    rw [show f.size + a.size + 1 = (f.size + a.size) + 1 from rfl, ← List.range'_append_1, ← List.range'_append_1, List.flatMap_append, List.flatMap_append]
    rw [show k + 1 - (f.size + a.size + 1) = nd.a + 1 - f.size by omega, i1, show nd.a + 1 - f.size + f.size = nd.b + 1 - a.size by omega, i2]
    rw [show nd.a + 1 - f.size + (f.size + a.size) = k by omega]
    show _ ++ _ ++ [k].flatMap _ = _
    rw [List.flatMap_cons, nameAt_some h1, h2]
    simp [Tm.cnames]
  | .lam f a, k, h => by
    have hz := h.at.1
    obtain ⟨⟨nd, h1, h2, h3, h4⟩, ⟨nd2, g1, g0, g2, g3, g4, g5⟩⟩ := h
    obtain rfl : nd = nd2 := Option.some.inj (h1.symm.trans g1)
    have i1 := names_at f nd.a ⟨h3, g4⟩
    have i2 := names_at a nd.b ⟨h4, g5⟩
    have z1 := (RepP.at f nd.a ⟨h3, g4⟩).1
    have z2 := (RepP.at a nd.b ⟨h4, g5⟩).1
    have y1 := f.size_pos
    simp only [Tm.size] at hz ⊢
    rw [show f.size + a.size + 1 = (f.size + a.size) + 1 from rfl, ← List.range'_append_1, ← List.range'_append_1, List.flatMap_append, List.flatMap_append]
    rw [show k + 1 - (f.size + a.size + 1) = nd.a + 1 - f.size by omega, i1, show nd.a + 1 - f.size + f.size = nd.b + 1 - a.size by omega, i2]
    rw [show nd.a + 1 - f.size + (f.size + a.size) = k by omega]
    show _ ++ _ ++ [k].flatMap _ = _
    rw [List.flatMap_cons, nameAt_some h1, h2]
    simp [Tm.cnames]
  | .pi f a, k, h => by
    have hz := h.at.1
    obtain ⟨⟨nd, h1, h2, h3, h4⟩, ⟨nd2, g1, g0, g2, g3, g4, g5⟩⟩ := h
    obtain rfl : nd = nd2 := Option.some.inj (h1.symm.trans g1)
    have i1 := names_at f nd.a ⟨h3, g4⟩
    have i2 := names_at a nd.b ⟨h4, g5⟩
    have z1 := (RepP.at f nd.a ⟨h3, g4⟩).1
    have z2 := (RepP.at a nd.b ⟨h4, g5⟩).1
    have y1 := f.size_pos
    simp only [Tm.size] at hz ⊢
    rw [show f.size + a.size + 1 = (f.size + a.size) + 1 from rfl, ← List.range'_append_1, ← List.range'_append_1, List.flatMap_append, List.flatMap_append]
    rw [show k + 1 - (f.size + a.size + 1) = nd.a + 1 - f.size by omega, i1, show nd.a + 1 - f.size + f.size = nd.b + 1 - a.size by omega, i2]
    rw [show nd.a + 1 - f.size + (f.size + a.size) = k by omega]
    show _ ++ _ ++ [k].flatMap _ = _
    rw [List.flatMap_cons, nameAt_some h1, h2]
    simp [Tm.cnames]
  | .lett f a b, k, h => by
    have hz := h.at.1
    obtain ⟨⟨nd, h1, h2, h3, h4, h5⟩, ⟨nd2, g1, g0, g2, g3, g4, g5, g6, g7⟩⟩ := h
    obtain rfl : nd = nd2 := Option.some.inj (h1.symm.trans g1)
    have i1 := names_at f nd.a ⟨h3, g5⟩
    have i2 := names_at a nd.b ⟨h4, g6⟩
    have i3 := names_at b nd.c ⟨h5, g7⟩
    have z1 := (RepP.at f nd.a ⟨h3, g5⟩).1
    have z2 := (RepP.at a nd.b ⟨h4, g6⟩).1
    have z3 := (RepP.at b nd.c ⟨h5, g7⟩).1
    have y1 := f.size_pos
    simp only [Tm.size] at hz ⊢
    rw [show f.size + a.size + b.size + 1 = ((f.size + a.size) + b.size) + 1 from rfl, ← List.range'_append_1, ← List.range'_append_1, ← List.range'_append_1, List.flatMap_append, List.flatMap_append, List.flatMap_append]
    rw [show k + 1 - (f.size + a.size + b.size + 1) = nd.a + 1 - f.size by omega, i1, show nd.a + 1 - f.size + f.size = nd.b + 1 - a.size by omega, i2, show nd.a + 1 - f.size + (f.size + a.size) = nd.c + 1 - b.size by omega, i3]
    rw [show nd.a + 1 - f.size + (f.size + a.size + b.size) = k by omega]
    show _ ++ _ ++ _ ++ [k].flatMap _ = _
    rw [List.flatMap_cons, nameAt_some h1, h2]
    simp [Tm.cnames]
/-- The names of a whole term, node by node. -/
theorem names_all {W : World} {B : Nat} {ns : List Nd} {T : Tm} (h : RepP W B ns (ns.length - 1) T) (hn : ns.length = T.size) : (List.range ns.length).flatMap (nameAt ns) = T.cnames := by
  have hz := T.size_pos
  have h1 := names_at T _ h
  rw [show ns.length - 1 + 1 - T.size = 0 by omega, ← hn] at h1
  rw [List.range_eq_range']
  exact h1
theorem names_succ (ns : List Nd) (k : Nat) : (List.range (k + 1)).flatMap (nameAt ns) = (List.range k).flatMap (nameAt ns) ++ nameAt ns k := by
  rw [List.range_succ, List.flatMap_append, List.flatMap_singleton]
theorem names_len (ns : List Nd) : ∀ k, ((List.range k).flatMap (nameAt ns)).length ≤ k
  | 0 => by simp
  | k + 1 => by
    have h1 := names_len ns k
    have h2 : (nameAt ns k).length ≤ 1 := by
      unfold nameAt
      split
      · split <;> simp
      · simp
    rw [names_succ, List.length_append]
    omega
end Go.Proofs.YtimekfhchammnaaGreatDoor

namespace Go.Proofs.YtimekfhchammnaaGreatDoor
set_option maxRecDepth 100000
open Go.ChangeShapes Go.WideShapes Go.ChangeAt Go.RowKit
set_option linter.unusedSimpArgs false

/-- The rows from B on that W has are as they were. -/
def KeepA (B : Nat) (W W' : World) : Prop := ∀ e z v n xs, W.ownsRow B e z v n xs → W'.ownsRow B e z v n xs
theorem KeepA.refl (B : Nat) (W : World) : KeepA B W W := fun _ _ _ _ _ h => h
theorem KeepA.strs {B : Nat} {W W' : World} (h : KeepA B W W') : KeepS B W W' := fun v n xs hv => h _ _ v n xs hv
theorem KeepA.step {B : Nat} {W wr w2 : World} {ob : Option Nat} (h : KeepA B W wr) (hg : wr.grownBy w2 ob) (ha : ∀ k, ob = some k → k < B ∨ W.heap.size ≤ k) : KeepA B W w2 := fun e z v n xs hv => by
  refine (h e z v n xs hv).kept hg ?_
  rcases hb : v.ownBlock with _ | k
  · exact .inl rfl
  · refine .inr fun e => ?_
    have h1 := hv.lt k hb
    have h2 := ha k e.symm
    omega
theorem KeepA.below {B : Nat} {W wr w2 : World} (h : KeepA B W wr) (hb : Below wr.heap.size wr w2) : KeepA B W w2 := h.step (grownBy_of_below hb none) (fun _ h => by cases h)
theorem own_baseE {W : World} {b b' z n : Nat} {e : TypeId} {v : Value} {xs : List Value} (h : W.ownsRow b e z v n xs) (hb : b' ≤ b) : W.ownsRow b' e z v n xs := by
  refine ⟨h.1, ?_⟩
  rcases h.2 with h1 | ⟨g, cap, cur, h1, h2, h3⟩
  · exact .inl h1
  · exact .inr ⟨g, cap, cur, h1, Nat.le_trans hb h2, h3⟩
def Off (B H : Nat) (v : Value) : Prop := ∀ k, v.ownBlock = some k → k < B ∨ H ≤ k
end Go.Proofs.YtimekfhchammnaaGreatDoor

namespace Go.Proofs.YtimekfhchammnaaGreatDoor
set_option maxRecDepth 100000

abbrev BL := List UInt8
def psh (out : List BL) (s : BL) : List BL := if out.getLast? = some s then out else out ++ [s]
def mrg (a b out : List BL) : List BL :=
  match a, b with
  | [], [] => out
  | x :: a', [] => mrg a' [] (psh out x)
  | [], y :: b' => mrg [] b' (psh out y)
  | x :: a', y :: b' => if x ≤ y then mrg a' (y :: b') (psh out x) else mrg (x :: a') b' (psh out y)
termination_by a.length + b.length
def srt (l : List BL) : List BL :=
  if h : l.length < 2 then l else mrg (srt (l.take (l.length / 2))) (srt (l.drop (l.length / 2))) []
termination_by l.length
decreasing_by
  · simp; omega
  · simp; omega
theorem srt_small {l : List BL} (h : l.length < 2) : srt l = l := by rw [srt, dif_pos h]
theorem srt_large {l : List BL} (h : ¬ l.length < 2) : srt l = mrg (srt (l.take (l.length / 2))) (srt (l.drop (l.length / 2))) [] := by rw [srt, dif_neg h]

theorem psh_len (out : List BL) (s : BL) : (psh out s).length ≤ out.length + 1 := by
  unfold psh; split <;> simp
theorem mrg_left {a b : List BL} {i k : Nat} (out : List BL) (hi : i < a.length) (h : ∀ hk : k < b.length, a[i] ≤ b[k]) : mrg (a.drop i) (b.drop k) out = mrg (a.drop (i + 1)) (b.drop k) (psh out a[i]) := by
  rw [List.drop_eq_getElem_cons hi]
  by_cases hk : k < b.length
  · rw [List.drop_eq_getElem_cons hk, mrg, if_pos (h hk)]
  · have e : b.drop k = [] := List.drop_eq_nil_of_le (by omega)
    rw [e, mrg]
theorem mrg_right {a b : List BL} {i k : Nat} (out : List BL) (hk : k < b.length) (h : ∀ hi : i < a.length, ¬ a[i] ≤ b[k]) : mrg (a.drop i) (b.drop k) out = mrg (a.drop i) (b.drop (k + 1)) (psh out b[k]) := by
  rw [List.drop_eq_getElem_cons hk]
  by_cases hi : i < a.length
  · rw [List.drop_eq_getElem_cons hi, mrg, if_neg (h hi)]
  · rw [List.drop_eq_nil_of_le (by omega), mrg]
theorem mrg_done {a b : List BL} {i k : Nat} (out : List BL) (hi : ¬ i < a.length) (hk : ¬ k < b.length) : mrg (a.drop i) (b.drop k) out = out := by
  rw [List.drop_eq_nil_of_le (by omega), List.drop_eq_nil_of_le (by omega), mrg]

def Asc (l : List BL) : Prop := l.Pairwise (· < ·)
theorem lt_ne {x y : BL} (h : x < y) : x ≠ y := fun e => List.lt_irrefl x (by rw [← e] at h; exact h)
theorem lt_of_le_ne {x y : BL} (h : x ≤ y) (hne : x ≠ y) : x < y := by
  by_cases h2 : x < y
  · exact h2
  · exact absurd (List.le_antisymm h (List.not_lt.1 h2)) hne
theorem lt_of_le_lt {x y z : BL} (h : x ≤ y) (h2 : y < z) : x < z := by
  by_cases e : x = y
  · rw [e]; exact h2
  · exact List.lt_trans (lt_of_le_ne h e) h2
theorem psh_mem {out : List BL} {s z : BL} : z ∈ psh out s ↔ z ∈ out ∨ z = s := by
  unfold psh
  split
  · rename_i h
    constructor
    · exact .inl
    · rintro (h2 | rfl)
      · exact h2
      · exact List.mem_of_getLast? h
  · simp
theorem asc_le_last {out : List BL} {s : BL} (h : Asc out) (hs : out.getLast? = some s) : ∀ o ∈ out, o ≤ s := by
  intro o ho
  obtain ⟨r, rfl⟩ : ∃ r, out = r ++ [s] := List.getLast?_eq_some_iff.1 hs
  rcases List.mem_append.1 ho with h1 | h1
  · exact List.le_of_lt ((List.pairwise_append.1 h).2.2 o h1 s (by simp))
  · rw [List.mem_singleton.1 h1]; exact List.le_refl _
theorem psh_asc {out : List BL} {s : BL} (h : Asc out) (hle : ∀ o ∈ out, o ≤ s) : Asc (psh out s) := by
  unfold psh
  split
  · exact h
  · rename_i hne
    refine List.pairwise_append.2 ⟨h, by simp, fun o ho x hx => ?_⟩
    rw [List.mem_singleton.1 hx]
    refine lt_of_le_ne (hle o ho) ?_
    rintro rfl
    cases hl : out.getLast? with
    | none => rw [List.getLast?_eq_none_iff.1 hl] at ho; simp at ho
    | some t =>
      have h1 := asc_le_last h hl o ho
      have h2 := hle t (List.mem_of_getLast? hl)
      exact hne (by rw [hl, List.le_antisymm h2 h1])
theorem asc_cons {x : BL} {l : List BL} (h : Asc (x :: l)) : Asc l ∧ ∀ y ∈ l, x < y := ⟨(List.pairwise_cons.1 h).2, (List.pairwise_cons.1 h).1⟩

theorem mrg_spec : ∀ (n : Nat) (a b out : List BL), a.length + b.length ≤ n → Asc a → Asc b → Asc out → (∀ o ∈ out, (∀ x ∈ a, o ≤ x) ∧ ∀ y ∈ b, o ≤ y) →
    Asc (mrg a b out) ∧ ∀ z, z ∈ mrg a b out ↔ z ∈ out ∨ z ∈ a ∨ z ∈ b := by
  intro n
  induction n with
  | zero =>
    intro a b out hn _ _ ho _
    have h1 : a = [] := List.length_eq_zero_iff.1 (by omega)
    have h2 : b = [] := List.length_eq_zero_iff.1 (by omega)
    subst h1 h2
    rw [mrg]
    exact ⟨ho, by simp⟩
  | succ n ih =>
    intro a b out hn ha hb ho hle
    cases a with
    | nil =>
      cases b with
      | nil => rw [mrg]; exact ⟨ho, by simp⟩
      | cons y b =>
        rw [mrg]
        obtain ⟨hb1, hb2⟩ := asc_cons hb
        obtain ⟨h1, h2⟩ := ih [] b (psh out y) (by simp at hn ⊢; omega) ha hb1 (psh_asc ho fun o h => (hle o h).2 y (by simp)) (fun o h => by
          refine ⟨by simp, fun z hz => ?_⟩
          rcases psh_mem.1 h with h | rfl
          · exact (hle o h).2 z (by simp [hz])
          · exact List.le_of_lt (hb2 z hz))
        refine ⟨h1, fun z => ?_⟩
        rw [h2, psh_mem]
        simp [or_assoc]
    | cons x a =>
      obtain ⟨ha1, ha2⟩ := asc_cons ha
      cases b with
      | nil =>
        rw [mrg]
        obtain ⟨h1, h2⟩ := ih a [] (psh out x) (by simp at hn ⊢; omega) ha1 hb (psh_asc ho fun o h => (hle o h).1 x (by simp)) (fun o h => by
          refine ⟨fun z hz => ?_, by simp⟩
          rcases psh_mem.1 h with h | rfl
          · exact (hle o h).1 z (by simp [hz])
          · exact List.le_of_lt (ha2 z hz))
        refine ⟨h1, fun z => ?_⟩
        rw [h2, psh_mem]
        simp [or_assoc]
      | cons y b =>
        obtain ⟨hb1, hb2⟩ := asc_cons hb
        rw [mrg]
        split
        · rename_i hxy
          obtain ⟨h1, h2⟩ := ih a (y :: b) (psh out x) (by simp at hn ⊢; omega) ha1 hb (psh_asc ho fun o h => (hle o h).1 x (by simp)) (fun o h => by
            rcases psh_mem.1 h with h | rfl
            · exact ⟨fun z hz => (hle o h).1 z (by simp [hz]), (hle o h).2⟩
            · refine ⟨fun z hz => List.le_of_lt (ha2 z hz), fun z hz => ?_⟩
              rcases List.mem_cons.1 hz with rfl | hz
              · exact hxy
              · exact List.le_trans hxy (List.le_of_lt (hb2 z hz)))
          refine ⟨h1, fun z => ?_⟩
          rw [h2, psh_mem]
          simp [or_assoc]
        · rename_i hxy
          have hyx : y ≤ x := (List.le_total x y).resolve_left hxy
          obtain ⟨h1, h2⟩ := ih (x :: a) b (psh out y) (by simp at hn ⊢; omega) ha hb1 (psh_asc ho fun o h => (hle o h).2 y (by simp)) (fun o h => by
            rcases psh_mem.1 h with h | rfl
            · exact ⟨(hle o h).1, fun z hz => (hle o h).2 z (by simp [hz])⟩
            · refine ⟨fun z hz => ?_, fun z hz => List.le_of_lt (hb2 z hz)⟩
              rcases List.mem_cons.1 hz with rfl | hz
              · exact hyx
              · exact List.le_trans hyx (List.le_of_lt (ha2 z hz)))
          refine ⟨h1, fun z => ?_⟩
          rw [h2, psh_mem]
          simp only [List.mem_cons]
          constructor
          · rintro ((h | h) | h | h)
            · exact .inl h
            · exact .inr (.inr (.inl h))
            · exact .inr (.inl h)
            · exact .inr (.inr (.inr h))
          · rintro (h | h | h | h)
            · exact .inl (.inl h)
            · exact .inr (.inl h)
            · exact .inl (.inr h)
            · exact .inr (.inr h)
theorem mrg_len : ∀ (n : Nat) (a b out : List BL), a.length + b.length ≤ n → (mrg a b out).length ≤ out.length + a.length + b.length := by
  intro n
  induction n with
  | zero =>
    intro a b out hn
    have h1 : a = [] := List.length_eq_zero_iff.1 (by omega)
    have h2 : b = [] := List.length_eq_zero_iff.1 (by omega)
    subst h1 h2
    rw [mrg]; simp
  | succ n ih =>
    intro a b out hn
    cases a with
    | nil =>
      cases b with
      | nil => rw [mrg]; simp
      | cons y b =>
        rw [mrg]
        have := ih [] b (psh out y) (by simp at hn ⊢; omega)
        have := psh_len out y
        simp at *; omega
    | cons x a =>
      cases b with
      | nil =>
        rw [mrg]
        have := ih a [] (psh out x) (by simp at hn ⊢; omega)
        have := psh_len out x
        simp at *; omega
      | cons y b =>
        rw [mrg]
        split
        · have := ih a (y :: b) (psh out x) (by simp at hn ⊢; omega)
          have := psh_len out x
          simp at *; omega
        · have := ih (x :: a) b (psh out y) (by simp at hn ⊢; omega)
          have := psh_len out y
          simp at *; omega
theorem srt_spec : ∀ (n : Nat) (l : List BL), l.length ≤ n → Asc (srt l) ∧ (∀ z, z ∈ srt l ↔ z ∈ l) ∧ (srt l).length ≤ l.length := by
  intro n
  induction n using Nat.strongRecOn with
  | ind n ih =>
    intro l hl
    by_cases h : l.length < 2
    · rw [srt_small h]
      refine ⟨?_, fun z => Iff.rfl, Nat.le_refl _⟩
      match l, h with
      | [], _ => exact List.Pairwise.nil
      | [x], _ => exact List.pairwise_singleton _ _
    · have e1 : (l.take (l.length / 2)).length = l.length / 2 := by simp; omega
      have e2 : (l.drop (l.length / 2)).length = l.length - l.length / 2 := by simp
      obtain ⟨a1, a2, a3⟩ := ih (l.length / 2) (by omega) (l.take (l.length / 2)) (by omega)
      obtain ⟨b1, b2, b3⟩ := ih (l.length - l.length / 2) (by omega) (l.drop (l.length / 2)) (by omega)
      rw [srt_large h]
      obtain ⟨m1, m2⟩ := mrg_spec _ _ _ [] (Nat.le_refl _) a1 b1 List.Pairwise.nil (by simp)
      refine ⟨m1, fun z => ?_, ?_⟩
      · rw [m2, a2, b2]
        simp only [List.not_mem_nil, false_or]
        rw [← List.mem_append, List.take_append_drop]
      · have := mrg_len _ (srt (l.take (l.length / 2))) (srt (l.drop (l.length / 2))) [] (Nat.le_refl _)
        simp only [List.length_nil] at this
        omega
theorem asc_unique : ∀ (a b : List BL), Asc a → Asc b → (∀ z, z ∈ a ↔ z ∈ b) → a = b := by
  intro a
  induction a with
  | nil =>
    intro b _ _ h
    cases b with
    | nil => rfl
    | cons y b => have := (h y).2 (by simp); simp at this
  | cons x a ih =>
    intro b ha hb h
    cases b with
    | nil => have := (h x).1 (by simp); simp at this
    | cons y b =>
      obtain ⟨ha1, ha2⟩ := asc_cons ha
      obtain ⟨hb1, hb2⟩ := asc_cons hb
      have hxy : x = y := by
        rcases List.mem_cons.1 ((h x).1 (by simp)) with e | hx
        · exact e
        · rcases List.mem_cons.1 ((h y).2 (by simp)) with e | hy
          · exact e.symm
          · exact absurd (List.lt_trans (ha2 y hy) (hb2 x hx)) (List.lt_irrefl x)
      subst hxy
      rw [ih b ha1 hb1 fun z => ?_]
      constructor
      · intro hz
        rcases List.mem_cons.1 ((h z).1 (by simp [hz])) with rfl | hz2
        · exact absurd (ha2 z hz) (List.lt_irrefl z)
        · exact hz2
      · intro hz
        rcases List.mem_cons.1 ((h z).2 (by simp [hz])) with rfl | hz2
        · exact absurd (hb2 z hz) (List.lt_irrefl z)
        · exact hz2

theorem compact_spec (d : Array BL) (hs : ∀ i j, i < j → j < d.size → d[i]! ≤ d[j]!) : ∀ m, m ≤ d.size →
    Asc (Lib.compactUpTo d m) ∧ (∀ z, z ∈ Lib.compactUpTo d m ↔ ∃ j, j < m ∧ d[j]! = z) := by
  intro m
  induction m with
  | zero => intro _; simp [Lib.compactUpTo, Asc]
  | succ m ih =>
    intro hm
    obtain ⟨h1, h2⟩ := ih (by omega)
    rw [Lib.compactUpTo_succ]
    by_cases hk : Lib.keeps d m = true
    · rw [if_pos hk]
      constructor
      · refine List.pairwise_append.2 ⟨h1, by simp, fun o ho x hx => ?_⟩
        rw [List.mem_singleton.1 hx]
        obtain ⟨j, hj, rfl⟩ := (h2 o).1 ho
        have hne : d[m]! ≠ d[m - 1]! := by
          simp only [Lib.keeps, decide_eq_true_eq] at hk
          rcases hk with hk | hk
          · omega
          · exact hk
        have h3 : d[m - 1]! < d[m]! := lt_of_le_ne (hs (m - 1) m (by omega) (by omega)) (Ne.symm hne)
        by_cases e : j = m - 1
        · rw [e]; exact h3
        · exact lt_of_le_lt (hs j (m - 1) (by omega) (by omega)) h3
      · intro z
        rw [List.mem_append, h2, List.mem_singleton]
        constructor
        · rintro (⟨j, hj, e⟩ | rfl)
          · exact ⟨j, by omega, e⟩
          · exact ⟨m, by omega, rfl⟩
        · rintro ⟨j, hj, rfl⟩
          by_cases e : j = m
          · exact .inr (by rw [e])
          · exact .inl ⟨j, by omega, rfl⟩
    · rw [if_neg hk, List.append_nil]
      refine ⟨h1, fun z => ?_⟩
      rw [h2]
      have hm0 : m ≠ 0 ∧ d[m]! = d[m - 1]! := by
        simp only [Lib.keeps, decide_eq_true_eq, not_or, ne_eq, Decidable.not_not] at hk
        exact hk
      constructor
      · rintro ⟨j, hj, e⟩; exact ⟨j, by omega, e⟩
      · rintro ⟨j, hj, e⟩
        by_cases e2 : j = m
        · exact ⟨m - 1, by omega, by rw [← e, e2, hm0.2]⟩
        · exact ⟨j, by omega, e⟩
theorem compact_srt (l : List BL) : Lib.compact (l.mergeSort fun x y => decide (x ≤ y)) = srt l := by
  have hp : (l.mergeSort fun x y => decide (x ≤ y)).Pairwise (fun a b => decide (a ≤ b) = true) :=
    List.pairwise_mergeSort (fun a b c h1 h2 => by simp only [decide_eq_true_eq] at *; exact List.le_trans h1 h2) (fun a b => by simp only [Bool.or_eq_true, decide_eq_true_eq]; exact List.le_total a b) l
  have hmem : ∀ z, z ∈ (l.mergeSort fun x y => decide (x ≤ y)) ↔ z ∈ l := fun z => List.mem_mergeSort
  generalize (l.mergeSort fun x y => decide (x ≤ y)) = s at hp hmem
  obtain ⟨c1, c2⟩ := compact_spec s.toArray (fun i j hij hj => by
    have hj2 : j < s.length := by simpa using hj
    have hi2 : i < s.length := by omega
    have := List.pairwise_iff_getElem.1 hp i j hi2 hj2 hij
    simpa [getElem!_pos, hi2, hj2] using this) s.length (by simp)
  obtain ⟨s1, s2, _⟩ := srt_spec l.length l (Nat.le_refl _)
  refine asc_unique _ _ c1 s1 fun z => ?_
  show z ∈ Lib.compactUpTo s.toArray s.length ↔ _
  rw [c2, s2, ← hmem]
  constructor
  · rintro ⟨j, hj, rfl⟩
    simp [getElem!_pos, hj]
  · intro hz
    obtain ⟨j, hj, e⟩ := List.getElem_of_mem hz
    exact ⟨j, hj, by simp [getElem!_pos, hj, e]⟩
end Go.Proofs.YtimekfhchammnaaGreatDoor

namespace Go.Proofs.YtimekfhchammnaaGreatDoor
set_option maxRecDepth 100000
open Go.ChangeShapes Go.WideShapes Go.ChangeAt Go.RowKit
set_option linter.unusedSimpArgs false

/-- A slice, not nil, over strings. -/
def View (w : World) (v : Value) (l : List BL) : Prop :=
  ∃ b off cap : Nat, v = .slice (some ⟨b, off, none⟩) l.length cap ∧ l.length ≤ cap ∧ cap ≤ maxLen ∧ b < w.heap.size ∧ ∀ j (h : j < l.length), w.cell? ⟨b, off + j, none⟩ = some (sv l[j])
theorem View.below {w w' : World} {v : Value} {l : List BL} (h : View w v l) (hb : Below w.heap.size w w') : View w' v l := by
  obtain ⟨b, off, cap, h1, h2, h3, h4, h5⟩ := h
  refine ⟨b, off, cap, h1, h2, h3, Nat.lt_of_lt_of_le h4 hb.size, fun j hj => ?_⟩
  rw [hb.cell (p := ⟨b, off + j, none⟩) h4]
  exact h5 j hj
theorem View.take {w : World} {b off cap : Nat} {l : List BL} (h : View w (.slice (some ⟨b, off, none⟩) l.length cap) l) (k : Nat) (hk : k ≤ l.length) : View w (.slice (some ⟨b, off, none⟩) k cap) (l.take k) := by
  obtain ⟨b', off', cap', h1, h2, h3, h4, h5⟩ := h
  simp only [Value.slice.injEq, Option.some.injEq, Addr.mk.injEq, and_true, true_and] at h1
  obtain ⟨⟨rfl, rfl⟩, rfl⟩ := h1
  have e : (l.take k).length = k := by simp; omega
  refine ⟨b, off, cap, by rw [e], by omega, h3, h4, fun j hj => ?_⟩
  rw [e] at hj
  rw [h5 j (by omega), List.getElem_take]
theorem View.drop {w : World} {b off cap : Nat} {l : List BL} (h : View w (.slice (some ⟨b, off, none⟩) l.length cap) l) (k : Nat) (hk : k ≤ l.length) : View w (.slice (some ⟨b, off + k, none⟩) (l.length - k) (cap - k)) (l.drop k) := by
  obtain ⟨b', off', cap', h1, h2, h3, h4, h5⟩ := h
  simp only [Value.slice.injEq, Option.some.injEq, Addr.mk.injEq, and_true, true_and] at h1
  obtain ⟨⟨rfl, rfl⟩, rfl⟩ := h1
  have e : (l.drop k).length = l.length - k := by simp
  refine ⟨b, off + k, cap - k, by rw [e], by omega, by omega, h4, fun j hj => ?_⟩
  rw [e] at hj
  rw [Nat.add_assoc, h5 (k + j) (by omega), List.getElem_drop]
theorem srt_pos {l : List BL} (h : 0 < l.length) : 0 < (srt l).length := by
  obtain ⟨_, s2, _⟩ := srt_spec l.length l (Nat.le_refl _)
  have := (s2 l[0]).2 (List.getElem_mem h)
  exact List.length_pos_of_mem this
theorem one_map (l : List BL) : ∀ u ∈ l.map sv, u.oneCell' = true := by
  intro u hu
  obtain ⟨x, _, rfl⟩ := List.mem_map.1 hu
  rfl

theorem own_mono' {w : World} {base base' : Nat} {e : TypeId} {size : Nat} {v : Value} {n : Nat} {xs : List Value} (h : w.ownsRow base e size v n xs) (hb : base' ≤ base) : w.ownsRow base' e size v n xs := by
  refine ⟨h.1, ?_⟩
  rcases h.2 with h | ⟨g, cap, cur, h1, h2, h3⟩
  · exact .inl h
  · exact .inr ⟨g, cap, cur, h1, Nat.le_trans hb h2, h3⟩
theorem psh_nil (x : BL) : psh [] x = [x] := by simp [psh]
theorem psh_same (r : List BL) (x : BL) : psh (r ++ [x]) x = r ++ [x] := by simp [psh]
theorem psh_other {r : List BL} {z x : BL} (h : z ≠ x) : psh (r ++ [z]) x = r ++ [z] ++ [x] := by simp [psh, h]
theorem leq_true {x y : BL} (h : x ≤ y) : (Op.bytesLess x y || x == y) = true := by
  rw [bytesLess_eq]
  by_cases e : x = y
  · simp [e]
  · simp [lt_of_le_ne h e]
theorem leq_false {x y : BL} (h : ¬ x ≤ y) : (Op.bytesLess x y || x == y) = false := by
  rw [bytesLess_eq, Bool.or_eq_false_iff]
  refine ⟨decide_eq_false fun h2 => h (List.le_of_lt h2), ?_⟩
  rw [beq_eq_false_iff_ne]
  rintro rfl
  exact h (List.le_refl _)

set_option maxHeartbeats 4000000 in
theorem specSorted (n : Nat) : ∀ (l : List BL), l.length ≤ n → l.length ≤ 2097152 → ∀ (w : World) (v : Value), View w v l → Calls Tryz.prog 43 #[v] w (LRes (srt l) w) := by
  induction n using Nat.strongRecOn with
  | ind n ih =>
    intro l hln hn w v hV
    obtain ⟨i0, hi, hz0, hz1, hz2⟩ := info_parts infoStr
    by_cases hsm : l.length < 2
    · obtain ⟨b, off, cap, rfl, hc1, hc2, hb, hcells⟩ := hV
      have HR := Lib.hid (srt_small hsm)
      have hd : decide ((l.length : Int) < 2) = true := decide_eq_true (by omega)
      have hnews : ∀ j u, (l.map sv)[j]? = some u → (w.alloc (.cells #[] 9)).cell? ((⟨b, off, none⟩ : Addr).add j) = some u := by
        intro j u hu
        obtain ⟨hj, rfl⟩ := List.getElem?_eq_some_iff.1 hu
        have hj2 : j < l.length := by simpa using hj
        rw [add_plain, List.getElem_map, ← hcells j hj2]
        exact (Below.cell ((Below.refl w.heap.size w).alloc (Nat.le_refl _) _) (p := ⟨b, off + j, none⟩) hb)
      clear hcells ih
      go_enter Tryz.func43, Tryz.ntmps43
      go_wp2_with (at_builtin; refine wpList_append_own _ rfl _ _ 34 rfl w.heap.size 9 i0 _ 1 16 Tryz.underlying34 hi hz0 hz1 hz2 rfl (by decide) _ 0 [] rfl (World.ownsRow_lit w #[] 0 (Nat.le_refl _) (by decide) (by simp)) ⟨b, off, none⟩ l.length cap (l.map sv) rfl (by simp) hnews (one_map l) (by simp only [maxLen]; omega) (by omega) (by simp) ?_; intro v1 w1 hown1 hgrow hat)
      go_ret
      rw [HR.out]
      exact ⟨_, rfl, by simpa using hown1, ((Below.refl _ _).alloc (Nat.le_refl _) _).grown hgrow (by simp) (fun j hj => by cases hj; exact Nat.le_refl _)⟩
    · have HR := Lib.hid (srt_large hsm)
      obtain ⟨b, off, cap, rfl, hc1, hc2, hb, _⟩ := id hV
      unfold maxLen at hc2
      have hd : decide ((l.length : Int) < 2) = false := decide_eq_false (by omega)
      obtain ⟨m, hm⟩ : ∃ m, l.length / 2 = m := ⟨_, rfl⟩
      rw [hm] at HR
      have hq : (l.length : Int) / 2 = (m : Int) := by omega
      have hm1 : 1 ≤ m := by omega
      have hm2 : m < l.length := by omega
      clear hm
      have hA := Lib.hid (hV.take m (by omega))
      have hB := Lib.hid (hV.drop m (by omega))
      have e1 : (l.take m).length = m := by simp; omega
      have e2 : (l.drop m).length = l.length - m := by simp
      have f1 := Lib.hid fun W v h => ih m (by omega) (l.take m) (by omega) (by omega) W v h
      have f2 := Lib.hid fun W v h => ih (l.length - m) (by omega) (l.drop m) (by omega) (by omega) W v h
      have p1 := srt_pos (l := l.take m) (by omega)
      have p2 := srt_pos (l := l.drop m) (by omega)
      have s1 := (srt_spec _ (l.take m) (Nat.le_refl _)).2.2
      have s2 := (srt_spec _ (l.drop m) (Nat.le_refl _)).2.2
      rw [e1] at s1
      rw [e2] at s2
      clear e1 e2 hV ih
      generalize srt (l.take m) = A at HR f1 p1 s1
      generalize srt (l.drop m) = B at HR f2 p2 s2
      go_enter Tryz.func43, Tryz.ntmps43
      go_wp2_with fail
      (refine (f1.out _ _ hA.out).mono ?_); rintro e w1 ⟨v1, rfl, ho1, hb1⟩
      go_wp2_with fail
      (refine (f2.out _ _ (hB.out.below hb1)).mono ?_); rintro e w2 ⟨v2, rfl, ho2, hb2⟩
      have hB2 := hb1.trans (hb2.mono hb1.size)
      have ho1' := own_below ho1 hb2
      obtain ⟨g1, c1, rfl, _, hg1⟩ := ho1'.form p1
      obtain ⟨g2, c2, rfl, _, hg2⟩ := ho2.form p2
      have hzw := hB2.size
      clear ho1 hb1 hb2 hA hB f1 f2
      go_wp2
      go_loopw [5, 6, 7] (fun vo iv kv wr => ∃ (i k : Nat) (out : List BL) (g cp : Nat), i ≤ A.length ∧ k ≤ B.length ∧ out.length ≤ i + k ∧ iv = .int .i64 i ∧ kv = .int .i64 k ∧ vo = .slice (some ⟨g, 0, none⟩) out.length cp ∧ wr.ownsRow w2.heap.size 9 1 (.slice (some ⟨g, 0, none⟩) out.length cp) out.length (out.map sv) ∧ Below w2.heap.size w2 wr ∧ Hid (mrg A B [] = mrg (A.drop i) (B.drop k) out))
        (fun _ iv kv _ => (A.length - (intOf iv).toNat) + (B.length - (intOf kv).toNat))
      case atStart => exact ⟨0, 0, [], w2.heap.size, 0, Nat.zero_le _, Nat.zero_le _, Nat.le_refl _, rfl, rfl, rfl, World.ownsRow_lit w2 #[] 0 (Nat.le_refl _) (by decide) (by simp), (Below.refl _ _).alloc (Nat.le_refl _) _, by simp [Hid]⟩
      case round =>
        obtain ⟨i, k, out, g, cp, hik, hkk, hol, rfl, rfl, rfl, hown, hbel, HS⟩ := hrel
        have hl := hown.lt
        have hzz := hbel.size
        have bn : out.length + 1 ≤ 4194304 := by omega
        by_cases hi1 : i < A.length
        · have ca := (hbel.cell (p := ⟨g1, i, none⟩) hg1).trans (ho1'.cellAt i (by omega))
          have exa : (A.map sv)[i]? = some (sv A[i]) := by simp [hi1]
          rw [exa] at ca
          unfold sv at ca
          have qa1 : (0 : Int) ≤ (i : Int) := by omega
          have qa2 : (i : Int) < (A.length : Int) := by omega
          have da : decide ((i : Int) < (A.length : Int)) = true := decide_eq_true qa2
          by_cases hk1 : k < B.length
          · have cb := (hbel.cell (p := ⟨g2, k, none⟩) hg2).trans (ho2.cellAt k (by omega))
            have exb : (B.map sv)[k]? = some (sv B[k]) := by simp [hk1]
            rw [exb] at cb
            unfold sv at cb
            have qb1 : (0 : Int) ≤ (k : Int) := by omega
            have qb2 : (k : Int) < (B.length : Int) := by omega
            have db : decide ((B.length : Int) ≤ (k : Int)) = false := decide_eq_false (by omega)
            have HML := Lib.hid fun (h : A[i] ≤ B[k]) => HS.out.trans (mrg_left (b := B) (k := k) out hi1 (fun _ => h))
            have HMR := Lib.hid fun (h : ¬ A[i] ≤ B[k]) => HS.out.trans (mrg_right (a := A) (i := i) out hk1 (fun _ => h))
            clear exa exb HS
            generalize A[i] = xa at ca HML HMR
            generalize B[k] = xb at cb HML HMR
            have hct := Lib.hid (leq_true (x := xa) (y := xb))
            have hcf := Lib.hid (leq_false (x := xa) (y := xb))
            generalize hc : (Op.bytesLess xa xb || xa == xb) = c at hct hcf
            go_wp2_with fail
            refine wp_region_held_drew (S := fun w' => w'.cell? ⟨g1, i, none⟩ = some (.string ⟨xa.toArray⟩) ∧ w'.cell? ⟨g2, k, none⟩ = some (.string ⟨xb.toArray⟩)) (by kernel_rfl) ⟨ca, cb⟩ (fun hS0 => ?_)
            refine heldW 0 38 (.int .i64 (k : Int)) rfl rfl (by kernel_rfl) (by kernel_rfl) (by kernel_rfl) (fun _ _ _ h => h) (by rfl) hS0 (fun W hSW => ?_) ?_
            · (try dsimp only at hSW); (try obtain ⟨hSA, hSB⟩ := hSW); go_simp <;> omega
            simp only [Act.put, List.setIfInBounds_toArray, List.set_cons_zero, List.set_cons_succ]
            refine heldW 1 39 (.slice (some ⟨g2, 0, none⟩) B.length c2) rfl rfl (by kernel_rfl) (by kernel_rfl) (by kernel_rfl) (fun _ _ _ h => h) (by rfl) hS0 (fun W hSW => ?_) ?_
            · (try dsimp only at hSW); (try obtain ⟨hSA, hSB⟩ := hSW); go_simp <;> omega
            simp only [Act.put, List.setIfInBounds_toArray, List.set_cons_zero, List.set_cons_succ]
            refine heldW 2 40 (.int .i64 (B.length : Int)) rfl rfl (by kernel_rfl) (by kernel_rfl) (by kernel_rfl) (fun _ _ _ h => h) (by rfl) hS0 (fun W hSW => ?_) ?_
            · (try dsimp only at hSW); (try obtain ⟨hSA, hSB⟩ := hSW); go_simp <;> omega
            simp only [Act.put, List.setIfInBounds_toArray, List.set_cons_zero, List.set_cons_succ]
            refine heldW 3 41 (.bool false) rfl rfl (by kernel_rfl) (by kernel_rfl) (by kernel_rfl) (fun _ _ _ h => h) (by rfl) hS0 (fun W hSW => ?_) ?_
            · (try dsimp only at hSW); (try obtain ⟨hSA, hSB⟩ := hSW); go_simp <;> omega
            simp only [Act.put, List.setIfInBounds_toArray, List.set_cons_zero, List.set_cons_succ]
            refine heldW 4 42 (.bool false) rfl rfl (by kernel_rfl) (by kernel_rfl) (by kernel_rfl) (fun _ _ _ h => h) (by rfl) hS0 (fun W hSW => ?_) ?_
            · (try dsimp only at hSW); (try obtain ⟨hSA, hSB⟩ := hSW); go_simp <;> omega
            simp only [Act.put, List.setIfInBounds_toArray, List.set_cons_zero, List.set_cons_succ]
            refine heldW 5 43 (.int .i64 (i : Int)) rfl rfl (by kernel_rfl) (by kernel_rfl) (by kernel_rfl) (fun _ _ _ h => h) (by rfl) hS0 (fun W hSW => ?_) ?_
            · (try dsimp only at hSW); (try obtain ⟨hSA, hSB⟩ := hSW); go_simp <;> omega
            simp only [Act.put, List.setIfInBounds_toArray, List.set_cons_zero, List.set_cons_succ]
            refine heldW 6 44 (.slice (some ⟨g1, 0, none⟩) A.length c1) rfl rfl (by kernel_rfl) (by kernel_rfl) (by kernel_rfl) (fun _ _ _ h => h) (by rfl) hS0 (fun W hSW => ?_) ?_
            · (try dsimp only at hSW); (try obtain ⟨hSA, hSB⟩ := hSW); go_simp <;> omega
            simp only [Act.put, List.setIfInBounds_toArray, List.set_cons_zero, List.set_cons_succ]
            refine heldW 7 45 (.int .i64 (A.length : Int)) rfl rfl (by kernel_rfl) (by kernel_rfl) (by kernel_rfl) (fun _ _ _ h => h) (by rfl) hS0 (fun W hSW => ?_) ?_
            · (try dsimp only at hSW); (try obtain ⟨hSA, hSB⟩ := hSW); go_simp <;> omega
            simp only [Act.put, List.setIfInBounds_toArray, List.set_cons_zero, List.set_cons_succ]
            refine heldW 8 46 (.bool true) rfl rfl (by kernel_rfl) (by kernel_rfl) (by kernel_rfl) (fun _ _ _ h => h) (by rfl) hS0 (fun W hSW => ?_) ?_
            · (try dsimp only at hSW); (try obtain ⟨hSA, hSB⟩ := hSW); go_simp <;> omega
            simp only [Act.put, List.setIfInBounds_toArray, List.set_cons_zero, List.set_cons_succ]
            refine heldW 9 47 (.bool true) rfl rfl (by kernel_rfl) (by kernel_rfl) (by kernel_rfl) (fun _ _ _ h => h) (by rfl) hS0 (fun W hSW => ?_) ?_
            · (try dsimp only at hSW); (try obtain ⟨hSA, hSB⟩ := hSW); go_simp <;> omega
            simp only [Act.put, List.setIfInBounds_toArray, List.set_cons_zero, List.set_cons_succ]
            refine heldW 10 48 (.slice (some ⟨g1, 0, none⟩) A.length c1) rfl rfl (by kernel_rfl) (by kernel_rfl) (by kernel_rfl) (fun _ _ _ h => h) (by rfl) hS0 (fun W hSW => ?_) ?_
            · (try dsimp only at hSW); (try obtain ⟨hSA, hSB⟩ := hSW); go_simp <;> omega
            simp only [Act.put, List.setIfInBounds_toArray, List.set_cons_zero, List.set_cons_succ]
            refine heldW 11 49 (.int .i64 (i : Int)) rfl rfl (by kernel_rfl) (by kernel_rfl) (by kernel_rfl) (fun _ _ _ h => h) (by rfl) hS0 (fun W hSW => ?_) ?_
            · (try dsimp only at hSW); (try obtain ⟨hSA, hSB⟩ := hSW); go_simp <;> omega
            simp only [Act.put, List.setIfInBounds_toArray, List.set_cons_zero, List.set_cons_succ]
            refine heldW 12 50 (.pointer (some ⟨g1, i, none⟩)) rfl rfl (by kernel_rfl) (by kernel_rfl) (by kernel_rfl) (fun _ _ _ h => h) (by rfl) hS0 (fun W hSW => ?_) ?_
            · (try dsimp only at hSW); (try obtain ⟨hSA, hSB⟩ := hSW); go_simp <;> omega
            simp only [Act.put, List.setIfInBounds_toArray, List.set_cons_zero, List.set_cons_succ]
            refine heldW 13 51 (.string ⟨xa.toArray⟩) rfl rfl (by kernel_rfl) (by kernel_rfl) (by kernel_rfl) (fun _ _ _ h => h) (by rfl) hS0 (fun W hSW => ?_) ?_
            · (try dsimp only at hSW); (try obtain ⟨hSA, hSB⟩ := hSW); go_simp <;> omega
            simp only [Act.put, List.setIfInBounds_toArray, List.set_cons_zero, List.set_cons_succ]
            refine heldW 14 52 (.slice (some ⟨g2, 0, none⟩) B.length c2) rfl rfl (by kernel_rfl) (by kernel_rfl) (by kernel_rfl) (fun _ _ _ h => h) (by rfl) hS0 (fun W hSW => ?_) ?_
            · (try dsimp only at hSW); (try obtain ⟨hSA, hSB⟩ := hSW); go_simp <;> omega
            simp only [Act.put, List.setIfInBounds_toArray, List.set_cons_zero, List.set_cons_succ]
            refine heldW 15 53 (.int .i64 (k : Int)) rfl rfl (by kernel_rfl) (by kernel_rfl) (by kernel_rfl) (fun _ _ _ h => h) (by rfl) hS0 (fun W hSW => ?_) ?_
            · (try dsimp only at hSW); (try obtain ⟨hSA, hSB⟩ := hSW); go_simp <;> omega
            simp only [Act.put, List.setIfInBounds_toArray, List.set_cons_zero, List.set_cons_succ]
            refine heldW 16 54 (.pointer (some ⟨g2, k, none⟩)) rfl rfl (by kernel_rfl) (by kernel_rfl) (by kernel_rfl) (fun _ _ _ h => h) (by rfl) hS0 (fun W hSW => ?_) ?_
            · (try dsimp only at hSW); (try obtain ⟨hSA, hSB⟩ := hSW); go_simp <;> omega
            simp only [Act.put, List.setIfInBounds_toArray, List.set_cons_zero, List.set_cons_succ]
            refine heldW 17 55 (.string ⟨xb.toArray⟩) rfl rfl (by kernel_rfl) (by kernel_rfl) (by kernel_rfl) (fun _ _ _ h => h) (by rfl) hS0 (fun W hSW => ?_) ?_
            · (try dsimp only at hSW); (try obtain ⟨hSA, hSB⟩ := hSW); go_simp <;> omega
            simp only [Act.put, List.setIfInBounds_toArray, List.set_cons_zero, List.set_cons_succ]
            refine heldW 18 56 (.bool c) rfl rfl (by kernel_rfl) (by kernel_rfl) (by kernel_rfl) (fun _ _ _ h => h) (by rfl) hS0 (fun W hSW => ?_) ?_
            · (try dsimp only at hSW); (try obtain ⟨hSA, hSB⟩ := hSW); go_simp <;> omega
            simp only [Act.put, List.setIfInBounds_toArray, List.set_cons_zero, List.set_cons_succ]
            refine heldW 19 57 (.bool c) rfl rfl (by kernel_rfl) (by kernel_rfl) (by kernel_rfl) (fun _ _ _ h => h) (by rfl) hS0 (fun W hSW => ?_) ?_
            · (try dsimp only at hSW); (try obtain ⟨hSA, hSB⟩ := hSW); go_simp <;> omega
            simp only [Act.put, List.setIfInBounds_toArray, List.set_cons_zero, List.set_cons_succ]
            refine heldW 20 58 (.bool c) rfl rfl (by kernel_rfl) (by kernel_rfl) (by kernel_rfl) (fun _ _ _ h => h) (by rfl) hS0 (fun W hSW => ?_) ?_
            · (try dsimp only at hSW); (try obtain ⟨hSA, hSB⟩ := hSW); go_simp <;> omega
            simp only [Act.put, List.setIfInBounds_toArray, List.set_cons_zero, List.set_cons_succ]
            refine wpAnyH_done (by kernel_rfl) ?_ _
            by_cases hle : xa ≤ xb
            · have hcc := hct.out hle
              have HM := Lib.hid (HML.out hle)
              subst hcc
              clear HML HMR hct hcf hc
              rcases List.eq_nil_or_concat out with hout | ⟨r, z, hout⟩
              · subst hout
                have HP := Lib.hid (HM.out.trans (by rw [psh_nil]))
                clear HM
                go_wp2_with (at_builtin; refine wpList_append_lies _ rfl _ _ _ rfl w2.heap.size 9 i0 _ 1 16 Tryz.underlying34 hi hz0 hz1 hz2 rfl (by decide) _ _ _ rfl ((hown.alloc _).drew) ⟨wr.heap.size, 0, none⟩ 1 1 [.string ⟨xa.toArray⟩] rfl rfl (fun j u hu => oneNew wr _ 9 j u hu) (by simp [Value.oneCell']) (by decide) (by simp only [maxLen]; omega) (by omega) (by simp; omega) _ rfl ?_; intro g3 cap3 w3 hown3 hgrow hat hlt3)
                go_roundw
                case rel => exact ⟨i + 1, k, [xa], g3, cap3, by omega, by omega, by simp only [List.length_singleton]; omega, by go_num, by go_num, rfl, by simpa [sv] using hown3, ((hbel.alloc hzz _).drew).grown hgrow (by simp; omega) (fun j hj => (hl j hj).1), HP.out⟩
                case measure => simp [intOf]; omega
              · rw [List.concat_eq_append] at hout
                subst hout
                have cz := hown.cellAt r.length (by simp)
                have exz : ((r ++ [z]).map sv)[r.length]? = some (sv z) := by simp
                rw [exz] at cz
                unfold sv at cz
                have dz : (((r.length : Int) + 1) == 0) = false := by rw [beq_eq_false_iff_ne]; omega
                have rl : r.length + 1 ≤ 2097152 := by simp at hol; omega
                have qz0 : (0 : Int) ≤ (r.length : Int) := by omega
                have qz1 : (r.length : Int) < (r.length : Int) + 1 := by omega
                clear exz
                by_cases hzx : z = xa
                · subst hzx
                  have HP := Lib.hid (HM.out.trans (by rw [psh_same]))
                  have HO := Lib.hid hown
                  clear HM hown
                  go_wp2
                  go_roundw
                  case rel => exact ⟨i + 1, k, r ++ [z], g, cp, by omega, by omega, by simp at hol ⊢; omega, by go_num, by go_num, by simp, HO.out, hbel.drew, HP.out⟩
                  case measure => simp [intOf]; omega
                · have HP := Lib.hid (HM.out.trans (by rw [psh_other hzx]))
                  have hzb : (z == xa) = false := by rw [beq_eq_false_iff_ne]; exact hzx
                  clear HM
                  go_wp2_with (at_builtin; refine wpList_append_lies _ rfl _ _ _ rfl w2.heap.size 9 i0 _ 1 16 Tryz.underlying34 hi hz0 hz1 hz2 rfl (by decide) _ _ _ rfl ((hown.alloc _).drew) ⟨wr.heap.size, 0, none⟩ 1 1 [.string ⟨xa.toArray⟩] rfl rfl (fun j u hu => oneNew wr _ 9 j u hu) (by simp [Value.oneCell']) (by decide) (by simp only [maxLen]; omega) (by omega) (by simp; omega) _ rfl ?_; intro g3 cap3 w3 hown3 hgrow hat hlt3)
                  go_roundw
                  case rel => exact ⟨i + 1, k, r ++ [z] ++ [xa], g3, cap3, by omega, by omega, by simp at hol ⊢; omega, by go_num, by go_num, by simp, by simpa [sv] using hown3, ((hbel.alloc hzz _).drew).grown hgrow (by simp; omega) (fun j hj => (hl j hj).1), HP.out⟩
                  case measure => simp [intOf]; omega
            · have hcc := hcf.out hle
              have HM := Lib.hid (HMR.out hle)
              subst hcc
              clear HML HMR hct hcf hc
              rcases List.eq_nil_or_concat out with hout | ⟨r, z, hout⟩
              · subst hout
                have HP := Lib.hid (HM.out.trans (by rw [psh_nil]))
                clear HM
                go_wp2_with (at_builtin; refine wpList_append_lies _ rfl _ _ _ rfl w2.heap.size 9 i0 _ 1 16 Tryz.underlying34 hi hz0 hz1 hz2 rfl (by decide) _ _ _ rfl ((hown.alloc _).drew) ⟨wr.heap.size, 0, none⟩ 1 1 [.string ⟨xb.toArray⟩] rfl rfl (fun j u hu => oneNew wr _ 9 j u hu) (by simp [Value.oneCell']) (by decide) (by simp only [maxLen]; omega) (by omega) (by simp; omega) _ rfl ?_; intro g3 cap3 w3 hown3 hgrow hat hlt3)
                go_roundw
                case rel => exact ⟨i, k + 1, [xb], g3, cap3, by omega, by omega, by simp only [List.length_singleton]; omega, by go_num, by go_num, rfl, by simpa [sv] using hown3, ((hbel.alloc hzz _).drew).grown hgrow (by simp; omega) (fun j hj => (hl j hj).1), HP.out⟩
                case measure => simp [intOf]; omega
              · rw [List.concat_eq_append] at hout
                subst hout
                have cz := hown.cellAt r.length (by simp)
                have exz : ((r ++ [z]).map sv)[r.length]? = some (sv z) := by simp
                rw [exz] at cz
                unfold sv at cz
                have dz : (((r.length : Int) + 1) == 0) = false := by rw [beq_eq_false_iff_ne]; omega
                have rl : r.length + 1 ≤ 2097152 := by simp at hol; omega
                have qz0 : (0 : Int) ≤ (r.length : Int) := by omega
                have qz1 : (r.length : Int) < (r.length : Int) + 1 := by omega
                clear exz
                by_cases hzx : z = xb
                · subst hzx
                  have HP := Lib.hid (HM.out.trans (by rw [psh_same]))
                  have HO := Lib.hid hown
                  clear HM hown
                  go_wp2
                  go_roundw
                  case rel => exact ⟨i, k + 1, r ++ [z], g, cp, by omega, by omega, by simp at hol ⊢; omega, by go_num, by go_num, by simp, HO.out, hbel.drew, HP.out⟩
                  case measure => simp [intOf]; omega
                · have HP := Lib.hid (HM.out.trans (by rw [psh_other hzx]))
                  have hzb : (z == xb) = false := by rw [beq_eq_false_iff_ne]; exact hzx
                  clear HM
                  go_wp2_with (at_builtin; refine wpList_append_lies _ rfl _ _ _ rfl w2.heap.size 9 i0 _ 1 16 Tryz.underlying34 hi hz0 hz1 hz2 rfl (by decide) _ _ _ rfl ((hown.alloc _).drew) ⟨wr.heap.size, 0, none⟩ 1 1 [.string ⟨xb.toArray⟩] rfl rfl (fun j u hu => oneNew wr _ 9 j u hu) (by simp [Value.oneCell']) (by decide) (by simp only [maxLen]; omega) (by omega) (by simp; omega) _ rfl ?_; intro g3 cap3 w3 hown3 hgrow hat hlt3)
                  go_roundw
                  case rel => exact ⟨i, k + 1, r ++ [z] ++ [xb], g3, cap3, by omega, by omega, by simp at hol ⊢; omega, by go_num, by go_num, by simp, by simpa [sv] using hown3, ((hbel.alloc hzz _).drew).grown hgrow (by simp; omega) (fun j hj => (hl j hj).1), HP.out⟩
                  case measure => simp [intOf]; omega
          · have HM := Lib.hid (HS.out.trans (mrg_left out hi1 (fun hk => absurd hk hk1)))
            have db : decide ((B.length : Int) ≤ (k : Int)) = true := decide_eq_true (by omega)
            clear exa HS
            generalize A[i] = xa at ca HM
            go_wp2_with fail
            refine wp_region_held_drew (S := fun w' => w'.cell? ⟨g1, i, none⟩ = some (.string ⟨xa.toArray⟩)) (by kernel_rfl) ca (fun hS0 => ?_)
            refine heldW 0 38 (.int .i64 (k : Int)) rfl rfl (by kernel_rfl) (by kernel_rfl) (by kernel_rfl) (fun _ _ _ h => h) (by rfl) hS0 (fun W hSW => ?_) ?_
            · (try dsimp only at hSW); (try obtain ⟨hSA, hSB⟩ := hSW); go_simp <;> omega
            simp only [Act.put, List.setIfInBounds_toArray, List.set_cons_zero, List.set_cons_succ]
            refine heldW 1 39 (.slice (some ⟨g2, 0, none⟩) B.length c2) rfl rfl (by kernel_rfl) (by kernel_rfl) (by kernel_rfl) (fun _ _ _ h => h) (by rfl) hS0 (fun W hSW => ?_) ?_
            · (try dsimp only at hSW); (try obtain ⟨hSA, hSB⟩ := hSW); go_simp <;> omega
            simp only [Act.put, List.setIfInBounds_toArray, List.set_cons_zero, List.set_cons_succ]
            refine heldW 2 40 (.int .i64 (B.length : Int)) rfl rfl (by kernel_rfl) (by kernel_rfl) (by kernel_rfl) (fun _ _ _ h => h) (by rfl) hS0 (fun W hSW => ?_) ?_
            · (try dsimp only at hSW); (try obtain ⟨hSA, hSB⟩ := hSW); go_simp <;> omega
            simp only [Act.put, List.setIfInBounds_toArray, List.set_cons_zero, List.set_cons_succ]
            refine heldW 3 41 (.bool true) rfl rfl (by kernel_rfl) (by kernel_rfl) (by kernel_rfl) (fun _ _ _ h => h) (by rfl) hS0 (fun W hSW => ?_) ?_
            · (try dsimp only at hSW); (try obtain ⟨hSA, hSB⟩ := hSW); go_simp <;> omega
            simp only [Act.put, List.setIfInBounds_toArray, List.set_cons_zero, List.set_cons_succ]
            refine heldW 4 42 (.bool true) rfl rfl (by kernel_rfl) (by kernel_rfl) (by kernel_rfl) (fun _ _ _ h => h) (by rfl) hS0 (fun W hSW => ?_) ?_
            · (try dsimp only at hSW); (try obtain ⟨hSA, hSB⟩ := hSW); go_simp <;> omega
            simp only [Act.put, List.setIfInBounds_toArray, List.set_cons_zero, List.set_cons_succ]
            refine heldS 5 43 rfl rfl (by kernel_rfl) (by kernel_rfl) (by kernel_rfl) (fun _ _ _ h => h) (by rfl) hS0 ?_
            simp only [Act.put, List.setIfInBounds_toArray, List.set_cons_zero, List.set_cons_succ]
            refine heldS 6 44 rfl rfl (by kernel_rfl) (by kernel_rfl) (by kernel_rfl) (fun _ _ _ h => h) (by rfl) hS0 ?_
            simp only [Act.put, List.setIfInBounds_toArray, List.set_cons_zero, List.set_cons_succ]
            refine heldS 7 45 rfl rfl (by kernel_rfl) (by kernel_rfl) (by kernel_rfl) (fun _ _ _ h => h) (by rfl) hS0 ?_
            simp only [Act.put, List.setIfInBounds_toArray, List.set_cons_zero, List.set_cons_succ]
            refine heldS 8 46 rfl rfl (by kernel_rfl) (by kernel_rfl) (by kernel_rfl) (fun _ _ _ h => h) (by rfl) hS0 ?_
            simp only [Act.put, List.setIfInBounds_toArray, List.set_cons_zero, List.set_cons_succ]
            refine heldS 9 47 rfl rfl (by kernel_rfl) (by kernel_rfl) (by kernel_rfl) (fun _ _ _ h => h) (by rfl) hS0 ?_
            simp only [Act.put, List.setIfInBounds_toArray, List.set_cons_zero, List.set_cons_succ]
            refine heldS 10 48 rfl rfl (by kernel_rfl) (by kernel_rfl) (by kernel_rfl) (fun _ _ _ h => h) (by rfl) hS0 ?_
            simp only [Act.put, List.setIfInBounds_toArray, List.set_cons_zero, List.set_cons_succ]
            refine heldS 11 49 rfl rfl (by kernel_rfl) (by kernel_rfl) (by kernel_rfl) (fun _ _ _ h => h) (by rfl) hS0 ?_
            simp only [Act.put, List.setIfInBounds_toArray, List.set_cons_zero, List.set_cons_succ]
            refine heldS 12 50 rfl rfl (by kernel_rfl) (by kernel_rfl) (by kernel_rfl) (fun _ _ _ h => h) (by rfl) hS0 ?_
            simp only [Act.put, List.setIfInBounds_toArray, List.set_cons_zero, List.set_cons_succ]
            refine heldS 13 51 rfl rfl (by kernel_rfl) (by kernel_rfl) (by kernel_rfl) (fun _ _ _ h => h) (by rfl) hS0 ?_
            simp only [Act.put, List.setIfInBounds_toArray, List.set_cons_zero, List.set_cons_succ]
            refine heldS 14 52 rfl rfl (by kernel_rfl) (by kernel_rfl) (by kernel_rfl) (fun _ _ _ h => h) (by rfl) hS0 ?_
            simp only [Act.put, List.setIfInBounds_toArray, List.set_cons_zero, List.set_cons_succ]
            refine heldS 15 53 rfl rfl (by kernel_rfl) (by kernel_rfl) (by kernel_rfl) (fun _ _ _ h => h) (by rfl) hS0 ?_
            simp only [Act.put, List.setIfInBounds_toArray, List.set_cons_zero, List.set_cons_succ]
            refine heldS 16 54 rfl rfl (by kernel_rfl) (by kernel_rfl) (by kernel_rfl) (fun _ _ _ h => h) (by rfl) hS0 ?_
            simp only [Act.put, List.setIfInBounds_toArray, List.set_cons_zero, List.set_cons_succ]
            refine heldS 17 55 rfl rfl (by kernel_rfl) (by kernel_rfl) (by kernel_rfl) (fun _ _ _ h => h) (by rfl) hS0 ?_
            simp only [Act.put, List.setIfInBounds_toArray, List.set_cons_zero, List.set_cons_succ]
            refine heldS 18 56 rfl rfl (by kernel_rfl) (by kernel_rfl) (by kernel_rfl) (fun _ _ _ h => h) (by rfl) hS0 ?_
            simp only [Act.put, List.setIfInBounds_toArray, List.set_cons_zero, List.set_cons_succ]
            refine heldS 19 57 rfl rfl (by kernel_rfl) (by kernel_rfl) (by kernel_rfl) (fun _ _ _ h => h) (by rfl) hS0 ?_
            simp only [Act.put, List.setIfInBounds_toArray, List.set_cons_zero, List.set_cons_succ]
            refine heldW 20 58 (.bool true) rfl rfl (by kernel_rfl) (by kernel_rfl) (by kernel_rfl) (fun _ _ _ h => h) (by rfl) hS0 (fun W hSW => ?_) ?_
            · (try dsimp only at hSW); (try obtain ⟨hSA, hSB⟩ := hSW); go_simp <;> omega
            simp only [Act.put, List.setIfInBounds_toArray, List.set_cons_zero, List.set_cons_succ]
            refine wpAnyH_done (by kernel_rfl) ?_ _
            rcases List.eq_nil_or_concat out with hout | ⟨r, z, hout⟩
            · subst hout
              have HP := Lib.hid (HM.out.trans (by rw [psh_nil]))
              clear HM
              go_wp2_with (at_builtin; refine wpList_append_lies _ rfl _ _ _ rfl w2.heap.size 9 i0 _ 1 16 Tryz.underlying34 hi hz0 hz1 hz2 rfl (by decide) _ _ _ rfl ((hown.alloc _).drew) ⟨wr.heap.size, 0, none⟩ 1 1 [.string ⟨xa.toArray⟩] rfl rfl (fun j u hu => oneNew wr _ 9 j u hu) (by simp [Value.oneCell']) (by decide) (by simp only [maxLen]; omega) (by omega) (by simp; omega) _ rfl ?_; intro g3 cap3 w3 hown3 hgrow hat hlt3)
              go_roundw
              case rel => exact ⟨i + 1, k, [xa], g3, cap3, by omega, by omega, by simp only [List.length_singleton]; omega, by go_num, by go_num, rfl, by simpa [sv] using hown3, ((hbel.alloc hzz _).drew).grown hgrow (by simp; omega) (fun j hj => (hl j hj).1), HP.out⟩
              case measure => simp [intOf]; omega
            · rw [List.concat_eq_append] at hout
              subst hout
              have cz := hown.cellAt r.length (by simp)
              have exz : ((r ++ [z]).map sv)[r.length]? = some (sv z) := by simp
              rw [exz] at cz
              unfold sv at cz
              have dz : (((r.length : Int) + 1) == 0) = false := by rw [beq_eq_false_iff_ne]; omega
              have rl : r.length + 1 ≤ 2097152 := by simp at hol; omega
              have qz0 : (0 : Int) ≤ (r.length : Int) := by omega
              have qz1 : (r.length : Int) < (r.length : Int) + 1 := by omega
              clear exz
              by_cases hzx : z = xa
              · subst hzx
                have HP := Lib.hid (HM.out.trans (by rw [psh_same]))
                have HO := Lib.hid hown
                clear HM hown
                go_wp2
                go_roundw
                case rel => exact ⟨i + 1, k, r ++ [z], g, cp, by omega, by omega, by simp at hol ⊢; omega, by go_num, by go_num, by simp, HO.out, hbel.drew, HP.out⟩
                case measure => simp [intOf]; omega
              · have HP := Lib.hid (HM.out.trans (by rw [psh_other hzx]))
                have hzb : (z == xa) = false := by rw [beq_eq_false_iff_ne]; exact hzx
                clear HM
                go_wp2_with (at_builtin; refine wpList_append_lies _ rfl _ _ _ rfl w2.heap.size 9 i0 _ 1 16 Tryz.underlying34 hi hz0 hz1 hz2 rfl (by decide) _ _ _ rfl ((hown.alloc _).drew) ⟨wr.heap.size, 0, none⟩ 1 1 [.string ⟨xa.toArray⟩] rfl rfl (fun j u hu => oneNew wr _ 9 j u hu) (by simp [Value.oneCell']) (by decide) (by simp only [maxLen]; omega) (by omega) (by simp; omega) _ rfl ?_; intro g3 cap3 w3 hown3 hgrow hat hlt3)
                go_roundw
                case rel => exact ⟨i + 1, k, r ++ [z] ++ [xa], g3, cap3, by omega, by omega, by simp at hol ⊢; omega, by go_num, by go_num, by simp, by simpa [sv] using hown3, ((hbel.alloc hzz _).drew).grown hgrow (by simp; omega) (fun j hj => (hl j hj).1), HP.out⟩
                case measure => simp [intOf]; omega
        · have da : decide ((i : Int) < (A.length : Int)) = false := decide_eq_false (by omega)
          by_cases hk1 : k < B.length
          · have cb := (hbel.cell (p := ⟨g2, k, none⟩) hg2).trans (ho2.cellAt k (by omega))
            have exb : (B.map sv)[k]? = some (sv B[k]) := by simp [hk1]
            rw [exb] at cb
            unfold sv at cb
            have qb1 : (0 : Int) ≤ (k : Int) := by omega
            have qb2 : (k : Int) < (B.length : Int) := by omega
            have db : decide ((B.length : Int) ≤ (k : Int)) = false := decide_eq_false (by omega)
            have db2 : decide ((k : Int) < (B.length : Int)) = true := decide_eq_true (by omega)
            have HM := Lib.hid (HS.out.trans (mrg_right out hk1 (fun hi => absurd hi hi1)))
            clear exb HS
            generalize B[k] = xb at cb HM
            go_wp2_with fail
            refine wp_region_held_drew (S := fun w' => w'.cell? ⟨g2, k, none⟩ = some (.string ⟨xb.toArray⟩)) (by kernel_rfl) cb (fun hS0 => ?_)
            refine heldW 0 38 (.int .i64 (k : Int)) rfl rfl (by kernel_rfl) (by kernel_rfl) (by kernel_rfl) (fun _ _ _ h => h) (by rfl) hS0 (fun W hSW => ?_) ?_
            · (try dsimp only at hSW); (try obtain ⟨hSA, hSB⟩ := hSW); go_simp <;> omega
            simp only [Act.put, List.setIfInBounds_toArray, List.set_cons_zero, List.set_cons_succ]
            refine heldW 1 39 (.slice (some ⟨g2, 0, none⟩) B.length c2) rfl rfl (by kernel_rfl) (by kernel_rfl) (by kernel_rfl) (fun _ _ _ h => h) (by rfl) hS0 (fun W hSW => ?_) ?_
            · (try dsimp only at hSW); (try obtain ⟨hSA, hSB⟩ := hSW); go_simp <;> omega
            simp only [Act.put, List.setIfInBounds_toArray, List.set_cons_zero, List.set_cons_succ]
            refine heldW 2 40 (.int .i64 (B.length : Int)) rfl rfl (by kernel_rfl) (by kernel_rfl) (by kernel_rfl) (fun _ _ _ h => h) (by rfl) hS0 (fun W hSW => ?_) ?_
            · (try dsimp only at hSW); (try obtain ⟨hSA, hSB⟩ := hSW); go_simp <;> omega
            simp only [Act.put, List.setIfInBounds_toArray, List.set_cons_zero, List.set_cons_succ]
            refine heldW 3 41 (.bool false) rfl rfl (by kernel_rfl) (by kernel_rfl) (by kernel_rfl) (fun _ _ _ h => h) (by rfl) hS0 (fun W hSW => ?_) ?_
            · (try dsimp only at hSW); (try obtain ⟨hSA, hSB⟩ := hSW); go_simp <;> omega
            simp only [Act.put, List.setIfInBounds_toArray, List.set_cons_zero, List.set_cons_succ]
            refine heldW 4 42 (.bool false) rfl rfl (by kernel_rfl) (by kernel_rfl) (by kernel_rfl) (fun _ _ _ h => h) (by rfl) hS0 (fun W hSW => ?_) ?_
            · (try dsimp only at hSW); (try obtain ⟨hSA, hSB⟩ := hSW); go_simp <;> omega
            simp only [Act.put, List.setIfInBounds_toArray, List.set_cons_zero, List.set_cons_succ]
            refine heldW 5 43 (.int .i64 (i : Int)) rfl rfl (by kernel_rfl) (by kernel_rfl) (by kernel_rfl) (fun _ _ _ h => h) (by rfl) hS0 (fun W hSW => ?_) ?_
            · (try dsimp only at hSW); (try obtain ⟨hSA, hSB⟩ := hSW); go_simp <;> omega
            simp only [Act.put, List.setIfInBounds_toArray, List.set_cons_zero, List.set_cons_succ]
            refine heldW 6 44 (.slice (some ⟨g1, 0, none⟩) A.length c1) rfl rfl (by kernel_rfl) (by kernel_rfl) (by kernel_rfl) (fun _ _ _ h => h) (by rfl) hS0 (fun W hSW => ?_) ?_
            · (try dsimp only at hSW); (try obtain ⟨hSA, hSB⟩ := hSW); go_simp <;> omega
            simp only [Act.put, List.setIfInBounds_toArray, List.set_cons_zero, List.set_cons_succ]
            refine heldW 7 45 (.int .i64 (A.length : Int)) rfl rfl (by kernel_rfl) (by kernel_rfl) (by kernel_rfl) (fun _ _ _ h => h) (by rfl) hS0 (fun W hSW => ?_) ?_
            · (try dsimp only at hSW); (try obtain ⟨hSA, hSB⟩ := hSW); go_simp <;> omega
            simp only [Act.put, List.setIfInBounds_toArray, List.set_cons_zero, List.set_cons_succ]
            refine heldW 8 46 (.bool false) rfl rfl (by kernel_rfl) (by kernel_rfl) (by kernel_rfl) (fun _ _ _ h => h) (by rfl) hS0 (fun W hSW => ?_) ?_
            · (try dsimp only at hSW); (try obtain ⟨hSA, hSB⟩ := hSW); go_simp <;> omega
            simp only [Act.put, List.setIfInBounds_toArray, List.set_cons_zero, List.set_cons_succ]
            refine heldW 9 47 (.bool false) rfl rfl (by kernel_rfl) (by kernel_rfl) (by kernel_rfl) (fun _ _ _ h => h) (by rfl) hS0 (fun W hSW => ?_) ?_
            · (try dsimp only at hSW); (try obtain ⟨hSA, hSB⟩ := hSW); go_simp <;> omega
            simp only [Act.put, List.setIfInBounds_toArray, List.set_cons_zero, List.set_cons_succ]
            refine heldS 10 48 rfl rfl (by kernel_rfl) (by kernel_rfl) (by kernel_rfl) (fun _ _ _ h => h) (by rfl) hS0 ?_
            simp only [Act.put, List.setIfInBounds_toArray, List.set_cons_zero, List.set_cons_succ]
            refine heldS 11 49 rfl rfl (by kernel_rfl) (by kernel_rfl) (by kernel_rfl) (fun _ _ _ h => h) (by rfl) hS0 ?_
            simp only [Act.put, List.setIfInBounds_toArray, List.set_cons_zero, List.set_cons_succ]
            refine heldS 12 50 rfl rfl (by kernel_rfl) (by kernel_rfl) (by kernel_rfl) (fun _ _ _ h => h) (by rfl) hS0 ?_
            simp only [Act.put, List.setIfInBounds_toArray, List.set_cons_zero, List.set_cons_succ]
            refine heldS 13 51 rfl rfl (by kernel_rfl) (by kernel_rfl) (by kernel_rfl) (fun _ _ _ h => h) (by rfl) hS0 ?_
            simp only [Act.put, List.setIfInBounds_toArray, List.set_cons_zero, List.set_cons_succ]
            refine heldS 14 52 rfl rfl (by kernel_rfl) (by kernel_rfl) (by kernel_rfl) (fun _ _ _ h => h) (by rfl) hS0 ?_
            simp only [Act.put, List.setIfInBounds_toArray, List.set_cons_zero, List.set_cons_succ]
            refine heldS 15 53 rfl rfl (by kernel_rfl) (by kernel_rfl) (by kernel_rfl) (fun _ _ _ h => h) (by rfl) hS0 ?_
            simp only [Act.put, List.setIfInBounds_toArray, List.set_cons_zero, List.set_cons_succ]
            refine heldS 16 54 rfl rfl (by kernel_rfl) (by kernel_rfl) (by kernel_rfl) (fun _ _ _ h => h) (by rfl) hS0 ?_
            simp only [Act.put, List.setIfInBounds_toArray, List.set_cons_zero, List.set_cons_succ]
            refine heldS 17 55 rfl rfl (by kernel_rfl) (by kernel_rfl) (by kernel_rfl) (fun _ _ _ h => h) (by rfl) hS0 ?_
            simp only [Act.put, List.setIfInBounds_toArray, List.set_cons_zero, List.set_cons_succ]
            refine heldS 18 56 rfl rfl (by kernel_rfl) (by kernel_rfl) (by kernel_rfl) (fun _ _ _ h => h) (by rfl) hS0 ?_
            simp only [Act.put, List.setIfInBounds_toArray, List.set_cons_zero, List.set_cons_succ]
            refine heldW 19 57 (.bool false) rfl rfl (by kernel_rfl) (by kernel_rfl) (by kernel_rfl) (fun _ _ _ h => h) (by rfl) hS0 (fun W hSW => ?_) ?_
            · (try dsimp only at hSW); (try obtain ⟨hSA, hSB⟩ := hSW); go_simp <;> omega
            simp only [Act.put, List.setIfInBounds_toArray, List.set_cons_zero, List.set_cons_succ]
            refine heldW 20 58 (.bool false) rfl rfl (by kernel_rfl) (by kernel_rfl) (by kernel_rfl) (fun _ _ _ h => h) (by rfl) hS0 (fun W hSW => ?_) ?_
            · (try dsimp only at hSW); (try obtain ⟨hSA, hSB⟩ := hSW); go_simp <;> omega
            simp only [Act.put, List.setIfInBounds_toArray, List.set_cons_zero, List.set_cons_succ]
            refine wpAnyH_done (by kernel_rfl) ?_ _
            rcases List.eq_nil_or_concat out with hout | ⟨r, z, hout⟩
            · subst hout
              have HP := Lib.hid (HM.out.trans (by rw [psh_nil]))
              clear HM
              go_wp2_with (at_builtin; refine wpList_append_lies _ rfl _ _ _ rfl w2.heap.size 9 i0 _ 1 16 Tryz.underlying34 hi hz0 hz1 hz2 rfl (by decide) _ _ _ rfl ((hown.alloc _).drew) ⟨wr.heap.size, 0, none⟩ 1 1 [.string ⟨xb.toArray⟩] rfl rfl (fun j u hu => oneNew wr _ 9 j u hu) (by simp [Value.oneCell']) (by decide) (by simp only [maxLen]; omega) (by omega) (by simp; omega) _ rfl ?_; intro g3 cap3 w3 hown3 hgrow hat hlt3)
              go_roundw
              case rel => exact ⟨i, k + 1, [xb], g3, cap3, by omega, by omega, by simp only [List.length_singleton]; omega, by go_num, by go_num, rfl, by simpa [sv] using hown3, ((hbel.alloc hzz _).drew).grown hgrow (by simp; omega) (fun j hj => (hl j hj).1), HP.out⟩
              case measure => simp [intOf]; omega
            · rw [List.concat_eq_append] at hout
              subst hout
              have cz := hown.cellAt r.length (by simp)
              have exz : ((r ++ [z]).map sv)[r.length]? = some (sv z) := by simp
              rw [exz] at cz
              unfold sv at cz
              have dz : (((r.length : Int) + 1) == 0) = false := by rw [beq_eq_false_iff_ne]; omega
              have rl : r.length + 1 ≤ 2097152 := by simp at hol; omega
              have qz0 : (0 : Int) ≤ (r.length : Int) := by omega
              have qz1 : (r.length : Int) < (r.length : Int) + 1 := by omega
              clear exz
              by_cases hzx : z = xb
              · subst hzx
                have HP := Lib.hid (HM.out.trans (by rw [psh_same]))
                have HO := Lib.hid hown
                clear HM hown
                go_wp2
                go_roundw
                case rel => exact ⟨i, k + 1, r ++ [z], g, cp, by omega, by omega, by simp at hol ⊢; omega, by go_num, by go_num, by simp, HO.out, hbel.drew, HP.out⟩
                case measure => simp [intOf]; omega
              · have HP := Lib.hid (HM.out.trans (by rw [psh_other hzx]))
                have hzb : (z == xb) = false := by rw [beq_eq_false_iff_ne]; exact hzx
                clear HM
                go_wp2_with (at_builtin; refine wpList_append_lies _ rfl _ _ _ rfl w2.heap.size 9 i0 _ 1 16 Tryz.underlying34 hi hz0 hz1 hz2 rfl (by decide) _ _ _ rfl ((hown.alloc _).drew) ⟨wr.heap.size, 0, none⟩ 1 1 [.string ⟨xb.toArray⟩] rfl rfl (fun j u hu => oneNew wr _ 9 j u hu) (by simp [Value.oneCell']) (by decide) (by simp only [maxLen]; omega) (by omega) (by simp; omega) _ rfl ?_; intro g3 cap3 w3 hown3 hgrow hat hlt3)
                go_roundw
                case rel => exact ⟨i, k + 1, r ++ [z] ++ [xb], g3, cap3, by omega, by omega, by simp at hol ⊢; omega, by go_num, by go_num, by simp, by simpa [sv] using hown3, ((hbel.alloc hzz _).drew).grown hgrow (by simp; omega) (fun j hj => (hl j hj).1), HP.out⟩
                case measure => simp [intOf]; omega
          · have db2 : decide ((k : Int) < (B.length : Int)) = false := decide_eq_false (by omega)
            have HM := Lib.hid (HS.out.trans (mrg_done out hi1 hk1))
            have HO := Lib.hid hown
            clear HS hown
            go_wp2
            go_ret
            rw [HR.out, HM.out]
            exact ⟨_, rfl, own_mono' HO.out hzw, hB2.trans (hbel.mono hzw)⟩
end Go.Proofs.YtimekfhchammnaaGreatDoor

namespace Go.Proofs.YtimekfhchammnaaGreatDoor
set_option maxRecDepth 100000
open Go.ChangeShapes Go.WideShapes Go.ChangeAt Go.RowKit
set_option linter.unusedSimpArgs false
set_option linter.unusedVariables false

/-- The names of the constants in a term. -/
noncomputable def usesIn (l : List UInt8) : List (List UInt8) := match termOf l with
  | some T => srt T.cnames
  | none => []
theorem usesIn_len (l : List UInt8) : (usesIn l).length ≤ 2000 := by
  unfold usesIn
  cases h : termOf l with
  | none => exact Nat.zero_le _
  | some t =>
    have h1 := (termOf_is h).2
    have h2 := t.cnames_len
    have h3 := t.size_le
    have h4 := (srt_spec _ t.cnames (Nat.le_refl _)).2.2
    show (srt t.cnames).length ≤ 2000
    rw [← h1.1] at h1
    have := h1.2
    omega
theorem view_of_row {w : World} {b : Nat} {v : Value} {l : List BL} (h : w.ownsRow b 9 1 v l.length (l.map sv)) (hv : v ≠ .slice none 0 0) : View w v l := by
  rcases h.2 with ⟨e, _⟩ | ⟨g, cap, cur, rfl, hb, hg, hn, hm, hs, ht⟩
  · exact absurd e hv
  · have hlt : g < w.heap.size := (h.lt g rfl).2
    refine ⟨g, 0, cap, rfl, hn, hm, hlt, fun j hj => ?_⟩
    rw [Nat.zero_add, h.cellAt j (by omega)]
    simp [hj]

set_option maxHeartbeats 8000000 in
theorem specUsesIn (s : ByteArray) (w : World) (hs : s.size ≤ maxLen) :
    Calls Tryz.prog 42 #[.string s] w (LRes' (usesIn s.data.toList) w) := by
  have f1 := Lib.hid (specL06AllP s (w.alloc (.cells #[] 9)) hs)
  obtain ⟨i0, hi, iz0, iz1, iz2⟩ := info_parts infoStr'
  have HO00 : Hid ((w.alloc (.cells #[] 9)).ownsRow w.heap.size 9 1 (.slice (some ⟨w.heap.size, 0, none⟩) 0 0) 0 []) := World.ownsRow_lit w #[] 0 (Nat.le_refl _) (by decide) (by simp)
  have HB00 : Hid (Below w.heap.size w (w.alloc (.cells #[] 9))) := Below.alloc (Below.refl _ _) (Nat.le_refl _) _
  go_enter Tryz.func42, Tryz.ntmps42
  go_wp2_with fail
  (with_reducible refine f1.out.mono ?_); rintro e W ⟨v, ns, rfl, hrow, hb, hsl, hcase⟩
  have HOW0 : Hid (W.ownsRow w.heap.size 9 1 (.slice (some ⟨w.heap.size, 0, none⟩) 0 0) 0 []) := own_below HO00.out hb
  have HBW : Hid (Below w.heap.size w W) := HB00.out.trans (hb.mono HB00.out.size)
  have hzW : (w.alloc (.cells #[] 9)).heap.size ≤ W.heap.size := hb.size
  obtain ⟨B, hB⟩ : ∃ B, (w.alloc (.cells #[] 9)).heap.size = B := ⟨_, rfl⟩
  rw [hB] at hrow hcase hzW
  have hBs : B = w.heap.size + 1 := by rw [← hB]; simp
  have HOF0 : Hid (Off B W.heap.size (.slice (some ⟨w.heap.size, 0, none⟩) 0 0)) := fun k hk => by
    cases hk
    exact .inl (show w.heap.size < B by rw [hBs]; exact Nat.lt_succ_self _)
  have HE : Hid (usesIn s.data.toList = srt ((List.range ns.length).flatMap (nameAt ns)) ∧ ns.length ≤ 2000) := by
    rcases hcase with ⟨t, ht, hn, hr⟩ | ⟨hno, rfl⟩
    · have hle := ht.2.2
      rw [← ht.2.1] at hle
      have hszl := t.size_le
      exact ⟨by rw [usesIn, termOf_some ht, names_all hr hn], by omega⟩
    · exact ⟨by rw [usesIn, termOf_none hno]; simp [srt_small], Nat.zero_le _⟩
  clear hB HB00 HO00 hb f1 hBs hcase hsl
  obtain ⟨va, vc, rfl⟩ := own_sliceN hrow
  have hn2 := HE.out.2
  have HROW := Lib.hid hrow
  clear hrow
  go_wp2
  go_loopw [3, 5] (fun o i wr => ∃ (j : Nat) (oo : Value) (l : List BL), i = .int .i64 (j : Int) ∧ oo = o ∧ j ≤ ns.length ∧ Hid (l = (List.range j).flatMap (nameAt ns)) ∧ oo ≠ .slice none 0 0 ∧
    wr.ownsRow w.heap.size 9 1 oo l.length (l.map sv) ∧ Hid (Off B W.heap.size oo) ∧ Below w.heap.size w wr ∧ KeepA B W wr ∧ W.heap.size ≤ wr.heap.size) (fun _ i _ => ns.length - (intOf i).toNat)
  case atStart => exact ⟨0, _, [], by go_num, rfl, Nat.zero_le _, by simp [Hid], by simp, HOW0.out, HOF0, HBW.out, KeepA.refl _ _, Nat.le_refl _⟩
  case round =>
    obtain ⟨j, oo, l, rfl, rfl, hjn, HL, hne, hown, HOF, hbr, hka, hzr⟩ := hrel
    clear HOW0 HOF0 HBW
    have HLL : Hid (l.length ≤ j) := by rw [Hid, HL.out]; exact names_len ns j
    have HNE := Lib.hid hne
    clear hne
    have q1 : (0 : Int) ≤ (j : Int) := by omega
    by_cases hlt : j < ns.length
    · obtain ⟨nd, hnd⟩ : ∃ nd, ns[j]? = some nd := ⟨ns[j], by simp [hlt]⟩
      have hrowr := hka _ _ _ _ _ HROW.out
      obtain ⟨g, cap, e0, _, hgl⟩ := hrowr.form (by omega)
      cases e0
      have c0 : wr.cell? ⟨g, j * 7, none⟩ = some (.int .u8 (nd.kind.toNat : Int)) := node_at hrowr hnd 0 (by decide)
      have q2 : (j : Int) < (ns.length : Int) := by omega
      by_cases hk : nd.kind = 99
      · have HT : Hid ((List.range (j + 1)).flatMap (nameAt ns) = l ++ [nd.text]) := by rw [Hid, names_succ, nameAt_some hnd, if_pos hk, HL.out]
        have c5 : wr.cell? ⟨g, j * 7 + 5, none⟩ = some (.string ⟨nd.text.toArray⟩) := node_at hrowr hnd 5 (by decide)
        rw [hk] at c0
        have c0' : wr.cell? ⟨g, j * 7, none⟩ = some (.int .u8 99) := c0
        have hB2 := Lib.hid hbr
        have hK2 := Lib.hid hka
        have hz2 := hbr.size
        have HOW := Lib.hid hown
        have hrow2 : Hid (∀ k, oo.ownBlock = some k → w.heap.size ≤ k) := fun k hk => (hown.lt k hk).1
        have hll := HLL.out
        generalize nd.text = yb at c5 HT
        clear c0 hnd hk hrowr HL HLL hbr hka hown
        go_wp2_with (at_builtin; refine wpList_append_lies _ rfl _ _ 34 rfl w.heap.size 9 i0 _ 1 16 Tryz.underlying34 hi iz0 iz1 iz2 rfl (by decide) _ _ _ rfl (HOW.out.alloc _) ⟨wr.heap.size, 0, none⟩ 1 1 [.string ⟨yb.toArray⟩] rfl rfl (oneNew _ _ _) (by simp [Value.oneCell']) (by decide) (by simp only [maxLen]; omega) (by omega) (by simp; omega) _ rfl ?_; intro g3 cap3 w3 ho3 hg3 hat3 hlt3)
        have HO3 : Hid (w3.ownsRow w.heap.size 9 1 (.slice (some ⟨g3, 0, none⟩) (l.length + 1) cap3) (l ++ [yb]).length ((l ++ [yb]).map sv)) := by
          rw [Hid, List.map_append, show (l ++ [yb]).length = l.length + 1 by simp]
          exact ho3
        have HOF3 : Hid (Off B W.heap.size (.slice (some ⟨g3, 0, none⟩) (l.length + 1) cap3)) := fun k hk => by
          cases hk
          rcases hat3 with h | h
          · exact HOF.out _ h
          · refine .inr ?_
            simp at h
            show W.heap.size ≤ g3
            omega
        have HB3 : Hid (Below w.heap.size w w3) := (hB2.out.alloc hz2 _).grown hg3 (by simp; omega) (fun k hk => hrow2.out k hk)
        have HZ3 : Hid (W.heap.size ≤ w3.heap.size) := by have := hg3.size; simp at this; rw [Hid]; omega
        have HK3 : Hid (KeepA B W w3) := (hK2.out.below (Below.alloc (Below.refl _ _) (Nat.le_refl _) _)).step hg3 HOF.out
        clear ho3 hg3 hat3 hlt3 c0' c5
        go_wp2
        go_roundw
        case rel => exact ⟨j + 1, _, l ++ [yb], by go_num, rfl, by omega, HT.out.symm, by simp, HO3.out, HOF3, HB3.out, HK3.out, HZ3.out⟩
        case measure => simp [intOf]; omega
      · have b0 : ((nd.kind.toNat : Int) == 99) = false := ne_byte (d := 99) hk
        have HT : Hid ((List.range (j + 1)).flatMap (nameAt ns) = l) := by rw [Hid, names_succ, nameAt_some hnd, if_neg hk, HL.out, List.append_nil]
        have HOW := Lib.hid hown
        have HBR := Lib.hid hbr
        have HKA := Lib.hid hka
        have HZR := Lib.hid hzr
        generalize nd.kind = kd at c0 b0
        clear hnd hk hrowr HL HLL hbr hka hown
        go_wp2
        go_roundw
        case rel => exact ⟨j + 1, _, l, by go_num, rfl, by omega, HT.out.symm, HNE.out, HOW.out, HOF, HBR.out, HKA.out, HZR.out⟩
        case measure => simp [intOf]; omega
    · have hj : j = ns.length := by omega
      have HR : Hid (usesIn s.data.toList = srt l) := by rw [Hid, HE.out.1, HL.out, hj]
      have q2 : ¬ (j : Int) < (ns.length : Int) := by omega
      have hll := HLL.out
      have f3 := Lib.hid (specSorted l.length l (Nat.le_refl _) (by omega) wr oo (view_of_row hown HNE.out))
      have HBR := Lib.hid hbr
      clear hown hbr hka HL HLL HNE hj
      go_wp2_with fail
      (with_reducible refine f3.out.mono ?_); rintro e w4 ⟨u, rfl, hu, hb4⟩
      have HU : Hid (w4.ownsRow w.heap.size 9 1 u (usesIn s.data.toList).length ((usesIn s.data.toList).map sv)) := by rw [Hid, HR.out]; exact own_baseE hu HBR.out.size
      have HB4 : Hid (Below w.heap.size w w4) := HBR.out.trans (hb4.mono HBR.out.size)
      clear hu hb4 f3
      go_wp2
      go_ret
      exact ⟨_, rfl, HU.out, HB4.out⟩
end Go.Proofs.YtimekfhchammnaaGreatDoor

namespace Go.Proofs.YtimekfhchammnaaGreatDoor
set_option maxRecDepth 100000
open Go.ChangeShapes Go.WideShapes Go.ChangeAt Go.RowKit
set_option linter.unusedSimpArgs false
set_option linter.unusedVariables false

/-- All names that a declaration's texts use, in their order. -/
noncomputable def usesAll (d : Dc) (k : Nat) : List (List UInt8) := usesIn d.type ++ usesIn d.value ++ (d.ctors.take k).flatMap fun c => usesIn c.2
noncomputable def usesOf (d : Dc) : List (List UInt8) := if declOk d = true then (srt (usesAll d d.ctors.length)).filter fun x => decide (d.kind ≠ 4 ∨ x ≠ d.name) else []
theorem usesAll_len (d : Dc) (k : Nat) : (usesAll d k).length ≤ 4000 + 2000 * k := by
  have h1 := usesIn_len d.type
  have h2 := usesIn_len d.value
  have h3 : ∀ l : List Ct, (l.flatMap fun c => usesIn c.2).length ≤ 2000 * l.length := by
    intro l
    induction l with
    | nil => simp
    | cons c l ih =>
      have := usesIn_len c.2
      rw [List.flatMap_cons, List.length_append, List.length_cons]
      omega
  have h4 := h3 (d.ctors.take k)
  have h5 : (d.ctors.take k).length ≤ k := by rw [List.length_take]; omega
  unfold usesAll
  rw [List.length_append, List.length_append]
  omega
theorem usesAll_succ {d : Dc} {k : Nat} (h : k < d.ctors.length) : usesAll d (k + 1) = usesAll d k ++ usesIn d.ctors[k].2 := by
  unfold usesAll
  rw [List.take_succ_eq_append_getElem h, List.flatMap_append, ← List.append_assoc]
  simp
theorem declOk_ctors {d : Dc} (h : declOk d = true) : d.ctors.length ≤ 6 := by
  simp only [declOk, Bool.and_eq_true, decide_eq_true_eq] at h
  have hk := h.2.2.2.2
  unfold declKindOk at hk
  split at hk
  · simp only [Bool.and_eq_true, decide_eq_true_eq] at hk
    omega
  · split at hk
    · simp only [Bool.and_eq_true, decide_eq_true_eq] at hk
      omega
    · split at hk
      · simp only [dataOk, Bool.and_eq_true, decide_eq_true_eq] at hk
        exact hk.2.2.2.2.1
      · cases hk

theorem wp_append_rows {w : World} {o : Oper} {a : Act} {K : Act → World → Prop} {Q : Exit → Act → World → Prop} (s x : Operand)
    (ho : o.op = .call { callee := .builtin .append, args := #[s, x], argTypes := #[34, 34] }) {base b2 : Nat} {v1 v2 : Value} {l1 l2 : List (List UInt8)}
    (hs : a.eval s = v1) (hx : a.eval x = v2) (h1 : w.ownsRow base 9 1 v1 l1.length (l1.map sv)) (h2 : w.ownsRow b2 9 1 v2 l2.length (l2.map sv)) (hn : l1.length + l2.length ≤ 1000000) (hb : base ≤ w.heap.size)
    (h : ∀ v' w', w'.ownsRow base 9 1 v' (l1 ++ l2).length ((l1 ++ l2).map sv) → Below base w w' → K (a.put o.dst v') w') : o.wp Tryz.prog a w K Q := by
  obtain ⟨i0, hi, iz0, iz1, iz2⟩ := info_parts infoStr'
  rcases id h2.2 with ⟨e, e0⟩ | ⟨g, cap, cur, e, hbg, hg, hnc, hm, hsz, ht⟩
  · have e2 : l2 = [] := List.length_eq_zero_iff.1 e0
    subst e2
    have hK : K (a.put o.dst v1) w := h _ _ (by simpa using h1) (Below.refl _ _)
    have hrun := run_append_owned_none (P := Tryz.prog) (w := w) base 34 o.type 9 i0 1 Tryz.underlying34 hi v1 _ _ h1
    have hx' := hx.trans e
    clear h h1 h2
    unfold Oper.wp
    simp [execOp, ho, resolve, invoke, builtin, hs, hx', hrun, Result.andThen]
    exact hK
  · refine wp_append_own w s x _ ho base 9 i0 _ 1 16 Tryz.underlying34 hi iz0 iz1 iz2 rfl (by decide) v1 _ _ hs h1 ⟨g, 0, none⟩ l2.length cap (l2.map sv) (hx.trans e) (by simp) ?_ (one_map l2) (by simp only [maxLen]; omega) (by omega) hb ?_
    · intro j u hu
      obtain ⟨hj, rfl⟩ := List.getElem?_eq_some_iff.1 hu
      have hj2 : j < l2.length := by simpa using hj
      subst e
      rw [add_plain, Nat.zero_add, h2.cellAt j (by omega)]
      simp [hj2]
    · intro v' w' h3 h4 _
      refine h v' w' ?_ ((Below.refl base w).grown h4 hb (fun q hq => (h1.lt q hq).1))
      rw [List.length_append, List.map_append]
      exact h3
theorem append_rows {w : World} {ops : Array Oper} {rest : List Oper} {o : Oper} {a : Act} {Q : Exit → Act → World → Prop} (hgd : o.guard = none) (s x : Operand)
    (ho : o.op = .call { callee := .builtin .append, args := #[s, x], argTypes := #[34, 34] }) {base b2 : Nat} {v1 v2 : Value} {l1 l2 : List (List UInt8)}
    (hs : a.eval s = v1) (hx : a.eval x = v2) (h1 : w.ownsRow base 9 1 v1 l1.length (l1.map sv)) (h2 : w.ownsRow b2 9 1 v2 l2.length (l2.map sv)) (hn : l1.length + l2.length ≤ 1000000) (hb : base ≤ w.heap.size)
    (h : ∀ v' w', w'.ownsRow base 9 1 v' (l1 ++ l2).length ((l1 ++ l2).map sv) → Below base w w' → wpList Tryz.prog ops Q rest (a.put o.dst v') w') : wpList Tryz.prog ops Q (o :: rest) a w :=
  wpList_plain hgd fun _ hK => wp_append_rows s x ho hs hx h1 h2 hn hb fun v' w' h3 h4 => hK _ _ (h v' w' h3 h4)
theorem step_append_rows {w : World} {ops : Array Oper} {o : Oper} {a : Act} {K : Act → World → Prop} {Q : Exit → Act → World → Prop} {E : Prop} (hgd : o.guard = none) (s x : Operand)
    (ho : o.op = .call { callee := .builtin .append, args := #[s, x], argTypes := #[34, 34] }) {base b2 : Nat} {v1 v2 : Value} {l1 l2 : List (List UInt8)}
    (hs : a.eval s = v1) (hx : a.eval x = v2) (h1 : w.ownsRow base 9 1 v1 l1.length (l1.map sv)) (h2 : w.ownsRow b2 9 1 v2 l2.length (l2.map sv)) (hn : l1.length + l2.length ≤ 1000000) (hb : base ≤ w.heap.size)
    (h : ∀ v' w', w'.ownsRow base 9 1 v' (l1 ++ l2).length ((l1 ++ l2).map sv) → Below base w w' → K (a.put o.dst v') w') : if Region.wanted o (yielded ops a.tmps) = true then Oper.wp Tryz.prog o a w K Q else E := by
  have hw : Region.wanted o (yielded ops a.tmps) = true := by simp [Region.wanted, hgd]
  rw [if_pos hw]
  exact wp_append_rows s x ho hs hx h1 h2 hn hb h

theorem specSortedR {w : World} {b : Nat} {v : Value} {l : List (List UInt8)} (h : w.ownsRow b 9 1 v l.length (l.map sv)) (hl : l.length ≤ 1000000) :
    Calls Tryz.prog 43 #[v] w (LRes' (srt l) w) := by
  by_cases hv : v = .slice none 0 0
  · subst hv
    have e0 : l = [] := by
      rcases id h.2 with ⟨_, e0⟩ | ⟨g, cap, cur, e, _⟩
      · exact List.length_eq_zero_iff.1 e0
      · cases e
    subst e0
    have HR : Hid (srt ([] : List (List UInt8)) = []) := srt_small (by decide)
    clear h hl
    go_enter Tryz.func43, Tryz.ntmps43
    obtain ⟨i0, hi, iz0, iz1, iz2⟩ := info_parts infoStr'
    go_wp2_with (at_builtin; refine wpList_append_own_none rfl _ _ 34 rfl w.heap.size 9 i0 1 Tryz.underlying34 hi _ 0 [] rfl (World.ownsRow_lit w #[] 0 (Nat.le_refl _) (by decide) (by simp)) rfl ?_)
    go_ret
    rw [HR.out]
    exact ⟨_, rfl, World.ownsRow_lit w #[] 0 (Nat.le_refl _) (by decide) (by simp), (Below.refl _ _).alloc (Nat.le_refl _) _⟩
  · exact specSorted l.length l (Nat.le_refl _) (by omega) w v (view_of_row h hv)
end Go.Proofs.YtimekfhchammnaaGreatDoor

namespace Go.Proofs.YtimekfhchammnaaGreatDoor
set_option maxRecDepth 100000
open Go.ChangeShapes Go.WideShapes Go.ChangeAt Go.RowKit
set_option linter.unusedSimpArgs false
set_option linter.unusedVariables false

set_option maxHeartbeats 8000000 in
theorem specUsesOf {w : World} {d : Dc} {b : Nat} {u : Value} (h : w.ownsRow b 49 2 u d.ctors.length (flatC d.ctors)) (hs : d.Small) :
    Calls Tryz.prog 21 #[d.val u] w (LRes' (usesOf d) w) := by
  obtain ⟨i0, hi, hz0, hz1, hz2⟩ := info_parts infoStr'
  obtain ⟨kd, nm, ps, fl, ty, vl, cs⟩ := d
  obtain ⟨ua, uc, rfl⟩ := row_sliceD h
  have HB0 := Lib.hid (alloc_any w (.cells #[.int .i64 kd, .string ⟨nm.toArray⟩, .int .i64 ps, .int .i64 fl, .string ⟨ty.toArray⟩, .string ⟨vl.toArray⟩, .slice ua cs.length uc] 29))
  have HROW := Lib.hid (own_below h HB0.out)
  have f1 := Lib.hid (specDeclOk (d := ⟨kd, nm, ps, fl, ty, vl, cs⟩) HROW.out hs)
  have hval : ∀ u, Dc.val ⟨kd, nm, ps, fl, ty, vl, cs⟩ u = .agg #[.int .i64 kd, .string ⟨nm.toArray⟩, .int .i64 ps, .int .i64 fl, .string ⟨ty.toArray⟩, .string ⟨vl.toArray⟩, u] := fun u => rfl
  rw [hval] at f1 ⊢
  have s1 := hs.name
  have s2 := hs.type
  have s3 := hs.value
  have s4 := hs.ctors
  have s5 := Lib.hid hs.each
  simp only at s1 s2 s3 s4 s5
  have HE : Hid (usesOf ⟨kd, nm, ps, fl, ty, vl, cs⟩ = if declOk ⟨kd, nm, ps, fl, ty, vl, cs⟩ = true then (srt (usesAll ⟨kd, nm, ps, fl, ty, vl, cs⟩ cs.length)).filter (fun x => decide (kd ≠ 4 ∨ x ≠ nm)) else []) := rfl
  have HP : Hid (declOk ⟨kd, nm, ps, fl, ty, vl, cs⟩ = true → cs.length ≤ 6) := fun h => declOk_ctors h
  have HL := Lib.hid (usesAll_len ⟨kd, nm, ps, fl, ty, vl, cs⟩)
  have HU0 : Hid (usesAll ⟨kd, nm, ps, fl, ty, vl, cs⟩ 0 = usesIn ty ++ usesIn vl) := by unfold usesAll; simp [Hid]
  have HUS := Lib.hid fun (k : Nat) (h : k < cs.length) => usesAll_succ (d := ⟨kd, nm, ps, fl, ty, vl, cs⟩) h
  have HX := Lib.hid (declBox (w := w) (kd := kd) (ps := ps) (fl := fl) (nm := nm) (ty := ty) (vl := vl) (u := .slice ua cs.length uc))
  have znm := size_sv nm
  have zty := size_sv ty
  have zvl := size_sv vl
  have fC : Hid (∀ (c : List UInt8), c.length ≤ 1048576 → ∀ W : World, Calls Tryz.prog 42 #[.string ⟨c.toArray⟩] W (LRes' (usesIn c) W)) := fun c hc W => specUsesIn (⟨c.toArray⟩ : ByteArray) W (by have := size_sv c; unfold maxLen; omega)
  have fT := Lib.hid (fC.out ty s2)
  have fV := Lib.hid (fC.out vl s3)
  have lT := Lib.hid (usesIn_len ty)
  have lV := Lib.hid (usesIn_len vl)
  clear h hval hs
  simp only at HUS
  generalize declOk ⟨kd, nm, ps, fl, ty, vl, cs⟩ = ok at f1 HE HP
  generalize usesAll ⟨kd, nm, ps, fl, ty, vl, cs⟩ = ua' at HE HL HU0 HUS
  go_enter Tryz.func21, Tryz.ntmps21
  go_wp2_with fail
  (with_reducible refine f1.out.mono ?_); rintro e w1 ⟨rfl, hb⟩
  have HBX := Lib.hid hb
  have HB1 := Lib.hid (HB0.out.trans (hb.mono HB0.out.size))
  obtain ⟨c0, c1, c2, c3, c4, c5, c6⟩ := HX.out _ hb
  clear hb f1
  cases ok
  · have HF : Hid (usesOf ⟨kd, nm, ps, fl, ty, vl, cs⟩ = []) := by rw [Hid, HE.out]; rfl
    have hrow : Hid ((w1.alloc (.cells #[] 9)).ownsRow w.heap.size 9 1 (.slice (some ⟨w1.heap.size, 0, none⟩) 0 0) 0 []) := World.ownsRow_lit w1 #[] 0 HB1.out.size (by decide) (by simp)
    have hbl := Lib.hid (HB1.out.alloc HB1.out.size (.cells #[] 9))
    clear HX HROW
    go_wp2
    go_ret
    rw [HF.out]
    exact ⟨_, rfl, hrow.out, hbl.out⟩
  have HV : Hid (usesOf ⟨kd, nm, ps, fl, ty, vl, cs⟩ = (srt (ua' cs.length)).filter (fun x => decide (kd ≠ 4 ∨ x ≠ nm))) := by rw [Hid, HE.out]; rfl
  have hc6 := HP.out rfl
  have hl0 : (usesIn ty).length ≤ 2000 := lT.out
  have hl1 : (usesIn vl).length ≤ 2000 := lV.out
  clear HE HP
  obtain ⟨W0, hW0⟩ : ∃ W0, (w.alloc (.cells #[.int .i64 kd, .string ⟨nm.toArray⟩, .int .i64 ps, .int .i64 fl, .string ⟨ty.toArray⟩, .string ⟨vl.toArray⟩, .slice ua cs.length uc] 29)) = W0 := ⟨_, rfl⟩
  rw [hW0] at HX HROW HB0 HBX
  clear hW0
  have hzW := HBX.out.size
  go_upto_region 3 with fail
  go_cut [3] (fun s3 wx => Hid (wx.ownsRow W0.heap.size 9 1 s3 (ua' 0).length ((ua' 0).map sv)) ∧ Hid (Below W0.heap.size W0 wx))
  case first =>
    go_region_held3 (fun w' => w'.cell? ⟨w.heap.size, 0, none⟩ = some (.int .i64 kd) ∧ w'.cell? ⟨w.heap.size, 1, none⟩ = some (.string ⟨nm.toArray⟩) ∧ w'.cell? ⟨w.heap.size, 2, none⟩ = some (.int .i64 ps) ∧ w'.cell? ⟨w.heap.size, 3, none⟩ = some (.int .i64 fl) ∧ w'.cell? ⟨w.heap.size, 4, none⟩ = some (.string ⟨ty.toArray⟩) ∧ w'.cell? ⟨w.heap.size, 5, none⟩ = some (.string ⟨vl.toArray⟩) ∧ w'.cell? ⟨w.heap.size, 6, none⟩ = some (.slice ua cs.length uc)) (first | exact XA | exact XT | exact XV | exact ⟨c0, c1, c2, c3, c4, c5, c6⟩)
      (first
        | (go_at_call_of 42 (Value.string ⟨ty.toArray⟩); (with_reducible refine (fT.out _).mono ?_); rintro e wT ⟨vT, rfl, hvT, hbT⟩; first | (have hdT := hdV.trans (hbT.mono hdV.size); have hvV2 := own_below hvV hbT; have XT := HX.out _ hdT) | (have hdT := HBX.out.drew.trans (hbT.mono HBX.out.drew.size); have XT := HX.out _ hdT))
        | (go_at_call_of 42 (Value.string ⟨vl.toArray⟩); (with_reducible refine (fV.out _).mono ?_); rintro e wV ⟨vV, rfl, hvV, hbV⟩; first | (have hdV := hdT.trans (hbV.mono hdT.size); have hvT2 := own_below hvT hbV; have XV := HX.out _ hdV) | (have hdV := HBX.out.drew.trans (hbV.mono HBX.out.drew.size); have XV := HX.out _ hdV))
        | (refine step_append_rows (by rfl) _ _ (by rfl) (by rfl) (by rfl) (own_lower hvT2 hzW) hvV (by omega) hdV.size ?_; intro vA wA hoA hbA; have hdA := hdV.trans hbA; have XA := HX.out _ hdA)
        | (refine step_append_rows (by rfl) _ _ (by rfl) (by rfl) (by rfl) (own_lower hvT (hdV.size)) hvV2 (by omega) hdT.size ?_; intro vA wA hoA hbA; have hdA := hdT.trans hbA; have XA := HX.out _ hdA))
    all_goals (go_wp2_with fail; go_meet; rw [HU0.out]; exact ⟨hoA, hdA⟩)
  case rest =>
    obtain ⟨HL0, HW0⟩ := hcut
    clear c0 c1 c2 c3 c4 c5 c6 fT fV lT lV hl0 hl1 HB1 HBX hzW
    go_wp2
    go_loopw [3, 4] (fun o i wr => ∃ (k : Nat) (oo : Value), k ≤ cs.length ∧ i = .int .i64 k ∧ oo = o ∧ Hid (wr.ownsRow W0.heap.size 9 1 oo (ua' k).length ((ua' k).map sv)) ∧ Hid (Below W0.heap.size W0 wr)) (fun _ i _ => cs.length - (intOf i).toNat)
    case atStart => exact ⟨0, _, Nat.zero_le _, rfl, rfl, HL0.out, HW0.out⟩
    case round =>
      obtain ⟨k, oo, hk, rfl, rfl, HO, HW⟩ := hrel
      clear HL0 HW0
      obtain ⟨c0, c1, c2, c3, c4, c5, c6⟩ := HX.out _ HW.out
      have hz := HW.out.size
      have hlk := HL.out k
      by_cases hlt : k < cs.length
      · have hrow := own_below HROW.out HW.out
        obtain ⟨g, cap', eg, _, hgl⟩ := hrow.form (by omega)
        cases eg
        obtain ⟨fa, fb⟩ := flatC_at hlt
        have x1 := (hrow.cellAt (k * 2 + 1) (by omega)).trans fb
        unfold sv at x1
        have HT := HUS.out k hlt
        have fc := Lib.hid (fC.out cs[k].2 (s5.out _ (List.getElem_mem hlt)).2)
        have hlc := usesIn_len cs[k].2
        have q1 : (0 : Int) ≤ (k : Int) := by omega
        have q2 : (k : Int) < (cs.length : Int) := by omega
        clear fa fb hrow
        generalize cs[k].2 = n at x1 HT fc hlc
        go_wp2_with fail
        (with_reducible refine (fc.out _).mono ?_); rintro e w5 ⟨v5, rfl, hv5, hb5⟩
        go_wp2_with (at_builtin; refine append_rows rfl _ _ rfl rfl rfl (own_below HO.out hb5) hv5 (by omega) (Nat.le_trans hz hb5.size) ?_; intro vA wA hoA hbA)
        have HO2 : Hid (wA.ownsRow W0.heap.size 9 1 vA (ua' (k + 1)).length ((ua' (k + 1)).map sv)) := by
          rw [Hid, HT]
          exact hoA
        have HW2 : Hid (Below W0.heap.size W0 wA) := (HW.out.trans (hb5.mono hz)).trans hbA
        clear hoA hbA hv5 hb5
        go_wp2
        go_roundw
        case rel => exact ⟨k + 1, _, by omega, by go_num, rfl, HO2.out, HW2.out⟩
        case measure => simp [intOf]; omega
      · obtain rfl : k = cs.length := by omega
        have fS := Lib.hid (specSortedR HO.out (by omega))
        have hsl := (srt_spec _ (ua' cs.length) (Nat.le_refl _)).2.2
        have HWo := Lib.hid HW
        have HL9 := Lib.hid (HL.out cs.length)
        clear HUS HU0 HL fC
        generalize srt (ua' cs.length) = sl at fS hsl HV
        go_wp2_with fail
        (with_reducible refine fS.out.mono ?_); rintro e w8 ⟨v8, rfl, hv8, hb8⟩
        have HW8 := Lib.hid (HW.out.trans (hb8.mono hz))
        obtain ⟨va, vc, rfl⟩ := own_sliceV hv8
        have HS8 := Lib.hid hv8
        have hrow9 : Hid ((w8.alloc (.cells #[] 9)).ownsRow w8.heap.size 9 1 (.slice (some ⟨w8.heap.size, 0, none⟩) 0 0) 0 []) := World.ownsRow_lit w8 #[] 0 (Nat.le_refl _) (by decide) (by simp)
        have hbl9 := Lib.hid ((Below.refl w8.heap.size w8).alloc (Nat.le_refl _) (.cells #[] 9))
        clear c0 c1 c2 c3 c4 c5 c6 hv8 hb8 fS HO
        go_wp2
        have HF0 : Hid (∀ m : Nat, (h : m < sl.length) → (sl.take (m + 1)).filter (fun x => decide (kd ≠ 4 ∨ x ≠ nm)) = (sl.take m).filter (fun x => decide (kd ≠ 4 ∨ x ≠ nm)) ++ (if kd ≠ 4 ∨ sl[m] ≠ nm then [sl[m]] else [])) := fun m h => by
          rw [List.take_succ_eq_append_getElem h, List.filter_append]
          by_cases hq : kd ≠ 4 ∨ sl[m] ≠ nm <;> simp [List.filter, hq]
        have HFL : Hid (∀ m : Nat, ((sl.take m).filter (fun x => decide (kd ≠ 4 ∨ x ≠ nm))).length ≤ m) := fun m => Nat.le_trans (List.length_filter_le _ _) (by rw [List.length_take]; omega)
        have HFE : Hid ((sl.take 0).filter (fun x => decide (kd ≠ 4 ∨ x ≠ nm)) = []) := rfl
        have HFF : Hid ((sl.take sl.length).filter (fun x => decide (kd ≠ 4 ∨ x ≠ nm)) = sl.filter (fun x => decide (kd ≠ 4 ∨ x ≠ nm))) := by rw [Hid, List.take_length]
        generalize hfl : (fun m : Nat => (sl.take m).filter (fun x => decide (kd ≠ 4 ∨ x ≠ nm))) = fl'
        have e0 : fl' 0 = [] := by rw [← hfl]; exact HFE.out
        have e1 : Hid (fl' sl.length = usesOf ⟨kd, nm, ps, fl, ty, vl, cs⟩) := by rw [Hid, ← hfl, HV.out]; exact HFF.out
        have e2 : Hid (∀ m : Nat, (h : m < sl.length) → fl' (m + 1) = fl' m ++ (if kd ≠ 4 ∨ sl[m] ≠ nm then [sl[m]] else [])) := by rw [← hfl]; exact HF0
        have e3 : Hid (∀ m : Nat, (fl' m).length ≤ m) := by rw [← hfl]; exact HFL
        clear HF0 HFL HFE HFF hfl HV
        have hl9 := HL9.out
        clear HL9
        go_loopw [5, 6] (fun o i wr2 => ∃ (m : Nat) (oo : Value), m ≤ sl.length ∧ i = .int .i64 m ∧ oo = o ∧ Hid (wr2.ownsRow w8.heap.size 9 1 oo (fl' m).length ((fl' m).map sv)) ∧ Hid (Below w8.heap.size w8 wr2)) (fun _ i _ => sl.length - (intOf i).toNat)
        case atStart => exact ⟨0, _, Nat.zero_le _, rfl, rfl, by rw [e0]; exact hrow9.out, hbl9.out⟩
        case round =>
          obtain ⟨m, oo, hm, rfl, rfl, HO2, HW2⟩ := hrel
          clear hrow9 hbl9 e0
          obtain ⟨c0, c1, c2, c3, c4, c5, c6⟩ := HX.out _ (HW8.out.trans (HW2.out.mono HW8.out.size))
          have hz2 := HW2.out.size
          have hlm := e3.out m
          by_cases hlt : m < sl.length
          · have hrow := own_below HS8.out HW2.out
            obtain ⟨g, cap', eg, _, hgl⟩ := hrow.form (by omega)
            cases eg
            have x1 := hrow.cellAt m (by omega)
            have HT := e2.out m hlt
            have q1 : (0 : Int) ≤ (m : Int) := by omega
            have q2 : (m : Int) < (sl.length : Int) := by omega
            have xx : wr.cell? ⟨g, m, none⟩ = some (.string ⟨sl[m].toArray⟩) := by rw [x1, List.getElem?_map, List.getElem?_eq_getElem hlt]; rfl
            clear hrow x1
            generalize sl[m] = x at xx HT
            by_cases k4 : kd = 4
            · subst k4
              by_cases hx : x = nm
              · subst hx
                rw [if_neg (by simp), List.append_nil] at HT
                have dx : (x == x) = true := by rw [beq_iff_eq]
                go_wp2
                go_quiet (fail)
                have HO3 : Hid ((wr.drewN nq).ownsRow w8.heap.size 9 1 oo (fl' m).length ((fl' m).map sv)) := own_drew HO2.out nq
                have HW3 : Hid (Below w8.heap.size w8 (wr.drewN nq)) := below_drewN HW2.out nq
                have xx3 : (wr.drewN nq).cell? ⟨g, m, none⟩ = some (.string ⟨x.toArray⟩) := xx
                clear HO2 HW2 xx c0 c1 c2 c3 c4 c5 c6 hz2 HX HROW
                generalize wr.drewN nq = wq at HO3 HW3 xx3 ⊢
                have hzq := HW3.out.size
                have HO4 : Hid (wq.ownsRow w8.heap.size 9 1 oo (fl' (m + 1)).length ((fl' (m + 1)).map sv)) := by
                  rw [Hid, HT]
                  exact HO3.out
                go_wp2
                go_roundw
                case rel => exact ⟨m + 1, _, by omega, by go_num, rfl, HO4.out, HW3.out⟩
                case measure => simp [intOf]; omega
              · have dx : (x == nm) = false := by rw [beq_eq_false_iff_ne]; exact hx
                rw [if_pos (.inr hx)] at HT
                go_wp2
                go_quiet (fail)
                have HO3 : Hid ((wr.drewN nq).ownsRow w8.heap.size 9 1 oo (fl' m).length ((fl' m).map sv)) := own_drew HO2.out nq
                have HW3 : Hid (Below w8.heap.size w8 (wr.drewN nq)) := below_drewN HW2.out nq
                have xx3 : (wr.drewN nq).cell? ⟨g, m, none⟩ = some (.string ⟨x.toArray⟩) := xx
                clear HO2 HW2 xx c0 c1 c2 c3 c4 c5 c6 hz2 HX HROW
                generalize wr.drewN nq = wq at HO3 HW3 xx3 ⊢
                have hzq := HW3.out.size
                go_wp2_with (at_builtin; refine wpList_append_own _ rfl _ _ 34 rfl w8.heap.size 9 i0 _ 1 16 Tryz.underlying34 hi hz0 hz1 hz2 rfl (by decide) _ _ _ rfl (HO3.out.alloc _) ⟨wq.heap.size, 0, none⟩ 1 1 [.string ⟨x.toArray⟩] rfl rfl (oneNew _ _ _) (by simp [Value.oneCell']) (by simp only [maxLen]; omega) (by omega) (by simp; omega) ?_; intro v2 w2 hown2 hgrow hnil2)
                have HO4 : Hid (w2.ownsRow w8.heap.size 9 1 v2 (fl' (m + 1)).length ((fl' (m + 1)).map sv)) := by
                  rw [Hid, HT, List.length_append, List.map_append]
                  exact hown2
                have HW4 : Hid (Below w8.heap.size w8 w2) := (HW3.out.alloc hzq _).grown hgrow (by simp; omega) (fun q hq => (HO3.out.lt q hq).1)
                clear hown2 hgrow
                go_wp2
                go_roundw
                case rel => exact ⟨m + 1, _, by omega, by go_num, rfl, HO4.out, HW4.out⟩
                case measure => simp [intOf]; omega
            · have b4 : (kd == 4) = false := by rw [beq_eq_false_iff_ne]; exact k4
              have b5 : (kd != 4) = true := by rw [bne, b4]; rfl
              rw [if_pos (.inl k4)] at HT
              go_wp2
              go_quiet (fail)
              have HO3 : Hid ((wr.drewN nq).ownsRow w8.heap.size 9 1 oo (fl' m).length ((fl' m).map sv)) := own_drew HO2.out nq
              have HW3 : Hid (Below w8.heap.size w8 (wr.drewN nq)) := below_drewN HW2.out nq
              have xx3 : (wr.drewN nq).cell? ⟨g, m, none⟩ = some (.string ⟨x.toArray⟩) := xx
              clear HO2 HW2 xx c0 c1 c2 c3 c4 c5 c6 hz2 HX HROW
              generalize wr.drewN nq = wq at HO3 HW3 xx3 ⊢
              have hzq := HW3.out.size
              go_wp2_with (at_builtin; refine wpList_append_own _ rfl _ _ 34 rfl w8.heap.size 9 i0 _ 1 16 Tryz.underlying34 hi hz0 hz1 hz2 rfl (by decide) _ _ _ rfl (HO3.out.alloc _) ⟨wq.heap.size, 0, none⟩ 1 1 [.string ⟨x.toArray⟩] rfl rfl (oneNew _ _ _) (by simp [Value.oneCell']) (by simp only [maxLen]; omega) (by omega) (by simp; omega) ?_; intro v2 w2 hown2 hgrow hnil2)
              have HO4 : Hid (w2.ownsRow w8.heap.size 9 1 v2 (fl' (m + 1)).length ((fl' (m + 1)).map sv)) := by
                rw [Hid, HT, List.length_append, List.map_append]
                exact hown2
              have HW4 : Hid (Below w8.heap.size w8 w2) := (HW3.out.alloc hzq _).grown hgrow (by simp; omega) (fun q hq => (HO3.out.lt q hq).1)
              clear hown2 hgrow
              go_wp2
              go_roundw
              case rel => exact ⟨m + 1, _, by omega, by go_num, rfl, HO4.out, HW4.out⟩
              case measure => simp [intOf]; omega
          · obtain rfl : m = sl.length := by omega
            have HBF := Lib.hid (HB0.out.trans ((HW8.out.trans (HW2.out.mono HW8.out.size)).mono HB0.out.size))
            have hzf : w.heap.size ≤ w8.heap.size := Nat.le_trans HB0.out.size HW8.out.size
            go_wp2
            go_ret
            rw [← e1.out]
            exact ⟨_, rfl, own_lower HO2.out hzf, HBF.out⟩
end Go.Proofs.YtimekfhchammnaaGreatDoor

namespace Go.Proofs.YtimekfhchammnaaGreatDoor
set_option maxRecDepth 100000
open Go.ChangeShapes Go.WideShapes Go.ChangeAt Go.RowKit
set_option linter.unusedSimpArgs false
set_option linter.unusedVariables false

theorem lenNamesOf {d : Dc} (h : d.Small) : (namesOf d).length ≤ 10000000 := by
  have h4 := h.ctors
  unfold namesOf
  split
  · split <;> simp <;> omega
  · simp
theorem lenUsesOf {d : Dc} (h : d.Small) : (usesOf d).length ≤ 10000000 := by
  unfold usesOf
  split
  · rename_i hk
    have h6 := declOk_ctors hk
    have h1 := usesAll_len d d.ctors.length
    have h2 := (srt_spec _ (usesAll d d.ctors.length) (Nat.le_refl _)).2.2
    exact Nat.le_trans (List.length_filter_le _ _) (by omega)
  · simp
theorem apartD {w w' : World} {b n M : Nat} {v v' : Value} {xs : List Value} (h : w.ownsRow b 9 1 v n xs) (hg : w.grownBy w' v'.ownBlock) (hd : ((∀ k, v.ownBlock = some k → k < M) ∧ (∀ k, v'.ownBlock = some k → M ≤ k)) ∨ ((∀ k, v'.ownBlock = some k → k < M) ∧ (∀ k, v.ownBlock = some k → M ≤ k))) : w'.ownsRow b 9 1 v n xs := by
  refine h.kept hg ?_
  rcases hv : v.ownBlock with _ | k
  · exact .inl rfl
  · refine .inr fun e => ?_
    rcases hd with ⟨h1, h2⟩ | ⟨h1, h2⟩
    · have := h1 k hv; have := h2 k e.symm; omega
    · have := h1 k e.symm; have := h2 k hv; omega

set_option maxHeartbeats 16000000 in
theorem lawNamesOf {d : Dc} {u : Value} (w : World) (hu : CameC w u d.ctors) (hf : d.Fits)
    (hI : d.Small → ∀ (W : World) (b : Nat) (v : Value), Below w.heap.size w W → W.ownsRow b 49 2 v d.ctors.length (flatC d.ctors) → Calls Tryz.prog 16 #[d.val v] W (LRes' (namesOf d) W)) :
    Calls Tryz.prog 5 #[d.val u] w fun e w' => e = .returned (.bool true) ∧ Below w.heap.size w w' := by
  obtain ⟨a0, cap, _, _, hsl, _⟩ := id hu
  have HSZ : Hid (∀ W : World, Below w.heap.size w W → Calls Tryz.prog 8 #[d.val u, .int .i64 1048576] W fun e w' => Below W.heap.size W w' ∧ (e = .returned (.int .i64 (-1)) ∨ ∃ r : Nat, e = .returned (.int .i64 (r : Int)) ∧ r + d.size = 1048576)) := fun W hb => szDecl (hu.below hb) hf 1048576 (Nat.le_refl _)
  have HSm : Hid (d.size ≤ 1048576 → d.Small) := fun h => Dc.small h
  have HTo := Lib.hid fun (hn : d.ctors.length ≤ 1048576) (W : World) (hb : Below w.heap.size w W) => toDecl (hu.below hb) hn
  have HSp := Lib.hid fun (hs : d.Small) (W : World) (b : Nat) (v : Value) (h : W.ownsRow b 49 2 v d.ctors.length (flatC d.ctors)) => specNamesOf h hs
  have HEq := Lib.hid fun (hn : d.ctors.length ≤ 1048576) (W : World) (b1 b2 : Nat) (v1 v2 : Value) (h1 : W.ownsRow b1 49 2 v1 d.ctors.length (flatC d.ctors)) (h2 : W.ownsRow b2 49 2 v2 d.ctors.length (flatC d.ctors)) => eqDecl h1 h2 hn
  have HMk : Hid (∀ (hn : d.ctors.length ≤ 1048576) (W : World) (b : Nat) (v : Value) (xs : List Value) (h : W.ownsRow b 49 2 v d.ctors.length xs), Calls Tryz.prog 18 #[d.val v, .int .i64 1] W fun e w' => e = .returned (.int .i64 (1 + 2 * (d.ctors.length : Int))) ∧ W.grownBy w' v.ownBlock) := fun hn W b v xs h => markDecl (k := 1) h (by omega) (by decide) (by decide)
  have HLn : Hid (d.Small → (namesOf d).length ≤ 10000000) := lenNamesOf
  have HI := Lib.hid hI
  unfold DRes at HTo
  obtain ⟨r, hr⟩ : ∃ r, namesOf d = r := ⟨_, rfl⟩
  rw [hr] at HSp HI HLn
  clear hu hf hI hr
  obtain ⟨kd, nm, ps, fl, ty, vl, cs⟩ := d
  have hval : ∀ u, Dc.val ⟨kd, nm, ps, fl, ty, vl, cs⟩ u = .agg #[.int .i64 kd, .string ⟨nm.toArray⟩, .int .i64 ps, .int .i64 fl, .string ⟨ty.toArray⟩, .string ⟨vl.toArray⟩, u] := fun u => rfl
  simp only [hval] at HSZ HTo HSp HEq HI HMk ⊢
  simp only at hsl HSZ HTo HSp HEq HI HMk
  subst hsl
  have HB0 := Lib.hid (alloc_any w (.cells #[.int .i64 kd, .string ⟨nm.toArray⟩, .int .i64 ps, .int .i64 fl, .string ⟨ty.toArray⟩, .string ⟨vl.toArray⟩, .slice a0 cs.length cap] 24))
  have HA := Lib.hid (anyBox (w := w) (kd := kd) (ps := ps) (fl := fl) (nm := nm) (ty := ty) (vl := vl) (u := .slice a0 cs.length cap) (T := 24))
  have HX := Lib.hid fun w u => anyBox (w := w) (kd := kd) (ps := ps) (fl := fl) (nm := nm) (ty := ty) (vl := vl) (u := u) (T := 29)
  clear hval
  go_enter Tryz.func5, Tryz.ntmps5
  go_wp2_with fail
  (with_reducible refine (HSZ.out _ HB0.out).mono ?_); rintro e w1 ⟨hb1, (rfl | ⟨z, rfl, hz⟩)⟩
  · have HB1 := Lib.hid (HB0.out.trans (hb1.mono HB0.out.size))
    clear hb1
    go_wp2
    go_ret
    exact ⟨rfl, HB1.out⟩
  have hsm := HSm.out (by omega)
  have hn := hsm.ctors
  simp only at hn
  have hrl := HLn.out hsm
  have HI2 := Lib.hid (HI.out hsm)
  have HSp2 := Lib.hid (HSp.out hsm)
  have HTo2 := Lib.hid (HTo.out hn)
  have HEq2 := Lib.hid (HEq.out hn)
  have HMk2 := Lib.hid (HMk.out hn)
  have dz : decide ((z : Int) < 0) = false := decide_eq_false (by omega)
  have HB1 := Lib.hid (HB0.out.trans (hb1.mono HB0.out.size))
  have HA1 := Lib.hid hb1
  obtain ⟨c0, c1, c2, c3, c4, c5, c6⟩ := HA.out _ hb1
  clear hb1 hz hsm HI HSp HTo HEq HSZ HSm HMk HLn
  -- the model's answer
  go_wp2_with fail
  (with_reducible refine (HTo2.out _ HB1.out).mono ?_); rintro e w2 ⟨u1, rfl, hu1, hb2⟩
  have HA2 := Lib.hid (HA1.out.trans (hb2.mono HA1.out.size))
  obtain ⟨ua, uc, rfl⟩ := row_sliceD hu1
  clear hb2 c0 c1 c2 c3 c4 c5 c6
  go_wp2_with fail
  (with_reducible refine (HSp2.out _ _ _ hu1).mono ?_); rintro e w3 ⟨vW, rfl, hW3, hb3⟩
  have HA3 := Lib.hid (HA2.out.trans (hb3.mono HA2.out.size))
  have HB3 := Lib.hid (HB0.out.trans (HA3.out.mono HB0.out.size))
  obtain ⟨c0, c1, c2, c3, c4, c5, c6⟩ := HA.out _ HA3.out
  have hiW : Hid (∀ k, vW.ownBlock = some k → k < w3.heap.size) := fun k hk => (hW3.lt k hk).2
  clear hb3 hu1 HB1
  -- the program's argument and answer
  go_wp2_with fail
  (with_reducible refine (HTo2.out _ HB3.out).mono ?_); rintro e w4 ⟨u2, rfl, hu2, hb4⟩
  have HA4 := Lib.hid (HA3.out.trans (hb4.mono HA3.out.size))
  have loX : Hid (∀ k, u2.ownBlock = some k → w3.heap.size ≤ k) := fun k hk => (hu2.lt k hk).1
  have hiX : Hid (∀ k, u2.ownBlock = some k → k < w4.heap.size) := fun k hk => (hu2.lt k hk).2
  have z34 := hb4.size
  obtain ⟨va, vc, rfl⟩ := row_sliceD hu2
  have bx := alloc_any w4 (.cells #[.int .i64 kd, .string ⟨nm.toArray⟩, .int .i64 ps, .int .i64 fl, .string ⟨ty.toArray⟩, .string ⟨vl.toArray⟩, .slice va cs.length vc] 29)
  have hrow5 := own_below hu2 bx
  have hW5 := own_below (own_below hW3 hb4) bx
  have HA5 := Lib.hid (HA4.out.trans (bx.mono HA4.out.size))
  have HB5 := Lib.hid (HB0.out.trans (HA5.out.mono HB0.out.size))
  have HX5 := Lib.hid (HX.out w4 (.slice va cs.length vc))
  have z45 := bx.size
  clear hb4 hu2 hW3 c0 c1 c2 c3 c4 c5 c6 bx HX HB3
  go_wp2_with fail
  (with_reducible refine (HI2.out _ _ _ HB5.out hrow5).mono ?_); rintro e w6 ⟨vg, rfl, hg6, hb6⟩
  have loG : Hid (∀ k, vg.ownBlock = some k → w4.heap.size ≤ k) := fun k hk => Nat.le_trans z45 (hg6.lt k hk).1
  have hrow6 := own_below hrow5 hb6
  have hW6 := own_below hW5 hb6
  have HA6 := Lib.hid (HA5.out.trans (hb6.mono HA5.out.size))
  have hb66 := Lib.hid hb6
  clear hb6 hrow5 hW5 HSp2
  go_wp2_with fail
  (with_reducible refine (eqStringS hg6 hW6 (by omega)).mono ?_); rintro e w7 ⟨rfl, q1, rfl⟩
  have HA7 := Lib.hid (below_drewN HA6.out q1)
  have HB7 := Lib.hid (HB0.out.trans (HA7.out.mono HB0.out.size))
  have hb67 := Lib.hid (below_drewN hb66.out q1)
  have hrow7 := own_drew hrow6 q1
  have hW7 := own_drew hW6 q1
  have hg7 := own_drew hg6 q1
  generalize w6.drewN q1 = w7 at HA7 HB7 hb67 hrow7 hW7 hg7 ⊢
  clear hrow6 hW6 hg6 HA6 hb66 HB5
  obtain ⟨p0, p1, p2, p3, p4, p5, p6⟩ := HA.out _ HA7.out
  obtain ⟨q0, q1, q2, q3, q4, q5, q6⟩ := HX5.out _ hb67.out
  go_wp2
  go_region_held3 (fun w' => (w'.cell? ⟨w.heap.size, 0, none⟩ = some (.int .i64 kd) ∧ w'.cell? ⟨w.heap.size, 1, none⟩ = some (.string ⟨nm.toArray⟩) ∧ w'.cell? ⟨w.heap.size, 2, none⟩ = some (.int .i64 ps) ∧ w'.cell? ⟨w.heap.size, 3, none⟩ = some (.int .i64 fl) ∧ w'.cell? ⟨w.heap.size, 4, none⟩ = some (.string ⟨ty.toArray⟩) ∧ w'.cell? ⟨w.heap.size, 5, none⟩ = some (.string ⟨vl.toArray⟩) ∧ w'.cell? ⟨w.heap.size, 6, none⟩ = some (.slice a0 cs.length cap)) ∧ (w'.cell? ⟨w4.heap.size, 0, none⟩ = some (.int .i64 kd) ∧ w'.cell? ⟨w4.heap.size, 1, none⟩ = some (.string ⟨nm.toArray⟩) ∧ w'.cell? ⟨w4.heap.size, 2, none⟩ = some (.int .i64 ps) ∧ w'.cell? ⟨w4.heap.size, 3, none⟩ = some (.int .i64 fl) ∧ w'.cell? ⟨w4.heap.size, 4, none⟩ = some (.string ⟨ty.toArray⟩) ∧ w'.cell? ⟨w4.heap.size, 5, none⟩ = some (.string ⟨vl.toArray⟩) ∧ w'.cell? ⟨w4.heap.size, 6, none⟩ = some (.slice va cs.length vc))) (first | exact X9 | exact X8 | exact ⟨⟨p0, p1, p2, p3, p4, p5, p6⟩, q0, q1, q2, q3, q4, q5, q6⟩)
    (first | (go_at_call 10; (with_reducible refine (HTo2.out _ HB7.out.drew).mono ?_); rintro e w8 ⟨u3, rfl, hu3, hb8⟩; have HA8 := HA7.out.drew.trans (hb8.mono HA7.out.drew.size); have hd8 := hb67.out.drew.trans (hb8.mono hb67.out.drew.size); have X8 := And.intro (HA.out _ HA8) (HX5.out _ hd8); obtain ⟨wa, wc, rfl⟩ := row_sliceD hu3; have hrow8 := own_below (w := w7.drew) hrow7 hb8; have hW8 := own_below (w := w7.drew) hW7 hb8; have hg8 := own_below (w := w7.drew) hg7 hb8) | (go_at_call 12; (with_reducible refine (HEq2.out _ _ _ _ _ hrow8 hu3).mono ?_); rintro e w9 ⟨rfl, hb9⟩; have HA9 := HA8.trans (hb9.mono HA8.size); have hd9 := hd8.trans (hb9.mono hd8.size); have X9 := And.intro (HA.out _ HA9) (HX5.out _ hd9); have hrow9 := own_below hrow8 hb9; have hW9 := own_below hW8 hb9; have hg9 := own_below hg8 hb9))
  have z9 := HA9.size
  have m9 := hd9.size
  clear HA7 HB7 hb67 hrow7 hW7 hg7 p0 p1 p2 p3 p4 p5 p6 q0 q1 q2 q3 q4 q5 q6 hu3 hb8 hb9 X8 HA8 hd8 hrow8 hW8 hg8 HEq2
  -- the argument is marked
  obtain ⟨_, q0, q1, q2, q3, q4, q5, q6⟩ := X9
  have z03 := HA3.out.size
  have z04 := HA4.out.size
  clear HA1 HA2 HA3 HA4 HA5
  go_wp2_with fail
  (with_reducible refine (HMk2.out _ _ _ _ hrow9).mono ?_); rintro e w10 ⟨rfl, hgr⟩
  have HA10 := HA9.grown hgr z9 (fun k hk => Nat.le_trans z03 (loX.out k hk))
  have hg10 := apartD hg9 hgr (.inr ⟨hiX.out, loG.out⟩)
  have hW10 := apartD hW9 hgr (.inl ⟨hiW.out, loX.out⟩)
  have z10 := HA10.size
  have d14 : decide ((1 : Int) + 2 * (cs.length : Int) < 0) = false := decide_eq_false (by omega)
  clear hgr hg9 hW9 hrow9 HA9 hd9 z9 m9 q0 q1 q2 q3 q4 q5 q6 HMk2
  go_wp2_with fail
  (with_reducible refine (eqStringS hg10 hW10 (by omega)).mono ?_); rintro e w11 ⟨rfl, q1, rfl⟩
  have HA11 := below_drewN HA10 q1
  have hg11 := own_drew hg10 q1
  have hW11 := own_drew hW10 q1
  have z11 := HA11.size
  generalize w10.drewN q1 = w11 at HA11 hg11 hW11 z11 ⊢
  clear HA10 hg10 hW10 z10
  -- the answer is marked
  go_wp2_with fail
  (with_reducible refine (markOne hg11 (by omega)).mono ?_); rintro e w12 ⟨rfl, hm12, hgr⟩
  have HA12 := HA11.grown hgr z11 (fun k hk => Nat.le_trans z04 (loG.out k hk))
  have hW12 := apartD hW11 hgr (.inl ⟨hiW.out, fun k hk => Nat.le_trans z34 (loG.out k hk)⟩)
  have z12 := HA12.size
  clear HA11 hg11 hW11 z11 hgr
  go_wp2_with fail
  (with_reducible refine (heldOne hm12 (by omega)).mono ?_); rintro e w13 ⟨rfl, hb13⟩
  have HA13 := Lib.hid (HA12.trans (hb13.mono z12))
  have HB13 := Lib.hid (HB0.out.trans (HA13.out.mono HB0.out.size))
  have hm13 := own_below hm12 hb13
  have hW13 := own_below hW12 hb13
  have d17 : decide ((r.length : Int) + 1 < 0) = false := decide_eq_false (by omega)
  obtain ⟨p0, p1, p2, p3, p4, p5, p6⟩ := HA.out _ HA13.out
  clear HA12 hm12 hW12 z12 hb13
  -- the second answer
  go_wp2_with fail
  (with_reducible refine (HTo2.out _ HB13.out).mono ?_); rintro e w14 ⟨u4, rfl, hu4, hb14⟩
  have HB14 := Lib.hid (HB13.out.trans (hb14.mono HB13.out.size))
  have hm14 := own_below hm13 hb14
  have hW14 := own_below hW13 hb14
  obtain ⟨ya, yc, rfl⟩ := row_sliceD hu4
  clear hm13 hW13 hb14 p0 p1 p2 p3 p4 p5 p6
  go_wp2_with fail
  (with_reducible refine (HI2.out _ _ _ HB14.out hu4).mono ?_); rintro e w15 ⟨vh, rfl, hh, hb15⟩
  have HB15 := Lib.hid (HB14.out.trans (hb15.mono HB14.out.size))
  have hm15 := own_below hm14 hb15
  have hW15 := own_below hW14 hb15
  clear hm14 hW14 hb15 hu4
  go_wp2_with fail
  (with_reducible refine (eqStringS hh hW15 (by omega)).mono ?_); rintro e w16 ⟨rfl, q5, rfl⟩
  have HB16 := Lib.hid (below_drewN HB15.out q5)
  have hm16 := own_drew hm15 q5
  generalize w15.drewN q5 = w16 at HB16 hm16 ⊢
  clear hm15 hW15 hh
  go_wp2_with fail
  (with_reducible refine (heldOne hm16 (by omega)).mono ?_); rintro e w17 ⟨rfl, hb17⟩
  have HB17 := Lib.hid (HB16.out.trans (hb17.mono HB16.out.size))
  clear hm16 hb17
  go_wp2
  go_ret
  exact ⟨rfl, HB17.out⟩

set_option maxHeartbeats 16000000 in
theorem lawUsesOf {d : Dc} {u : Value} (w : World) (hu : CameC w u d.ctors) (hf : d.Fits)
    (hI : d.Small → ∀ (W : World) (b : Nat) (v : Value), Below w.heap.size w W → W.ownsRow b 49 2 v d.ctors.length (flatC d.ctors) → Calls Tryz.prog 22 #[d.val v] W (LRes' (usesOf d) W)) :
    Calls Tryz.prog 6 #[d.val u] w fun e w' => e = .returned (.bool true) ∧ Below w.heap.size w w' := by
  obtain ⟨a0, cap, _, _, hsl, _⟩ := id hu
  have HSZ : Hid (∀ W : World, Below w.heap.size w W → Calls Tryz.prog 8 #[d.val u, .int .i64 1048576] W fun e w' => Below W.heap.size W w' ∧ (e = .returned (.int .i64 (-1)) ∨ ∃ r : Nat, e = .returned (.int .i64 (r : Int)) ∧ r + d.size = 1048576)) := fun W hb => szDecl (hu.below hb) hf 1048576 (Nat.le_refl _)
  have HSm : Hid (d.size ≤ 1048576 → d.Small) := fun h => Dc.small h
  have HTo := Lib.hid fun (hn : d.ctors.length ≤ 1048576) (W : World) (hb : Below w.heap.size w W) => toDecl (hu.below hb) hn
  have HSp := Lib.hid fun (hs : d.Small) (W : World) (b : Nat) (v : Value) (h : W.ownsRow b 49 2 v d.ctors.length (flatC d.ctors)) => specUsesOf h hs
  have HEq := Lib.hid fun (hn : d.ctors.length ≤ 1048576) (W : World) (b1 b2 : Nat) (v1 v2 : Value) (h1 : W.ownsRow b1 49 2 v1 d.ctors.length (flatC d.ctors)) (h2 : W.ownsRow b2 49 2 v2 d.ctors.length (flatC d.ctors)) => eqDecl h1 h2 hn
  have HMk : Hid (∀ (hn : d.ctors.length ≤ 1048576) (W : World) (b : Nat) (v : Value) (xs : List Value) (h : W.ownsRow b 49 2 v d.ctors.length xs), Calls Tryz.prog 18 #[d.val v, .int .i64 1] W fun e w' => e = .returned (.int .i64 (1 + 2 * (d.ctors.length : Int))) ∧ W.grownBy w' v.ownBlock) := fun hn W b v xs h => markDecl (k := 1) h (by omega) (by decide) (by decide)
  have HLn : Hid (d.Small → (usesOf d).length ≤ 10000000) := lenUsesOf
  have HI := Lib.hid hI
  unfold DRes at HTo
  obtain ⟨r, hr⟩ : ∃ r, usesOf d = r := ⟨_, rfl⟩
  rw [hr] at HSp HI HLn
  clear hu hf hI hr
  obtain ⟨kd, nm, ps, fl, ty, vl, cs⟩ := d
  have hval : ∀ u, Dc.val ⟨kd, nm, ps, fl, ty, vl, cs⟩ u = .agg #[.int .i64 kd, .string ⟨nm.toArray⟩, .int .i64 ps, .int .i64 fl, .string ⟨ty.toArray⟩, .string ⟨vl.toArray⟩, u] := fun u => rfl
  simp only [hval] at HSZ HTo HSp HEq HI HMk ⊢
  simp only at hsl HSZ HTo HSp HEq HI HMk
  subst hsl
  have HB0 := Lib.hid (alloc_any w (.cells #[.int .i64 kd, .string ⟨nm.toArray⟩, .int .i64 ps, .int .i64 fl, .string ⟨ty.toArray⟩, .string ⟨vl.toArray⟩, .slice a0 cs.length cap] 24))
  have HA := Lib.hid (anyBox (w := w) (kd := kd) (ps := ps) (fl := fl) (nm := nm) (ty := ty) (vl := vl) (u := .slice a0 cs.length cap) (T := 24))
  have HX := Lib.hid fun w u => anyBox (w := w) (kd := kd) (ps := ps) (fl := fl) (nm := nm) (ty := ty) (vl := vl) (u := u) (T := 29)
  clear hval
  go_enter Tryz.func6, Tryz.ntmps6
  go_wp2_with fail
  (with_reducible refine (HSZ.out _ HB0.out).mono ?_); rintro e w1 ⟨hb1, (rfl | ⟨z, rfl, hz⟩)⟩
  · have HB1 := Lib.hid (HB0.out.trans (hb1.mono HB0.out.size))
    clear hb1
    go_wp2
    go_ret
    exact ⟨rfl, HB1.out⟩
  have hsm := HSm.out (by omega)
  have hn := hsm.ctors
  simp only at hn
  have hrl := HLn.out hsm
  have HI2 := Lib.hid (HI.out hsm)
  have HSp2 := Lib.hid (HSp.out hsm)
  have HTo2 := Lib.hid (HTo.out hn)
  have HEq2 := Lib.hid (HEq.out hn)
  have HMk2 := Lib.hid (HMk.out hn)
  have dz : decide ((z : Int) < 0) = false := decide_eq_false (by omega)
  have HB1 := Lib.hid (HB0.out.trans (hb1.mono HB0.out.size))
  have HA1 := Lib.hid hb1
  obtain ⟨c0, c1, c2, c3, c4, c5, c6⟩ := HA.out _ hb1
  clear hb1 hz hsm HI HSp HTo HEq HSZ HSm HMk HLn
  -- the model's answer
  go_wp2_with fail
  (with_reducible refine (HTo2.out _ HB1.out).mono ?_); rintro e w2 ⟨u1, rfl, hu1, hb2⟩
  have HA2 := Lib.hid (HA1.out.trans (hb2.mono HA1.out.size))
  obtain ⟨ua, uc, rfl⟩ := row_sliceD hu1
  clear hb2 c0 c1 c2 c3 c4 c5 c6
  go_wp2_with fail
  (with_reducible refine (HSp2.out _ _ _ hu1).mono ?_); rintro e w3 ⟨vW, rfl, hW3, hb3⟩
  have HA3 := Lib.hid (HA2.out.trans (hb3.mono HA2.out.size))
  have HB3 := Lib.hid (HB0.out.trans (HA3.out.mono HB0.out.size))
  obtain ⟨c0, c1, c2, c3, c4, c5, c6⟩ := HA.out _ HA3.out
  have hiW : Hid (∀ k, vW.ownBlock = some k → k < w3.heap.size) := fun k hk => (hW3.lt k hk).2
  clear hb3 hu1 HB1
  -- the program's argument and answer
  go_wp2_with fail
  (with_reducible refine (HTo2.out _ HB3.out).mono ?_); rintro e w4 ⟨u2, rfl, hu2, hb4⟩
  have HA4 := Lib.hid (HA3.out.trans (hb4.mono HA3.out.size))
  have loX : Hid (∀ k, u2.ownBlock = some k → w3.heap.size ≤ k) := fun k hk => (hu2.lt k hk).1
  have hiX : Hid (∀ k, u2.ownBlock = some k → k < w4.heap.size) := fun k hk => (hu2.lt k hk).2
  have z34 := hb4.size
  obtain ⟨va, vc, rfl⟩ := row_sliceD hu2
  have bx := alloc_any w4 (.cells #[.int .i64 kd, .string ⟨nm.toArray⟩, .int .i64 ps, .int .i64 fl, .string ⟨ty.toArray⟩, .string ⟨vl.toArray⟩, .slice va cs.length vc] 29)
  have hrow5 := own_below hu2 bx
  have hW5 := own_below (own_below hW3 hb4) bx
  have HA5 := Lib.hid (HA4.out.trans (bx.mono HA4.out.size))
  have HB5 := Lib.hid (HB0.out.trans (HA5.out.mono HB0.out.size))
  have HX5 := Lib.hid (HX.out w4 (.slice va cs.length vc))
  have z45 := bx.size
  clear hb4 hu2 hW3 c0 c1 c2 c3 c4 c5 c6 bx HX HB3
  go_wp2_with fail
  (with_reducible refine (HI2.out _ _ _ HB5.out hrow5).mono ?_); rintro e w6 ⟨vg, rfl, hg6, hb6⟩
  have loG : Hid (∀ k, vg.ownBlock = some k → w4.heap.size ≤ k) := fun k hk => Nat.le_trans z45 (hg6.lt k hk).1
  have hrow6 := own_below hrow5 hb6
  have hW6 := own_below hW5 hb6
  have HA6 := Lib.hid (HA5.out.trans (hb6.mono HA5.out.size))
  have hb66 := Lib.hid hb6
  clear hb6 hrow5 hW5 HSp2
  go_wp2_with fail
  (with_reducible refine (eqStringS hg6 hW6 (by omega)).mono ?_); rintro e w7 ⟨rfl, q1, rfl⟩
  have HA7 := Lib.hid (below_drewN HA6.out q1)
  have HB7 := Lib.hid (HB0.out.trans (HA7.out.mono HB0.out.size))
  have hb67 := Lib.hid (below_drewN hb66.out q1)
  have hrow7 := own_drew hrow6 q1
  have hW7 := own_drew hW6 q1
  have hg7 := own_drew hg6 q1
  generalize w6.drewN q1 = w7 at HA7 HB7 hb67 hrow7 hW7 hg7 ⊢
  clear hrow6 hW6 hg6 HA6 hb66 HB5
  obtain ⟨p0, p1, p2, p3, p4, p5, p6⟩ := HA.out _ HA7.out
  obtain ⟨q0, q1, q2, q3, q4, q5, q6⟩ := HX5.out _ hb67.out
  go_wp2
  go_region_held3 (fun w' => (w'.cell? ⟨w.heap.size, 0, none⟩ = some (.int .i64 kd) ∧ w'.cell? ⟨w.heap.size, 1, none⟩ = some (.string ⟨nm.toArray⟩) ∧ w'.cell? ⟨w.heap.size, 2, none⟩ = some (.int .i64 ps) ∧ w'.cell? ⟨w.heap.size, 3, none⟩ = some (.int .i64 fl) ∧ w'.cell? ⟨w.heap.size, 4, none⟩ = some (.string ⟨ty.toArray⟩) ∧ w'.cell? ⟨w.heap.size, 5, none⟩ = some (.string ⟨vl.toArray⟩) ∧ w'.cell? ⟨w.heap.size, 6, none⟩ = some (.slice a0 cs.length cap)) ∧ (w'.cell? ⟨w4.heap.size, 0, none⟩ = some (.int .i64 kd) ∧ w'.cell? ⟨w4.heap.size, 1, none⟩ = some (.string ⟨nm.toArray⟩) ∧ w'.cell? ⟨w4.heap.size, 2, none⟩ = some (.int .i64 ps) ∧ w'.cell? ⟨w4.heap.size, 3, none⟩ = some (.int .i64 fl) ∧ w'.cell? ⟨w4.heap.size, 4, none⟩ = some (.string ⟨ty.toArray⟩) ∧ w'.cell? ⟨w4.heap.size, 5, none⟩ = some (.string ⟨vl.toArray⟩) ∧ w'.cell? ⟨w4.heap.size, 6, none⟩ = some (.slice va cs.length vc))) (first | exact X9 | exact X8 | exact ⟨⟨p0, p1, p2, p3, p4, p5, p6⟩, q0, q1, q2, q3, q4, q5, q6⟩)
    (first | (go_at_call 10; (with_reducible refine (HTo2.out _ HB7.out.drew).mono ?_); rintro e w8 ⟨u3, rfl, hu3, hb8⟩; have HA8 := HA7.out.drew.trans (hb8.mono HA7.out.drew.size); have hd8 := hb67.out.drew.trans (hb8.mono hb67.out.drew.size); have X8 := And.intro (HA.out _ HA8) (HX5.out _ hd8); obtain ⟨wa, wc, rfl⟩ := row_sliceD hu3; have hrow8 := own_below (w := w7.drew) hrow7 hb8; have hW8 := own_below (w := w7.drew) hW7 hb8; have hg8 := own_below (w := w7.drew) hg7 hb8) | (go_at_call 12; (with_reducible refine (HEq2.out _ _ _ _ _ hrow8 hu3).mono ?_); rintro e w9 ⟨rfl, hb9⟩; have HA9 := HA8.trans (hb9.mono HA8.size); have hd9 := hd8.trans (hb9.mono hd8.size); have X9 := And.intro (HA.out _ HA9) (HX5.out _ hd9); have hrow9 := own_below hrow8 hb9; have hW9 := own_below hW8 hb9; have hg9 := own_below hg8 hb9))
  have z9 := HA9.size
  have m9 := hd9.size
  clear HA7 HB7 hb67 hrow7 hW7 hg7 p0 p1 p2 p3 p4 p5 p6 q0 q1 q2 q3 q4 q5 q6 hu3 hb8 hb9 X8 HA8 hd8 hrow8 hW8 hg8 HEq2
  -- the argument is marked
  obtain ⟨_, q0, q1, q2, q3, q4, q5, q6⟩ := X9
  have z03 := HA3.out.size
  have z04 := HA4.out.size
  clear HA1 HA2 HA3 HA4 HA5
  go_wp2_with fail
  (with_reducible refine (HMk2.out _ _ _ _ hrow9).mono ?_); rintro e w10 ⟨rfl, hgr⟩
  have HA10 := HA9.grown hgr z9 (fun k hk => Nat.le_trans z03 (loX.out k hk))
  have hg10 := apartD hg9 hgr (.inr ⟨hiX.out, loG.out⟩)
  have hW10 := apartD hW9 hgr (.inl ⟨hiW.out, loX.out⟩)
  have z10 := HA10.size
  have d14 : decide ((1 : Int) + 2 * (cs.length : Int) < 0) = false := decide_eq_false (by omega)
  clear hgr hg9 hW9 hrow9 HA9 hd9 z9 m9 q0 q1 q2 q3 q4 q5 q6 HMk2
  go_wp2_with fail
  (with_reducible refine (eqStringS hg10 hW10 (by omega)).mono ?_); rintro e w11 ⟨rfl, q1, rfl⟩
  have HA11 := below_drewN HA10 q1
  have hg11 := own_drew hg10 q1
  have hW11 := own_drew hW10 q1
  have z11 := HA11.size
  generalize w10.drewN q1 = w11 at HA11 hg11 hW11 z11 ⊢
  clear HA10 hg10 hW10 z10
  -- the answer is marked
  go_wp2_with fail
  (with_reducible refine (markOne hg11 (by omega)).mono ?_); rintro e w12 ⟨rfl, hm12, hgr⟩
  have HA12 := HA11.grown hgr z11 (fun k hk => Nat.le_trans z04 (loG.out k hk))
  have hW12 := apartD hW11 hgr (.inl ⟨hiW.out, fun k hk => Nat.le_trans z34 (loG.out k hk)⟩)
  have z12 := HA12.size
  clear HA11 hg11 hW11 z11 hgr
  go_wp2_with fail
  (with_reducible refine (heldOne hm12 (by omega)).mono ?_); rintro e w13 ⟨rfl, hb13⟩
  have HA13 := Lib.hid (HA12.trans (hb13.mono z12))
  have HB13 := Lib.hid (HB0.out.trans (HA13.out.mono HB0.out.size))
  have hm13 := own_below hm12 hb13
  have hW13 := own_below hW12 hb13
  have d17 : decide ((r.length : Int) + 1 < 0) = false := decide_eq_false (by omega)
  obtain ⟨p0, p1, p2, p3, p4, p5, p6⟩ := HA.out _ HA13.out
  clear HA12 hm12 hW12 z12 hb13
  -- the second answer
  go_wp2_with fail
  (with_reducible refine (HTo2.out _ HB13.out).mono ?_); rintro e w14 ⟨u4, rfl, hu4, hb14⟩
  have HB14 := Lib.hid (HB13.out.trans (hb14.mono HB13.out.size))
  have hm14 := own_below hm13 hb14
  have hW14 := own_below hW13 hb14
  obtain ⟨ya, yc, rfl⟩ := row_sliceD hu4
  clear hm13 hW13 hb14 p0 p1 p2 p3 p4 p5 p6
  go_wp2_with fail
  (with_reducible refine (HI2.out _ _ _ HB14.out hu4).mono ?_); rintro e w15 ⟨vh, rfl, hh, hb15⟩
  have HB15 := Lib.hid (HB14.out.trans (hb15.mono HB14.out.size))
  have hm15 := own_below hm14 hb15
  have hW15 := own_below hW14 hb15
  clear hm14 hW14 hb15 hu4
  go_wp2_with fail
  (with_reducible refine (eqStringS hh hW15 (by omega)).mono ?_); rintro e w16 ⟨rfl, q5, rfl⟩
  have HB16 := Lib.hid (below_drewN HB15.out q5)
  have hm16 := own_drew hm15 q5
  generalize w15.drewN q5 = w16 at HB16 hm16 ⊢
  clear hm15 hW15 hh
  go_wp2_with fail
  (with_reducible refine (heldOne hm16 (by omega)).mono ?_); rintro e w17 ⟨rfl, hb17⟩
  have HB17 := Lib.hid (HB16.out.trans (hb17.mono HB16.out.size))
  clear hm16 hb17
  go_wp2
  go_ret
  exact ⟨rfl, HB17.out⟩
end Go.Proofs.YtimekfhchammnaaGreatDoor
