/-
  The nodes of a term: where the parts of an application and of a function type are, and the names of the constants (plain lemmas).
-/
import Derived.Test.YtgielbamebjjdaaDoorEMath
import Derived.Test.YtgielbamebjjdaaDoorFPost
import Derived.Test.YtgielbamebjjdaaDoorTNode
namespace Go.Proofs.YtgielbamebjjdaaDoor
set_option maxRecDepth 100000
open Go.ChangeShapes Go.WideShapes Go.ChangeAt Go.RowKit
set_option linter.unusedSimpArgs false

theorem Rep.kindAt {W : World} {B : Nat} {ns : List Nd} {k : Nat} {t : Tm} (h : Rep W B ns k t) : ∃ nd, ns[k]? = some nd ∧ nd.kind = t.kind := by
  cases t with
  | var n => obtain ⟨nd, h, h2⟩ := h; exact ⟨nd, h, h2.1⟩
  | sort n => obtain ⟨nd, h, h2⟩ := h; exact ⟨nd, h, h2.1⟩
  | const n ls => obtain ⟨nd, h, h2⟩ := h; exact ⟨nd, h, h2.1⟩
  | app f a => obtain ⟨nd, h, h2⟩ := h; exact ⟨nd, h, h2.1⟩
  | lam f a => obtain ⟨nd, h, h2⟩ := h; exact ⟨nd, h, h2.1⟩
  | pi f a => obtain ⟨nd, h, h2⟩ := h; exact ⟨nd, h, h2.1⟩
  | lett f a b => obtain ⟨nd, h, h2⟩ := h; exact ⟨nd, h, h2.1⟩
theorem RepP.appAt {W : World} {B : Nat} {ns : List Nd} {k : Nat} {f a : Tm} (h : RepP W B ns k (.app f a)) : ∃ nd, ns[k]? = some nd ∧ nd.kind = 64 ∧ nd.a < k ∧ nd.b < k ∧ RepP W B ns nd.a f ∧ RepP W B ns nd.b a := by
  obtain ⟨⟨nd, h1, h2, h3, h4⟩, ⟨nd2, g1, g0, g2, g3, g4, g5⟩⟩ := h
  obtain rfl : nd = nd2 := Option.some.inj (h1.symm.trans g1)
  exact ⟨nd, h1, h2, by omega, by omega, ⟨h3, g4⟩, ⟨h4, g5⟩⟩
theorem RepP.piAt {W : World} {B : Nat} {ns : List Nd} {k : Nat} {f a : Tm} (h : RepP W B ns k (.pi f a)) : ∃ nd, ns[k]? = some nd ∧ nd.kind = 112 ∧ nd.a < k ∧ nd.b < k ∧ RepP W B ns nd.a f ∧ RepP W B ns nd.b a := by
  obtain ⟨⟨nd, h1, h2, h3, h4⟩, ⟨nd2, g1, g0, g2, g3, g4, g5⟩⟩ := h
  obtain rfl : nd = nd2 := Option.some.inj (h1.symm.trans g1)
  exact ⟨nd, h1, h2, by omega, by omega, ⟨h3, g4⟩, ⟨h4, g5⟩⟩
theorem kind_app {u : Tm} (h : u.kind = 64) : ∃ f a, u = .app f a := by
  cases u with
  | app f a => exact ⟨f, a, rfl⟩
  | _ => simp [Tm.kind] at h
theorem kind_pi {u : Tm} (h : u.kind = 112) : ∃ f a, u = .pi f a := by
  cases u with
  | pi f a => exact ⟨f, a, rfl⟩
  | _ => simp [Tm.kind] at h
theorem not_app {u : Tm} (h : u.kind ≠ 64) : u.head = u ∧ u.args = [] := by
  cases u with
  | app f a => exact absurd rfl h
  | _ => exact ⟨rfl, rfl⟩
theorem not_pi {u : Tm} (h : u.kind ≠ 112) : u.targ = u ∧ u.doms = [] := by
  cases u with
  | pi f a => exact absurd rfl h
  | _ => exact ⟨rfl, rfl⟩

/-- The name at a node, if it is a constant's. -/
def nameAt (ns : List Nd) (i : Nat) : List (List UInt8) := match ns[i]? with
  | some nd => if nd.kind = 99 then [nd.text] else []
  | none => []
theorem nameAt_some {ns : List Nd} {i : Nat} {nd : Nd} (h : ns[i]? = some nd) : nameAt ns i = if nd.kind = 99 then [nd.text] else [] := by
  rw [nameAt, h]
theorem names_at {W : World} {B : Nat} {ns : List Nd} : ∀ (T : Tm) (k : Nat), RepP W B ns k T → (List.range' (k + 1 - T.size) T.size).flatMap (nameAt ns) = T.cnames
  | .var n, k, h => by
    obtain ⟨nd, h1, h2⟩ := h.1
    have hk : nd.kind = 118 := h2.1
    rw [show k + 1 - (Tm.var n).size = k from rfl]
    show [k].flatMap _ = _
    rw [List.flatMap_cons, nameAt_some h1, hk]
    rfl
  | .sort l, k, h => by
    obtain ⟨nd, h1, h2⟩ := h.1
    have hk : nd.kind = 115 := h2.1
    rw [show k + 1 - (Tm.sort l).size = k from rfl]
    show [k].flatMap _ = _
    rw [List.flatMap_cons, nameAt_some h1, hk]
    rfl
  | .const n ls, k, h => by
    obtain ⟨nd, h1, h2⟩ := h.1
    have hk : nd.kind = 99 := h2.1
    have ht : nd.text = n := h2.2.1
    rw [show k + 1 - (Tm.const n ls).size = k from rfl]
    show [k].flatMap _ = _
    rw [List.flatMap_cons, nameAt_some h1, hk, ht]
    rfl
  | .app f a, k, h => by
    have hz := h.at.1
    obtain ⟨⟨nd, h1, h2, h3, h4⟩, ⟨nd2, g1, g0, g2, g3, g4, g5⟩⟩ := h
    obtain rfl : nd = nd2 := Option.some.inj (h1.symm.trans g1)
    have i1 := names_at f nd.a ⟨h3, g4⟩
    have i2 := names_at a nd.b ⟨h4, g5⟩
    have z1 := (RepP.at f nd.a ⟨h3, g4⟩).1
    have z2 := (RepP.at a nd.b ⟨h4, g5⟩).1
    have y1 := f.size_pos
    simp only [Tm.size] at hz ⊢
    rw [show f.size + a.size + 1 = (f.size + a.size) + 1 from rfl, ← List.range'_append_1, ← List.range'_append_1, List.flatMap_append, List.flatMap_append]
    rw [show k + 1 - (f.size + a.size + 1) = nd.a + 1 - f.size by omega, i1, show nd.a + 1 - f.size + f.size = nd.b + 1 - a.size by omega, i2]
    rw [show nd.a + 1 - f.size + (f.size + a.size) = k by omega]
    show _ ++ _ ++ [k].flatMap _ = _
    rw [List.flatMap_cons, nameAt_some h1, h2]
    simp [Tm.cnames]
  | .lam f a, k, h => by
    have hz := h.at.1
    obtain ⟨⟨nd, h1, h2, h3, h4⟩, ⟨nd2, g1, g0, g2, g3, g4, g5⟩⟩ := h
    obtain rfl : nd = nd2 := Option.some.inj (h1.symm.trans g1)
    have i1 := names_at f nd.a ⟨h3, g4⟩
    have i2 := names_at a nd.b ⟨h4, g5⟩
    have z1 := (RepP.at f nd.a ⟨h3, g4⟩).1
    have z2 := (RepP.at a nd.b ⟨h4, g5⟩).1
    have y1 := f.size_pos
    simp only [Tm.size] at hz ⊢
    rw [show f.size + a.size + 1 = (f.size + a.size) + 1 from rfl, ← List.range'_append_1, ← List.range'_append_1, List.flatMap_append, List.flatMap_append]
    rw [show k + 1 - (f.size + a.size + 1) = nd.a + 1 - f.size by omega, i1, show nd.a + 1 - f.size + f.size = nd.b + 1 - a.size by omega, i2]
    rw [show nd.a + 1 - f.size + (f.size + a.size) = k by omega]
    show _ ++ _ ++ [k].flatMap _ = _
    rw [List.flatMap_cons, nameAt_some h1, h2]
    simp [Tm.cnames]
  | .pi f a, k, h => by
    have hz := h.at.1
    obtain ⟨⟨nd, h1, h2, h3, h4⟩, ⟨nd2, g1, g0, g2, g3, g4, g5⟩⟩ := h
    obtain rfl : nd = nd2 := Option.some.inj (h1.symm.trans g1)
    have i1 := names_at f nd.a ⟨h3, g4⟩
    have i2 := names_at a nd.b ⟨h4, g5⟩
    have z1 := (RepP.at f nd.a ⟨h3, g4⟩).1
    have z2 := (RepP.at a nd.b ⟨h4, g5⟩).1
    have y1 := f.size_pos
    simp only [Tm.size] at hz ⊢
    rw [show f.size + a.size + 1 = (f.size + a.size) + 1 from rfl, ← List.range'_append_1, ← List.range'_append_1, List.flatMap_append, List.flatMap_append]
    rw [show k + 1 - (f.size + a.size + 1) = nd.a + 1 - f.size by omega, i1, show nd.a + 1 - f.size + f.size = nd.b + 1 - a.size by omega, i2]
    rw [show nd.a + 1 - f.size + (f.size + a.size) = k by omega]
    show _ ++ _ ++ [k].flatMap _ = _
    rw [List.flatMap_cons, nameAt_some h1, h2]
    simp [Tm.cnames]
  | .lett f a b, k, h => by
    have hz := h.at.1
    obtain ⟨⟨nd, h1, h2, h3, h4, h5⟩, ⟨nd2, g1, g0, g2, g3, g4, g5, g6, g7⟩⟩ := h
    obtain rfl : nd = nd2 := Option.some.inj (h1.symm.trans g1)
    have i1 := names_at f nd.a ⟨h3, g5⟩
    have i2 := names_at a nd.b ⟨h4, g6⟩
    have i3 := names_at b nd.c ⟨h5, g7⟩
    have z1 := (RepP.at f nd.a ⟨h3, g5⟩).1
    have z2 := (RepP.at a nd.b ⟨h4, g6⟩).1
    have z3 := (RepP.at b nd.c ⟨h5, g7⟩).1
    have y1 := f.size_pos
    simp only [Tm.size] at hz ⊢
    rw [show f.size + a.size + b.size + 1 = ((f.size + a.size) + b.size) + 1 from rfl, ← List.range'_append_1, ← List.range'_append_1, ← List.range'_append_1, List.flatMap_append, List.flatMap_append, List.flatMap_append]
    rw [show k + 1 - (f.size + a.size + b.size + 1) = nd.a + 1 - f.size by omega, i1, show nd.a + 1 - f.size + f.size = nd.b + 1 - a.size by omega, i2, show nd.a + 1 - f.size + (f.size + a.size) = nd.c + 1 - b.size by omega, i3]
    rw [show nd.a + 1 - f.size + (f.size + a.size + b.size) = k by omega]
    show _ ++ _ ++ _ ++ [k].flatMap _ = _
    rw [List.flatMap_cons, nameAt_some h1, h2]
    simp [Tm.cnames]
/-- The names of a whole term, node by node. -/
theorem names_all {W : World} {B : Nat} {ns : List Nd} {T : Tm} (h : RepP W B ns (ns.length - 1) T) (hn : ns.length = T.size) : (List.range ns.length).flatMap (nameAt ns) = T.cnames := by
  have hz := T.size_pos
  have h1 := names_at T _ h
  rw [show ns.length - 1 + 1 - T.size = 0 by omega, ← hn] at h1
  rw [List.range_eq_range']
  exact h1
theorem names_succ (ns : List Nd) (k : Nat) : (List.range (k + 1)).flatMap (nameAt ns) = (List.range k).flatMap (nameAt ns) ++ nameAt ns k := by
  rw [List.range_succ, List.flatMap_append, List.flatMap_singleton]
theorem names_len (ns : List Nd) : ∀ k, ((List.range k).flatMap (nameAt ns)).length ≤ k
  | 0 => by simp
  | k + 1 => by
    have h1 := names_len ns k
    have h2 : (nameAt ns k).length ≤ 1 := by
      unfold nameAt
      split
      · split <;> simp
      · simp
    rw [names_succ, List.length_append]
    omega
end Go.Proofs.YtgielbamebjjdaaDoor
