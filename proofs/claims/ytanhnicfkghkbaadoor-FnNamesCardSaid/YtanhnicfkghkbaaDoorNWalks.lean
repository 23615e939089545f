/-
  Contracts of spec.l02Part, spec.l02Cut, spec.NameOk and impl.NameOk: whether a string is a name.
-/
import Derived.Test.YtanhnicfkghkbaaDoorNMath
import Derived.Laws.RangeAny
namespace Go.Proofs.YtanhnicfkghkbaaDoor
set_option maxRecDepth 100000
open Go.ChangeShapes Go.WideShapes Go.ChangeAt Go.RowKit

theorem partOk_nil {l : List UInt8} (h : l.length = 0) : partOk l = false := by
  rw [List.length_eq_zero_iff] at h; subst h; rfl
theorem partOk_head {l : List UInt8} (h : 0 < l.length) (hb : azB l[0] = false) : partOk l = false := by
  cases l with
  | nil => simp at h
  | cons c r => simp only [List.getElem_cons_zero] at hb; simp [partOk, hb]
theorem partOk_at {l : List UInt8} {k : Nat} (h : k < l.length) (hb : alB l[k] = false) : partOk l = false := by
  have h2 : l.all alB = false := by
    rw [Bool.eq_false_iff]
    intro h3
    have := List.all_eq_true.1 h3 l[k] (List.getElem_mem h)
    rw [hb] at this
    cases this
  cases l with
  | nil => simp at h
  | cons c r => simp only [partOk, h2, Bool.and_false]
theorem partOk_done {l : List UInt8} (h : 0 < l.length) (hz : azB l[0] = true) (ha : (l.take l.length).all alB = true) : partOk l = true := by
  rw [List.take_length] at ha
  cases l with
  | nil => simp at h
  | cons c r => simp only [List.getElem_cons_zero] at hz; simp only [partOk, hz, ha, Bool.and_self]
theorem all_succ {f : UInt8 → Bool} {l : List UInt8} {k : Nat} (h : k < l.length) (h0 : (l.take k).all f = true) (hb : f l[k] = true) : (l.take (k + 1)).all f = true := by
  rw [List.take_succ_eq_append_getElem h, List.all_append, h0]
  simp [hb]
theorem azB_iff (c : UInt8) : azB c = true ↔ 97 ≤ c.toNat ∧ c.toNat ≤ 122 := by simp [azB]
theorem azB_no (c : UInt8) : azB c = false ↔ ¬ (97 ≤ c.toNat ∧ c.toNat ≤ 122) := by rw [← azB_iff]; simp
theorem dgB_iff (c : UInt8) : dgB c = true ↔ 48 ≤ c.toNat ∧ c.toNat ≤ 57 := by simp [dgB]
theorem dgB_no (c : UInt8) : dgB c = false ↔ ¬ (48 ≤ c.toNat ∧ c.toNat ≤ 57) := by rw [← dgB_iff]; simp
theorem alB_iff (c : UInt8) : alB c = true ↔ (97 ≤ c.toNat ∧ c.toNat ≤ 122) ∨ (48 ≤ c.toNat ∧ c.toNat ≤ 57) := by simp [alB, azB, dgB]
theorem alB_no (c : UInt8) : alB c = false ↔ ¬ ((97 ≤ c.toNat ∧ c.toNat ≤ 122) ∨ (48 ≤ c.toNat ∧ c.toNat ≤ 57)) := by rw [← alB_iff]; simp

/-- The state of the model's loop that cuts a text: byte k comes next, the part begins at b, `out` has been collected. -/
def CRel (y : UInt8) (l : List UInt8) (k b : Nat) (out : List (List UInt8)) : Prop :=
  (k ≤ l.length ∧ b ≤ k ∧ out.length ≤ k ∧ cutF y [] l = out ++ cutF y ((l.drop b).take (k - b)) (l.drop k)) ∨ (k = l.length + 1 ∧ out.length ≤ k ∧ cutF y [] l = out)
theorem CRel.start (y : UInt8) (l : List UInt8) : CRel y l 0 0 [] := .inl ⟨Nat.zero_le _, Nat.le_refl _, Nat.le_refl _, by simp⟩
theorem CRel.len {y : UInt8} {l : List UInt8} {k b : Nat} {out : List (List UInt8)} (h : CRel y l k b out) : out.length ≤ k := by rcases h with h | h <;> omega
theorem CRel.plain {y : UInt8} {l : List UInt8} {k b : Nat} {out : List (List UInt8)} (h : CRel y l k b out) (hk : k < l.length) (hc : l[k] ≠ y) : CRel y l (k + 1) b out := by
  rcases h with ⟨h1, h2, h3, h4⟩ | ⟨h1, _⟩
  · refine .inl ⟨hk, by omega, by omega, ?_⟩
    rw [h4, List.drop_eq_getElem_cons hk, cutF, if_neg hc]
    have : k + 1 - b = (k - b) + 1 := by omega
    rw [this, List.take_succ_eq_append_getElem (by simp; omega)]
    simp [List.getElem_drop, show b + (k - b) = k by omega]
  · omega
theorem CRel.cut {y : UInt8} {l : List UInt8} {k b : Nat} {out : List (List UInt8)} (h : CRel y l k b out) (hk : k < l.length) (hc : l[k] = y) : CRel y l (k + 1) (k + 1) (out ++ [(l.drop b).take (k - b)]) := by
  rcases h with ⟨h1, h2, h3, h4⟩ | ⟨h1, _⟩
  · refine .inl ⟨hk, by omega, by simp; omega, ?_⟩
    rw [h4, List.drop_eq_getElem_cons hk, cutF, if_pos hc]
    simp
  · omega
theorem CRel.last {y : UInt8} {l : List UInt8} {b : Nat} {out : List (List UInt8)} (h : CRel y l l.length b out) : CRel y l (l.length + 1) (l.length + 1) (out ++ [(l.drop b).take (l.length - b)]) := by
  rcases h with ⟨h1, h2, h3, h4⟩ | ⟨h1, _⟩
  · refine .inr ⟨rfl, by simp; omega, ?_⟩
    rw [h4, List.drop_length, cutF]
  · omega
theorem CRel.done {y : UInt8} {l : List UInt8} {b : Nat} {out : List (List UInt8)} (h : CRel y l (l.length + 1) b out) : cutF y [] l = out := by
  rcases h with ⟨h1, _⟩ | ⟨_, _, h3⟩
  · omega
  · exact h3
/-- A list of strings is returned in new memory. -/
def LRes (r : List (List UInt8)) (w : World) (e : Ending) (w' : World) : Prop :=
  ∃ v, e = .returned v ∧ w'.ownsRow w.heap.size 9 1 v r.length (r.map sv) ∧ Below w.heap.size w w'
theorem infoStr : (Tryd.prog.info? 9).map (fun i => (i.zero, i.size, i.bytes)) = some (some (.string ⟨#[]⟩), 1, 16) := by kernel_rfl

end Go.Proofs.YtanhnicfkghkbaaDoor
