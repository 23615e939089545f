/-
  The cells of a node of a row.
-/
import Derived.Test.YtgielbamebjjdaaDoorTAll
namespace Go.Proofs.YtgielbamebjjdaaDoor
set_option maxRecDepth 100000
open Go.ChangeShapes Go.WideShapes Go.ChangeAt Go.RowKit
set_option linter.unusedSimpArgs false

theorem flatN_get : ∀ (ns : List Nd) (k : Nat) (nd : Nd) (i : Nat), ns[k]? = some nd → i < 7 → (flatN ns)[k * 7 + i]? = nd.cells[i]?
  | [], k, nd, i, h, _ => by simp at h
  | n :: ns, 0, nd, i, h, hi => by
    simp at h
    subst h
    rw [Nat.zero_mul, Nat.zero_add, flatN, List.flatMap_cons, List.getElem?_append_left (by rw [cells_len]; exact hi)]
  | n :: ns, k + 1, nd, i, h, hi => by
    have := flatN_get ns k nd i (by simpa using h) hi
    rw [← this]
    unfold flatN
    rw [List.flatMap_cons, List.getElem?_append_right (by rw [cells_len]; omega), cells_len]
    congr 1
    omega
/-- The cells of a node of a row. -/
theorem node_at {W : World} {b g cap : Nat} {ns : List Nd} (h : W.ownsRow b 34 7 (.slice (some ⟨g, 0, none⟩) ns.length cap) ns.length (flatN ns)) {k : Nat} {nd : Nd} (hk : ns[k]? = some nd) (i : Nat) (hi : i < 7) :
    W.cell? ⟨g, k * 7 + i, none⟩ = nd.cells[i]? := by
  have h1 := flatN_get ns k nd i hk hi
  have hc : i < nd.cells.length := by rw [cells_len]; exact hi
  rw [List.getElem?_eq_getElem hc] at h1 ⊢
  have := h.cells (g := g) rfl (k * 7 + i) _ h1
  rw [add_plain, Nat.zero_add] at this
  exact this
theorem Rep.lt {W : World} {B : Nat} {ns : List Nd} {k : Nat} {t : Tm} (h : Rep W B ns k t) : ∃ nd, ns[k]? = some nd ∧ k < ns.length := by
  have hx : ∃ nd, ns[k]? = some nd := by
    cases t with
    | var n => obtain ⟨nd, h, _⟩ := h; exact ⟨nd, h⟩
    | sort n => obtain ⟨nd, h, _⟩ := h; exact ⟨nd, h⟩
    | const n ls => obtain ⟨nd, h, _⟩ := h; exact ⟨nd, h⟩
    | app f a => obtain ⟨nd, h, _⟩ := h; exact ⟨nd, h⟩
    | lam f a => obtain ⟨nd, h, _⟩ := h; exact ⟨nd, h⟩
    | pi f a => obtain ⟨nd, h, _⟩ := h; exact ⟨nd, h⟩
    | lett f a b => obtain ⟨nd, h, _⟩ := h; exact ⟨nd, h⟩
  obtain ⟨nd, hn⟩ := hx
  refine ⟨nd, hn, ?_⟩
  by_cases hl : k < ns.length
  · exact hl
  · rw [List.getElem?_eq_none (by omega)] at hn; cases hn

end Go.Proofs.YtgielbamebjjdaaDoor
