/-
  The contract of spec.l02Sorted: the strings of a list, rising, each once.
-/
import Derived.Test.YtanhnicfkghkbaaDoorSMath
import Derived.Test.YtanhnicfkghkbaaDoorHeldW
import Derived.Test.YtanhnicfkghkbaaDoorNWalks2
import Derived.Laws.AppendOwnNone
import Derived.Sort.Walk0
import Derived.Laws.Cover1
import Derived.Laws.ResultCell
namespace Go.Proofs.YtanhnicfkghkbaaDoor
set_option maxRecDepth 100000
open Go.ChangeShapes Go.WideShapes Go.ChangeAt Go.RowKit
set_option linter.unusedSimpArgs false

/-- A slice, not nil, over strings. -/
def View (w : World) (v : Value) (l : List BL) : Prop :=
  ∃ b off cap : Nat, v = .slice (some ⟨b, off, none⟩) l.length cap ∧ l.length ≤ cap ∧ cap ≤ maxLen ∧ b < w.heap.size ∧ ∀ j (h : j < l.length), w.cell? ⟨b, off + j, none⟩ = some (sv l[j])
theorem View.below {w w' : World} {v : Value} {l : List BL} (h : View w v l) (hb : Below w.heap.size w w') : View w' v l := by
  obtain ⟨b, off, cap, h1, h2, h3, h4, h5⟩ := h
  refine ⟨b, off, cap, h1, h2, h3, Nat.lt_of_lt_of_le h4 hb.size, fun j hj => ?_⟩
  rw [hb.cell (p := ⟨b, off + j, none⟩) h4]
  exact h5 j hj
theorem View.take {w : World} {b off cap : Nat} {l : List BL} (h : View w (.slice (some ⟨b, off, none⟩) l.length cap) l) (k : Nat) (hk : k ≤ l.length) : View w (.slice (some ⟨b, off, none⟩) k cap) (l.take k) := by
  obtain ⟨b', off', cap', h1, h2, h3, h4, h5⟩ := h
  simp only [Value.slice.injEq, Option.some.injEq, Addr.mk.injEq, and_true, true_and] at h1
  obtain ⟨⟨rfl, rfl⟩, rfl⟩ := h1
  have e : (l.take k).length = k := by simp; omega
  refine ⟨b, off, cap, by rw [e], by omega, h3, h4, fun j hj => ?_⟩
  rw [e] at hj
  rw [h5 j (by omega), List.getElem_take]
theorem View.drop {w : World} {b off cap : Nat} {l : List BL} (h : View w (.slice (some ⟨b, off, none⟩) l.length cap) l) (k : Nat) (hk : k ≤ l.length) : View w (.slice (some ⟨b, off + k, none⟩) (l.length - k) (cap - k)) (l.drop k) := by
  obtain ⟨b', off', cap', h1, h2, h3, h4, h5⟩ := h
  simp only [Value.slice.injEq, Option.some.injEq, Addr.mk.injEq, and_true, true_and] at h1
  obtain ⟨⟨rfl, rfl⟩, rfl⟩ := h1
  have e : (l.drop k).length = l.length - k := by simp
  refine ⟨b, off + k, cap - k, by rw [e], by omega, by omega, h4, fun j hj => ?_⟩
  rw [e] at hj
  rw [Nat.add_assoc, h5 (k + j) (by omega), List.getElem_drop]
theorem srt_pos {l : List BL} (h : 0 < l.length) : 0 < (srt l).length := by
  obtain ⟨_, s2, _⟩ := srt_spec l.length l (Nat.le_refl _)
  have := (s2 l[0]).2 (List.getElem_mem h)
  exact List.length_pos_of_mem this
theorem one_map (l : List BL) : ∀ u ∈ l.map sv, u.oneCell' = true := by
  intro u hu
  obtain ⟨x, _, rfl⟩ := List.mem_map.1 hu
  rfl

theorem own_mono' {w : World} {base base' : Nat} {e : TypeId} {size : Nat} {v : Value} {n : Nat} {xs : List Value} (h : w.ownsRow base e size v n xs) (hb : base' ≤ base) : w.ownsRow base' e size v n xs := by
  refine ⟨h.1, ?_⟩
  rcases h.2 with h | ⟨g, cap, cur, h1, h2, h3⟩
  · exact .inl h
  · exact .inr ⟨g, cap, cur, h1, Nat.le_trans hb h2, h3⟩
theorem psh_nil (x : BL) : psh [] x = [x] := by simp [psh]
theorem psh_same (r : List BL) (x : BL) : psh (r ++ [x]) x = r ++ [x] := by simp [psh]
theorem psh_other {r : List BL} {z x : BL} (h : z ≠ x) : psh (r ++ [z]) x = r ++ [z] ++ [x] := by simp [psh, h]
theorem leq_true {x y : BL} (h : x ≤ y) : (Op.bytesLess x y || x == y) = true := by
  rw [bytesLess_eq]
  by_cases e : x = y
  · simp [e]
  · simp [lt_of_le_ne h e]
theorem leq_false {x y : BL} (h : ¬ x ≤ y) : (Op.bytesLess x y || x == y) = false := by
  rw [bytesLess_eq, Bool.or_eq_false_iff]
  refine ⟨decide_eq_false fun h2 => h (List.le_of_lt h2), ?_⟩
  rw [beq_eq_false_iff_ne]
  rintro rfl
  exact h (List.le_refl _)

end Go.Proofs.YtanhnicfkghkbaaDoor
