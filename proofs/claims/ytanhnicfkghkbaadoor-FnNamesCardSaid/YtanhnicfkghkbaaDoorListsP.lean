/-
  Plain lemmas on lists of strings that came in.
-/
import Derived.Test.YtanhnicfkghkbaaDoorBase
import Derived.SliceStrings
namespace Go.Proofs.YtanhnicfkghkbaaDoor
set_option maxRecDepth 100000
open Go.ChangeShapes Go.WideShapes Go.ChangeAt Go.RowKit

/-- The value is a slice over strings: nil, empty or not. -/
def Came (w : World) (v : Value) (l : List (List UInt8)) : Prop :=
  ∃ (a0 : Option Addr) (cap b off : Nat), v = .slice a0 l.length cap ∧ (0 < l.length → a0 = some ⟨b, off, none⟩ ∧ b < w.heap.size) ∧ (∀ j (h : j < l.length), w.cell? ⟨b, off + j, none⟩ = some (sv l[j])) ∧ l.length ≤ maxLen ∧ ∀ x ∈ l, x.length ≤ maxLen
theorem Came.below {w w' : World} {v : Value} {l : List (List UInt8)} (h : Came w v l) (hb : Below w.heap.size w w') : Came w' v l := by
  obtain ⟨a0, cap, b, off, h1, h2, h3, h4, h5⟩ := h
  refine ⟨a0, cap, b, off, h1, fun h0 => ⟨(h2 h0).1, Nat.lt_of_lt_of_le (h2 h0).2 hb.size⟩, fun j hj => ?_, h4, h5⟩
  rw [hb.cell (p := ⟨b, off + j, none⟩) (h2 (by omega)).2]
  exact h3 j hj
def totL (l : List (List UInt8)) : Nat := (l.map List.length).sum
theorem totL_succ {l : List (List UInt8)} {k : Nat} (h : k < l.length) : totL (l.take (k + 1)) = totL (l.take k) + l[k].length := by
  rw [List.take_succ_eq_append_getElem h, totL, List.map_append, List.sum_append]
  simp [totL]
theorem totL_mem {l : List (List UInt8)} {x : List UInt8} (h : x ∈ l) : x.length ≤ totL l := by
  induction l with
  | nil => simp at h
  | cons a r ih =>
    simp only [totL, List.map_cons, List.sum_cons]
    rcases List.mem_cons.1 h with rfl | h
    · omega
    · have := ih h; simp only [totL] at this; omega
theorem size_sv (x : List UInt8) : (⟨x.toArray⟩ : ByteArray).size = x.length := by simp [ByteArray.size]

theorem infoStr' : (Tryd.prog.info? 9).map (fun i => (i.zero, i.size, i.bytes)) = some (some (.string ⟨#[]⟩), 1, 16) := by kernel_rfl
def LRes' (r : List (List UInt8)) (w : World) (e : Ending) (w' : World) : Prop :=
  ∃ v, e = .returned v ∧ w'.ownsRow w.heap.size 9 1 v r.length (r.map sv) ∧ Below w.heap.size w w'
theorem fill_set {a b : List Value} {k : Nat} {u : Value} (hk : k < a.length) (hb : b.length = a.length) (hu : a[k] = u) : (a.take k ++ b.drop k).set k u = a.take (k + 1) ++ b.drop (k + 1) := by
  rw [List.set_append_right _ _ (by simp; omega)]
  have : (a.take k).length = k := by simp; omega
  rw [this, Nat.sub_self, List.take_succ_eq_append_getElem hk, List.append_assoc]
  congr 1
  rw [List.drop_eq_getElem_cons (by omega), hu]
  rfl

end Go.Proofs.YtanhnicfkghkbaaDoor
