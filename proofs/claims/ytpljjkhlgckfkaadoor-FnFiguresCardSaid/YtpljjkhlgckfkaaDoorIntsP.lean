/-
  Plain lemmas on lists of ints.
-/
import Derived.Test.YtpljjkhlgckfkaaDoorBase
import Derived.ChangeSlices
namespace Go.Proofs.YtpljjkhlgckfkaaDoor
set_option maxRecDepth 100000
open Go.ChangeShapes Go.WideShapes Go.ChangeAt Go.RowKit
set_option linter.unusedSimpArgs false

def iv (x : Int) : Value := .int .i64 x
theorem own_sliceI {w : World} {b n : Nat} {v : Value} {xs : List Value} (h : w.ownsRow b 3 1 v n xs) : ∃ a cap, v = .slice a n cap := by
  rcases h.2 with ⟨rfl, rfl⟩ | ⟨g, cap, cur, rfl, _⟩
  · exact ⟨_, _, rfl⟩
  · exact ⟨_, _, rfl⟩
/-- The value is a slice over ints: nil, empty or not. -/
def CameI (w : World) (v : Value) (l : List Int) : Prop :=
  ∃ (a0 : Option Addr) (cap b off : Nat), v = .slice a0 l.length cap ∧ (0 < l.length → a0 = some ⟨b, off, none⟩ ∧ b < w.heap.size) ∧ (∀ j (h : j < l.length), w.cell? ⟨b, off + j, none⟩ = some (iv l[j])) ∧ l.length ≤ maxLen
theorem CameI.below {w w' : World} {v : Value} {l : List Int} (h : CameI w v l) (hb : Below w.heap.size w w') : CameI w' v l := by
  obtain ⟨a0, cap, b, off, h1, h2, h3, h4⟩ := h
  refine ⟨a0, cap, b, off, h1, fun h0 => ⟨(h2 h0).1, Nat.lt_of_lt_of_le (h2 h0).2 hb.size⟩, fun j hj => ?_, h4⟩
  rw [hb.cell (p := ⟨b, off + j, none⟩) (h2 (by omega)).2]
  exact h3 j hj

theorem infoInt : (Tryd.prog.info? 3).map (fun i => (i.zero, i.size, i.bytes)) = some (some (.int .i64 0), 1, 8) := by kernel_rfl
def IRes (r : List Int) (w : World) (e : Ending) (w' : World) : Prop :=
  ∃ v, e = .returned v ∧ w'.ownsRow w.heap.size 3 1 v r.length (r.map iv) ∧ Below w.heap.size w w'
end Go.Proofs.YtpljjkhlgckfkaaDoor
