/- What the cards use beside the walks: Lists -/
import Derived.Test.YtgonemalnljabaaDoorYA6
import Derived.Test.YtgonemalnljabaaDoorYEqS
import Derived.SliceStrings
import Derived.Test.YtgonemalnljabaaDoorYLists
set_option maxRecDepth 100000
set_option linter.unusedSimpArgs false
set_option linter.unusedVariables false
namespace Go.Proofs.YtgonemalnljabaaDoor
open Go.ChangeShapes Go.WideShapes Go.ChangeAt Go.RowKit
theorem cell_lt {w : World} {a : Addr} {v : Value} (h : w.cell? a = some v) : a.block < w.heap.size := by
  by_cases hb : a.block < w.heap.size
  · exact hb
  · unfold World.cell? at h
    rw [Array.getElem?_eq_none (by omega)] at h
    cases h
theorem cellsStr : Tryd.prog.cellsOf 9 = 1 := by kernel_rfl
/-- A []string argument, nil or not, as the walks want it. -/
theorem open_came {H : Type} {enc : TypeId × Value → H} {W : World} {a0 : Option Addr} {len cap fuel : Nat} {x : DataW H × List MemPlace}
    (hf : DataW.trod enc Tryd.prog W 0 (fun _ => true) true fuel 22 [.slice a0 len cap] = some x) : ∃ l, Came W (.slice a0 len cap) l := by
  rcases open_strings Tryd.underlying22 Tryd.underlying9 cellsStr hf with ⟨hcs, hx⟩ | ⟨a, len', cap', ss, hcs, _, hl, hm, hz, hx, hcell, hws⟩
  · simp at hcs
    obtain ⟨rfl, rfl, rfl⟩ := hcs
    exact ⟨[], none, 0, 0, 0, rfl, fun h => absurd h (by simp), fun j h => absurd h (by simp), Nat.zero_le _, fun x h => by simp at h⟩
  · simp at hcs
    obtain ⟨rfl, rfl, rfl⟩ := hcs
    simp only [if_true] at hz
    obtain ⟨b, off, spot⟩ := a
    have hlen : ((ss.take len).map fun s => s.data.toList).length = len := by simp; omega
    have hspot : 0 < len → spot = none := fun h0 => by simpa [Addr.add] using World.cell?_spot (hcell 0 (by omega))
    refine ⟨(ss.take len).map (fun s => s.data.toList), some ⟨b, off, spot⟩, cap, b, off, by rw [hlen], fun h0 => ?_, fun j hj => ?_, by rw [hlen]; omega, fun y hy => ?_⟩
    · rw [hlen] at h0
      obtain rfl := hspot h0
      exact ⟨rfl, cell_lt (hcell 0 (by omega))⟩
    · rw [hlen] at hj
      obtain rfl := hspot (by omega)
      have e : sv ((ss.take len).map fun s => s.data.toList)[j] = .string (ss.getD j ByteArray.empty) := by
        have hj2 : j < ss.length := by omega
        simp [sv, List.getElem?_eq_getElem hj2]
      rw [e, ← add_plain]
      exact hcell j (by omega)
    · obtain ⟨s, hs, rfl⟩ := List.mem_map.1 hy
      exact hws s (List.mem_of_mem_take hs)
end Go.Proofs.YtgonemalnljabaaDoor
