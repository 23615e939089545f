/-
  An argument that is a list of bytes, as the walks want it.
-/
import Derived.Test.YtanhnicfkghkbaaDoorDr1P
import Derived.ChangeSlices
namespace Go.Proofs.YtanhnicfkghkbaaDoor
set_option maxRecDepth 100000
open Go.ChangeShapes Go.WideShapes Go.ChangeAt Go.RowKit

theorem cellsU8 : Tryd.prog.cellsOf 5 = 1 := by kernel_rfl
theorem u8_wf {n : Int} (h : (Lit.int .u8 n).wf = true) : 0 ≤ n ∧ n ≤ 255 := by
  have h2 : IntKind.u8.min ≤ n ∧ n ≤ IntKind.u8.max := by simpa [Lit.wf] using h
  exact h2
/-- A []byte argument, nil or not, as the walks want it. -/
theorem open_cameB {H : Type} {enc : TypeId × Value → H} {W : World} {a0 : Option Addr} {len cap fuel : Nat} {x : DataW H × List MemPlace}
    (hf : DataW.trod enc Tryd.prog W 0 (fun _ => true) true fuel 22 [.slice a0 len cap] = some x) : ∃ l, CameB W (.slice a0 len cap) l ∧ l.length ≤ maxLen := by
  rcases open_ints Tryd.underlying22 Tryd.underlying5 cellsU8 hf with ⟨hcs, hx⟩ | ⟨a, len', cap', zs, hcs, _, hl, hm, hz, hx, hcell, hws⟩
  · simp at hcs
    obtain ⟨rfl, rfl, rfl⟩ := hcs
    exact ⟨[], ⟨none, 0, 0, 0, rfl, fun h => absurd h (by simp), fun j h => absurd h (by simp)⟩, Nat.zero_le _⟩
  · simp at hcs
    obtain ⟨rfl, rfl, rfl⟩ := hcs
    simp only [if_true] at hz
    obtain ⟨b, off, spot⟩ := a
    have hlen : ((zs.take len).map fun z => UInt8.ofNat z.toNat).length = len := by simp; omega
    have hspot : 0 < len → spot = none := fun h0 => by simpa [Addr.add] using World.cell?_spot (hcell 0 (by omega))
    refine ⟨(zs.take len).map (fun z => UInt8.ofNat z.toNat), ⟨some ⟨b, off, spot⟩, cap, b, off, by rw [hlen], fun h0 => ?_, fun j hj => ?_⟩, by rw [hlen]; omega⟩
    · rw [hlen] at h0
      obtain rfl := hspot h0
      refine ⟨rfl, ?_⟩
      have hc := hcell 0 (by omega)
      by_cases hb : b < W.heap.size
      · exact hb
      · unfold World.cell? at hc
        rw [Array.getElem?_eq_none (by simp [Addr.add]; omega)] at hc
        cases hc
    · rw [hlen] at hj
      obtain rfl := hspot (by omega)
      have hj2 : j < zs.length := by omega
      have hw := u8_wf (hws zs[j] (List.getElem_mem hj2))
      have e : ((((zs.take len).map fun z => UInt8.ofNat z.toNat)[j]).toNat : Int) = zs.getD j 0 := by
        simp [List.getElem?_eq_getElem hj2]
        omega
      rw [e, ← add_plain]
      exact hcell j hj2
theorem open_nilB {H : Type} {enc : TypeId × Value → H} {W : World} {a0 : Option Addr} {len cap fuel : Nat} {x : DataW H × List MemPlace}
    (hf : DataW.trod enc Tryd.prog W 0 (fun _ => true) true fuel 22 [.slice a0 len cap] = some x) : NilB (.slice a0 len cap) := by
  rcases open_ints Tryd.underlying22 Tryd.underlying5 cellsU8 hf with ⟨hcs, hx⟩ | ⟨a, len', cap', zs, hcs, _, hl, hm, hz, hx, hcell, hws⟩
  · simp at hcs
    obtain ⟨rfl, rfl, rfl⟩ := hcs
    intro n c h
    cases h
    exact ⟨rfl, rfl⟩
  · simp at hcs
    obtain ⟨rfl, rfl, rfl⟩ := hcs
    intro n c h
    cases h
end Go.Proofs.YtanhnicfkghkbaaDoor
