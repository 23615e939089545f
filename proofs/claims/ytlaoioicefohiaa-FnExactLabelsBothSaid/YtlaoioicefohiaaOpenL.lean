/-
  Arguments that are labels or lists of labels, as the walks want them.
-/
import Derived.Test.YtlaoioicefohiaaRowsL
import Derived.Deep.Slices
import Derived.ChangeSame
import Derived.ChangeMaps5
import Derived.Lib.SmallJoins
namespace Go.Proofs.Ytlaoioicefohiaa
set_option maxRecDepth 100000
open Go.ChangeShapes Go.WideShapes Go.ChangeAt Go.RowKit Go.ChangeMaps

theorem cellsLaw : Try.prog.cellsOf 28 = 2 := by kernel_rfl
theorem cellsInt : Try.prog.cellsOf 3 = 1 := by kernel_rfl
theorem cellsStr' : Try.prog.cellsOf 9 = 1 := by kernel_rfl
theorem open_label_cells {H : Type} {enc : TypeId × Value → H} {W : World} {fuel : Nat} {cs : List Value} {x : DataW H × List MemPlace} {f0 f1 : Field} (hs : Try.prog.underlying 28 = some (.struct #[f0, f1])) (e0 : f0.type = 3) (e1 : f1.type = 9) (o0 : f0.offset = 0) (o1 : f1.offset = 1)
    (h : DataW.trod enc Try.prog W 0 (fun _ => true) true fuel 28 cs = some x) : ∃ (k : Int) (n : List UInt8), cs = [.int .i64 k, .string ⟨n.toArray⟩] ∧ n.length ≤ maxLen ∧ (Lit.int .i64 k).wf = true := by
  obtain ⟨y0, y1, m, _, hl, h0, h1⟩ := trod_struct2 hs h
  rw [cellsLaw] at hl
  rw [e0, o0, cellsInt] at h0
  rw [e1, o1, cellsStr'] at h1
  obtain ⟨c0, c1, rfl⟩ : ∃ c0 c1, cs = [c0, c1] := by
    match cs, hl with
    | [c0, c1], _ => exact ⟨c0, c1, rfl⟩
  simp only [List.drop_zero, List.take_succ_cons, List.take_zero, List.drop_succ_cons] at h0 h1
  obtain ⟨k, ek, _, wk⟩ := DataW.trod_int Try.underlying3 h0
  obtain ⟨s, es, _, ws⟩ := DataW.trod_string Try.underlying9 h1
  simp only [List.cons.injEq, and_true] at ek es
  subst ek es
  exact ⟨k, s.data.toList, by simp, ws, wk⟩

theorem fieldsLaw : ∃ f0 f1 : Field, Try.prog.underlying 28 = some (.struct #[f0, f1]) ∧ f0.type = 3 ∧ f1.type = 9 ∧ f0.offset = 0 ∧ f1.offset = 1 ∧ Go.Deep.oneCellFields Try.prog #[f0, f1] = true := by
  have h := Try.underlying28
  exact ⟨_, _, h, rfl, rfl, rfl, rfl, by kernel_rfl⟩
theorem cell_ltL {w : World} {a : Addr} {v : Value} (h : w.cell? a = some v) : a.block < w.heap.size := by
  by_cases hb : a.block < w.heap.size
  · exact hb
  · unfold World.cell? at h
    rw [Array.getElem?_eq_none (by omega)] at h
    cases h
/-- A []Label argument, nil or not. -/
theorem open_cameL {H : Type} {enc : TypeId × Value → H} {W : World} {a0 : Option Addr} {len cap fuel : Nat} {x : DataW H × List MemPlace}
    (hf : DataW.trod enc Try.prog W 0 (fun _ => true) true fuel 40 [.slice a0 len cap] = some x) : ∃ l, CameL W (.slice a0 len cap) l ∧ ∀ y ∈ l, (Lit.int .i64 y.1).wf = true := by
  obtain ⟨f0, f1, hs, e0, e1, o0, o1, _⟩ := fieldsLaw
  rcases Deep.open_slice Try.underlying40 hf with ⟨hcs, _⟩ | ⟨a, len', cap', m, n, D, Pl, hcs, _, hl, hm, hmm, _, hel⟩
  · simp at hcs
    obtain ⟨rfl, rfl, rfl⟩ := hcs
    exact ⟨[], ⟨none, 0, 0, 0, rfl, fun h => absurd h (by simp), fun j h => absurd h (by simp), Nat.zero_le _, fun x h => by simp at h⟩, fun y h => by simp at h⟩
  · simp at hcs
    obtain ⟨rfl, rfl, rfl⟩ := hcs
    simp only [if_true] at hmm
    obtain ⟨b, off, spot⟩ := a
    have hel2 : ∀ i, i < len → ∃ y : Lbl, W.cell? ((⟨b, off, spot⟩ : Addr).add (i * 2)) = some (.int .i64 y.1) ∧ W.cell? (((⟨b, off, spot⟩ : Addr).add (i * 2)).add 1) = some (sv y.2) ∧ y.2.length ≤ maxLen ∧ (Lit.int .i64 y.1).wf = true := by
      intro i hi
      obtain ⟨cs', hc, ht⟩ := hel i (by omega)
      rw [cellsLaw] at hc
      obtain ⟨k, nm, rfl, hnm, hk⟩ := open_label_cells hs e0 e1 o0 o1 ht
      obtain ⟨_, _, hcc⟩ := World.cells?_some hc
      have q0 := hcc 0 (by decide)
      have q1 := hcc 1 (by decide)
      exact ⟨(k, nm), by simpa [Addr.add] using q0, q1, hnm, hk⟩
    obtain ⟨F, hF⟩ := Deep.choose_lt hel2
    have hspot : 0 < len → spot = none := fun h0 => by simpa [Addr.add] using World.cell?_spot (hF 0 h0).1
    have hlen : ((List.range len).map F).length = len := by simp
    refine ⟨(List.range len).map F, ⟨some ⟨b, off, spot⟩, cap, b, off, by rw [hlen], fun h0 => ?_, fun j hj => ?_, by rw [hlen]; omega, fun y hy => ?_⟩, fun y hy => ?_⟩
    · rw [hlen] at h0
      obtain rfl := hspot h0
      exact ⟨rfl, by simpa [Addr.add] using cell_ltL (hF 0 h0).1⟩
    · rw [hlen] at hj
      obtain rfl := hspot (by omega)
      have := hF j hj
      simp only [List.getElem_map, List.getElem_range]
      rw [add_plain] at this
      rw [add_plain] at this
      exact ⟨this.1, this.2.1⟩
    · obtain ⟨j, hj, rfl⟩ := List.mem_map.1 hy
      exact (hF j (List.mem_range.1 hj)).2.2.1
    · obtain ⟨j, hj, rfl⟩ := List.mem_map.1 hy
      exact (hF j (List.mem_range.1 hj)).2.2.2
/-- A Label argument. -/
theorem open_label {H : Type} {enc : TypeId × Value → H} {W : World} {r : Reach} {b0 : Nat} {v : Value} {d : DataW H} {p : List MemPlace} (hv : Value.okWide Try.prog W r b0 28 v) (h : DataW.Trod enc Try.prog W 0 (fun _ => true) true 28 v d p) :
    ∃ (k : Int) (n : List UInt8), v = .agg #[.int .i64 k, .string ⟨n.toArray⟩] ∧ p = [] ∧ n.length ≤ maxLen ∧ (Lit.int .i64 k).wf = true := by
  obtain ⟨f0, f1, hs, e0, e1, o0, o1, hone⟩ := fieldsLaw
  obtain ⟨v0, v1, y0, y1, m, rfl, rfl, rfl, h0, h1⟩ := Go.Joins.open_agg2 hs hone cellsLaw hv h
  rw [e0] at h0
  rw [e1] at h1
  obtain ⟨k, ek, ey, wk⟩ := DataW.trod_int Try.underlying3 h0
  obtain ⟨s, es, ez, ws⟩ := DataW.trod_string Try.underlying9 h1
  simp only [List.cons.injEq, and_true] at ek es
  subst ek es ey ez
  exact ⟨k, s.data.toList, by simp, rfl, ws, wk⟩
end Go.Proofs.Ytlaoioicefohiaa
