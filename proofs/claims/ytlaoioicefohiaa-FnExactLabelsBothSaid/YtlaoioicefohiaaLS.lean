/-
  The contract of slices.SortFunc at labels by impl.compareLabels, over owned rows.
-/
import Derived.Test.YtlaoioicefohiaaLI6
import Derived.Test.YtlaoioicefohiaaShelfS
import Derived.Sort.OwnSorted
namespace Go.Proofs.Ytlaoioicefohiaa
set_option maxRecDepth 100000
open Go.ChangeShapes Go.WideShapes Go.ChangeAt Go.RowKit
set_option linter.unusedSimpArgs false

theorem flatK_flat (l : List Lbl) : Go.Sort.flatK lcells 2 l.toArray = (flat l).toArray := by
  apply Array.ext
  · simp [flat_length]
  · intro t h1 h2
    have ht : t < l.length * 2 := by simpa using h1
    have hj : t / 2 < l.length := by omega
    obtain ⟨fa, fb⟩ := flat_at hj
    have e : (Go.Sort.flatK lcells 2 l.toArray)[t]! = (lcells l.toArray[t / 2]!)[t % 2]! := Go.Sort.get_flatK lcells 2 l.toArray t (by simpa using ht)
    rw [getElem!_pos _ t h1] at e
    rw [e]
    have hl : t < (flat l).length := by rw [flat_length]; exact ht
    have g : (flat l)[t]? = some (flat l)[t] := List.getElem?_eq_getElem hl
    have hx : l.toArray[t / 2]! = l[t / 2] := by simp [getElem!_pos, hj]
    rw [hx]
    have hm : t % 2 = 0 ∨ t % 2 = 1 := by omega
    show _ = (flat l)[t]
    rcases hm with hm | hm
    · rw [show t / 2 * 2 = t by omega, g] at fa
      rw [hm]
      have := Option.some.inj fa
      rw [this]
      rfl
    · rw [show t / 2 * 2 + 1 = t by omega, g] at fb
      rw [hm]
      have := Option.some.inj fb
      rw [this]
      rfl

theorem heap_put {w : World} {g n : Nat} {os : Array Obj} {cur : Array Value} {e : TypeId} {fr : Nat × Nat} (d : Array Value) (hb : w.heap[g]? = some (.cells cur e fr)) :
    (Go.Sort.grow (Go.Sort.putRow id (Go.Sort.ahead w n) g 0 d) os).heap[g]? = some (.cells (Go.Sort.putCells id 0 d cur) e fr) := by
  have hg : g < w.heap.size := (Array.getElem?_eq_some_iff.1 hb).1
  rw [Go.Sort.heap_grow_old _ _ (by simpa using hg)]
  simp [Go.Sort.putRow, Go.Sort.mapBlock, Go.Sort.ahead, Array.getElem?_modify, hb, Go.Sort.onCells]
theorem grownBy_put {w : World} {g n : Nat} {os : Array Obj} (d : Array Value) : w.grownBy (Go.Sort.grow (Go.Sort.putRow id (Go.Sort.ahead w n) g 0 d) os) (some g) := by
  refine ⟨rfl, rfl, rfl, by simp, fun k hk hne => ?_⟩
  rw [Go.Sort.heap_grow_old _ _ (by simpa using hk)]
  have : g ≠ k := fun e => hne (by rw [e])
  simp [Go.Sort.putRow, Go.Sort.mapBlock, Go.Sort.ahead, Array.getElem?_modify, this]
theorem take_put (cur : Array Value) (ts : List Value) (h : ts.length ≤ cur.size) : (Go.Sort.putCells id 0 ts.toArray cur).toList.take ts.length = ts := by
  apply List.ext_getElem?
  intro j
  by_cases hj : j < ts.length
  · rw [List.getElem?_take_of_lt hj, Array.getElem?_toList]
    simp [Go.Sort.putCells, hj, show j < cur.size by omega]
  · rw [List.getElem?_take_eq_none (by omega), List.getElem?_eq_none (by omega)]

theorem sortRowL {w0 w : World} {B : Nat} {v : Value} {l : List Lbl} (h : w.ownsRow B 31 2 v l.length (flat l)) (hb : Below B w0 w) (hn : l.length ≤ 10000000) :
    Calls Try.prog 70 #[v, .func (.func 55) #[] #[]] w fun e w' => e = .returned (.tuple #[]) ∧ w'.ownsRow B 31 2 v l.length (flat (l.mergeSort fun x y => !ordL.lt y x)) ∧ Below B w0 w' := by
  rcases h.2 with ⟨rfl, h0⟩ | ⟨g, cap, cur, rfl, hBg, hg, hnc, hcm, hcs, htk⟩
  · obtain rfl : l = [] := List.length_eq_zero_iff.1 h0
    refine (AnyF.slices_SortFunc_none { Try.laysSlF06_f70 with } none 0 (.func (.func 55) #[] #[]) w).mono ?_
    rintro e w' ⟨rfl, rfl⟩
    exact ⟨rfl, by simpa using h, hb⟩
  · have hgl : g < w.heap.size := (Array.getElem?_eq_some_iff.1 hg).1
    rcases Nat.eq_zero_or_pos l.length with h0 | hp
    · obtain rfl : l = [] := List.length_eq_zero_iff.1 h0
      refine (AnyF.slices_SortFunc_none { Try.laysSlF06_f70 with } (some ⟨g, 0, none⟩) cap (.func (.func 55) #[] #[]) w).mono ?_
      rintro e w' ⟨rfl, rfl⟩
      exact ⟨rfl, by simpa using h, hb⟩
    · have hH : Go.Sort.HoldsK lcells 2 w g 0 l.toArray := by
        rw [Go.Sort.HoldsK, flatK_flat]
        intro j hj
        have hj' : j < (flat l).length := by simpa using hj
        rw [flat_length] at hj'
        refine ⟨?_, by rw [Nat.zero_add]; exact h.frozenAt j⟩
        rw [Nat.zero_add, h.cellAt j hj', getElem!_pos _ j hj]
        simp
      have eg : ∀ args w, (callFunc 55 args).run Try.prog w = .ok (.enter 55 args) w := enters_of Try.func55 (by kernel_rfl) rfl
      have hcmp : CmpLays Try.prog 55 #[] lcells 2 cmpL g 0 l.toArray.size w := fun m os dk _ x y => compareLabels x.1 y.1 x.2 y.2 _
      have hcon := AnyQ.slices_SortFunc_total Try.laysSlF06_f70 2 Try.isAgg31 Try.sizeOf31 lcells (fun _ => rfl) (fun x v hv => by simp [lcells] at hv; rcases hv with rfl | rfl <;> rfl) cmpL cmpL_swo 55 #[] g 0 cap l.toArray w eg hcmp hH hgl (by simp; omega) cmpL_total
      have ho : (fun x y : Lbl => !(ltOf cmpL) y x) = fun x y => !ordL.lt y x := by funext x y; rw [cmpL_lt]
      rw [ho] at hcon
      refine Calls.mono hcon ?_
      rintro e w' ⟨rfl, n, os, rfl⟩
      have hlen : (l.mergeSort fun x y => !ordL.lt y x).length = l.length := List.length_mergeSort l
      rw [sortWorldK, Go.Sort.putRowK, flatK_flat]
      refine ⟨rfl, ⟨by rw [flat_length, hlen], .inr ⟨g, cap, _, rfl, hBg, heap_put _ hg, hnc, hcm, by simp [Go.Sort.putCells, hcs], ?_⟩⟩, hb.grown (grownBy_put _) (by omega) (fun j hj => by cases hj; exact hBg)⟩
      have := take_put cur (flat (l.mergeSort fun x y => !ordL.lt y x)) (by rw [flat_length, hlen, hcs]; omega)
      rw [flat_length, hlen] at this
      exact this
end Go.Proofs.Ytlaoioicefohiaa
