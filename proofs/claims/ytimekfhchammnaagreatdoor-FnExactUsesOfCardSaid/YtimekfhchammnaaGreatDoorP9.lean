/-
  The contract of impl.partsOf at a term that was made earlier; contracts of impl.appendUses and impl.UsesIn.
  The laying of slices.DeleteFunc at strings, as the shelf command prints it in plain words (trimmed).
  The contract of slices.DeleteFunc at a row of strings, with the function literal of impl.UsesOf.
  The contract of impl.UsesOf.
-/
import Derived.Test.YtimekfhchammnaaGreatDoorP3
import Derived.Test.YtimekfhchammnaaGreatDoorG3
import Derived.Test.YtimekfhchammnaaGreatDoorS1
import Derived.Test.YtimekfhchammnaaGreatDoorP4
import Derived.Shelf.SlLaysH
import Derived.Shelf.SlicesE.DeleteFunc
import Derived.Test.YtimekfhchammnaaGreatDoorProg
import Derived.Lib.SliceRun
import Derived.Test.YtimekfhchammnaaGreatDoorP6
import Derived.Deep.RegionHeld3
import Derived.Deep.DeepCutAuto
namespace Go.Proofs.YtimekfhchammnaaGreatDoor
set_option maxRecDepth 100000
open Go.ChangeShapes Go.WideShapes Go.ChangeAt Go.RowKit
set_option linter.unusedSimpArgs false
set_option linter.unusedVariables false

/-- The parts' values in new memory; the parts themselves lie where they lay. -/
def PartsIn (W0 : World) (t : Tm) (W : World) (e : Ending) (W' : World) : Prop :=
  ∃ v vs, e = .returned v ∧ W'.ownsRow W.heap.size 67 1 v t.parts.length vs ∧ IReps W0 t.parts vs ∧ Below W.heap.size W W'
set_option maxHeartbeats 2000000 in
theorem implPartsIn {W0 : World} {t : Tm} {v : Value} {W : World} (h : IRep W0 t v) (hB : Below W0.heap.size W0 W) : Calls Tryz.prog 85 #[v] W (PartsIn W0 t W) := by
  cases t with
  | var n =>
    obtain ⟨g, rfl, hg⟩ := h
    clear hg hB
    have aApp : ∀ v w, (Instr.typeAssert (.iface 91 v) 67 94 true).run Tryz.prog w = .ok (.tuple #[.pointer none, .bool false]) w := fun v w => by rw [taApp, if_neg (by decide)]
    have aLam : ∀ v w, (Instr.typeAssert (.iface 91 v) 67 97 true).run Tryz.prog w = .ok (.tuple #[.pointer none, .bool false]) w := fun v w => by rw [taLam, if_neg (by decide)]
    have aPi : ∀ v w, (Instr.typeAssert (.iface 91 v) 67 100 true).run Tryz.prog w = .ok (.tuple #[.pointer none, .bool false]) w := fun v w => by rw [taPi, if_neg (by decide)]
    have aLet : ∀ v w, (Instr.typeAssert (.iface 91 v) 67 103 true).run Tryz.prog w = .ok (.tuple #[.pointer none, .bool false]) w := fun v w => by rw [taLet, if_neg (by decide)]
    go_enter Tryz.func85, Tryz.ntmps85
    go_wp2
    go_ret
    exact ⟨_, [], rfl, World.ownsRow_nil _ _ _ _, trivial, Below.refl _ _⟩
  | sort n =>
    obtain ⟨g, rfl, hg⟩ := h
    clear hg hB
    have aApp : ∀ v w, (Instr.typeAssert (.iface 106 v) 67 94 true).run Tryz.prog w = .ok (.tuple #[.pointer none, .bool false]) w := fun v w => by rw [taApp, if_neg (by decide)]
    have aLam : ∀ v w, (Instr.typeAssert (.iface 106 v) 67 97 true).run Tryz.prog w = .ok (.tuple #[.pointer none, .bool false]) w := fun v w => by rw [taLam, if_neg (by decide)]
    have aPi : ∀ v w, (Instr.typeAssert (.iface 106 v) 67 100 true).run Tryz.prog w = .ok (.tuple #[.pointer none, .bool false]) w := fun v w => by rw [taPi, if_neg (by decide)]
    have aLet : ∀ v w, (Instr.typeAssert (.iface 106 v) 67 103 true).run Tryz.prog w = .ok (.tuple #[.pointer none, .bool false]) w := fun v w => by rw [taLet, if_neg (by decide)]
    go_enter Tryz.func85, Tryz.ntmps85
    go_wp2
    go_ret
    exact ⟨_, [], rfl, World.ownsRow_nil _ _ _ _, trivial, Below.refl _ _⟩
  | const n ls =>
    obtain ⟨g, u, rfl, hg, hu⟩ := h
    clear hu hg hB
    have aApp : ∀ v w, (Instr.typeAssert (.iface 82 v) 67 94 true).run Tryz.prog w = .ok (.tuple #[.pointer none, .bool false]) w := fun v w => by rw [taApp, if_neg (by decide)]
    have aLam : ∀ v w, (Instr.typeAssert (.iface 82 v) 67 97 true).run Tryz.prog w = .ok (.tuple #[.pointer none, .bool false]) w := fun v w => by rw [taLam, if_neg (by decide)]
    have aPi : ∀ v w, (Instr.typeAssert (.iface 82 v) 67 100 true).run Tryz.prog w = .ok (.tuple #[.pointer none, .bool false]) w := fun v w => by rw [taPi, if_neg (by decide)]
    have aLet : ∀ v w, (Instr.typeAssert (.iface 82 v) 67 103 true).run Tryz.prog w = .ok (.tuple #[.pointer none, .bool false]) w := fun v w => by rw [taLet, if_neg (by decide)]
    go_enter Tryz.func85, Tryz.ntmps85
    go_wp2
    go_ret
    exact ⟨_, [], rfl, World.ownsRow_nil _ _ _ _, trivial, Below.refl _ _⟩
  | app a b =>
    obtain ⟨g, x, y, rfl, hg, hx, hy⟩ := h
    have HX := Lib.hid hx
    have HY := Lib.hid hy
    obtain ⟨T0, x0, rfl⟩ := hx.iface
    obtain ⟨T1, y0, rfl⟩ := hy.iface
    have c0 : W.cell? ⟨g, 0, none⟩ = some (.iface T0 x0) := (hB.cell (p := ⟨g, 0, none⟩) (Array.getElem?_eq_some_iff.1 hg).1).trans (by rw [Lib.cell_of_heap hg]; rfl)
    have c1 : W.cell? ⟨g, 1, none⟩ = some (.iface T1 y0) := (hB.cell (p := ⟨g, 1, none⟩) (Array.getElem?_eq_some_iff.1 hg).1).trans (by rw [Lib.cell_of_heap hg]; rfl)
    clear hx hy hg hB
    have aApp : ∀ v w, (Instr.typeAssert (.iface 94 v) 67 94 true).run Tryz.prog w = .ok (.tuple #[v, .bool true]) w := fun v w => by rw [taApp, if_pos rfl]
    go_enter Tryz.func85, Tryz.ntmps85
    go_wp2
    go_region
    all_goals
      go_wp2
      go_ret
      have hb2 := (below_drewN (Below.refl W.heap.size W) 1).alloc (Nat.le_refl _) (.cells #[.iface T0 x0, .iface T1 y0] 67)
      have hrow := World.ownsRow_lit (size := 1) (base := W.heap.size) (e := 67) (W.drewN 1) #[.iface T0 x0, .iface T1 y0] 2 (Nat.le_refl _) (by decide) (by simp)
      exact ⟨_, [.iface T0 x0, .iface T1 y0], rfl, hrow, ⟨HX.out, HY.out, trivial⟩, hb2⟩
  | lam a b =>
    obtain ⟨g, x, y, rfl, hg, hx, hy⟩ := h
    have HX := Lib.hid hx
    have HY := Lib.hid hy
    obtain ⟨T0, x0, rfl⟩ := hx.iface
    obtain ⟨T1, y0, rfl⟩ := hy.iface
    have c0 : W.cell? ⟨g, 0, none⟩ = some (.iface T0 x0) := (hB.cell (p := ⟨g, 0, none⟩) (Array.getElem?_eq_some_iff.1 hg).1).trans (by rw [Lib.cell_of_heap hg]; rfl)
    have c1 : W.cell? ⟨g, 1, none⟩ = some (.iface T1 y0) := (hB.cell (p := ⟨g, 1, none⟩) (Array.getElem?_eq_some_iff.1 hg).1).trans (by rw [Lib.cell_of_heap hg]; rfl)
    clear hx hy hg hB
    have aApp : ∀ v w, (Instr.typeAssert (.iface 97 v) 67 94 true).run Tryz.prog w = .ok (.tuple #[.pointer none, .bool false]) w := fun v w => by rw [taApp, if_neg (by decide)]
    have aLam : ∀ v w, (Instr.typeAssert (.iface 97 v) 67 97 true).run Tryz.prog w = .ok (.tuple #[v, .bool true]) w := fun v w => by rw [taLam, if_pos rfl]
    go_enter Tryz.func85, Tryz.ntmps85
    go_wp2
    go_region
    all_goals
      go_wp2
      go_ret
      have hb2 := (below_drewN (Below.refl W.heap.size W) 1).alloc (Nat.le_refl _) (.cells #[.iface T0 x0, .iface T1 y0] 67)
      have hrow := World.ownsRow_lit (size := 1) (base := W.heap.size) (e := 67) (W.drewN 1) #[.iface T0 x0, .iface T1 y0] 2 (Nat.le_refl _) (by decide) (by simp)
      exact ⟨_, [.iface T0 x0, .iface T1 y0], rfl, hrow, ⟨HX.out, HY.out, trivial⟩, hb2⟩
  | pi a b =>
    obtain ⟨g, x, y, rfl, hg, hx, hy⟩ := h
    have HX := Lib.hid hx
    have HY := Lib.hid hy
    obtain ⟨T0, x0, rfl⟩ := hx.iface
    obtain ⟨T1, y0, rfl⟩ := hy.iface
    have c0 : W.cell? ⟨g, 0, none⟩ = some (.iface T0 x0) := (hB.cell (p := ⟨g, 0, none⟩) (Array.getElem?_eq_some_iff.1 hg).1).trans (by rw [Lib.cell_of_heap hg]; rfl)
    have c1 : W.cell? ⟨g, 1, none⟩ = some (.iface T1 y0) := (hB.cell (p := ⟨g, 1, none⟩) (Array.getElem?_eq_some_iff.1 hg).1).trans (by rw [Lib.cell_of_heap hg]; rfl)
    clear hx hy hg hB
    have aApp : ∀ v w, (Instr.typeAssert (.iface 100 v) 67 94 true).run Tryz.prog w = .ok (.tuple #[.pointer none, .bool false]) w := fun v w => by rw [taApp, if_neg (by decide)]
    have aLam : ∀ v w, (Instr.typeAssert (.iface 100 v) 67 97 true).run Tryz.prog w = .ok (.tuple #[.pointer none, .bool false]) w := fun v w => by rw [taLam, if_neg (by decide)]
    have aPi : ∀ v w, (Instr.typeAssert (.iface 100 v) 67 100 true).run Tryz.prog w = .ok (.tuple #[v, .bool true]) w := fun v w => by rw [taPi, if_pos rfl]
    go_enter Tryz.func85, Tryz.ntmps85
    go_wp2
    go_region
    all_goals
      go_wp2
      go_ret
      have hb2 := (below_drewN (Below.refl W.heap.size W) 1).alloc (Nat.le_refl _) (.cells #[.iface T0 x0, .iface T1 y0] 67)
      have hrow := World.ownsRow_lit (size := 1) (base := W.heap.size) (e := 67) (W.drewN 1) #[.iface T0 x0, .iface T1 y0] 2 (Nat.le_refl _) (by decide) (by simp)
      exact ⟨_, [.iface T0 x0, .iface T1 y0], rfl, hrow, ⟨HX.out, HY.out, trivial⟩, hb2⟩
  | lett a b c =>
    obtain ⟨g, x, y, z, rfl, hg, hx, hy, hz⟩ := h
    have HX := Lib.hid hx
    have HY := Lib.hid hy
    have HZ := Lib.hid hz
    obtain ⟨T0, x0, rfl⟩ := hx.iface
    obtain ⟨T1, y0, rfl⟩ := hy.iface
    obtain ⟨T2, z0, rfl⟩ := hz.iface
    have c0 : W.cell? ⟨g, 0, none⟩ = some (.iface T0 x0) := (hB.cell (p := ⟨g, 0, none⟩) (Array.getElem?_eq_some_iff.1 hg).1).trans (by rw [Lib.cell_of_heap hg]; rfl)
    have c1 : W.cell? ⟨g, 1, none⟩ = some (.iface T1 y0) := (hB.cell (p := ⟨g, 1, none⟩) (Array.getElem?_eq_some_iff.1 hg).1).trans (by rw [Lib.cell_of_heap hg]; rfl)
    have c2 : W.cell? ⟨g, 2, none⟩ = some (.iface T2 z0) := (hB.cell (p := ⟨g, 2, none⟩) (Array.getElem?_eq_some_iff.1 hg).1).trans (by rw [Lib.cell_of_heap hg]; rfl)
    clear hx hy hz hg hB
    have aApp : ∀ v w, (Instr.typeAssert (.iface 103 v) 67 94 true).run Tryz.prog w = .ok (.tuple #[.pointer none, .bool false]) w := fun v w => by rw [taApp, if_neg (by decide)]
    have aLam : ∀ v w, (Instr.typeAssert (.iface 103 v) 67 97 true).run Tryz.prog w = .ok (.tuple #[.pointer none, .bool false]) w := fun v w => by rw [taLam, if_neg (by decide)]
    have aPi : ∀ v w, (Instr.typeAssert (.iface 103 v) 67 100 true).run Tryz.prog w = .ok (.tuple #[.pointer none, .bool false]) w := fun v w => by rw [taPi, if_neg (by decide)]
    have aLet : ∀ v w, (Instr.typeAssert (.iface 103 v) 67 103 true).run Tryz.prog w = .ok (.tuple #[v, .bool true]) w := fun v w => by rw [taLet, if_pos rfl]
    go_enter Tryz.func85, Tryz.ntmps85
    go_wp2
    go_region
    all_goals
      go_wp2
      go_ret
      have hb2 := (below_drewN (Below.refl W.heap.size W) 1).alloc (Nat.le_refl _) (.cells #[.iface T0 x0, .iface T1 y0, .iface T2 z0] 67)
      have hrow := World.ownsRow_lit (size := 1) (base := W.heap.size) (e := 67) (W.drewN 1) #[.iface T0 x0, .iface T1 y0, .iface T2 z0] 3 (Nat.le_refl _) (by decide) (by simp)
      exact ⟨_, [.iface T0 x0, .iface T1 y0, .iface T2 z0], rfl, hrow, ⟨HX.out, HY.out, HZ.out, trivial⟩, hb2⟩

theorem parts_le3 (t : Tm) : t.parts.length ≤ 3 := by cases t <;> simp [Tm.parts]
theorem asked_const {W : World} {u : Tm} {v : Value} (h : IRep W u v) (hk : u.kind ≠ 99) (w : World) : (Instr.typeAssert v 67 82 true).run Tryz.prog w = .ok (.tuple #[.pointer none, .bool false]) w := by
  cases u with
  | const n ls => exact absurd rfl hk
  | var n => obtain ⟨g', rfl, _⟩ := h; rw [taConst, if_neg (by decide)]
  | sort n => obtain ⟨g', rfl, _⟩ := h; rw [taConst, if_neg (by decide)]
  | app f a => obtain ⟨g', x', y', rfl, _⟩ := h; rw [taConst, if_neg (by decide)]
  | lam f a => obtain ⟨g', x', y', rfl, _⟩ := h; rw [taConst, if_neg (by decide)]
  | pi f a => obtain ⟨g', x', y', rfl, _⟩ := h; rw [taConst, if_neg (by decide)]
  | lett f a b => obtain ⟨g', x', y', z', rfl, _⟩ := h; rw [taConst, if_neg (by decide)]
theorem names_parts {t : Tm} (h : t.kind ≠ 99) : t.parts.flatMap Tm.cnames = t.cnames := by
  cases t with
  | const n ls => exact absurd rfl h
  | _ => simp [Tm.parts, Tm.cnames]
theorem names_short : ∀ (t : Tm) (x : List UInt8), x ∈ t.cnames → x.length ≤ t.bytes.length
  | .var _, x, h => by simp [Tm.cnames] at h
  | .sort _, x, h => by simp [Tm.cnames] at h
  | .const n ls, x, h => by
    simp only [Tm.cnames, List.mem_cons, List.not_mem_nil, or_false] at h
    subst h
    simp only [Tm.bytes, List.length_cons, List.length_append]
    omega
  | .app a b, x, h => by
    simp only [Tm.cnames, List.mem_append] at h
    simp only [Tm.bytes, List.length_cons, List.length_append]
    rcases h with h | h
    · have := names_short a x h; omega
    · have := names_short b x h; omega
  | .lam a b, x, h => by
    simp only [Tm.cnames, List.mem_append] at h
    simp only [Tm.bytes, List.length_cons, List.length_append]
    rcases h with h | h
    · have := names_short a x h; omega
    · have := names_short b x h; omega
  | .pi a b, x, h => by
    simp only [Tm.cnames, List.mem_append] at h
    simp only [Tm.bytes, List.length_cons, List.length_append]
    rcases h with h | h
    · have := names_short a x h; omega
    · have := names_short b x h; omega
  | .lett a b c, x, h => by
    simp only [Tm.cnames, List.mem_append] at h
    simp only [Tm.bytes, List.length_cons, List.length_append]
    rcases h with (h | h) | h
    · have := names_short a x h; omega
    · have := names_short b x h; omega
    · have := names_short c x h; omega
theorem parts_less : ∀ (t : Tm), ∀ p ∈ t.parts, p.size < t.size
  | .var _, p, h => by simp [Tm.parts] at h
  | .sort _, p, h => by simp [Tm.parts] at h
  | .const _ _, p, h => by simp [Tm.parts] at h
  | .app a b, p, h => by
    have := a.size_pos; have := b.size_pos
    simp only [Tm.parts, List.mem_cons, List.not_mem_nil, or_false] at h
    rcases h with rfl | rfl <;> simp only [Tm.size] <;> omega
  | .lam a b, p, h => by
    have := a.size_pos; have := b.size_pos
    simp only [Tm.parts, List.mem_cons, List.not_mem_nil, or_false] at h
    rcases h with rfl | rfl <;> simp only [Tm.size] <;> omega
  | .pi a b, p, h => by
    have := a.size_pos; have := b.size_pos
    simp only [Tm.parts, List.mem_cons, List.not_mem_nil, or_false] at h
    rcases h with rfl | rfl <;> simp only [Tm.size] <;> omega
  | .lett a b c, p, h => by
    have := a.size_pos; have := b.size_pos; have := c.size_pos
    simp only [Tm.parts, List.mem_cons, List.not_mem_nil, or_false] at h
    rcases h with rfl | rfl | rfl <;> simp only [Tm.size] <;> omega

/-- Rows of other elements than strings lie as they lay. -/
def KeepX (W W' : World) : Prop := ∀ {b : Nat} {e : TypeId} {z n : Nat} {v : Value} {xs : List Value}, e ≠ 9 → W.ownsRow b e z v n xs → W'.ownsRow b e z v n xs
theorem KeepX.below {W W' : World} (h : Below W.heap.size W W') : KeepX W W' := fun _ k => own_below k h
theorem KeepX.trans {A B C : World} (h : KeepX A B) (k : KeepX B C) : KeepX A C := fun he r => k he (h he r)
theorem KeepX.grown {W W' : World} {b n : Nat} {v : Value} {xs : List Value} (h : W.ownsRow b 9 1 v n xs) (hg : W.grownBy W' v.ownBlock) : KeepX W W' := fun he r => own_other r h he hg
/-- The names behind those that were there. -/
def UsesAns (B : Nat) (l : List (List UInt8)) (W : World) (e : Ending) (W' : World) : Prop :=
  ∃ u, e = .returned u ∧ W'.ownsRow B 9 1 u l.length (l.map sv) ∧ Below B W W' ∧ KeepX W W'

set_option maxHeartbeats 8000000 in
theorem implAppendUses {W0 : World} : ∀ (N : Nat) (T : Tm), T.size ≤ N → ∀ (v u : Value) (W : World) (l : List (List UInt8)), IRep W0 T v → Below W0.heap.size W0 W → W.ownsRow W0.heap.size 9 1 u l.length (l.map sv) → l.length + T.cnames.length ≤ 100000 →
    Calls Tryz.prog 74 #[u, v] W (UsesAns W0.heap.size (l ++ T.cnames) W) := by
  obtain ⟨i0, hi, hz0, hz1, hz2⟩ := info_parts infoStr
  intro N
  induction N with
  | zero => intro T hT; have := T.size_pos; omega
  | succ N ih =>
    intro T hT v u W l hr hB hu hlen
    obtain ⟨ua, uc, rfl⟩ := row_slice hu
    by_cases hk : T.kind = 99
    · obtain ⟨n, ls, rfl⟩ := kind_const hk
      obtain ⟨g, uu, rfl, hg, _⟩ := hr
      have c0 : W.cell? ⟨g, 0, none⟩ = some (.string ⟨n.toArray⟩) := (hB.cell (p := ⟨g, 0, none⟩) (Array.getElem?_eq_some_iff.1 hg).1).trans (by rw [Lib.cell_of_heap hg]; rfl)
      have tC := (taConst 82 (.pointer (some ⟨g, 0, none⟩)) W).trans (by rw [if_pos rfl])
      have hz := hB.size
      simp only [Tm.cnames, List.length_cons, List.length_nil] at hlen
      have HU := Lib.hid hu
      clear ih hg hk hT
      go_enter Tryz.func74, Tryz.ntmps74
      go_wp2_with (at_builtin; refine wpList_append_own _ rfl _ _ 34 rfl W0.heap.size 9 i0 _ 1 16 Tryz.underlying34 hi hz0 hz1 hz2 rfl (by decide) _ _ _ rfl (HU.out.alloc _) ⟨W.heap.size, 0, none⟩ 1 1 [.string ⟨n.toArray⟩] rfl rfl (oneNew _ _ _) (by simp [Value.oneCell']) (by simp only [maxLen]; omega) (by omega) (by simp; omega) ?_; intro v2 w2 hown2 hgrow hnil2)
      have HB2 : Hid (Below W0.heap.size W w2) := ((Below.refl _ W).alloc hz _).grown hgrow (by simp; omega) (fun q hq => (HU.out.lt q hq).1)
      have HO2 : Hid (w2.ownsRow W0.heap.size 9 1 v2 (l ++ [n]).length ((l ++ [n]).map sv)) := by
        rw [Hid, List.length_append, List.map_append]
        exact hown2
      have HK2 : Hid (∀ {b : Nat} {e : TypeId} {z n : Nat} {v : Value} {xs : List Value}, e ≠ 9 → W.ownsRow b e z v n xs → w2.ownsRow b e z v n xs) := KeepX.trans (KeepX.below ((Below.refl _ _).alloc (Nat.le_refl _) _)) (KeepX.grown (HU.out.alloc _) hgrow)
      clear hown2 hgrow hu
      go_wp2
      go_ret
      exact ⟨_, rfl, HO2.out, HB2.out, HK2.out⟩
    · have tC := asked_const hr hk W
      have f1 := Lib.hid (implPartsIn hr hB)
      unfold PartsIn at f1
      have HE := Lib.hid (names_parts hk)
      have HL := Lib.hid (parts_less T)
      have HU := Lib.hid hu
      have HB := Lib.hid hB
      have hps := parts_le3 T
      have hcl : (T.parts.flatMap Tm.cnames).length = T.cnames.length := by rw [HE.out]
      obtain ⟨T0, x0, rfl⟩ := hr.iface
      generalize T.parts = ps at f1 HE HL hps hcl
      have hl2 : l.length + (ps.flatMap Tm.cnames).length ≤ 100000 := by omega
      clear hr hk hB hu hcl
      go_enter Tryz.func74, Tryz.ntmps74
      go_wp2_with fail
      (with_reducible refine f1.out.mono ?_); rintro e w2 ⟨pv, vs, rfl, hpv, hvs, hb2⟩
      obtain ⟨pa, pc, rfl⟩ := row_slice hpv
      have hvl := hvs.len
      have hv1 : vs.length ≤ ps.length := by omega
      have hv2 : ps.length ≤ vs.length := by omega
      have HPV := Lib.hid hpv
      have HVS := Lib.hid hvs
      have HU2 := Lib.hid (own_below HU.out hb2)
      have HB2 : Hid (Below W0.heap.size W w2) := hb2.mono HB.out.size
      have HK2 : Hid (KeepX W w2) := KeepX.below hb2
      clear hpv hvs hvl hb2 f1 HU
      go_wp2
      go_loopw [0, 25] (fun o i wr => ∃ (k : Nat) (oo : Value), k ≤ ps.length ∧ i = .int .i64 k ∧ oo = o ∧ Hid (wr.ownsRow W0.heap.size 9 1 oo (l ++ (ps.take k).flatMap Tm.cnames).length ((l ++ (ps.take k).flatMap Tm.cnames).map sv)) ∧ Hid (Below W0.heap.size W wr ∧ KeepX w2 wr)) (fun _ i _ => ps.length - (intOf i).toNat)
      case atStart => exact ⟨0, _, Nat.zero_le _, rfl, rfl, by simpa [Hid] using HU2.out, HB2.out, KeepX.below (Below.refl _ _)⟩
      case round =>
        obtain ⟨k, oo, hk, rfl, rfl, HO, HW⟩ := hrel
        by_cases hlt : k < ps.length
        · have hu2 := HW.out.2 (by decide) HPV.out
          obtain ⟨g, cap', e0, _, hgl⟩ := hu2.form (by omega)
          cases e0
          have ex : vs[k]? = some vs[k] := by simp
          have cc := (hu2.cellAt k (by omega)).trans ex
          have hr := HVS.out.at k hlt (by omega)
          obtain ⟨T3, x3, e3⟩ := hr.iface
          have hbw : Below W0.heap.size W0 wr := HB.out.trans HW.out.1
          have htk : (ps.take (k + 1)).flatMap Tm.cnames = (ps.take k).flatMap Tm.cnames ++ ps[k].cnames := by
            rw [List.take_succ_eq_append_getElem hlt, List.flatMap_append]
            simp
          have hle : l.length + ((ps.take (k + 1)).flatMap Tm.cnames).length ≤ 100000 := by
            have h1 := congrArg List.length (congrArg (List.flatMap Tm.cnames) (List.take_append_drop (k + 1) ps))
            rw [List.flatMap_append, List.length_append] at h1
            omega
          have f3 := Lib.hid (ih ps[k] (by have := HL.out ps[k] (List.getElem_mem hlt); omega) vs[k] oo wr (l ++ (ps.take k).flatMap Tm.cnames) hr hbw HO.out (by rw [List.length_append]; rw [htk, List.length_append] at hle; omega))
          rw [List.append_assoc, ← htk] at f3
          unfold UsesAns at f3
          rw [e3] at f3 cc
          obtain ⟨oa, oc, rfl⟩ := row_slice HO.out
          have q1 : (0 : Int) ≤ (k : Int) := by omega
          have q2 : (k : Int) < (ps.length : Int) := by omega
          clear ex hu2 hr hbw htk hle e3
          generalize (l ++ (ps.take k).flatMap Tm.cnames).length = ol at f3 HO
          go_wp2_with fail
          (with_reducible refine f3.out.mono ?_); rintro e w3 ⟨u3, rfl, ho3, hb3, hk3⟩
          have HO3 := Lib.hid ho3
          have HW3 : Hid (Below W0.heap.size W w3 ∧ KeepX w2 w3) := ⟨HW.out.1.trans hb3, KeepX.trans HW.out.2 hk3⟩
          clear ho3 hb3 hk3 f3
          go_wp2
          go_roundw
          case rel => exact ⟨k + 1, _, by omega, by go_num, rfl, HO3.out, HW3.out⟩
          case measure => simp [intOf]; omega
        · obtain rfl : k = ps.length := by omega
          have HO2 : Hid (wr.ownsRow W0.heap.size 9 1 oo (l ++ T.cnames).length ((l ++ T.cnames).map sv)) := by
            have h1 := HO.out
            rw [List.take_length, HE.out] at h1
            exact h1
          clear HO
          go_wp2
          go_ret
          exact ⟨_, rfl, HO2.out, HW.out.1, KeepX.trans HK2.out HW.out.2⟩
set_option maxHeartbeats 4000000 in
theorem implUsesIn (s : ByteArray) (W : World) (hv : Vars W) (hs : s.size ≤ maxLen) :
    Calls Tryz.prog 45 #[.string s] W (LRes' (usesIn s.data.toList) W) := by
  have f1 := Lib.hid (implReadTerm s W hv hs)
  clear hv hs
  go_enter Tryz.func45, Tryz.ntmps45
  go_wp2_with fail
  (with_reducible refine f1.out.mono ?_); rintro e W1 ⟨hb, ⟨t, v, ht, rfl, hr⟩ | ⟨hno, rfl⟩⟩
  rotate_left
  · have HE : Hid (usesIn s.data.toList = []) := by rw [Hid, usesIn, termOf_none hno]
    have HB := Lib.hid hb
    clear hno hb f1
    go_wp2
    go_ret
    rw [HE.out]
    exact ⟨_, rfl, World.ownsRow_nil _ _ _ _, HB.out⟩
  have HE : Hid (usesIn s.data.toList = srt (t.cnames ++ [])) := by rw [Hid, usesIn, termOf_some ht, List.append_nil]
  have hle := ht.2.2
  rw [← ht.2.1] at hle
  have hcl := t.cnames_len
  have hsz := t.size_le
  have HX : Hid (∀ x ∈ t.cnames ++ [], x.length ≤ 1048576) := fun x hx => by
    rw [List.append_nil] at hx
    have := names_short t x hx
    omega
  have f2 := Lib.hid (implAppendUses t.size t (Nat.le_refl _) v (.slice none 0 0) W1 [] hr (Below.refl _ _) (World.ownsRow_nil _ _ _ _) (by simp only [List.length_nil]; omega))
  rw [List.nil_append] at f2
  unfold UsesAns at f2
  have HB := Lib.hid hb
  obtain ⟨T0, x0, rfl⟩ := hr.iface
  have hn : t.cnames.length + ([] : List (List UInt8)).length ≤ 1048576 := by simp only [List.length_nil]; omega
  clear hb ht hr hle hcl hsz f1
  generalize t.cnames = ns at f2 HE HX hn
  go_wp2_with fail
  (with_reducible refine f2.out.mono ?_); rintro e w2 ⟨u, rfl, hu, hb2, _⟩
  have f3 := Lib.hid (implNamesBoth (b := []) hu (World.ownsRow_nil w2 0 _ _) hn HX.out)
  have HB2 := Lib.hid (HB.out.trans (hb2.mono HB.out.size))
  obtain ⟨ua, uc, rfl⟩ := row_slice hu
  unfold LRes at f3
  generalize srt (ns ++ []) = r at f3 HE
  clear hu hb2 f2
  go_wp2_with fail
  (with_reducible refine f3.out.mono ?_); rintro e w3 ⟨u3, rfl, hu3, hb3⟩
  have HO : Hid (w3.ownsRow W.heap.size 9 1 u3 (usesIn s.data.toList).length ((usesIn s.data.toList).map sv)) := by
    rw [Hid, HE.out]
    exact own_baseE hu3 HB2.out.size
  have HB3 := Lib.hid (HB2.out.trans (hb3.mono HB2.out.size))
  clear hu3 hb3 f3
  go_wp2
  go_ret
  exact ⟨_, rfl, HO.out, HB3.out⟩
end Go.Proofs.YtimekfhchammnaaGreatDoor

namespace Go.Proofs
open Go.Shelf
def Tryz.laysDel_ren : Go.Shelf.Ren := ⟨fun | 10 => 46 | 6 => 75 | n => n, fun | 22 => 34 | 23 => 9 | 25 => 40 | 3 => 3 | 4 => 4 | 0 => 0 | n => n, fun | n => n⟩
theorem Tryz.laysDel : Go.Proofs.SlLaysH.n10 Tryz.prog Tryz.laysDel_ren := {
  mixed := by kernel_rfl
  f6 := ⟨Tryz.f75.name, by decide, Tryz.func75.trans (congrArg some (by kernel_rfl))⟩
  f10 := ⟨Tryz.f46.name, by decide, Tryz.func46.trans (congrArg some (by kernel_rfl))⟩
  t0 := Tryz.underlying0
  a0 := Tryz.isAgg0
  z0 := Tryz.sizeOf0
  v0 := Tryz.zeroValue0
  t3 := Tryz.underlying3
  a3 := Tryz.isAgg3
  z3 := Tryz.sizeOf3
  v3 := Tryz.zeroValue3
  t4 := Tryz.underlying4
  a4 := Tryz.isAgg4
  z4 := Tryz.sizeOf4
  v4 := Tryz.zeroValue4
  t22 := Tryz.underlying34
  a22 := Tryz.isAgg34
  z22 := Tryz.sizeOf34
  v22 := Tryz.zeroValue34
  a23 := Tryz.isAgg9
  z23 := Tryz.sizeOf9
  t25 := Tryz.underlying40
  a25 := Tryz.isAgg40
  z25 := Tryz.sizeOf40
  v25 := Tryz.zeroValue40 }
end Go.Proofs

namespace Go.Proofs.YtimekfhchammnaaGreatDoor
set_option maxRecDepth 100000
open Go.ChangeShapes Go.WideShapes Go.ChangeAt Go.RowKit Go.Sort
set_option linter.unusedSimpArgs false
set_option linter.unusedVariables false

/-- The literal: whether a name is the declaration's. -/
theorem isOwn (nm x : List UInt8) (B : Nat) (W : World) (hc : W.cell? ⟨B, 1, none⟩ = some (.string ⟨nm.toArray⟩)) :
    FnGives Tryz.prog 47 #[.pointer (some ⟨B, 0, none⟩)] #[sv x] (.bool (decide (x = nm))) W := by
  show Calls Tryz.prog 47 #[.string ⟨x.toArray⟩, .pointer (some ⟨B, 0, none⟩)] W _
  by_cases h : x = nm
  · have d : (x == nm) = true := by rw [beq_iff_eq]; exact h
    have HE := Lib.hid (decide_eq_true h)
    clear h
    go_enter Tryz.func47, Tryz.ntmps47
    go_wp2
    go_ret
    rw [HE.out]
    exact ⟨rfl, 0, rfl⟩
  · have d : (x == nm) = false := by rw [beq_eq_false_iff_ne]; exact h
    have HE := Lib.hid (decide_eq_false h)
    clear h
    go_enter Tryz.func47, Tryz.ntmps47
    go_wp2
    go_ret
    rw [HE.out]
    exact ⟨rfl, 0, rfl⟩
theorem heap_putE {w : World} {g n : Nat} {cur : Array Value} {e : TypeId} {fr : Nat × Nat} (d : Array (List UInt8)) (hb : w.heap[g]? = some (.cells cur e fr)) :
    (Go.Sort.putRow sv (Go.Sort.ahead w n) g 0 d).heap[g]? = some (.cells (Go.Sort.putCells sv 0 d cur) e fr) := by
  simp [Go.Sort.putRow, Go.Sort.mapBlock, Go.Sort.ahead, Array.getElem?_modify, hb, Go.Sort.onCells]
theorem grownBy_putE {w : World} {g n : Nat} (d : Array (List UInt8)) : w.grownBy (Go.Sort.putRow sv (Go.Sort.ahead w n) g 0 d) (some g) := by
  refine ⟨rfl, rfl, rfl, by simp [Go.Sort.putRow, Go.Sort.mapBlock, Go.Sort.ahead], fun k hk hne => ?_⟩
  have : g ≠ k := fun e => hne (by rw [e])
  simp [Go.Sort.putRow, Go.Sort.mapBlock, Go.Sort.ahead, Array.getElem?_modify, this]
theorem take_putE (cur : Array Value) (ts us : List (List UInt8)) (h : (ts ++ us).length ≤ cur.size) : (Go.Sort.putCells sv 0 (ts ++ us).toArray cur).toList.take ts.length = ts.map sv := by
  rw [List.length_append] at h
  apply List.ext_getElem?
  intro j
  by_cases hj : j < ts.length
  · rw [List.getElem?_take_of_lt hj, Array.getElem?_toList]
    simp [Go.Sort.putCells, hj, show j < cur.size by omega, show j < ts.length + us.length by omega]
  · rw [List.getElem?_take_eq_none (by omega), List.getElem?_eq_none (by simp; omega)]
theorem indexNone (f : Value) (w : World) : Calls Tryz.prog 75 #[.slice none 0 0, f] w fun e w' => e = .returned (.int .i64 (-1)) ∧ w' = w := by
  go_enter Tryz.func75, Tryz.ntmps75
  go_wp2
  refine wp_loop_rounds 1 ?_
  rw [rounds_succ]
  go_wp2
  go_ret
  exact ⟨rfl, rfl⟩
theorem deleteNone (f : Value) (w : World) : Calls Tryz.prog 46 #[.slice none 0 0, f] w fun e w' => e = .returned (.slice none 0 0) ∧ w' = w := by
  have f1 := Lib.hid fun W => indexNone f W
  go_enter Tryz.func46, Tryz.ntmps46
  go_wp2_with fail
  (with_reducible refine (f1.out _).mono ?_); rintro e w1 ⟨rfl, rfl⟩
  go_wp2
  go_ret
  exact ⟨rfl, rfl⟩
theorem deleteRow {w0 w : World} {B bx : Nat} {v : Value} {l : List (List UInt8)} {nm : List UInt8} (h : w.ownsRow B 9 1 v l.length (l.map sv)) (hb : Below B w0 w) (hbx : bx < B) (hB : B ≤ w.heap.size) (hc : w.cell? ⟨bx, 1, none⟩ = some (.string ⟨nm.toArray⟩)) (hn : l.length ≤ 10000000) :
    Calls Tryz.prog 46 #[v, .func (.func 47) #[] #[.pointer (some ⟨bx, 0, none⟩)]] w fun e w' => ∃ v', e = .returned v' ∧ w'.ownsRow B 9 1 v' (l.filter fun x => decide (x ≠ nm)).length ((l.filter fun x => decide (x ≠ nm)).map sv) ∧ Below B w0 w' := by
  rcases h.2 with ⟨rfl, h0⟩ | ⟨g, cap, cur, rfl, hBg, hg, hnc, hcm, hcs, htk⟩
  · obtain rfl : l = [] := List.length_eq_zero_iff.1 h0
    refine (deleteNone _ w).mono ?_
    rintro e w' ⟨rfl, rfl⟩
    exact ⟨_, rfl, by simpa using h, hb⟩
  · have hgl : g < w.heap.size := (Array.getElem?_eq_some_iff.1 hg).1
    have hH : Go.Sort.Holds sv w g 0 l.toArray := by
      intro j hj
      have hj' : j < l.length := by simpa using hj
      refine ⟨?_, by rw [Nat.zero_add]; exact h.frozenAt j⟩
      rw [Nat.zero_add, h.cellAt j (by omega), getElem!_pos _ j hj]
      simp [hj']
    have eg : ∀ args w, (callFunc 47 args).run Tryz.prog w = .ok (.enter 47 args) w := enters_of Tryz.func47 (by kernel_rfl) rfl
    have hp : PredAt Tryz.prog 47 #[.pointer (some ⟨bx, 0, none⟩)] sv (fun x => decide (x = nm)) w :=
      fun W x hW => isOwn nm x bx W ((hW.cell (p := ⟨bx, 1, none⟩) (show bx < _ by omega)).trans hc)
    have hpo : PredOver Tryz.prog 47 #[.pointer (some ⟨bx, 0, none⟩)] sv (fun x => decide (x = nm)) g 0 l.toArray.size w :=
      fun n os dk x _ => isOwn nm x bx _ (by
        unfold sortWorld
        rw [cell?_grow _ _ _ (by show bx < (putRow _ _ _ _ _).heap.size; rw [size_putRow]; show bx < w.heap.size; omega), cell?_putRow_other _ _ g 0 _ _ (Or.inl (show bx ≠ g by omega))]
        exact hc)
    have hcon := AnyE.slices_DeleteFunc Tryz.laysDel sv (fun _ => rfl) (fun x => decide (x = nm)) 47 #[.pointer (some ⟨bx, 0, none⟩)] eg [] Tryz.zeroValue9 g 0 cap l.toArray w hp hpo hH (by simp; omega) (by simpa using hnc)
    have ef : (l.toArray.toList.filter fun x => !decide (x = nm)) = l.filter fun x => decide (x ≠ nm) := by
      simp
    rw [ef] at hcon
    have es : l.toArray.size = l.length := by simp
    rw [es] at hcon
    have hlen : (l.filter fun x => decide (x ≠ nm)).length ≤ l.length := List.length_filter_le _ _
    generalize (l.filter fun x => decide (x ≠ nm)) = r at hcon hlen ⊢
    refine Calls.mono hcon ?_
    rintro e w' ⟨rfl, q, rfl⟩
    have hsz : (r ++ List.replicate (l.length - r.length) ([] : List UInt8)).length ≤ cur.size := by
      rw [List.length_append, List.length_replicate]; omega
    refine ⟨_, rfl, ⟨by simp, .inr ⟨g, cap, _, rfl, hBg, heap_putE _ hg, by omega, hcm, by simp [Go.Sort.putCells, hcs], ?_⟩⟩, hb.grown (grownBy_putE _) (by omega) (fun j hj => by cases hj; exact hBg)⟩
    rw [Nat.mul_one]
    exact take_putE cur r _ hsz
end Go.Proofs.YtimekfhchammnaaGreatDoor

namespace Go.Proofs.YtimekfhchammnaaGreatDoor
set_option maxRecDepth 100000
open Go.ChangeShapes Go.WideShapes Go.ChangeAt Go.RowKit
set_option linter.unusedSimpArgs false
set_option linter.unusedVariables false

theorem srt_again (a b : List BL) : srt (srt a ++ b) = srt (a ++ b) := by
  obtain ⟨a1, a2, _⟩ := srt_spec _ a (Nat.le_refl _)
  obtain ⟨b1, b2, _⟩ := srt_spec _ (srt a ++ b) (Nat.le_refl _)
  obtain ⟨c1, c2, _⟩ := srt_spec _ (a ++ b) (Nat.le_refl _)
  refine asc_unique _ _ b1 c1 fun z => ?_
  rw [b2, c2, List.mem_append, List.mem_append, a2]
theorem usesIn_short (l : List UInt8) : ∀ x ∈ usesIn l, x.length ≤ 1048576 := by
  intro x hx
  unfold usesIn at hx
  cases h : termOf l with
  | none => rw [h] at hx; cases hx
  | some t =>
    rw [h] at hx
    have ht := termOf_is h
    have h1 := names_short t x ((srt_spec _ t.cnames (Nat.le_refl _)).2.1 x |>.1 hx)
    have h2 := ht.2.2
    rw [← ht.2.1] at h2
    omega
theorem usesAll_short (d : Dc) (k : Nat) : ∀ x ∈ usesAll d k, x.length ≤ 1048576 := by
  intro x hx
  unfold usesAll at hx
  rw [List.mem_append, List.mem_append] at hx
  rcases hx with (hx | hx) | hx
  · exact usesIn_short _ x hx
  · exact usesIn_short _ x hx
  · obtain ⟨c, _, hc⟩ := List.mem_flatMap.1 hx
    exact usesIn_short _ x hc
/-- The names used so far, sorted. -/
noncomputable def usesK (d : Dc) (k : Nat) : List BL := srt (usesAll d k)
theorem usesK_len (d : Dc) (k : Nat) : (usesK d k).length ≤ 4000 + 2000 * k :=
  Nat.le_trans (srt_spec _ (usesAll d k) (Nat.le_refl _)).2.2 (usesAll_len d k)
theorem usesK_short (d : Dc) (k : Nat) : ∀ x ∈ usesK d k, x.length ≤ 1048576 := fun x hx => usesAll_short d k x ((srt_spec _ (usesAll d k) (Nat.le_refl _)).2.1 x |>.1 hx)
theorem usesK_zero (d : Dc) : usesK d 0 = srt (usesIn d.type ++ usesIn d.value) := by
  unfold usesK usesAll
  simp
theorem usesK_succ {d : Dc} {k : Nat} (h : k < d.ctors.length) : usesK d (k + 1) = srt (usesK d k ++ usesIn d.ctors[k].2) := by
  unfold usesK
  rw [usesAll_succ h, srt_again]

set_option maxHeartbeats 8000000 in
theorem implUsesOf {w : World} {d : Dc} {b : Nat} {u : Value} (h : w.ownsRow b 49 2 u d.ctors.length (flatC d.ctors)) (hs : d.Small) (hr : d.Rng) (hv : Vars w) (hm : MaxLenInt w) :
    Calls Tryz.prog 22 #[d.val u] w (LRes' (usesOf d) w) := by
  obtain ⟨kd, nm, ps, fl, ty, vl, cs⟩ := d
  obtain ⟨ua, uc, rfl⟩ := row_sliceD h
  have HB0 := Lib.hid (alloc_any w (.cells #[.int .i64 kd, .string ⟨nm.toArray⟩, .int .i64 ps, .int .i64 fl, .string ⟨ty.toArray⟩, .string ⟨vl.toArray⟩, .slice ua cs.length uc] 29))
  have HROW := Lib.hid (own_below h HB0.out)
  have f1 := Lib.hid (implDeclOk (d := ⟨kd, nm, ps, fl, ty, vl, cs⟩) (own_below h HB0.out) hs hr (hv.below HB0.out) (hm.below HB0.out))
  have hval : Dc.val ⟨kd, nm, ps, fl, ty, vl, cs⟩ (.slice ua cs.length uc) = .agg #[.int .i64 kd, .string ⟨nm.toArray⟩, .int .i64 ps, .int .i64 fl, .string ⟨ty.toArray⟩, .string ⟨vl.toArray⟩, .slice ua cs.length uc] := rfl
  rw [hval] at f1 ⊢
  have s1 := hs.name
  have s2 := hs.type
  have s3 := hs.value
  have s4 := hs.ctors
  have s5 := Lib.hid hs.each
  simp only at s1 s2 s3 s4 s5
  have HE : Hid (usesOf ⟨kd, nm, ps, fl, ty, vl, cs⟩ = if declOk ⟨kd, nm, ps, fl, ty, vl, cs⟩ = true then (usesK ⟨kd, nm, ps, fl, ty, vl, cs⟩ cs.length).filter (fun x => decide (kd ≠ 4 ∨ x ≠ nm)) else []) := rfl
  have HP : Hid (declOk ⟨kd, nm, ps, fl, ty, vl, cs⟩ = true → cs.length ≤ 6) := fun h => declOk_ctors h
  have HL := Lib.hid (usesK_len ⟨kd, nm, ps, fl, ty, vl, cs⟩)
  have HSh := Lib.hid (usesK_short ⟨kd, nm, ps, fl, ty, vl, cs⟩)
  have HU0 := Lib.hid (usesK_zero ⟨kd, nm, ps, fl, ty, vl, cs⟩)
  have HUS := Lib.hid fun (k : Nat) (h : k < cs.length) => usesK_succ (d := ⟨kd, nm, ps, fl, ty, vl, cs⟩) h
  have HX := Lib.hid (declBox (w := w) (kd := kd) (ps := ps) (fl := fl) (nm := nm) (ty := ty) (vl := vl) (u := .slice ua cs.length uc))
  have znm := size_sv nm
  have zty := size_sv ty
  have zvl := size_sv vl
  have fC : Hid (∀ (c : List UInt8), c.length ≤ 1048576 → ∀ W : World, Vars W → Calls Tryz.prog 45 #[.string ⟨c.toArray⟩] W (LRes' (usesIn c) W)) := fun c hc W hW => implUsesIn (⟨c.toArray⟩ : ByteArray) W hW (by have := size_sv c; unfold maxLen; omega)
  have fT := Lib.hid (fC.out ty s2)
  have fV := Lib.hid (fC.out vl s3)
  have lT := Lib.hid (usesIn_len ty)
  have lV := Lib.hid (usesIn_len vl)
  have HSTV : Hid (∀ x ∈ usesIn ty ++ usesIn vl, x.length ≤ 1048576) := fun x hx => by
    rcases List.mem_append.1 hx with hx | hx
    · exact usesIn_short _ x hx
    · exact usesIn_short _ x hx
  have HVr := Lib.hid (hv.below HB0.out)
  obtain ⟨c0, c1, c2, c3, c4, c5, c6⟩ := HX.out _ (Below.refl _ _)
  clear h hval hs hr hv hm
  simp only at HUS HU0
  generalize declOk ⟨kd, nm, ps, fl, ty, vl, cs⟩ = ok at f1 HE HP
  generalize usesK ⟨kd, nm, ps, fl, ty, vl, cs⟩ = uk at HE HL HU0 HUS HSh
  go_enter Tryz.func22, Tryz.ntmps22
  go_wp2_with fail
  (with_reducible refine f1.out.mono ?_); rintro e w1 ⟨rfl, hb⟩
  have HBX := Lib.hid hb
  have HB1 := Lib.hid (HB0.out.trans (hb.mono HB0.out.size))
  clear c0 c1 c2 c3 c4 c5 c6
  obtain ⟨c0, c1, c2, c3, c4, c5, c6⟩ := HX.out _ hb
  clear hb f1
  cases ok
  · have HF : Hid (usesOf ⟨kd, nm, ps, fl, ty, vl, cs⟩ = []) := by rw [Hid, HE.out]; rfl
    clear HX HROW
    go_wp2
    go_ret
    rw [HF.out]
    exact ⟨_, rfl, World.ownsRow_nil _ _ _ _, HB1.out⟩
  have HV : Hid (usesOf ⟨kd, nm, ps, fl, ty, vl, cs⟩ = (uk cs.length).filter (fun x => decide (kd ≠ 4 ∨ x ≠ nm))) := by rw [Hid, HE.out]; rfl
  have hc6 := HP.out rfl
  have hl0 : (usesIn ty).length ≤ 2000 := lT.out
  have hl1 : (usesIn vl).length ≤ 2000 := lV.out
  clear HE HP
  obtain ⟨W0, hW0⟩ : ∃ W0, (w.alloc (.cells #[.int .i64 kd, .string ⟨nm.toArray⟩, .int .i64 ps, .int .i64 fl, .string ⟨ty.toArray⟩, .string ⟨vl.toArray⟩, .slice ua cs.length uc] 29)) = W0 := ⟨_, rfl⟩
  have hbox : w.heap.size < W0.heap.size := by rw [← hW0]; simp
  rw [hW0] at HX HROW HB0 HBX HVr
  clear hW0
  have hzW := HBX.out.size
  have HVb := Lib.hid fun W (hb : Below W0.heap.size W0 W) => HVr.out.below hb
  clear HVr
  have fN := Lib.hid fun (W : World) (b1 b2 : Nat) (v1 v2 : Value) (h1 : W.ownsRow b1 9 1 v1 (usesIn ty).length ((usesIn ty).map sv)) (h2 : W.ownsRow b2 9 1 v2 (usesIn vl).length ((usesIn vl).map sv)) => implNamesBoth h1 h2 (by omega) HSTV.out
  unfold LRes at fN
  go_upto_region 3 with fail
  go_cut [3] (fun s3 wx => Hid (wx.ownsRow W0.heap.size 9 1 s3 (uk 0).length ((uk 0).map sv)) ∧ Hid (Below W0.heap.size W0 wx))
  case first =>
    go_region_held3 (fun w' => w'.cell? ⟨w.heap.size, 0, none⟩ = some (.int .i64 kd) ∧ w'.cell? ⟨w.heap.size, 1, none⟩ = some (.string ⟨nm.toArray⟩) ∧ w'.cell? ⟨w.heap.size, 2, none⟩ = some (.int .i64 ps) ∧ w'.cell? ⟨w.heap.size, 3, none⟩ = some (.int .i64 fl) ∧ w'.cell? ⟨w.heap.size, 4, none⟩ = some (.string ⟨ty.toArray⟩) ∧ w'.cell? ⟨w.heap.size, 5, none⟩ = some (.string ⟨vl.toArray⟩) ∧ w'.cell? ⟨w.heap.size, 6, none⟩ = some (.slice ua cs.length uc)) (first | exact XA | exact XT | exact XV | exact ⟨c0, c1, c2, c3, c4, c5, c6⟩)
      (first
        | (go_at_call_of 45 (Value.string ⟨ty.toArray⟩); first
            | ((with_reducible refine (fT.out _ (HVb.out _ hdV)).mono ?_); rintro e wT ⟨vT, rfl, hvT, hbT⟩; have hdT := hdV.trans (hbT.mono hdV.size); have hvV2 := own_below hvV hbT; have XT := HX.out _ hdT)
            | ((with_reducible refine (fT.out _ (HVb.out _ HBX.out.drew)).mono ?_); rintro e wT ⟨vT, rfl, hvT, hbT⟩; have hdT := HBX.out.drew.trans (hbT.mono HBX.out.drew.size); have XT := HX.out _ hdT))
        | (go_at_call_of 45 (Value.string ⟨vl.toArray⟩); first
            | ((with_reducible refine (fV.out _ (HVb.out _ hdT)).mono ?_); rintro e wV ⟨vV, rfl, hvV, hbV⟩; have hdV := hdT.trans (hbV.mono hdT.size); have hvT2 := own_below hvT hbV; have XV := HX.out _ hdV)
            | ((with_reducible refine (fV.out _ (HVb.out _ HBX.out.drew)).mono ?_); rintro e wV ⟨vV, rfl, hvV, hbV⟩; have hdV := HBX.out.drew.trans (hbV.mono HBX.out.drew.size); have XV := HX.out _ hdV))
        | (go_at_call 44; (with_reducible refine (fN.out _ _ _ _ _ hvT2 hvV).mono ?_); rintro e wA ⟨vA, rfl, hoA0, hbA⟩; have hoA := own_lower hoA0 hdV.size; have hdA := hdV.trans (hbA.mono hdV.size); have XA := HX.out _ hdA)
        | (go_at_call 44; (with_reducible refine (fN.out _ _ _ _ _ hvT hvV2).mono ?_); rintro e wA ⟨vA, rfl, hoA0, hbA⟩; have hoA := own_lower hoA0 hdT.size; have hdA := hdT.trans (hbA.mono hdT.size); have XA := HX.out _ hdA))
    all_goals (go_wp2_with fail; go_meet; rw [HU0.out]; exact ⟨hoA, hdA⟩)
  case rest =>
    obtain ⟨HL0, HW0⟩ := hcut
    clear c0 c1 c2 c3 c4 c5 c6 fT fV fN lT lV hl0 hl1 HB1 HBX hzW HSTV
    obtain ⟨l0, l1, l2, l3, l4, l5, l6⟩ := HX.out _ HW0.out
    go_wp2
    clear l0 l1 l2 l3 l4 l5 l6
    go_loopw [3, 19] (fun o i wr => ∃ (k : Nat) (oo : Value), k ≤ cs.length ∧ i = .int .i64 k ∧ oo = o ∧ Hid (wr.ownsRow W0.heap.size 9 1 oo (uk k).length ((uk k).map sv)) ∧ Hid (Below W0.heap.size W0 wr)) (fun _ i _ => cs.length - (intOf i).toNat)
    case atStart => exact ⟨0, _, Nat.zero_le _, rfl, rfl, HL0.out, HW0.out⟩
    case round =>
      obtain ⟨k, oo, hk, rfl, rfl, HO, HW⟩ := hrel
      clear HL0 HW0
      obtain ⟨c0, c1, c2, c3, c4, c5, c6⟩ := HX.out _ HW.out
      have hz := HW.out.size
      have hlk := HL.out k
      by_cases hlt : k < cs.length
      · have hrow := own_below HROW.out HW.out
        obtain ⟨g, cap', eg, _, hgl⟩ := hrow.form (by omega)
        cases eg
        obtain ⟨fa, fb⟩ := flatC_at hlt
        have x1 := (hrow.cellAt (k * 2) (by omega)).trans fa
        have y1 := (hrow.cellAt (k * 2 + 1) (by omega)).trans fb
        unfold sv at x1 y1
        have HT := HUS.out k hlt
        have fc := Lib.hid (fC.out cs[k].2 (s5.out _ (List.getElem_mem hlt)).2)
        have hlc := usesIn_len cs[k].2
        have hsc := usesIn_short cs[k].2
        have q1 : (0 : Int) ≤ (k : Int) := by omega
        have q2 : (k : Int) < (cs.length : Int) := by omega
        clear fa fb hrow
        generalize cs[k] = ck at x1 y1 HT fc hlc hsc
        obtain ⟨n, t⟩ := ck
        simp only at x1 y1 HT fc hlc hsc
        have HShk : Hid (∀ x ∈ uk k ++ usesIn t, x.length ≤ 1048576) := fun x hx => by
          rcases List.mem_append.1 hx with hx | hx
          · exact HSh.out k x hx
          · exact hsc x hx
        have HOw := Lib.hid (HO.out.alloc (.cells #[.string ⟨n.toArray⟩, .string ⟨t.toArray⟩] 49))
        have HWk := Lib.hid (HW.out.alloc hz (.cells #[.string ⟨n.toArray⟩, .string ⟨t.toArray⟩] 49))
        have hzk : W0.heap.size ≤ (wr.alloc (.cells #[.string ⟨n.toArray⟩, .string ⟨t.toArray⟩] 49)).heap.size := by simp; omega
        have m2 : (wr.alloc (.cells #[.string ⟨n.toArray⟩, .string ⟨t.toArray⟩] 49)).cell? ⟨wr.heap.size, 1, none⟩ = some (.string ⟨t.toArray⟩) := World.news_of_block (cs := #[.string ⟨n.toArray⟩, .string ⟨t.toArray⟩]) (t := 49) (fr := (0, 0)) (heap_alloc_new wr _) 1 _ rfl
        have fc' := Lib.hid (fc.out _ (HVb.out _ HWk.out))
        clear fc hsc
        go_wp2_with fail
        (with_reducible refine fc'.out.mono ?_); rintro e w5 ⟨v5, rfl, hv5, hb5⟩
        have HO5 := own_below HOw.out hb5
        have HW5 := HWk.out.trans (hb5.mono HWk.out.size)
        have f6 := Lib.hid (implNamesBoth HO5 hv5 (by omega) HShk.out)
        unfold LRes at f6
        obtain ⟨va, vc, rfl⟩ := own_sliceV hv5
        obtain ⟨xa, xc, rfl⟩ := own_sliceV HO5
        have H5 := Lib.hid HW5
        clear hv5 hb5 HO5 HOw HO fc'
        go_wp2_with fail
        (with_reducible refine f6.out.mono ?_); rintro e w6 ⟨v6, rfl, hv6, hb6⟩
        have HO6 : Hid (w6.ownsRow W0.heap.size 9 1 v6 (uk (k + 1)).length ((uk (k + 1)).map sv)) := by
          rw [Hid, HT]
          exact own_lower hv6 H5.out.size
        have HW6 := Lib.hid (H5.out.trans (hb6.mono H5.out.size))
        clear hv6 hb6 f6
        go_wp2
        go_roundw
        case rel => exact ⟨k + 1, _, by omega, by go_num, rfl, HO6.out, HW6.out⟩
        case measure => simp [intOf]; omega
      · obtain rfl : k = cs.length := by omega
        have HBF := Lib.hid (HB0.out.trans (HW.out.mono HB0.out.size))
        have hz0 := HB0.out.size
        by_cases k4 : kd = 4
        · have HF : Hid (usesOf ⟨kd, nm, ps, fl, ty, vl, cs⟩ = (uk cs.length).filter fun x => decide (x ≠ nm)) := by
            rw [Hid, HV.out]
            simp [k4]
          have f7 := Lib.hid (deleteRow (w0 := W0) (bx := w.heap.size) (nm := nm) HO.out HW.out hbox hz c1 (by omega))
          have HLen := Lib.hid (List.length_filter_le (fun x => decide (x ≠ nm)) (uk cs.length))
          rw [← HF.out] at f7
          have b4 : (kd == 4) = true := by rw [beq_iff_eq]; exact k4
          clear k4 HV HUS HU0 HL fC HF HLen
          go_wp2_with fail
          (with_reducible refine f7.out.mono ?_); rintro e w8 ⟨v8, rfl, hv8, hb8⟩
          have HO8 := Lib.hid (own_lower hv8 hz0)
          have HB8 := Lib.hid (HB0.out.trans (hb8.mono hz0))
          clear hv8 hb8 f7
          go_wp2
          go_ret
          exact ⟨_, rfl, HO8.out, HB8.out⟩
        · have HF : Hid (usesOf ⟨kd, nm, ps, fl, ty, vl, cs⟩ = uk cs.length) := by
            rw [Hid, HV.out]
            simp [k4]
          have b4 : (kd == 4) = false := by rw [beq_eq_false_iff_ne]; exact k4
          have HO9 : Hid (wr.ownsRow w.heap.size 9 1 oo (usesOf ⟨kd, nm, ps, fl, ty, vl, cs⟩).length ((usesOf ⟨kd, nm, ps, fl, ty, vl, cs⟩).map sv)) := by
            rw [Hid, HF.out]
            exact own_lower HO.out hz0
          clear k4 HV HUS HU0 HL fC
          go_wp2
          go_ret
          exact ⟨_, rfl, HO9.out, HBF.out⟩
end Go.Proofs.YtimekfhchammnaaGreatDoor
