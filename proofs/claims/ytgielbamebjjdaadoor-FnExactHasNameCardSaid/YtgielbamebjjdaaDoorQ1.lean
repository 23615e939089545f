/-
  The contract of impl.partsOf at a term that was made earlier; the contract of impl.appendUses.
  The contracts of impl.usesName and impl.HasName (as landed in be475a9).
-/
import Derived.Test.YtgielbamebjjdaaDoorP3
import Derived.Test.YtgielbamebjjdaaDoorEMath
import Derived.Test.YtgielbamebjjdaaDoorEUses
import Derived.Test.YtgielbamebjjdaaDoorEKeep
namespace Go.Proofs.YtgielbamebjjdaaDoor
set_option maxRecDepth 100000
open Go.ChangeShapes Go.WideShapes Go.ChangeAt Go.RowKit
set_option linter.unusedSimpArgs false
set_option linter.unusedVariables false

/-- The parts' values in new memory; the parts themselves lie where they lay. -/
def PartsIn (W0 : World) (t : Tm) (W : World) (e : Ending) (W' : World) : Prop :=
  ∃ v vs, e = .returned v ∧ W'.ownsRow W.heap.size 27 1 v t.parts.length vs ∧ IReps W0 t.parts vs ∧ Below W.heap.size W W'
set_option maxHeartbeats 2000000 in
theorem implPartsIn {W0 : World} {t : Tm} {v : Value} {W : World} (h : IRep W0 t v) (hB : Below W0.heap.size W0 W) : Calls Tryd.prog 21 #[v] W (PartsIn W0 t W) := by
  cases t with
  | var n =>
    obtain ⟨g, rfl, hg⟩ := h
    clear hg hB
    have aApp : ∀ v w, (Instr.typeAssert (.iface 57 v) 27 67 true).run Tryd.prog w = .ok (.tuple #[.pointer none, .bool false]) w := fun v w => by rw [taApp, if_neg (by decide)]
    have aLam : ∀ v w, (Instr.typeAssert (.iface 57 v) 27 70 true).run Tryd.prog w = .ok (.tuple #[.pointer none, .bool false]) w := fun v w => by rw [taLam, if_neg (by decide)]
    have aPi : ∀ v w, (Instr.typeAssert (.iface 57 v) 27 73 true).run Tryd.prog w = .ok (.tuple #[.pointer none, .bool false]) w := fun v w => by rw [taPi, if_neg (by decide)]
    have aLet : ∀ v w, (Instr.typeAssert (.iface 57 v) 27 76 true).run Tryd.prog w = .ok (.tuple #[.pointer none, .bool false]) w := fun v w => by rw [taLet, if_neg (by decide)]
    go_enter Tryd.func21, Tryd.ntmps21
    go_wp2
    go_ret
    exact ⟨_, [], rfl, World.ownsRow_nil _ _ _ _, trivial, Below.refl _ _⟩
  | sort n =>
    obtain ⟨g, rfl, hg⟩ := h
    clear hg hB
    have aApp : ∀ v w, (Instr.typeAssert (.iface 61 v) 27 67 true).run Tryd.prog w = .ok (.tuple #[.pointer none, .bool false]) w := fun v w => by rw [taApp, if_neg (by decide)]
    have aLam : ∀ v w, (Instr.typeAssert (.iface 61 v) 27 70 true).run Tryd.prog w = .ok (.tuple #[.pointer none, .bool false]) w := fun v w => by rw [taLam, if_neg (by decide)]
    have aPi : ∀ v w, (Instr.typeAssert (.iface 61 v) 27 73 true).run Tryd.prog w = .ok (.tuple #[.pointer none, .bool false]) w := fun v w => by rw [taPi, if_neg (by decide)]
    have aLet : ∀ v w, (Instr.typeAssert (.iface 61 v) 27 76 true).run Tryd.prog w = .ok (.tuple #[.pointer none, .bool false]) w := fun v w => by rw [taLet, if_neg (by decide)]
    go_enter Tryd.func21, Tryd.ntmps21
    go_wp2
    go_ret
    exact ⟨_, [], rfl, World.ownsRow_nil _ _ _ _, trivial, Below.refl _ _⟩
  | const n ls =>
    obtain ⟨g, u, rfl, hg, hu⟩ := h
    clear hu hg hB
    have aApp : ∀ v w, (Instr.typeAssert (.iface 45 v) 27 67 true).run Tryd.prog w = .ok (.tuple #[.pointer none, .bool false]) w := fun v w => by rw [taApp, if_neg (by decide)]
    have aLam : ∀ v w, (Instr.typeAssert (.iface 45 v) 27 70 true).run Tryd.prog w = .ok (.tuple #[.pointer none, .bool false]) w := fun v w => by rw [taLam, if_neg (by decide)]
    have aPi : ∀ v w, (Instr.typeAssert (.iface 45 v) 27 73 true).run Tryd.prog w = .ok (.tuple #[.pointer none, .bool false]) w := fun v w => by rw [taPi, if_neg (by decide)]
    have aLet : ∀ v w, (Instr.typeAssert (.iface 45 v) 27 76 true).run Tryd.prog w = .ok (.tuple #[.pointer none, .bool false]) w := fun v w => by rw [taLet, if_neg (by decide)]
    go_enter Tryd.func21, Tryd.ntmps21
    go_wp2
    go_ret
    exact ⟨_, [], rfl, World.ownsRow_nil _ _ _ _, trivial, Below.refl _ _⟩
  | app a b =>
    obtain ⟨g, x, y, rfl, hg, hx, hy⟩ := h
    have HX := Lib.hid hx
    have HY := Lib.hid hy
    obtain ⟨T0, x0, rfl⟩ := hx.iface
    obtain ⟨T1, y0, rfl⟩ := hy.iface
    have c0 : W.cell? ⟨g, 0, none⟩ = some (.iface T0 x0) := (hB.cell (p := ⟨g, 0, none⟩) (Array.getElem?_eq_some_iff.1 hg).1).trans (by rw [Lib.cell_of_heap hg]; rfl)
    have c1 : W.cell? ⟨g, 1, none⟩ = some (.iface T1 y0) := (hB.cell (p := ⟨g, 1, none⟩) (Array.getElem?_eq_some_iff.1 hg).1).trans (by rw [Lib.cell_of_heap hg]; rfl)
    clear hx hy hg hB
    have aApp : ∀ v w, (Instr.typeAssert (.iface 67 v) 27 67 true).run Tryd.prog w = .ok (.tuple #[v, .bool true]) w := fun v w => by rw [taApp, if_pos rfl]
    go_enter Tryd.func21, Tryd.ntmps21
    go_wp2
    go_region
    all_goals
      go_wp2
      go_ret
      have hb2 := (below_drewN (Below.refl W.heap.size W) 1).alloc (Nat.le_refl _) (.cells #[.iface T0 x0, .iface T1 y0] 27)
      have hrow := World.ownsRow_lit (size := 1) (base := W.heap.size) (e := 27) (W.drewN 1) #[.iface T0 x0, .iface T1 y0] 2 (Nat.le_refl _) (by decide) (by simp)
      exact ⟨_, [.iface T0 x0, .iface T1 y0], rfl, hrow, ⟨HX.out, HY.out, trivial⟩, hb2⟩
  | lam a b =>
    obtain ⟨g, x, y, rfl, hg, hx, hy⟩ := h
    have HX := Lib.hid hx
    have HY := Lib.hid hy
    obtain ⟨T0, x0, rfl⟩ := hx.iface
    obtain ⟨T1, y0, rfl⟩ := hy.iface
    have c0 : W.cell? ⟨g, 0, none⟩ = some (.iface T0 x0) := (hB.cell (p := ⟨g, 0, none⟩) (Array.getElem?_eq_some_iff.1 hg).1).trans (by rw [Lib.cell_of_heap hg]; rfl)
    have c1 : W.cell? ⟨g, 1, none⟩ = some (.iface T1 y0) := (hB.cell (p := ⟨g, 1, none⟩) (Array.getElem?_eq_some_iff.1 hg).1).trans (by rw [Lib.cell_of_heap hg]; rfl)
    clear hx hy hg hB
    have aApp : ∀ v w, (Instr.typeAssert (.iface 70 v) 27 67 true).run Tryd.prog w = .ok (.tuple #[.pointer none, .bool false]) w := fun v w => by rw [taApp, if_neg (by decide)]
    have aLam : ∀ v w, (Instr.typeAssert (.iface 70 v) 27 70 true).run Tryd.prog w = .ok (.tuple #[v, .bool true]) w := fun v w => by rw [taLam, if_pos rfl]
    go_enter Tryd.func21, Tryd.ntmps21
    go_wp2
    go_region
    all_goals
      go_wp2
      go_ret
      have hb2 := (below_drewN (Below.refl W.heap.size W) 1).alloc (Nat.le_refl _) (.cells #[.iface T0 x0, .iface T1 y0] 27)
      have hrow := World.ownsRow_lit (size := 1) (base := W.heap.size) (e := 27) (W.drewN 1) #[.iface T0 x0, .iface T1 y0] 2 (Nat.le_refl _) (by decide) (by simp)
      exact ⟨_, [.iface T0 x0, .iface T1 y0], rfl, hrow, ⟨HX.out, HY.out, trivial⟩, hb2⟩
  | pi a b =>
    obtain ⟨g, x, y, rfl, hg, hx, hy⟩ := h
    have HX := Lib.hid hx
    have HY := Lib.hid hy
    obtain ⟨T0, x0, rfl⟩ := hx.iface
    obtain ⟨T1, y0, rfl⟩ := hy.iface
    have c0 : W.cell? ⟨g, 0, none⟩ = some (.iface T0 x0) := (hB.cell (p := ⟨g, 0, none⟩) (Array.getElem?_eq_some_iff.1 hg).1).trans (by rw [Lib.cell_of_heap hg]; rfl)
    have c1 : W.cell? ⟨g, 1, none⟩ = some (.iface T1 y0) := (hB.cell (p := ⟨g, 1, none⟩) (Array.getElem?_eq_some_iff.1 hg).1).trans (by rw [Lib.cell_of_heap hg]; rfl)
    clear hx hy hg hB
    have aApp : ∀ v w, (Instr.typeAssert (.iface 73 v) 27 67 true).run Tryd.prog w = .ok (.tuple #[.pointer none, .bool false]) w := fun v w => by rw [taApp, if_neg (by decide)]
    have aLam : ∀ v w, (Instr.typeAssert (.iface 73 v) 27 70 true).run Tryd.prog w = .ok (.tuple #[.pointer none, .bool false]) w := fun v w => by rw [taLam, if_neg (by decide)]
    have aPi : ∀ v w, (Instr.typeAssert (.iface 73 v) 27 73 true).run Tryd.prog w = .ok (.tuple #[v, .bool true]) w := fun v w => by rw [taPi, if_pos rfl]
    go_enter Tryd.func21, Tryd.ntmps21
    go_wp2
    go_region
    all_goals
      go_wp2
      go_ret
      have hb2 := (below_drewN (Below.refl W.heap.size W) 1).alloc (Nat.le_refl _) (.cells #[.iface T0 x0, .iface T1 y0] 27)
      have hrow := World.ownsRow_lit (size := 1) (base := W.heap.size) (e := 27) (W.drewN 1) #[.iface T0 x0, .iface T1 y0] 2 (Nat.le_refl _) (by decide) (by simp)
      exact ⟨_, [.iface T0 x0, .iface T1 y0], rfl, hrow, ⟨HX.out, HY.out, trivial⟩, hb2⟩
  | lett a b c =>
    obtain ⟨g, x, y, z, rfl, hg, hx, hy, hz⟩ := h
    have HX := Lib.hid hx
    have HY := Lib.hid hy
    have HZ := Lib.hid hz
    obtain ⟨T0, x0, rfl⟩ := hx.iface
    obtain ⟨T1, y0, rfl⟩ := hy.iface
    obtain ⟨T2, z0, rfl⟩ := hz.iface
    have c0 : W.cell? ⟨g, 0, none⟩ = some (.iface T0 x0) := (hB.cell (p := ⟨g, 0, none⟩) (Array.getElem?_eq_some_iff.1 hg).1).trans (by rw [Lib.cell_of_heap hg]; rfl)
    have c1 : W.cell? ⟨g, 1, none⟩ = some (.iface T1 y0) := (hB.cell (p := ⟨g, 1, none⟩) (Array.getElem?_eq_some_iff.1 hg).1).trans (by rw [Lib.cell_of_heap hg]; rfl)
    have c2 : W.cell? ⟨g, 2, none⟩ = some (.iface T2 z0) := (hB.cell (p := ⟨g, 2, none⟩) (Array.getElem?_eq_some_iff.1 hg).1).trans (by rw [Lib.cell_of_heap hg]; rfl)
    clear hx hy hz hg hB
    have aApp : ∀ v w, (Instr.typeAssert (.iface 76 v) 27 67 true).run Tryd.prog w = .ok (.tuple #[.pointer none, .bool false]) w := fun v w => by rw [taApp, if_neg (by decide)]
    have aLam : ∀ v w, (Instr.typeAssert (.iface 76 v) 27 70 true).run Tryd.prog w = .ok (.tuple #[.pointer none, .bool false]) w := fun v w => by rw [taLam, if_neg (by decide)]
    have aPi : ∀ v w, (Instr.typeAssert (.iface 76 v) 27 73 true).run Tryd.prog w = .ok (.tuple #[.pointer none, .bool false]) w := fun v w => by rw [taPi, if_neg (by decide)]
    have aLet : ∀ v w, (Instr.typeAssert (.iface 76 v) 27 76 true).run Tryd.prog w = .ok (.tuple #[v, .bool true]) w := fun v w => by rw [taLet, if_pos rfl]
    go_enter Tryd.func21, Tryd.ntmps21
    go_wp2
    go_region
    all_goals
      go_wp2
      go_ret
      have hb2 := (below_drewN (Below.refl W.heap.size W) 1).alloc (Nat.le_refl _) (.cells #[.iface T0 x0, .iface T1 y0, .iface T2 z0] 27)
      have hrow := World.ownsRow_lit (size := 1) (base := W.heap.size) (e := 27) (W.drewN 1) #[.iface T0 x0, .iface T1 y0, .iface T2 z0] 3 (Nat.le_refl _) (by decide) (by simp)
      exact ⟨_, [.iface T0 x0, .iface T1 y0, .iface T2 z0], rfl, hrow, ⟨HX.out, HY.out, HZ.out, trivial⟩, hb2⟩
theorem parts_le3 (t : Tm) : t.parts.length ≤ 3 := by cases t <;> simp [Tm.parts]
theorem asked_const {W : World} {u : Tm} {v : Value} (h : IRep W u v) (hk : u.kind ≠ 99) (w : World) : (Instr.typeAssert v 27 45 true).run Tryd.prog w = .ok (.tuple #[.pointer none, .bool false]) w := by
  cases u with
  | const n ls => exact absurd rfl hk
  | var n => obtain ⟨g', rfl, _⟩ := h; rw [taConst, if_neg (by decide)]
  | sort n => obtain ⟨g', rfl, _⟩ := h; rw [taConst, if_neg (by decide)]
  | app f a => obtain ⟨g', x', y', rfl, _⟩ := h; rw [taConst, if_neg (by decide)]
  | lam f a => obtain ⟨g', x', y', rfl, _⟩ := h; rw [taConst, if_neg (by decide)]
  | pi f a => obtain ⟨g', x', y', rfl, _⟩ := h; rw [taConst, if_neg (by decide)]
  | lett f a b => obtain ⟨g', x', y', z', rfl, _⟩ := h; rw [taConst, if_neg (by decide)]
theorem names_parts {t : Tm} (h : t.kind ≠ 99) : t.parts.flatMap Tm.cnames = t.cnames := by
  cases t with
  | const n ls => exact absurd rfl h
  | _ => simp [Tm.parts, Tm.cnames]
theorem names_short : ∀ (t : Tm) (x : List UInt8), x ∈ t.cnames → x.length ≤ t.bytes.length
  | .var _, x, h => by simp [Tm.cnames] at h
  | .sort _, x, h => by simp [Tm.cnames] at h
  | .const n ls, x, h => by
    simp only [Tm.cnames, List.mem_cons, List.not_mem_nil, or_false] at h
    subst h
    simp only [Tm.bytes, List.length_cons, List.length_append]
    omega
  | .app a b, x, h => by
    simp only [Tm.cnames, List.mem_append] at h
    simp only [Tm.bytes, List.length_cons, List.length_append]
    rcases h with h | h
    · have := names_short a x h; omega
    · have := names_short b x h; omega
  | .lam a b, x, h => by
    simp only [Tm.cnames, List.mem_append] at h
    simp only [Tm.bytes, List.length_cons, List.length_append]
    rcases h with h | h
    · have := names_short a x h; omega
    · have := names_short b x h; omega
  | .pi a b, x, h => by
    simp only [Tm.cnames, List.mem_append] at h
    simp only [Tm.bytes, List.length_cons, List.length_append]
    rcases h with h | h
    · have := names_short a x h; omega
    · have := names_short b x h; omega
  | .lett a b c, x, h => by
    simp only [Tm.cnames, List.mem_append] at h
    simp only [Tm.bytes, List.length_cons, List.length_append]
    rcases h with (h | h) | h
    · have := names_short a x h; omega
    · have := names_short b x h; omega
    · have := names_short c x h; omega
theorem parts_less : ∀ (t : Tm), ∀ p ∈ t.parts, p.size < t.size
  | .var _, p, h => by simp [Tm.parts] at h
  | .sort _, p, h => by simp [Tm.parts] at h
  | .const _ _, p, h => by simp [Tm.parts] at h
  | .app a b, p, h => by
    have := a.size_pos; have := b.size_pos
    simp only [Tm.parts, List.mem_cons, List.not_mem_nil, or_false] at h
    rcases h with rfl | rfl <;> simp only [Tm.size] <;> omega
  | .lam a b, p, h => by
    have := a.size_pos; have := b.size_pos
    simp only [Tm.parts, List.mem_cons, List.not_mem_nil, or_false] at h
    rcases h with rfl | rfl <;> simp only [Tm.size] <;> omega
  | .pi a b, p, h => by
    have := a.size_pos; have := b.size_pos
    simp only [Tm.parts, List.mem_cons, List.not_mem_nil, or_false] at h
    rcases h with rfl | rfl <;> simp only [Tm.size] <;> omega
  | .lett a b c, p, h => by
    have := a.size_pos; have := b.size_pos; have := c.size_pos
    simp only [Tm.parts, List.mem_cons, List.not_mem_nil, or_false] at h
    rcases h with rfl | rfl | rfl <;> simp only [Tm.size] <;> omega
/-- Rows of other elements than strings lie as they lay. -/
def KeepX (W W' : World) : Prop := ∀ {b : Nat} {e : TypeId} {z n : Nat} {v : Value} {xs : List Value}, e ≠ 9 → W.ownsRow b e z v n xs → W'.ownsRow b e z v n xs
theorem KeepX.below {W W' : World} (h : Below W.heap.size W W') : KeepX W W' := fun _ k => own_below k h
theorem KeepX.trans {A B C : World} (h : KeepX A B) (k : KeepX B C) : KeepX A C := fun he r => k he (h he r)
theorem KeepX.grown {W W' : World} {b n : Nat} {v : Value} {xs : List Value} (h : W.ownsRow b 9 1 v n xs) (hg : W.grownBy W' v.ownBlock) : KeepX W W' := fun he r => own_other r h he hg
/-- The names behind those that were there. -/
def UsesAns (B : Nat) (l : List (List UInt8)) (W : World) (e : Ending) (W' : World) : Prop :=
  ∃ u, e = .returned u ∧ W'.ownsRow B 9 1 u l.length (l.map sv) ∧ Below B W W' ∧ KeepX W W'
set_option maxHeartbeats 8000000 in
theorem implAppendUses {W0 : World} : ∀ (N : Nat) (T : Tm), T.size ≤ N → ∀ (v u : Value) (W : World) (l : List (List UInt8)), IRep W0 T v → Below W0.heap.size W0 W → W.ownsRow W0.heap.size 9 1 u l.length (l.map sv) → l.length + T.cnames.length ≤ 100000 →
    Calls Tryd.prog 14 #[u, v] W (UsesAns W0.heap.size (l ++ T.cnames) W) := by
  obtain ⟨i0, hi, hz0, hz1, hz2⟩ := info_parts infoStr
  intro N
  induction N with
  | zero => intro T hT; have := T.size_pos; omega
  | succ N ih =>
    intro T hT v u W l hr hB hu hlen
    obtain ⟨ua, uc, rfl⟩ := row_slice hu
    by_cases hk : T.kind = 99
    · obtain ⟨n, ls, rfl⟩ := kind_const hk
      obtain ⟨g, uu, rfl, hg, _⟩ := hr
      have c0 : W.cell? ⟨g, 0, none⟩ = some (.string ⟨n.toArray⟩) := (hB.cell (p := ⟨g, 0, none⟩) (Array.getElem?_eq_some_iff.1 hg).1).trans (by rw [Lib.cell_of_heap hg]; rfl)
      have tC := (taConst 45 (.pointer (some ⟨g, 0, none⟩)) W).trans (by rw [if_pos rfl])
      have hz := hB.size
      simp only [Tm.cnames, List.length_cons, List.length_nil] at hlen
      have HU := Lib.hid hu
      clear ih hg hk hT
      go_enter Tryd.func14, Tryd.ntmps14
      go_wp2_with (at_builtin; refine wpList_append_own _ rfl _ _ 24 rfl W0.heap.size 9 i0 _ 1 16 Tryd.underlying24 hi hz0 hz1 hz2 rfl (by decide) _ _ _ rfl (HU.out.alloc _) ⟨W.heap.size, 0, none⟩ 1 1 [.string ⟨n.toArray⟩] rfl rfl (oneNew _ _ _) (by simp [Value.oneCell']) (by simp only [maxLen]; omega) (by omega) (by simp; omega) ?_; intro v2 w2 hown2 hgrow hnil2)
      have HB2 : Hid (Below W0.heap.size W w2) := ((Below.refl _ W).alloc hz _).grown hgrow (by simp; omega) (fun q hq => (HU.out.lt q hq).1)
      have HO2 : Hid (w2.ownsRow W0.heap.size 9 1 v2 (l ++ [n]).length ((l ++ [n]).map sv)) := by
        rw [Hid, List.length_append, List.map_append]
        exact hown2
      have HK2 : Hid (∀ {b : Nat} {e : TypeId} {z n : Nat} {v : Value} {xs : List Value}, e ≠ 9 → W.ownsRow b e z v n xs → w2.ownsRow b e z v n xs) := KeepX.trans (KeepX.below ((Below.refl _ _).alloc (Nat.le_refl _) _)) (KeepX.grown (HU.out.alloc _) hgrow)
      clear hown2 hgrow hu
      go_wp2
      go_ret
      exact ⟨_, rfl, HO2.out, HB2.out, HK2.out⟩
    · have tC := asked_const hr hk W
      have f1 := Lib.hid (implPartsIn hr hB)
      unfold PartsIn at f1
      have HE := Lib.hid (names_parts hk)
      have HL := Lib.hid (parts_less T)
      have HU := Lib.hid hu
      have HB := Lib.hid hB
      have hps := parts_le3 T
      have hcl : (T.parts.flatMap Tm.cnames).length = T.cnames.length := by rw [HE.out]
      obtain ⟨T0, x0, rfl⟩ := hr.iface
      generalize T.parts = ps at f1 HE HL hps hcl
      have hl2 : l.length + (ps.flatMap Tm.cnames).length ≤ 100000 := by omega
      clear hr hk hB hu hcl
      go_enter Tryd.func14, Tryd.ntmps14
      go_wp2_with fail
      (with_reducible refine f1.out.mono ?_); rintro e w2 ⟨pv, vs, rfl, hpv, hvs, hb2⟩
      obtain ⟨pa, pc, rfl⟩ := row_slice hpv
      have hvl := hvs.len
      have hv1 : vs.length ≤ ps.length := by omega
      have hv2 : ps.length ≤ vs.length := by omega
      have HPV := Lib.hid hpv
      have HVS := Lib.hid hvs
      have HU2 := Lib.hid (own_below HU.out hb2)
      have HB2 : Hid (Below W0.heap.size W w2) := hb2.mono HB.out.size
      have HK2 : Hid (KeepX W w2) := KeepX.below hb2
      clear hpv hvs hvl hb2 f1 HU
      go_wp2
      go_loopw [0, 25] (fun o i wr => ∃ (k : Nat) (oo : Value), k ≤ ps.length ∧ i = .int .i64 k ∧ oo = o ∧ Hid (wr.ownsRow W0.heap.size 9 1 oo (l ++ (ps.take k).flatMap Tm.cnames).length ((l ++ (ps.take k).flatMap Tm.cnames).map sv)) ∧ Hid (Below W0.heap.size W wr ∧ KeepX w2 wr)) (fun _ i _ => ps.length - (intOf i).toNat)
      case atStart => exact ⟨0, _, Nat.zero_le _, rfl, rfl, by simpa [Hid] using HU2.out, HB2.out, KeepX.below (Below.refl _ _)⟩
      case round =>
        obtain ⟨k, oo, hk, rfl, rfl, HO, HW⟩ := hrel
        by_cases hlt : k < ps.length
        · have hu2 := HW.out.2 (by decide) HPV.out
          obtain ⟨g, cap', e0, _, hgl⟩ := hu2.form (by omega)
          cases e0
          have ex : vs[k]? = some vs[k] := by simp
          have cc := (hu2.cellAt k (by omega)).trans ex
          have hr := HVS.out.at k hlt (by omega)
          obtain ⟨T3, x3, e3⟩ := hr.iface
          have hbw : Below W0.heap.size W0 wr := HB.out.trans HW.out.1
          have htk : (ps.take (k + 1)).flatMap Tm.cnames = (ps.take k).flatMap Tm.cnames ++ ps[k].cnames := by
            rw [List.take_succ_eq_append_getElem hlt, List.flatMap_append]
            simp
          have hle : l.length + ((ps.take (k + 1)).flatMap Tm.cnames).length ≤ 100000 := by
            have h1 := congrArg List.length (congrArg (List.flatMap Tm.cnames) (List.take_append_drop (k + 1) ps))
            rw [List.flatMap_append, List.length_append] at h1
            omega
          have f3 := Lib.hid (ih ps[k] (by have := HL.out ps[k] (List.getElem_mem hlt); omega) vs[k] oo wr (l ++ (ps.take k).flatMap Tm.cnames) hr hbw HO.out (by rw [List.length_append]; rw [htk, List.length_append] at hle; omega))
          rw [List.append_assoc, ← htk] at f3
          unfold UsesAns at f3
          rw [e3] at f3 cc
          obtain ⟨oa, oc, rfl⟩ := row_slice HO.out
          have q1 : (0 : Int) ≤ (k : Int) := by omega
          have q2 : (k : Int) < (ps.length : Int) := by omega
          clear ex hu2 hr hbw htk hle e3
          generalize (l ++ (ps.take k).flatMap Tm.cnames).length = ol at f3 HO
          go_wp2_with fail
          (with_reducible refine f3.out.mono ?_); rintro e w3 ⟨u3, rfl, ho3, hb3, hk3⟩
          have HO3 := Lib.hid ho3
          have HW3 : Hid (Below W0.heap.size W w3 ∧ KeepX w2 w3) := ⟨HW.out.1.trans hb3, KeepX.trans HW.out.2 hk3⟩
          clear ho3 hb3 hk3 f3
          go_wp2
          go_roundw
          case rel => exact ⟨k + 1, _, by omega, by go_num, rfl, HO3.out, HW3.out⟩
          case measure => simp [intOf]; omega
        · obtain rfl : k = ps.length := by omega
          have HO2 : Hid (wr.ownsRow W0.heap.size 9 1 oo (l ++ T.cnames).length ((l ++ T.cnames).map sv)) := by
            have h1 := HO.out
            rw [List.take_length, HE.out] at h1
            exact h1
          clear HO
          go_wp2
          go_ret
          exact ⟨_, rfl, HO2.out, HW.out.1, KeepX.trans HK2.out HW.out.2⟩
end Go.Proofs.YtgielbamebjjdaaDoor

namespace Go.Proofs.YtgielbamebjjdaaDoor
set_option maxRecDepth 100000
open Go.ChangeShapes Go.WideShapes Go.ChangeAt Go.RowKit
set_option linter.unusedSimpArgs false
set_option linter.unusedVariables false

theorem inL_srt (l : List (List UInt8)) (y : List UInt8) : inL (srt l) y = inL l y := by
  unfold inL
  exact decide_eq_decide.2 ((srt_spec l.length l (Nat.le_refl _)).2.1 y)
set_option maxHeartbeats 4000000 in
theorem implUsesName {T : Tm} {v : Value} {W : World} (hr : IRep W T v) (hc : T.cnames.length ≤ 100000) (y : ByteArray) :
    Calls Tryd.prog 9 #[v, .string y] W fun e w' => e = .returned (.bool (inL T.cnames y.data.toList)) ∧ Below W.heap.size W w' := by
  have f1 := Lib.hid (implAppendUses T.size T (Nat.le_refl _) v (.slice none 0 0) W [] hr (Below.refl _ _) (World.ownsRow_nil _ _ _ _) (by simp only [List.length_nil]; omega))
  rw [List.nil_append] at f1
  unfold UsesAns at f1
  obtain ⟨T0, x0, rfl⟩ := hr.iface
  clear hr
  generalize T.cnames = l at f1 hc
  go_enter Tryd.func9, Tryd.ntmps9
  go_wp2_with fail
  (with_reducible refine f1.out.mono ?_); rintro e w1 ⟨u, rfl, hu, hb, -⟩
  have f2 := Lib.hid (implNameIn hu y.data.toList (by omega))
  obtain ⟨ua, uc, rfl⟩ := row_slice hu
  have HB := Lib.hid hb
  clear f1 hu hb
  obtain ⟨r, hr⟩ : ∃ r, inL l y.data.toList = r := ⟨_, rfl⟩
  rw [hr] at f2
  have HR := Lib.hid hr
  clear hr
  rw [show (⟨y.data.toList.toArray⟩ : ByteArray) = y from rfl] at f2
  go_wp2_with fail
  (with_reducible refine f2.out.mono ?_); rintro e w2 ⟨rfl, rfl⟩
  go_wp2
  go_ret
  rw [HR.out]
  exact ⟨rfl, HB.out⟩
set_option maxHeartbeats 4000000 in
theorem implHasName (s y : ByteArray) (W : World) (hv : Vars W) (hs : s.size ≤ maxLen) :
    Calls Tryd.prog 5 #[.string s, .string y] W fun e w' => e = .returned (.bool (inL (usesIn s.data.toList) y.data.toList)) ∧ Below W.heap.size W w' := by
  have f1 := Lib.hid (implReadTerm s W hv hs)
  clear hv hs
  go_enter Tryd.func5, Tryd.ntmps5
  go_wp2_with fail
  (with_reducible refine f1.out.mono ?_); rintro e W1 ⟨hb, ⟨t, v, ht, rfl, hr⟩ | ⟨hno, rfl⟩⟩
  rotate_left
  · have HE : Hid (inL (usesIn s.data.toList) y.data.toList = false) := by rw [Hid, usesIn, termOf_none hno]; rfl
    have HB := Lib.hid hb
    clear hno hb f1
    go_wp2
    go_ret
    rw [HE.out]
    exact ⟨rfl, HB.out⟩
  have HE : Hid (inL (usesIn s.data.toList) y.data.toList = inL t.cnames y.data.toList) := by rw [Hid, usesIn, termOf_some ht]; exact inL_srt _ _
  have hle := ht.2.2
  rw [← ht.2.1] at hle
  have hcl := t.cnames_len
  have hsz := t.size_le
  have f2 := Lib.hid (implUsesName hr (by omega) y)
  have HB := Lib.hid hb
  obtain ⟨T0, x0, rfl⟩ := hr.iface
  clear hb ht hr hle hcl hsz f1
  obtain ⟨r, hr⟩ : ∃ r, inL t.cnames y.data.toList = r := ⟨_, rfl⟩
  rw [hr] at f2 HE
  clear hr
  go_wp2_with fail
  (with_reducible refine f2.out.mono ?_); rintro e w2 ⟨rfl, hb2⟩
  have HB2 := Lib.hid (HB.out.trans (hb2.mono HB.out.size))
  clear hb2
  go_wp2
  go_ret
  rw [HE.out]
  exact ⟨rfl, HB2.out⟩
end Go.Proofs.YtgielbamebjjdaaDoor
