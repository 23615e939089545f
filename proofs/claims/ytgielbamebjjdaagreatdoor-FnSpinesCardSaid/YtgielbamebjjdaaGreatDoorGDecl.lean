/-
  Contracts of laws.szDecl, toDecl, eqDecl and markDecl.
-/
import Derived.Test.YtgielbamebjjdaaGreatDoorGCt
namespace Go.Proofs.YtgielbamebjjdaaGreatDoor
set_option maxRecDepth 100000
open Go.ChangeShapes Go.WideShapes Go.ChangeAt Go.RowKit
set_option linter.unusedSimpArgs false
set_option linter.unusedVariables false

/-- A declaration. -/
structure Dc where
  kind : Int
  name : List UInt8
  params : Int
  flags : Int
  type : List UInt8
  value : List UInt8
  ctors : List Ct
/-- Its value, with the value of its list of constructors. -/
def Dc.val (d : Dc) (u : Value) : Value := .agg #[.int .i64 d.kind, .string ⟨d.name.toArray⟩, .int .i64 d.params, .int .i64 d.flags, .string ⟨d.type.toArray⟩, .string ⟨d.value.toArray⟩, u]
/-- The strings of a declaration are strings of the machine. -/
structure Dc.Fits (d : Dc) : Prop where
  name : d.name.length ≤ maxLen
  type : d.type.length ≤ maxLen
  value : d.value.length ≤ maxLen
def Dc.size (d : Dc) : Nat := d.name.length + d.type.length + d.value.length + d.ctors.length + totC d.ctors
theorem alloc_any (w : World) (o : Obj) : Below w.heap.size w (w.alloc o) := (Below.refl _ _).alloc (Nat.le_refl _) _

def SzResD (d : Dc) (left : Nat) (w : World) (e : Ending) (w' : World) : Prop :=
  Below w.heap.size w w' ∧ (e = .returned (.int .i64 (-1)) ∨ ∃ r : Nat, e = .returned (.int .i64 (r : Int)) ∧ r + d.size = left)
set_option maxHeartbeats 2000000 in
theorem szDecl {w : World} {d : Dc} {u : Value} (h : CameC w u d.ctors) (hf : d.Fits) (left : Nat) (hle : left ≤ 1048576) :
    Calls Tryz.prog 32 #[d.val u, .int .i64 (left : Int)] w (SzResD d left w) := by
  obtain ⟨kd, nm, ps, fl, ty, vl, cs⟩ := d
  obtain ⟨h1, h2, h3⟩ := hf
  simp only at h h1 h2 h3
  unfold maxLen at h1 h2 h3
  have zn := size_sv nm
  have zt := size_sv ty
  have zv := size_sv vl
  obtain ⟨a0, cap, b, off, rfl, hx⟩ := id h
  have hsl : Dc.val ⟨kd, nm, ps, fl, ty, vl, cs⟩ (.slice a0 cs.length cap) = .agg #[.int .i64 kd, .string ⟨nm.toArray⟩, .int .i64 ps, .int .i64 fl, .string ⟨ty.toArray⟩, .string ⟨vl.toArray⟩, .slice a0 cs.length cap] := rfl
  rw [hsl]
  have HZ : Hid (Dc.size ⟨kd, nm, ps, fl, ty, vl, cs⟩ = nm.length + ty.length + vl.length + cs.length + totC cs) := rfl
  have HB0 := Lib.hid (alloc_any w (.cells #[.int .i64 kd, .string ⟨nm.toArray⟩, .int .i64 ps, .int .i64 fl, .string ⟨ty.toArray⟩, .string ⟨vl.toArray⟩, .slice a0 cs.length cap] 48))
  have hC := h.below HB0.out
  clear h hx hsl
  by_cases k1 : left < nm.length
  · have d1 : decide ((left : Int) - (nm.length : Int) < 0) = true := decide_eq_true (by omega)
    clear hC
    go_enter Tryz.func32, Tryz.ntmps32
    go_wp2
    go_ret
    exact ⟨HB0.out, .inl rfl⟩
  have d1 : decide ((left : Int) - (nm.length : Int) < 0) = false := decide_eq_false (by omega)
  by_cases k2 : left < nm.length + ty.length
  · have d2 : decide ((left : Int) - (nm.length : Int) - (ty.length : Int) < 0) = true := decide_eq_true (by omega)
    clear hC
    go_enter Tryz.func32, Tryz.ntmps32
    go_wp2
    go_ret
    exact ⟨HB0.out, .inl rfl⟩
  have d2 : decide ((left : Int) - (nm.length : Int) - (ty.length : Int) < 0) = false := decide_eq_false (by omega)
  by_cases k3 : left < nm.length + ty.length + vl.length
  · have d3 : decide ((left : Int) - (nm.length : Int) - (ty.length : Int) - (vl.length : Int) < 0) = true := decide_eq_true (by omega)
    clear hC
    go_enter Tryz.func32, Tryz.ntmps32
    go_wp2
    go_ret
    exact ⟨HB0.out, .inl rfl⟩
  have d3 : decide ((left : Int) - (nm.length : Int) - (ty.length : Int) - (vl.length : Int) < 0) = false := decide_eq_false (by omega)
  obtain ⟨r0, hr0⟩ : ∃ r0, left - (nm.length + ty.length + vl.length) = r0 := ⟨_, rfl⟩
  have e0 : (left : Int) - (nm.length : Int) - (ty.length : Int) - (vl.length : Int) = (r0 : Int) := by omega
  have HR : Hid (r0 + nm.length + ty.length + vl.length = left) := by rw [Hid]; omega
  have f1 := Lib.hid (szCtorS hC r0 (by omega))
  unfold SzResC at f1
  clear hC hr0
  go_enter Tryz.func32, Tryz.ntmps32
  go_wp2_with fail
  (with_reducible refine f1.out.mono ?_); rintro e w1 ⟨hb1, (rfl | ⟨r, rfl, hr⟩)⟩
  · have HB1 := Lib.hid (HB0.out.trans (hb1.mono HB0.out.size))
    clear hb1 f1
    go_wp2
    go_ret
    exact ⟨HB1.out, .inl rfl⟩
  · have HB1 := Lib.hid (HB0.out.trans (hb1.mono HB0.out.size))
    have d4 : decide ((r : Int) < 0) = false := decide_eq_false (by omega)
    have HR2 : Hid (r + (nm.length + ty.length + vl.length + cs.length + totC cs) = left) := by have := HR.out; rw [Hid]; omega
    clear hb1 hr f1
    go_wp2
    go_ret
    exact ⟨HB1.out, .inr ⟨r, rfl, by rw [HZ.out]; exact HR2.out⟩⟩

theorem own_setD {w : World} {b n z : Nat} {e : TypeId} {v : Value} {xs : List Value} (h : w.ownsRow b e z v n xs) (a : Nat) (i : Nat) (u : Value) (ha : a < b) : (w.setCell ⟨a, i, none⟩ u).ownsRow b e z v n xs := by
  refine h.kept (row := some a) ⟨rfl, rfl, rfl, by simp [World.setCell], fun k hk hne => Below.heap_setCell _ _ _ _ (fun e => hne (by rw [e]))⟩ ?_
  rcases hv : v.ownBlock with _ | k
  · exact .inl rfl
  · exact .inr fun e' => by
      have := (h.lt k hv).1
      cases e'
      omega
theorem own_lower {W : World} {b b' z n : Nat} {e : TypeId} {v : Value} {xs : List Value} (h : W.ownsRow b e z v n xs) (hb : b' ≤ b) : W.ownsRow b' e z v n xs := by
  refine ⟨h.1, ?_⟩
  rcases h.2 with h1 | ⟨g, cap, cur, h1, h2, h3⟩
  · exact .inl h1
  · exact .inr ⟨g, cap, cur, h1, Nat.le_trans hb h2, h3⟩
/-- The boxes of laws.toDecl: its argument, its result, what it makes. -/
def boxD (w : World) (kd ps fl : Int) (nm ty vl : List UInt8) (sl : Value) : World := (((w.alloc (.cells #[.int .i64 kd, .string ⟨nm.toArray⟩, .int .i64 ps, .int .i64 fl, .string ⟨ty.toArray⟩, .string ⟨vl.toArray⟩, sl] 48)).alloc (.cells #[.int .i64 0, .string ⟨#[]⟩, .int .i64 0, .int .i64 0, .string ⟨#[]⟩, .string ⟨#[]⟩, .slice none 0 0] 36)).alloc (.cells #[.int .i64 kd, .string ⟨nm.toArray⟩, .int .i64 ps, .int .i64 fl, .string ⟨ty.toArray⟩, .string ⟨vl.toArray⟩, .slice none 0 0] 36))
theorem boxD_size (w : World) (kd ps fl : Int) (nm ty vl : List UInt8) (sl : Value) : (boxD w kd ps fl nm ty vl sl).heap.size = w.heap.size + 3 := by simp [boxD]
theorem boxD_below (w : World) (kd ps fl : Int) (nm ty vl : List UInt8) (sl : Value) : Below w.heap.size w (boxD w kd ps fl nm ty vl sl) := by
  unfold boxD
  exact (((Below.refl _ _).alloc (Nat.le_refl _) _).alloc (by simp) _).alloc (by simp; omega) _
theorem boxD_res {w w1 : World} {kd ps fl : Int} {nm ty vl : List UInt8} {sl : Value} (hb : Below (boxD w kd ps fl nm ty vl sl).heap.size (boxD w kd ps fl nm ty vl sl) w1) : w1.cell? ⟨w.heap.size + 1, 0, none⟩ = some (.int .i64 0) ∧ w1.cell? ⟨w.heap.size + 1, 1, none⟩ = some (.string ⟨#[]⟩) ∧ w1.cell? ⟨w.heap.size + 1, 2, none⟩ = some (.int .i64 0) ∧ w1.cell? ⟨w.heap.size + 1, 3, none⟩ = some (.int .i64 0) ∧ w1.cell? ⟨w.heap.size + 1, 4, none⟩ = some (.string ⟨#[]⟩) ∧ w1.cell? ⟨w.heap.size + 1, 5, none⟩ = some (.string ⟨#[]⟩) ∧ w1.cell? ⟨w.heap.size + 1, 6, none⟩ = some (.slice none 0 0) := by
  have h := fun i => (hb.cell (p := ⟨w.heap.size + 1, i, none⟩) (by rw [boxD_size]; show w.heap.size + 1 < _; omega))
  unfold boxD at h
  refine ⟨(h 0).trans ?_, (h 1).trans ?_, (h 2).trans ?_, (h 3).trans ?_, (h 4).trans ?_, (h 5).trans ?_, (h 6).trans ?_⟩ <;> simp [go_sem]
theorem boxD_resF {w w1 : World} {kd ps fl : Int} {nm ty vl : List UInt8} {sl : Value} (hb : Below (boxD w kd ps fl nm ty vl sl).heap.size (boxD w kd ps fl nm ty vl sl) w1) : w1.frozen? ⟨w.heap.size + 1, 0, none⟩ = false ∧ w1.frozen? ⟨w.heap.size + 1, 1, none⟩ = false ∧ w1.frozen? ⟨w.heap.size + 1, 2, none⟩ = false ∧ w1.frozen? ⟨w.heap.size + 1, 3, none⟩ = false ∧ w1.frozen? ⟨w.heap.size + 1, 4, none⟩ = false ∧ w1.frozen? ⟨w.heap.size + 1, 5, none⟩ = false ∧ w1.frozen? ⟨w.heap.size + 1, 6, none⟩ = false := by
  have h := fun i => (hb.frozen (p := ⟨w.heap.size + 1, i, none⟩) (by rw [boxD_size]; show w.heap.size + 1 < _; omega))
  unfold boxD at h
  refine ⟨(h 0).trans ?_, (h 1).trans ?_, (h 2).trans ?_, (h 3).trans ?_, (h 4).trans ?_, (h 5).trans ?_, (h 6).trans ?_⟩ <;> first | simp | simp [go_sem] | simp [World.frozen?, World.alloc]
theorem boxD_out {w w1 : World} {kd ps fl : Int} {nm ty vl : List UInt8} {sl : Value} (hb : Below (boxD w kd ps fl nm ty vl sl).heap.size (boxD w kd ps fl nm ty vl sl) w1) : w1.cell? ⟨w.heap.size + 1 + 1, 0, none⟩ = some (.int .i64 kd) ∧ w1.cell? ⟨w.heap.size + 1 + 1, 1, none⟩ = some (.string ⟨nm.toArray⟩) ∧ w1.cell? ⟨w.heap.size + 1 + 1, 2, none⟩ = some (.int .i64 ps) ∧ w1.cell? ⟨w.heap.size + 1 + 1, 3, none⟩ = some (.int .i64 fl) ∧ w1.cell? ⟨w.heap.size + 1 + 1, 4, none⟩ = some (.string ⟨ty.toArray⟩) ∧ w1.cell? ⟨w.heap.size + 1 + 1, 5, none⟩ = some (.string ⟨vl.toArray⟩) ∧ w1.cell? ⟨w.heap.size + 1 + 1, 6, none⟩ = some (.slice none 0 0) := by
  have h := fun i => (hb.cell (p := ⟨w.heap.size + 1 + 1, i, none⟩) (by rw [boxD_size]; show w.heap.size + 1 + 1 < _; omega))
  unfold boxD at h
  refine ⟨(h 0).trans ?_, (h 1).trans ?_, (h 2).trans ?_, (h 3).trans ?_, (h 4).trans ?_, (h 5).trans ?_, (h 6).trans ?_⟩ <;> simp [go_sem]
theorem boxD_outF {w w1 : World} {kd ps fl : Int} {nm ty vl : List UInt8} {sl : Value} (hb : Below (boxD w kd ps fl nm ty vl sl).heap.size (boxD w kd ps fl nm ty vl sl) w1) : w1.frozen? ⟨w.heap.size + 1 + 1, 0, none⟩ = false ∧ w1.frozen? ⟨w.heap.size + 1 + 1, 1, none⟩ = false ∧ w1.frozen? ⟨w.heap.size + 1 + 1, 2, none⟩ = false ∧ w1.frozen? ⟨w.heap.size + 1 + 1, 3, none⟩ = false ∧ w1.frozen? ⟨w.heap.size + 1 + 1, 4, none⟩ = false ∧ w1.frozen? ⟨w.heap.size + 1 + 1, 5, none⟩ = false ∧ w1.frozen? ⟨w.heap.size + 1 + 1, 6, none⟩ = false := by
  have h := fun i => (hb.frozen (p := ⟨w.heap.size + 1 + 1, i, none⟩) (by rw [boxD_size]; show w.heap.size + 1 + 1 < _; omega))
  unfold boxD at h
  refine ⟨(h 0).trans ?_, (h 1).trans ?_, (h 2).trans ?_, (h 3).trans ?_, (h 4).trans ?_, (h 5).trans ?_, (h 6).trans ?_⟩ <;> first | simp | simp [go_sem] | simp [World.frozen?, World.alloc]
def DRes (d : Dc) (w : World) (e : Ending) (w' : World) : Prop :=
  ∃ u, e = .returned (d.val u) ∧ w'.ownsRow w.heap.size 42 2 u d.ctors.length (flatC d.ctors) ∧ Below w.heap.size w w'
set_option maxHeartbeats 2000000 in
theorem toDecl {w : World} {d : Dc} {u : Value} (h : CameC w u d.ctors) (hn : d.ctors.length ≤ 1048576) :
    Calls Tryz.prog 34 #[d.val u] w (DRes d w) := by
  obtain ⟨kd, nm, ps, fl, ty, vl, cs⟩ := d
  obtain ⟨a0, cap, b, off, rfl, hx⟩ := id h
  have hsl : Dc.val ⟨kd, nm, ps, fl, ty, vl, cs⟩ (.slice a0 cs.length cap) = .agg #[.int .i64 kd, .string ⟨nm.toArray⟩, .int .i64 ps, .int .i64 fl, .string ⟨ty.toArray⟩, .string ⟨vl.toArray⟩, .slice a0 cs.length cap] := rfl
  rw [hsl]
  have HB0 := Lib.hid (boxD_below w kd ps fl nm ty vl (.slice a0 cs.length cap))
  have f1 := Lib.hid (toCtorS (h.below HB0.out) hn)
  have HBX := Lib.hid fun w1 (hb : Below _ _ w1) => And.intro (boxD_res (w := w) (kd := kd) (ps := ps) (fl := fl) (nm := nm) (ty := ty) (vl := vl) (sl := .slice a0 cs.length cap) hb) (And.intro (boxD_resF (w := w) (kd := kd) (ps := ps) (fl := fl) (nm := nm) (ty := ty) (vl := vl) (sl := .slice a0 cs.length cap) hb) (And.intro (boxD_out (w := w) (kd := kd) (ps := ps) (fl := fl) (nm := nm) (ty := ty) (vl := vl) (sl := .slice a0 cs.length cap) hb) (boxD_outF (w := w) (kd := kd) (ps := ps) (fl := fl) (nm := nm) (ty := ty) (vl := vl) (sl := .slice a0 cs.length cap) hb)))
  have HZ := Lib.hid (boxD_size w kd ps fl nm ty vl (.slice a0 cs.length cap))
  unfold LResC at f1
  rw [HZ.out] at f1
  unfold boxD at f1
  clear h hx hsl hn
  go_enter Tryz.func34, Tryz.ntmps34
  go_wp2_with fail
  (with_reducible refine f1.out.mono ?_); rintro e w1 ⟨u, rfl, hu, hb⟩
  have hb' := hb
  rw [← HZ.out] at hb'
  obtain ⟨⟨r0, r1, r2, r3, r4, r5, r6⟩, ⟨z0, z1, z2, z3, z4, z5, z6⟩, ⟨n0, n1, n2, n3, n4, n5, n6⟩, ⟨y0, y1, y2, y3, y4, y5, y6⟩⟩ := HBX.out w1 hb'
  have HU := Lib.hid hu
  have HB := Lib.hid (HB0.out.trans (hb'.mono HB0.out.size))
  obtain ⟨ua, uc, rfl⟩ : ∃ a c, u = .slice a cs.length c := by
    rcases hu.2 with ⟨rfl, e⟩ | ⟨g, cap', cur, rfl, _⟩
    · exact ⟨_, _, by rw [← e]⟩
    · exact ⟨_, _, rfl⟩
  clear hu hb hb' f1 HBX
  have HR := Lib.hid (own_setD (own_setD (own_setD (own_setD (own_setD (own_setD (own_setD (own_setD HU.out (w.heap.size + 1 + 1) 6 (.slice ua cs.length uc) (by omega)) (w.heap.size + 1) 0 (.int .i64 kd) (by omega)) (w.heap.size + 1) 1 (.string ⟨nm.toArray⟩) (by omega)) (w.heap.size + 1) 2 (.int .i64 ps) (by omega)) (w.heap.size + 1) 3 (.int .i64 fl) (by omega)) (w.heap.size + 1) 4 (.string ⟨ty.toArray⟩) (by omega)) (w.heap.size + 1) 5 (.string ⟨vl.toArray⟩) (by omega)) (w.heap.size + 1) 6 (.slice ua cs.length uc) (by omega))
  have HBF := Lib.hid ((((((((HB.out.setCell (p := ⟨w.heap.size + 1 + 1, 6, none⟩) (by show w.heap.size ≤ w.heap.size + 1 + 1; omega) (.slice ua cs.length uc)).setCell (p := ⟨w.heap.size + 1, 0, none⟩) (by show w.heap.size ≤ w.heap.size + 1; omega) (.int .i64 kd)).setCell (p := ⟨w.heap.size + 1, 1, none⟩) (by show w.heap.size ≤ w.heap.size + 1; omega) (.string ⟨nm.toArray⟩)).setCell (p := ⟨w.heap.size + 1, 2, none⟩) (by show w.heap.size ≤ w.heap.size + 1; omega) (.int .i64 ps)).setCell (p := ⟨w.heap.size + 1, 3, none⟩) (by show w.heap.size ≤ w.heap.size + 1; omega) (.int .i64 fl)).setCell (p := ⟨w.heap.size + 1, 4, none⟩) (by show w.heap.size ≤ w.heap.size + 1; omega) (.string ⟨ty.toArray⟩)).setCell (p := ⟨w.heap.size + 1, 5, none⟩) (by show w.heap.size ≤ w.heap.size + 1; omega) (.string ⟨vl.toArray⟩)).setCell (p := ⟨w.heap.size + 1, 6, none⟩) (by show w.heap.size ≤ w.heap.size + 1; omega) (.slice ua cs.length uc))
  clear HU HB
  go_wp2
  exact bodyPost_ret (v := .agg #[.int .i64 kd, .string ⟨nm.toArray⟩, .int .i64 ps, .int .i64 fl, .string ⟨ty.toArray⟩, .string ⟨vl.toArray⟩, .slice ua cs.length uc]) (by simp [results, Tryz.results34, go_sem, r0, r1, r2, r3, r4, r5, r6]) rfl ⟨_, rfl, own_lower HR.out (by omega), HBF.out⟩

theorem eqCtorAny {w : World} {b1 b2 : Nat} {v1 v2 : Value} {l : List Ct} (h1 : w.ownsRow b1 42 2 v1 l.length (flatC l)) (h2 : w.ownsRow b2 42 2 v2 l.length (flatC l)) (hn : l.length ≤ 1048576) :
    Calls Tryz.prog 88 #[v1, v2] w fun e w' => e = .returned (.bool true) ∧ Below w.heap.size w w' := eqCtorS h1 h2 (by omega)
theorem row_sliceD {W : World} {b z n : Nat} {e : TypeId} {v : Value} {xs : List Value} (h : W.ownsRow b e z v n xs) : ∃ a c, v = .slice a n c := by
  rcases h.2 with ⟨rfl, rfl⟩ | ⟨g, cap, cur, rfl, _⟩
  · exact ⟨_, _, rfl⟩
  · exact ⟨_, _, rfl⟩
set_option maxHeartbeats 2000000 in
theorem eqDecl {w : World} {d : Dc} {b1 b2 : Nat} {u1 u2 : Value} (h1 : w.ownsRow b1 42 2 u1 d.ctors.length (flatC d.ctors)) (h2 : w.ownsRow b2 42 2 u2 d.ctors.length (flatC d.ctors)) (hn : d.ctors.length ≤ 1048576) :
    Calls Tryz.prog 36 #[d.val u1, d.val u2] w fun e w' => e = .returned (.bool true) ∧ Below w.heap.size w w' := by
  obtain ⟨kd, nm, ps, fl, ty, vl, cs⟩ := d
  obtain ⟨a1, c1, rfl⟩ := row_sliceD h1
  obtain ⟨a2, c2, rfl⟩ := row_sliceD h2
  have e1 : ∀ u, Dc.val ⟨kd, nm, ps, fl, ty, vl, cs⟩ u = .agg #[.int .i64 kd, .string ⟨nm.toArray⟩, .int .i64 ps, .int .i64 fl, .string ⟨ty.toArray⟩, .string ⟨vl.toArray⟩, u] := fun u => rfl
  rw [e1, e1]
  have HB0 := Lib.hid fun o1 o2 => ((alloc_any w o1).alloc (by simp) o2 : Below w.heap.size w ((w.alloc o1).alloc o2))
  have f1 := Lib.hid fun W (hb : Below w.heap.size w W) => eqCtorAny (own_below h1 hb) (own_below h2 hb) hn
  clear h1 h2 e1 hn
  go_enter Tryz.func36, Tryz.ntmps36
  go_wp2_with fail
  (with_reducible refine (f1.out _ (HB0.out _ _)).mono ?_); rintro e w1 ⟨rfl, hb⟩
  have HB1 := Lib.hid ((HB0.out _ _).trans (hb.mono (HB0.out _ _).size))
  clear hb
  go_wp2
  go_ret
  exact ⟨rfl, HB1.out⟩
end Go.Proofs.YtgielbamebjjdaaGreatDoor
