/-
  The text that spec.l07Lift makes, as it lies in memory, and the contract of spec.l07Say.
-/
import Derived.Test.YtnklajagefedmaaDoorFSay
import Derived.Test.YtnklajagefedmaaDoorTRead
import Derived.Test.YtnklajagefedmaaDoorVPutM
namespace Go.Proofs.YtnklajagefedmaaDoor
set_option maxRecDepth 100000
open Go.ChangeShapes Go.WideShapes Go.ChangeAt Go.RowKit
set_option linter.unusedSimpArgs false

/-- Nothing has changed but the box at ob and rows of bytes from ob on. -/
structure KeepO (ob : Nat) (W W' : World) : Prop where
  os : W'.os = W.os
  tape : W'.tape = W.tape
  output : W'.output = W.output
  size : W.heap.size ≤ W'.heap.size
  low : ∀ i, i < ob → W'.heap[i]? = W.heap[i]?
  typ : ∀ i cur t fr, W.heap[i]? = some (.cells cur t fr) → t ≠ 5 → i ≠ ob → W'.heap[i]? = W.heap[i]?
theorem KeepO.refl (ob : Nat) (W : World) : KeepO ob W W := ⟨rfl, rfl, rfl, Nat.le_refl _, fun _ _ => rfl, fun _ _ _ _ _ _ _ => rfl⟩
theorem KeepO.trans {ob : Nat} {W W1 W2 : World} (h : KeepO ob W W1) (k : KeepO ob W1 W2) : KeepO ob W W2 :=
  ⟨k.os.trans h.os, k.tape.trans h.tape, k.output.trans h.output, Nat.le_trans h.size k.size, fun i hi => (k.low i hi).trans (h.low i hi),
    fun i cur t fr hc ht hi => (k.typ i cur t fr ((h.typ i cur t fr hc ht hi).trans hc) ht hi).trans (h.typ i cur t fr hc ht hi)⟩
theorem heap_lt {W : World} {i : Nat} {o : Obj} (h : W.heap[i]? = some o) : i < W.heap.size := (Array.getElem?_eq_some_iff.1 h).1
theorem KeepO.below {ob : Nat} {W W' : World} (hb : Below W.heap.size W W') (hob : ob ≤ W.heap.size) : KeepO ob W W' :=
  ⟨hb.os, hb.tape, hb.output, hb.size, fun i hi => hb.block i (by omega), fun i _ _ _ hc _ _ => hb.block i (heap_lt hc)⟩
theorem KeepO.belowOf {ob : Nat} {w W W' : World} (h : KeepO ob W W') (hb : Below w.heap.size w W) (hob : w.heap.size ≤ ob) : Below w.heap.size w W' :=
  ⟨h.os.trans hb.os, h.tape.trans hb.tape, h.output.trans hb.output, Nat.le_trans hb.size h.size, fun i hi => (h.low i (by omega)).trans (hb.block i hi)⟩

/-- The box at ob holds these bytes and this mark. -/
structure OSt (ob : Nat) (W : World) (vb : Value) (B : List UInt8) (bad : Bool) : Prop where
  box : W.heap[ob]? = some (.cells #[vb, .bool bad] 82 (0, 0))
  row : W.ownsRow (ob + 1) 5 1 vb B.length (B.map bv)
theorem OSt.ne {ob : Nat} {W : World} {vb : Value} {B : List UInt8} {bad : Bool} (h : OSt ob W vb B bad) : vb.ownBlock ≠ some ob := fun e => by
  have := (h.row.lt ob e).1
  omega
theorem OSt.below {ob : Nat} {W W' : World} {vb : Value} {B : List UInt8} {bad : Bool} (h : OSt ob W vb B bad) (hb : Below W.heap.size W W') : OSt ob W' vb B bad :=
  ⟨(hb.block ob (heap_lt h.box)).trans h.box, own_below h.row hb⟩
theorem setCell_grown (W : World) (ob j : Nat) (u : Value) : W.grownBy (W.setCell ⟨ob, j, none⟩ u) (some ob) :=
  ⟨rfl, rfl, rfl, by simp [World.setCell], fun k hk hne => Below.heap_setCell _ _ _ _ (fun e => hne (by rw [e]))⟩
theorem OSt.mark {ob : Nat} {W : World} {vb : Value} {B : List UInt8} {bad : Bool} (h : OSt ob W vb B bad) :
    OSt ob (W.setCell ⟨ob, 1, none⟩ (.bool true)) vb B true ∧ KeepO ob W (W.setCell ⟨ob, 1, none⟩ (.bool true)) := by
  have hg := setCell_grown W ob 1 (.bool true)
  refine ⟨⟨heap_setCell_same W ob 1 _ _ _ h.box, h.row.kept hg (.inr h.ne)⟩, rfl, rfl, rfl, hg.size, fun i hi => heap_setCell_other _ _ _ _ (by show i ≠ ob; omega), fun i _ _ _ _ _ hi => heap_setCell_other _ _ _ _ hi⟩
theorem OSt.add {ob : Nat} {W w6 : World} {vb v' : Value} {B C : List UInt8} {bad : Bool} (h : OSt ob W vb B bad) (hg : W.grownBy w6 vb.ownBlock) (hr : w6.ownsRow (ob + 1) 5 1 v' C.length (C.map bv)) :
    OSt ob (w6.setCell ⟨ob, 0, none⟩ v') v' C bad ∧ KeepO ob W (w6.setCell ⟨ob, 0, none⟩ v') := by
  have hl := heap_lt h.box
  have hb6 : w6.heap[ob]? = some (.cells #[vb, .bool bad] 82 (0, 0)) := (hg.block ob hl (fun e => h.ne e.symm)).trans h.box
  have hg2 := setCell_grown w6 ob 0 v'
  have hne : v'.ownBlock ≠ some ob := fun e => by have := (hr.lt ob e).1; omega
  refine ⟨⟨heap_setCell_same w6 ob 0 _ _ _ hb6, hr.kept hg2 (.inr hne)⟩, hg.os, hg.tape, hg.output, Nat.le_trans hg.size hg2.size, fun i hi => ?_, fun i cur t fr hc ht hi => ?_⟩
  · refine (heap_setCell_other _ _ _ _ (by show i ≠ ob; omega)).trans (hg.block i (by omega) fun e => ?_)
    have := (h.row.lt i e.symm).1
    omega
  · refine (heap_setCell_other _ _ _ _ hi).trans (hg.block i (heap_lt hc) fun e => ?_)
    rcases h.row.2 with ⟨e2, _⟩ | ⟨g, cap, cu, e2, _, hgh, _⟩
    · rw [e2] at e; cases e
    · rw [e2] at e
      simp only [Value.ownBlock, Option.some.injEq] at e
      subst e
      rw [hc] at hgh
      simp only [Option.some.injEq, Obj.cells.injEq] at hgh
      exact ht hgh.2.1
theorem KeepO.row {ob : Nat} {W W' : World} {b n z : Nat} {e : TypeId} {v : Value} {xs : List Value} (h : KeepO ob W W') {vb : Value} {B : List UInt8} {bad : Bool} (ho : OSt ob W vb B bad)
    (hr : W.ownsRow b e z v n xs) (h1 : e ≠ 5) (h2 : e ≠ 82) : W'.ownsRow b e z v n xs := by
  refine ⟨hr.1, ?_⟩
  rcases hr.2 with hz | ⟨g, cap, cur, e1, hb, hg, rest⟩
  · exact .inl hz
  · refine .inr ⟨g, cap, cur, e1, hb, ?_, rest⟩
    rw [h.typ g _ _ _ hg h1 (fun e => ?_)]
    · exact hg
    · subst e
      rw [ho.box] at hg
      simp only [Option.some.injEq, Obj.cells.injEq] at hg
      exact h2 hg.2.1.symm
theorem KeepO.keepS {ob : Nat} {W W' : World} (h : KeepO ob W W') {vb : Value} {B : List UInt8} {bad : Bool} (ho : OSt ob W vb B bad) (M : Nat) : KeepS M W W' :=
  fun _ _ _ hr => h.row ho hr (by decide) (by decide)

/-- What has been said so far, if it is not too long. -/
def OStO (ob : Nat) (W : World) (st : Option (List UInt8)) : Prop := ∃ vb B bad, OSt ob W vb B bad ∧ B.length ≤ 2000 ∧ st = if bad = true then none else some B
theorem info8F : (Tryd.prog.info? 5).map (fun i => (i.zero, i.size, i.bytes)) = some (some (.int .u8 0), 1, 1) := by kernel_rfl
theorem own_sliceF {w : World} {b n : Nat} {v : Value} {xs : List Value} (h : w.ownsRow b 5 1 v n xs) : ∃ a cap, v = .slice a n cap := by
  rcases h.2 with ⟨rfl, rfl⟩ | ⟨g, cap, cur, rfl, _⟩
  · exact ⟨_, _, rfl⟩
  · exact ⟨_, _, rfl⟩
set_option maxHeartbeats 2000000 in
theorem specSay (s : List UInt8) {ob : Nat} {W : World} {st : Option (List UInt8)} (h : OStO ob W st) (hs : s.length ≤ 100000000) :
    Calls Tryd.prog 80 #[.pointer (some ⟨ob, 0, none⟩), .string ⟨s.toArray⟩] W fun e W' => e = .returned (.tuple #[]) ∧ KeepO ob W W' ∧ OStO ob W' (say st s) := by
  obtain ⟨vb, B, bad, ho, hB, rfl⟩ := h
  obtain ⟨a0, cap, rfl⟩ := own_sliceF ho.row
  have c0 : W.cell? ⟨ob, 0, none⟩ = some (.slice a0 B.length cap) := cell_of_row _ _ _ _ _ _ ho.box
  have c1 : W.cell? ⟨ob, 1, none⟩ = some (.bool bad) := cell_of_row _ _ _ _ _ _ ho.box
  have z0 : W.frozen? ⟨ob, 0, none⟩ = false := frozen_of_row _ _ _ _ _ ho.box
  have z1 : W.frozen? ⟨ob, 1, none⟩ = false := frozen_of_row _ _ _ _ _ ho.box
  have hz : (⟨s.toArray⟩ : ByteArray).size = s.length := by simp [ByteArray.size]
  by_cases hlong : B.length + s.length ≤ 2000
  · have d1 : decide ((2000 : Int) < (B.length : Int) + (s.length : Int)) = false := decide_eq_false (by omega)
    cases bad
    · obtain ⟨i0, hi, hz0, hz1, hz2⟩ := info_parts info8F
      have hob := heap_lt ho.box
      have HO := Lib.hid ho
      clear ho
      go_enter Tryd.func80, Tryd.ntmps80
      go_wp2_with (at_builtin; refine Lib.wpList_append_own_string _ rfl _ _ 22 9 rfl (ob + 1) 5 i0 Tryd.underlying22 Tryd.underlying9 hi hz0 hz1 hz2 _ _ _ rfl HO.out.row ⟨s.toArray⟩ rfl (by simp only [maxLen]; omega) (by omega) (by omega) ?_; intro v1 w2 hown1 hgrow hat; obtain ⟨a1, cp1, rfl⟩ := own_sliceF hown1; have hb6 := (hgrow.block ob hob (fun e => HO.out.ne e.symm)).trans HO.out.box; have k0 : w2.cell? ⟨ob, 0, none⟩ = some (.slice a0 B.length cap) := cell_of_row _ _ _ _ _ _ hb6; have y0 : w2.frozen? ⟨ob, 0, none⟩ = false := frozen_of_row _ _ _ _ _ hb6)
      have hC : w2.ownsRow (ob + 1) 5 1 (.slice a1 (B.length + s.length) cp1) (B ++ s).length ((B ++ s).map bv) := by
        rw [hz] at hown1
        rw [List.length_append, List.map_append]
        exact hown1
      obtain ⟨r1, r2⟩ := HO.out.add hgrow hC
      have R1 := Lib.hid r1
      have R2 := Lib.hid r2
      clear hown1 hgrow hat hb6 hC r1 r2
      go_wp2
      go_end0
      refine ⟨rfl, R2.out, _, B ++ s, false, R1.out, by rw [List.length_append]; exact hlong, ?_⟩
      simp [say, hlong]
    · have HO := Lib.hid ho
      clear ho
      go_enter Tryd.func80, Tryd.ntmps80
      go_wp2
      go_end0
      exact ⟨rfl, KeepO.refl _ _, _, B, true, HO.out, hB, by simp [say]⟩
  · have d1 : decide ((2000 : Int) < (B.length : Int) + (s.length : Int)) = true := decide_eq_true (by omega)
    obtain ⟨r1, r2⟩ := ho.mark
    have R1 := Lib.hid r1
    have R2 := Lib.hid r2
    have k1 : (W.setCell ⟨ob, 1, none⟩ (.bool true)).cell? ⟨ob, 1, none⟩ = some (.bool true) := cell_of_row _ _ _ _ _ _ r1.box
    clear ho r1 r2
    cases bad
    all_goals
      go_enter Tryd.func80, Tryd.ntmps80
      go_wp2
      go_end0
      exact ⟨rfl, R2.out, _, B, true, R1.out, hB, by simp [say, hlong]⟩
end Go.Proofs.YtnklajagefedmaaDoor
