/-
  Contracts of slices.Grow at nil, slices.Concat at two lists of strings and impl.clones.
-/
import Derived.Test.YtanhnicfkghkbaaDoorSBP0
import Derived.Test.YtanhnicfkghkbaaDoorCl
import Derived.Test.YtanhnicfkghkbaaDoorSWalks
import Derived.Test.YtanhnicfkghkbaaDoorShelfC
import Derived.Test.YtanhnicfkghkbaaDoorShelfCm
import Derived.Test.YtanhnicfkghkbaaDoorShelfSs
import Derived.Laws.AppendOwnNone
import Derived.Sort.OwnSorted
import Derived.Lib.OwnBridge
namespace Go.Proofs.YtanhnicfkghkbaaDoor
set_option maxRecDepth 100000
open Go.ChangeShapes Go.WideShapes Go.ChangeAt Go.RowKit

/-- append of an owned row of strings, nil or not, onto an owned row. -/
theorem append_rowsS {w : World} {ops : Array Oper} {rest : List Oper} {o : Oper} {a : Act} {Q : Exit → Act → World → Prop} (hgd : o.guard = none) (s x : Operand)
    (ho : o.op = .call { callee := .builtin .append, args := #[s, x], argTypes := #[24, 24] })
    (base : Nat) (v : Value) (n : Nat) (xs : List Value) (hs : a.eval s = v) (hown : w.ownsRow base 9 1 v n xs)
    (bx : Nat) (vx : Value) (l : List BL) (hx : a.eval x = vx) (hrow : w.ownsRow bx 9 1 vx l.length (l.map sv))
    (h63 : n + l.length ≤ 100000000) (hbase : base ≤ w.heap.size)
    (h : ∀ v' w', w'.ownsRow base 9 1 v' (n + l.length) (xs ++ l.map sv) → w.grownBy w' v.ownBlock → (v' = .slice none 0 0 → v = .slice none 0 0) → wpList Tryd.prog ops Q rest (a.put o.dst v') w') : wpList Tryd.prog ops Q (o :: rest) a w := by
  obtain ⟨i0, hi, hz0, hz1, hz2⟩ := info_parts infoStr
  rcases hrow.2 with ⟨rfl, h0⟩ | ⟨g, cap, cur, rfl, _⟩
  · have hl : l = [] := List.length_eq_zero_iff.1 h0
    subst hl
    refine wpList_append_own_none hgd s x 24 ho base 9 i0 1 Tryd.underlying24 hi v n xs hs hown hx ?_
    exact h v w (by simpa using hown) (World.grownBy.refl _ _) id
  · refine wpList_append_own w hgd s x 24 ho base 9 i0 _ 1 16 Tryd.underlying24 hi hz0 hz1 hz2 rfl (by decide) v n xs hs hown ⟨g, 0, none⟩ l.length cap (l.map sv) hx (by simp) (hrow.cells rfl) (one_map' l) (by unfold maxLen; omega) (by omega) hbase ?_
    intro v' w' h1 h2 h3
    exact h v' w' h1 h2 fun e => (h3.1 e).1

theorem growNil (n : Nat) (w : World) (hn : n ≤ 10000000) :
    Calls Tryd.prog 35 #[.slice none 0 0, .int .i64 (n : Int)] w fun e w' => ∃ v, e = .returned v ∧ w'.ownsRow w.heap.size 9 1 v 0 [] ∧ Below w.heap.size w w' := by
  rcases Nat.eq_zero_or_pos n with rfl | hp
  · refine (Any8.slices_Grow_room Tryd.lays8n4S none 0 0 0 w (Nat.le_refl _) (by decide) (by decide) (by decide)).mono ?_
    rintro e w' ⟨rfl, rfl⟩
    exact ⟨_, rfl, World.ownsRow_nil _ _ _ _, Below.refl _ _⟩
  · obtain ⟨i0, hi, hz0, hz1, hz2⟩ := info_parts infoStr
    refine (Any8.slices_Grow_grow Tryd.lays8n4S i0 (.string ⟨#[]⟩) hi hz0 (by omega) none 0 0 n [] w (Nat.le_refl _) (by omega) (by rw [hz2]; omega) (by omega) (by simp) (fun _ => rfl) (fun a h => by cases h)).mono ?_
    rintro e w' ⟨rfl, rfl⟩
    refine ⟨_, rfl, ?_, ?_⟩
    · have hge := grownCap_ge w (0 + n) 0 9
      have hge2 := grownCap_ge w n 0 9
      have hle := grownCap_le_maxLen w (0 + n) 0 9 (by unfold maxLen; omega)
      have := World.ownsRow_made (base := w.heap.size) (e := 9) (size := 1) w.drew (([] : List Value).toArray ++ Builtin.zeroCells (Value.string ⟨#[]⟩).cells (0 + n - 0) ++ Builtin.zeroCells (Value.string ⟨#[]⟩).cells (grownCap w (0 + n) 0 9 - (0 + n))) (grownCap w (0 + n) 0 9) (Nat.le_refl _) hle (by simp [Builtin.zeroCells, Value.cells]; omega)
      exact this
    · exact ((Below.refl w.heap.size w).drew).alloc (Nat.le_refl _) _

set_option maxHeartbeats 1000000 in
theorem concatTwo {w : World} {x b1 b2 : Nat} {v1 v2 : Value} {a b : List BL} (c0 : w.cell? ⟨x, 0, none⟩ = some v1) (c1 : w.cell? ⟨x, 1, none⟩ = some v2) (hx : x < w.heap.size)
    (h1 : w.ownsRow b1 9 1 v1 a.length (a.map sv)) (h2 : w.ownsRow b2 9 1 v2 b.length (b.map sv)) (ha : a.length ≤ 2000000) (hb : b.length ≤ 2000000) :
    Calls Tryd.prog 26 #[.slice (some ⟨x, 0, none⟩) 2 2] w (LRes (a ++ b) w) := by
  obtain ⟨a1, k1, rfl⟩ := own_slice h1
  obtain ⟨a2, k2, rfl⟩ := own_slice h2
  have f1 := Lib.hid fun W => growNil (a.length + b.length) W (by omega)
  have d1 : decide ((a.length : Int) < 0) = false := decide_eq_false (by omega)
  have d2 : decide ((a.length : Int) + (b.length : Int) < 0) = false := decide_eq_false (by omega)
  go_enter Tryd.func26, Tryd.ntmps26
  go_wp2
  refine wp_loop_rounds 3 ?_
  rw [rounds_succ]
  go_wp2
  rw [rounds_succ]
  go_wp2
  rw [rounds_succ]
  go_wp2_with fail
  (refine (f1.out _).mono ?_); rintro e w1 ⟨v, rfl, hv, hb1⟩
  have B1 : Below w.heap.size w w1 := hb1
  have c0' := (B1.cell (p := ⟨x, 0, none⟩) hx).trans c0
  have c1' := (B1.cell (p := ⟨x, 1, none⟩) hx).trans c1
  have r1 := own_below h1 B1
  have hl := hv.lt
  have hz := B1.size
  clear c0 c1 f1
  go_wp2
  refine wp_loop_rounds 3 ?_
  rw [rounds_succ]
  go_wp2_with (at_builtin; refine append_rowsS rfl _ _ rfl w.heap.size v 0 [] rfl hv b1 _ a rfl r1 (by omega) hz ?_; intro v3 w3 hv3 hg3 hnil3)
  have B3 : Below w.heap.size w w3 := B1.grown hg3 hz (fun q hq => (hl q hq).1)
  have c1'' := (B3.cell (p := ⟨x, 1, none⟩) hx).trans ((B1.cell (p := ⟨x, 1, none⟩) hx).symm.trans c1')
  have r2 := own_below h2 B3
  have hl3 := hv3.lt
  have hz3 := B3.size
  clear hv c0' c1' r1
  rw [rounds_succ]
  go_wp2_with (at_builtin; refine append_rowsS rfl _ _ rfl w.heap.size v3 _ _ rfl hv3 b2 _ b rfl r2 (by omega) hz3 ?_; intro v4 w4 hv4 hg4 hnil4)
  have B4 : Below w.heap.size w w4 := B3.grown hg4 hz3 (fun q hq => (hl3 q hq).1)
  rw [rounds_succ]
  go_wp2
  go_ret
  exact ⟨_, rfl, by simpa using hv4, B4⟩
end Go.Proofs.YtanhnicfkghkbaaDoor
