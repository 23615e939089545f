/-
  Contracts of spec.l01Below at a great number and of spec.DrawPlaces; what is appended to a list of ints or of bytes.
-/
import Derived.Test.YtpljjkhlgckfkaaDoorIntsP
import Derived.Laws.AppendOwnNone
namespace Go.Proofs.YtpljjkhlgckfkaaDoor
set_option maxRecDepth 100000
open Go.ChangeShapes Go.WideShapes Go.ChangeAt Go.RowKit
set_option linter.unusedSimpArgs false

theorem one_mapI (l : List Int) : ∀ u ∈ l.map iv, u.oneCell' = true := by
  intro u hu
  obtain ⟨x, _, rfl⟩ := List.mem_map.1 hu
  rfl
/-- append of an owned row of ints to an owned row of ints. -/
theorem append_rowsI {w : World} {ops : Array Oper} {rest : List Oper} {o : Oper} {a : Act} {Q : Exit → Act → World → Prop} (hgd : o.guard = none) (s x : Operand)
    (ho : o.op = .call { callee := .builtin .append, args := #[s, x], argTypes := #[24, 24] })
    (base : Nat) (v : Value) (n : Nat) (xs : List Value) (hs : a.eval s = v) (hown : w.ownsRow base 3 1 v n xs)
    (bx : Nat) (vx : Value) (l : List Int) (hx : a.eval x = vx) (hrow : w.ownsRow bx 3 1 vx l.length (l.map iv))
    (h63 : n + l.length ≤ 100000000) (hbase : base ≤ w.heap.size)
    (h : ∀ v' w', w'.ownsRow base 3 1 v' (n + l.length) (xs ++ l.map iv) → w.grownBy w' v.ownBlock → wpList Tryd.prog ops Q rest (a.put o.dst v') w') : wpList Tryd.prog ops Q (o :: rest) a w := by
  obtain ⟨i0, hi, hz0, hz1, hz2⟩ := info_parts infoInt
  rcases hrow.2 with ⟨rfl, h0⟩ | ⟨g, cap, cur, rfl, _⟩
  · have hl : l = [] := List.length_eq_zero_iff.1 h0
    subst hl
    refine wpList_append_own_none hgd s x 24 ho base 3 i0 1 Tryd.underlying24 hi v n xs hs hown hx ?_
    exact h v w (by simpa using hown) (World.grownBy.refl _ _)
  · refine wpList_append_own w hgd s x 24 ho base 3 i0 _ 1 8 Tryd.underlying24 hi hz0 hz1 hz2 rfl (by decide) v n xs hs hown ⟨g, 0, none⟩ l.length cap (l.map iv) hx (by simp) (hrow.cells rfl) (one_mapI l) (by unfold maxLen; omega) (by omega) hbase ?_
    intro v' w' h1 h2 h3
    exact h v' w' h1 h2
/-- append([]int{}, v...), v not empty: a copy in a place of its own. -/
theorem append_copyI {W : World} {ops : Array Oper} {rest : List Oper} {o : Oper} {a : Act} {Q : Exit → Act → World → Prop} (hgd : Region.wanted o (yielded ops a.tmps) = true) (s x : Operand)
    (ho : o.op = .call { callee := .builtin .append, args := #[s, x], argTypes := #[24, 24] })
    (hs : a.eval s = .slice (some ⟨W.heap.size, 0, none⟩) 0 0) (bx : Nat) (vx : Value) (l : List Int) (hx : a.eval x = vx) (hrow : W.ownsRow bx 3 1 vx l.length (l.map iv))
    (hpos : 0 < l.length) (h63 : l.length ≤ 1000000)
    (h : ∀ v' w', w'.ownsRow W.heap.size 3 1 v' l.length (l.map iv) → Below W.heap.size W w' → wpList Tryd.prog ops Q rest (a.put o.dst v') w') : wpList Tryd.prog ops Q (o :: rest) a (W.alloc (.cells #[] 3)) := by
  have b0 := (Below.refl W.heap.size W).alloc (Nat.le_refl _) (.cells #[] 3)
  obtain ⟨i0, hi, hz0, hz1, hz2⟩ := info_parts infoInt
  obtain ⟨g, cap, rfl, _, hgl⟩ := hrow.form hpos
  have r0 := World.ownsRow_lit (base := W.heap.size) (e := 3) (size := 1) W #[] 0 (Nat.le_refl _) (by decide) (by simp)
  refine wpList_step fun K hK => ?_
  rw [if_pos hgd]
  refine wp_append_own _ s x 24 ho W.heap.size 3 i0 _ 1 8 Tryd.underlying24 hi hz0 hz1 hz2 rfl (by decide) _ 0 [] hs r0 ⟨g, 0, none⟩ l.length cap (l.map iv) hx (by simp) ((hrow.alloc _).cells rfl) (one_mapI l) (by unfold maxLen; omega) (by omega) (by simp) ?_
  intro v' w' h1 h2 h3
  refine hK _ _ (h v' w' (by simpa using h1) (b0.grown h2 b0.size fun k hk => ?_))
  cases hk
  exact Nat.le_refl _
end Go.Proofs.YtpljjkhlgckfkaaDoor
