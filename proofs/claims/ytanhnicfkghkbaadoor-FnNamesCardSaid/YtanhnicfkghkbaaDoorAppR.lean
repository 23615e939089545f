/-
  append([]string{}, v...): a copy in a place of its own, whether v is nil, empty or not.
-/
import Derived.Test.YtanhnicfkghkbaaDoorListsP
import Derived.Laws.AppendOwnNone
namespace Go.Proofs.YtanhnicfkghkbaaDoor
set_option maxRecDepth 100000
open Go.ChangeShapes Go.WideShapes Go.ChangeAt Go.RowKit
set_option linter.unusedSimpArgs false
set_option linter.unusedVariables false

theorem append_copyS {W : World} {ops : Array Oper} {rest : List Oper} {o : Oper} {a : Act} {Q : Exit → Act → World → Prop} (hgd : Region.wanted o (yielded ops a.tmps) = true) (s x : Operand)
    (ho : o.op = .call { callee := .builtin .append, args := #[s, x], argTypes := #[24, 24] })
    (hs : a.eval s = .slice (some ⟨W.heap.size, 0, none⟩) 0 0) (bx : Nat) (vx : Value) (l : List (List UInt8)) (hx : a.eval x = vx) (hrow : W.ownsRow bx 9 1 vx l.length (l.map sv))
    (h63 : l.length ≤ 1000000)
    (h : ∀ v' w', w'.ownsRow W.heap.size 9 1 v' l.length (l.map sv) → Below W.heap.size W w' → wpList Tryd.prog ops Q rest (a.put o.dst v') w') : wpList Tryd.prog ops Q (o :: rest) a (W.alloc (.cells #[] 9)) := by
  have b0 := (Below.refl W.heap.size W).alloc (Nat.le_refl _) (.cells #[] 9)
  obtain ⟨i0, hi, hz0, hz1, hz2⟩ := info_parts infoStr'
  have r0 := World.ownsRow_lit (base := W.heap.size) (e := 9) (size := 1) W #[] 0 (Nat.le_refl _) (by decide) (by simp)
  refine wpList_step fun K hK => ?_
  rw [if_pos hgd]
  rcases hrow.2 with ⟨rfl, h0⟩ | ⟨g, cap, cur, rfl, _⟩
  · obtain rfl : l = [] := List.length_eq_zero_iff.1 h0
    have hrun := run_append_owned_none (P := Tryd.prog) (w := W.alloc (.cells #[] 9)) W.heap.size 24 o.type 9 i0 1 Tryd.underlying24 hi _ 0 [] r0
    unfold Oper.wp
    simp [execOp, ho, resolve, invoke, builtin, hs, hx, hrun, Result.andThen]
    exact hK _ _ (h _ _ r0 b0)
  refine wp_append_own _ s x 24 ho W.heap.size 9 i0 _ 1 16 Tryd.underlying24 hi hz0 hz1 hz2 rfl (by decide) _ 0 [] hs r0 ⟨g, 0, none⟩ l.length cap (l.map sv) hx (by simp) ((hrow.alloc _).cells rfl) (fun u hu => by obtain ⟨x, _, rfl⟩ := List.mem_map.1 hu; rfl) (by unfold maxLen; omega) (by omega) (by simp) ?_
  intro v' w' h1 h2 h3
  refine hK _ _ (h v' w' (by simpa using h1) (b0.grown h2 b0.size fun k hk => ?_))
  cases hk
  exact Nat.le_refl _
/-- The same for one operation of a region whose order is drawn. -/
theorem wp_copyS {W : World} {o : Oper} {a : Act} {K : Act → World → Prop} {Q : Exit → Act → World → Prop} (s x : Operand)
    (ho : o.op = .call { callee := .builtin .append, args := #[s, x], argTypes := #[24, 24] })
    (hs : a.eval s = .slice (some ⟨W.heap.size, 0, none⟩) 0 0) (bx : Nat) (vx : Value) (l : List (List UInt8)) (hx : a.eval x = vx) (hrow : W.ownsRow bx 9 1 vx l.length (l.map sv))
    (h63 : l.length ≤ 1000000)
    (h : ∀ v' w', w'.ownsRow W.heap.size 9 1 v' l.length (l.map sv) → Below W.heap.size W w' → K (a.put o.dst v') w') : o.wp Tryd.prog a (W.alloc (.cells #[] 9)) K Q := by
  have b0 := (Below.refl W.heap.size W).alloc (Nat.le_refl _) (.cells #[] 9)
  obtain ⟨i0, hi, hz0, hz1, hz2⟩ := info_parts infoStr'
  have r0 := World.ownsRow_lit (base := W.heap.size) (e := 9) (size := 1) W #[] 0 (Nat.le_refl _) (by decide) (by simp)
  rcases hrow.2 with ⟨rfl, h0⟩ | ⟨g, cap, cur, rfl, _⟩
  · obtain rfl : l = [] := List.length_eq_zero_iff.1 h0
    have hrun := run_append_owned_none (P := Tryd.prog) (w := W.alloc (.cells #[] 9)) W.heap.size 24 o.type 9 i0 1 Tryd.underlying24 hi _ 0 [] r0
    unfold Oper.wp
    simp [execOp, ho, resolve, invoke, builtin, hs, hx, hrun, Result.andThen]
    exact h _ _ r0 b0
  refine wp_append_own _ s x 24 ho W.heap.size 9 i0 _ 1 16 Tryd.underlying24 hi hz0 hz1 hz2 rfl (by decide) _ 0 [] hs r0 ⟨g, 0, none⟩ l.length cap (l.map sv) hx (by simp) ((hrow.alloc _).cells rfl) (fun u hu => by obtain ⟨x, _, rfl⟩ := List.mem_map.1 hu; rfl) (by unfold maxLen; omega) (by omega) (by simp) ?_
  intro v' w' h1 h2 h3
  refine h v' w' (by simpa using h1) (b0.grown h2 b0.size fun k hk => ?_)
  cases hk
  exact Nat.le_refl _
end Go.Proofs.YtanhnicfkghkbaaDoor
