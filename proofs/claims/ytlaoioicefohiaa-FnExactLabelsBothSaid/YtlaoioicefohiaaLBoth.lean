/-
  Contracts of spec.l03Sorted over owned rows, and of spec.LabelsBoth.
-/
import Derived.Test.YtlaoioicefohiaaLSort
import Derived.Laws.AppendOwnNone
namespace Go.Proofs.Ytlaoioicefohiaa
set_option maxRecDepth 100000
open Go.ChangeShapes Go.WideShapes Go.ChangeAt Go.RowKit
set_option linter.unusedSimpArgs false

theorem own_sliceL {w : World} {b n : Nat} {v : Value} {xs : List Value} (h : w.ownsRow b 31 2 v n xs) : ∃ a cap, v = .slice a n cap := by
  rcases h.2 with ⟨rfl, rfl⟩ | ⟨g, cap, cur, rfl, _⟩
  · exact ⟨_, _, rfl⟩
  · exact ⟨_, _, rfl⟩
/-- append of an owned row of labels, nil or not, onto an owned row. -/
theorem append_rowsL {w : World} {ops : Array Oper} {rest : List Oper} {o : Oper} {a : Act} {Q : Exit → Act → World → Prop} (hgd : o.guard = none) (s x : Operand)
    (ho : o.op = .call { callee := .builtin .append, args := #[s, x], argTypes := #[43, 43] })
    (base : Nat) (v : Value) (n : Nat) (xs : List Value) (hs : a.eval s = v) (hown : w.ownsRow base 31 2 v n xs)
    (bx : Nat) (vx : Value) (l : List Lbl) (hx : a.eval x = vx) (hrow : w.ownsRow bx 31 2 vx l.length (flat l))
    (h63 : n + l.length ≤ 100000000) (hbase : base ≤ w.heap.size)
    (h : ∀ v' w', w'.ownsRow base 31 2 v' (n + l.length) (xs ++ flat l) → w.grownBy w' v.ownBlock → (v' = .slice none 0 0 → v = .slice none 0 0) → wpList Try.prog ops Q rest (a.put o.dst v') w') : wpList Try.prog ops Q (o :: rest) a w := by
  obtain ⟨i0, hi, hz0, hz1, hz2⟩ := info_parts infoLb
  have hfl := flat_length l
  rcases hrow.2 with ⟨rfl, h0⟩ | ⟨g, cap, cur, rfl, _⟩
  · have hl : l = [] := List.length_eq_zero_iff.1 h0
    subst hl
    refine wpList_append_own_none hgd s x 43 ho base 31 i0 2 Try.underlying43 hi v n xs hs hown hx ?_
    exact h v w (by simpa [flat_nil] using hown) (World.grownBy.refl _ _) id
  · refine wpList_append_own w hgd s x 43 ho base 31 i0 _ 2 24 Try.underlying43 hi hz0 hz1 hz2 rfl (by decide) v n xs hs hown ⟨g, 0, none⟩ l.length cap (flat l) hx hfl (hrow.cells rfl) (one_flat l) (by unfold maxLen; omega) (by omega) hbase ?_
    intro v' w' h1 h2 h3
    exact h v' w' h1 h2 fun e => (h3.1 e).1
theorem view_of_ownL {w : World} {b : Nat} {v : Value} {l : List Lbl} (h : w.ownsRow b 31 2 v l.length (flat l)) (hv : v ≠ .slice none 0 0) : ViewL w v l := by
  rcases h.2 with ⟨e, _⟩ | ⟨g, cap, cur, rfl, hb, hg, hn, hm, hs, ht⟩
  · exact absurd e hv
  · have hlt : g < w.heap.size := (h.lt g rfl).2
    refine ⟨g, 0, cap, rfl, hn, hm, hlt, fun j hj => ?_⟩
    obtain ⟨fa, fb⟩ := flat_at hj
    rw [Nat.zero_add, h.cellAt (j * 2) (by omega), h.cellAt (j * 2 + 1) (by omega)]
    exact ⟨fa, fb⟩
theorem specSortedOwn {w : World} {b : Nat} {v : Value} {l : List Lbl} (h : w.ownsRow b 31 2 v l.length (flat l)) (hn : l.length ≤ 2097152) : Calls Try.prog 56 #[v] w (LResL (srt ordL l) w) := by
  by_cases hv : v = .slice none 0 0
  · subst hv
    have h0 : l.length = 0 := by
      rcases h.2 with ⟨_, e⟩ | ⟨g, cap, cur, e, _⟩
      · exact e
      · cases e
    obtain rfl : l = [] := List.length_eq_zero_iff.1 h0
    obtain ⟨i0, hi, hz0, hz1, hz2⟩ := info_parts infoLb
    have HR := Lib.hid (srt_small ordL (l := []) (by decide))
    clear h h0 hn
    go_enter Try.func56, Try.ntmps56
    go_wp2_with (at_builtin; refine wpList_append_own_none rfl _ _ 43 rfl w.heap.size 31 i0 2 Try.underlying43 hi _ 0 [] rfl (World.ownsRow_lit w #[] 0 (Nat.le_refl _) (by decide) (by simp)) rfl ?_)
    go_ret
    rw [HR.out]
    exact ⟨_, rfl, World.ownsRow_lit w #[] 0 (Nat.le_refl _) (by decide) (by simp), (Below.refl _ _).alloc (Nat.le_refl _) _⟩
  · exact specSortedL _ l (Nat.le_refl _) hn w v (view_of_ownL h hv)

set_option maxHeartbeats 1000000 in
theorem specLabelsBoth {w : World} {b1 b2 : Nat} {v1 v2 : Value} {a b : List Lbl} (h1 : w.ownsRow b1 31 2 v1 a.length (flat a)) (h2 : w.ownsRow b2 31 2 v2 b.length (flat b)) (hn : a.length + b.length ≤ 1048576) :
    Calls Try.prog 32 #[v1, v2] w (LResL (srt ordL (a ++ b)) w) := by
  obtain ⟨a1, k1, rfl⟩ := own_sliceL h1
  obtain ⟨a2, k2, rfl⟩ := own_sliceL h2
  have h0 := World.ownsRow_lit (base := w.heap.size) (e := 31) (size := 2) w #[] 0 (Nat.le_refl _) (by decide) (by simp)
  have B0 : Below w.heap.size w (w.alloc (.cells #[] 31)) := (Below.refl _ _).alloc (Nat.le_refl _) _
  have r1 := own_below h1 B0
  go_enter Try.func32, Try.ntmps32
  go_wp2_with (first
    | (at_builtin; refine append_rowsL rfl _ _ rfl w.heap.size _ 0 _ rfl h0 b1 _ a rfl r1 (by omega) (by simp) ?_; intro v3 w3 hv3 hg3 hnil3
       have B3 : Below w.heap.size w w3 := B0.grown hg3 (by simp) (fun q hq => (h0.lt q hq).1)
       have r2 := own_below h2 B3
       have hl3 := hv3.lt
       have hz3 := B3.size)
    | (at_builtin; refine append_rowsL rfl _ _ rfl w.heap.size v3 _ _ rfl hv3 b2 _ b rfl r2 (by omega) hz3 ?_; intro v4 w4 hv4 hg4 hnil4))
  have B4 : Below w.heap.size w w4 := B3.grown hg4 hz3 (fun q hq => (hl3 q hq).1)
  have hv5 : w4.ownsRow w.heap.size 31 2 v4 (a ++ b).length (flat (a ++ b)) := by simpa [flat_append] using hv4
  refine (specSortedOwn hv5 (by simp; omega)).mono ?_
  rintro e w5 ⟨v5, rfl, ho5, hb5⟩
  have hz4 := B4.size
  go_wp2
  go_ret
  exact ⟨_, rfl, own_monoL ho5 hz4, B4.trans (hb5.mono hz4)⟩
end Go.Proofs.Ytlaoioicefohiaa
