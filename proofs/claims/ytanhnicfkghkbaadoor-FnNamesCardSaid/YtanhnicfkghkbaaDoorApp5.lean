/-
  append([]byte{5}, code...): a list of bytes with one more in front.
-/
import Derived.Test.YtanhnicfkghkbaaDoorDr1P
import Derived.Laws.AppendOwnNone
namespace Go.Proofs.YtanhnicfkghkbaaDoor
set_option maxRecDepth 100000
open Go.ChangeShapes Go.WideShapes Go.ChangeAt Go.RowKit
set_option linter.unusedSimpArgs false
set_option linter.unusedVariables false

theorem cameOfRow {w : World} {b n : Nat} {v : Value} {l : List UInt8} (h : w.ownsRow b 5 1 v n (l.map bv)) (hn : n = l.length) : CameB w v l := by
  subst hn
  rcases Nat.eq_zero_or_pos l.length with h0 | hp
  · obtain ⟨a, cap, e⟩ := row_sliceB h
    exact ⟨a, cap, 0, 0, e, fun h1 => absurd h1 (by omega), fun j hj => absurd hj (by omega)⟩
  · obtain ⟨g, cap, rfl, hb, hg⟩ := h.form hp
    refine ⟨_, cap, g, 0, rfl, fun _ => ⟨rfl, hg⟩, fun j hj => ?_⟩
    rw [Nat.zero_add]
    have := h.cellAt j (by omega)
    rw [this, List.getElem?_map, List.getElem?_eq_getElem hj]
    rfl
theorem append_five {W : World} {ops : Array Oper} {rest : List Oper} {o : Oper} {a : Act} {Q : Exit → Act → World → Prop} (hgd : Region.wanted o (yielded ops a.tmps) = true) (s x : Operand)
    (ho : o.op = .call { callee := .builtin .append, args := #[s, x], argTypes := #[22, 22] })
    (hs : a.eval s = .slice (some ⟨W.heap.size, 0, none⟩) 1 1) (v : Value) (l : List UInt8) (hx : a.eval x = v) (hc : CameB W v l) (hnil : NilB v)
    (h63 : l.length ≤ 1048576)
    (h : ∀ v' w', CameB w' v' (5 :: l) → Below W.heap.size W w' → wpList Tryd.prog ops Q rest (a.put o.dst v') w') : wpList Tryd.prog ops Q (o :: rest) a (W.alloc (.cells #[.int .u8 5] 5)) := by
  have b0 := (Below.refl W.heap.size W).alloc (Nat.le_refl _) (.cells #[.int .u8 5] 5)
  obtain ⟨i0, hi, hz0, hz1, hz2⟩ := info_parts info8
  have r0 := World.ownsRow_lit (base := W.heap.size) (e := 5) (size := 1) W #[.int .u8 5] 1 (Nat.le_refl _) (by decide) (by simp)
  have hc1 := hc.below b0
  refine wpList_step fun K hK => ?_
  rw [if_pos hgd]
  obtain ⟨a0, cap, b, off, rfl, h2, h3⟩ := hc1
  rcases a0 with _ | ad
  · obtain ⟨h0, h1⟩ := hnil _ _ rfl
    obtain rfl : l = [] := List.length_eq_zero_iff.1 h0
    subst h1
    have hrun := run_append_owned_none (P := Tryd.prog) (w := W.alloc (.cells #[.int .u8 5] 5)) W.heap.size 22 o.type 5 i0 1 Tryd.underlying22 hi _ 1 _ r0
    unfold Oper.wp
    simp [execOp, ho, resolve, invoke, builtin, hs, hx, hrun, Result.andThen]
    exact hK _ _ (h _ _ (cameOfRow (l := [5]) r0 rfl) b0)
  refine wp_append_own _ s x 22 ho W.heap.size 5 i0 _ 1 1 Tryd.underlying22 hi hz0 hz1 hz2 rfl (by decide) _ 1 _ hs r0 ad l.length cap (l.map bv) hx (by simp) (fun j u hu => ?_) (fun u hu => by obtain ⟨x, _, rfl⟩ := List.mem_map.1 hu; rfl) (by unfold maxLen; omega) (by omega) (by simp) ?_
  · have hj : j < l.length := by
      have := List.getElem?_eq_some_iff.1 hu
      obtain ⟨h5, _⟩ := this
      simpa using h5
    obtain ⟨e, _⟩ := h2 (by omega)
    cases e
    rw [List.getElem?_map, List.getElem?_eq_getElem hj] at hu
    have := h3 j hj
    cases hu
    show (W.alloc _).cell? ((⟨b, off, none⟩ : Addr).add j) = _
    rw [show (⟨b, off, none⟩ : Addr).add j = ⟨b, off + j, none⟩ by by_cases hz : j = 0 <;> simp [Addr.add, hz]]
    simpa [bv] using this
  intro v' w' h1 h2' h3'
  refine hK _ _ (h v' w' (cameOfRow (l := 5 :: l) (n := 1 + l.length) (by simpa [bv] using h1) (by simp; omega)) (b0.grown h2' b0.size fun k hk => ?_))
  cases hk
  exact Nat.le_refl _
end Go.Proofs.YtanhnicfkghkbaaDoor
