/-
  Contracts of spec.l01Below at a great number and of spec.DrawPlaces; what is appended to a list of ints or of bytes.
-/
import Derived.Test.YtnklajagefedmaaDoorDr3
import Derived.Test.YtnklajagefedmaaDoorIntsP
import Derived.Laws.AppendOwnNone
namespace Go.Proofs.YtnklajagefedmaaDoor
set_option maxRecDepth 100000
open Go.ChangeShapes Go.WideShapes Go.ChangeAt Go.RowKit
set_option linter.unusedSimpArgs false

theorem one_mapI (l : List Int) : ∀ u ∈ l.map iv, u.oneCell' = true := by
  intro u hu
  obtain ⟨x, _, rfl⟩ := List.mem_map.1 hu
  rfl
/-- append of an owned row of ints to an owned row of ints. -/
theorem append_rowsI {w : World} {ops : Array Oper} {rest : List Oper} {o : Oper} {a : Act} {Q : Exit → Act → World → Prop} (hgd : o.guard = none) (s x : Operand)
    (ho : o.op = .call { callee := .builtin .append, args := #[s, x], argTypes := #[38, 38] })
    (base : Nat) (v : Value) (n : Nat) (xs : List Value) (hs : a.eval s = v) (hown : w.ownsRow base 3 1 v n xs)
    (bx : Nat) (vx : Value) (l : List Int) (hx : a.eval x = vx) (hrow : w.ownsRow bx 3 1 vx l.length (l.map iv))
    (h63 : n + l.length ≤ 100000000) (hbase : base ≤ w.heap.size)
    (h : ∀ v' w', w'.ownsRow base 3 1 v' (n + l.length) (xs ++ l.map iv) → w.grownBy w' v.ownBlock → wpList Tryd.prog ops Q rest (a.put o.dst v') w') : wpList Tryd.prog ops Q (o :: rest) a w := by
  obtain ⟨i0, hi, hz0, hz1, hz2⟩ := info_parts infoInt
  rcases hrow.2 with ⟨rfl, h0⟩ | ⟨g, cap, cur, rfl, _⟩
  · have hl : l = [] := List.length_eq_zero_iff.1 h0
    subst hl
    refine wpList_append_own_none hgd s x 38 ho base 3 i0 1 Tryd.underlying38 hi v n xs hs hown hx ?_
    exact h v w (by simpa using hown) (World.grownBy.refl _ _)
  · refine wpList_append_own w hgd s x 38 ho base 3 i0 _ 1 8 Tryd.underlying38 hi hz0 hz1 hz2 rfl (by decide) v n xs hs hown ⟨g, 0, none⟩ l.length cap (l.map iv) hx (by simp) (hrow.cells rfl) (one_mapI l) (by unfold maxLen; omega) (by omega) hbase ?_
    intro v' w' h1 h2 h3
    exact h v' w' h1 h2
/-- append([]int{}, v...), v not empty: a copy in a place of its own. -/
theorem append_copyI {W : World} {ops : Array Oper} {rest : List Oper} {o : Oper} {a : Act} {Q : Exit → Act → World → Prop} (hgd : Region.wanted o (yielded ops a.tmps) = true) (s x : Operand)
    (ho : o.op = .call { callee := .builtin .append, args := #[s, x], argTypes := #[38, 38] })
    (hs : a.eval s = .slice (some ⟨W.heap.size, 0, none⟩) 0 0) (bx : Nat) (vx : Value) (l : List Int) (hx : a.eval x = vx) (hrow : W.ownsRow bx 3 1 vx l.length (l.map iv))
    (hpos : 0 < l.length) (h63 : l.length ≤ 1000000)
    (h : ∀ v' w', w'.ownsRow W.heap.size 3 1 v' l.length (l.map iv) → Below W.heap.size W w' → wpList Tryd.prog ops Q rest (a.put o.dst v') w') : wpList Tryd.prog ops Q (o :: rest) a (W.alloc (.cells #[] 3)) := by
  have b0 := (Below.refl W.heap.size W).alloc (Nat.le_refl _) (.cells #[] 3)
  obtain ⟨i0, hi, hz0, hz1, hz2⟩ := info_parts infoInt
  obtain ⟨g, cap, rfl, _, hgl⟩ := hrow.form hpos
  have r0 := World.ownsRow_lit (base := W.heap.size) (e := 3) (size := 1) W #[] 0 (Nat.le_refl _) (by decide) (by simp)
  refine wpList_step fun K hK => ?_
  rw [if_pos hgd]
  refine wp_append_own _ s x 38 ho W.heap.size 3 i0 _ 1 8 Tryd.underlying38 hi hz0 hz1 hz2 rfl (by decide) _ 0 [] hs r0 ⟨g, 0, none⟩ l.length cap (l.map iv) hx (by simp) ((hrow.alloc _).cells rfl) (one_mapI l) (by unfold maxLen; omega) (by omega) (by simp) ?_
  intro v' w' h1 h2 h3
  refine hK _ _ (h v' w' (by simpa using h1) (b0.grown h2 b0.size fun k hk => ?_))
  cases hk
  exact Nat.le_refl _
theorem one_mapB (l : List UInt8) : ∀ u ∈ l.map bv, u.oneCell' = true := by
  intro u hu
  obtain ⟨x, _, rfl⟩ := List.mem_map.1 hu
  rfl
theorem infoU8 : (Tryd.prog.info? 5).map (fun i => (i.zero, i.size, i.bytes)) = some (some (.int .u8 0), 1, 1) := by kernel_rfl
/-- append of a list of bytes that came in to an owned row of bytes. -/
theorem append_cameB {w : World} {ops : Array Oper} {rest : List Oper} {o : Oper} {a : Act} {Q : Exit → Act → World → Prop} (hgd : o.guard = none) (s x : Operand)
    (ho : o.op = .call { callee := .builtin .append, args := #[s, x], argTypes := #[22, 22] })
    (base : Nat) (v : Value) (n : Nat) (xs : List Value) (hs : a.eval s = v) (hown : w.ownsRow base 5 1 v n xs)
    (vx : Value) (l : List UInt8) (hx : a.eval x = vx) (hrow : CameB w vx l) (hnil : NilB vx)
    (h63 : n + l.length ≤ 100000000) (hbase : base ≤ w.heap.size)
    (h : ∀ v' w', w'.ownsRow base 5 1 v' (n + l.length) (xs ++ l.map bv) → w.grownBy w' v.ownBlock → wpList Tryd.prog ops Q rest (a.put o.dst v') w') : wpList Tryd.prog ops Q (o :: rest) a w := by
  obtain ⟨i0, hi, hz0, hz1, hz2⟩ := info_parts infoU8
  obtain ⟨a0, cap, b, off, rfl, h2, h3⟩ := hrow
  cases a0 with
  | none =>
    have hl : l = [] := by
      cases l with
      | nil => rfl
      | cons c r => exact absurd (h2 (by simp)).1 (by simp)
    subst hl
    obtain ⟨_, rfl⟩ := hnil _ _ rfl
    refine wpList_append_own_none hgd s x 22 ho base 5 i0 1 Tryd.underlying22 hi v n xs hs hown hx ?_
    exact h v w (by simpa using hown) (World.grownBy.refl _ _)
  | some ad =>
    refine wpList_append_own w hgd s x 22 ho base 5 i0 _ 1 1 Tryd.underlying22 hi hz0 hz1 hz2 rfl (by decide) v n xs hs hown ad l.length cap (l.map bv) hx (by simp) ?_ (one_mapB l) (by unfold maxLen; omega) (by omega) hbase ?_
    · intro j u hu
      have hj : j < l.length := by
        by_cases hj : j < l.length
        · exact hj
        · rw [List.getElem?_eq_none (by simp; omega)] at hu; cases hu
      obtain ⟨e, _⟩ := h2 (by omega)
      cases e
      rw [add_plain, h3 j hj]
      simp [hj] at hu
      rw [← hu]
      rfl
    · intro v' w' h4 h5 h6
      exact h v' w' h4 h5
theorem cameB_own {w : World} {b : Nat} {v : Value} {l : List UInt8} (h : w.ownsRow b 5 1 v l.length (l.map bv)) : CameB w v l := by
  rcases h.2 with ⟨rfl, h0⟩ | ⟨g, cap, cur, rfl, _⟩
  · exact ⟨none, 0, 0, 0, by rw [h0], fun h1 => absurd h1 (by omega), fun j hj => absurd hj (by omega)⟩
  · refine ⟨some ⟨g, 0, none⟩, cap, g, 0, rfl, fun _ => ⟨rfl, (h.lt g rfl).2⟩, fun j hj => ?_⟩
    have := h.cells (g := g) rfl j (bv l[j]) (by simp [hj])
    rw [add_plain] at this
    exact this

theorem drawBelowBig {w0 w : World} {v : Value} {l : List UInt8} {cb : Nat} (hl : CameB w0 v l) (hc : Cur w0 v l cb w) (hn : l.length ≤ 2000000) :
    Calls Tryd.prog 45 #[.pointer (some ⟨cb, 0, none⟩), .int .i64 10000] w fun e w' => (∃ x : Nat, x < 10000 ∧ e = .returned (.int .i64 x)) ∧ Cur w0 v l cb w' ∧ w.grownBy w' (some cb) := by
  have f1 := Lib.hid fun W (hW : Cur w0 v l cb W) => drawByte hl hW hn
  clear hl
  go_enter Tryd.func45, Tryd.ntmps45
  go_wp2_with fail
  (with_reducible refine (f1.out _ hc).mono ?_); rintro e w1 ⟨⟨x1, hx1, rfl⟩, hc1, hg1⟩
  go_wp2_with fail
  (with_reducible refine (f1.out _ hc1).mono ?_); rintro e w2 ⟨⟨x2, hx2, rfl⟩, hc2, hg2⟩
  go_wp2_with fail
  (with_reducible refine (f1.out _ hc2).mono ?_); rintro e w3 ⟨⟨x3, hx3, rfl⟩, hc3, hg3⟩
  go_wp2_with fail
  (with_reducible refine (f1.out _ hc3).mono ?_); rintro e w4 ⟨⟨x4, hx4, rfl⟩, hc4, hg4⟩
  go_wp2
  go_ret
  refine ⟨⟨(x1 * 16777216 + x2 * 65536 + x3 * 256 + x4) % 10000, Nat.mod_lt _ (by decide), ?_⟩, hc4, hg1.trans (hg2.trans (hg3.trans hg4))⟩
  simp
theorem own_weaken {w : World} {b b' n z : Nat} {e : TypeId} {v : Value} {xs : List Value} (h : w.ownsRow b e z v n xs) (hb : b' ≤ b) : w.ownsRow b' e z v n xs := by
  obtain ⟨h1, h2 | ⟨g, cap, cur, e, h3, h4⟩⟩ := h
  · exact ⟨h1, .inl h2⟩
  · exact ⟨h1, .inr ⟨g, cap, cur, e, Nat.le_trans hb h3, h4⟩⟩
theorem Cur.grown {w0 w w' : World} {v : Value} {l : List UInt8} {cb : Nat} {row : Option Nat} (h : Cur w0 v l cb w) (hg : w.grownBy w' row) (h1 : row ≠ some cb) (h2 : ∀ k, row = some k → w0.heap.size ≤ k) : Cur w0 v l cb w' := by
  obtain ⟨b1, b2, b3, i, x, b4, c0, c1, c2, z1, z2⟩ := h
  have hb : w'.heap[cb]? = w.heap[cb]? := hg.block cb b3 (fun e => h1 e.symm)
  exact ⟨b1.grown hg b1.size h2, b2, Nat.lt_of_lt_of_le b3 hg.size, i, x, b4, (World.cell?_of_block (a := ⟨cb, 0, none⟩) hb).trans c0, (World.cell?_of_block (a := ⟨cb, 1, none⟩) hb).trans c1, (World.cell?_of_block (a := ⟨cb, 2, none⟩) hb).trans c2, (World.frozen?_of_block (a := ⟨cb, 1, none⟩) hb).trans z1, (World.frozen?_of_block (a := ⟨cb, 2, none⟩) hb).trans z2⟩
/-- What DrawPlaces answers: twelve numbers. -/
def PlRes (w : World) (e : Ending) (w' : World) : Prop :=
  ∃ (v : Value) (p : List Int), p.length = 12 ∧ (∀ x ∈ p, 0 ≤ x ∧ x < 10000) ∧ e = .returned v ∧ w'.ownsRow w.heap.size 3 1 v 12 (p.map iv) ∧ Below w.heap.size w w'

set_option maxHeartbeats 1000000 in
theorem drawPlaces {w : World} {v : Value} {l : List UInt8} (hl : CameB w v l) (hn : l.length ≤ 2000000) :
    Calls Tryd.prog 27 #[v] w (PlRes w) := by
  have f1 := Lib.hid (drawNew hl hn)
  have f2 := Lib.hid fun cb W (hW : Cur w v l cb W) => drawByte hl hW hn
  have f3 := Lib.hid fun cb W (hW : Cur w v l cb W) => drawBelowBig hl hW hn
  obtain ⟨i0, hi, hz0, hz1, hz2⟩ := info_parts infoInt
  obtain ⟨a0, cap, _, _, rfl, _⟩ := hl
  go_enter Tryd.func27, Tryd.ntmps27
  go_wp2_with fail
  (with_reducible refine f1.out.mono ?_); rintro e w1 ⟨cb, rfl, hc1⟩
  go_wp2_with fail
  (with_reducible refine (f2.out _ _ hc1).mono ?_); rintro e w2 ⟨⟨x1, _, rfl⟩, hc2, _⟩
  clear f1 f2 hc1
  go_wp2
  have hcw : cb < w2.heap.size := hc2.2.2.1
  have r0 := World.ownsRow_lit (base := w2.heap.size) (e := 3) (size := 1) w2 #[] 0 (Nat.le_refl _) (by decide) (by simp)
  have b0 := (Below.refl w2.heap.size w2).alloc (Nat.le_refl _) (.cells #[] 3)
  have hc3 := hc2.below b0
  go_loopw [4, 5] (fun vo i wr => ∃ (k : Nat) (p : List Int), k ≤ 12 ∧ p.length = k ∧ i = .int .i64 k ∧ wr.ownsRow w2.heap.size 3 1 vo p.length (p.map iv) ∧ Cur w (.slice a0 l.length cap) l cb wr ∧ w2.heap.size ≤ wr.heap.size ∧ Hid (∀ x ∈ p, 0 ≤ x ∧ x < 10000)) (fun _ i _ => 12 - (intOf i).toNat)
  case atStart => exact ⟨0, [], by omega, rfl, rfl, r0, hc3, b0.size, fun x hx => absurd hx (by simp)⟩
  case round =>
    obtain ⟨k, p, hk, hp, rfl, hown, hc, hzz, HP⟩ := hrel
    clear r0 b0 hc3 hc2
    by_cases hlt : k < 12
    · have d1 : decide ((k : Int) < 12) = true := decide_eq_true (by omega)
      go_wp2_with fail
      (with_reducible refine (f3.out _ _ hc).mono ?_); rintro e w3 ⟨⟨x, hx, rfl⟩, hc3, hg3⟩
      have hown3 := hown.kept hg3 (by
        rcases hv : u4.ownBlock with _ | g
        · exact .inl rfl
        · refine .inr fun e => ?_
          have h1 := (hown.lt g hv).1
          have h2 : g = cb := by simpa using e
          omega)
      have z3 : w2.heap.size ≤ w3.heap.size := Nat.le_trans hzz hg3.size
      clear hown hg3 hc
      go_wp2_with (at_builtin; refine wpList_append_own _ rfl _ _ 38 rfl w2.heap.size 3 i0 _ 1 8 Tryd.underlying38 hi hz0 hz1 hz2 rfl (by decide) _ _ _ rfl (hown3.alloc _) ⟨_, 0, none⟩ 1 1 [.int .i64 (x : Int)] rfl rfl (oneNew _ _ _) (by simp [Value.oneCell']) (by simp only [maxLen]; omega) (by omega) (by simp; omega) ?_; intro v1 w4 hown4 hg4 _)
      have hlo : ∀ g, u4.ownBlock = some g → w2.heap.size ≤ g := fun g hg => (hown3.lt g hg).1
      have hc4 := (hc3.below ((Below.refl w3.heap.size w3).alloc (Nat.le_refl _) (.cells #[.int .i64 (x : Int)] 3))).grown hg4 (fun e => by have := hlo cb e; omega) (fun g hg => by have := hlo g hg; have := hc3.2.1; omega)
      have HP2 : Hid (∀ y ∈ p ++ [(x : Int)], 0 ≤ y ∧ y < 10000) := fun y hy => by
        rcases List.mem_append.1 hy with h | h
        · exact HP.out y h
        · simp only [List.mem_cons, List.not_mem_nil, or_false] at h
          subst h
          omega
      have z4 : w2.heap.size ≤ w4.heap.size := by have := hg4.size; simp at this; omega
      clear hown3 hc3 hg4 HP hlo
      go_roundw
      case rel => exact ⟨k + 1, p ++ [(x : Int)], by omega, by simp [hp], by go_num, by simpa [iv] using hown4, hc4, z4, HP2.out⟩
      case measure => simp [intOf]; omega
    · have d1 : decide ((k : Int) < 12) = false := decide_eq_false (by omega)
      obtain rfl : k = 12 := by omega
      have hw := own_weaken hown (b' := w.heap.size) (by have := hc.2.1; omega)
      rw [hp] at hw
      have HW := Lib.hid hw
      have HC := Lib.hid hc.1
      have HPL := Lib.hid hp
      clear hown hc hw hp
      go_wp2
      go_ret
      exact ⟨_, p, HPL.out, HP.out, rfl, HW.out, HC.out⟩
end Go.Proofs.YtnklajagefedmaaDoor
