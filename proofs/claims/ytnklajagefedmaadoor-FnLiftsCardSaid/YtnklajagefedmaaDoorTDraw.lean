/-
  Drawn names and drawn terms: contracts of spec.l01Pick, l02Name, DrawNames, l06Term and DrawTerm.
-/
import Derived.Test.YtnklajagefedmaaDoorTCon
import Derived.Test.YtnklajagefedmaaDoorTVarM
import Derived.Test.YtnklajagefedmaaDoorDr3
import Derived.Laws.AppendOwnNone
namespace Go.Proofs.YtnklajagefedmaaDoor
set_option maxRecDepth 100000
open Go.ChangeShapes Go.WideShapes Go.ChangeAt Go.RowKit
set_option linter.unusedSimpArgs false

theorem own_weakenS {w : World} {b b' n z : Nat} {e : TypeId} {v : Value} {xs : List Value} (h : w.ownsRow b e z v n xs) (hb : b' ≤ b) : w.ownsRow b' e z v n xs := by
  obtain ⟨h1, h2 | ⟨g, cap, cur, e, h3, h4⟩⟩ := h
  · exact ⟨h1, .inl h2⟩
  · exact ⟨h1, .inr ⟨g, cap, cur, e, Nat.le_trans hb h3, h4⟩⟩
theorem Cur.grownS {w0 w w' : World} {v : Value} {l : List UInt8} {cb : Nat} {row : Option Nat} (h : Cur w0 v l cb w) (hg : w.grownBy w' row) (h1 : row ≠ some cb) (h2 : ∀ k, row = some k → w0.heap.size ≤ k) : Cur w0 v l cb w' := by
  obtain ⟨b1, b2, b3, i, x, b4, c0, c1, c2, z1, z2⟩ := h
  have hb : w'.heap[cb]? = w.heap[cb]? := hg.block cb b3 (fun e => h1 e.symm)
  exact ⟨b1.grown hg b1.size h2, b2, Nat.lt_of_lt_of_le b3 hg.size, i, x, b4, (World.cell?_of_block (a := ⟨cb, 0, none⟩) hb).trans c0, (World.cell?_of_block (a := ⟨cb, 1, none⟩) hb).trans c1, (World.cell?_of_block (a := ⟨cb, 2, none⟩) hb).trans c2, (World.frozen?_of_block (a := ⟨cb, 1, none⟩) hb).trans z1, (World.frozen?_of_block (a := ⟨cb, 2, none⟩) hb).trans z2⟩
/-- One of the strings of a list that is no row of the cursor. -/
theorem drawPick {w0 w : World} {v : Value} {l : List UInt8} {cb : Nat} (hl : CameB w0 v l) (hc : Cur w0 v l cb w) (hn : l.length ≤ 2000000) {b n : Nat} {u : Value} {ls : List (List UInt8)}
    (hr : w.ownsRow b 9 1 u n (ls.map sv)) (hb : cb < b) (h1 : 1 ≤ n) (h2 : n ≤ 256) :
    Calls Tryd.prog 72 #[.pointer (some ⟨cb, 0, none⟩), u] w fun e w' => (∃ x, x ∈ ls ∧ e = .returned (.string ⟨x.toArray⟩)) ∧ Cur w0 v l cb w' ∧ w.grownBy w' (some cb) := by
  have hln : ls.length = n := by simpa using hr.1
  have f1 := Lib.hid (drawBelow hl hc hn n h1 h2)
  obtain ⟨g, cap, rfl, hgb, hgl⟩ := hr.form (by omega)
  have hgc : g ≠ cb := by have := (hr.lt g rfl).1; omega
  clear hl hc
  go_enter Tryd.func72, Tryd.ntmps72
  go_wp2_with fail
  (with_reducible refine f1.out.mono ?_); rintro e w1 ⟨⟨x, hx, rfl⟩, hc1, hg1⟩
  have hr1 := hr.kept hg1 (.inr (by simp [Value.ownBlock]; exact hgc))
  have ex : (ls.map sv)[x]? = some (sv ls[x]) := by simp [show x < ls.length by omega]
  have cc := (hr1.cellAt x (by omega)).trans ex
  unfold sv at cc
  have hm := List.getElem_mem (show x < ls.length by omega)
  have q1 : (0 : Int) ≤ (x : Int) := by omega
  have q2 : (x : Int) < (n : Int) := by omega
  generalize ls[x] = y at cc hm
  have H := Lib.hid (And.intro hc1 hg1)
  clear ex hr hr1 hc1 hg1 f1
  go_wp2
  go_ret
  exact ⟨⟨y, hm, rfl⟩, H.out⟩
def theNames : List (List UInt8) := [[110, 97, 116], [110, 97, 116, 46, 122, 101, 114, 111], [110, 97, 116, 46, 115, 117, 99, 99], [105, 100], [101, 109], [97, 46, 98], [97, 46, 98, 46, 99], [98, 111, 111, 108], [101, 113], [97, 100, 100], [120, 49]]
theorem theNames_ok : ∀ x ∈ theNames, nameOk x = true ∧ x.length ≤ 8 := by decide
theorem drawName {w0 : World} {v : Value} {l : List UInt8} {cb : Nat} (hl : CameB w0 v l) (hn : l.length ≤ 2000000) (w : World) (hc : Cur w0 v l cb w) :
    Calls Tryd.prog 46 #[.pointer (some ⟨cb, 0, none⟩)] w fun e w' => (∃ x, nameOk x = true ∧ x.length ≤ 8 ∧ e = .returned (.string ⟨x.toArray⟩)) ∧ Cur w0 v l cb w' ∧ w.grownBy w' (some cb) := by
  have hcw : cb < w.heap.size := hc.2.2.1
  have r0 : (w.alloc (.cells #[.string ⟨#[110, 97, 116]⟩, .string ⟨#[110, 97, 116, 46, 122, 101, 114, 111]⟩, .string ⟨#[110, 97, 116, 46, 115, 117, 99, 99]⟩, .string ⟨#[105, 100]⟩, .string ⟨#[101, 109]⟩, .string ⟨#[97, 46, 98]⟩, .string ⟨#[97, 46, 98, 46, 99]⟩, .string ⟨#[98, 111, 111, 108]⟩, .string ⟨#[101, 113]⟩, .string ⟨#[97, 100, 100]⟩, .string ⟨#[120, 49]⟩] 9)).ownsRow w.heap.size 9 1 (.slice (some ⟨w.heap.size, 0, none⟩) 11 11) 11 (theNames.map sv) := World.ownsRow_lit (base := w.heap.size) (e := 9) (size := 1) w #[.string ⟨#[110, 97, 116]⟩, .string ⟨#[110, 97, 116, 46, 122, 101, 114, 111]⟩, .string ⟨#[110, 97, 116, 46, 115, 117, 99, 99]⟩, .string ⟨#[105, 100]⟩, .string ⟨#[101, 109]⟩, .string ⟨#[97, 46, 98]⟩, .string ⟨#[97, 46, 98, 46, 99]⟩, .string ⟨#[98, 111, 111, 108]⟩, .string ⟨#[101, 113]⟩, .string ⟨#[97, 100, 100]⟩, .string ⟨#[120, 49]⟩] 11 (Nat.le_refl _) (by decide) (by simp)
  have b0 := (Below.refl w.heap.size w).alloc (Nat.le_refl _) (.cells #[.string ⟨#[110, 97, 116]⟩, .string ⟨#[110, 97, 116, 46, 122, 101, 114, 111]⟩, .string ⟨#[110, 97, 116, 46, 115, 117, 99, 99]⟩, .string ⟨#[105, 100]⟩, .string ⟨#[101, 109]⟩, .string ⟨#[97, 46, 98]⟩, .string ⟨#[97, 46, 98, 46, 99]⟩, .string ⟨#[98, 111, 111, 108]⟩, .string ⟨#[101, 113]⟩, .string ⟨#[97, 100, 100]⟩, .string ⟨#[120, 49]⟩] 9)
  have f1 := Lib.hid (drawPick hl (hc.below b0) hn r0 hcw (by decide) (by decide))
  have G0 := Lib.hid (grownBy_of_below b0 (some cb))
  clear r0 b0 hc hl
  go_enter Tryd.func46, Tryd.ntmps46
  go_wp2_with fail
  (with_reducible refine f1.out.mono ?_); rintro e w1 ⟨⟨x, hx, rfl⟩, hc1, hg1⟩
  obtain ⟨h1, h2⟩ := theNames_ok x hx
  have H := Lib.hid (And.intro hc1 (G0.out.trans hg1))
  clear hc1 hg1 hx f1 G0
  go_wp2
  go_ret
  exact ⟨⟨x, h1, h2, rfl⟩, H.out⟩
theorem sort_text (t : List UInt8) : (⟨#[115]⟩ : ByteArray) ++ ⟨t.toArray⟩ ++ ⟨#[46]⟩ = ⟨(Tm.sort t).bytes.toArray⟩ := by
  apply ByteArray.ext
  simp [Tm.bytes]
theorem let_text (a b c : List UInt8) : (⟨#[116]⟩ : ByteArray) ++ ⟨a.toArray⟩ ++ ⟨b.toArray⟩ ++ ⟨c.toArray⟩ = ⟨(116 :: (a ++ (b ++ c))).toArray⟩ := by
  apply ByteArray.ext
  simp
theorem lvsB_le : ∀ {ls : List (List UInt8)}, (∀ y ∈ ls, levelOk y = true ∧ y.length ≤ 5) → (lvsB ls).length ≤ ls.length * 6
  | [], _ => by simp [lvsB]
  | x :: r, h => by
    have h1 := (h x List.mem_cons_self).2
    have h2 := lvsB_le (ls := r) fun y hy => h y (List.mem_cons_of_mem _ hy)
    simp only [lvsB, List.length_append, List.length_cons]
    omega
theorem infoStrT : (Tryd.prog.info? 9).map (fun i => (i.zero, i.size, i.bytes)) = some (some (.string ⟨#[]⟩), 1, 16) := by kernel_rfl
/-- A row above the cursor's block stays while the cursor moves. -/
theorem keep_cur {w w' : World} {b cb n : Nat} {v : Value} {xs : List Value} (h : w.ownsRow b 9 1 v n xs) (hg : w.grownBy w' (some cb)) (hb : cb < b) : w'.ownsRow b 9 1 v n xs :=
  h.kept hg (by
    rcases hv : v.ownBlock with _ | g
    · exact .inl rfl
    · refine .inr fun e => ?_
      have h1 := (h.lt g hv).1
      have h2 : g = cb := by simpa using e
      omega)
def tmMax : Nat → Nat
  | 0 => 30
  | d + 1 => 1 + 3 * tmMax d
theorem tmMax_ge (d : Nat) : 30 ≤ tmMax d := by
  induction d with
  | zero => exact Nat.le_refl _
  | succ d ih => rw [tmMax]; omega
theorem tmMax_le {d : Nat} (h : d ≤ 4) : tmMax d ≤ 3000 := by
  rcases (by omega : d = 0 ∨ d = 1 ∨ d = 2 ∨ d = 3 ∨ d = 4) with rfl | rfl | rfl | rfl | rfl <;> decide
def TmPost (w0 : World) (v : Value) (l : List UInt8) (cb M : Nat) (e : Ending) (w' : World) : Prop :=
  (∃ T : Tm, T.Ok ∧ T.Lim 30 ∧ T.bytes.length ≤ M ∧ e = .returned (.string ⟨T.bytes.toArray⟩)) ∧ Cur w0 v l cb w'

set_option maxHeartbeats 8000000 in
theorem drawTerm {w0 : World} {v : Value} {l : List UInt8} {cb : Nat} (hl : CameB w0 v l) (hn : l.length ≤ 2000000) : ∀ (d bn : Nat), d ≤ 4 → bn + d ≤ 20 → ∀ (w : World), Cur w0 v l cb w →
    Calls Tryd.prog 42 #[.pointer (some ⟨cb, 0, none⟩), .int .i64 (bn : Int), .int .i64 (d : Int)] w (TmPost w0 v l cb (tmMax d)) := by
  intro d
  obtain ⟨i0, hi, hz0, hz1, hz2⟩ := info_parts infoStrT
  have fO4 : Hid (∀ W, Cur w0 v l cb W → Calls Tryd.prog 68 #[.pointer (some ⟨cb, 0, none⟩), .int .i64 4] W fun e w' => (∃ x : Bool, e = .returned (.bool x)) ∧ Cur w0 v l cb w' ∧ W.grownBy w' (some cb)) := fun W hW => drawOnce hl hW hn 4 (by decide) (by decide)
  have fB3 : Hid (∀ W, Cur w0 v l cb W → Calls Tryd.prog 45 #[.pointer (some ⟨cb, 0, none⟩), .int .i64 3] W fun e w' => (∃ x : Nat, x < 3 ∧ e = .returned (.int .i64 x)) ∧ Cur w0 v l cb w' ∧ W.grownBy w' (some cb)) := fun W hW => drawBelow hl hW hn 3 (by decide) (by decide)
  have fB4 : Hid (∀ W, Cur w0 v l cb W → Calls Tryd.prog 45 #[.pointer (some ⟨cb, 0, none⟩), .int .i64 4] W fun e w' => (∃ x : Nat, x < 4 ∧ e = .returned (.int .i64 x)) ∧ Cur w0 v l cb w' ∧ W.grownBy w' (some cb)) := fun W hW => drawBelow hl hW hn 4 (by decide) (by decide)
  have fB7 : Hid (∀ W, Cur w0 v l cb W → Calls Tryd.prog 45 #[.pointer (some ⟨cb, 0, none⟩), .int .i64 7] W fun e w' => (∃ x : Nat, x < 7 ∧ e = .returned (.int .i64 x)) ∧ Cur w0 v l cb w' ∧ W.grownBy w' (some cb)) := fun W hW => drawBelow hl hW hn 7 (by decide) (by decide)
  have gBv : Hid (∀ bn : Nat, bn ≤ 20 → ∀ W, Cur w0 v l cb W → Calls Tryd.prog 45 #[.pointer (some ⟨cb, 0, none⟩), .int .i64 ((bn : Int) + 2)] W fun e w' => (∃ x : Nat, x < bn + 2 ∧ e = .returned (.int .i64 x)) ∧ Cur w0 v l cb w' ∧ W.grownBy w' (some cb)) := fun bn hbn W hW => by
    have := drawBelow hl hW hn (bn + 2) (by omega) (by omega)
    rw [show ((bn + 2 : Nat) : Int) = (bn : Int) + 2 by omega] at this
    exact this
  have fL2 : Hid (∀ W, Cur w0 v l cb W → Calls Tryd.prog 44 #[.pointer (some ⟨cb, 0, none⟩), .int .i64 2, .int .i64 2] W (LvPost w0 v l cb 2 W)) := fun W hW => drawLevel hl hn 2 (by decide) (by decide) 2 (by decide) W hW
  have fL1 : Hid (∀ W, Cur w0 v l cb W → Calls Tryd.prog 44 #[.pointer (some ⟨cb, 0, none⟩), .int .i64 2, .int .i64 1] W (LvPost w0 v l cb 1 W)) := fun W hW => drawLevel hl hn 2 (by decide) (by decide) 1 (by decide) W hW
  have fN := Lib.hid (drawName hl hn (cb := cb))
  have fV := Lib.hid specVar
  clear hl hn
  induction d with
  | zero =>
    intro bn _ hbn w hc
    have fBv := Lib.hid (gBv.out bn (by omega))
    have hC := Lib.hid hc
    have hM : tmMax 0 = 30 := rfl
    generalize tmMax 0 = M at hM
    clear hc gBv
    go_enter Tryd.func42, Tryd.ntmps42
    go_wp2_with fail
    (with_reducible refine (fB4.out _ hC.out).mono ?_); rintro e wa ⟨⟨x, hx, rfl⟩, hca, _⟩
    rcases Nat.lt_or_ge x 1 with hx0 | hx0
    · obtain rfl : x = 0 := by omega
      go_wp2_with fail
      (with_reducible refine (fL2.out _ hca).mono ?_); rintro e wb ⟨⟨t, ht, hlt, rfl⟩, hcb, _⟩
      have HE := Lib.hid (sort_text t)
      have zt : t.length ≤ 11 := hlt
      have HT := Lib.hid (ht.run.ok (by omega))
      have HCB := Lib.hid hcb
      clear ht hlt hcb hca
      go_wp2
      go_ret
      refine ⟨⟨.sort t, HT.out, trivial, by simp only [Tm.bytes, List.length_cons, List.length_append, List.length_nil]; omega, ?_⟩, HCB.out⟩
      rw [← HE.out]
      rfl
    have b0 : ((x : Int) == 0) = false := beq_eq_false_iff_ne.2 (by omega)
    rcases Nat.lt_or_ge x 2 with hx1 | hx1
    · obtain rfl : x = 1 := by omega
      have hcw : cb < wa.heap.size := hca.2.2.1
      have r0 := World.ownsRow_lit (base := wa.heap.size) (e := 9) (size := 1) wa #[] 0 (Nat.le_refl _) (by decide) (by simp)
      have bb0 := (Below.refl wa.heap.size wa).alloc (Nat.le_refl _) (.cells #[] 9)
      have hc3 := hca.below bb0
      have hz0 := bb0.size
      clear bb0
      go_wp2
      go_loopw [7, 8] (fun vo i wr => ∃ (k : Nat) (ls : List (List UInt8)), k ≤ 2 ∧ ls.length = k ∧ i = .int .i64 k ∧ wr.ownsRow wa.heap.size 9 1 vo ls.length (ls.map sv) ∧ Cur w0 v l cb wr ∧ wa.heap.size ≤ wr.heap.size ∧ Hid (∀ y ∈ ls, levelOk y = true ∧ y.length ≤ 5)) (fun _ i _ => 2 - (intOf i).toNat)
      case atStart => exact ⟨0, [], by omega, rfl, rfl, r0, hc3, hz0, fun x hx => absurd hx (by simp)⟩
      case round =>
        obtain ⟨k, ls, hk, hp, rfl, hown, hcr, hzz, HP⟩ := hrel
        clear r0 hc3 hz0 hca
        go_wp2_with fail
        (with_reducible refine (fB3.out _ hcr).mono ?_); rintro e w3 ⟨⟨y, hy, rfl⟩, hc3, hg3⟩
        have hown3 := keep_cur hown hg3 hcw
        have z3 : wa.heap.size ≤ w3.heap.size := Nat.le_trans hzz hg3.size
        clear hown hg3 hcr
        by_cases hky : k < y
        · have d1 : decide ((k : Int) < (y : Int)) = true := decide_eq_true (by omega)
          have d1n : decide (k < y) = true := decide_eq_true hky
          go_wp2_with fail
          (with_reducible refine (fL1.out _ hc3).mono ?_); rintro e w4 ⟨⟨t, ht, hlt, rfl⟩, hc4, hg4⟩
          have zt : t.length ≤ 5 := hlt
          have HT := Lib.hid (ht.run.ok (by omega))
          have hown4 := keep_cur hown3 hg4 hcw
          have z4 : wa.heap.size ≤ w4.heap.size := Nat.le_trans z3 hg4.size
          clear ht hlt hown3 hc3 hg4
          go_wp2_with (at_builtin; refine wpList_append_own _ rfl _ _ 27 rfl wa.heap.size 9 i0 _ 1 16 Tryd.underlying27 hi hz0 hz1 hz2 rfl (by decide) _ _ _ rfl (hown4.alloc _) ⟨_, 0, none⟩ 1 1 [.string ⟨t.toArray⟩] rfl rfl (oneNew _ _ _) (by simp [Value.oneCell']) (by simp only [maxLen]; omega) (by omega) (by simp; omega) ?_; intro v1 w5 hown5 hg5 _)
          have hlo : ∀ g, u7.ownBlock = some g → wa.heap.size ≤ g := fun g hg => (hown4.lt g hg).1
          have hc5 := (hc4.below ((Below.refl w4.heap.size w4).alloc (Nat.le_refl _) (.cells #[.string ⟨t.toArray⟩] 9))).grownS hg5 (fun e => by have := hlo cb e; omega) (fun g hg => by have := hlo g hg; have := hc4.2.1; omega)
          have HP2 : Hid (∀ y ∈ ls ++ [t], levelOk y = true ∧ y.length ≤ 5) := fun y hy => by
            rcases List.mem_append.1 hy with h | h
            · exact HP.out y h
            · simp only [List.mem_cons, List.not_mem_nil, or_false] at h
              subst h
              exact ⟨HT.out, zt⟩
          have z5 : wa.heap.size ≤ w5.heap.size := by have := hg5.size; simp at this; omega
          clear hown4 hc4 hg5 HP hlo
          go_wp2
          go_roundw
          case rel => exact ⟨k + 1, ls ++ [t], by omega, by simp [hp], by go_num, by simpa [sv] using hown5, hc5, z5, HP2.out⟩
          case measure => simp [intOf]; omega
        · have d1 : decide ((k : Int) < (y : Int)) = false := decide_eq_false (by omega)
          have d1n : decide (k < y) = false := decide_eq_false hky
          go_wp2_with fail
          (with_reducible refine (fN.out _ hc3).mono ?_); rintro e w4 ⟨⟨nm, hnm, hnl, rfl⟩, hc4, hg4⟩
          have hown4 := keep_cur hown3 hg4 hcw
          have hzl := lvsB_le HP.out
          have zl : (lvsB ls).length ≤ 12 := by
            have : ls.length * 6 ≤ 12 := by omega
            omega
          have znm : (⟨nm.toArray⟩ : ByteArray).size ≤ 10000000 := by show nm.length ≤ _; omega
          have fC := Lib.hid (specConst ⟨nm.toArray⟩ hown4 (by omega) znm (by omega))
          have HT : Hid ((Tm.const nm ls).Ok) := ⟨hnm, by omega, fun y hy => (HP.out y hy).1⟩
          have HC4 := Lib.hid hc4
          have HB : Hid ((Tm.const nm ls).bytes.length ≤ 23) := by
            rw [Hid]
            simp only [Tm.bytes, List.length_cons, List.length_append, List.length_nil]
            omega
          clear hown3 hown4 hc3 hc4 hg4 HP hnm hzl
          go_wp2_with fail
          (with_reducible refine fC.out.mono ?_); rintro e w5 ⟨rfl, rfl⟩
          go_wp2
          go_ret
          exact ⟨⟨.const nm ls, HT.out, trivial, by have := HB.out; omega, rfl⟩, HC4.out⟩
    have b1 : ((x : Int) == 1) = false := beq_eq_false_iff_ne.2 (by omega)
    go_wp2_with fail
    (with_reducible refine (fBv.out _ hca).mono ?_); rintro e wb ⟨⟨y, hy, rfl⟩, hcb, _⟩
    go_wp2_with fail
    (with_reducible refine (fV.out y _ (by omega)).mono ?_); rintro e wc ⟨rfl, hbc⟩
    have HCB := Lib.hid (hcb.below hbc)
    have HB : Hid ((Tm.var y).bytes.length ≤ 12) := by
      have hd : (Lib.decDigits y).length ≤ 10 := digits_len (by omega)
      rw [Hid]
      simp only [Tm.bytes, List.length_cons, List.length_append, List.length_nil]
      omega
    clear hcb hbc hca
    go_wp2
    go_ret
    exact ⟨⟨.var y, show y ≤ 999 by omega, show y ≤ 30 by omega, by have := HB.out; omega, rfl⟩, HCB.out⟩
  | succ d ih =>
    intro bn hd hbn w hc
    have fBv := Lib.hid (gBv.out bn (by omega))
    have hmx : tmMax (d + 1) = 1 + 3 * tmMax d := rfl
    have hge := tmMax_ge d
    have hcap := tmMax_le (show d ≤ 4 by omega)
    have ih1 := Lib.hid ih
    clear ih gBv
    generalize hnn : d + 1 = n at hmx ⊢
    generalize tmMax n = M at hmx ⊢
    have ih2 : Hid (∀ W, Cur w0 v l cb W → Calls Tryd.prog 42 #[.pointer (some ⟨cb, 0, none⟩), .int .i64 (bn : Int), .int .i64 ((n : Int) - 1)] W (TmPost w0 v l cb (tmMax d))) := fun W hW => by
      rw [show (n : Int) - 1 = (d : Int) by omega]
      exact ih1.out bn (by omega) (by omega) W hW
    have ih3 : Hid (∀ W, Cur w0 v l cb W → Calls Tryd.prog 42 #[.pointer (some ⟨cb, 0, none⟩), .int .i64 ((bn : Int) + 1), .int .i64 ((n : Int) - 1)] W (TmPost w0 v l cb (tmMax d))) := fun W hW => by
      rw [show (n : Int) - 1 = (d : Int) by omega, show (bn : Int) + 1 = ((bn + 1 : Nat) : Int) by omega]
      exact ih1.out (bn + 1) (by omega) (by omega) W hW
    generalize tmMax d = m at hmx hge hcap ih2 ih3
    clear ih1
    have d0 : decide ((n : Int) ≤ 0) = false := decide_eq_false (by omega)
    have hC := Lib.hid hc
    clear hc
    go_enter Tryd.func42, Tryd.ntmps42
    go_wp2_with fail
    (with_reducible refine (fO4.out _ hC.out).mono ?_); rintro e w1 ⟨⟨y, rfl⟩, hc1, _⟩
    cases y
    rotate_left
    · clear ih2 ih3 fO4
      go_wp2_with fail
      (with_reducible refine (fB4.out _ hc1).mono ?_); rintro e wa ⟨⟨x, hx, rfl⟩, hca, _⟩
      rcases Nat.lt_or_ge x 1 with hx0 | hx0
      · obtain rfl : x = 0 := by omega
        go_wp2_with fail
        (with_reducible refine (fL2.out _ hca).mono ?_); rintro e wb ⟨⟨t, ht, hlt, rfl⟩, hcb, _⟩
        have HE := Lib.hid (sort_text t)
        have zt : t.length ≤ 11 := hlt
        have HT := Lib.hid (ht.run.ok (by omega))
        have HCB := Lib.hid hcb
        clear ht hlt hcb hca
        go_wp2
        go_ret
        refine ⟨⟨.sort t, HT.out, trivial, by simp only [Tm.bytes, List.length_cons, List.length_append, List.length_nil]; omega, ?_⟩, HCB.out⟩
        rw [← HE.out]
        rfl
      have b0 : ((x : Int) == 0) = false := beq_eq_false_iff_ne.2 (by omega)
      rcases Nat.lt_or_ge x 2 with hx1 | hx1
      · obtain rfl : x = 1 := by omega
        have hcw : cb < wa.heap.size := hca.2.2.1
        have r0 := World.ownsRow_lit (base := wa.heap.size) (e := 9) (size := 1) wa #[] 0 (Nat.le_refl _) (by decide) (by simp)
        have bb0 := (Below.refl wa.heap.size wa).alloc (Nat.le_refl _) (.cells #[] 9)
        have hc3 := hca.below bb0
        have hz0 := bb0.size
        clear bb0
        go_wp2
        go_loopw [7, 8] (fun vo i wr => ∃ (k : Nat) (ls : List (List UInt8)), k ≤ 2 ∧ ls.length = k ∧ i = .int .i64 k ∧ wr.ownsRow wa.heap.size 9 1 vo ls.length (ls.map sv) ∧ Cur w0 v l cb wr ∧ wa.heap.size ≤ wr.heap.size ∧ Hid (∀ y ∈ ls, levelOk y = true ∧ y.length ≤ 5)) (fun _ i _ => 2 - (intOf i).toNat)
        case atStart => exact ⟨0, [], by omega, rfl, rfl, r0, hc3, hz0, fun x hx => absurd hx (by simp)⟩
        case round =>
          obtain ⟨k, ls, hk, hp, rfl, hown, hcr, hzz, HP⟩ := hrel
          clear r0 hc3 hz0 hca
          go_wp2_with fail
          (with_reducible refine (fB3.out _ hcr).mono ?_); rintro e w3 ⟨⟨y, hy, rfl⟩, hc3, hg3⟩
          have hown3 := keep_cur hown hg3 hcw
          have z3 : wa.heap.size ≤ w3.heap.size := Nat.le_trans hzz hg3.size
          clear hown hg3 hcr
          by_cases hky : k < y
          · have d1 : decide ((k : Int) < (y : Int)) = true := decide_eq_true (by omega)
            have d1n : decide (k < y) = true := decide_eq_true hky
            go_wp2_with fail
            (with_reducible refine (fL1.out _ hc3).mono ?_); rintro e w4 ⟨⟨t, ht, hlt, rfl⟩, hc4, hg4⟩
            have zt : t.length ≤ 5 := hlt
            have HT := Lib.hid (ht.run.ok (by omega))
            have hown4 := keep_cur hown3 hg4 hcw
            have z4 : wa.heap.size ≤ w4.heap.size := Nat.le_trans z3 hg4.size
            clear ht hlt hown3 hc3 hg4
            go_wp2_with (at_builtin; refine wpList_append_own _ rfl _ _ 27 rfl wa.heap.size 9 i0 _ 1 16 Tryd.underlying27 hi hz0 hz1 hz2 rfl (by decide) _ _ _ rfl (hown4.alloc _) ⟨_, 0, none⟩ 1 1 [.string ⟨t.toArray⟩] rfl rfl (oneNew _ _ _) (by simp [Value.oneCell']) (by simp only [maxLen]; omega) (by omega) (by simp; omega) ?_; intro v1 w5 hown5 hg5 _)
            have hlo : ∀ g, u7.ownBlock = some g → wa.heap.size ≤ g := fun g hg => (hown4.lt g hg).1
            have hc5 := (hc4.below ((Below.refl w4.heap.size w4).alloc (Nat.le_refl _) (.cells #[.string ⟨t.toArray⟩] 9))).grownS hg5 (fun e => by have := hlo cb e; omega) (fun g hg => by have := hlo g hg; have := hc4.2.1; omega)
            have HP2 : Hid (∀ y ∈ ls ++ [t], levelOk y = true ∧ y.length ≤ 5) := fun y hy => by
              rcases List.mem_append.1 hy with h | h
              · exact HP.out y h
              · simp only [List.mem_cons, List.not_mem_nil, or_false] at h
                subst h
                exact ⟨HT.out, zt⟩
            have z5 : wa.heap.size ≤ w5.heap.size := by have := hg5.size; simp at this; omega
            clear hown4 hc4 hg5 HP hlo
            go_wp2
            go_roundw
            case rel => exact ⟨k + 1, ls ++ [t], by omega, by simp [hp], by go_num, by simpa [sv] using hown5, hc5, z5, HP2.out⟩
            case measure => simp [intOf]; omega
          · have d1 : decide ((k : Int) < (y : Int)) = false := decide_eq_false (by omega)
            have d1n : decide (k < y) = false := decide_eq_false hky
            go_wp2_with fail
            (with_reducible refine (fN.out _ hc3).mono ?_); rintro e w4 ⟨⟨nm, hnm, hnl, rfl⟩, hc4, hg4⟩
            have hown4 := keep_cur hown3 hg4 hcw
            have hzl := lvsB_le HP.out
            have zl : (lvsB ls).length ≤ 12 := by
              have : ls.length * 6 ≤ 12 := by omega
              omega
            have znm : (⟨nm.toArray⟩ : ByteArray).size ≤ 10000000 := by show nm.length ≤ _; omega
            have fC := Lib.hid (specConst ⟨nm.toArray⟩ hown4 (by omega) znm (by omega))
            have HT : Hid ((Tm.const nm ls).Ok) := ⟨hnm, by omega, fun y hy => (HP.out y hy).1⟩
            have HC4 := Lib.hid hc4
            have HB : Hid ((Tm.const nm ls).bytes.length ≤ 23) := by
              rw [Hid]
              simp only [Tm.bytes, List.length_cons, List.length_append, List.length_nil]
              omega
            clear hown3 hown4 hc3 hc4 hg4 HP hnm hzl
            go_wp2_with fail
            (with_reducible refine fC.out.mono ?_); rintro e w5 ⟨rfl, rfl⟩
            go_wp2
            go_ret
            exact ⟨⟨.const nm ls, HT.out, trivial, by have := HB.out; omega, rfl⟩, HC4.out⟩
      have b1 : ((x : Int) == 1) = false := beq_eq_false_iff_ne.2 (by omega)
      go_wp2_with fail
      (with_reducible refine (fBv.out _ hca).mono ?_); rintro e wb ⟨⟨y, hy, rfl⟩, hcb, _⟩
      go_wp2_with fail
      (with_reducible refine (fV.out y _ (by omega)).mono ?_); rintro e wc ⟨rfl, hbc⟩
      have HCB := Lib.hid (hcb.below hbc)
      have HB : Hid ((Tm.var y).bytes.length ≤ 12) := by
        have hd : (Lib.decDigits y).length ≤ 10 := digits_len (by omega)
        rw [Hid]
        simp only [Tm.bytes, List.length_cons, List.length_append, List.length_nil]
        omega
      clear hcb hbc hca
      go_wp2
      go_ret
      exact ⟨⟨.var y, show y ≤ 999 by omega, show y ≤ 30 by omega, by have := HB.out; omega, rfl⟩, HCB.out⟩
    clear fB3 fB4 fBv fL2 fL1 fN fV fO4
    go_wp2_with fail
    (with_reducible refine (ih2.out _ hc1).mono ?_); rintro e w2 ⟨⟨A, hA, hLA, hlA, rfl⟩, hc2⟩
    have zA0 : (⟨A.bytes.toArray⟩ : ByteArray).size ≤ 100000 := by show A.bytes.length ≤ _; omega
    clear hc1
    go_wp2_with fail
    (with_reducible refine (fB7.out _ hc2).mono ?_); rintro e w3 ⟨⟨x, hx, rfl⟩, hc3, _⟩
    clear hc2
    rcases (by omega : x = 0 ∨ x = 1 ∨ x = 2 ∨ x = 3 ∨ x = 4 ∨ x = 5 ∨ x = 6) with rfl | rfl | rfl | rfl | rfl | rfl | rfl
    · go_wp2_with fail
      (with_reducible refine (ih2.out _ hc3).mono ?_); rintro e w4 ⟨⟨B, hB, hLB, hlB, rfl⟩, hc4⟩
      have HE := Lib.hid (lvBytes3 A.bytes B.bytes 64)
      have zB : (⟨B.bytes.toArray⟩ : ByteArray).size ≤ 100000 := by show B.bytes.length ≤ _; omega
      have HT : Hid ((Tm.app A B).Ok) := ⟨hA, hB⟩
      have HL : Hid ((Tm.app A B).Lim 30) := ⟨hLA, hLB⟩
      have HB : Hid ((Tm.app A B).bytes.length ≤ M) := by
        rw [Hid]
        simp only [Tm.bytes, List.length_cons, List.length_append]
        omega
      have zA : ((⟨#[64]⟩ : ByteArray) ++ ⟨A.bytes.toArray⟩).size ≤ 200000 := by rw [ByteArray.size_append]; show 1 + A.bytes.length ≤ _; omega
      have HC4 := Lib.hid hc4
      clear hc3 hc4 hlB hB hLB
      go_wp2
      go_ret
      refine ⟨⟨.app A B, HT.out, HL.out, HB.out, ?_⟩, HC4.out⟩
      rw [show (Tm.app A B).bytes = 64 :: (A.bytes ++ B.bytes) from rfl, ← HE.out]
      rfl
    · go_wp2_with fail
      (with_reducible refine (ih2.out _ hc3).mono ?_); rintro e w4 ⟨⟨B, hB, hLB, hlB, rfl⟩, hc4⟩
      have HE := Lib.hid (lvBytes3 A.bytes B.bytes 64)
      have zB : (⟨B.bytes.toArray⟩ : ByteArray).size ≤ 100000 := by show B.bytes.length ≤ _; omega
      have HT : Hid ((Tm.app A B).Ok) := ⟨hA, hB⟩
      have HL : Hid ((Tm.app A B).Lim 30) := ⟨hLA, hLB⟩
      have HB : Hid ((Tm.app A B).bytes.length ≤ M) := by
        rw [Hid]
        simp only [Tm.bytes, List.length_cons, List.length_append]
        omega
      have zA : ((⟨#[64]⟩ : ByteArray) ++ ⟨A.bytes.toArray⟩).size ≤ 200000 := by rw [ByteArray.size_append]; show 1 + A.bytes.length ≤ _; omega
      have HC4 := Lib.hid hc4
      clear hc3 hc4 hlB hB hLB
      go_wp2
      go_ret
      refine ⟨⟨.app A B, HT.out, HL.out, HB.out, ?_⟩, HC4.out⟩
      rw [show (Tm.app A B).bytes = 64 :: (A.bytes ++ B.bytes) from rfl, ← HE.out]
      rfl
    · go_wp2_with fail
      (with_reducible refine (ih2.out _ hc3).mono ?_); rintro e w4 ⟨⟨B, hB, hLB, hlB, rfl⟩, hc4⟩
      have HE := Lib.hid (lvBytes3 A.bytes B.bytes 64)
      have zB : (⟨B.bytes.toArray⟩ : ByteArray).size ≤ 100000 := by show B.bytes.length ≤ _; omega
      have HT : Hid ((Tm.app A B).Ok) := ⟨hA, hB⟩
      have HL : Hid ((Tm.app A B).Lim 30) := ⟨hLA, hLB⟩
      have HB : Hid ((Tm.app A B).bytes.length ≤ M) := by
        rw [Hid]
        simp only [Tm.bytes, List.length_cons, List.length_append]
        omega
      have zA : ((⟨#[64]⟩ : ByteArray) ++ ⟨A.bytes.toArray⟩).size ≤ 200000 := by rw [ByteArray.size_append]; show 1 + A.bytes.length ≤ _; omega
      have HC4 := Lib.hid hc4
      clear hc3 hc4 hlB hB hLB
      go_wp2
      go_ret
      refine ⟨⟨.app A B, HT.out, HL.out, HB.out, ?_⟩, HC4.out⟩
      rw [show (Tm.app A B).bytes = 64 :: (A.bytes ++ B.bytes) from rfl, ← HE.out]
      rfl
    · go_wp2_with fail
      (with_reducible refine (ih3.out _ hc3).mono ?_); rintro e w4 ⟨⟨B, hB, hLB, hlB, rfl⟩, hc4⟩
      have HE := Lib.hid (lvBytes3 A.bytes B.bytes 112)
      have zB : (⟨B.bytes.toArray⟩ : ByteArray).size ≤ 100000 := by show B.bytes.length ≤ _; omega
      have HT : Hid ((Tm.pi A B).Ok) := ⟨hA, hB⟩
      have HL : Hid ((Tm.pi A B).Lim 30) := ⟨hLA, hLB⟩
      have HB : Hid ((Tm.pi A B).bytes.length ≤ M) := by
        rw [Hid]
        simp only [Tm.bytes, List.length_cons, List.length_append]
        omega
      have zA : ((⟨#[112]⟩ : ByteArray) ++ ⟨A.bytes.toArray⟩).size ≤ 200000 := by rw [ByteArray.size_append]; show 1 + A.bytes.length ≤ _; omega
      have HC4 := Lib.hid hc4
      clear hc3 hc4 hlB hB hLB
      go_wp2
      go_ret
      refine ⟨⟨.pi A B, HT.out, HL.out, HB.out, ?_⟩, HC4.out⟩
      rw [show (Tm.pi A B).bytes = 112 :: (A.bytes ++ B.bytes) from rfl, ← HE.out]
      rfl
    · go_wp2_with fail
      (with_reducible refine (ih2.out _ hc3).mono ?_); rintro e w4 ⟨⟨V, hV, hLV, hlV, rfl⟩, hc4⟩
      have zA : ((⟨#[116]⟩ : ByteArray) ++ ⟨A.bytes.toArray⟩).size ≤ 200000 := by rw [ByteArray.size_append]; show 1 + A.bytes.length ≤ _; omega
      have zV : (⟨V.bytes.toArray⟩ : ByteArray).size ≤ 100000 := by show V.bytes.length ≤ _; omega
      have zAV : ((⟨#[116]⟩ : ByteArray) ++ ⟨A.bytes.toArray⟩ ++ ⟨V.bytes.toArray⟩).size ≤ 300000 := by rw [ByteArray.size_append]; omega
      clear hc3
      go_wp2_with fail
      (with_reducible refine (ih3.out _ hc4).mono ?_); rintro e w5 ⟨⟨B, hB, hLB, hlB, rfl⟩, hc5⟩
      have HE := Lib.hid (let_text A.bytes V.bytes B.bytes)
      have zB : (⟨B.bytes.toArray⟩ : ByteArray).size ≤ 100000 := by show B.bytes.length ≤ _; omega
      have HT : Hid ((Tm.lett A V B).Ok) := ⟨hA, hV, hB⟩
      have HL : Hid ((Tm.lett A V B).Lim 30) := ⟨hLA, hLV, hLB⟩
      have HB : Hid ((Tm.lett A V B).bytes.length ≤ M) := by
        rw [Hid]
        simp only [Tm.bytes, List.length_cons, List.length_append]
        omega
      have HC5 := Lib.hid hc5
      clear hc4 hc5 hlB hB hlV hV hLV hLB
      go_wp2
      go_ret
      refine ⟨⟨.lett A V B, HT.out, HL.out, HB.out, ?_⟩, HC5.out⟩
      rw [show (Tm.lett A V B).bytes = 116 :: (A.bytes ++ (V.bytes ++ B.bytes)) from rfl, ← HE.out]
      rfl
    · go_wp2_with fail
      (with_reducible refine (ih3.out _ hc3).mono ?_); rintro e w4 ⟨⟨B, hB, hLB, hlB, rfl⟩, hc4⟩
      have HE := Lib.hid (lvBytes3 A.bytes B.bytes 108)
      have zB : (⟨B.bytes.toArray⟩ : ByteArray).size ≤ 100000 := by show B.bytes.length ≤ _; omega
      have HT : Hid ((Tm.lam A B).Ok) := ⟨hA, hB⟩
      have HL : Hid ((Tm.lam A B).Lim 30) := ⟨hLA, hLB⟩
      have HB : Hid ((Tm.lam A B).bytes.length ≤ M) := by
        rw [Hid]
        simp only [Tm.bytes, List.length_cons, List.length_append]
        omega
      have zA : ((⟨#[108]⟩ : ByteArray) ++ ⟨A.bytes.toArray⟩).size ≤ 200000 := by rw [ByteArray.size_append]; show 1 + A.bytes.length ≤ _; omega
      have HC4 := Lib.hid hc4
      clear hc3 hc4 hlB hB hLB
      go_wp2
      go_ret
      refine ⟨⟨.lam A B, HT.out, HL.out, HB.out, ?_⟩, HC4.out⟩
      rw [show (Tm.lam A B).bytes = 108 :: (A.bytes ++ B.bytes) from rfl, ← HE.out]
      rfl
    · go_wp2_with fail
      (with_reducible refine (ih3.out _ hc3).mono ?_); rintro e w4 ⟨⟨B, hB, hLB, hlB, rfl⟩, hc4⟩
      have HE := Lib.hid (lvBytes3 A.bytes B.bytes 108)
      have zB : (⟨B.bytes.toArray⟩ : ByteArray).size ≤ 100000 := by show B.bytes.length ≤ _; omega
      have HT : Hid ((Tm.lam A B).Ok) := ⟨hA, hB⟩
      have HL : Hid ((Tm.lam A B).Lim 30) := ⟨hLA, hLB⟩
      have HB : Hid ((Tm.lam A B).bytes.length ≤ M) := by
        rw [Hid]
        simp only [Tm.bytes, List.length_cons, List.length_append]
        omega
      have zA : ((⟨#[108]⟩ : ByteArray) ++ ⟨A.bytes.toArray⟩).size ≤ 200000 := by rw [ByteArray.size_append]; show 1 + A.bytes.length ≤ _; omega
      have HC4 := Lib.hid hc4
      clear hc3 hc4 hlB hB hLB
      go_wp2
      go_ret
      refine ⟨⟨.lam A B, HT.out, HL.out, HB.out, ?_⟩, HC4.out⟩
      rw [show (Tm.lam A B).bytes = 108 :: (A.bytes ++ B.bytes) from rfl, ← HE.out]
      rfl
end Go.Proofs.YtnklajagefedmaaDoor
