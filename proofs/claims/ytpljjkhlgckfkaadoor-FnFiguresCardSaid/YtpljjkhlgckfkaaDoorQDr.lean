/-
  Draws below more than 256; the contract of spec.DrawPlaces.
-/
import Derived.Test.YtpljjkhlgckfkaaDoorDr1A
import Derived.Test.YtpljjkhlgckfkaaDoorDrNew
import Derived.Test.YtpljjkhlgckfkaaDoorUDrP
import Derived.Test.YtpljjkhlgckfkaaDoorAllocA
namespace Go.Proofs.YtpljjkhlgckfkaaDoor
set_option maxRecDepth 100000
open Go.ChangeShapes Go.WideShapes Go.ChangeAt Go.RowKit
set_option linter.unusedSimpArgs false
set_option linter.unusedVariables false

set_option maxHeartbeats 2000000 in
theorem drawWide {w0 w : World} {v : Value} {l : List UInt8} {cb : Nat} (hl : CameB w0 v l) (hc : Cur w0 v l cb w) (hn : l.length ≤ 2000000) (n : Nat) (h1 : 256 < n) (h2 : n ≤ 1000000) :
    Calls Tryd.prog 13 #[.pointer (some ⟨cb, 0, none⟩), .int .i64 (n : Int)] w fun e w' => (∃ x : Nat, x < n ∧ e = .returned (.int .i64 x)) ∧ Cur w0 v l cb w' ∧ w.grownBy w' (some cb) := by
  have f1 := Lib.hid fun W (h : Cur w0 v l cb W) => drawByte hl h hn
  have d1 : decide ((n : Int) ≤ 0) = false := decide_eq_false (by omega)
  have d2 : decide ((n : Int) ≤ 256) = false := decide_eq_false (by omega)
  have d3 : ((n : Int) == 0) = false := beq_eq_false_iff_ne.2 (by omega)
  have HC := Lib.hid hc
  clear hl hc
  go_enter Tryd.func13, Tryd.ntmps13
  go_wp2_with fail
  (with_reducible refine (f1.out _ HC.out).mono ?_); rintro e w1 ⟨⟨x1, hx1, rfl⟩, hc1, hg1⟩
  have HC1 := Lib.hid hc1
  have HG1 := Lib.hid hg1
  clear hc1 hg1
  go_wp2_with fail
  (with_reducible refine (f1.out _ HC1.out).mono ?_); rintro e w2 ⟨⟨x2, hx2, rfl⟩, hc2, hg2⟩
  have HC2 := Lib.hid hc2
  have HG2 := Lib.hid (HG1.out.trans hg2)
  clear hc2 hg2
  go_wp2_with fail
  (with_reducible refine (f1.out _ HC2.out).mono ?_); rintro e w3 ⟨⟨x3, hx3, rfl⟩, hc3, hg3⟩
  have HC3 := Lib.hid hc3
  have HG3 := Lib.hid (HG2.out.trans hg3)
  clear hc3 hg3
  go_wp2_with fail
  (with_reducible refine (f1.out _ HC3.out).mono ?_); rintro e w4 ⟨⟨x4, hx4, rfl⟩, hc4, hg4⟩
  have HC4 := Lib.hid hc4
  have HG4 := Lib.hid (HG3.out.trans hg4)
  clear hc4 hg4
  have e1 : ((x1 : Int) * 16777216 + (x2 : Int) * 65536 + (x3 : Int) * 256 + (x4 : Int)).tmod (n : Int) = (((x1 * 16777216 + x2 * 65536 + x3 * 256 + x4) % n : Nat) : Int) := by
    have ec : (x1 : Int) * 16777216 + (x2 : Int) * 65536 + (x3 : Int) * 256 + (x4 : Int) = ((x1 * 16777216 + x2 * 65536 + x3 * 256 + x4 : Nat) : Int) := by omega
    rw [ec, Int.tmod_eq_emod_of_nonneg (by omega)]
    exact (Int.natCast_emod _ _).symm
  have hxn : (x1 * 16777216 + x2 * 65536 + x3 * 256 + x4) % n < n := Nat.mod_lt _ (by omega)
  have hx : (x1 * 16777216 + x2 * 65536 + x3 * 256 + x4) % n ≤ x1 * 16777216 + x2 * 65536 + x3 * 256 + x4 := Nat.mod_le _ _
  generalize (x1 * 16777216 + x2 * 65536 + x3 * 256 + x4) % n = y at e1 hxn hx
  clear f1
  go_wp2
  go_ret
  exact ⟨⟨y, hxn, rfl⟩, HC4.out, HG4.out⟩
theorem Cur.other {w0 w w' : World} {v : Value} {l : List UInt8} {cb : Nat} {row : Option Nat} (h : Cur w0 v l cb w) (hg : w.grownBy w' row) (hne : row ≠ some cb) (hr : ∀ k, row = some k → w0.heap.size ≤ k) : Cur w0 v l cb w' := by
  obtain ⟨h1, h2, h3, i, hh, h4, c0, c1, c2, z1, z2⟩ := h
  have hb : w'.heap[cb]? = w.heap[cb]? := hg.block cb h3 (fun e => hne e.symm)
  have hf : ∀ i, w'.frozen? ⟨cb, i, none⟩ = w.frozen? ⟨cb, i, none⟩ := fun i => World.frozen?_of_block (w := w) (w' := w') (a := ⟨cb, i, none⟩) hb
  exact ⟨h1.grown hg h1.size hr, h2, Nat.lt_of_lt_of_le h3 hg.size, i, hh, h4, hg.cell c0 (fun e => hne e.symm), hg.cell c1 (fun e => hne e.symm), hg.cell c2 (fun e => hne e.symm), (hf 1).trans z1, (hf 2).trans z2⟩
set_option maxHeartbeats 4000000 in
theorem drawPlaces {w : World} {v : Value} {l : List UInt8} (hl : CameB w v l) (hn : l.length ≤ 2000000) :
    Calls Tryd.prog 5 #[v] w fun e w' => ∃ (u : Value) (ps : List Int), e = .returned u ∧ ps.length = 12 ∧ (∀ x ∈ ps, 0 ≤ x ∧ x < 10000) ∧ w'.ownsRow w.heap.size 3 1 u ps.length (ps.map iv) ∧ Below w.heap.size w w' := by
  have f1 := Lib.hid (drawNew hl hn)
  have f2 := Lib.hid fun (cb : Nat) (W : World) (h : Cur w v l cb W) => drawByte hl h hn
  have f3 : Hid (∀ (cb : Nat) (W : World) (h : Cur w v l cb W), Calls Tryd.prog 13 #[.pointer (some ⟨cb, 0, none⟩), .int .i64 10000] W fun e w' => (∃ x : Nat, x < 10000 ∧ e = .returned (.int .i64 x)) ∧ Cur w v l cb w' ∧ W.grownBy w' (some cb)) := fun cb W h => drawWide hl h hn 10000 (by decide) (by decide)
  obtain ⟨a0, cap, _, _, hv, _⟩ := id hl
  clear hl
  subst hv
  go_enter Tryd.func5, Tryd.ntmps5
  go_wp2_with fail
  (with_reducible refine f1.out.mono ?_); rintro e w1 ⟨cb, rfl, hc1⟩
  have HC1 := Lib.hid hc1
  clear hc1 f1
  go_wp2_with fail
  (with_reducible refine (f2.out _ _ HC1.out).mono ?_); rintro e w2 ⟨⟨x, hx, rfl⟩, hc2, hg2⟩
  have hcb := hc2.2.2.1
  have hb3 := alloc_any w2 (.cells #[] 3)
  have HC3 := Lib.hid (hc2.below hb3)
  have HR3 : Hid ((w2.alloc (.cells #[] 3)).ownsRow w2.heap.size 3 1 (.slice (some ⟨w2.heap.size, 0, none⟩) 0 0) ([] : List Int).length (([] : List Int).map iv)) := World.ownsRow_lit w2 #[] 0 (Nat.le_refl _) (by decide) (by simp)
  have hz2 : w.heap.size ≤ w2.heap.size := hc2.1.size
  have z3 := hb3.size
  clear hc2 hg2 hb3 f2 HC1
  go_wp2
  go_loopw [4, 5] (fun o i wr => ∃ (k : Nat) (oo : Value) (ps : List Int), k ≤ 12 ∧ i = .int .i64 k ∧ oo = o ∧ ps.length = k ∧ Hid (∀ x ∈ ps, 0 ≤ x ∧ x < 10000) ∧ Hid (wr.ownsRow w2.heap.size 3 1 oo ps.length (ps.map iv)) ∧ Hid (Cur w (.slice a0 l.length cap) l cb wr) ∧ w2.heap.size ≤ wr.heap.size) (fun _ i _ => 12 - (intOf i).toNat)
  case atStart => exact ⟨0, _, [], Nat.zero_le _, rfl, rfl, rfl, fun x h => (by cases h), HR3.out, HC3.out, z3⟩
  case round =>
    obtain ⟨k, oo, ps, hk, rfl, rfl, hps, HP, HR, HC, hzr⟩ := hrel
    clear HR3 HC3 z3
    by_cases hlt : k < 12
    rotate_left
    · obtain rfl : k = 12 := by omega
      have HB := Lib.hid HC.out.1
      have HR' := Lib.hid (own_lower HR.out hz2)
      clear HR HC f3
      go_wp2
      go_ret
      exact ⟨_, ps, rfl, hps, HP.out, HR'.out, HB.out⟩
    have q : (k : Int) < 12 := by omega
    go_wp2_with fail
    (with_reducible refine (f3.out _ _ HC.out).mono ?_); rintro e w4 ⟨⟨y, hy, rfl⟩, hc4, hg4⟩
    have HR4 : Hid (w4.ownsRow w2.heap.size 3 1 oo ps.length (ps.map iv)) := by
      refine HR.out.kept hg4 ?_
      rcases hv : oo.ownBlock with _ | q
      · exact .inl rfl
      · refine .inr (fun e => ?_)
        have h1 := (HR.out.lt q hv).1
        injection e with e
        omega
    have HC4 := Lib.hid hc4
    have z4 : w2.heap.size ≤ w4.heap.size := Nat.le_trans hzr hg4.size
    have HNE : Hid (oo.ownBlock ≠ some cb ∧ ∀ q, oo.ownBlock = some q → w.heap.size ≤ q) := ⟨fun e => by have := (HR4.out.lt cb e).1; omega, fun q e => Nat.le_trans hz2 (HR4.out.lt q e).1⟩
    clear hc4 hg4 HC HR
    have HN : Hid ((w4.alloc (.cells #[.int .i64 (y : Int)] 3)).ownsRow w4.heap.size 3 1 (.slice (some ⟨w4.heap.size, 0, none⟩) 1 1) [(y : Int)].length ([(y : Int)].map iv)) := World.ownsRow_lit w4 #[.int .i64 (y : Int)] 1 (Nat.le_refl _) (by decide) (by simp)
    go_wp2_with (at_builtin; refine append_rowsI rfl _ _ rfl w2.heap.size _ _ _ rfl (own_below HR4.out (alloc_any _ _)) _ _ [(y : Int)] rfl HN.out (by simp only [List.length_cons, List.length_nil]; omega) (Nat.le_trans z4 (alloc_any _ _).size) ?_; intro vA wA hoA hgA)
    have HC5 := Lib.hid ((HC4.out.below (alloc_any _ (.cells #[.int .i64 (y : Int)] 3))).other hgA HNE.out.1 HNE.out.2)
    have z5 : w2.heap.size ≤ wA.heap.size := Nat.le_trans (Nat.le_trans z4 (alloc_any _ _).size) hgA.size
    have HR5 : Hid (wA.ownsRow w2.heap.size 3 1 vA (ps ++ [(y : Int)]).length ((ps ++ [(y : Int)]).map iv)) := by
      rw [Hid, List.map_append, List.length_append]
      exact hoA
    have HP5 : Hid (∀ x ∈ ps ++ [(y : Int)], 0 ≤ x ∧ x < 10000) := by
      intro x hx
      rw [List.mem_append] at hx
      rcases hx with hx | hx
      · exact HP.out x hx
      · simp only [List.mem_cons, List.not_mem_nil, or_false] at hx
        subst hx
        omega
    clear hoA hgA HR4 HC4 HN HNE HP
    go_wp2
    go_roundw
    case rel => exact ⟨k + 1, _, ps ++ [(y : Int)], by omega, by go_num, rfl, by simp [hps], HP5.out, HR5.out, HC5.out, z5⟩
    case measure => simp [intOf]; omega
end Go.Proofs.YtpljjkhlgckfkaaDoor
