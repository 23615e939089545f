/-
  The contract of spec.LabelsOk.
-/
import Derived.Test.YtlaoioicefohiaaLIn
import Derived.Test.YtlaoioicefohiaaLb3
namespace Go.Proofs.Ytlaoioicefohiaa
set_option maxRecDepth 100000
open Go.ChangeShapes Go.WideShapes Go.ChangeAt Go.RowKit
set_option linter.unusedSimpArgs false

def lblAt (l : List Lbl) (k : Nat) : Lbl := l.getD k (0, [])
def okAtL (l : List Lbl) (k : Nat) : Bool := labelOk (lblAt l k).1 (lblAt l k).2 && (decide (k = 0) || lessL (lblAt l (k - 1)).1 (lblAt l (k - 1)).2 (lblAt l k).1 (lblAt l k).2)
def labelsOk (l : List Lbl) : Bool := (List.range l.length).all (okAtL l)
theorem lblAt_eq {l : List Lbl} {k : Nat} (h : k < l.length) : lblAt l k = l[k] := by simp [lblAt, h]
theorem labelsOk_bad {l : List Lbl} {k : Nat} (h : k < l.length) (hb : okAtL l k = false) : labelsOk l = false := by
  rw [Bool.eq_false_iff]
  intro h2
  have := List.all_eq_true.1 h2 k (List.mem_range.2 h)
  rw [hb] at this
  cases this
theorem labelsOk_done {l : List Lbl} (h : ∀ j, j < l.length → okAtL l j = true) : labelsOk l = true :=
  List.all_eq_true.2 fun k hk => h k (List.mem_range.1 hk)
theorem okAtL_label {l : List Lbl} {k : Nat} (h : k < l.length) (hb : labelOk l[k].1 l[k].2 = false) : okAtL l k = false := by
  simp [okAtL, lblAt_eq h, hb]
theorem okAtL_zero {l : List Lbl} (h : 0 < l.length) (hb : labelOk l[0].1 l[0].2 = true) : okAtL l 0 = true := by
  simp [okAtL, lblAt_eq h, hb]
theorem okAtL_succ {l : List Lbl} {k k' : Nat} (hk : k = k' + 1) (h : k < l.length) (h' : k' < l.length) (hb : labelOk l[k].1 l[k].2 = true) : okAtL l k = lessL l[k'].1 l[k'].2 l[k].1 l[k].2 := by
  subst hk
  simp [okAtL, lblAt_eq h, lblAt_eq h', hb]

set_option maxHeartbeats 2000000 in
theorem specLabelsOk {w : World} {b : Nat} {v : Value} {l : List Lbl} (h : w.ownsRow b 31 2 v l.length (flat l)) (hn : l.length ≤ 10000000) (hx : ∀ x ∈ l, x.2.length ≤ maxLen) :
    Calls Try.prog 28 #[v] w fun e w' => e = .returned (.bool (labelsOk l)) ∧ Below w.heap.size w w' := by
  rcases Nat.eq_zero_or_pos l.length with h0 | hp
  · obtain ⟨a, cap, rfl⟩ := own_nil_orL h h0
    obtain rfl : l = [] := List.length_eq_zero_iff.1 h0
    clear h h0 hn
    go_enter Try.func28, Try.ntmps28
    go_wp2
    refine wp_loop_rounds 1 ?_
    rw [rounds_succ]
    go_wp2
    go_ret
    exact ⟨rfl, Below.refl _ _⟩
  · obtain ⟨g, cap, rfl, _, hgl⟩ := h.form hp
    go_enter Try.func28, Try.ntmps28
    go_wp2
    go_loopw [3] (fun i wr => ∃ k : Nat, k ≤ l.length ∧ i = .int .i64 k ∧ Below w.heap.size w wr ∧ Hid (∀ j, j < k → okAtL l j = true)) (fun i _ => l.length - (intOf i).toNat)
    case atStart => exact ⟨0, Nat.zero_le _, rfl, Below.refl _ _, by simp [Hid]⟩
    case round =>
      obtain ⟨k, hk, rfl, hbel, HA⟩ := hrel
      by_cases hlt : k < l.length
      · obtain ⟨fa, fb⟩ := flat_at hlt
        have ca := (hbel.cell (p := ⟨g, k * 2, none⟩) hgl).trans ((h.cellAt (k * 2) (by omega)).trans fa)
        have cb := (hbel.cell (p := ⟨g, k * 2 + 1, none⟩) hgl).trans ((h.cellAt (k * 2 + 1) (by omega)).trans fb)
        unfold sv at cb
        have q1 : (0 : Int) ≤ (k : Int) := by omega
        have q2 : (k : Int) < (l.length : Int) := by omega
        have f1 := Lib.hid fun W => specLabelOk l[k].1 l[k].2 W (hx _ (List.getElem_mem hlt))
        have hNF := Lib.hid fun hb => labelsOk_bad hlt (okAtL_label hlt hb)
        have hz := hbel.size
        clear fa fb
        rcases Nat.eq_zero_or_pos k with hk0 | hkp
        · have HR := Lib.hid (show labelOk l[k].1 l[k].2 = true → ∀ j, j < k + 1 → okAtL l j = true by
            intro hN j hj
            obtain rfl : j = 0 := by omega
            subst hk0
            exact okAtL_zero hlt hN)
          have q3 : decide ((0 : Int) < (k : Int)) = false := by simp; omega
          have q5 : k ≤ 0 := by omega
          have q6 : decide (0 < k) = false := by simp; omega
          clear HA hk0
          generalize labelOk l[k].1 l[k].2 = bN at HR f1 hNF
          generalize l[k] = lk at ca cb f1
          obtain ⟨ky, ny⟩ := lk
          simp only at ca cb f1
          go_wp2
          refine wp_region_held_drew (S := (fun w' => w'.cell? ⟨g, k * 2, none⟩ = some (.int .i64 ky) ∧ w'.cell? ⟨g, k * 2 + 1, none⟩ = some (.string ⟨ny.toArray⟩))) (by kernel_rfl) ⟨ca, cb⟩ (fun hS0 => ?_)
          refine heldW 0 10 (.slice (some ⟨g, 0, none⟩) l.length cap) rfl rfl (by kernel_rfl) (by kernel_rfl) (by kernel_rfl) (fun _ _ _ h => h) (by rfl) hS0 (fun W hSW => ?_) ?_
          · (try dsimp only at hSW); (try obtain ⟨hSA, hSB, hSC, hSD⟩ := hSW); (try obtain ⟨hSA, hSB⟩ := hSW); go_simp <;> omega
          simp only [Act.put, List.setIfInBounds_toArray, List.set_cons_zero, List.set_cons_succ]
          refine heldW 1 11 (.int .i64 (k : Int)) rfl rfl (by kernel_rfl) (by kernel_rfl) (by kernel_rfl) (fun _ _ _ h => h) (by rfl) hS0 (fun W hSW => ?_) ?_
          · (try dsimp only at hSW); (try obtain ⟨hSA, hSB, hSC, hSD⟩ := hSW); (try obtain ⟨hSA, hSB⟩ := hSW); go_simp <;> omega
          simp only [Act.put, List.setIfInBounds_toArray, List.set_cons_zero, List.set_cons_succ]
          refine heldW 2 12 (.pointer (some ⟨g, k * 2, none⟩)) rfl rfl (by kernel_rfl) (by kernel_rfl) (by kernel_rfl) (fun _ _ _ h => h) (by rfl) hS0 (fun W hSW => ?_) ?_
          · (try dsimp only at hSW); (try obtain ⟨hSA, hSB, hSC, hSD⟩ := hSW); (try obtain ⟨hSA, hSB⟩ := hSW); go_simp <;> omega
          simp only [Act.put, List.setIfInBounds_toArray, List.set_cons_zero, List.set_cons_succ]
          refine heldW 3 13 (.agg #[.int .i64 ky, .string ⟨ny.toArray⟩]) rfl rfl (by kernel_rfl) (by kernel_rfl) (by kernel_rfl) (fun _ _ _ h => h) (by rfl) hS0 (fun W hSW => ?_) ?_
          · (try dsimp only at hSW); (try obtain ⟨hSA, hSB, hSC, hSD⟩ := hSW); (try obtain ⟨hSA, hSB⟩ := hSW); go_simp <;> omega
          simp only [Act.put, List.setIfInBounds_toArray, List.set_cons_zero, List.set_cons_succ]
          refine wpAnyH_ready (rs := [4]) (by kernel_rfl) (by simp) (AllReadyH.cons rfl (fun K hK => ?_) AllReadyH.nil)
          rw [if_pos (by rfl)]
          go_simp
          (with_reducible refine (f1.out _).mono ?_); rintro e w1 ⟨rfl, hb1⟩
          have hB := hbel.drew.trans (hb1.mono (by simp; omega))
          have hz1 := hB.size
          refine hK.out _ _ ⟨((hb1.cell (p := ⟨g, k * 2, none⟩) (by show g < _; simp; omega)).trans ca), ((hb1.cell (p := ⟨g, k * 2 + 1, none⟩) (by show g < _; simp; omega)).trans cb)⟩ (fun hS1 => ?_)
          clear hK K
          try simp only [Act.put, List.setIfInBounds_toArray, List.set_cons_zero, List.set_cons_succ]
          cases bN
          · have HN := Lib.hid (hNF.out rfl)
            refine heldW 5 15 (.bool true) rfl rfl (by kernel_rfl) (by kernel_rfl) (by kernel_rfl) (fun _ _ _ h => h) (by rfl) hS1 (fun W hSW => ?_) ?_
            · (try dsimp only at hSW); (try obtain ⟨hSA, hSB, hSC, hSD⟩ := hSW); (try obtain ⟨hSA, hSB⟩ := hSW); go_simp <;> omega
            simp only [Act.put, List.setIfInBounds_toArray, List.set_cons_zero, List.set_cons_succ]
            refine heldW 6 16 (.bool true) rfl rfl (by kernel_rfl) (by kernel_rfl) (by kernel_rfl) (fun _ _ _ h => h) (by rfl) hS1 (fun W hSW => ?_) ?_
            · (try dsimp only at hSW); (try obtain ⟨hSA, hSB, hSC, hSD⟩ := hSW); (try obtain ⟨hSA, hSB⟩ := hSW); go_simp <;> omega
            simp only [Act.put, List.setIfInBounds_toArray, List.set_cons_zero, List.set_cons_succ]
            refine heldS 7 17 rfl rfl (by kernel_rfl) (by kernel_rfl) (by kernel_rfl) (fun _ _ _ h => h) (by rfl) hS1 ?_
            simp only [Act.put, List.setIfInBounds_toArray, List.set_cons_zero, List.set_cons_succ]
            refine heldS 8 18 rfl rfl (by kernel_rfl) (by kernel_rfl) (by kernel_rfl) (fun _ _ _ h => h) (by rfl) hS1 ?_
            simp only [Act.put, List.setIfInBounds_toArray, List.set_cons_zero, List.set_cons_succ]
            refine heldS 9 19 rfl rfl (by kernel_rfl) (by kernel_rfl) (by kernel_rfl) (fun _ _ _ h => h) (by rfl) hS1 ?_
            simp only [Act.put, List.setIfInBounds_toArray, List.set_cons_zero, List.set_cons_succ]
            refine heldS 10 20 rfl rfl (by kernel_rfl) (by kernel_rfl) (by kernel_rfl) (fun _ _ _ h => h) (by rfl) hS1 ?_
            simp only [Act.put, List.setIfInBounds_toArray, List.set_cons_zero, List.set_cons_succ]
            refine heldS 11 21 rfl rfl (by kernel_rfl) (by kernel_rfl) (by kernel_rfl) (fun _ _ _ h => h) (by rfl) hS1 ?_
            simp only [Act.put, List.setIfInBounds_toArray, List.set_cons_zero, List.set_cons_succ]
            refine heldS 12 22 rfl rfl (by kernel_rfl) (by kernel_rfl) (by kernel_rfl) (fun _ _ _ h => h) (by rfl) hS1 ?_
            simp only [Act.put, List.setIfInBounds_toArray, List.set_cons_zero, List.set_cons_succ]
            refine heldS 13 23 rfl rfl (by kernel_rfl) (by kernel_rfl) (by kernel_rfl) (fun _ _ _ h => h) (by rfl) hS1 ?_
            simp only [Act.put, List.setIfInBounds_toArray, List.set_cons_zero, List.set_cons_succ]
            refine heldS 14 24 rfl rfl (by kernel_rfl) (by kernel_rfl) (by kernel_rfl) (fun _ _ _ h => h) (by rfl) hS1 ?_
            simp only [Act.put, List.setIfInBounds_toArray, List.set_cons_zero, List.set_cons_succ]
            refine heldS 15 25 rfl rfl (by kernel_rfl) (by kernel_rfl) (by kernel_rfl) (fun _ _ _ h => h) (by rfl) hS1 ?_
            simp only [Act.put, List.setIfInBounds_toArray, List.set_cons_zero, List.set_cons_succ]
            refine heldS 16 26 rfl rfl (by kernel_rfl) (by kernel_rfl) (by kernel_rfl) (fun _ _ _ h => h) (by rfl) hS1 ?_
            simp only [Act.put, List.setIfInBounds_toArray, List.set_cons_zero, List.set_cons_succ]
            refine heldS 17 27 rfl rfl (by kernel_rfl) (by kernel_rfl) (by kernel_rfl) (fun _ _ _ h => h) (by rfl) hS1 ?_
            simp only [Act.put, List.setIfInBounds_toArray, List.set_cons_zero, List.set_cons_succ]
            refine heldS 18 28 rfl rfl (by kernel_rfl) (by kernel_rfl) (by kernel_rfl) (fun _ _ _ h => h) (by rfl) hS1 ?_
            simp only [Act.put, List.setIfInBounds_toArray, List.set_cons_zero, List.set_cons_succ]
            refine heldS 19 29 rfl rfl (by kernel_rfl) (by kernel_rfl) (by kernel_rfl) (fun _ _ _ h => h) (by rfl) hS1 ?_
            simp only [Act.put, List.setIfInBounds_toArray, List.set_cons_zero, List.set_cons_succ]
            refine heldS 20 30 rfl rfl (by kernel_rfl) (by kernel_rfl) (by kernel_rfl) (fun _ _ _ h => h) (by rfl) hS1 ?_
            simp only [Act.put, List.setIfInBounds_toArray, List.set_cons_zero, List.set_cons_succ]
            refine heldS 21 31 rfl rfl (by kernel_rfl) (by kernel_rfl) (by kernel_rfl) (fun _ _ _ h => h) (by rfl) hS1 ?_
            simp only [Act.put, List.setIfInBounds_toArray, List.set_cons_zero, List.set_cons_succ]
            refine heldW 22 32 (.bool true) rfl rfl (by kernel_rfl) (by kernel_rfl) (by kernel_rfl) (fun _ _ _ h => h) (by rfl) hS1 (fun W hSW => ?_) ?_
            · (try dsimp only at hSW); (try obtain ⟨hSA, hSB, hSC, hSD⟩ := hSW); (try obtain ⟨hSA, hSB⟩ := hSW); go_simp <;> omega
            simp only [Act.put, List.setIfInBounds_toArray, List.set_cons_zero, List.set_cons_succ]
            refine wpAnyH_done (by kernel_rfl) ?_ _
            go_wp2
            go_ret
            rw [HN.out]
            exact ⟨rfl, hB⟩
          · have HN := Lib.hid (HR.out rfl)
            refine heldW 5 15 (.bool false) rfl rfl (by kernel_rfl) (by kernel_rfl) (by kernel_rfl) (fun _ _ _ h => h) (by rfl) hS1 (fun W hSW => ?_) ?_
            · (try dsimp only at hSW); (try obtain ⟨hSA, hSB, hSC, hSD⟩ := hSW); (try obtain ⟨hSA, hSB⟩ := hSW); go_simp <;> omega
            simp only [Act.put, List.setIfInBounds_toArray, List.set_cons_zero, List.set_cons_succ]
            refine heldW 6 16 (.bool false) rfl rfl (by kernel_rfl) (by kernel_rfl) (by kernel_rfl) (fun _ _ _ h => h) (by rfl) hS1 (fun W hSW => ?_) ?_
            · (try dsimp only at hSW); (try obtain ⟨hSA, hSB, hSC, hSD⟩ := hSW); (try obtain ⟨hSA, hSB⟩ := hSW); go_simp <;> omega
            simp only [Act.put, List.setIfInBounds_toArray, List.set_cons_zero, List.set_cons_succ]
            refine heldW 7 17 (.int .i64 (k : Int)) rfl rfl (by kernel_rfl) (by kernel_rfl) (by kernel_rfl) (fun _ _ _ h => h) (by rfl) hS1 (fun W hSW => ?_) ?_
            · (try dsimp only at hSW); (try obtain ⟨hSA, hSB, hSC, hSD⟩ := hSW); (try obtain ⟨hSA, hSB⟩ := hSW); go_simp <;> omega
            simp only [Act.put, List.setIfInBounds_toArray, List.set_cons_zero, List.set_cons_succ]
            refine heldW 8 18 (.bool false) rfl rfl (by kernel_rfl) (by kernel_rfl) (by kernel_rfl) (fun _ _ _ h => h) (by rfl) hS1 (fun W hSW => ?_) ?_
            · (try dsimp only at hSW); (try obtain ⟨hSA, hSB, hSC, hSD⟩ := hSW); (try obtain ⟨hSA, hSB⟩ := hSW); go_simp <;> omega
            simp only [Act.put, List.setIfInBounds_toArray, List.set_cons_zero, List.set_cons_succ]
            refine heldW 9 19 (.bool false) rfl rfl (by kernel_rfl) (by kernel_rfl) (by kernel_rfl) (fun _ _ _ h => h) (by rfl) hS1 (fun W hSW => ?_) ?_
            · (try dsimp only at hSW); (try obtain ⟨hSA, hSB, hSC, hSD⟩ := hSW); (try obtain ⟨hSA, hSB⟩ := hSW); go_simp <;> omega
            simp only [Act.put, List.setIfInBounds_toArray, List.set_cons_zero, List.set_cons_succ]
            refine heldS 10 20 rfl rfl (by kernel_rfl) (by kernel_rfl) (by kernel_rfl) (fun _ _ _ h => h) (by rfl) hS1 ?_
            simp only [Act.put, List.setIfInBounds_toArray, List.set_cons_zero, List.set_cons_succ]
            refine heldS 11 21 rfl rfl (by kernel_rfl) (by kernel_rfl) (by kernel_rfl) (fun _ _ _ h => h) (by rfl) hS1 ?_
            simp only [Act.put, List.setIfInBounds_toArray, List.set_cons_zero, List.set_cons_succ]
            refine heldS 12 22 rfl rfl (by kernel_rfl) (by kernel_rfl) (by kernel_rfl) (fun _ _ _ h => h) (by rfl) hS1 ?_
            simp only [Act.put, List.setIfInBounds_toArray, List.set_cons_zero, List.set_cons_succ]
            refine heldS 13 23 rfl rfl (by kernel_rfl) (by kernel_rfl) (by kernel_rfl) (fun _ _ _ h => h) (by rfl) hS1 ?_
            simp only [Act.put, List.setIfInBounds_toArray, List.set_cons_zero, List.set_cons_succ]
            refine heldS 14 24 rfl rfl (by kernel_rfl) (by kernel_rfl) (by kernel_rfl) (fun _ _ _ h => h) (by rfl) hS1 ?_
            simp only [Act.put, List.setIfInBounds_toArray, List.set_cons_zero, List.set_cons_succ]
            refine heldS 15 25 rfl rfl (by kernel_rfl) (by kernel_rfl) (by kernel_rfl) (fun _ _ _ h => h) (by rfl) hS1 ?_
            simp only [Act.put, List.setIfInBounds_toArray, List.set_cons_zero, List.set_cons_succ]
            refine heldS 16 26 rfl rfl (by kernel_rfl) (by kernel_rfl) (by kernel_rfl) (fun _ _ _ h => h) (by rfl) hS1 ?_
            simp only [Act.put, List.setIfInBounds_toArray, List.set_cons_zero, List.set_cons_succ]
            refine heldS 17 27 rfl rfl (by kernel_rfl) (by kernel_rfl) (by kernel_rfl) (fun _ _ _ h => h) (by rfl) hS1 ?_
            simp only [Act.put, List.setIfInBounds_toArray, List.set_cons_zero, List.set_cons_succ]
            refine heldS 18 28 rfl rfl (by kernel_rfl) (by kernel_rfl) (by kernel_rfl) (fun _ _ _ h => h) (by rfl) hS1 ?_
            simp only [Act.put, List.setIfInBounds_toArray, List.set_cons_zero, List.set_cons_succ]
            refine heldS 19 29 rfl rfl (by kernel_rfl) (by kernel_rfl) (by kernel_rfl) (fun _ _ _ h => h) (by rfl) hS1 ?_
            simp only [Act.put, List.setIfInBounds_toArray, List.set_cons_zero, List.set_cons_succ]
            refine heldS 20 30 rfl rfl (by kernel_rfl) (by kernel_rfl) (by kernel_rfl) (fun _ _ _ h => h) (by rfl) hS1 ?_
            simp only [Act.put, List.setIfInBounds_toArray, List.set_cons_zero, List.set_cons_succ]
            refine heldW 21 31 (.bool false) rfl rfl (by kernel_rfl) (by kernel_rfl) (by kernel_rfl) (fun _ _ _ h => h) (by rfl) hS1 (fun W hSW => ?_) ?_
            · (try dsimp only at hSW); (try obtain ⟨hSA, hSB, hSC, hSD⟩ := hSW); (try obtain ⟨hSA, hSB⟩ := hSW); go_simp <;> omega
            simp only [Act.put, List.setIfInBounds_toArray, List.set_cons_zero, List.set_cons_succ]
            refine heldW 22 32 (.bool false) rfl rfl (by kernel_rfl) (by kernel_rfl) (by kernel_rfl) (fun _ _ _ h => h) (by rfl) hS1 (fun W hSW => ?_) ?_
            · (try dsimp only at hSW); (try obtain ⟨hSA, hSB, hSC, hSD⟩ := hSW); (try obtain ⟨hSA, hSB⟩ := hSW); go_simp <;> omega
            simp only [Act.put, List.setIfInBounds_toArray, List.set_cons_zero, List.set_cons_succ]
            refine wpAnyH_done (by kernel_rfl) ?_ _
            go_wp2
            go_roundw
            case rel => exact ⟨k + 1, by omega, by go_num, hB, HN.out⟩
            case measure => simp [intOf]; omega
        · obtain ⟨k', hk'⟩ : ∃ k', k = k' + 1 := ⟨k - 1, by omega⟩
          have hlt' : k' < l.length := by omega
          obtain ⟨fa, fb⟩ := flat_at hlt'
          have cxa := (hbel.cell (p := ⟨g, k' * 2, none⟩) hgl).trans ((h.cellAt (k' * 2) (by omega)).trans fa)
          have cxb := (hbel.cell (p := ⟨g, k' * 2 + 1, none⟩) hgl).trans ((h.cellAt (k' * 2 + 1) (by omega)).trans fb)
          unfold sv at cxb
          have hO := Lib.hid (okAtL_succ hk' hlt hlt')
          have hF := Lib.hid fun hb => labelsOk_bad (l := l) hlt hb
          have f2 := Lib.hid fun W => specLess l[k'].1 l[k].1 l[k'].2 l[k].2 W
          have q3 : decide ((0 : Int) < (k : Int)) = true := decide_eq_true (by omega)
          have q6 : decide (0 < k) = true := decide_eq_true (by omega)
          have q7 : (0 : Int) ≤ (k' : Int) := by omega
          have q8 : (k' : Int) < (l.length : Int) := by omega
          have q12 : IntKind.i64.wrap ((k : Int) - 1) = (k' : Int) := by rw [IntKind.wrap_i64]; omega
          have q13 : 1 ≤ k := by omega
          clear fa fb
          generalize labelOk l[k].1 l[k].2 = bN at hO f1 hNF
          generalize lessL l[k'].1 l[k'].2 l[k].1 l[k].2 = c at hO f2
          generalize l[k'] = lx at cxa cxb f2
          generalize l[k] = lk at ca cb f1 f2
          clear hk' hlt'
          obtain ⟨kx, nx⟩ := lx
          obtain ⟨ky, ny⟩ := lk
          simp only at ca cb f1 cxa cxb f2
          go_wp2
          refine wp_region_held_drew (S := (fun w' => w'.cell? ⟨g, k * 2, none⟩ = some (.int .i64 ky) ∧ w'.cell? ⟨g, k * 2 + 1, none⟩ = some (.string ⟨ny.toArray⟩) ∧ w'.cell? ⟨g, k' * 2, none⟩ = some (.int .i64 kx) ∧ w'.cell? ⟨g, k' * 2 + 1, none⟩ = some (.string ⟨nx.toArray⟩))) (by kernel_rfl) ⟨ca, cb, cxa, cxb⟩ (fun hS0 => ?_)
          refine heldW 0 10 (.slice (some ⟨g, 0, none⟩) l.length cap) rfl rfl (by kernel_rfl) (by kernel_rfl) (by kernel_rfl) (fun _ _ _ h => h) (by rfl) hS0 (fun W hSW => ?_) ?_
          · (try dsimp only at hSW); (try obtain ⟨hSA, hSB, hSC, hSD⟩ := hSW); (try obtain ⟨hSA, hSB⟩ := hSW); go_simp <;> omega
          simp only [Act.put, List.setIfInBounds_toArray, List.set_cons_zero, List.set_cons_succ]
          refine heldW 1 11 (.int .i64 (k : Int)) rfl rfl (by kernel_rfl) (by kernel_rfl) (by kernel_rfl) (fun _ _ _ h => h) (by rfl) hS0 (fun W hSW => ?_) ?_
          · (try dsimp only at hSW); (try obtain ⟨hSA, hSB, hSC, hSD⟩ := hSW); (try obtain ⟨hSA, hSB⟩ := hSW); go_simp <;> omega
          simp only [Act.put, List.setIfInBounds_toArray, List.set_cons_zero, List.set_cons_succ]
          refine heldW 2 12 (.pointer (some ⟨g, k * 2, none⟩)) rfl rfl (by kernel_rfl) (by kernel_rfl) (by kernel_rfl) (fun _ _ _ h => h) (by rfl) hS0 (fun W hSW => ?_) ?_
          · (try dsimp only at hSW); (try obtain ⟨hSA, hSB, hSC, hSD⟩ := hSW); (try obtain ⟨hSA, hSB⟩ := hSW); go_simp <;> omega
          simp only [Act.put, List.setIfInBounds_toArray, List.set_cons_zero, List.set_cons_succ]
          refine heldW 3 13 (.agg #[.int .i64 ky, .string ⟨ny.toArray⟩]) rfl rfl (by kernel_rfl) (by kernel_rfl) (by kernel_rfl) (fun _ _ _ h => h) (by rfl) hS0 (fun W hSW => ?_) ?_
          · (try dsimp only at hSW); (try obtain ⟨hSA, hSB, hSC, hSD⟩ := hSW); (try obtain ⟨hSA, hSB⟩ := hSW); go_simp <;> omega
          simp only [Act.put, List.setIfInBounds_toArray, List.set_cons_zero, List.set_cons_succ]
          refine wpAnyH_ready (rs := [4]) (by kernel_rfl) (by simp) (AllReadyH.cons rfl (fun K hK => ?_) AllReadyH.nil)
          rw [if_pos (by rfl)]
          go_simp
          (with_reducible refine (f1.out _).mono ?_); rintro e w1 ⟨rfl, hb1⟩
          have hB := hbel.drew.trans (hb1.mono (by simp; omega))
          have hz1 := hB.size
          refine hK.out _ _ ⟨((hb1.cell (p := ⟨g, k * 2, none⟩) (by show g < _; simp; omega)).trans ca), ((hb1.cell (p := ⟨g, k * 2 + 1, none⟩) (by show g < _; simp; omega)).trans cb), ((hb1.cell (p := ⟨g, k' * 2, none⟩) (by show g < _; simp; omega)).trans cxa), ((hb1.cell (p := ⟨g, k' * 2 + 1, none⟩) (by show g < _; simp; omega)).trans cxb)⟩ (fun hS1 => ?_)
          clear hK K
          try simp only [Act.put, List.setIfInBounds_toArray, List.set_cons_zero, List.set_cons_succ]
          cases bN
          · have HN := Lib.hid (hNF.out rfl)
            refine heldW 5 15 (.bool true) rfl rfl (by kernel_rfl) (by kernel_rfl) (by kernel_rfl) (fun _ _ _ h => h) (by rfl) hS1 (fun W hSW => ?_) ?_
            · (try dsimp only at hSW); (try obtain ⟨hSA, hSB, hSC, hSD⟩ := hSW); (try obtain ⟨hSA, hSB⟩ := hSW); go_simp <;> omega
            simp only [Act.put, List.setIfInBounds_toArray, List.set_cons_zero, List.set_cons_succ]
            refine heldW 6 16 (.bool true) rfl rfl (by kernel_rfl) (by kernel_rfl) (by kernel_rfl) (fun _ _ _ h => h) (by rfl) hS1 (fun W hSW => ?_) ?_
            · (try dsimp only at hSW); (try obtain ⟨hSA, hSB, hSC, hSD⟩ := hSW); (try obtain ⟨hSA, hSB⟩ := hSW); go_simp <;> omega
            simp only [Act.put, List.setIfInBounds_toArray, List.set_cons_zero, List.set_cons_succ]
            refine heldS 7 17 rfl rfl (by kernel_rfl) (by kernel_rfl) (by kernel_rfl) (fun _ _ _ h => h) (by rfl) hS1 ?_
            simp only [Act.put, List.setIfInBounds_toArray, List.set_cons_zero, List.set_cons_succ]
            refine heldS 8 18 rfl rfl (by kernel_rfl) (by kernel_rfl) (by kernel_rfl) (fun _ _ _ h => h) (by rfl) hS1 ?_
            simp only [Act.put, List.setIfInBounds_toArray, List.set_cons_zero, List.set_cons_succ]
            refine heldS 9 19 rfl rfl (by kernel_rfl) (by kernel_rfl) (by kernel_rfl) (fun _ _ _ h => h) (by rfl) hS1 ?_
            simp only [Act.put, List.setIfInBounds_toArray, List.set_cons_zero, List.set_cons_succ]
            refine heldS 10 20 rfl rfl (by kernel_rfl) (by kernel_rfl) (by kernel_rfl) (fun _ _ _ h => h) (by rfl) hS1 ?_
            simp only [Act.put, List.setIfInBounds_toArray, List.set_cons_zero, List.set_cons_succ]
            refine heldS 11 21 rfl rfl (by kernel_rfl) (by kernel_rfl) (by kernel_rfl) (fun _ _ _ h => h) (by rfl) hS1 ?_
            simp only [Act.put, List.setIfInBounds_toArray, List.set_cons_zero, List.set_cons_succ]
            refine heldS 12 22 rfl rfl (by kernel_rfl) (by kernel_rfl) (by kernel_rfl) (fun _ _ _ h => h) (by rfl) hS1 ?_
            simp only [Act.put, List.setIfInBounds_toArray, List.set_cons_zero, List.set_cons_succ]
            refine heldS 13 23 rfl rfl (by kernel_rfl) (by kernel_rfl) (by kernel_rfl) (fun _ _ _ h => h) (by rfl) hS1 ?_
            simp only [Act.put, List.setIfInBounds_toArray, List.set_cons_zero, List.set_cons_succ]
            refine heldS 14 24 rfl rfl (by kernel_rfl) (by kernel_rfl) (by kernel_rfl) (fun _ _ _ h => h) (by rfl) hS1 ?_
            simp only [Act.put, List.setIfInBounds_toArray, List.set_cons_zero, List.set_cons_succ]
            refine heldS 15 25 rfl rfl (by kernel_rfl) (by kernel_rfl) (by kernel_rfl) (fun _ _ _ h => h) (by rfl) hS1 ?_
            simp only [Act.put, List.setIfInBounds_toArray, List.set_cons_zero, List.set_cons_succ]
            refine heldS 16 26 rfl rfl (by kernel_rfl) (by kernel_rfl) (by kernel_rfl) (fun _ _ _ h => h) (by rfl) hS1 ?_
            simp only [Act.put, List.setIfInBounds_toArray, List.set_cons_zero, List.set_cons_succ]
            refine heldS 17 27 rfl rfl (by kernel_rfl) (by kernel_rfl) (by kernel_rfl) (fun _ _ _ h => h) (by rfl) hS1 ?_
            simp only [Act.put, List.setIfInBounds_toArray, List.set_cons_zero, List.set_cons_succ]
            refine heldS 18 28 rfl rfl (by kernel_rfl) (by kernel_rfl) (by kernel_rfl) (fun _ _ _ h => h) (by rfl) hS1 ?_
            simp only [Act.put, List.setIfInBounds_toArray, List.set_cons_zero, List.set_cons_succ]
            refine heldS 19 29 rfl rfl (by kernel_rfl) (by kernel_rfl) (by kernel_rfl) (fun _ _ _ h => h) (by rfl) hS1 ?_
            simp only [Act.put, List.setIfInBounds_toArray, List.set_cons_zero, List.set_cons_succ]
            refine heldS 20 30 rfl rfl (by kernel_rfl) (by kernel_rfl) (by kernel_rfl) (fun _ _ _ h => h) (by rfl) hS1 ?_
            simp only [Act.put, List.setIfInBounds_toArray, List.set_cons_zero, List.set_cons_succ]
            refine heldS 21 31 rfl rfl (by kernel_rfl) (by kernel_rfl) (by kernel_rfl) (fun _ _ _ h => h) (by rfl) hS1 ?_
            simp only [Act.put, List.setIfInBounds_toArray, List.set_cons_zero, List.set_cons_succ]
            refine heldW 22 32 (.bool true) rfl rfl (by kernel_rfl) (by kernel_rfl) (by kernel_rfl) (fun _ _ _ h => h) (by rfl) hS1 (fun W hSW => ?_) ?_
            · (try dsimp only at hSW); (try obtain ⟨hSA, hSB, hSC, hSD⟩ := hSW); (try obtain ⟨hSA, hSB⟩ := hSW); go_simp <;> omega
            simp only [Act.put, List.setIfInBounds_toArray, List.set_cons_zero, List.set_cons_succ]
            refine wpAnyH_done (by kernel_rfl) ?_ _
            go_wp2
            go_ret
            rw [HN.out]
            exact ⟨rfl, hB⟩
          · have HO := Lib.hid (hO.out rfl)
            refine heldW 5 15 (.bool false) rfl rfl (by kernel_rfl) (by kernel_rfl) (by kernel_rfl) (fun _ _ _ h => h) (by rfl) hS1 (fun W hSW => ?_) ?_
            · (try dsimp only at hSW); (try obtain ⟨hSA, hSB, hSC, hSD⟩ := hSW); (try obtain ⟨hSA, hSB⟩ := hSW); go_simp <;> omega
            simp only [Act.put, List.setIfInBounds_toArray, List.set_cons_zero, List.set_cons_succ]
            refine heldW 6 16 (.bool false) rfl rfl (by kernel_rfl) (by kernel_rfl) (by kernel_rfl) (fun _ _ _ h => h) (by rfl) hS1 (fun W hSW => ?_) ?_
            · (try dsimp only at hSW); (try obtain ⟨hSA, hSB, hSC, hSD⟩ := hSW); (try obtain ⟨hSA, hSB⟩ := hSW); go_simp <;> omega
            simp only [Act.put, List.setIfInBounds_toArray, List.set_cons_zero, List.set_cons_succ]
            refine heldW 7 17 (.int .i64 (k : Int)) rfl rfl (by kernel_rfl) (by kernel_rfl) (by kernel_rfl) (fun _ _ _ h => h) (by rfl) hS1 (fun W hSW => ?_) ?_
            · (try dsimp only at hSW); (try obtain ⟨hSA, hSB, hSC, hSD⟩ := hSW); (try obtain ⟨hSA, hSB⟩ := hSW); go_simp <;> omega
            simp only [Act.put, List.setIfInBounds_toArray, List.set_cons_zero, List.set_cons_succ]
            refine heldW 8 18 (.bool true) rfl rfl (by kernel_rfl) (by kernel_rfl) (by kernel_rfl) (fun _ _ _ h => h) (by rfl) hS1 (fun W hSW => ?_) ?_
            · (try dsimp only at hSW); (try obtain ⟨hSA, hSB, hSC, hSD⟩ := hSW); (try obtain ⟨hSA, hSB⟩ := hSW); go_simp <;> omega
            simp only [Act.put, List.setIfInBounds_toArray, List.set_cons_zero, List.set_cons_succ]
            refine heldW 9 19 (.bool true) rfl rfl (by kernel_rfl) (by kernel_rfl) (by kernel_rfl) (fun _ _ _ h => h) (by rfl) hS1 (fun W hSW => ?_) ?_
            · (try dsimp only at hSW); (try obtain ⟨hSA, hSB, hSC, hSD⟩ := hSW); (try obtain ⟨hSA, hSB⟩ := hSW); go_simp <;> omega
            simp only [Act.put, List.setIfInBounds_toArray, List.set_cons_zero, List.set_cons_succ]
            refine heldW 10 20 (.slice (some ⟨g, 0, none⟩) l.length cap) rfl rfl (by kernel_rfl) (by kernel_rfl) (by kernel_rfl) (fun _ _ _ h => h) (by rfl) hS1 (fun W hSW => ?_) ?_
            · (try dsimp only at hSW); (try obtain ⟨hSA, hSB, hSC, hSD⟩ := hSW); (try obtain ⟨hSA, hSB⟩ := hSW); go_simp <;> omega
            simp only [Act.put, List.setIfInBounds_toArray, List.set_cons_zero, List.set_cons_succ]
            refine heldW 11 21 (.int .i64 (k : Int)) rfl rfl (by kernel_rfl) (by kernel_rfl) (by kernel_rfl) (fun _ _ _ h => h) (by rfl) hS1 (fun W hSW => ?_) ?_
            · (try dsimp only at hSW); (try obtain ⟨hSA, hSB, hSC, hSD⟩ := hSW); (try obtain ⟨hSA, hSB⟩ := hSW); go_simp <;> omega
            simp only [Act.put, List.setIfInBounds_toArray, List.set_cons_zero, List.set_cons_succ]
            refine heldW 12 22 (.int .i64 (k' : Int)) rfl rfl (by kernel_rfl) (by kernel_rfl) (by kernel_rfl) (fun _ _ _ h => h) (by rfl) hS1 (fun W hSW => ?_) ?_
            · (try dsimp only at hSW); (try obtain ⟨hSA, hSB, hSC, hSD⟩ := hSW); (try obtain ⟨hSA, hSB⟩ := hSW); go_simp <;> omega
            simp only [Act.put, List.setIfInBounds_toArray, List.set_cons_zero, List.set_cons_succ]
            refine heldW 13 23 (.pointer (some ⟨g, k' * 2, none⟩)) rfl rfl (by kernel_rfl) (by kernel_rfl) (by kernel_rfl) (fun _ _ _ h => h) (by rfl) hS1 (fun W hSW => ?_) ?_
            · (try dsimp only at hSW); (try obtain ⟨hSA, hSB, hSC, hSD⟩ := hSW); (try obtain ⟨hSA, hSB⟩ := hSW); go_simp <;> omega
            simp only [Act.put, List.setIfInBounds_toArray, List.set_cons_zero, List.set_cons_succ]
            refine heldW 14 24 (.agg #[.int .i64 kx, .string ⟨nx.toArray⟩]) rfl rfl (by kernel_rfl) (by kernel_rfl) (by kernel_rfl) (fun _ _ _ h => h) (by rfl) hS1 (fun W hSW => ?_) ?_
            · (try dsimp only at hSW); (try obtain ⟨hSA, hSB, hSC, hSD⟩ := hSW); (try obtain ⟨hSA, hSB⟩ := hSW); go_simp <;> omega
            simp only [Act.put, List.setIfInBounds_toArray, List.set_cons_zero, List.set_cons_succ]
            refine heldW 15 25 (.slice (some ⟨g, 0, none⟩) l.length cap) rfl rfl (by kernel_rfl) (by kernel_rfl) (by kernel_rfl) (fun _ _ _ h => h) (by rfl) hS1 (fun W hSW => ?_) ?_
            · (try dsimp only at hSW); (try obtain ⟨hSA, hSB, hSC, hSD⟩ := hSW); (try obtain ⟨hSA, hSB⟩ := hSW); go_simp <;> omega
            simp only [Act.put, List.setIfInBounds_toArray, List.set_cons_zero, List.set_cons_succ]
            refine heldW 16 26 (.int .i64 (k : Int)) rfl rfl (by kernel_rfl) (by kernel_rfl) (by kernel_rfl) (fun _ _ _ h => h) (by rfl) hS1 (fun W hSW => ?_) ?_
            · (try dsimp only at hSW); (try obtain ⟨hSA, hSB, hSC, hSD⟩ := hSW); (try obtain ⟨hSA, hSB⟩ := hSW); go_simp <;> omega
            simp only [Act.put, List.setIfInBounds_toArray, List.set_cons_zero, List.set_cons_succ]
            refine heldW 17 27 (.pointer (some ⟨g, k * 2, none⟩)) rfl rfl (by kernel_rfl) (by kernel_rfl) (by kernel_rfl) (fun _ _ _ h => h) (by rfl) hS1 (fun W hSW => ?_) ?_
            · (try dsimp only at hSW); (try obtain ⟨hSA, hSB, hSC, hSD⟩ := hSW); (try obtain ⟨hSA, hSB⟩ := hSW); go_simp <;> omega
            simp only [Act.put, List.setIfInBounds_toArray, List.set_cons_zero, List.set_cons_succ]
            refine heldW 18 28 (.agg #[.int .i64 ky, .string ⟨ny.toArray⟩]) rfl rfl (by kernel_rfl) (by kernel_rfl) (by kernel_rfl) (fun _ _ _ h => h) (by rfl) hS1 (fun W hSW => ?_) ?_
            · (try dsimp only at hSW); (try obtain ⟨hSA, hSB, hSC, hSD⟩ := hSW); (try obtain ⟨hSA, hSB⟩ := hSW); go_simp <;> omega
            simp only [Act.put, List.setIfInBounds_toArray, List.set_cons_zero, List.set_cons_succ]
            refine wpAnyH_ready (rs := [19]) (by kernel_rfl) (by simp) (AllReadyH.cons rfl (fun K hK => ?_) AllReadyH.nil)
            rw [if_pos (by rfl)]
            go_simp
            (with_reducible refine (f2.out _).mono ?_); rintro e w2 ⟨rfl, hb2⟩
            have hB2 := hB.trans (hb2.mono hz1)
            refine hK.out _ _ ⟨((hb2.cell (p := ⟨g, k * 2, none⟩) (by show g < _; omega)).trans hS1.1), ((hb2.cell (p := ⟨g, k * 2 + 1, none⟩) (by show g < _; omega)).trans hS1.2.1), ((hb2.cell (p := ⟨g, k' * 2, none⟩) (by show g < _; omega)).trans hS1.2.2.1), ((hb2.cell (p := ⟨g, k' * 2 + 1, none⟩) (by show g < _; omega)).trans hS1.2.2.2)⟩ (fun hS2 => ?_)
            clear hK K
            try simp only [Act.put, List.setIfInBounds_toArray, List.set_cons_zero, List.set_cons_succ]
            refine heldW 20 30 (.bool !c) rfl rfl (by kernel_rfl) (by kernel_rfl) (by kernel_rfl) (fun _ _ _ h => h) (by rfl) hS2 (fun W hSW => ?_) ?_
            · (try dsimp only at hSW); (try obtain ⟨hSA, hSB, hSC, hSD⟩ := hSW); (try obtain ⟨hSA, hSB⟩ := hSW); go_simp <;> omega
            simp only [Act.put, List.setIfInBounds_toArray, List.set_cons_zero, List.set_cons_succ]
            refine heldW 21 31 (.bool !c) rfl rfl (by kernel_rfl) (by kernel_rfl) (by kernel_rfl) (fun _ _ _ h => h) (by rfl) hS2 (fun W hSW => ?_) ?_
            · (try dsimp only at hSW); (try obtain ⟨hSA, hSB, hSC, hSD⟩ := hSW); (try obtain ⟨hSA, hSB⟩ := hSW); go_simp <;> omega
            simp only [Act.put, List.setIfInBounds_toArray, List.set_cons_zero, List.set_cons_succ]
            refine heldW 22 32 (.bool !c) rfl rfl (by kernel_rfl) (by kernel_rfl) (by kernel_rfl) (fun _ _ _ h => h) (by rfl) hS2 (fun W hSW => ?_) ?_
            · (try dsimp only at hSW); (try obtain ⟨hSA, hSB, hSC, hSD⟩ := hSW); (try obtain ⟨hSA, hSB⟩ := hSW); go_simp <;> omega
            simp only [Act.put, List.setIfInBounds_toArray, List.set_cons_zero, List.set_cons_succ]
            refine wpAnyH_done (by kernel_rfl) ?_ _
            cases c
            · have HN := Lib.hid (hF.out HO.out)
              go_wp2
              go_ret
              rw [HN.out]
              exact ⟨rfl, hB2⟩
            · have HN := Lib.hid (show ∀ j, j < k + 1 → okAtL l j = true by
                intro j hj
                by_cases e : j = k
                · rw [e, HO.out]
                · exact HA.out j (by omega))
              go_wp2
              go_roundw
              case rel => exact ⟨k + 1, by omega, by go_num, hB2, HN.out⟩
              case measure => simp [intOf]; omega
      · obtain rfl : k = l.length := by omega
        have HR := Lib.hid (labelsOk_done HA.out)
        clear h HA
        go_wp2
        go_ret
        rw [HR.out]
        exact ⟨rfl, hbel⟩
end Go.Proofs.Ytlaoioicefohiaa
