/-
  The contract of impl.LabelsOk.
-/
import Derived.Test.YtlaoioicefohiaaLsOk
import Derived.Test.YtlaoioicefohiaaLI1
import Derived.Test.YtlaoioicefohiaaLI5
namespace Go.Proofs.Ytlaoioicefohiaa
set_option maxRecDepth 100000
open Go.ChangeShapes Go.WideShapes Go.ChangeAt Go.RowKit
set_option linter.unusedSimpArgs false

theorem below_growN (w : World) (q : Nat) (os : Array Obj) : Below w.heap.size w (Go.Sort.grow (w.drewN q) os) :=
  ⟨rfl, rfl, rfl, by simp [Go.Sort.grow, World.drewN], fun k hk => by simp only [Go.Sort.grow, World.drewN]; exact Array.getElem?_append_left hk⟩
theorem compareLabelsB (k1 k2 : Int) (n1 n2 : List UInt8) (w : World) :
    Calls Try.prog 55 #[.agg #[.int .i64 k1, .string ⟨n1.toArray⟩], .agg #[.int .i64 k2, .string ⟨n2.toArray⟩]] w fun e w' => e = .returned (.int .i64 (cmpL (k1, n1) (k2, n2))) ∧ Below w.heap.size w w' :=
  (compareLabels k1 k2 n1 n2 w).mono fun e w' ⟨he, q, os, hw⟩ => ⟨he, by rw [hw]; exact below_growN w q os⟩
theorem cmpL_ge (x y : Lbl) : decide (0 ≤ cmpL x y) = !lessL x.1 x.2 y.1 y.2 := by
  have h : decide (cmpL x y < 0) = lessL x.1 x.2 y.1 y.2 := cmpL_lt x y
  rw [← h]
  by_cases e : cmpL x y < 0
  · have e2 : ¬ 0 ≤ cmpL x y := by omega
    simp [e, e2]
  · have e2 : 0 ≤ cmpL x y := by omega
    simp [e, e2]

set_option maxHeartbeats 2000000 in
theorem implLabelsOk {w : World} {b : Nat} {v : Value} {l : List Lbl} (h : w.ownsRow b 31 2 v l.length (flat l)) (hn : l.length ≤ 10000000) (hx : ∀ x ∈ l, x.2.length ≤ maxLen) :
    Calls Try.prog 30 #[v] w fun e w' => e = .returned (.bool (labelsOk l)) ∧ Below w.heap.size w w' := by
  rcases Nat.eq_zero_or_pos l.length with h0 | hp
  · obtain ⟨a, cap, rfl⟩ := own_nil_orL h h0
    obtain rfl : l = [] := List.length_eq_zero_iff.1 h0
    clear h h0 hn
    go_enter Try.func30, Try.ntmps30
    go_wp2
    refine wp_loop_rounds 1 ?_
    rw [rounds_succ]
    go_wp2
    go_ret
    exact ⟨rfl, Below.refl _ _⟩
  · obtain ⟨g, cap, rfl, _, hgl⟩ := h.form hp
    go_enter Try.func30, Try.ntmps30
    go_wp2
    go_loopw [7] (fun i wr => ∃ k : Nat, k ≤ l.length ∧ i = .int .i64 k ∧ Below w.heap.size w wr ∧ Hid (∀ j, j < k → okAtL l j = true)) (fun i _ => l.length - (intOf i).toNat)
    case atStart => exact ⟨0, Nat.zero_le _, rfl, Below.refl _ _, by simp [Hid]⟩
    case round =>
      obtain ⟨k, hk, rfl, hbel, HA⟩ := hrel
      by_cases hlt : k < l.length
      · obtain ⟨fa, fb⟩ := flat_at hlt
        have ca := (hbel.cell (p := ⟨g, k * 2, none⟩) hgl).trans ((h.cellAt (k * 2) (by omega)).trans fa)
        have cb := (hbel.cell (p := ⟨g, k * 2 + 1, none⟩) hgl).trans ((h.cellAt (k * 2 + 1) (by omega)).trans fb)
        unfold sv at cb
        have q1 : (0 : Int) ≤ (k : Int) := by omega
        have q2 : (k : Int) < (l.length : Int) := by omega
        have f1 := Lib.hid fun W => implLabelOk l[k].1 l[k].2 W (hx _ (List.getElem_mem hlt))
        have hNF := Lib.hid fun hb => labelsOk_bad hlt (okAtL_label hlt hb)
        have hz := hbel.size
        clear fa fb
        rcases Nat.eq_zero_or_pos k with hk0 | hkp
        · have HR := Lib.hid (show labelOk l[k].1 l[k].2 = true → ∀ j, j < k + 1 → okAtL l j = true by
            intro hN j hj
            obtain rfl : j = 0 := by omega
            subst hk0
            exact okAtL_zero hlt hN)
          have q3 : decide ((0 : Int) < (k : Int)) = false := by simp; omega
          have q5 : k ≤ 0 := by omega
          have q6 : decide (0 < k) = false := by simp; omega
          clear HA hk0
          generalize labelOk l[k].1 l[k].2 = bN at HR f1 hNF
          generalize l[k] = lk at ca cb f1
          obtain ⟨ky, ny⟩ := lk
          simp only at ca cb f1
          have x0 : (wr.alloc (.cells #[.int .i64 ky, .string ⟨ny.toArray⟩] 31)).cell? ⟨wr.heap.size, 0, none⟩ = some (.int .i64 ky) := World.news_of_block (cs := #[.int .i64 ky, .string ⟨ny.toArray⟩]) (t := 31) (fr := (0, 0)) (heap_alloc_new wr _) 0 _ rfl
          have x1 : (wr.alloc (.cells #[.int .i64 ky, .string ⟨ny.toArray⟩] 31)).cell? ⟨wr.heap.size, 1, none⟩ = some (.string ⟨ny.toArray⟩) := World.news_of_block (cs := #[.int .i64 ky, .string ⟨ny.toArray⟩]) (t := 31) (fr := (0, 0)) (heap_alloc_new wr _) 1 _ rfl
          have hpb : wr.heap.size < (wr.alloc (.cells #[.int .i64 ky, .string ⟨ny.toArray⟩] 31)).heap.size := by simp
          have hbelA := hbel.alloc hz (.cells #[.int .i64 ky, .string ⟨ny.toArray⟩] 31)
          have hzA := hbelA.size
          go_wp2
          clear ca cb
          generalize wr.alloc (.cells #[.int .i64 ky, .string ⟨ny.toArray⟩] 31) = wa at x0 x1 hpb hbelA hzA
          generalize wr.heap.size = pb at x0 x1 hpb
          clear hbel hz
          have hbel := hbelA
          have hz := hzA
          have ca := x0
          have cb := x1
          clear hbelA hzA x0 x1
          refine wp_region_held_drew (S := (fun w' => w'.cell? ⟨pb, 0, none⟩ = some (.int .i64 ky) ∧ w'.cell? ⟨pb, 1, none⟩ = some (.string ⟨ny.toArray⟩))) (by kernel_rfl) ⟨ca, cb⟩ (fun hS0 => ?_)
          refine heldW 0 12 (.agg #[.int .i64 ky, .string ⟨ny.toArray⟩]) rfl rfl (by kernel_rfl) (by kernel_rfl) (by kernel_rfl) (fun _ _ _ h => h) (by rfl) hS0 (fun W hSW => ?_) ?_
          · (try dsimp only at hSW); (try obtain ⟨hSA, hSB, hSC, hSD⟩ := hSW); (try obtain ⟨hSA, hSB⟩ := hSW); go_simp <;> omega
          simp only [Act.put, List.setIfInBounds_toArray, List.set_cons_zero, List.set_cons_succ]
          refine wpAnyH_ready (rs := [1]) (by kernel_rfl) (by simp) (AllReadyH.cons rfl (fun K hK => ?_) AllReadyH.nil)
          rw [if_pos (by rfl)]
          go_simp
          (with_reducible refine (f1.out _).mono ?_); rintro e w1 ⟨rfl, hb1⟩
          have hB := hbel.drew.trans (hb1.mono (by simp; omega))
          have hz1 := hB.size
          refine hK.out _ _ ⟨((hb1.cell (p := ⟨pb, 0, none⟩) (by show pb < _; simp; omega)).trans ca), ((hb1.cell (p := ⟨pb, 1, none⟩) (by show pb < _; simp; omega)).trans cb)⟩ (fun hS1 => ?_)
          clear hK K
          try simp only [Act.put, List.setIfInBounds_toArray, List.set_cons_zero, List.set_cons_succ]
          cases bN
          · have HN := Lib.hid (hNF.out rfl)
            refine heldW 2 14 (.bool true) rfl rfl (by kernel_rfl) (by kernel_rfl) (by kernel_rfl) (fun _ _ _ h => h) (by rfl) hS1 (fun W hSW => ?_) ?_
            · (try dsimp only at hSW); (try obtain ⟨hSA, hSB, hSC, hSD⟩ := hSW); (try obtain ⟨hSA, hSB⟩ := hSW); go_simp <;> omega
            simp only [Act.put, List.setIfInBounds_toArray, List.set_cons_zero, List.set_cons_succ]
            refine heldW 3 15 (.bool true) rfl rfl (by kernel_rfl) (by kernel_rfl) (by kernel_rfl) (fun _ _ _ h => h) (by rfl) hS1 (fun W hSW => ?_) ?_
            · (try dsimp only at hSW); (try obtain ⟨hSA, hSB, hSC, hSD⟩ := hSW); (try obtain ⟨hSA, hSB⟩ := hSW); go_simp <;> omega
            simp only [Act.put, List.setIfInBounds_toArray, List.set_cons_zero, List.set_cons_succ]
            refine heldS 4 16 rfl rfl (by kernel_rfl) (by kernel_rfl) (by kernel_rfl) (fun _ _ _ h => h) (by rfl) hS1 ?_
            simp only [Act.put, List.setIfInBounds_toArray, List.set_cons_zero, List.set_cons_succ]
            refine heldS 5 17 rfl rfl (by kernel_rfl) (by kernel_rfl) (by kernel_rfl) (fun _ _ _ h => h) (by rfl) hS1 ?_
            simp only [Act.put, List.setIfInBounds_toArray, List.set_cons_zero, List.set_cons_succ]
            refine heldS 6 18 rfl rfl (by kernel_rfl) (by kernel_rfl) (by kernel_rfl) (fun _ _ _ h => h) (by rfl) hS1 ?_
            simp only [Act.put, List.setIfInBounds_toArray, List.set_cons_zero, List.set_cons_succ]
            refine heldS 7 19 rfl rfl (by kernel_rfl) (by kernel_rfl) (by kernel_rfl) (fun _ _ _ h => h) (by rfl) hS1 ?_
            simp only [Act.put, List.setIfInBounds_toArray, List.set_cons_zero, List.set_cons_succ]
            refine heldS 8 20 rfl rfl (by kernel_rfl) (by kernel_rfl) (by kernel_rfl) (fun _ _ _ h => h) (by rfl) hS1 ?_
            simp only [Act.put, List.setIfInBounds_toArray, List.set_cons_zero, List.set_cons_succ]
            refine heldS 9 21 rfl rfl (by kernel_rfl) (by kernel_rfl) (by kernel_rfl) (fun _ _ _ h => h) (by rfl) hS1 ?_
            simp only [Act.put, List.setIfInBounds_toArray, List.set_cons_zero, List.set_cons_succ]
            refine heldS 10 22 rfl rfl (by kernel_rfl) (by kernel_rfl) (by kernel_rfl) (fun _ _ _ h => h) (by rfl) hS1 ?_
            simp only [Act.put, List.setIfInBounds_toArray, List.set_cons_zero, List.set_cons_succ]
            refine heldS 11 23 rfl rfl (by kernel_rfl) (by kernel_rfl) (by kernel_rfl) (fun _ _ _ h => h) (by rfl) hS1 ?_
            simp only [Act.put, List.setIfInBounds_toArray, List.set_cons_zero, List.set_cons_succ]
            refine heldS 12 24 rfl rfl (by kernel_rfl) (by kernel_rfl) (by kernel_rfl) (fun _ _ _ h => h) (by rfl) hS1 ?_
            simp only [Act.put, List.setIfInBounds_toArray, List.set_cons_zero, List.set_cons_succ]
            refine heldS 13 25 rfl rfl (by kernel_rfl) (by kernel_rfl) (by kernel_rfl) (fun _ _ _ h => h) (by rfl) hS1 ?_
            simp only [Act.put, List.setIfInBounds_toArray, List.set_cons_zero, List.set_cons_succ]
            refine heldS 14 26 rfl rfl (by kernel_rfl) (by kernel_rfl) (by kernel_rfl) (fun _ _ _ h => h) (by rfl) hS1 ?_
            simp only [Act.put, List.setIfInBounds_toArray, List.set_cons_zero, List.set_cons_succ]
            refine heldS 15 27 rfl rfl (by kernel_rfl) (by kernel_rfl) (by kernel_rfl) (fun _ _ _ h => h) (by rfl) hS1 ?_
            simp only [Act.put, List.setIfInBounds_toArray, List.set_cons_zero, List.set_cons_succ]
            refine heldW 16 28 (.bool true) rfl rfl (by kernel_rfl) (by kernel_rfl) (by kernel_rfl) (fun _ _ _ h => h) (by rfl) hS1 (fun W hSW => ?_) ?_
            · (try dsimp only at hSW); (try obtain ⟨hSA, hSB, hSC, hSD⟩ := hSW); (try obtain ⟨hSA, hSB⟩ := hSW); go_simp <;> omega
            simp only [Act.put, List.setIfInBounds_toArray, List.set_cons_zero, List.set_cons_succ]
            refine wpAnyH_done (by kernel_rfl) ?_ _
            go_wp2
            go_ret
            rw [HN.out]
            exact ⟨rfl, hB⟩
          · have HN := Lib.hid (HR.out rfl)
            refine heldW 2 14 (.bool false) rfl rfl (by kernel_rfl) (by kernel_rfl) (by kernel_rfl) (fun _ _ _ h => h) (by rfl) hS1 (fun W hSW => ?_) ?_
            · (try dsimp only at hSW); (try obtain ⟨hSA, hSB, hSC, hSD⟩ := hSW); (try obtain ⟨hSA, hSB⟩ := hSW); go_simp <;> omega
            simp only [Act.put, List.setIfInBounds_toArray, List.set_cons_zero, List.set_cons_succ]
            refine heldW 3 15 (.bool false) rfl rfl (by kernel_rfl) (by kernel_rfl) (by kernel_rfl) (fun _ _ _ h => h) (by rfl) hS1 (fun W hSW => ?_) ?_
            · (try dsimp only at hSW); (try obtain ⟨hSA, hSB, hSC, hSD⟩ := hSW); (try obtain ⟨hSA, hSB⟩ := hSW); go_simp <;> omega
            simp only [Act.put, List.setIfInBounds_toArray, List.set_cons_zero, List.set_cons_succ]
            refine heldW 4 16 (.int .i64 (k : Int)) rfl rfl (by kernel_rfl) (by kernel_rfl) (by kernel_rfl) (fun _ _ _ h => h) (by rfl) hS1 (fun W hSW => ?_) ?_
            · (try dsimp only at hSW); (try obtain ⟨hSA, hSB, hSC, hSD⟩ := hSW); (try obtain ⟨hSA, hSB⟩ := hSW); go_simp <;> omega
            simp only [Act.put, List.setIfInBounds_toArray, List.set_cons_zero, List.set_cons_succ]
            refine heldW 5 17 (.bool false) rfl rfl (by kernel_rfl) (by kernel_rfl) (by kernel_rfl) (fun _ _ _ h => h) (by rfl) hS1 (fun W hSW => ?_) ?_
            · (try dsimp only at hSW); (try obtain ⟨hSA, hSB, hSC, hSD⟩ := hSW); (try obtain ⟨hSA, hSB⟩ := hSW); go_simp <;> omega
            simp only [Act.put, List.setIfInBounds_toArray, List.set_cons_zero, List.set_cons_succ]
            refine heldW 6 18 (.bool false) rfl rfl (by kernel_rfl) (by kernel_rfl) (by kernel_rfl) (fun _ _ _ h => h) (by rfl) hS1 (fun W hSW => ?_) ?_
            · (try dsimp only at hSW); (try obtain ⟨hSA, hSB, hSC, hSD⟩ := hSW); (try obtain ⟨hSA, hSB⟩ := hSW); go_simp <;> omega
            simp only [Act.put, List.setIfInBounds_toArray, List.set_cons_zero, List.set_cons_succ]
            refine heldS 7 19 rfl rfl (by kernel_rfl) (by kernel_rfl) (by kernel_rfl) (fun _ _ _ h => h) (by rfl) hS1 ?_
            simp only [Act.put, List.setIfInBounds_toArray, List.set_cons_zero, List.set_cons_succ]
            refine heldS 8 20 rfl rfl (by kernel_rfl) (by kernel_rfl) (by kernel_rfl) (fun _ _ _ h => h) (by rfl) hS1 ?_
            simp only [Act.put, List.setIfInBounds_toArray, List.set_cons_zero, List.set_cons_succ]
            refine heldS 9 21 rfl rfl (by kernel_rfl) (by kernel_rfl) (by kernel_rfl) (fun _ _ _ h => h) (by rfl) hS1 ?_
            simp only [Act.put, List.setIfInBounds_toArray, List.set_cons_zero, List.set_cons_succ]
            refine heldS 10 22 rfl rfl (by kernel_rfl) (by kernel_rfl) (by kernel_rfl) (fun _ _ _ h => h) (by rfl) hS1 ?_
            simp only [Act.put, List.setIfInBounds_toArray, List.set_cons_zero, List.set_cons_succ]
            refine heldS 11 23 rfl rfl (by kernel_rfl) (by kernel_rfl) (by kernel_rfl) (fun _ _ _ h => h) (by rfl) hS1 ?_
            simp only [Act.put, List.setIfInBounds_toArray, List.set_cons_zero, List.set_cons_succ]
            refine heldS 12 24 rfl rfl (by kernel_rfl) (by kernel_rfl) (by kernel_rfl) (fun _ _ _ h => h) (by rfl) hS1 ?_
            simp only [Act.put, List.setIfInBounds_toArray, List.set_cons_zero, List.set_cons_succ]
            refine heldS 13 25 rfl rfl (by kernel_rfl) (by kernel_rfl) (by kernel_rfl) (fun _ _ _ h => h) (by rfl) hS1 ?_
            simp only [Act.put, List.setIfInBounds_toArray, List.set_cons_zero, List.set_cons_succ]
            refine heldS 14 26 rfl rfl (by kernel_rfl) (by kernel_rfl) (by kernel_rfl) (fun _ _ _ h => h) (by rfl) hS1 ?_
            simp only [Act.put, List.setIfInBounds_toArray, List.set_cons_zero, List.set_cons_succ]
            refine heldW 15 27 (.bool false) rfl rfl (by kernel_rfl) (by kernel_rfl) (by kernel_rfl) (fun _ _ _ h => h) (by rfl) hS1 (fun W hSW => ?_) ?_
            · (try dsimp only at hSW); (try obtain ⟨hSA, hSB, hSC, hSD⟩ := hSW); (try obtain ⟨hSA, hSB⟩ := hSW); go_simp <;> omega
            simp only [Act.put, List.setIfInBounds_toArray, List.set_cons_zero, List.set_cons_succ]
            refine heldW 16 28 (.bool false) rfl rfl (by kernel_rfl) (by kernel_rfl) (by kernel_rfl) (fun _ _ _ h => h) (by rfl) hS1 (fun W hSW => ?_) ?_
            · (try dsimp only at hSW); (try obtain ⟨hSA, hSB, hSC, hSD⟩ := hSW); (try obtain ⟨hSA, hSB⟩ := hSW); go_simp <;> omega
            simp only [Act.put, List.setIfInBounds_toArray, List.set_cons_zero, List.set_cons_succ]
            refine wpAnyH_done (by kernel_rfl) ?_ _
            go_wp2
            go_roundw
            case rel => exact ⟨k + 1, by omega, by go_num, hB, HN.out⟩
            case measure => simp [intOf]; omega
        · obtain ⟨k', hk'⟩ : ∃ k', k = k' + 1 := ⟨k - 1, by omega⟩
          have hlt' : k' < l.length := by omega
          obtain ⟨fa, fb⟩ := flat_at hlt'
          have cxa := (hbel.cell (p := ⟨g, k' * 2, none⟩) hgl).trans ((h.cellAt (k' * 2) (by omega)).trans fa)
          have cxb := (hbel.cell (p := ⟨g, k' * 2 + 1, none⟩) hgl).trans ((h.cellAt (k' * 2 + 1) (by omega)).trans fb)
          unfold sv at cxb
          have hO := Lib.hid (okAtL_succ hk' hlt hlt')
          have hF := Lib.hid fun hb => labelsOk_bad (l := l) hlt hb
          have f2 := Lib.hid fun W => compareLabelsB l[k'].1 l[k].1 l[k'].2 l[k].2 W
          have hr := Lib.hid (cmpL_ge (l[k'].1, l[k'].2) (l[k].1, l[k].2))
          simp only at hr
          have q3 : decide ((0 : Int) < (k : Int)) = true := decide_eq_true (by omega)
          have q6 : decide (0 < k) = true := decide_eq_true (by omega)
          have q7 : (0 : Int) ≤ (k' : Int) := by omega
          have q8 : (k' : Int) < (l.length : Int) := by omega
          have q12 : IntKind.i64.wrap ((k : Int) - 1) = (k' : Int) := by rw [IntKind.wrap_i64]; omega
          have q13 : 1 ≤ k := by omega
          clear fa fb
          generalize cmpL (l[k'].1, l[k'].2) (l[k].1, l[k].2) = r at f2 hr
          generalize labelOk l[k].1 l[k].2 = bN at hO f1 hNF
          generalize lessL l[k'].1 l[k'].2 l[k].1 l[k].2 = c at hO hr
          generalize l[k'] = lx at cxa cxb f2
          generalize l[k] = lk at ca cb f1 f2
          clear hk' hlt'
          obtain ⟨kx, nx⟩ := lx
          obtain ⟨ky, ny⟩ := lk
          simp only at ca cb f1 cxa cxb f2
          have x0 : (wr.alloc (.cells #[.int .i64 ky, .string ⟨ny.toArray⟩] 31)).cell? ⟨wr.heap.size, 0, none⟩ = some (.int .i64 ky) := World.news_of_block (cs := #[.int .i64 ky, .string ⟨ny.toArray⟩]) (t := 31) (fr := (0, 0)) (heap_alloc_new wr _) 0 _ rfl
          have x1 : (wr.alloc (.cells #[.int .i64 ky, .string ⟨ny.toArray⟩] 31)).cell? ⟨wr.heap.size, 1, none⟩ = some (.string ⟨ny.toArray⟩) := World.news_of_block (cs := #[.int .i64 ky, .string ⟨ny.toArray⟩]) (t := 31) (fr := (0, 0)) (heap_alloc_new wr _) 1 _ rfl
          have hpb : wr.heap.size < (wr.alloc (.cells #[.int .i64 ky, .string ⟨ny.toArray⟩] 31)).heap.size := by simp
          have hbelA := hbel.alloc hz (.cells #[.int .i64 ky, .string ⟨ny.toArray⟩] 31)
          have hzA := hbelA.size
          have cya := ((Below.refl wr.heap.size wr).alloc (Nat.le_refl _) (.cells #[.int .i64 ky, .string ⟨ny.toArray⟩] 31)).cell (p := ⟨g, k' * 2, none⟩) (show g < _ by omega)
          have cyb := ((Below.refl wr.heap.size wr).alloc (Nat.le_refl _) (.cells #[.int .i64 ky, .string ⟨ny.toArray⟩] 31)).cell (p := ⟨g, k' * 2 + 1, none⟩) (show g < _ by omega)
          rw [cxa] at cya
          rw [cxb] at cyb
          clear cxa cxb
          have cxa := cya
          have cxb := cyb
          clear cya cyb
          go_wp2
          clear ca cb
          generalize wr.alloc (.cells #[.int .i64 ky, .string ⟨ny.toArray⟩] 31) = wa at x0 x1 hpb hbelA hzA cxa cxb
          generalize wr.heap.size = pb at x0 x1 hpb
          clear hbel hz
          have hbel := hbelA
          have hz := hzA
          have ca := x0
          have cb := x1
          clear hbelA hzA x0 x1
          refine wp_region_held_drew (S := (fun w' => w'.cell? ⟨pb, 0, none⟩ = some (.int .i64 ky) ∧ w'.cell? ⟨pb, 1, none⟩ = some (.string ⟨ny.toArray⟩) ∧ w'.cell? ⟨g, k' * 2, none⟩ = some (.int .i64 kx) ∧ w'.cell? ⟨g, k' * 2 + 1, none⟩ = some (.string ⟨nx.toArray⟩))) (by kernel_rfl) ⟨ca, cb, cxa, cxb⟩ (fun hS0 => ?_)
          refine heldW 0 12 (.agg #[.int .i64 ky, .string ⟨ny.toArray⟩]) rfl rfl (by kernel_rfl) (by kernel_rfl) (by kernel_rfl) (fun _ _ _ h => h) (by rfl) hS0 (fun W hSW => ?_) ?_
          · (try dsimp only at hSW); (try obtain ⟨hSA, hSB, hSC, hSD⟩ := hSW); (try obtain ⟨hSA, hSB⟩ := hSW); go_simp <;> omega
          simp only [Act.put, List.setIfInBounds_toArray, List.set_cons_zero, List.set_cons_succ]
          refine wpAnyH_ready (rs := [1]) (by kernel_rfl) (by simp) (AllReadyH.cons rfl (fun K hK => ?_) AllReadyH.nil)
          rw [if_pos (by rfl)]
          go_simp
          (with_reducible refine (f1.out _).mono ?_); rintro e w1 ⟨rfl, hb1⟩
          have hB := hbel.drew.trans (hb1.mono (by simp; omega))
          have hz1 := hB.size
          refine hK.out _ _ ⟨((hb1.cell (p := ⟨pb, 0, none⟩) (by show pb < _; simp; omega)).trans ca), ((hb1.cell (p := ⟨pb, 1, none⟩) (by show pb < _; simp; omega)).trans cb), ((hb1.cell (p := ⟨g, k' * 2, none⟩) (by show g < _; simp; omega)).trans cxa), ((hb1.cell (p := ⟨g, k' * 2 + 1, none⟩) (by show g < _; simp; omega)).trans cxb)⟩ (fun hS1 => ?_)
          clear hK K
          try simp only [Act.put, List.setIfInBounds_toArray, List.set_cons_zero, List.set_cons_succ]
          cases bN
          · have HN := Lib.hid (hNF.out rfl)
            refine heldW 2 14 (.bool true) rfl rfl (by kernel_rfl) (by kernel_rfl) (by kernel_rfl) (fun _ _ _ h => h) (by rfl) hS1 (fun W hSW => ?_) ?_
            · (try dsimp only at hSW); (try obtain ⟨hSA, hSB, hSC, hSD⟩ := hSW); (try obtain ⟨hSA, hSB⟩ := hSW); go_simp <;> omega
            simp only [Act.put, List.setIfInBounds_toArray, List.set_cons_zero, List.set_cons_succ]
            refine heldW 3 15 (.bool true) rfl rfl (by kernel_rfl) (by kernel_rfl) (by kernel_rfl) (fun _ _ _ h => h) (by rfl) hS1 (fun W hSW => ?_) ?_
            · (try dsimp only at hSW); (try obtain ⟨hSA, hSB, hSC, hSD⟩ := hSW); (try obtain ⟨hSA, hSB⟩ := hSW); go_simp <;> omega
            simp only [Act.put, List.setIfInBounds_toArray, List.set_cons_zero, List.set_cons_succ]
            refine heldS 4 16 rfl rfl (by kernel_rfl) (by kernel_rfl) (by kernel_rfl) (fun _ _ _ h => h) (by rfl) hS1 ?_
            simp only [Act.put, List.setIfInBounds_toArray, List.set_cons_zero, List.set_cons_succ]
            refine heldS 5 17 rfl rfl (by kernel_rfl) (by kernel_rfl) (by kernel_rfl) (fun _ _ _ h => h) (by rfl) hS1 ?_
            simp only [Act.put, List.setIfInBounds_toArray, List.set_cons_zero, List.set_cons_succ]
            refine heldS 6 18 rfl rfl (by kernel_rfl) (by kernel_rfl) (by kernel_rfl) (fun _ _ _ h => h) (by rfl) hS1 ?_
            simp only [Act.put, List.setIfInBounds_toArray, List.set_cons_zero, List.set_cons_succ]
            refine heldS 7 19 rfl rfl (by kernel_rfl) (by kernel_rfl) (by kernel_rfl) (fun _ _ _ h => h) (by rfl) hS1 ?_
            simp only [Act.put, List.setIfInBounds_toArray, List.set_cons_zero, List.set_cons_succ]
            refine heldS 8 20 rfl rfl (by kernel_rfl) (by kernel_rfl) (by kernel_rfl) (fun _ _ _ h => h) (by rfl) hS1 ?_
            simp only [Act.put, List.setIfInBounds_toArray, List.set_cons_zero, List.set_cons_succ]
            refine heldS 9 21 rfl rfl (by kernel_rfl) (by kernel_rfl) (by kernel_rfl) (fun _ _ _ h => h) (by rfl) hS1 ?_
            simp only [Act.put, List.setIfInBounds_toArray, List.set_cons_zero, List.set_cons_succ]
            refine heldS 10 22 rfl rfl (by kernel_rfl) (by kernel_rfl) (by kernel_rfl) (fun _ _ _ h => h) (by rfl) hS1 ?_
            simp only [Act.put, List.setIfInBounds_toArray, List.set_cons_zero, List.set_cons_succ]
            refine heldS 11 23 rfl rfl (by kernel_rfl) (by kernel_rfl) (by kernel_rfl) (fun _ _ _ h => h) (by rfl) hS1 ?_
            simp only [Act.put, List.setIfInBounds_toArray, List.set_cons_zero, List.set_cons_succ]
            refine heldS 12 24 rfl rfl (by kernel_rfl) (by kernel_rfl) (by kernel_rfl) (fun _ _ _ h => h) (by rfl) hS1 ?_
            simp only [Act.put, List.setIfInBounds_toArray, List.set_cons_zero, List.set_cons_succ]
            refine heldS 13 25 rfl rfl (by kernel_rfl) (by kernel_rfl) (by kernel_rfl) (fun _ _ _ h => h) (by rfl) hS1 ?_
            simp only [Act.put, List.setIfInBounds_toArray, List.set_cons_zero, List.set_cons_succ]
            refine heldS 14 26 rfl rfl (by kernel_rfl) (by kernel_rfl) (by kernel_rfl) (fun _ _ _ h => h) (by rfl) hS1 ?_
            simp only [Act.put, List.setIfInBounds_toArray, List.set_cons_zero, List.set_cons_succ]
            refine heldS 15 27 rfl rfl (by kernel_rfl) (by kernel_rfl) (by kernel_rfl) (fun _ _ _ h => h) (by rfl) hS1 ?_
            simp only [Act.put, List.setIfInBounds_toArray, List.set_cons_zero, List.set_cons_succ]
            refine heldW 16 28 (.bool true) rfl rfl (by kernel_rfl) (by kernel_rfl) (by kernel_rfl) (fun _ _ _ h => h) (by rfl) hS1 (fun W hSW => ?_) ?_
            · (try dsimp only at hSW); (try obtain ⟨hSA, hSB, hSC, hSD⟩ := hSW); (try obtain ⟨hSA, hSB⟩ := hSW); go_simp <;> omega
            simp only [Act.put, List.setIfInBounds_toArray, List.set_cons_zero, List.set_cons_succ]
            refine wpAnyH_done (by kernel_rfl) ?_ _
            go_wp2
            go_ret
            rw [HN.out]
            exact ⟨rfl, hB⟩
          · have HO := Lib.hid (hO.out rfl)
            refine heldW 2 14 (.bool false) rfl rfl (by kernel_rfl) (by kernel_rfl) (by kernel_rfl) (fun _ _ _ h => h) (by rfl) hS1 (fun W hSW => ?_) ?_
            · (try dsimp only at hSW); (try obtain ⟨hSA, hSB, hSC, hSD⟩ := hSW); (try obtain ⟨hSA, hSB⟩ := hSW); go_simp <;> omega
            simp only [Act.put, List.setIfInBounds_toArray, List.set_cons_zero, List.set_cons_succ]
            refine heldW 3 15 (.bool false) rfl rfl (by kernel_rfl) (by kernel_rfl) (by kernel_rfl) (fun _ _ _ h => h) (by rfl) hS1 (fun W hSW => ?_) ?_
            · (try dsimp only at hSW); (try obtain ⟨hSA, hSB, hSC, hSD⟩ := hSW); (try obtain ⟨hSA, hSB⟩ := hSW); go_simp <;> omega
            simp only [Act.put, List.setIfInBounds_toArray, List.set_cons_zero, List.set_cons_succ]
            refine heldW 4 16 (.int .i64 (k : Int)) rfl rfl (by kernel_rfl) (by kernel_rfl) (by kernel_rfl) (fun _ _ _ h => h) (by rfl) hS1 (fun W hSW => ?_) ?_
            · (try dsimp only at hSW); (try obtain ⟨hSA, hSB, hSC, hSD⟩ := hSW); (try obtain ⟨hSA, hSB⟩ := hSW); go_simp <;> omega
            simp only [Act.put, List.setIfInBounds_toArray, List.set_cons_zero, List.set_cons_succ]
            refine heldW 5 17 (.bool true) rfl rfl (by kernel_rfl) (by kernel_rfl) (by kernel_rfl) (fun _ _ _ h => h) (by rfl) hS1 (fun W hSW => ?_) ?_
            · (try dsimp only at hSW); (try obtain ⟨hSA, hSB, hSC, hSD⟩ := hSW); (try obtain ⟨hSA, hSB⟩ := hSW); go_simp <;> omega
            simp only [Act.put, List.setIfInBounds_toArray, List.set_cons_zero, List.set_cons_succ]
            refine heldW 6 18 (.bool true) rfl rfl (by kernel_rfl) (by kernel_rfl) (by kernel_rfl) (fun _ _ _ h => h) (by rfl) hS1 (fun W hSW => ?_) ?_
            · (try dsimp only at hSW); (try obtain ⟨hSA, hSB, hSC, hSD⟩ := hSW); (try obtain ⟨hSA, hSB⟩ := hSW); go_simp <;> omega
            simp only [Act.put, List.setIfInBounds_toArray, List.set_cons_zero, List.set_cons_succ]
            refine heldW 7 19 (.slice (some ⟨g, 0, none⟩) l.length cap) rfl rfl (by kernel_rfl) (by kernel_rfl) (by kernel_rfl) (fun _ _ _ h => h) (by rfl) hS1 (fun W hSW => ?_) ?_
            · (try dsimp only at hSW); (try obtain ⟨hSA, hSB, hSC, hSD⟩ := hSW); (try obtain ⟨hSA, hSB⟩ := hSW); go_simp <;> omega
            simp only [Act.put, List.setIfInBounds_toArray, List.set_cons_zero, List.set_cons_succ]
            refine heldW 8 20 (.int .i64 (k : Int)) rfl rfl (by kernel_rfl) (by kernel_rfl) (by kernel_rfl) (fun _ _ _ h => h) (by rfl) hS1 (fun W hSW => ?_) ?_
            · (try dsimp only at hSW); (try obtain ⟨hSA, hSB, hSC, hSD⟩ := hSW); (try obtain ⟨hSA, hSB⟩ := hSW); go_simp <;> omega
            simp only [Act.put, List.setIfInBounds_toArray, List.set_cons_zero, List.set_cons_succ]
            refine heldW 9 21 (.int .i64 (k' : Int)) rfl rfl (by kernel_rfl) (by kernel_rfl) (by kernel_rfl) (fun _ _ _ h => h) (by rfl) hS1 (fun W hSW => ?_) ?_
            · (try dsimp only at hSW); (try obtain ⟨hSA, hSB, hSC, hSD⟩ := hSW); (try obtain ⟨hSA, hSB⟩ := hSW); go_simp <;> omega
            simp only [Act.put, List.setIfInBounds_toArray, List.set_cons_zero, List.set_cons_succ]
            refine heldW 10 22 (.pointer (some ⟨g, k' * 2, none⟩)) rfl rfl (by kernel_rfl) (by kernel_rfl) (by kernel_rfl) (fun _ _ _ h => h) (by rfl) hS1 (fun W hSW => ?_) ?_
            · (try dsimp only at hSW); (try obtain ⟨hSA, hSB, hSC, hSD⟩ := hSW); (try obtain ⟨hSA, hSB⟩ := hSW); go_simp <;> omega
            simp only [Act.put, List.setIfInBounds_toArray, List.set_cons_zero, List.set_cons_succ]
            refine heldW 11 23 (.agg #[.int .i64 kx, .string ⟨nx.toArray⟩]) rfl rfl (by kernel_rfl) (by kernel_rfl) (by kernel_rfl) (fun _ _ _ h => h) (by rfl) hS1 (fun W hSW => ?_) ?_
            · (try dsimp only at hSW); (try obtain ⟨hSA, hSB, hSC, hSD⟩ := hSW); (try obtain ⟨hSA, hSB⟩ := hSW); go_simp <;> omega
            simp only [Act.put, List.setIfInBounds_toArray, List.set_cons_zero, List.set_cons_succ]
            refine heldW 12 24 (.agg #[.int .i64 ky, .string ⟨ny.toArray⟩]) rfl rfl (by kernel_rfl) (by kernel_rfl) (by kernel_rfl) (fun _ _ _ h => h) (by rfl) hS1 (fun W hSW => ?_) ?_
            · (try dsimp only at hSW); (try obtain ⟨hSA, hSB, hSC, hSD⟩ := hSW); (try obtain ⟨hSA, hSB⟩ := hSW); go_simp <;> omega
            simp only [Act.put, List.setIfInBounds_toArray, List.set_cons_zero, List.set_cons_succ]
            refine wpAnyH_ready (rs := [13]) (by kernel_rfl) (by simp) (AllReadyH.cons rfl (fun K hK => ?_) AllReadyH.nil)
            rw [if_pos (by rfl)]
            go_simp
            (with_reducible refine (f2.out _).mono ?_); rintro e w2 ⟨rfl, hb2⟩
            have hB2 := hB.trans (hb2.mono hz1)
            refine hK.out _ _ ⟨((hb2.cell (p := ⟨pb, 0, none⟩) (by show pb < _; have := hb1.size; simp at this; omega)).trans hS1.1), ((hb2.cell (p := ⟨pb, 1, none⟩) (by show pb < _; have := hb1.size; simp at this; omega)).trans hS1.2.1), ((hb2.cell (p := ⟨g, k' * 2, none⟩) (by show g < _; have := hb1.size; simp at this; omega)).trans hS1.2.2.1), ((hb2.cell (p := ⟨g, k' * 2 + 1, none⟩) (by show g < _; have := hb1.size; simp at this; omega)).trans hS1.2.2.2)⟩ (fun hS2 => ?_)
            clear hK K
            try simp only [Act.put, List.setIfInBounds_toArray, List.set_cons_zero, List.set_cons_succ]
            refine heldW 14 26 (.bool (decide (0 ≤ r))) rfl rfl (by kernel_rfl) (by kernel_rfl) (by kernel_rfl) (fun _ _ _ h => h) (by rfl) hS2 (fun W hSW => ?_) ?_
            · (try dsimp only at hSW); (try obtain ⟨hSA, hSB, hSC, hSD⟩ := hSW); (try obtain ⟨hSA, hSB⟩ := hSW); go_simp <;> omega
            simp only [Act.put, List.setIfInBounds_toArray, List.set_cons_zero, List.set_cons_succ]
            refine heldW 15 27 (.bool (decide (0 ≤ r))) rfl rfl (by kernel_rfl) (by kernel_rfl) (by kernel_rfl) (fun _ _ _ h => h) (by rfl) hS2 (fun W hSW => ?_) ?_
            · (try dsimp only at hSW); (try obtain ⟨hSA, hSB, hSC, hSD⟩ := hSW); (try obtain ⟨hSA, hSB⟩ := hSW); go_simp <;> omega
            simp only [Act.put, List.setIfInBounds_toArray, List.set_cons_zero, List.set_cons_succ]
            refine heldW 16 28 (.bool (decide (0 ≤ r))) rfl rfl (by kernel_rfl) (by kernel_rfl) (by kernel_rfl) (fun _ _ _ h => h) (by rfl) hS2 (fun W hSW => ?_) ?_
            · (try dsimp only at hSW); (try obtain ⟨hSA, hSB, hSC, hSD⟩ := hSW); (try obtain ⟨hSA, hSB⟩ := hSW); go_simp <;> omega
            simp only [Act.put, List.setIfInBounds_toArray, List.set_cons_zero, List.set_cons_succ]
            refine wpAnyH_done (by kernel_rfl) ?_ _
            rw [hr.out]
            cases c
            · have HN := Lib.hid (hF.out HO.out)
              go_wp2
              go_ret
              rw [HN.out]
              exact ⟨rfl, hB2⟩
            · have HN := Lib.hid (show ∀ j, j < k + 1 → okAtL l j = true by
                intro j hj
                by_cases e : j = k
                · rw [e, HO.out]
                · exact HA.out j (by omega))
              go_wp2
              go_roundw
              case rel => exact ⟨k + 1, by omega, by go_num, hB2, HN.out⟩
              case measure => simp [intOf]; omega
      · obtain rfl : k = l.length := by omega
        have HR := Lib.hid (labelsOk_done HA.out)
        clear h HA
        go_wp2
        go_ret
        rw [HR.out]
        exact ⟨rfl, hbel⟩
end Go.Proofs.Ytlaoioicefohiaa
