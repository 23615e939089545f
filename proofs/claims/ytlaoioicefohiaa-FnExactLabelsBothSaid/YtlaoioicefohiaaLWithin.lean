/-
  The contract of spec.LabelsWithin.
-/
import Derived.Test.YtlaoioicefohiaaLBoth
namespace Go.Proofs.Ytlaoioicefohiaa
set_option maxRecDepth 100000
open Go.ChangeShapes Go.WideShapes Go.ChangeAt Go.RowKit
set_option linter.unusedSimpArgs false

def withinL (a b : List Lbl) : Bool := a.all fun x => decide (x ∈ b)
/-- The state of the model's two loops. -/
def WRel (X Y : List Lbl) (i k : Nat) : Prop :=
  (∀ t (h : t < X.length), t < i → X[t] ∈ Y) ∧ ∀ j (hj : j < Y.length), j < k → ∀ t (h : t < X.length), i ≤ t → ordL.ls Y[j] X[t]
theorem WRel.start (X Y : List Lbl) : WRel X Y 0 0 := ⟨fun t _ h => by omega, fun j _ h => by omega⟩
theorem asc_at {l : List Lbl} (h : Asc ordL l) {i j : Nat} (hij : i < j) (hj : j < l.length) : ordL.ls l[i] l[j] := List.pairwise_iff_getElem.1 h i j (by omega) hj hij
theorem WRel.skip {X Y : List Lbl} {i k : Nat} (hX : Asc ordL X) (h : WRel X Y i k) (hi : i < X.length) (hk : k < Y.length) (hl : ordL.ls Y[k] X[i]) : WRel X Y i (k + 1) := by
  refine ⟨h.1, fun j hj hjk t ht hit => ?_⟩
  by_cases e : j = k
  · subst e
    by_cases e2 : t = i
    · subst e2; exact hl
    · exact ordL.lt_trans hl (asc_at hX (by omega) ht)
  · exact h.2 j hj (by omega) t ht hit
theorem WRel.next {X Y : List Lbl} {i k : Nat} (h : WRel X Y i k) (hi : i < X.length) (hk : k < Y.length) (he : Y[k] = X[i]) : WRel X Y (i + 1) k := by
  refine ⟨fun t ht hti => ?_, fun j hj hjk t ht hit => h.2 j hj hjk t ht (by omega)⟩
  by_cases e : t = i
  · subst e; rw [← he]; exact List.getElem_mem hk
  · exact h.1 t ht (by omega)
theorem WRel.none {X Y : List Lbl} {i k : Nat} (h : WRel X Y i k) (hi : i < X.length) (hk : ¬ k < Y.length) : X[i] ∉ Y := by
  intro hm
  obtain ⟨j, hj, e⟩ := List.getElem_of_mem hm
  have := h.2 j hj (by omega) i hi (Nat.le_refl _)
  rw [e] at this
  exact ordL.lt_irrefl _ this
theorem WRel.apart {X Y : List Lbl} {i k : Nat} (hY : Asc ordL Y) (h : WRel X Y i k) (hi : i < X.length) (hk : k < Y.length) (hl : ordL.lt Y[k] X[i] = false) (hne : Y[k] ≠ X[i]) : X[i] ∉ Y := by
  intro hm
  obtain ⟨j, hj, e⟩ := List.getElem_of_mem hm
  have hxy : ordL.ls X[i] Y[k] := ordL.lt_of_le_ne hl (Ne.symm hne)
  by_cases e1 : j < k
  · have := h.2 j hj e1 i hi (Nat.le_refl _)
    rw [e] at this
    exact ordL.lt_irrefl _ this
  · by_cases e2 : j = k
    · subst e2; exact hne e
    · have := asc_at hY (show k < j by omega) hj
      rw [e] at this
      exact ordL.lt_irrefl _ (ordL.lt_trans hxy this)
theorem within_false {a b X Y : List Lbl} (hX : ∀ z, z ∈ X ↔ z ∈ a) (hY : ∀ z, z ∈ Y ↔ z ∈ b) {i : Nat} (hi : i < X.length) (h : X[i] ∉ Y) : withinL a b = false := by
  rw [Bool.eq_false_iff]
  intro h2
  have := List.all_eq_true.1 h2 X[i] ((hX _).1 (List.getElem_mem hi))
  simp only [decide_eq_true_eq] at this
  exact h ((hY _).2 this)
theorem within_true {a b X Y : List Lbl} (hX : ∀ z, z ∈ X ↔ z ∈ a) (hY : ∀ z, z ∈ Y ↔ z ∈ b) {k : Nat} (h : WRel X Y X.length k) : withinL a b = true := by
  refine List.all_eq_true.2 fun z hz => ?_
  obtain ⟨j, hj, e⟩ := List.getElem_of_mem ((hX z).2 hz)
  have := h.1 j hj hj
  rw [e] at this
  simpa using (hY z).1 this

set_option maxHeartbeats 4000000 in
theorem specLabelsWithin {w : World} {b1 b2 : Nat} {v1 v2 : Value} {a b : List Lbl} (h1 : w.ownsRow b1 31 2 v1 a.length (flat a)) (h2 : w.ownsRow b2 31 2 v2 b.length (flat b)) (ha : a.length ≤ 1048576) (hb : b.length ≤ 1048576) :
    Calls Try.prog 36 #[v1, v2] w fun e w' => e = .returned (.bool (withinL a b)) ∧ Below w.heap.size w w' := by
  have f1 := Lib.hid fun W (hB : Below w.heap.size w W) => specSortedOwn (own_below h1 hB) (by omega)
  have f2 := Lib.hid fun W (hB : Below w.heap.size w W) => specSortedOwn (own_below h2 hB) (by omega)
  obtain ⟨ax, mx, lx⟩ := srt_spec ordL _ a (Nat.le_refl _)
  obtain ⟨ay, my, ly⟩ := srt_spec ordL _ b (Nat.le_refl _)
  have HF := Lib.hid fun i (hi : i < (srt ordL a).length) h => within_false mx my hi h
  have HT := Lib.hid fun k (h : WRel (srt ordL a) (srt ordL b) (srt ordL a).length k) => within_true mx my h
  clear mx my h1 h2
  generalize srt ordL a = X at f1 ax lx HF HT
  generalize srt ordL b = Y at f2 ay ly HF HT
  generalize withinL a b = res at HF HT
  go_enter Try.func36, Try.ntmps36
  go_wp2_with fail
  (refine (f1.out _ (Below.refl _ _)).mono ?_); rintro e w1 ⟨x0, rfl, hx0, hb1⟩
  go_wp2_with fail
  (refine (f2.out _ hb1).mono ?_); rintro e w2 ⟨y0, rfl, hy0, hb2⟩
  have B2 := hb1.trans (hb2.mono hb1.size)
  have hx2 := own_below hx0 hb2
  have hz2 := B2.size
  clear f1 f2 hx0 hb1 hb2
  obtain ⟨a1, c1, rfl⟩ := own_sliceL hx2
  obtain ⟨a2, c2, rfl⟩ := own_sliceL hy0
  have HX : Hid (∀ i (h : i < X.length), ∃ g1, a1 = some ⟨g1, 0, none⟩ ∧ g1 < w2.heap.size ∧ w2.cell? ⟨g1, i * 2, none⟩ = some (.int .i64 X[i].1) ∧ w2.cell? ⟨g1, i * 2 + 1, none⟩ = some (.string ⟨X[i].2.toArray⟩)) := by
    intro i h
    obtain ⟨g1, c1', e, _, hg⟩ := hx2.form (by omega)
    cases e
    obtain ⟨fa, fb⟩ := flat_at h
    exact ⟨g1, rfl, hg, (hx2.cellAt (i * 2) (by omega)).trans fa, (hx2.cellAt (i * 2 + 1) (by omega)).trans fb⟩
  have HY : Hid (∀ k (h : k < Y.length), ∃ g2, a2 = some ⟨g2, 0, none⟩ ∧ g2 < w2.heap.size ∧ w2.cell? ⟨g2, k * 2, none⟩ = some (.int .i64 Y[k].1) ∧ w2.cell? ⟨g2, k * 2 + 1, none⟩ = some (.string ⟨Y[k].2.toArray⟩)) := by
    intro k h
    obtain ⟨g2, c2', e, _, hg⟩ := hy0.form (by omega)
    cases e
    obtain ⟨fa, fb⟩ := flat_at h
    exact ⟨g2, rfl, hg, (hy0.cellAt (k * 2) (by omega)).trans fa, (hy0.cellAt (k * 2 + 1) (by omega)).trans fb⟩
  clear hx2 hy0
  go_wp2
  go_loopw [7, 8] (fun kv iv wr => ∃ i k : Nat, i ≤ X.length ∧ k ≤ Y.length ∧ iv = .int .i64 i ∧ kv = .int .i64 k ∧ Below w2.heap.size w2 wr ∧ Hid (WRel X Y i k)) (fun _ iv _ => X.length - (intOf iv).toNat)
  case atStart => exact ⟨0, 0, Nat.zero_le _, Nat.zero_le _, rfl, rfl, Below.refl _ _, WRel.start _ _⟩
  case round =>
    obtain ⟨i, k0, hi6, hk6, rfl, rfl, hbel0, HR0⟩ := hrel
    by_cases hi1 : i < X.length
    · obtain ⟨g1, rfl, hg1, ca, cb⟩ := HX.out i hi1
      have qa1 : (0 : Int) ≤ (i : Int) := by omega
      have qa2 : (i : Int) < (X.length : Int) := by omega
      have da : decide ((i : Int) < (X.length : Int)) = true := decide_eq_true qa2
      go_wp2
      go_loopw [7] (fun kv wr => ∃ k : Nat, k ≤ Y.length ∧ kv = .int .i64 k ∧ Below w2.heap.size w2 wr ∧ Hid (WRel X Y i k)) (fun kv _ => Y.length - (intOf kv).toNat)
      case atStart => exact ⟨k0, hk6, rfl, hbel0, HR0⟩
      case round =>
        obtain ⟨k, hk7, rfl, hbel, HR⟩ := hrel
        have hz := hbel.size
        by_cases hk1 : k < Y.length
        · obtain ⟨g2, rfl, hg2, da', db'⟩ := HY.out k hk1
          have qb1 : (0 : Int) ≤ (k : Int) := by omega
          have qb2 : (k : Int) < (Y.length : Int) := by omega
          have dk : decide ((k : Int) < (Y.length : Int)) = true := decide_eq_true qb2
          have dk2 : decide ((Y.length : Int) ≤ (k : Int)) = false := decide_eq_false (by omega)
          have t1 := (hbel.cell (p := ⟨g2, k * 2, none⟩) hg2).trans da'
          have t2 := (hbel.cell (p := ⟨g2, k * 2 + 1, none⟩) hg2).trans db'
          have t3 := (hbel.cell (p := ⟨g1, i * 2, none⟩) hg1).trans ca
          have t4 := (hbel.cell (p := ⟨g1, i * 2 + 1, none⟩) hg1).trans cb
          have f3 := Lib.hid fun W => specLess Y[k].1 X[i].1 Y[k].2 X[i].2 W
          have HSk := Lib.hid fun (h : lessL Y[k].1 Y[k].2 X[i].1 X[i].2 = true) => HR.out.skip ax hi1 hk1 h
          have HNx := Lib.hid fun (h : Y[k] = X[i]) => HR.out.next hi1 hk1 h
          have HAp := Lib.hid fun (h : lessL Y[k].1 Y[k].2 X[i].1 X[i].2 = false) (hne : Y[k] ≠ X[i]) => HF.out i hi1 (WRel.apart ay HR.out hi1 hk1 h hne)
          clear HR da' db'
          generalize lessL Y[k].1 Y[k].2 X[i].1 X[i].2 = c at f3 HSk HAp
          generalize Y[k] = yk at t1 t2 f3 HNx HAp
          generalize X[i] = xi at t3 t4 f3 HNx HAp
          go_wp2
          refine wp_region_held_drew (S := (fun w' => w'.cell? ⟨g2, k * 2, none⟩ = some (.int .i64 yk.1) ∧ w'.cell? ⟨g2, k * 2 + 1, none⟩ = some (.string ⟨yk.2.toArray⟩) ∧ w'.cell? ⟨g1, i * 2, none⟩ = some (.int .i64 xi.1) ∧ w'.cell? ⟨g1, i * 2 + 1, none⟩ = some (.string ⟨xi.2.toArray⟩))) (by kernel_rfl) ⟨t1, t2, t3, t4⟩ (fun hS0 => ?_)
          refine heldW 0 19 (.int .i64 (k : Int)) rfl rfl (by kernel_rfl) (by kernel_rfl) (by kernel_rfl) (fun _ _ _ h => h) (by rfl) hS0 (fun W hSW => ?_) ?_
          · (try dsimp only at hSW); (try obtain ⟨hSA, hSB, hSC, hSD⟩ := hSW); (try obtain ⟨hSA, hSB⟩ := hSW); go_simp <;> omega
          simp only [Act.put, List.setIfInBounds_toArray, List.set_cons_zero, List.set_cons_succ]
          refine heldW 1 20 (.slice (some ⟨g2, 0, none⟩) Y.length c2) rfl rfl (by kernel_rfl) (by kernel_rfl) (by kernel_rfl) (fun _ _ _ h => h) (by rfl) hS0 (fun W hSW => ?_) ?_
          · (try dsimp only at hSW); (try obtain ⟨hSA, hSB, hSC, hSD⟩ := hSW); (try obtain ⟨hSA, hSB⟩ := hSW); go_simp <;> omega
          simp only [Act.put, List.setIfInBounds_toArray, List.set_cons_zero, List.set_cons_succ]
          refine heldW 2 21 (.int .i64 (Y.length : Int)) rfl rfl (by kernel_rfl) (by kernel_rfl) (by kernel_rfl) (fun _ _ _ h => h) (by rfl) hS0 (fun W hSW => ?_) ?_
          · (try dsimp only at hSW); (try obtain ⟨hSA, hSB, hSC, hSD⟩ := hSW); (try obtain ⟨hSA, hSB⟩ := hSW); go_simp <;> omega
          simp only [Act.put, List.setIfInBounds_toArray, List.set_cons_zero, List.set_cons_succ]
          refine heldW 3 22 (.bool true) rfl rfl (by kernel_rfl) (by kernel_rfl) (by kernel_rfl) (fun _ _ _ h => h) (by rfl) hS0 (fun W hSW => ?_) ?_
          · (try dsimp only at hSW); (try obtain ⟨hSA, hSB, hSC, hSD⟩ := hSW); (try obtain ⟨hSA, hSB⟩ := hSW); go_simp <;> omega
          simp only [Act.put, List.setIfInBounds_toArray, List.set_cons_zero, List.set_cons_succ]
          refine heldW 4 23 (.bool true) rfl rfl (by kernel_rfl) (by kernel_rfl) (by kernel_rfl) (fun _ _ _ h => h) (by rfl) hS0 (fun W hSW => ?_) ?_
          · (try dsimp only at hSW); (try obtain ⟨hSA, hSB, hSC, hSD⟩ := hSW); (try obtain ⟨hSA, hSB⟩ := hSW); go_simp <;> omega
          simp only [Act.put, List.setIfInBounds_toArray, List.set_cons_zero, List.set_cons_succ]
          refine heldW 5 24 (.slice (some ⟨g2, 0, none⟩) Y.length c2) rfl rfl (by kernel_rfl) (by kernel_rfl) (by kernel_rfl) (fun _ _ _ h => h) (by rfl) hS0 (fun W hSW => ?_) ?_
          · (try dsimp only at hSW); (try obtain ⟨hSA, hSB, hSC, hSD⟩ := hSW); (try obtain ⟨hSA, hSB⟩ := hSW); go_simp <;> omega
          simp only [Act.put, List.setIfInBounds_toArray, List.set_cons_zero, List.set_cons_succ]
          refine heldW 6 25 (.int .i64 (k : Int)) rfl rfl (by kernel_rfl) (by kernel_rfl) (by kernel_rfl) (fun _ _ _ h => h) (by rfl) hS0 (fun W hSW => ?_) ?_
          · (try dsimp only at hSW); (try obtain ⟨hSA, hSB, hSC, hSD⟩ := hSW); (try obtain ⟨hSA, hSB⟩ := hSW); go_simp <;> omega
          simp only [Act.put, List.setIfInBounds_toArray, List.set_cons_zero, List.set_cons_succ]
          refine heldW 7 26 (.pointer (some ⟨g2, k * 2, none⟩)) rfl rfl (by kernel_rfl) (by kernel_rfl) (by kernel_rfl) (fun _ _ _ h => h) (by rfl) hS0 (fun W hSW => ?_) ?_
          · (try dsimp only at hSW); (try obtain ⟨hSA, hSB, hSC, hSD⟩ := hSW); (try obtain ⟨hSA, hSB⟩ := hSW); go_simp <;> omega
          simp only [Act.put, List.setIfInBounds_toArray, List.set_cons_zero, List.set_cons_succ]
          refine heldW 8 27 (.agg #[.int .i64 yk.1, .string ⟨yk.2.toArray⟩]) rfl rfl (by kernel_rfl) (by kernel_rfl) (by kernel_rfl) (fun _ _ _ h => h) (by rfl) hS0 (fun W hSW => ?_) ?_
          · (try dsimp only at hSW); (try obtain ⟨hSA, hSB, hSC, hSD⟩ := hSW); (try obtain ⟨hSA, hSB⟩ := hSW); go_simp <;> omega
          simp only [Act.put, List.setIfInBounds_toArray, List.set_cons_zero, List.set_cons_succ]
          refine heldW 9 28 (.slice (some ⟨g1, 0, none⟩) X.length c1) rfl rfl (by kernel_rfl) (by kernel_rfl) (by kernel_rfl) (fun _ _ _ h => h) (by rfl) hS0 (fun W hSW => ?_) ?_
          · (try dsimp only at hSW); (try obtain ⟨hSA, hSB, hSC, hSD⟩ := hSW); (try obtain ⟨hSA, hSB⟩ := hSW); go_simp <;> omega
          simp only [Act.put, List.setIfInBounds_toArray, List.set_cons_zero, List.set_cons_succ]
          refine heldW 10 29 (.int .i64 (i : Int)) rfl rfl (by kernel_rfl) (by kernel_rfl) (by kernel_rfl) (fun _ _ _ h => h) (by rfl) hS0 (fun W hSW => ?_) ?_
          · (try dsimp only at hSW); (try obtain ⟨hSA, hSB, hSC, hSD⟩ := hSW); (try obtain ⟨hSA, hSB⟩ := hSW); go_simp <;> omega
          simp only [Act.put, List.setIfInBounds_toArray, List.set_cons_zero, List.set_cons_succ]
          refine heldW 11 30 (.pointer (some ⟨g1, i * 2, none⟩)) rfl rfl (by kernel_rfl) (by kernel_rfl) (by kernel_rfl) (fun _ _ _ h => h) (by rfl) hS0 (fun W hSW => ?_) ?_
          · (try dsimp only at hSW); (try obtain ⟨hSA, hSB, hSC, hSD⟩ := hSW); (try obtain ⟨hSA, hSB⟩ := hSW); go_simp <;> omega
          simp only [Act.put, List.setIfInBounds_toArray, List.set_cons_zero, List.set_cons_succ]
          refine heldW 12 31 (.agg #[.int .i64 xi.1, .string ⟨xi.2.toArray⟩]) rfl rfl (by kernel_rfl) (by kernel_rfl) (by kernel_rfl) (fun _ _ _ h => h) (by rfl) hS0 (fun W hSW => ?_) ?_
          · (try dsimp only at hSW); (try obtain ⟨hSA, hSB, hSC, hSD⟩ := hSW); (try obtain ⟨hSA, hSB⟩ := hSW); go_simp <;> omega
          simp only [Act.put, List.setIfInBounds_toArray, List.set_cons_zero, List.set_cons_succ]
          refine wpAnyH_ready (rs := [13]) (by kernel_rfl) (by simp) (AllReadyH.cons rfl (fun K hK => ?_) AllReadyH.nil)
          rw [if_pos (by rfl)]
          go_simp
          (with_reducible refine (f3.out _).mono ?_); rintro e w3 ⟨rfl, hb3⟩
          have B3 : Below w2.heap.size w2 w3 := hbel.drew.trans (hb3.mono (by simp; omega))
          have u1 : w3.cell? ⟨g2, k * 2, none⟩ = some (.int .i64 yk.1) := (hb3.cell (p := ⟨g2, k * 2, none⟩) (by show g2 < _; simp; omega)).trans t1
          have u2 : w3.cell? ⟨g2, k * 2 + 1, none⟩ = some (.string ⟨yk.2.toArray⟩) := (hb3.cell (p := ⟨g2, k * 2 + 1, none⟩) (by show g2 < _; simp; omega)).trans t2
          have u3 : w3.cell? ⟨g1, i * 2, none⟩ = some (.int .i64 xi.1) := (hb3.cell (p := ⟨g1, i * 2, none⟩) (by show g1 < _; simp; omega)).trans t3
          have u4 : w3.cell? ⟨g1, i * 2 + 1, none⟩ = some (.string ⟨xi.2.toArray⟩) := (hb3.cell (p := ⟨g1, i * 2 + 1, none⟩) (by show g1 < _; simp; omega)).trans t4
          refine hK.out _ _ ⟨u1, u2, u3, u4⟩ (fun hS1 => ?_)
          clear hK K hS0 t1 t2 t3 t4 hb3
          try simp only [Act.put, List.setIfInBounds_toArray, List.set_cons_zero, List.set_cons_succ]
          refine heldW 14 33 (.bool c) rfl rfl (by kernel_rfl) (by kernel_rfl) (by kernel_rfl) (fun _ _ _ h => h) (by rfl) hS1 (fun W hSW => ?_) ?_
          · (try dsimp only at hSW); (try obtain ⟨hSA, hSB, hSC, hSD⟩ := hSW); (try obtain ⟨hSA, hSB⟩ := hSW); go_simp <;> omega
          simp only [Act.put, List.setIfInBounds_toArray, List.set_cons_zero, List.set_cons_succ]
          refine wpAnyH_done (by kernel_rfl) ?_ _
          clear hS1
          cases c
          · by_cases hyx : yk = xi
            · have HN2 := Lib.hid (HNx.out hyx)
              subst hyx
              clear HSk HNx HAp
              go_wp2
              refine wp_region_held_drew (S := (fun w' => w'.cell? ⟨g2, k * 2, none⟩ = some (.int .i64 yk.1) ∧ w'.cell? ⟨g2, k * 2 + 1, none⟩ = some (.string ⟨yk.2.toArray⟩) ∧ w'.cell? ⟨g1, i * 2, none⟩ = some (.int .i64 yk.1) ∧ w'.cell? ⟨g1, i * 2 + 1, none⟩ = some (.string ⟨yk.2.toArray⟩))) (by kernel_rfl) ⟨u1, u2, u3, u4⟩ (fun hS2 => ?_)
              refine heldW 0 36 (.int .i64 (k : Int)) rfl rfl (by kernel_rfl) (by kernel_rfl) (by kernel_rfl) (fun _ _ _ h => h) (by rfl) hS2 (fun W hSW => ?_) ?_
              · (try dsimp only at hSW); (try obtain ⟨hSA, hSB, hSC, hSD⟩ := hSW); (try obtain ⟨hSA, hSB⟩ := hSW); go_simp <;> omega
              simp only [Act.put, List.setIfInBounds_toArray, List.set_cons_zero, List.set_cons_succ]
              refine heldW 1 37 (.slice (some ⟨g2, 0, none⟩) Y.length c2) rfl rfl (by kernel_rfl) (by kernel_rfl) (by kernel_rfl) (fun _ _ _ h => h) (by rfl) hS2 (fun W hSW => ?_) ?_
              · (try dsimp only at hSW); (try obtain ⟨hSA, hSB, hSC, hSD⟩ := hSW); (try obtain ⟨hSA, hSB⟩ := hSW); go_simp <;> omega
              simp only [Act.put, List.setIfInBounds_toArray, List.set_cons_zero, List.set_cons_succ]
              refine heldW 2 38 (.int .i64 (Y.length : Int)) rfl rfl (by kernel_rfl) (by kernel_rfl) (by kernel_rfl) (fun _ _ _ h => h) (by rfl) hS2 (fun W hSW => ?_) ?_
              · (try dsimp only at hSW); (try obtain ⟨hSA, hSB, hSC, hSD⟩ := hSW); (try obtain ⟨hSA, hSB⟩ := hSW); go_simp <;> omega
              simp only [Act.put, List.setIfInBounds_toArray, List.set_cons_zero, List.set_cons_succ]
              refine heldW 3 39 (.bool false) rfl rfl (by kernel_rfl) (by kernel_rfl) (by kernel_rfl) (fun _ _ _ h => h) (by rfl) hS2 (fun W hSW => ?_) ?_
              · (try dsimp only at hSW); (try obtain ⟨hSA, hSB, hSC, hSD⟩ := hSW); (try obtain ⟨hSA, hSB⟩ := hSW); go_simp <;> omega
              simp only [Act.put, List.setIfInBounds_toArray, List.set_cons_zero, List.set_cons_succ]
              refine heldW 4 40 (.bool false) rfl rfl (by kernel_rfl) (by kernel_rfl) (by kernel_rfl) (fun _ _ _ h => h) (by rfl) hS2 (fun W hSW => ?_) ?_
              · (try dsimp only at hSW); (try obtain ⟨hSA, hSB, hSC, hSD⟩ := hSW); (try obtain ⟨hSA, hSB⟩ := hSW); go_simp <;> omega
              simp only [Act.put, List.setIfInBounds_toArray, List.set_cons_zero, List.set_cons_succ]
              refine heldW 5 41 (.slice (some ⟨g2, 0, none⟩) Y.length c2) rfl rfl (by kernel_rfl) (by kernel_rfl) (by kernel_rfl) (fun _ _ _ h => h) (by rfl) hS2 (fun W hSW => ?_) ?_
              · (try dsimp only at hSW); (try obtain ⟨hSA, hSB, hSC, hSD⟩ := hSW); (try obtain ⟨hSA, hSB⟩ := hSW); go_simp <;> omega
              simp only [Act.put, List.setIfInBounds_toArray, List.set_cons_zero, List.set_cons_succ]
              refine heldW 6 42 (.int .i64 (k : Int)) rfl rfl (by kernel_rfl) (by kernel_rfl) (by kernel_rfl) (fun _ _ _ h => h) (by rfl) hS2 (fun W hSW => ?_) ?_
              · (try dsimp only at hSW); (try obtain ⟨hSA, hSB, hSC, hSD⟩ := hSW); (try obtain ⟨hSA, hSB⟩ := hSW); go_simp <;> omega
              simp only [Act.put, List.setIfInBounds_toArray, List.set_cons_zero, List.set_cons_succ]
              refine heldW 7 43 (.pointer (some ⟨g2, k * 2, none⟩)) rfl rfl (by kernel_rfl) (by kernel_rfl) (by kernel_rfl) (fun _ _ _ h => h) (by rfl) hS2 (fun W hSW => ?_) ?_
              · (try dsimp only at hSW); (try obtain ⟨hSA, hSB, hSC, hSD⟩ := hSW); (try obtain ⟨hSA, hSB⟩ := hSW); go_simp <;> omega
              simp only [Act.put, List.setIfInBounds_toArray, List.set_cons_zero, List.set_cons_succ]
              refine heldW 8 44 (.agg #[.int .i64 yk.1, .string ⟨yk.2.toArray⟩]) rfl rfl (by kernel_rfl) (by kernel_rfl) (by kernel_rfl) (fun _ _ _ h => h) (by rfl) hS2 (fun W hSW => ?_) ?_
              · (try dsimp only at hSW); (try obtain ⟨hSA, hSB, hSC, hSD⟩ := hSW); (try obtain ⟨hSA, hSB⟩ := hSW); go_simp <;> omega
              simp only [Act.put, List.setIfInBounds_toArray, List.set_cons_zero, List.set_cons_succ]
              refine heldW 9 45 (.slice (some ⟨g1, 0, none⟩) X.length c1) rfl rfl (by kernel_rfl) (by kernel_rfl) (by kernel_rfl) (fun _ _ _ h => h) (by rfl) hS2 (fun W hSW => ?_) ?_
              · (try dsimp only at hSW); (try obtain ⟨hSA, hSB, hSC, hSD⟩ := hSW); (try obtain ⟨hSA, hSB⟩ := hSW); go_simp <;> omega
              simp only [Act.put, List.setIfInBounds_toArray, List.set_cons_zero, List.set_cons_succ]
              refine heldW 10 46 (.int .i64 (i : Int)) rfl rfl (by kernel_rfl) (by kernel_rfl) (by kernel_rfl) (fun _ _ _ h => h) (by rfl) hS2 (fun W hSW => ?_) ?_
              · (try dsimp only at hSW); (try obtain ⟨hSA, hSB, hSC, hSD⟩ := hSW); (try obtain ⟨hSA, hSB⟩ := hSW); go_simp <;> omega
              simp only [Act.put, List.setIfInBounds_toArray, List.set_cons_zero, List.set_cons_succ]
              refine heldW 11 47 (.pointer (some ⟨g1, i * 2, none⟩)) rfl rfl (by kernel_rfl) (by kernel_rfl) (by kernel_rfl) (fun _ _ _ h => h) (by rfl) hS2 (fun W hSW => ?_) ?_
              · (try dsimp only at hSW); (try obtain ⟨hSA, hSB, hSC, hSD⟩ := hSW); (try obtain ⟨hSA, hSB⟩ := hSW); go_simp <;> omega
              simp only [Act.put, List.setIfInBounds_toArray, List.set_cons_zero, List.set_cons_succ]
              refine heldW 12 48 (.agg #[.int .i64 yk.1, .string ⟨yk.2.toArray⟩]) rfl rfl (by kernel_rfl) (by kernel_rfl) (by kernel_rfl) (fun _ _ _ h => h) (by rfl) hS2 (fun W hSW => ?_) ?_
              · (try dsimp only at hSW); (try obtain ⟨hSA, hSB, hSC, hSD⟩ := hSW); (try obtain ⟨hSA, hSB⟩ := hSW); go_simp <;> omega
              simp only [Act.put, List.setIfInBounds_toArray, List.set_cons_zero, List.set_cons_succ]
              refine heldW 13 49 (.bool false) rfl rfl (by kernel_rfl) (by kernel_rfl) (by kernel_rfl) (fun _ _ _ h => h) (by rfl) hS2 (fun W hSW => ?_) ?_
              · (try dsimp only at hSW); (try obtain ⟨hSA, hSB, hSC, hSD⟩ := hSW); (try obtain ⟨hSA, hSB⟩ := hSW); go_simp <;> omega
              simp only [Act.put, List.setIfInBounds_toArray, List.set_cons_zero, List.set_cons_succ]
              refine heldW 14 50 (.bool false) rfl rfl (by kernel_rfl) (by kernel_rfl) (by kernel_rfl) (fun _ _ _ h => h) (by rfl) hS2 (fun W hSW => ?_) ?_
              · (try dsimp only at hSW); (try obtain ⟨hSA, hSB, hSC, hSD⟩ := hSW); (try obtain ⟨hSA, hSB⟩ := hSW); go_simp <;> omega
              simp only [Act.put, List.setIfInBounds_toArray, List.set_cons_zero, List.set_cons_succ]
              refine wpAnyH_done (by kernel_rfl) ?_ _
              go_wp2
              go_roundw
              case rel => exact ⟨i + 1, k, by omega, by omega, by go_num, rfl, B3.drew, HN2.out⟩
              case measure => simp [intOf]; omega
            · have HA2 := Lib.hid (HAp.out rfl hyx)
              have hne : (yk.1 == xi.1) = false ∨ ((yk.1 == xi.1) = true ∧ (yk.2 == xi.2) = false) := by
                by_cases e : yk.1 = xi.1
                · exact .inr ⟨by rw [beq_iff_eq]; exact e, by rw [beq_eq_false_iff_ne]; exact fun e2 => hyx (Prod.ext e e2)⟩
                · exact .inl (by rw [beq_eq_false_iff_ne]; exact e)
              clear HSk HNx HAp hyx
              go_wp2
              rcases hne with hne | ⟨hne, hne2⟩
              all_goals
                refine wp_region_held_drew (S := (fun w' => w'.cell? ⟨g2, k * 2, none⟩ = some (.int .i64 yk.1) ∧ w'.cell? ⟨g2, k * 2 + 1, none⟩ = some (.string ⟨yk.2.toArray⟩) ∧ w'.cell? ⟨g1, i * 2, none⟩ = some (.int .i64 xi.1) ∧ w'.cell? ⟨g1, i * 2 + 1, none⟩ = some (.string ⟨xi.2.toArray⟩))) (by kernel_rfl) ⟨u1, u2, u3, u4⟩ (fun hS2 => ?_)
                refine heldW 0 36 (.int .i64 (k : Int)) rfl rfl (by kernel_rfl) (by kernel_rfl) (by kernel_rfl) (fun _ _ _ h => h) (by rfl) hS2 (fun W hSW => ?_) ?_
                · (try dsimp only at hSW); (try obtain ⟨hSA, hSB, hSC, hSD⟩ := hSW); (try obtain ⟨hSA, hSB⟩ := hSW); go_simp <;> omega
                simp only [Act.put, List.setIfInBounds_toArray, List.set_cons_zero, List.set_cons_succ]
                refine heldW 1 37 (.slice (some ⟨g2, 0, none⟩) Y.length c2) rfl rfl (by kernel_rfl) (by kernel_rfl) (by kernel_rfl) (fun _ _ _ h => h) (by rfl) hS2 (fun W hSW => ?_) ?_
                · (try dsimp only at hSW); (try obtain ⟨hSA, hSB, hSC, hSD⟩ := hSW); (try obtain ⟨hSA, hSB⟩ := hSW); go_simp <;> omega
                simp only [Act.put, List.setIfInBounds_toArray, List.set_cons_zero, List.set_cons_succ]
                refine heldW 2 38 (.int .i64 (Y.length : Int)) rfl rfl (by kernel_rfl) (by kernel_rfl) (by kernel_rfl) (fun _ _ _ h => h) (by rfl) hS2 (fun W hSW => ?_) ?_
                · (try dsimp only at hSW); (try obtain ⟨hSA, hSB, hSC, hSD⟩ := hSW); (try obtain ⟨hSA, hSB⟩ := hSW); go_simp <;> omega
                simp only [Act.put, List.setIfInBounds_toArray, List.set_cons_zero, List.set_cons_succ]
                refine heldW 3 39 (.bool false) rfl rfl (by kernel_rfl) (by kernel_rfl) (by kernel_rfl) (fun _ _ _ h => h) (by rfl) hS2 (fun W hSW => ?_) ?_
                · (try dsimp only at hSW); (try obtain ⟨hSA, hSB, hSC, hSD⟩ := hSW); (try obtain ⟨hSA, hSB⟩ := hSW); go_simp <;> omega
                simp only [Act.put, List.setIfInBounds_toArray, List.set_cons_zero, List.set_cons_succ]
                refine heldW 4 40 (.bool false) rfl rfl (by kernel_rfl) (by kernel_rfl) (by kernel_rfl) (fun _ _ _ h => h) (by rfl) hS2 (fun W hSW => ?_) ?_
                · (try dsimp only at hSW); (try obtain ⟨hSA, hSB, hSC, hSD⟩ := hSW); (try obtain ⟨hSA, hSB⟩ := hSW); go_simp <;> omega
                simp only [Act.put, List.setIfInBounds_toArray, List.set_cons_zero, List.set_cons_succ]
                refine heldW 5 41 (.slice (some ⟨g2, 0, none⟩) Y.length c2) rfl rfl (by kernel_rfl) (by kernel_rfl) (by kernel_rfl) (fun _ _ _ h => h) (by rfl) hS2 (fun W hSW => ?_) ?_
                · (try dsimp only at hSW); (try obtain ⟨hSA, hSB, hSC, hSD⟩ := hSW); (try obtain ⟨hSA, hSB⟩ := hSW); go_simp <;> omega
                simp only [Act.put, List.setIfInBounds_toArray, List.set_cons_zero, List.set_cons_succ]
                refine heldW 6 42 (.int .i64 (k : Int)) rfl rfl (by kernel_rfl) (by kernel_rfl) (by kernel_rfl) (fun _ _ _ h => h) (by rfl) hS2 (fun W hSW => ?_) ?_
                · (try dsimp only at hSW); (try obtain ⟨hSA, hSB, hSC, hSD⟩ := hSW); (try obtain ⟨hSA, hSB⟩ := hSW); go_simp <;> omega
                simp only [Act.put, List.setIfInBounds_toArray, List.set_cons_zero, List.set_cons_succ]
                refine heldW 7 43 (.pointer (some ⟨g2, k * 2, none⟩)) rfl rfl (by kernel_rfl) (by kernel_rfl) (by kernel_rfl) (fun _ _ _ h => h) (by rfl) hS2 (fun W hSW => ?_) ?_
                · (try dsimp only at hSW); (try obtain ⟨hSA, hSB, hSC, hSD⟩ := hSW); (try obtain ⟨hSA, hSB⟩ := hSW); go_simp <;> omega
                simp only [Act.put, List.setIfInBounds_toArray, List.set_cons_zero, List.set_cons_succ]
                refine heldW 8 44 (.agg #[.int .i64 yk.1, .string ⟨yk.2.toArray⟩]) rfl rfl (by kernel_rfl) (by kernel_rfl) (by kernel_rfl) (fun _ _ _ h => h) (by rfl) hS2 (fun W hSW => ?_) ?_
                · (try dsimp only at hSW); (try obtain ⟨hSA, hSB, hSC, hSD⟩ := hSW); (try obtain ⟨hSA, hSB⟩ := hSW); go_simp <;> omega
                simp only [Act.put, List.setIfInBounds_toArray, List.set_cons_zero, List.set_cons_succ]
                refine heldW 9 45 (.slice (some ⟨g1, 0, none⟩) X.length c1) rfl rfl (by kernel_rfl) (by kernel_rfl) (by kernel_rfl) (fun _ _ _ h => h) (by rfl) hS2 (fun W hSW => ?_) ?_
                · (try dsimp only at hSW); (try obtain ⟨hSA, hSB, hSC, hSD⟩ := hSW); (try obtain ⟨hSA, hSB⟩ := hSW); go_simp <;> omega
                simp only [Act.put, List.setIfInBounds_toArray, List.set_cons_zero, List.set_cons_succ]
                refine heldW 10 46 (.int .i64 (i : Int)) rfl rfl (by kernel_rfl) (by kernel_rfl) (by kernel_rfl) (fun _ _ _ h => h) (by rfl) hS2 (fun W hSW => ?_) ?_
                · (try dsimp only at hSW); (try obtain ⟨hSA, hSB, hSC, hSD⟩ := hSW); (try obtain ⟨hSA, hSB⟩ := hSW); go_simp <;> omega
                simp only [Act.put, List.setIfInBounds_toArray, List.set_cons_zero, List.set_cons_succ]
                refine heldW 11 47 (.pointer (some ⟨g1, i * 2, none⟩)) rfl rfl (by kernel_rfl) (by kernel_rfl) (by kernel_rfl) (fun _ _ _ h => h) (by rfl) hS2 (fun W hSW => ?_) ?_
                · (try dsimp only at hSW); (try obtain ⟨hSA, hSB, hSC, hSD⟩ := hSW); (try obtain ⟨hSA, hSB⟩ := hSW); go_simp <;> omega
                simp only [Act.put, List.setIfInBounds_toArray, List.set_cons_zero, List.set_cons_succ]
                refine heldW 12 48 (.agg #[.int .i64 xi.1, .string ⟨xi.2.toArray⟩]) rfl rfl (by kernel_rfl) (by kernel_rfl) (by kernel_rfl) (fun _ _ _ h => h) (by rfl) hS2 (fun W hSW => ?_) ?_
                · (try dsimp only at hSW); (try obtain ⟨hSA, hSB, hSC, hSD⟩ := hSW); (try obtain ⟨hSA, hSB⟩ := hSW); go_simp <;> omega
                simp only [Act.put, List.setIfInBounds_toArray, List.set_cons_zero, List.set_cons_succ]
                refine heldW 13 49 (.bool true) rfl rfl (by kernel_rfl) (by kernel_rfl) (by kernel_rfl) (fun _ _ _ h => h) (by rfl) hS2 (fun W hSW => ?_) ?_
                · (try dsimp only at hSW); (try obtain ⟨hSA, hSB, hSC, hSD⟩ := hSW); (try obtain ⟨hSA, hSB⟩ := hSW); go_simp <;> omega
                simp only [Act.put, List.setIfInBounds_toArray, List.set_cons_zero, List.set_cons_succ]
                refine heldW 14 50 (.bool true) rfl rfl (by kernel_rfl) (by kernel_rfl) (by kernel_rfl) (fun _ _ _ h => h) (by rfl) hS2 (fun W hSW => ?_) ?_
                · (try dsimp only at hSW); (try obtain ⟨hSA, hSB, hSC, hSD⟩ := hSW); (try obtain ⟨hSA, hSB⟩ := hSW); go_simp <;> omega
                simp only [Act.put, List.setIfInBounds_toArray, List.set_cons_zero, List.set_cons_succ]
                refine wpAnyH_done (by kernel_rfl) ?_ _
                go_wp2
                go_ret
                rw [HA2.out]
                exact ⟨rfl, B2.trans (B3.drew.mono hz2)⟩
          · have HS2 := Lib.hid (HSk.out rfl)
            clear HSk HNx HAp
            go_wp2
            go_roundw
            case rel => exact ⟨k + 1, by omega, by go_num, B3, HS2.out⟩
            case measure => simp [intOf]; omega
        · have dk : decide ((k : Int) < (Y.length : Int)) = false := decide_eq_false (by omega)
          have dk2 : decide ((Y.length : Int) ≤ (k : Int)) = true := decide_eq_true (by omega)
          have HA2 := Lib.hid (HF.out i hi1 (HR.out.none hi1 hk1))
          clear HR
          go_wp2
          refine wp_region_held_drew (S := (fun _ => True)) (by kernel_rfl) trivial (fun hS0 => ?_)
          refine heldW 0 19 (.int .i64 (k : Int)) rfl rfl (by kernel_rfl) (by kernel_rfl) (by kernel_rfl) (fun _ _ _ h => h) (by rfl) hS0 (fun W hSW => ?_) ?_
          · (try dsimp only at hSW); (try obtain ⟨hSA, hSB, hSC, hSD⟩ := hSW); (try obtain ⟨hSA, hSB⟩ := hSW); go_simp <;> omega
          simp only [Act.put, List.setIfInBounds_toArray, List.set_cons_zero, List.set_cons_succ]
          refine heldW 1 20 (.slice a2 Y.length c2) rfl rfl (by kernel_rfl) (by kernel_rfl) (by kernel_rfl) (fun _ _ _ h => h) (by rfl) hS0 (fun W hSW => ?_) ?_
          · (try dsimp only at hSW); (try obtain ⟨hSA, hSB, hSC, hSD⟩ := hSW); (try obtain ⟨hSA, hSB⟩ := hSW); go_simp <;> omega
          simp only [Act.put, List.setIfInBounds_toArray, List.set_cons_zero, List.set_cons_succ]
          refine heldW 2 21 (.int .i64 (Y.length : Int)) rfl rfl (by kernel_rfl) (by kernel_rfl) (by kernel_rfl) (fun _ _ _ h => h) (by rfl) hS0 (fun W hSW => ?_) ?_
          · (try dsimp only at hSW); (try obtain ⟨hSA, hSB, hSC, hSD⟩ := hSW); (try obtain ⟨hSA, hSB⟩ := hSW); go_simp <;> omega
          simp only [Act.put, List.setIfInBounds_toArray, List.set_cons_zero, List.set_cons_succ]
          refine heldW 3 22 (.bool false) rfl rfl (by kernel_rfl) (by kernel_rfl) (by kernel_rfl) (fun _ _ _ h => h) (by rfl) hS0 (fun W hSW => ?_) ?_
          · (try dsimp only at hSW); (try obtain ⟨hSA, hSB, hSC, hSD⟩ := hSW); (try obtain ⟨hSA, hSB⟩ := hSW); go_simp <;> omega
          simp only [Act.put, List.setIfInBounds_toArray, List.set_cons_zero, List.set_cons_succ]
          refine heldW 4 23 (.bool false) rfl rfl (by kernel_rfl) (by kernel_rfl) (by kernel_rfl) (fun _ _ _ h => h) (by rfl) hS0 (fun W hSW => ?_) ?_
          · (try dsimp only at hSW); (try obtain ⟨hSA, hSB, hSC, hSD⟩ := hSW); (try obtain ⟨hSA, hSB⟩ := hSW); go_simp <;> omega
          simp only [Act.put, List.setIfInBounds_toArray, List.set_cons_zero, List.set_cons_succ]
          refine heldS 5 24 rfl rfl (by kernel_rfl) (by kernel_rfl) (by kernel_rfl) (fun _ _ _ h => h) (by rfl) hS0 ?_
          simp only [Act.put, List.setIfInBounds_toArray, List.set_cons_zero, List.set_cons_succ]
          refine heldS 6 25 rfl rfl (by kernel_rfl) (by kernel_rfl) (by kernel_rfl) (fun _ _ _ h => h) (by rfl) hS0 ?_
          simp only [Act.put, List.setIfInBounds_toArray, List.set_cons_zero, List.set_cons_succ]
          refine heldS 7 26 rfl rfl (by kernel_rfl) (by kernel_rfl) (by kernel_rfl) (fun _ _ _ h => h) (by rfl) hS0 ?_
          simp only [Act.put, List.setIfInBounds_toArray, List.set_cons_zero, List.set_cons_succ]
          refine heldS 8 27 rfl rfl (by kernel_rfl) (by kernel_rfl) (by kernel_rfl) (fun _ _ _ h => h) (by rfl) hS0 ?_
          simp only [Act.put, List.setIfInBounds_toArray, List.set_cons_zero, List.set_cons_succ]
          refine heldS 9 28 rfl rfl (by kernel_rfl) (by kernel_rfl) (by kernel_rfl) (fun _ _ _ h => h) (by rfl) hS0 ?_
          simp only [Act.put, List.setIfInBounds_toArray, List.set_cons_zero, List.set_cons_succ]
          refine heldS 10 29 rfl rfl (by kernel_rfl) (by kernel_rfl) (by kernel_rfl) (fun _ _ _ h => h) (by rfl) hS0 ?_
          simp only [Act.put, List.setIfInBounds_toArray, List.set_cons_zero, List.set_cons_succ]
          refine heldS 11 30 rfl rfl (by kernel_rfl) (by kernel_rfl) (by kernel_rfl) (fun _ _ _ h => h) (by rfl) hS0 ?_
          simp only [Act.put, List.setIfInBounds_toArray, List.set_cons_zero, List.set_cons_succ]
          refine heldS 12 31 rfl rfl (by kernel_rfl) (by kernel_rfl) (by kernel_rfl) (fun _ _ _ h => h) (by rfl) hS0 ?_
          simp only [Act.put, List.setIfInBounds_toArray, List.set_cons_zero, List.set_cons_succ]
          refine heldS 13 32 rfl rfl (by kernel_rfl) (by kernel_rfl) (by kernel_rfl) (fun _ _ _ h => h) (by rfl) hS0 ?_
          simp only [Act.put, List.setIfInBounds_toArray, List.set_cons_zero, List.set_cons_succ]
          refine heldW 14 33 (.bool false) rfl rfl (by kernel_rfl) (by kernel_rfl) (by kernel_rfl) (fun _ _ _ h => h) (by rfl) hS0 (fun W hSW => ?_) ?_
          · (try dsimp only at hSW); (try obtain ⟨hSA, hSB, hSC, hSD⟩ := hSW); (try obtain ⟨hSA, hSB⟩ := hSW); go_simp <;> omega
          simp only [Act.put, List.setIfInBounds_toArray, List.set_cons_zero, List.set_cons_succ]
          refine wpAnyH_done (by kernel_rfl) ?_ _
          go_wp2
          refine wp_region_held_drew (S := (fun _ => True)) (by kernel_rfl) trivial (fun hS1 => ?_)
          refine heldW 0 36 (.int .i64 (k : Int)) rfl rfl (by kernel_rfl) (by kernel_rfl) (by kernel_rfl) (fun _ _ _ h => h) (by rfl) hS1 (fun W hSW => ?_) ?_
          · (try dsimp only at hSW); (try obtain ⟨hSA, hSB, hSC, hSD⟩ := hSW); (try obtain ⟨hSA, hSB⟩ := hSW); go_simp <;> omega
          simp only [Act.put, List.setIfInBounds_toArray, List.set_cons_zero, List.set_cons_succ]
          refine heldW 1 37 (.slice a2 Y.length c2) rfl rfl (by kernel_rfl) (by kernel_rfl) (by kernel_rfl) (fun _ _ _ h => h) (by rfl) hS1 (fun W hSW => ?_) ?_
          · (try dsimp only at hSW); (try obtain ⟨hSA, hSB, hSC, hSD⟩ := hSW); (try obtain ⟨hSA, hSB⟩ := hSW); go_simp <;> omega
          simp only [Act.put, List.setIfInBounds_toArray, List.set_cons_zero, List.set_cons_succ]
          refine heldW 2 38 (.int .i64 (Y.length : Int)) rfl rfl (by kernel_rfl) (by kernel_rfl) (by kernel_rfl) (fun _ _ _ h => h) (by rfl) hS1 (fun W hSW => ?_) ?_
          · (try dsimp only at hSW); (try obtain ⟨hSA, hSB, hSC, hSD⟩ := hSW); (try obtain ⟨hSA, hSB⟩ := hSW); go_simp <;> omega
          simp only [Act.put, List.setIfInBounds_toArray, List.set_cons_zero, List.set_cons_succ]
          refine heldW 3 39 (.bool true) rfl rfl (by kernel_rfl) (by kernel_rfl) (by kernel_rfl) (fun _ _ _ h => h) (by rfl) hS1 (fun W hSW => ?_) ?_
          · (try dsimp only at hSW); (try obtain ⟨hSA, hSB, hSC, hSD⟩ := hSW); (try obtain ⟨hSA, hSB⟩ := hSW); go_simp <;> omega
          simp only [Act.put, List.setIfInBounds_toArray, List.set_cons_zero, List.set_cons_succ]
          refine heldW 4 40 (.bool true) rfl rfl (by kernel_rfl) (by kernel_rfl) (by kernel_rfl) (fun _ _ _ h => h) (by rfl) hS1 (fun W hSW => ?_) ?_
          · (try dsimp only at hSW); (try obtain ⟨hSA, hSB, hSC, hSD⟩ := hSW); (try obtain ⟨hSA, hSB⟩ := hSW); go_simp <;> omega
          simp only [Act.put, List.setIfInBounds_toArray, List.set_cons_zero, List.set_cons_succ]
          refine heldS 5 41 rfl rfl (by kernel_rfl) (by kernel_rfl) (by kernel_rfl) (fun _ _ _ h => h) (by rfl) hS1 ?_
          simp only [Act.put, List.setIfInBounds_toArray, List.set_cons_zero, List.set_cons_succ]
          refine heldS 6 42 rfl rfl (by kernel_rfl) (by kernel_rfl) (by kernel_rfl) (fun _ _ _ h => h) (by rfl) hS1 ?_
          simp only [Act.put, List.setIfInBounds_toArray, List.set_cons_zero, List.set_cons_succ]
          refine heldS 7 43 rfl rfl (by kernel_rfl) (by kernel_rfl) (by kernel_rfl) (fun _ _ _ h => h) (by rfl) hS1 ?_
          simp only [Act.put, List.setIfInBounds_toArray, List.set_cons_zero, List.set_cons_succ]
          refine heldS 8 44 rfl rfl (by kernel_rfl) (by kernel_rfl) (by kernel_rfl) (fun _ _ _ h => h) (by rfl) hS1 ?_
          simp only [Act.put, List.setIfInBounds_toArray, List.set_cons_zero, List.set_cons_succ]
          refine heldS 9 45 rfl rfl (by kernel_rfl) (by kernel_rfl) (by kernel_rfl) (fun _ _ _ h => h) (by rfl) hS1 ?_
          simp only [Act.put, List.setIfInBounds_toArray, List.set_cons_zero, List.set_cons_succ]
          refine heldS 10 46 rfl rfl (by kernel_rfl) (by kernel_rfl) (by kernel_rfl) (fun _ _ _ h => h) (by rfl) hS1 ?_
          simp only [Act.put, List.setIfInBounds_toArray, List.set_cons_zero, List.set_cons_succ]
          refine heldS 11 47 rfl rfl (by kernel_rfl) (by kernel_rfl) (by kernel_rfl) (fun _ _ _ h => h) (by rfl) hS1 ?_
          simp only [Act.put, List.setIfInBounds_toArray, List.set_cons_zero, List.set_cons_succ]
          refine heldS 12 48 rfl rfl (by kernel_rfl) (by kernel_rfl) (by kernel_rfl) (fun _ _ _ h => h) (by rfl) hS1 ?_
          simp only [Act.put, List.setIfInBounds_toArray, List.set_cons_zero, List.set_cons_succ]
          refine heldS 13 49 rfl rfl (by kernel_rfl) (by kernel_rfl) (by kernel_rfl) (fun _ _ _ h => h) (by rfl) hS1 ?_
          simp only [Act.put, List.setIfInBounds_toArray, List.set_cons_zero, List.set_cons_succ]
          refine heldW 14 50 (.bool true) rfl rfl (by kernel_rfl) (by kernel_rfl) (by kernel_rfl) (fun _ _ _ h => h) (by rfl) hS1 (fun W hSW => ?_) ?_
          · (try dsimp only at hSW); (try obtain ⟨hSA, hSB, hSC, hSD⟩ := hSW); (try obtain ⟨hSA, hSB⟩ := hSW); go_simp <;> omega
          simp only [Act.put, List.setIfInBounds_toArray, List.set_cons_zero, List.set_cons_succ]
          refine wpAnyH_done (by kernel_rfl) ?_ _
          go_wp2
          go_ret
          rw [HA2.out]
          exact ⟨rfl, B2.trans (hbel.drew.drew.mono hz2)⟩
    · obtain rfl : i = X.length := by omega
      have da : decide ((X.length : Int) < (X.length : Int)) = false := decide_eq_false (by omega)
      have HT2 := Lib.hid (HT.out k0 HR0.out)
      clear HX HY HR0 HT HF
      go_wp2
      go_ret
      rw [HT2.out]
      exact ⟨rfl, B2.trans (hbel0.mono hz2)⟩
end Go.Proofs.Ytlaoioicefohiaa
