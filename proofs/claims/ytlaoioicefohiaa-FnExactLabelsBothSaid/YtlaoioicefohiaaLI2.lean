/-
  Contracts of slices.Index and slices.Contains at labels, of impl.LabelIn and impl.LabelsWithin.
-/
import Derived.Test.YtlaoioicefohiaaLIn
namespace Go.Proofs.Ytlaoioicefohiaa
set_option maxRecDepth 100000
open Go.ChangeShapes Go.WideShapes Go.ChangeAt Go.RowKit
set_option linter.unusedSimpArgs false

def IdxPost (l : List Lbl) (y : Lbl) (w : World) (e : Ending) (w' : World) : Prop :=
  ∃ r : Int, e = .returned (.int .i64 r) ∧ decide (0 ≤ r) = inLb l y ∧ Below w.heap.size w w'

set_option maxHeartbeats 1000000 in
theorem indexL {w : World} {b : Nat} {v : Value} {l : List Lbl} (h : w.ownsRow b 31 2 v l.length (flat l)) (kd : Int) (nm : List UInt8) (hn : l.length ≤ 10000000) :
    Calls Try.prog 73 #[v, .agg #[.int .i64 kd, .string ⟨nm.toArray⟩]] w (IdxPost l (kd, nm) w) := by
  have B0 : ∀ o, Below w.heap.size w (w.alloc o) := fun o => (Below.refl _ _).alloc (Nat.le_refl _) o
  rcases Nat.eq_zero_or_pos l.length with h0 | hp
  · obtain ⟨a, cap, rfl⟩ := own_nil_orL h h0
    obtain rfl : l = [] := List.length_eq_zero_iff.1 h0
    clear h h0 hn
    go_enter Try.func73, Try.ntmps73
    go_wp2
    refine wp_loop_rounds 1 ?_
    rw [rounds_succ]
    go_wp2
    go_ret
    exact ⟨_, rfl, rfl, B0 _⟩
  · obtain ⟨g, cap, rfl, _, hgl⟩ := h.form hp
    have n0 : (w.alloc (.cells #[.int .i64 kd, .string ⟨nm.toArray⟩] 31)).cell? ⟨w.heap.size, 0, none⟩ = some (.int .i64 kd) := World.news_of_block (cs := #[.int .i64 kd, .string ⟨nm.toArray⟩]) (t := 31) (fr := (0, 0)) (heap_alloc_new w _) 0 _ rfl
    have n1 : (w.alloc (.cells #[.int .i64 kd, .string ⟨nm.toArray⟩] 31)).cell? ⟨w.heap.size, 1, none⟩ = some (.string ⟨nm.toArray⟩) := World.news_of_block (cs := #[.int .i64 kd, .string ⟨nm.toArray⟩]) (t := 31) (fr := (0, 0)) (heap_alloc_new w _) 1 _ rfl
    have BA := B0 (.cells #[.int .i64 kd, .string ⟨nm.toArray⟩] 31)
    go_enter Try.func73, Try.ntmps73
    go_wp2
    generalize w.alloc (.cells #[.int .i64 kd, .string ⟨nm.toArray⟩] 31) = wa at n0 n1 BA
    go_loopw [8] (fun i wr => ∃ k q : Nat, k ≤ l.length ∧ i = .int .i64 k ∧ wr = wa.drewN q ∧ Hid (inLb (l.take k) (kd, nm) = false)) (fun i _ => l.length - (intOf i).toNat)
    case atStart => exact ⟨0, 0, Nat.zero_le _, rfl, rfl, by simp [Hid, inLb]⟩
    case round =>
      obtain ⟨k, q, hk, rfl, rfl, HA⟩ := hrel
      by_cases hlt : k < l.length
      · obtain ⟨fa, fb⟩ := flat_at hlt
        have x1 := (BA.cell (p := ⟨g, k * 2, none⟩) hgl).trans ((h.cellAt (k * 2) (by omega)).trans fa)
        have y1 := (BA.cell (p := ⟨g, k * 2 + 1, none⟩) hgl).trans ((h.cellAt (k * 2 + 1) (by omega)).trans fb)
        have HY := Lib.hid fun he => inLb_at (y := (kd, nm)) hlt he
        have HN := Lib.hid fun he => inLb_succ (y := (kd, nm)) hlt HA.out he
        clear fa fb h HA
        generalize l[k] = lk at x1 y1 HY HN
        obtain ⟨k1, n1'⟩ := lk
        unfold sv at y1
        simp only at x1 y1
        have q1 : (0 : Int) ≤ (k : Int) := by omega
        have q2 : (k : Int) < (l.length : Int) := by omega
        by_cases h1 : kd = k1
        · subst h1
          by_cases h2 : nm = n1'
          · subst h2
            have HR := Lib.hid (HY.out rfl)
            clear HY HN
            go_wp2
            go_quiet (fail)
            go_wp2
            go_ret
            refine ⟨_, rfl, ?_, below_drewN (below_drewN BA _) _⟩
            rw [HR.out]
            exact decide_eq_true q1
          · have HR := Lib.hid (HN.out (by intro e; exact h2 (Prod.mk.inj e).2.symm))
            have hb : (nm == n1') = false := by rw [beq_eq_false_iff_ne]; exact h2
            clear HY HN
            go_wp2
            go_quiet (fail)
            go_wp2
            go_roundw
            case rel => exact ⟨k + 1, q + nq, by omega, by go_num, rfl, HR.out⟩
            case measure => simp [intOf]; omega
        · have HR := Lib.hid (HN.out (by intro e; exact h1 (Prod.mk.inj e).1.symm))
          have hb : (kd == k1) = false := by rw [beq_eq_false_iff_ne]; exact h1
          clear HY HN
          go_wp2
          go_quiet (fail)
          go_wp2
          go_roundw
          case rel => exact ⟨k + 1, q + nq, by omega, by go_num, rfl, HR.out⟩
          case measure => simp [intOf]; omega
      · obtain rfl : k = l.length := by omega
        rw [List.take_length] at HA
        clear h
        go_wp2
        go_ret
        refine ⟨_, rfl, ?_, below_drewN BA _⟩
        rw [HA.out]
        rfl

theorem boxedL {w : World} {k : Int} {n : List UInt8} : ∀ W, Below (w.alloc (.cells #[.int .i64 k, .string ⟨n.toArray⟩] 31)).heap.size (w.alloc (.cells #[.int .i64 k, .string ⟨n.toArray⟩] 31)) W → W.cell? ⟨w.heap.size, 0, none⟩ = some (.int .i64 k) ∧ W.cell? ⟨w.heap.size, 1, none⟩ = some (.string ⟨n.toArray⟩) := fun W hb =>
  ⟨(hb.cell (p := ⟨w.heap.size, 0, none⟩) (by simp)).trans (World.news_of_block (cs := #[.int .i64 k, .string ⟨n.toArray⟩]) (t := 31) (fr := (0, 0)) (heap_alloc_new w _) 0 _ rfl),
   (hb.cell (p := ⟨w.heap.size, 1, none⟩) (by simp)).trans (World.news_of_block (cs := #[.int .i64 k, .string ⟨n.toArray⟩]) (t := 31) (fr := (0, 0)) (heap_alloc_new w _) 1 _ rfl)⟩

theorem containsL {w : World} {b : Nat} {v : Value} {l : List Lbl} (h : w.ownsRow b 31 2 v l.length (flat l)) (kd : Int) (nm : List UInt8) (hn : l.length ≤ 10000000) :
    Calls Try.prog 58 #[v, .agg #[.int .i64 kd, .string ⟨nm.toArray⟩]] w fun e w' => e = .returned (.bool (inLb l (kd, nm))) ∧ Below w.heap.size w w' := by
  have B0 : Below w.heap.size w (w.alloc (.cells #[.int .i64 kd, .string ⟨nm.toArray⟩] 31)) := (Below.refl _ _).alloc (Nat.le_refl _) _
  have f1 := Lib.hid (indexL (own_below h B0) kd nm hn)
  clear h
  go_enter Try.func58, Try.ntmps58
  go_wp2_with fail
  (with_reducible refine (f1.out).mono ?_); rintro e w1 ⟨r, rfl, hr, hb1⟩
  go_wp2
  go_ret
  exact ⟨by rw [← hr]; rfl, B0.trans (hb1.mono (by simp))⟩

theorem implLabelIn {w : World} {b : Nat} {v : Value} {l : List Lbl} (h : w.ownsRow b 31 2 v l.length (flat l)) (kd : Int) (nm : List UInt8) (hn : l.length ≤ 10000000) :
    Calls Try.prog 39 #[v, .agg #[.int .i64 kd, .string ⟨nm.toArray⟩]] w fun e w' => e = .returned (.bool (inLb l (kd, nm))) ∧ Below w.heap.size w w' := by
  have B0 : Below w.heap.size w (w.alloc (.cells #[.int .i64 kd, .string ⟨nm.toArray⟩] 31)) := (Below.refl _ _).alloc (Nat.le_refl _) _
  have f1 := Lib.hid (containsL (own_below h B0) kd nm hn)
  clear h
  go_enter Try.func39, Try.ntmps39
  go_wp2_with fail
  (with_reducible refine (f1.out).mono ?_); rintro e w1 ⟨rfl, hb1⟩
  go_wp2
  go_ret
  exact ⟨rfl, B0.trans (hb1.mono (by simp))⟩
end Go.Proofs.Ytlaoioicefohiaa
