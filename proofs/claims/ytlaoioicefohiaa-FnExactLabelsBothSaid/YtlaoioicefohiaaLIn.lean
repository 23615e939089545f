/-
  The contract of spec.LabelIn.
-/
import Derived.Test.YtlaoioicefohiaaRowsL
namespace Go.Proofs.Ytlaoioicefohiaa
set_option maxRecDepth 100000
open Go.ChangeShapes Go.WideShapes Go.ChangeAt Go.RowKit
set_option linter.unusedSimpArgs false

def inLb (l : List Lbl) (y : Lbl) : Bool := decide (y ∈ l)
theorem inLb_at {l : List Lbl} {y : Lbl} {k : Nat} (h : k < l.length) (he : l[k] = y) : inLb l y = true := by
  simp only [inLb, decide_eq_true_eq]
  rw [← he]
  exact List.getElem_mem h
theorem inLb_succ {l : List Lbl} {y : Lbl} {k : Nat} (h : k < l.length) (h0 : inLb (l.take k) y = false) (he : l[k] ≠ y) : inLb (l.take (k + 1)) y = false := by
  simp only [inLb, decide_eq_false_iff_not] at h0 ⊢
  rw [List.take_succ_eq_append_getElem h, List.mem_append]
  rintro (h1 | h1)
  · exact h0 h1
  · exact he (List.mem_singleton.1 h1).symm
theorem own_nil_orL {w : World} {b n : Nat} {v : Value} {xs : List Value} (h : w.ownsRow b 31 2 v n xs) (h0 : n = 0) : ∃ a cap, v = .slice a 0 cap := by
  subst h0
  rcases h.2 with ⟨rfl, _⟩ | ⟨g, cap, cur, rfl, _⟩
  · exact ⟨_, _, rfl⟩
  · exact ⟨_, _, rfl⟩

set_option maxHeartbeats 1000000 in
theorem specLabelIn {w : World} {b : Nat} {v : Value} {l : List Lbl} (h : w.ownsRow b 31 2 v l.length (flat l)) (kd : Int) (nm : List UInt8) (hn : l.length ≤ 10000000) :
    Calls Try.prog 38 #[v, .agg #[.int .i64 kd, .string ⟨nm.toArray⟩]] w fun e w' => e = .returned (.bool (inLb l (kd, nm))) ∧ Below w.heap.size w w' := by
  have B0 : ∀ o, Below w.heap.size w (w.alloc o) := fun o => (Below.refl _ _).alloc (Nat.le_refl _) o
  rcases Nat.eq_zero_or_pos l.length with h0 | hp
  · obtain ⟨a, cap, rfl⟩ := own_nil_orL h h0
    obtain rfl : l = [] := List.length_eq_zero_iff.1 h0
    clear h h0 hn
    go_enter Try.func38, Try.ntmps38
    go_wp2
    refine wp_loop_rounds 1 ?_
    rw [rounds_succ]
    go_wp2
    go_ret
    exact ⟨rfl, B0 _⟩
  · obtain ⟨g, cap, rfl, _, hgl⟩ := h.form hp
    have n0 : (w.alloc (.cells #[.int .i64 kd, .string ⟨nm.toArray⟩] 31)).cell? ⟨w.heap.size, 0, none⟩ = some (.int .i64 kd) := World.news_of_block (cs := #[.int .i64 kd, .string ⟨nm.toArray⟩]) (t := 31) (fr := (0, 0)) (heap_alloc_new w _) 0 _ rfl
    have n1 : (w.alloc (.cells #[.int .i64 kd, .string ⟨nm.toArray⟩] 31)).cell? ⟨w.heap.size, 1, none⟩ = some (.string ⟨nm.toArray⟩) := World.news_of_block (cs := #[.int .i64 kd, .string ⟨nm.toArray⟩]) (t := 31) (fr := (0, 0)) (heap_alloc_new w _) 1 _ rfl
    have BA := B0 (.cells #[.int .i64 kd, .string ⟨nm.toArray⟩] 31)
    go_enter Try.func38, Try.ntmps38
    go_wp2
    generalize w.alloc (.cells #[.int .i64 kd, .string ⟨nm.toArray⟩] 31) = wa at n0 n1 BA
    go_loopw [5] (fun i wr => ∃ k q : Nat, k ≤ l.length ∧ i = .int .i64 k ∧ wr = wa.drewN q ∧ Hid (inLb (l.take k) (kd, nm) = false)) (fun i _ => l.length - (intOf i).toNat)
    case atStart => exact ⟨0, 0, Nat.zero_le _, rfl, rfl, by simp [Hid, inLb]⟩
    case round =>
      obtain ⟨k, q, hk, rfl, rfl, HA⟩ := hrel
      by_cases hlt : k < l.length
      · obtain ⟨fa, fb⟩ := flat_at hlt
        have x1 := (BA.cell (p := ⟨g, k * 2, none⟩) hgl).trans ((h.cellAt (k * 2) (by omega)).trans fa)
        have y1 := (BA.cell (p := ⟨g, k * 2 + 1, none⟩) hgl).trans ((h.cellAt (k * 2 + 1) (by omega)).trans fb)
        have HY := Lib.hid fun he => inLb_at (y := (kd, nm)) hlt he
        have HN := Lib.hid fun he => inLb_succ (y := (kd, nm)) hlt HA.out he
        clear fa fb h HA
        generalize l[k] = lk at x1 y1 HY HN
        obtain ⟨k1, n1'⟩ := lk
        unfold sv at y1
        simp only at x1 y1
        have q1 : (0 : Int) ≤ (k : Int) := by omega
        have q2 : (k : Int) < (l.length : Int) := by omega
        by_cases h1 : k1 = kd
        · subst h1
          by_cases h2 : n1' = nm
          · subst h2
            have HR := Lib.hid (HY.out rfl)
            clear HY HN
            go_wp2
            go_quiet (fail)
            go_wp2
            go_ret
            rw [HR.out]
            exact ⟨rfl, below_drewN (below_drewN BA _) _⟩
          · have HR := Lib.hid (HN.out (by intro e; exact h2 (Prod.mk.inj e).2))
            have hb : (n1' == nm) = false := by rw [beq_eq_false_iff_ne]; exact h2
            clear HY HN
            go_wp2
            go_quiet (fail)
            go_wp2
            go_roundw
            case rel => exact ⟨k + 1, q + nq, by omega, by go_num, rfl, HR.out⟩
            case measure => simp [intOf]; omega
        · have HR := Lib.hid (HN.out (by intro e; exact h1 (Prod.mk.inj e).1))
          have hb : (k1 == kd) = false := by rw [beq_eq_false_iff_ne]; exact h1
          clear HY HN
          go_wp2
          go_quiet (fail)
          go_wp2
          go_roundw
          case rel => exact ⟨k + 1, q + nq, by omega, by go_num, rfl, HR.out⟩
          case measure => simp [intOf]; omega
      · obtain rfl : k = l.length := by omega
        have HR := HA.out
        rw [List.take_length] at HR
        have HR2 := Lib.hid HR
        clear h HA HR
        go_wp2
        go_ret
        rw [HR2.out]
        exact ⟨rfl, below_drewN BA _⟩
end Go.Proofs.Ytlaoioicefohiaa
