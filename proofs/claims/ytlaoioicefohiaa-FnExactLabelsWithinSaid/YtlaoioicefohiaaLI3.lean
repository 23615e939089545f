/-
  The contract of impl.LabelsWithin.
-/
import Derived.Test.YtlaoioicefohiaaLI2
import Derived.Test.YtlaoioicefohiaaLWithin
namespace Go.Proofs.Ytlaoioicefohiaa
set_option maxRecDepth 100000
open Go.ChangeShapes Go.WideShapes Go.ChangeAt Go.RowKit
set_option linter.unusedSimpArgs false

set_option maxHeartbeats 1000000 in
theorem implLabelsWithin {w : World} {b1 b2 : Nat} {v1 v2 : Value} {a b : List Lbl} (h1 : w.ownsRow b1 31 2 v1 a.length (flat a)) (h2 : w.ownsRow b2 31 2 v2 b.length (flat b)) (ha : a.length ≤ 10000000) (hb : b.length ≤ 10000000) :
    Calls Try.prog 37 #[v1, v2] w fun e w' => e = .returned (.bool (withinL a b)) ∧ Below w.heap.size w w' := by
  rcases Nat.eq_zero_or_pos a.length with h0 | hp
  · obtain ⟨q, cap, rfl⟩ := own_nil_orL h1 h0
    obtain rfl : a = [] := List.length_eq_zero_iff.1 h0
    clear h1 h2 h0 ha hb
    go_enter Try.func37, Try.ntmps37
    go_wp2
    refine wp_loop_rounds 1 ?_
    rw [rounds_succ]
    go_wp2
    go_ret
    exact ⟨rfl, Below.refl _ _⟩
  · obtain ⟨g, cap, rfl, _, hgl⟩ := h1.form hp
    go_enter Try.func37, Try.ntmps37
    go_wp2
    go_loopw [9] (fun i wr => ∃ k : Nat, k ≤ a.length ∧ i = .int .i64 k ∧ Below w.heap.size w wr ∧ Hid (∀ j (hj : j < a.length), j < k → a[j] ∈ b)) (fun i _ => a.length - (intOf i).toNat)
    case atStart => exact ⟨0, Nat.zero_le _, rfl, Below.refl _ _, fun j _ h => by omega⟩
    case round =>
      obtain ⟨k, hk, rfl, hbel, HA⟩ := hrel
      have hz := hbel.size
      by_cases hlt : k < a.length
      · obtain ⟨fa, fb⟩ := flat_at hlt
        have x1 := (hbel.cell (p := ⟨g, k * 2, none⟩) hgl).trans ((h1.cellAt (k * 2) (by omega)).trans fa)
        have y1 := (hbel.cell (p := ⟨g, k * 2 + 1, none⟩) hgl).trans ((h1.cellAt (k * 2 + 1) (by omega)).trans fb)
        have HX := Lib.hid (List.getElem_mem hlt)
        have HK := Lib.hid (show ∀ x, a[k] = x → x ∈ b → ∀ j (hj : j < a.length), j < k + 1 → a[j] ∈ b from fun x he hm j hj hjk => if e : j = k then by subst e; rw [he]; exact hm else HA.out j hj (by omega))
        have HV := Lib.hid (own_below h2 hbel)
        have q1 : (0 : Int) ≤ (k : Int) := by omega
        have q2 : (k : Int) < (a.length : Int) := by omega
        have HE := Lib.hid (rfl : a[k] = a[k])
        clear fa fb h1 h2 HA
        generalize hlk : a[k] = lk at x1 y1 HX
        rw [hlk] at HE HK
        clear hlk
        obtain ⟨kd, nm⟩ := lk
        have HK2 := Lib.hid (HK.out (kd, nm) rfl)
        clear HK HE
        unfold sv at y1
        simp only at x1 y1
        have f1 := Lib.hid fun W (hW : Below wr.heap.size wr W) => implLabelIn (own_below HV.out hW) kd nm hb
        have HR : Hid (inLb b (kd, nm) = false → withinL a b = false) := fun hf => by
          rw [Bool.eq_false_iff]
          intro h3
          have := List.all_eq_true.1 h3 _ HX.out
          rw [inLb] at hf
          rw [this] at hf
          cases hf
        have HI : Hid (inLb b (kd, nm) = true → (kd, nm) ∈ b) := fun hf => by simpa [inLb] using hf
        generalize inLb b (kd, nm) = r at f1 HR HI
        have B0 : ∀ o, Below wr.heap.size wr (wr.alloc o) := fun o => (Below.refl _ _).alloc (Nat.le_refl _) o
        cases r
        · go_wp2_with fail
          (with_reducible refine (f1.out _ (B0 _)).mono ?_); rintro e w1 ⟨rfl, hb1⟩
          have B1 := (hbel.trans ((B0 _).mono hz)).trans (hb1.mono (by simp; omega))
          go_wp2
          go_ret
          rw [HR.out trivial]
          exact ⟨rfl, B1⟩
        · go_wp2_with fail
          (with_reducible refine (f1.out _ (B0 _)).mono ?_); rintro e w1 ⟨rfl, hb1⟩
          have B1 := (hbel.trans ((B0 _).mono hz)).trans (hb1.mono (by simp; omega))
          go_wp2
          go_roundw
          case rel => exact ⟨k + 1, by omega, by go_num, B1, HK2.out (HI.out trivial)⟩
          case measure => simp [intOf]; omega
      · obtain rfl : k = a.length := by omega
        have HT : Hid (withinL a b = true) := List.all_eq_true.2 fun z hz => by
          obtain ⟨j, hj, e⟩ := List.getElem_of_mem hz
          have := HA.out j hj hj
          rw [e] at this
          simpa using this
        clear h1 h2 HA
        go_wp2
        go_ret
        rw [HT.out]
        exact ⟨rfl, hbel⟩
end Go.Proofs.Ytlaoioicefohiaa
