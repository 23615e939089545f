/-
  The contract of impl.NamesOk: whether a list consists of names and rises strictly.
-/
import Derived.Test.YtanhnicfkghkbaaDoorInS
import Derived.Test.YtanhnicfkghkbaaDoorNsMath
import Derived.Test.YtanhnicfkghkbaaDoorNWalks2
import Derived.Laws.Cover1
import Derived.Sort.Walk0
namespace Go.Proofs.YtanhnicfkghkbaaDoor
set_option maxRecDepth 100000
open Go.ChangeShapes Go.WideShapes Go.ChangeAt Go.RowKit

set_option maxHeartbeats 1000000 in
theorem implNamesOk {w : World} {b : Nat} {v : Value} {l : List (List UInt8)} (h : w.ownsRow b 9 1 v l.length (l.map sv)) (hn : l.length ≤ 1048576) (hx : ∀ x ∈ l, x.length ≤ maxLen) :
    Calls Tryd.prog 10 #[v] w fun e w' => e = .returned (.bool (namesOk l)) ∧ Below w.heap.size w w' := by
  rcases Nat.eq_zero_or_pos l.length with h0 | hp
  · obtain ⟨a, cap, rfl⟩ := own_nil_or h h0
    obtain rfl : l = [] := List.length_eq_zero_iff.1 h0
    clear h h0 hn
    go_enter Tryd.func10, Tryd.ntmps10
    go_wp2
    refine wp_loop_rounds 1 ?_
    rw [rounds_succ]
    go_wp2
    go_ret
    exact ⟨rfl, Below.refl _ _⟩
  · obtain ⟨g, cap, rfl, _, hgl⟩ := h.form hp
    go_enter Tryd.func10, Tryd.ntmps10
    go_wp2
    go_loopw [7] (fun i wr => ∃ k : Nat, k ≤ l.length ∧ i = .int .i64 k ∧ Below w.heap.size w wr ∧ Hid (∀ j, j < k → okAt l j = true)) (fun i _ => l.length - (intOf i).toNat)
    case atStart => exact ⟨0, Nat.zero_le _, rfl, Below.refl _ _, by simp [Hid]⟩
    case round =>
      obtain ⟨k, hk, rfl, hbel, HA⟩ := hrel
      by_cases hlt : k < l.length
      · have cc := h.cellAt k (by omega)
        have ex : (l.map sv)[k]? = some (sv l[k]) := by simp [hlt]
        rw [ex] at cc
        unfold sv at cc
        have cr := (hbel.cell (p := ⟨g, k, none⟩) hgl).trans cc
        have q1 : (0 : Int) ≤ (k : Int) := by omega
        have q2 : (k : Int) < (l.length : Int) := by omega
        have f1 := Lib.hid fun W => implNameOk ⟨l[k].toArray⟩ W (by rw [size_sv]; exact hx _ (List.getElem_mem hlt))
        simp only at f1
        by_cases hN : nameOk l[k] = true
        · rw [hN] at f1
          rcases Nat.eq_zero_or_pos k with hk0 | hkp
          · have HR := Lib.hid (show ∀ j, j < k + 1 → okAt l j = true by
              intro j hj
              obtain rfl : j = 0 := by omega
              subst hk0
              exact okAt_zero hlt hN)
            have q3 : decide ((0 : Int) < (k : Int)) = false := by simp; omega
            have q5 : k ≤ 0 := by omega
            have q6 : decide (0 < k) = false := by simp; omega
            clear ex cc hN HA hk0
            generalize l[k] = y at cr f1
            go_wp2_with fail
            (with_reducible refine (f1.out _).mono ?_); rintro e w1 ⟨rfl, hb1⟩
            go_wp2
            go_roundw
            case rel => exact ⟨k + 1, by omega, by go_num, hbel.trans (hb1.mono hbel.size), HR.out⟩
            case measure => simp [intOf]; omega
          · obtain ⟨k', rfl⟩ : ∃ k', k = k' + 1 := ⟨k - 1, by omega⟩
            have cc2 := h.cellAt k' (by omega)
            have ex2 : (l.map sv)[k']? = some (sv l[k']) := by simp [show k' < l.length by omega]
            rw [ex2] at cc2
            unfold sv at cc2
            have hO := Lib.hid (okAt_succ hlt hN)
            have hF := Lib.hid fun hb => namesOk_bad (l := l) hlt hb
            clear ex ex2 cc hN
            generalize l[k'] = x at cc2 hO
            generalize l[k' + 1] = y at cr f1 hO
            have q3 : decide ((0 : Int) < ((k' : Nat) : Int) + 1) = true := decide_eq_true (by omega)
            have hz := hbel.size
            by_cases hL : x < y
            · have hL2 : Op.bytesLess x y = true := by rw [Go.Proofs.bytesLess_eq]; simpa using hL
              have HR := Lib.hid (show ∀ j, j < k' + 1 + 1 → okAt l j = true by
                intro j hj
                by_cases e : j = k' + 1
                · rw [e, hO.out]; simpa using hL
                · exact HA.out j (by omega))
              clear HA hL hO
              go_wp2_with fail
              (with_reducible refine (f1.out _).mono ?_); rintro e w1 ⟨rfl, hb1⟩
              have cr2 : w1.cell? ⟨g, k', none⟩ = some (.string ⟨x.toArray⟩) := (hb1.cell (p := ⟨g, k', none⟩) (Nat.lt_of_lt_of_le hgl hz)).trans ((hbel.cell (p := ⟨g, k', none⟩) hgl).trans cc2)
              go_wp2
              go_roundw
              case rel => exact ⟨k' + 1 + 1, by omega, by go_num, hbel.trans (hb1.mono hz), HR.out⟩
              case measure => simp [intOf]; omega
            · have hL2 : Op.bytesLess x y = false := by rw [Go.Proofs.bytesLess_eq]; simpa using hL
              have HR := Lib.hid (hF.out (by rw [hO.out]; simpa using hL))
              clear HA hL hO
              go_wp2_with fail
              (with_reducible refine (f1.out _).mono ?_); rintro e w1 ⟨rfl, hb1⟩
              have cr2 : w1.cell? ⟨g, k', none⟩ = some (.string ⟨x.toArray⟩) := (hb1.cell (p := ⟨g, k', none⟩) (Nat.lt_of_lt_of_le hgl hz)).trans ((hbel.cell (p := ⟨g, k', none⟩) hgl).trans cc2)
              go_wp2
              go_ret
              rw [HR.out]
              exact ⟨rfl, hbel.trans (hb1.mono hz)⟩
        · rw [Bool.not_eq_true] at hN
          have HR := Lib.hid (namesOk_bad hlt (okAt_name hlt hN))
          rw [hN] at f1
          clear ex cc hN HA
          generalize l[k] = y at cr f1
          go_wp2_with fail
          (with_reducible refine (f1.out _).mono ?_); rintro e w1 ⟨rfl, hb1⟩
          go_wp2
          go_ret
          rw [HR.out]
          exact ⟨rfl, hbel.trans (hb1.mono hbel.size)⟩
      · obtain rfl : k = l.length := by omega
        have HR := Lib.hid (namesOk_done HA.out)
        clear h HA
        go_wp2
        go_ret
        rw [HR.out]
        exact ⟨rfl, hbel⟩
end Go.Proofs.YtanhnicfkghkbaaDoor
