/-
  laws.FnExactNameIn returns true for every list and every string, by the contracts of spec.NameIn and impl.NameIn.
-/
import Derived.Test.YtabgibmdkfebhaaLists
import Derived.Test.YtabgibmdkfebhaaShelfA
namespace Go.Proofs.Ytabgibmdkfebhaa
open Go.ChangeShapes Go.WideShapes Go.ChangeAt Go.RowKit

theorem own_nil_or {w : World} {b n : Nat} {v : Value} {xs : List Value} (h : w.ownsRow b 9 1 v n xs) (h0 : n = 0) : ∃ a cap, v = .slice a 0 cap := by
  subst h0
  rcases h.2 with ⟨rfl, _⟩ | ⟨g, cap, cur, rfl, _⟩
  · exact ⟨_, _, rfl⟩
  · exact ⟨_, _, rfl⟩
def inL (l : List (List UInt8)) (y : List UInt8) : Bool := decide (y ∈ l)
theorem inL_at {l : List (List UInt8)} {y : List UInt8} {k : Nat} (h : k < l.length) (he : l[k] = y) : inL l y = true := by
  simp only [inL, decide_eq_true_eq]
  rw [← he]
  exact List.getElem_mem h
theorem inL_succ {l : List (List UInt8)} {y : List UInt8} {k : Nat} (h : k < l.length) (h0 : inL (l.take k) y = false) (he : l[k] ≠ y) : inL (l.take (k + 1)) y = false := by
  simp only [inL, decide_eq_false_iff_not] at h0 ⊢
  rw [List.take_succ_eq_append_getElem h, List.mem_append]
  rintro (h1 | h1)
  · exact h0 h1
  · exact he (List.mem_singleton.1 h1).symm

theorem specNameIn {w : World} {b : Nat} {v : Value} {l : List (List UInt8)} (h : w.ownsRow b 9 1 v l.length (l.map sv)) (y : List UInt8) (hn : l.length ≤ 1048576) :
    Calls Try.prog 24 #[v, .string ⟨y.toArray⟩] w fun e w' => e = .returned (.bool (inL l y)) ∧ w' = w := by
  rcases Nat.eq_zero_or_pos l.length with h0 | hp
  · obtain ⟨a, cap, rfl⟩ := own_nil_or h h0
    obtain rfl : l = [] := List.length_eq_zero_iff.1 h0
    clear h h0 hn
    go_enter Try.func24, Try.ntmps24
    go_wp2
    refine wp_loop_rounds 1 ?_
    rw [rounds_succ]
    go_wp2
    go_ret
    exact ⟨rfl, rfl⟩
  · obtain ⟨g, cap, rfl, _, _⟩ := h.form hp
    go_enter Try.func24, Try.ntmps24
    go_wp2
    go_loopw [5] (fun i wr => ∃ k : Nat, k ≤ l.length ∧ i = .int .i64 k ∧ wr = w ∧ Hid (inL (l.take k) y = false)) (fun i _ => l.length - (intOf i).toNat)
    case atStart => exact ⟨0, Nat.zero_le _, rfl, rfl, by simp [Hid, inL]⟩
    case round =>
      obtain ⟨k, hk, rfl, rfl, HA⟩ := hrel
      by_cases hlt : k < l.length
      · have cc := h.cellAt k (by omega)
        have ex : (l.map sv)[k]? = some (sv l[k]) := by simp [hlt]
        rw [ex] at cc
        unfold sv at cc
        have q1 : (0 : Int) ≤ (k : Int) := by omega
        have q2 : (k : Int) < (l.length : Int) := by omega
        by_cases hE : l[k] = y
        · have HR := Lib.hid (inL_at hlt hE)
          rw [hE] at cc
          clear h ex hE HA
          go_wp2
          go_ret
          rw [HR.out]
          exact ⟨rfl, rfl⟩
        · have HR := Lib.hid (inL_succ hlt HA.out hE)
          clear h ex HA
          generalize l[k] = x at cc hE
          have hE2 : (x == y) = false := by rw [beq_eq_false_iff_ne]; exact hE
          go_wp2
          go_roundw
          case rel => exact ⟨k + 1, by omega, by go_num, trivial, HR.out⟩
          case measure => simp [intOf]; omega
      · obtain rfl : k = l.length := by omega
        have HR := HA.out
        rw [List.take_length] at HR
        have HR2 := Lib.hid HR
        clear h HA HR
        go_wp2
        go_ret
        rw [HR2.out]
        exact ⟨rfl, rfl⟩

theorem containsS_inL (l : List (List UInt8)) (y : List UInt8) (n : Nat) (hn : n = l.length) : Lib.containsS ((l.map fun x => (⟨x.toArray⟩ : ByteArray)).take n) ⟨y.toArray⟩ = inL l y := by
  subst hn
  rw [Bool.eq_iff_iff, Lib.containsS_iff, List.take_of_length_le (by simp)]
  simp only [inL, decide_eq_true_eq, List.mem_map]
  constructor
  · rintro ⟨x, hx, e⟩
    have : x = y := by simpa using e
    rw [← this]; exact hx
  · intro h; exact ⟨y, h, rfl⟩
theorem implNameIn {w : World} {b : Nat} {v : Value} {l : List (List UInt8)} (h : w.ownsRow b 9 1 v l.length (l.map sv)) (y : List UInt8) (hn : l.length ≤ 1048576) :
    Calls Try.prog 25 #[v, .string ⟨y.toArray⟩] w fun e w' => e = .returned (.bool (inL l y)) ∧ w' = w := by
  rcases Nat.eq_zero_or_pos l.length with h0 | hp
  · obtain ⟨a, cap, rfl⟩ := own_nil_or h h0
    obtain rfl : l = [] := List.length_eq_zero_iff.1 h0
    have f1 := Lib.hid fun W => Try.slices_Contains_string_empty a cap ⟨y.toArray⟩ W
    clear h h0 hn
    go_enter Try.func25, Try.ntmps25
    go_wp2_with fail
    (with_reducible refine (f1.out _).mono ?_); rintro e w1 ⟨rfl, rfl⟩
    go_wp2
    go_ret
    exact ⟨rfl, rfl⟩
  · obtain ⟨g, cap, rfl, _, _⟩ := h.form hp
    have f1 := Lib.hid (Try.slices_Contains_string g 0 l.length cap (l.map fun x => (⟨x.toArray⟩ : ByteArray)) ⟨y.toArray⟩ w (by simp) (by omega) (fun j hj => by
      have hj2 : j < l.length := by simpa using hj
      rw [Nat.zero_add, h.cellAt j (by omega)]
      simp [hj2, sv]))
    rw [containsS_inL l y _ rfl] at f1
    clear h
    go_enter Try.func25, Try.ntmps25
    go_wp2_with fail
    (with_reducible refine f1.out.mono ?_); rintro e w1 ⟨rfl, rfl⟩
    go_wp2
    go_ret
    exact ⟨rfl, rfl⟩

set_option maxHeartbeats 1000000 in
theorem lawNameIn {v : Value} {l : List (List UInt8)} (s : ByteArray) (w : World) (h : Came w v l) (hs : s.size ≤ maxLen) :
    Calls Try.prog 8 #[v, .string s] w fun e w' => e = .returned (.bool true) ∧ Below w.heap.size w w' := by
  obtain ⟨y, rfl⟩ : ∃ y : List UInt8, s = ⟨y.toArray⟩ := ⟨s.data.toList, by simp⟩
  rw [size_sv] at hs
  unfold maxLen at hs
  by_cases h1 : 1048576 < y.length
  · go_enter Try.func8, Try.ntmps8
    go_wp2
    go_ret
    exact ⟨rfl, Below.refl _ _⟩
  · have f0 : Hid (Calls Try.prog 15 #[v, .int .i64 1048576] w (SzRes l 1048576 w)) := szStringS h 1048576 (Nat.le_refl _)
    go_enter Try.func8, Try.ntmps8
    go_wp2_with fail
    (refine f0.out.mono ?_); rintro e w0 ⟨rfl, (rfl | ⟨r, rfl, hr⟩)⟩
    · go_wp2
      go_ret
      exact ⟨rfl, Below.refl _ _⟩
    · have hn : l.length ≤ 1048576 := by omega
      have f1 := Lib.hid fun W (hb : Below w0.heap.size w0 W) => toStringS (h.below hb) hn
      go_wp2_with fail
      (refine (f1.out _ (Below.refl _ _)).mono ?_); rintro e w1 ⟨v1, rfl, ho1, hb1⟩
      go_wp2_with fail
      (refine (specNameIn ho1 y hn).mono ?_); rintro e w2 ⟨rfl, rfl⟩
      go_wp2_with fail
      (refine (f1.out _ hb1).mono ?_); rintro e w3 ⟨v3, rfl, ho3, hb3⟩
      go_wp2_with fail
      (refine (implNameIn ho3 y hn).mono ?_); rintro e w4 ⟨rfl, rfl⟩
      have hB := hb1.trans (hb3.mono hb1.size)
      generalize inL l y = c
      have hcc : (c == c) = true := by simp
      go_wp2_with fail
      (refine (f1.out _ hB).mono ?_); rintro e w5 ⟨v5, rfl, ho5, hb5⟩
      go_wp2_with fail
      (refine (eqStringS (own_below ho3 hb5) ho5 (by omega)).mono ?_); rintro e w6 ⟨rfl, q, rfl⟩
      go_wp2
      go_ret
      exact ⟨rfl, below_drewN (hB.trans (hb5.mono hB.size)) _⟩
end Go.Proofs.Ytabgibmdkfebhaa
