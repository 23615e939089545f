/-
  The contract of spec.ConstText, and its law from the contract of the program's function (handed in as a hypothesis).
-/
import Derived.Test.YtnklajagefedmaaTCon
import Derived.Test.YtnklajagefedmaaNWalks2
import Derived.Test.YtnklajagefedmaaVEnd
import Derived.Test.YtnklajagefedmaaLists
namespace Go.Proofs.Ytnklajagefedmaa
set_option maxRecDepth 100000
open Go.ChangeShapes Go.WideShapes Go.ChangeAt Go.RowKit
set_option linter.unusedSimpArgs false

theorem lvsB_le60T : ∀ {ls : List (List UInt8)}, (∀ y ∈ ls, levelOk y = true) → (lvsB ls).length ≤ ls.length * 61
  | [], _ => by simp [lvsB]
  | x :: r, h => by
    have h1 := (levelOk_len (h x List.mem_cons_self)).1
    have h2 := lvsB_le60T (ls := r) fun y hy => h y (List.mem_cons_of_mem _ hy)
    simp only [lvsB, List.length_append, List.length_cons]
    omega
set_option maxHeartbeats 2000000 in
theorem specConstText (s : ByteArray) {w : World} {b : Nat} {v : Value} {ls : List (List UInt8)} (h : w.ownsRow b 9 1 v ls.length (ls.map sv)) (hs : s.size ≤ maxLen) (hx : ∀ x ∈ ls, x.length ≤ maxLen) (hn : ls.length ≤ 10000000) :
    Calls Try.prog 5 #[.string s, v] w fun e w' => e = .returned (.string ⟨(constText s.data.toList ls).toArray⟩) ∧ Below w.heap.size w w' := by
  obtain ⟨a0, cap, rfl⟩ := own_sliceV h
  have f1 := Lib.hid fun W => specNameOk s W hs
  by_cases hok : nameOk s.data.toList = true
  rotate_left
  · have HE : Hid (constText s.data.toList ls = []) := if_neg fun hc => hok hc.1
    rw [Bool.not_eq_true] at hok
    rw [hok] at f1
    clear hok h
    go_enter Try.func5, Try.ntmps5
    go_wp2_with fail
    (with_reducible refine (f1.out _).mono ?_); rintro e w1 ⟨rfl, hb1⟩
    go_wp2
    go_ret
    rw [HE.out]
    exact ⟨rfl, hb1⟩
  have h40 := nameOk_len hok
  have HOK := Lib.hid hok
  rw [hok] at f1
  clear hok
  by_cases h3 : ls.length ≤ 3
  rotate_left
  · have HE : Hid (constText s.data.toList ls = []) := if_neg fun hc => h3 hc.2.1
    have d1 : decide ((3 : Int) < (ls.length : Int)) = true := decide_eq_true (by omega)
    clear h
    go_enter Try.func5, Try.ntmps5
    go_wp2_with fail
    (with_reducible refine (f1.out _).mono ?_); rintro e w1 ⟨rfl, hb1⟩
    go_wp2
    go_ret
    rw [HE.out]
    exact ⟨rfl, hb1⟩
  have d1 : decide ((3 : Int) < (ls.length : Int)) = false := decide_eq_false (by omega)
  have f3 := Lib.hid fun (x : List UInt8) (hm : x ∈ ls) W => specLevelOk ⟨x.toArray⟩ W (by simpa [ByteArray.size] using hx x hm)
  simp only at f3
  go_enter Try.func5, Try.ntmps5
  go_wp2_with fail
  (with_reducible refine (f1.out _).mono ?_); rintro e w1 ⟨rfl, hb1⟩
  have h1 := own_below h hb1
  have HB1 := Lib.hid hb1
  clear h hb1 f1
  go_wp2
  go_loopw [5] (fun i wr => ∃ k : Nat, k ≤ ls.length ∧ i = .int .i64 k ∧ wr = w1 ∧ Hid (∀ j (hj : j < ls.length), j < k → levelOk ls[j] = true)) (fun i _ => ls.length - (intOf i).toNat)
  case atStart => exact ⟨0, Nat.zero_le _, rfl, rfl, fun j _ hj => by omega⟩
  case round =>
    obtain ⟨k, hk, rfl, rfl, HA⟩ := hrel
    by_cases hlt : k < ls.length
    · obtain ⟨g, cap', e0, _, hgl⟩ := h1.form (by omega)
      cases e0
      have ex : (ls.map sv)[k]? = some (sv ls[k]) := by simp [hlt]
      have cc := (h1.cellAt k (by omega)).trans ex
      unfold sv at cc
      have q1 : (0 : Int) ≤ (k : Int) := by omega
      have q2 : (k : Int) < (ls.length : Int) := by omega
      have g3 := Lib.hid (f3.out ls[k] (List.getElem_mem hlt))
      have HBd : Hid (levelOk ls[k] = false → constText s.data.toList ls = []) := fun hb => if_neg fun hc => by
        have := hc.2.2 ls[k] (List.getElem_mem hlt)
        rw [hb] at this
        cases this
      have HA2 : Hid (levelOk ls[k] = true → ∀ j (hj : j < ls.length), j < k + 1 → levelOk ls[j] = true) := fun hb j hj hjk => if e : j = k then by subst e; exact hb else HA.out j hj (by omega)
      clear ex HA f3
      generalize levelOk ls[k] = ok at g3 HBd HA2
      generalize ls[k] = x at cc g3
      cases ok
      · have HE := Lib.hid (HBd.out rfl)
        clear HBd HA2
        go_wp2_with fail
        (with_reducible refine (g3.out _).mono ?_); rintro e w2 ⟨rfl, rfl⟩
        go_wp2
        go_ret
        rw [HE.out]
        exact ⟨rfl, HB1.out⟩
      · have HN := Lib.hid (HA2.out rfl)
        clear HBd HA2
        go_wp2_with fail
        (with_reducible refine (g3.out _).mono ?_); rintro e w2 ⟨rfl, rfl⟩
        go_wp2
        go_roundw
        case rel => exact ⟨k + 1, by omega, by go_num, trivial, HN.out⟩
        case measure => simp [intOf]; omega
    · have hall : ∀ x ∈ ls, levelOk x = true := fun x hm => by
        obtain ⟨j, hj, e⟩ := List.getElem_of_mem hm
        rw [← e]
        exact HA.out j hj (by omega)
      have HE : Hid (constText s.data.toList ls = (Tm.const s.data.toList ls).bytes) := if_pos ⟨HOK.out, h3, hall⟩
      have hzl := lvsB_le60T hall
      have hz3 : ls.length * 61 ≤ 183 := by omega
      have fC := Lib.hid (specConst s h1 (by omega) (by have : s.data.toList.length = s.size := rfl; omega) (by omega))
      have dk : decide ((k : Int) < (ls.length : Int)) = false := decide_eq_false (by omega)
      generalize (Tm.const s.data.toList ls).bytes = tb at HE fC
      clear HA hall f3 hzl hz3 h1
      go_wp2_with fail
      (with_reducible refine fC.out.mono ?_); rintro e w2 ⟨rfl, rfl⟩
      go_wp2
      go_ret
      rw [HE.out]
      exact ⟨rfl, HB1.out⟩
theorem lawConstText (s : ByteArray) {v : Value} {args : List (List UInt8)} (w : World) (hm : s.size ≤ maxLen) (h : Came w v args)
    (hI : s.size ≤ 1048576 → args.length ≤ 1048576 → (∀ x ∈ args, x.length ≤ 1048576) → ∀ (W : World) (b : Nat) (v : Value), Below w.heap.size w W → W.ownsRow b 9 1 v args.length (args.map sv) → Calls Try.prog 7 #[.string s, v] W fun e w' => e = .returned (.string ⟨(constText s.data.toList args).toArray⟩) ∧ Below W.heap.size W w') :
    Calls Try.prog 3 #[.string s, v] w fun e w' => e = .returned (.bool true) ∧ Below w.heap.size w w' := by
  by_cases h1 : s.size ≤ 1048576
  · have d1 : decide ((1048576 : Int) < (s.size : Int)) = false := decide_eq_false (by omega)
    have f0 : Hid (Calls Try.prog 4 #[v, .int .i64 1048576] w (SzRes args 1048576 w)) := szStringS h 1048576 (Nat.le_refl _)
    go_enter Try.func3, Try.ntmps3
    go_wp2_with fail
    (with_reducible refine f0.out.mono ?_); rintro e w0 ⟨rfl, (rfl | ⟨r, rfl, hr⟩)⟩
    · clear hI f0
      go_wp2
      go_ret
      exact ⟨rfl, Below.refl _ _⟩
    have d2 : decide ((r : Int) < 0) = false := decide_eq_false (by omega)
    have hn : args.length ≤ 1048576 := by omega
    have hx : ∀ x ∈ args, x.length ≤ 1048576 := fun x hxm => by have := totL_mem hxm; omega
    have fA := Lib.hid fun W (hb : Below w0.heap.size w0 W) => toStringS (h.below hb) hn
    have fS := Lib.hid fun (W : World) (b : Nat) (u : Value) (hu : W.ownsRow b 9 1 u args.length (args.map sv)) => specConstText s hu hm (fun x hxm => by have := hx x hxm; unfold maxLen; omega) (by omega)
    have fI := Lib.hid (hI h1 hn hx)
    clear hI f0 hr hx
    generalize constText s.data.toList args = t at fS fI
    go_wp2_with fail
    (with_reducible refine (fA.out _ (Below.refl _ _)).mono ?_); rintro e w2 ⟨u1, rfl, hu1, hb2⟩
    go_wp2_with fail
    (with_reducible refine (fS.out _ _ _ hu1).mono ?_); rintro e w3 ⟨rfl, hb3⟩
    have B3 := hb2.trans (hb3.mono hb2.size)
    clear hu1
    go_wp2_with fail
    (with_reducible refine (fA.out _ B3).mono ?_); rintro e w4 ⟨u2, rfl, hu2, hb4⟩
    have B4 := B3.trans (hb4.mono B3.size)
    go_wp2_with fail
    (with_reducible refine (fI.out _ _ _ B4 hu2).mono ?_); rintro e w5 ⟨rfl, hb5⟩
    have B5 := B4.trans (hb5.mono B4.size)
    have hu5 := own_below hu2 hb5
    clear hu2
    go_wp2_with fail
    (with_reducible refine (fA.out _ B5).mono ?_); rintro e w6 ⟨u3, rfl, hu3, hb6⟩
    have B6 := B5.trans (hb6.mono B5.size)
    have hu6 := own_below hu5 hb6
    go_wp2_with fail
    (refine (eqStringS hu6 hu3 (by omega)).mono ?_); rintro e w7 ⟨rfl, q, rfl⟩
    go_wp2
    go_ret
    exact ⟨rfl, below_drewN B6 q⟩
  · have d1 : decide ((1048576 : Int) < (s.size : Int)) = true := decide_eq_true (by omega)
    clear hI h
    unfold maxLen at hm
    go_enter Try.func3, Try.ntmps3
    go_wp2
    go_ret
    exact ⟨rfl, Below.refl _ _⟩
end Go.Proofs.Ytnklajagefedmaa
