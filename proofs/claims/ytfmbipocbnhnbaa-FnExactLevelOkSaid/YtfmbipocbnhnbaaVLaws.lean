/-
  The exact laws of chapter 4, each from the contract of its own function of the program (handed in as a hypothesis).
-/
import Derived.Test.YtfmbipocbnhnbaaVPut
import Derived.Test.YtfmbipocbnhnbaaLists
namespace Go.Proofs.Ytfmbipocbnhnbaa
set_option maxRecDepth 100000
open Go.ChangeShapes Go.WideShapes Go.ChangeAt Go.RowKit
set_option linter.unusedSimpArgs false

theorem lawLevelOk (s : ByteArray) (w : World) (hm : s.size ≤ maxLen)
    (hI : s.size ≤ 1048576 → ∀ W, Calls Try.prog 12 #[.string s] W fun e w' => e = .returned (.bool (levelOk s.data.toList)) ∧ Below W.heap.size W w') :
    Calls Try.prog 4 #[.string s] w fun e w' => e = .returned (.bool true) ∧ Below w.heap.size w w' := by
  by_cases h1 : s.size ≤ 1048576
  · have d1 : decide ((1048576 : Int) < (s.size : Int)) = false := decide_eq_false (by omega)
    have f1 := Lib.hid fun W => specLevelOk s W hm
    have f2 := Lib.hid (hI h1)
    clear hI
    generalize levelOk s.data.toList = r at f1 f2
    go_enter Try.func4, Try.ntmps4
    go_wp2_with fail
    (with_reducible refine (f1.out _).mono ?_); rintro e w1 ⟨rfl, rfl⟩
    go_wp2_with fail
    (with_reducible refine (f2.out _).mono ?_); rintro e w2 ⟨rfl, hb2⟩
    go_wp2
    go_ret
    exact ⟨rfl, hb2⟩
  · have d1 : decide ((1048576 : Int) < (s.size : Int)) = true := decide_eq_true (by omega)
    clear hI
    unfold maxLen at hm
    go_enter Try.func4, Try.ntmps4
    go_wp2
    go_ret
    exact ⟨rfl, Below.refl _ _⟩

theorem lawLevelEnd (s : ByteArray) (x : Int) (w : World) (hm : s.size ≤ maxLen)
    (hI : s.size ≤ 1048576 → ∀ W, Calls Try.prog 13 #[.string s, .int .i64 x] W fun e w' => e = .returned (.int .i64 (levelEnd s.data.toList x)) ∧ Below W.heap.size W w') :
    Calls Try.prog 5 #[.string s, .int .i64 x] w fun e w' => e = .returned (.bool true) ∧ Below w.heap.size w w' := by
  by_cases h1 : s.size ≤ 1048576
  · have d1 : decide ((1048576 : Int) < (s.size : Int)) = false := decide_eq_false (by omega)
    have f1 := Lib.hid fun W => specLevelEnd s x W hm
    have f2 := Lib.hid (hI h1)
    clear hI
    generalize levelEnd s.data.toList x = r at f1 f2
    go_enter Try.func5, Try.ntmps5
    go_wp2_with fail
    (with_reducible refine (f1.out _).mono ?_); rintro e w1 ⟨rfl, rfl⟩
    go_wp2_with fail
    (with_reducible refine (f2.out _).mono ?_); rintro e w2 ⟨rfl, hb2⟩
    go_wp2
    go_ret
    exact ⟨rfl, hb2⟩
  · have d1 : decide ((1048576 : Int) < (s.size : Int)) = true := decide_eq_true (by omega)
    clear hI
    unfold maxLen at hm
    go_enter Try.func5, Try.ntmps5
    go_wp2
    go_ret
    exact ⟨rfl, Below.refl _ _⟩

theorem lawLevelParams (s : ByteArray) (w : World) (hm : s.size ≤ maxLen)
    (hI : s.size ≤ 1048576 → ∀ W, Calls Try.prog 15 #[.string s] W fun e w' => e = .returned (.int .i64 (levelParams s.data.toList : Int)) ∧ Below W.heap.size W w') :
    Calls Try.prog 6 #[.string s] w fun e w' => e = .returned (.bool true) ∧ Below w.heap.size w w' := by
  by_cases h1 : s.size ≤ 1048576
  · have d1 : decide ((1048576 : Int) < (s.size : Int)) = false := decide_eq_false (by omega)
    have f1 := Lib.hid fun W => specLevelParams s W hm
    have f2 := Lib.hid (hI h1)
    clear hI
    generalize levelParams s.data.toList = r at f1 f2
    go_enter Try.func6, Try.ntmps6
    go_wp2_with fail
    (with_reducible refine (f1.out _).mono ?_); rintro e w1 ⟨rfl, rfl⟩
    go_wp2_with fail
    (with_reducible refine (f2.out _).mono ?_); rintro e w2 ⟨rfl, hb2⟩
    go_wp2
    go_ret
    exact ⟨rfl, hb2⟩
  · have d1 : decide ((1048576 : Int) < (s.size : Int)) = true := decide_eq_true (by omega)
    clear hI
    unfold maxLen at hm
    go_enter Try.func6, Try.ntmps6
    go_wp2
    go_ret
    exact ⟨rfl, Below.refl _ _⟩

theorem lawLevelUps (s : ByteArray) (w : World) (hm : s.size ≤ maxLen)
    (hI : s.size ≤ 1048576 → ∀ W, Calls Try.prog 14 #[.string s] W fun e w' => e = .returned (.int .i64 (levelUps s.data.toList : Int)) ∧ Below W.heap.size W w') :
    Calls Try.prog 7 #[.string s] w fun e w' => e = .returned (.bool true) ∧ Below w.heap.size w w' := by
  by_cases h1 : s.size ≤ 1048576
  · have d1 : decide ((1048576 : Int) < (s.size : Int)) = false := decide_eq_false (by omega)
    have f1 := Lib.hid fun W => specLevelUps s W hm
    have f2 := Lib.hid (hI h1)
    clear hI
    generalize levelUps s.data.toList = r at f1 f2
    go_enter Try.func7, Try.ntmps7
    go_wp2_with fail
    (with_reducible refine (f1.out _).mono ?_); rintro e w1 ⟨rfl, rfl⟩
    go_wp2_with fail
    (with_reducible refine (f2.out _).mono ?_); rintro e w2 ⟨rfl, hb2⟩
    go_wp2
    go_ret
    exact ⟨rfl, hb2⟩
  · have d1 : decide ((1048576 : Int) < (s.size : Int)) = true := decide_eq_true (by omega)
    clear hI
    unfold maxLen at hm
    go_enter Try.func7, Try.ntmps7
    go_wp2
    go_ret
    exact ⟨rfl, Below.refl _ _⟩

theorem putRes_form (r : Option (List UInt8)) : ∃ (t : List UInt8) (o : Bool), putRes r = .tuple #[.string ⟨t.toArray⟩, .bool o] := by
  cases r with
  | none => exact ⟨[], false, rfl⟩
  | some t => exact ⟨t, true, rfl⟩
set_option maxHeartbeats 1000000 in
theorem lawLevelPut (s : ByteArray) {v : Value} {args : List (List UInt8)} (w : World) (hm : s.size ≤ maxLen) (h : Came w v args)
    (hI : s.size ≤ 1048576 → args.length ≤ 1048576 → (∀ x ∈ args, x.length ≤ 1048576) → ∀ (W : World) (b : Nat) (v : Value), W.ownsRow b 9 1 v args.length (args.map sv) → Calls Try.prog 11 #[.string s, v] W fun e w' => e = .returned (putRes (levelPut s.data.toList args)) ∧ Below W.heap.size W w') :
    Calls Try.prog 8 #[.string s, v] w fun e w' => e = .returned (.bool true) ∧ Below w.heap.size w w' := by
  by_cases h1 : s.size ≤ 1048576
  · have d1 : decide ((1048576 : Int) < (s.size : Int)) = false := decide_eq_false (by omega)
    have f0 : Hid (Calls Try.prog 20 #[v, .int .i64 1048576] w (SzRes args 1048576 w)) := szStringS h 1048576 (Nat.le_refl _)
    go_enter Try.func8, Try.ntmps8
    go_wp2_with fail
    (with_reducible refine f0.out.mono ?_); rintro e w0 ⟨rfl, (rfl | ⟨r, rfl, hr⟩)⟩
    · clear hI f0
      go_wp2
      go_ret
      exact ⟨rfl, Below.refl _ _⟩
    have d2 : decide ((r : Int) < 0) = false := decide_eq_false (by omega)
    have hn : args.length ≤ 1048576 := by omega
    have hx : ∀ x ∈ args, x.length ≤ 1048576 := fun x hxm => by have := totL_mem hxm; omega
    have fA := Lib.hid fun W (hb : Below w0.heap.size w0 W) => toStringS (h.below hb) hn
    have fS := Lib.hid fun (W : World) (b : Nat) (u : Value) (hu : W.ownsRow b 9 1 u args.length (args.map sv)) => specLevelPut s hu hm (fun x hxm => by have := hx x hxm; unfold maxLen; omega) (by omega)
    have fI := Lib.hid (hI h1 hn hx)
    clear hI f0 hr hx
    obtain ⟨t, o, hres⟩ := putRes_form (levelPut s.data.toList args)
    rw [hres] at fS fI
    clear hres
    go_wp2_with fail
    (with_reducible refine (fA.out _ (Below.refl _ _)).mono ?_); rintro e w2 ⟨u1, rfl, hu1, hb2⟩
    go_wp2_with fail
    (with_reducible refine (fS.out _ _ _ hu1).mono ?_); rintro e w3 ⟨rfl, hb3⟩
    have B3 := hb2.trans (hb3.mono hb2.size)
    clear hu1
    go_wp2_with fail
    (with_reducible refine (fA.out _ B3).mono ?_); rintro e w4 ⟨u2, rfl, hu2, hb4⟩
    have B4 := B3.trans (hb4.mono B3.size)
    go_wp2_with fail
    (with_reducible refine (fI.out _ _ _ hu2).mono ?_); rintro e w5 ⟨rfl, hb5⟩
    have B5 := B4.trans (hb5.mono B4.size)
    have hu5 := own_below hu2 hb5
    clear hu2
    cases o
    all_goals
      go_wp2_with fail
      (with_reducible refine (fA.out _ B5).mono ?_); rintro e w6 ⟨u3, rfl, hu3, hb6⟩
      have B6 := B5.trans (hb6.mono B5.size)
      have hu6 := own_below hu5 hb6
      go_wp2_with fail
      (refine (eqStringS hu6 hu3 (by omega)).mono ?_); rintro e w7 ⟨rfl, q, rfl⟩
      go_wp2
      go_ret
      exact ⟨rfl, below_drewN B6 q⟩
  · have d1 : decide ((1048576 : Int) < (s.size : Int)) = true := decide_eq_true (by omega)
    clear hI h
    unfold maxLen at hm
    go_enter Try.func8, Try.ntmps8
    go_wp2
    go_ret
    exact ⟨rfl, Below.refl _ _⟩
end Go.Proofs.Ytfmbipocbnhnbaa
