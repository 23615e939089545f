/-
  Contracts of cmp.Compare, slices.Compare and slices.Clone at ints.
-/
import Derived.Test.YtdeophmdpbgkdaaInts
import Derived.Test.YtdeophmdpbgkdaaUDr
import Derived.StillTailTactics
import Derived.Laws.Cover3
namespace Go.Proofs.Ytdeophmdpbgkdaa
set_option maxRecDepth 100000
open Go.ChangeShapes Go.WideShapes Go.ChangeAt Go.RowKit
set_option linter.unusedSimpArgs false

def sgnI (x y : Int) : Int := if x < y then -1 else if y < x then 1 else 0
theorem cmpCompareI (x y : Int) (w : World) :
    Calls Try.prog 63 #[.int .i64 x, .int .i64 y] w fun e w' => e = .returned (.int .i64 (sgnI x y)) ∧ w' = w := by
  have hx : ∀ (z : Int) (W : World), Calls Try.prog 67 #[.int .i64 z] W fun e w' => e = .returned (.bool false) ∧ w' = W := fun z W => by
    go_enter Try.func67, Try.ntmps67
    go_wp2
    go_ret
    exact ⟨by simp, rfl⟩
  have f1 := Lib.hid (hx x)
  have f2 := Lib.hid (hx y)
  clear hx
  by_cases h1 : x < y
  · have d1 : decide (x < y) = true := decide_eq_true h1
    have HE : Hid (sgnI x y = -1) := if_pos h1
    go_enter Try.func63, Try.ntmps63
    go_wp2_with fail
    (with_reducible refine (f1.out _).mono ?_); rintro e w1 ⟨rfl, rfl⟩
    go_wp2_with fail
    (with_reducible refine (f2.out _).mono ?_); rintro e w1 ⟨rfl, rfl⟩
    go_wp2
    go_ret
    rw [HE.out]; exact ⟨rfl, rfl⟩
  · have d1 : decide (x < y) = false := decide_eq_false h1
    by_cases h2 : y < x
    · have d2 : decide (y < x) = true := decide_eq_true h2
      have HE : Hid (sgnI x y = 1) := by rw [Hid, sgnI, if_neg h1, if_pos h2]
      go_enter Try.func63, Try.ntmps63
      go_wp2_with fail
      (with_reducible refine (f1.out _).mono ?_); rintro e w1 ⟨rfl, rfl⟩
      go_wp2_with fail
      (with_reducible refine (f2.out _).mono ?_); rintro e w1 ⟨rfl, rfl⟩
      go_wp2
      go_ret
      rw [HE.out]; exact ⟨rfl, rfl⟩
    · have d2 : decide (y < x) = false := decide_eq_false h2
      have HE : Hid (sgnI x y = 0) := by rw [Hid, sgnI, if_neg h1, if_neg h2]
      go_enter Try.func63, Try.ntmps63
      go_wp2_with fail
      (with_reducible refine (f1.out _).mono ?_); rintro e w1 ⟨rfl, rfl⟩
      go_wp2_with fail
      (with_reducible refine (f2.out _).mono ?_); rintro e w1 ⟨rfl, rfl⟩
      go_wp2
      go_ret
      rw [HE.out]; exact ⟨rfl, rfl⟩

/-- The sign of the comparison of two lists, number by number. -/
def cmpI : List Int → List Int → Int
  | [], [] => 0
  | [], _ :: _ => -1
  | _ :: _, [] => 1
  | x :: a, y :: b => if sgnI x y = 0 then cmpI a b else sgnI x y
set_option maxHeartbeats 1000000 in
/-- slices.Compare at two owned rows of one length. -/
theorem slicesCompareI {w : World} {b1 b2 n : Nat} {v1 v2 : Value} {l m : List Int} (h1 : w.ownsRow b1 3 1 v1 n (l.map iv)) (h2 : w.ownsRow b2 3 1 v2 n (m.map iv)) (hp : 0 < n) (hn : n ≤ 1000000000) :
    Calls Try.prog 45 #[v1, v2] w fun e w' => e = .returned (.int .i64 (cmpI l m)) ∧ w' = w := by
  have hl : l.length = n := by simpa using h1.1
  have hm : m.length = n := by simpa using h2.1
  obtain ⟨g1, c1, rfl, _, _⟩ := h1.form hp
  obtain ⟨g2, c2, rfl, _, _⟩ := h2.form hp
  have fc := Lib.hid cmpCompareI
  go_enter Try.func45, Try.ntmps45
  go_wp2
  go_loopw [11] (fun i wr => ∃ k : Nat, k ≤ n ∧ i = .int .i64 k ∧ wr = w ∧ Hid (cmpI l m = cmpI (l.drop k) (m.drop k))) (fun i _ => n - (intOf i).toNat)
  case atStart => exact ⟨0, Nat.zero_le _, rfl, rfl, rfl⟩
  case round =>
    obtain ⟨k, hk, rfl, rfl, HC⟩ := hrel
    by_cases hlt : k < n
    · have e1 := h1.cellAt k (by omega)
      have e2 := h2.cellAt k (by omega)
      rw [show (l.map iv)[k]? = some (iv (l[k]'(by omega))) by simp [show k < l.length by omega]] at e1
      rw [show (m.map iv)[k]? = some (iv (m[k]'(by omega))) by simp [show k < m.length by omega]] at e2
      have HD := HC.out
      rw [List.drop_eq_getElem_cons (show k < l.length by omega), List.drop_eq_getElem_cons (show k < m.length by omega), cmpI] at HD
      have HD := Lib.hid HD
      generalize l[k]'(by omega) = x at e1 HD
      generalize m[k]'(by omega) = y at e2 HD
      clear h1 h2 HC
      unfold iv at e1 e2
      have q1 : (0 : Int) ≤ (k : Int) := by omega
      have q2 : (k : Int) < (n : Int) := by omega
      have d0 : decide ((n : Int) ≤ (k : Int)) = false := decide_eq_false (by omega)
      have d0n : decide (n ≤ k) = false := decide_eq_false (by omega)
      by_cases hz : sgnI x y = 0
      · have HD2 := HD.out
        rw [if_pos hz] at HD2
        have HD2 := Lib.hid HD2
        have fz := Lib.hid fun W => fc.out x y W
        rw [hz] at fz
        clear HD hz
        go_wp2_with fail
        (with_reducible refine (fz.out _).mono ?_); rintro e w1 ⟨rfl, rfl⟩
        go_wp2
        go_roundw
        case rel => exact ⟨k + 1, by omega, by go_num, trivial, HD2.out⟩
        case measure => simp [intOf]; omega
      · have HD2 := HD.out
        rw [if_neg hz] at HD2
        have HD2 := Lib.hid HD2
        have fz := Lib.hid fun W => fc.out x y W
        have dz : (sgnI x y == 0) = false := beq_eq_false_iff_ne.2 hz
        clear HD hz fc
        generalize sgnI x y = r at HD2 fz dz
        go_wp2_with fail
        (with_reducible refine (fz.out _).mono ?_); rintro e w1 ⟨rfl, rfl⟩
        go_wp2
        go_ret
        rw [HD2.out]; exact ⟨rfl, rfl⟩
    · have HE : Hid (cmpI l m = 0) := by
        have := HC.out
        rw [List.drop_eq_nil_of_le (by omega), List.drop_eq_nil_of_le (by omega)] at this
        exact this
      have d0 : decide ((k : Int) < (n : Int)) = false := decide_eq_false (by omega)
      have d1 : decide ((n : Int) < (n : Int)) = false := decide_eq_false (by omega)
      clear HC h1 h2
      go_wp2
      go_ret
      rw [HE.out]; exact ⟨rfl, rfl⟩

theorem eqlNilI (a : Option Addr) (l c : Nat) (w : World) : (binOp .eql 26 (.slice a l c) (.slice none 0 0)).run Try.prog w = .ok (.bool a.isNone) w := by
  simp only [binOp]
  simp [run_equal_slice_nil w 26 3 a l c Try.underlying26]
theorem neqNilI (a : Option Addr) (l c : Nat) (w : World) : (binOp .neq 26 (.slice a l c) (.slice none 0 0)).run Try.prog w = .ok (.bool (!a.isNone)) w := by
  simp only [binOp]
  simp [run_equal_slice_nil w 26 3 a l c Try.underlying26]
set_option maxHeartbeats 1000000 in
/-- slices.Clone at an owned row of ints that is not empty. -/
theorem slicesCloneI {w : World} {b n : Nat} {v : Value} {l : List Int} (h : w.ownsRow b 3 1 v n (l.map iv)) (hp : 0 < n) (hn : n ≤ 1000000) :
    Calls Try.prog 46 #[v] w fun e w' => ∃ u, e = .returned u ∧ w'.ownsRow w.heap.size 3 1 u n (l.map iv) ∧ Below w.heap.size w w' := by
  have hl : l.length = n := by simpa using h.1
  subst hl
  obtain ⟨g1, c1, rfl, _, _⟩ := h.form hp
  have hne := fun W => eqlNilI (some ⟨g1, 0, none⟩) l.length c1 W
  simp only [Option.isNone_some] at hne
  go_enter Try.func46, Try.ntmps46
  go_wp2_with (at_builtin; refine append_copyI rfl _ _ rfl rfl _ _ l rfl h (by omega) (by omega) ?_; intro u w2 h2 hb2)
  go_wp2
  go_ret
  exact ⟨_, rfl, h2, hb2⟩
end Go.Proofs.Ytdeophmdpbgkdaa
