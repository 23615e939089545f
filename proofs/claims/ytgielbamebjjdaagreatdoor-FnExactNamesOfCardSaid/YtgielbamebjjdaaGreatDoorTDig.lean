/-
  Contracts of spec.l06Level and l06Digits.
-/
import Derived.Test.YtgielbamebjjdaaGreatDoorTMath
import Derived.Test.YtgielbamebjjdaaGreatDoorV4
import Derived.Test.YtgielbamebjjdaaGreatDoorRdS
namespace Go.Proofs.YtgielbamebjjdaaGreatDoor
set_option maxRecDepth 100000
open Go.ChangeShapes Go.WideShapes Go.ChangeAt Go.RowKit
set_option linter.unusedSimpArgs false

def lvlEnd (l : List UInt8) (a : Nat) : Int := match lend 1 (l.drop a) with
  | some k => if k ≤ 60 then (a : Int) + k else -1
  | none => -1
theorem specL06Level (s : ByteArray) (a : Nat) (w : World) (hs : s.size ≤ 1000000000) (ha : a ≤ s.size) :
    Calls Tryz.prog 185 #[.string s, .int .i64 (a : Int)] w fun e w' => e = .returned (.int .i64 (lvlEnd s.data.toList a)) ∧ w' = w := by
  have f1 := Lib.hid fun W => specL04End s a W hs ha
  cases hr : lend 1 (s.data.toList.drop a) with
  | none =>
    have HE : Hid (lvlEnd s.data.toList a = -1) := by rw [Hid, lvlEnd, hr]
    rw [show runE s.data.toList 1 a = none by rw [runE, hr]; rfl, show endV none = -1 from rfl] at f1
    clear hr
    go_enter Tryz.func185, Tryz.ntmps185
    go_wp2_with fail
    (with_reducible refine (f1.out _).mono ?_); rintro e w1 ⟨rfl, rfl⟩
    go_wp2
    go_ret
    rw [HE.out]
    exact ⟨rfl, rfl⟩
  | some k =>
    have hk := (lend_take _ _ _ hr).2
    rw [List.length_drop] at hk
    have hk2 : a + k ≤ s.size := by have : s.data.toList.length = s.size := rfl; omega
    clear hk
    rw [show runE s.data.toList 1 a = some (k + a) by rw [runE, hr]; rfl, show endV (some (k + a)) = ((k + a : Nat) : Int) from rfl, show ((k + a : Nat) : Int) = (a : Int) + (k : Int) by omega] at f1
    by_cases h60 : k ≤ 60
    · have HE : Hid (lvlEnd s.data.toList a = (a : Int) + k) := by rw [Hid, lvlEnd, hr]; simp [h60]
      have d1 : decide ((60 : Int) < (k : Int)) = false := decide_eq_false (by omega)
      have e1 : IntKind.i64.wrap ((a : Int) + (k : Int) - (a : Int)) = (k : Int) := by rw [show (a : Int) + (k : Int) - (a : Int) = (k : Int) by omega]; exact IntWalk.i64_in _ (by omega)
      have e2 : (a : Int) + (k : Int) - (a : Int) = (k : Int) := by omega
      have d2 : decide ((a : Int) + (k : Int) < 0) = false := decide_eq_false (by omega)
      clear hr
      go_enter Tryz.func185, Tryz.ntmps185
      go_wp2_with fail
      (with_reducible refine (f1.out _).mono ?_); rintro e w1 ⟨rfl, rfl⟩
      go_wp2
      go_ret
      rw [HE.out]
      exact ⟨rfl, rfl⟩
    · have HE : Hid (lvlEnd s.data.toList a = -1) := by rw [Hid, lvlEnd, hr]; simp [h60]
      have d1 : decide ((60 : Int) < (k : Int)) = true := decide_eq_true (by omega)
      have e1 : IntKind.i64.wrap ((a : Int) + (k : Int) - (a : Int)) = (k : Int) := by rw [show (a : Int) + (k : Int) - (a : Int) = (k : Int) by omega]; exact IntWalk.i64_in _ (by omega)
      have e2 : (a : Int) + (k : Int) - (a : Int) = (k : Int) := by omega
      have d2 : decide ((a : Int) + (k : Int) < 0) = false := decide_eq_false (by omega)
      clear hr
      go_enter Tryz.func185, Tryz.ntmps185
      go_wp2_with fail
      (with_reducible refine (f1.out _).mono ?_); rintro e w1 ⟨rfl, rfl⟩
      go_wp2
      go_ret
      rw [HE.out]
      exact ⟨rfl, rfl⟩

def isDig (c : UInt8) : Prop := 48 ≤ c.toNat ∧ c.toNat ≤ 57
/-- As many digits as stand at a place, at most four. -/
def Run4 (l : List UInt8) (a m : Nat) : Prop :=
  m ≤ 4 ∧ a + m ≤ l.length ∧ (∀ j (h : a + j < l.length), j < m → isDig l[a + j]) ∧ (a + m = l.length ∨ m = 4 ∨ ∃ h : a + m < l.length, ¬ isDig l[a + m])
def DigPost (l : List UInt8) (a : Nat) (w : World) (e : Ending) (w' : World) : Prop :=
  Below w.heap.size w w' ∧ ∃ m, Run4 l a m ∧ ((∃ n, n ≤ 999 ∧ Lib.decDigits n = (l.drop a).take m ∧ e = .returned (.tuple #[.int .i64 (n : Int), .int .i64 ((a : Int) + (m : Int))])) ∨ ((∀ n, n ≤ 999 → Lib.decDigits n ≠ (l.drop a).take m) ∧ e = .returned (.tuple #[.int .i64 0, .int .i64 (-1)])))
theorem extract_take (s : ByteArray) (a m : Nat) : (s.extract a (a + m)).data.toList = (s.data.toList.drop a).take m := by
  simp [ByteArray.data_extract, Array.toList_extract, List.extract_eq_take_drop]

set_option maxHeartbeats 1000000 in
theorem specL06Digits (s : ByteArray) (a : Nat) (w : World) (hs : s.size ≤ 1000000000) (ha : a ≤ s.size) :
    Calls Tryz.prog 184 #[.string s, .int .i64 (a : Int)] w (DigPost s.data.toList a w) := by
  have hls : Hid (s.data.toList.length = s.size) := rfl
  have q0 : (0 : Int) ≤ (a : Int) := by omega
  have hEx : ∀ m, a + m ≤ s.size → (s.extract a (a + m)).size ≤ maxLen := fun m hm => by
    rw [ByteArray.size_extract]
    unfold maxLen
    omega
  have HF := Lib.hid fun m W (hm : a + m ≤ s.size) => specRead (s.extract a (a + m)) W (hEx m hm)
  clear hEx
  go_enter Tryz.func184, Tryz.ntmps184
  go_wp2
  go_loopw [6] (fun i wr => ∃ m : Nat, m ≤ 4 ∧ a + m ≤ s.size ∧ i = .int .i64 ((a : Int) + (m : Int)) ∧ wr = w ∧ Hid (∀ j (h : a + j < s.data.toList.length), j < m → isDig s.data.toList[a + j])) (fun i _ => s.size - (intOf i).toNat)
  case atStart => exact ⟨0, by omega, by omega, by simp, rfl, fun j _ hj => by omega⟩
  case round =>
    obtain ⟨m, hm4, hma, rfl, rfl, HD⟩ := hrel
    by_cases hlt : a + m < s.size
    · by_cases h4 : m < 4
      · have hll : a + m < s.data.toList.length := hlt
        by_cases hd : isDig s.data.toList[a + m]
        · have b1 : 48 ≤ s[a + m].toNat := hd.1
          have b2 : s[a + m].toNat ≤ 57 := hd.2
          have q1 : (0 : Int) ≤ (a : Int) + (m : Int) := by omega
          have q2 : (a : Int) + (m : Int) < (s.size : Int) := by omega
          have q3 : ((a : Int) + (m : Int)).toNat = a + m := by omega
          have d1 : decide ((a : Int) + (m : Int) < (s.size : Int)) = true := decide_eq_true (by omega)
          have d2 : decide ((a : Int) + (m : Int) < (a : Int) + 4) = true := decide_eq_true (by omega)
          have d3 : decide ((48 : Int) ≤ (s[a + m].toNat : Int)) = true := decide_eq_true (by omega)
          have d4 : decide ((s[a + m].toNat : Int) ≤ 57) = true := decide_eq_true (by omega)
          have HD2 : Hid (∀ j (h : a + j < s.data.toList.length), j < m + 1 → isDig s.data.toList[a + j]) := fun j h hj => if e : j = m then by subst e; exact hd else HD.out j h (by omega)
          clear hd HD
          go_wp2
          go_roundw
          case rel => exact ⟨m + 1, by omega, by omega, by go_num, trivial, HD2.out⟩
          case measure => simp [intOf]; omega
        · have hnd := Lib.hid hd
          have q1 : (0 : Int) ≤ (a : Int) + (m : Int) := by omega
          have q2 : (a : Int) + (m : Int) < (s.size : Int) := by omega
          have q2' : (a : Int) + (m : Int) ≤ (s.size : Int) := by omega
          have q5 : (a : Int) ≤ (a : Int) + (m : Int) := by omega
          have q3 : ((a : Int) + (m : Int)).toNat = a + m := by omega
          have d1 : decide ((a : Int) + (m : Int) < (s.size : Int)) = true := decide_eq_true (by omega)
          have d2 : decide ((a : Int) + (m : Int) < (a : Int) + 4) = true := decide_eq_true (by omega)
          by_cases b1 : 48 ≤ s[a + m].toNat
          · have b2 : ¬ s[a + m].toNat ≤ 57 := fun h => hd ⟨b1, h⟩
            have d3 : decide ((48 : Int) ≤ (s[a + m].toNat : Int)) = true := decide_eq_true (by omega)
            have d4 : decide ((s[a + m].toNat : Int) ≤ 57) = false := decide_eq_false (by omega)
            clear hd
            have HR : Hid (Run4 s.data.toList a m) := ⟨hm4, hma, HD.out, .inr (.inr ⟨hll, hnd.out⟩)⟩
            have f1 := HF.out m wr hma
            unfold RdPost at f1; rw [extract_take] at f1
            have F1 := Lib.hid f1
            clear f1 HF HD
            go_wp2_with fail
            (with_reducible refine F1.out.mono ?_); rintro e w1 ⟨hb1, (⟨n, hn, rfl⟩ | ⟨hno, rfl⟩)⟩
            · by_cases h9 : n ≤ 999
              · have d9 : decide ((999 : Int) < (n : Int)) = false := decide_eq_false (by omega)
                have HN := Lib.hid hn.2
                clear hn
                go_wp2
                go_ret2
                exact ⟨hb1, m, HR.out, .inl ⟨n, h9, HN.out, rfl⟩⟩
              · have d9 : decide ((999 : Int) < (n : Int)) = true := decide_eq_true (by omega)
                have HN : Hid (∀ k, k ≤ 999 → Lib.decDigits k ≠ (s.data.toList.drop a).take m) := fun k hk e => by
                  have := digits_inj (e.trans hn.2.symm)
                  omega
                clear hn
                go_wp2
                go_ret2
                exact ⟨hb1, m, HR.out, .inr ⟨HN.out, rfl⟩⟩
            · have HN : Hid (∀ k, k ≤ 999 → Lib.decDigits k ≠ (s.data.toList.drop a).take m) := fun k hk e => hno k ⟨by omega, e⟩
              clear hno
              go_wp2
              go_ret2
              exact ⟨hb1, m, HR.out, .inr ⟨HN.out, rfl⟩⟩
          · have d3 : decide ((48 : Int) ≤ (s[a + m].toNat : Int)) = false := decide_eq_false (by omega)
            clear hd
            have HR : Hid (Run4 s.data.toList a m) := ⟨hm4, hma, HD.out, .inr (.inr ⟨hll, hnd.out⟩)⟩
            have f1 := HF.out m wr hma
            unfold RdPost at f1; rw [extract_take] at f1
            have F1 := Lib.hid f1
            clear f1 HF HD
            go_wp2_with fail
            (with_reducible refine F1.out.mono ?_); rintro e w1 ⟨hb1, (⟨n, hn, rfl⟩ | ⟨hno, rfl⟩)⟩
            · by_cases h9 : n ≤ 999
              · have d9 : decide ((999 : Int) < (n : Int)) = false := decide_eq_false (by omega)
                have HN := Lib.hid hn.2
                clear hn
                go_wp2
                go_ret2
                exact ⟨hb1, m, HR.out, .inl ⟨n, h9, HN.out, rfl⟩⟩
              · have d9 : decide ((999 : Int) < (n : Int)) = true := decide_eq_true (by omega)
                have HN : Hid (∀ k, k ≤ 999 → Lib.decDigits k ≠ (s.data.toList.drop a).take m) := fun k hk e => by
                  have := digits_inj (e.trans hn.2.symm)
                  omega
                clear hn
                go_wp2
                go_ret2
                exact ⟨hb1, m, HR.out, .inr ⟨HN.out, rfl⟩⟩
            · have HN : Hid (∀ k, k ≤ 999 → Lib.decDigits k ≠ (s.data.toList.drop a).take m) := fun k hk e => hno k ⟨by omega, e⟩
              clear hno
              go_wp2
              go_ret2
              exact ⟨hb1, m, HR.out, .inr ⟨HN.out, rfl⟩⟩
      · obtain rfl : m = 4 := by omega
        have q1 : (0 : Int) ≤ (a : Int) + 4 := by omega
        have q2 : (a : Int) + 4 < (s.size : Int) := by omega
        have q2' : (a : Int) + 4 ≤ (s.size : Int) := by omega
        have q5 : (a : Int) ≤ (a : Int) + 4 := by omega
        have q3 : ((a : Int) + 4).toNat = a + 4 := by omega
        have d1 : decide ((a : Int) + 4 < (s.size : Int)) = true := decide_eq_true (by omega)
        have d2 : decide ((a : Int) + 4 < (a : Int) + 4) = false := decide_eq_false (by omega)
        have HR : Hid (Run4 s.data.toList a 4) := ⟨hm4, hma, HD.out, .inr (.inl rfl)⟩
        have f1 := HF.out 4 wr hma
        unfold RdPost at f1; rw [extract_take] at f1
        have F1 := Lib.hid f1
        clear f1 HF HD
        go_wp2_with fail
        (with_reducible refine F1.out.mono ?_); rintro e w1 ⟨hb1, (⟨n, hn, rfl⟩ | ⟨hno, rfl⟩)⟩
        · by_cases h9 : n ≤ 999
          · have d9 : decide ((999 : Int) < (n : Int)) = false := decide_eq_false (by omega)
            have HN := Lib.hid hn.2
            clear hn
            go_wp2
            go_ret2
            exact ⟨hb1, 4, HR.out, .inl ⟨n, h9, HN.out, rfl⟩⟩
          · have d9 : decide ((999 : Int) < (n : Int)) = true := decide_eq_true (by omega)
            have HN : Hid (∀ k, k ≤ 999 → Lib.decDigits k ≠ (s.data.toList.drop a).take 4) := fun k hk e => by
              have := digits_inj (e.trans hn.2.symm)
              omega
            clear hn
            go_wp2
            go_ret2
            exact ⟨hb1, 4, HR.out, .inr ⟨HN.out, rfl⟩⟩
        · have HN : Hid (∀ k, k ≤ 999 → Lib.decDigits k ≠ (s.data.toList.drop a).take 4) := fun k hk e => hno k ⟨by omega, e⟩
          clear hno
          go_wp2
          go_ret2
          exact ⟨hb1, 4, HR.out, .inr ⟨HN.out, rfl⟩⟩
    · have hme : a + m = s.data.toList.length := by rw [hls.out]; omega
      have HME := Lib.hid hme
      clear hme
      have q1 : (0 : Int) ≤ (a : Int) + (m : Int) := by omega
      have q2' : (a : Int) + (m : Int) ≤ (s.size : Int) := by omega
      have q5 : (a : Int) ≤ (a : Int) + (m : Int) := by omega
      have q3 : ((a : Int) + (m : Int)).toNat = a + m := by omega
      have d1 : decide ((a : Int) + (m : Int) < (s.size : Int)) = false := decide_eq_false (by omega)
      have HR : Hid (Run4 s.data.toList a m) := ⟨hm4, hma, HD.out, .inl HME.out⟩
      have f1 := HF.out m wr hma
      unfold RdPost at f1; rw [extract_take] at f1
      have F1 := Lib.hid f1
      clear f1 HF HD
      go_wp2_with fail
      (with_reducible refine F1.out.mono ?_); rintro e w1 ⟨hb1, (⟨n, hn, rfl⟩ | ⟨hno, rfl⟩)⟩
      · by_cases h9 : n ≤ 999
        · have d9 : decide ((999 : Int) < (n : Int)) = false := decide_eq_false (by omega)
          have HN := Lib.hid hn.2
          clear hn
          go_wp2
          go_ret2
          exact ⟨hb1, m, HR.out, .inl ⟨n, h9, HN.out, rfl⟩⟩
        · have d9 : decide ((999 : Int) < (n : Int)) = true := decide_eq_true (by omega)
          have HN : Hid (∀ k, k ≤ 999 → Lib.decDigits k ≠ (s.data.toList.drop a).take m) := fun k hk e => by
            have := digits_inj (e.trans hn.2.symm)
            omega
          clear hn
          go_wp2
          go_ret2
          exact ⟨hb1, m, HR.out, .inr ⟨HN.out, rfl⟩⟩
      · have HN : Hid (∀ k, k ≤ 999 → Lib.decDigits k ≠ (s.data.toList.drop a).take m) := fun k hk e => hno k ⟨by omega, e⟩
        clear hno
        go_wp2
        go_ret2
        exact ⟨hb1, m, HR.out, .inr ⟨HN.out, rfl⟩⟩
end Go.Proofs.YtgielbamebjjdaaGreatDoor
