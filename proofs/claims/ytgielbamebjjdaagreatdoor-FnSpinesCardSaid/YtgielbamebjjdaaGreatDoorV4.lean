/-
  The contract of spec.l04End.
-/
import Derived.Test.YtgielbamebjjdaaGreatDoorVMath
namespace Go.Proofs.YtgielbamebjjdaaGreatDoor
set_option maxRecDepth 100000
open Go.ChangeShapes Go.WideShapes Go.ChangeAt Go.RowKit
set_option linter.unusedSimpArgs false

def runE (l : List UInt8) (n p : Nat) : Option Nat := (lend n (l.drop p)).map (· + p)
theorem runE_z {l : List UInt8} {n p : Nat} (hp : p < l.length) (h : l[p] = 122) : runE l (n + 1) p = runE l n (p + 1) := by
  rw [runE, List.drop_eq_getElem_cons hp, h, lend_z, runE, Option.map_map]
  congr 1; funext x; simp; omega
theorem runE_up {l : List UInt8} {n p : Nat} (hp : p < l.length) (h : l[p] = 43) : runE l (n + 1) p = runE l (n + 1) (p + 1) := by
  rw [runE, List.drop_eq_getElem_cons hp, h, lend_up, runE, Option.map_map]
  congr 1; funext x; simp; omega
theorem runE_two {l : List UInt8} {n p : Nat} (hp : p < l.length) (h : l[p] = 109 ∨ l[p] = 105) : runE l (n + 1) p = runE l (n + 2) (p + 1) := by
  rw [runE, List.drop_eq_getElem_cons hp, lend_two n h, runE, Option.map_map]
  congr 1; funext x; simp; omega
theorem runE_par {l : List UInt8} {n p : Nat} (hp : p + 1 < l.length) (h : l[p] = 117) (h1 : 48 ≤ l[p + 1].toNat) (h2 : l[p + 1].toNat ≤ 50) : runE l (n + 1) p = runE l n (p + 2) := by
  rw [runE, List.drop_eq_getElem_cons (by omega), h, List.drop_eq_getElem_cons hp, lend_par n h1 h2, runE, Option.map_map]
  congr 1; funext x; simp; omega
theorem runE_parBad {l : List UInt8} {n p : Nat} (hp : p + 1 < l.length) (h : l[p] = 117) (h1 : ¬ (48 ≤ l[p + 1].toNat ∧ l[p + 1].toNat ≤ 50)) : runE l (n + 1) p = none := by
  rw [runE, List.drop_eq_getElem_cons (by omega), h, List.drop_eq_getElem_cons hp, lend_par_bad n h1]; rfl
theorem runE_parEnd {l : List UInt8} {n p : Nat} (hp : p < l.length) (hq : ¬ p + 1 < l.length) (h : l[p] = 117) : runE l (n + 1) p = none := by
  rw [runE, List.drop_eq_getElem_cons hp, h, List.drop_eq_nil_of_le (by omega), lend_par_end]; rfl
theorem runE_bad {l : List UInt8} {n p : Nat} (hp : p < l.length) (h1 : l[p] ≠ 122) (h2 : l[p] ≠ 43) (h3 : l[p] ≠ 109) (h5 : l[p] ≠ 105) (h4 : l[p] ≠ 117) : runE l (n + 1) p = none := by
  rw [runE, List.drop_eq_getElem_cons hp, lend_bad n h1 h2 (by rintro (h | h) <;> contradiction) h4]; rfl
theorem runE_end {l : List UInt8} {n p : Nat} (hp : ¬ p < l.length) : runE l (n + 1) p = none := by
  rw [runE, List.drop_eq_nil_of_le (by omega), lend_nil]; rfl
theorem runE_zero (l : List UInt8) (p : Nat) : runE l 0 p = some p := by rw [runE, lend_zero]; simp
def endV : Option Nat → Int
  | some k => k
  | none => -1
theorem ne_byte {c d : UInt8} (h : c ≠ d) : ((c.toNat : Int) == (d.toNat : Int)) = false := by
  rw [beq_eq_false_iff_ne]
  intro e
  exact h (UInt8.toNat_inj.1 (by omega))
theorem is_byte {c d : UInt8} (h : c = d) : ((c.toNat : Int) == (d.toNat : Int)) = true := by rw [h]; simp

set_option maxHeartbeats 2000000 in
theorem specL04End (s : ByteArray) (a : Nat) (w : World) (hs : s.size ≤ 1000000000) (ha : a ≤ s.size) :
    Calls Tryz.prog 201 #[.string s, .int .i64 (a : Int)] w fun e w' => e = .returned (.int .i64 (endV (runE s.data.toList 1 a))) ∧ w' = w := by
  have hls : s.data.toList.length = s.size := rfl
  have HLS := Lib.hid hls
  clear hls
  go_enter Tryz.func201, Tryz.ntmps201
  go_wp2
  go_loopw [1, 5] (fun i nd wr => ∃ p n : Nat, p ≤ s.size ∧ n ≤ p + 1 ∧ i = .int .i64 p ∧ nd = .int .i64 n ∧ wr = w ∧ Hid (runE s.data.toList n p = runE s.data.toList 1 a)) (fun i _ _ => s.size - (intOf i).toNat)
  case atStart => exact ⟨a, 1, ha, by omega, rfl, rfl, rfl, rfl⟩
  case round =>
    obtain ⟨p, n, hp, hn, rfl, rfl, rfl, HR⟩ := hrel
    rcases Nat.eq_zero_or_pos n with h0 | hpos
    · subst h0
      rw [runE_zero] at HR
      have HE : Hid (endV (runE s.data.toList 1 a) = (p : Int)) := by rw [Hid, ← HR.out]; rfl
      clear HR
      go_wp2
      go_ret
      rw [HE.out]
      exact ⟨rfl, rfl⟩
    · obtain ⟨m, hm⟩ : ∃ m, n = m + 1 := ⟨n - 1, by omega⟩
      rw [hm] at HR
      have d0 : decide ((0 : Int) < (n : Int)) = true := decide_eq_true (by omega)
      by_cases hlt : p < s.size
      · have hll : p < s.data.toList.length := hlt
        have q1 : (0 : Int) ≤ (p : Int) := by omega
        have q2 : (p : Int) < (s.size : Int) := by omega
        have d1 : decide ((s.size : Int) ≤ (p : Int)) = false := decide_eq_false (by omega)
        by_cases c1 : s[p] = 122
        · have e1 : ((s[p].toNat : Int) == 122) = true := is_byte c1
          have HR2 := Lib.hid ((runE_z hll c1).symm.trans HR.out)
          clear HR c1
          go_wp2
          go_roundw
          case rel => exact ⟨p + 1, m, by omega, by omega, by go_num, by simp <;> omega, trivial, HR2.out⟩
          case measure => simp [intOf]; omega
        have e1 : ((s[p].toNat : Int) == 122) = false := ne_byte c1
        by_cases c2 : s[p] = 43
        · have e2 : ((s[p].toNat : Int) == 43) = true := is_byte c2
          have HR2 := Lib.hid ((runE_up hll c2).symm.trans HR.out)
          rw [← hm] at HR2
          clear HR c2
          go_wp2
          go_roundw
          case rel => exact ⟨p + 1, n, by omega, by omega, by go_num, rfl, trivial, HR2.out⟩
          case measure => simp [intOf]; omega
        have e2 : ((s[p].toNat : Int) == 43) = false := ne_byte c2
        by_cases c3 : s[p] = 109
        · have e3 : ((s[p].toNat : Int) == 109) = true := is_byte c3
          have HR2 := Lib.hid ((runE_two hll (.inl c3)).symm.trans HR.out)
          clear HR c3
          go_wp2
          go_roundw
          case rel => exact ⟨p + 1, m + 2, by omega, by omega, by go_num, by simp <;> omega, trivial, HR2.out⟩
          case measure => simp [intOf]; omega
        have e3 : ((s[p].toNat : Int) == 109) = false := ne_byte c3
        by_cases c4 : s[p] = 105
        · have e4 : ((s[p].toNat : Int) == 105) = true := is_byte c4
          have HR2 := Lib.hid ((runE_two hll (.inr c4)).symm.trans HR.out)
          clear HR c4
          go_wp2
          go_roundw
          case rel => exact ⟨p + 1, m + 2, by omega, by omega, by go_num, by simp <;> omega, trivial, HR2.out⟩
          case measure => simp [intOf]; omega
        have e4 : ((s[p].toNat : Int) == 105) = false := ne_byte c4
        by_cases c5 : s[p] = 117
        · have e5 : ((s[p].toNat : Int) == 117) = true := is_byte c5
          by_cases hl2 : p + 1 < s.size
          · have hll2 : p + 1 < s.data.toList.length := hl2
            have d2 : decide ((s.size : Int) ≤ (p : Int) + 1) = false := decide_eq_false (by omega)
            have q3 : (0 : Int) ≤ (p : Int) + 1 := by omega
            have q4 : (p : Int) + 1 < (s.size : Int) := by omega
            by_cases b1 : 48 ≤ s[p + 1].toNat
            · have d3 : decide ((s[p + 1].toNat : Int) < 48) = false := decide_eq_false (by omega)
              by_cases b2 : s[p + 1].toNat ≤ 50
              · have d4 : decide ((50 : Int) < (s[p + 1].toNat : Int)) = false := decide_eq_false (by omega)
                have HR2 := Lib.hid ((runE_par hll2 c5 b1 b2).symm.trans HR.out)
                clear HR c5
                go_wp2
                go_roundw
                case rel => exact ⟨p + 2, m, by omega, by omega, by go_num, by simp <;> omega, trivial, HR2.out⟩
                case measure => simp [intOf]; omega
              · have d4 : decide ((50 : Int) < (s[p + 1].toNat : Int)) = true := decide_eq_true (by omega)
                have HR2 := Lib.hid ((runE_parBad (n := m) hll2 c5 (by rintro ⟨_, h⟩; exact b2 h)).symm.trans HR.out)
                have HE : Hid (endV (runE s.data.toList 1 a) = -1) := by rw [Hid, ← HR2.out]; rfl
                clear HR HR2 c5
                go_wp2
                go_ret
                rw [HE.out]
                exact ⟨rfl, rfl⟩
            · have d3 : decide ((s[p + 1].toNat : Int) < 48) = true := decide_eq_true (by omega)
              have HR2 := Lib.hid ((runE_parBad (n := m) hll2 c5 (by rintro ⟨h, _⟩; exact b1 h)).symm.trans HR.out)
              have HE : Hid (endV (runE s.data.toList 1 a) = -1) := by rw [Hid, ← HR2.out]; rfl
              clear HR HR2 c5
              go_wp2
              go_ret
              rw [HE.out]
              exact ⟨rfl, rfl⟩
          · have d2 : decide ((s.size : Int) ≤ (p : Int) + 1) = true := decide_eq_true (by omega)
            have HR2 := Lib.hid ((runE_parEnd (n := m) hll (by simpa using hl2) c5).symm.trans HR.out)
            have HE : Hid (endV (runE s.data.toList 1 a) = -1) := by rw [Hid, ← HR2.out]; rfl
            clear HR HR2 c5
            go_wp2
            go_ret
            rw [HE.out]
            exact ⟨rfl, rfl⟩
        · have e5 : ((s[p].toNat : Int) == 117) = false := ne_byte c5
          have HR2 := Lib.hid ((runE_bad (n := m) hll c1 c2 c3 c4 c5).symm.trans HR.out)
          have HE : Hid (endV (runE s.data.toList 1 a) = -1) := by rw [Hid, ← HR2.out]; rfl
          clear c1 c2 c3 c4 c5
          clear HR HR2
          go_wp2
          go_ret
          rw [HE.out]
          exact ⟨rfl, rfl⟩
      · have HR2 := Lib.hid ((runE_end (n := m) (l := s.data.toList) (p := p) (by simpa using hlt)).symm.trans HR.out)
        have HE : Hid (endV (runE s.data.toList 1 a) = -1) := by rw [Hid, ← HR2.out]; rfl
        have d1 : decide ((s.size : Int) ≤ (p : Int)) = true := decide_eq_true (by omega)
        clear HR HR2
        go_wp2
        go_ret
        rw [HE.out]
        exact ⟨rfl, rfl⟩
end Go.Proofs.YtgielbamebjjdaaGreatDoor
