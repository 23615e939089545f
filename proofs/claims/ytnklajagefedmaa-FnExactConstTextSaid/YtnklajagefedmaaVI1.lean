/-
  Contracts of impl.isParam, impl.paramOf, impl.LevelEnd and impl.LevelOk.
-/
import Derived.Test.YtnklajagefedmaaVEndM
import Derived.ScopeJumps
import Derived.WalkMore
namespace Go.Proofs.Ytnklajagefedmaa
set_option maxRecDepth 100000
open Go.ChangeShapes Go.WideShapes Go.ChangeAt Go.RowKit
set_option linter.unusedSimpArgs false

/-- A scope that a run may leave ahead of its end by a goto to one label behind, from where it runs on without another. -/
theorem wp_scope_on {P : Program} {a : Act} {w : World} {Q : Exit → Act → World → Prop} {c rest : Code} (l : Nat) (hf : findLabel c l = some rest)
    (first : c.wp P (Exit.jump l (fun a w => rest.wp P (Exit.noGoto Q) a w) Q) a w) : (Code.scope c).wp P Q a w := by
  refine wp_scope_jumps l _ (fun _ _ => 0) hf first fun a w h => ?_
  refine Code.wp_mono ?_ h
  intro e a w hq
  cases e <;> first | exact hq | exact hq.elim

theorem implIsParam (c : UInt8) (w : World) :
    Calls Try.prog 20 #[.int .u8 (c.toNat : Int)] w fun e w' => e = .returned (.bool (decide (48 ≤ c.toNat ∧ c.toNat ≤ 50))) ∧ w' = w := by
  by_cases h1 : 48 ≤ c.toNat
  · have d1 : decide ((48 : Int) ≤ (c.toNat : Int)) = true := decide_eq_true (by omega)
    by_cases h2 : c.toNat ≤ 50
    · have d2 : decide ((c.toNat : Int) < 51) = true := decide_eq_true (by omega)
      have HE := Lib.hid (decide_eq_true (p := 48 ≤ c.toNat ∧ c.toNat ≤ 50) ⟨h1, h2⟩)
      clear h1 h2
      go_enter Try.func20, Try.ntmps20
      go_wp2
      go_ret
      rw [HE.out]; exact ⟨rfl, rfl⟩
    · have d2 : decide ((c.toNat : Int) < 51) = false := decide_eq_false (by omega)
      have HE := Lib.hid (decide_eq_false (p := 48 ≤ c.toNat ∧ c.toNat ≤ 50) (by omega))
      clear h1 h2
      go_enter Try.func20, Try.ntmps20
      go_wp2
      go_ret
      rw [HE.out]; exact ⟨rfl, rfl⟩
  · have d1 : decide ((48 : Int) ≤ (c.toNat : Int)) = false := decide_eq_false (by omega)
    have HE := Lib.hid (decide_eq_false (p := 48 ≤ c.toNat ∧ c.toNat ≤ 50) (by omega))
    clear h1
    go_enter Try.func20, Try.ntmps20
    go_wp2
    go_ret
    rw [HE.out]; exact ⟨rfl, rfl⟩

set_option maxHeartbeats 4000000 in
theorem implLevelEndIn (s : ByteArray) (a : Nat) (w : World) (hs : s.size ≤ 10000) (ha : a ≤ s.size) :
    Calls Try.prog 19 #[.string s, .int .i64 (a : Int)] w fun e w' => e = .returned (.int .i64 (endV (runE s.data.toList 1 a))) ∧ w' = w := by
  have d01 : decide ((a : Int) < 0) = false := decide_eq_false (by omega)
  have d02 : decide ((s.size : Int) < (a : Int)) = false := decide_eq_false (by omega)
  have d04 : decide (s.size < a) = false := decide_eq_false (by omega)
  have d03 : decide ((10000 : Int) < (s.size : Int)) = false := decide_eq_false (by omega)
  have hls : s.data.toList.length = s.size := rfl
  have HLS := Lib.hid hls
  clear hls
  go_enter Try.func19, Try.ntmps19
  go_wp2
  refine wp_scope_on 0 rfl ?_
  generalize hQ : Exit.jump 0 _ _ = QQ
  go_wp2
  clear d01 d02 d03
  go_loopw [1, 5] (fun i nd wr => ∃ p n : Nat, p ≤ s.size ∧ n ≤ p + 1 ∧ i = .int .i64 p ∧ nd = .int .i64 n ∧ wr = w ∧ Hid (runE s.data.toList n p = runE s.data.toList 1 a)) (fun i _ _ => s.size - (intOf i).toNat)
  case atStart => exact ⟨a, 1, ha, by omega, rfl, rfl, rfl, rfl⟩
  case round =>
    obtain ⟨p, n, hp, hn, rfl, rfl, rfl, HR⟩ := hrel
    rcases Nat.eq_zero_or_pos n with h0 | hpos
    · subst h0
      rw [runE_zero] at HR
      have HE : Hid (endV (runE s.data.toList 1 a) = (p : Int)) := by rw [Hid, ← HR.out]; rfl
      clear HR
      go_wp2
      subst hQ
      simp only [Exit.jump]
      go_ret
      rw [HE.out]
      exact ⟨rfl, rfl⟩
    · obtain ⟨m, hm⟩ : ∃ m, n = m + 1 := ⟨n - 1, by omega⟩
      rw [hm] at HR
      have d0 : decide ((0 : Int) < (n : Int)) = true := decide_eq_true (by omega)
      by_cases hlt : p < s.size
      · have hll : p < s.data.toList.length := hlt
        have q1 : (0 : Int) ≤ (p : Int) := by omega
        have q2 : (p : Int) < (s.size : Int) := by omega
        have d1 : ((p : Int) == (s.size : Int)) = false := beq_eq_false_iff_ne.2 (by omega)
        by_cases c1 : s[p] = 122
        · have e1 : ((s[p].toNat : Int) == 122) = true := is_byte c1
          have HR2 := Lib.hid ((runE_z hll c1).symm.trans HR.out)
          clear HR c1
          go_wp2
          go_roundw
          case rel => exact ⟨p + 1, m, by omega, by omega, by go_num, by simp <;> omega, trivial, HR2.out⟩
          case measure => simp [intOf]; omega
        have e1 : ((s[p].toNat : Int) == 122) = false := ne_byte c1
        by_cases c2 : s[p] = 43
        · have e2 : ((s[p].toNat : Int) == 43) = true := is_byte c2
          have HR2 := Lib.hid ((runE_up hll c2).symm.trans HR.out)
          clear HR c2
          go_wp2
          go_roundw
          case rel => exact ⟨p + 1, m + 1, by omega, by omega, by go_num, by simp <;> omega, trivial, HR2.out⟩
          case measure => simp [intOf]; omega
        have e2 : ((s[p].toNat : Int) == 43) = false := ne_byte c2
        by_cases c3 : s[p] = 109
        · have e3 : ((s[p].toNat : Int) == 109) = true := is_byte c3
          have HR2 := Lib.hid ((runE_two hll (.inl c3)).symm.trans HR.out)
          clear HR c3
          go_wp2
          go_roundw
          case rel => exact ⟨p + 1, m + 2, by omega, by omega, by go_num, by simp <;> omega, trivial, HR2.out⟩
          case measure => simp [intOf]; omega
        have e3 : ((s[p].toNat : Int) == 109) = false := ne_byte c3
        by_cases c4 : s[p] = 105
        · have e4 : ((s[p].toNat : Int) == 105) = true := is_byte c4
          have HR2 := Lib.hid ((runE_two hll (.inr c4)).symm.trans HR.out)
          clear HR c4
          go_wp2
          go_roundw
          case rel => exact ⟨p + 1, m + 2, by omega, by omega, by go_num, by simp <;> omega, trivial, HR2.out⟩
          case measure => simp [intOf]; omega
        have e4 : ((s[p].toNat : Int) == 105) = false := ne_byte c4
        by_cases c5 : s[p] = 117
        · have e5 : ((s[p].toNat : Int) == 117) = true := is_byte c5
          by_cases hl2 : p + 1 < s.size
          · have hll2 : p + 1 < s.data.toList.length := hl2
            have d2 : ((p : Int) + 1 == (s.size : Int)) = false := beq_eq_false_iff_ne.2 (by omega)
            have q3 : (0 : Int) ≤ (p : Int) + 1 := by omega
            have q4 : (p : Int) + 1 < (s.size : Int) := by omega
            have f1 := Lib.hid fun W => implIsParam s[p + 1] W
            by_cases b1 : 48 ≤ s[p + 1].toNat ∧ s[p + 1].toNat ≤ 50
            · have HR2 := Lib.hid ((runE_par hll2 c5 b1.1 b1.2).symm.trans HR.out)
              rw [decide_eq_true b1] at f1
              clear HR c5 b1
              go_wp2_with fail
              (with_reducible refine (f1.out _).mono ?_); rintro e w1 ⟨rfl, rfl⟩
              go_wp2
              go_roundw
              case rel => exact ⟨p + 2, m, by omega, by omega, by go_num, by simp <;> omega, trivial, HR2.out⟩
              case measure => simp [intOf]; omega
            · rw [decide_eq_false b1] at f1
              have HR2 := Lib.hid ((runE_parBad (n := m) hll2 c5 b1).symm.trans HR.out)
              have HE : Hid (endV (runE s.data.toList 1 a) = -1) := by rw [Hid, ← HR2.out]; rfl
              clear HR HR2 c5 b1
              go_wp2_with fail
              (with_reducible refine (f1.out _).mono ?_); rintro e w1 ⟨rfl, rfl⟩
              go_wp2
              subst hQ
              simp only [Exit.jump]
              go_ret
              rw [HE.out]
              exact ⟨rfl, rfl⟩
          · have d2 : ((p : Int) + 1 == (s.size : Int)) = true := beq_iff_eq.2 (by omega)
            have HR2 := Lib.hid ((runE_parEnd (n := m) hll (by simpa using hl2) c5).symm.trans HR.out)
            have HE : Hid (endV (runE s.data.toList 1 a) = -1) := by rw [Hid, ← HR2.out]; rfl
            clear HR HR2 c5
            go_wp2
            go_step3
            subst hQ
            refine ⟨rfl, ?_⟩
            go_wp2
            rw [Exit.noGoto_ret]
            go_ret
            rw [HE.out]
            exact ⟨rfl, rfl⟩
        · have e5 : ((s[p].toNat : Int) == 117) = false := ne_byte c5
          have HR2 := Lib.hid ((runE_bad (n := m) hll c1 c2 c3 c4 c5).symm.trans HR.out)
          have HE : Hid (endV (runE s.data.toList 1 a) = -1) := by rw [Hid, ← HR2.out]; rfl
          clear HR HR2 c1 c2 c3 c4 c5
          go_wp2
          subst hQ
          simp only [Exit.jump]
          go_ret
          rw [HE.out]
          exact ⟨rfl, rfl⟩
      · have d1 : ((p : Int) == (s.size : Int)) = true := beq_iff_eq.2 (by omega)
        have HR2 := Lib.hid ((runE_end (n := m) (l := s.data.toList) (p := p) (by simpa using hlt)).symm.trans HR.out)
        have HE : Hid (endV (runE s.data.toList 1 a) = -1) := by rw [Hid, ← HR2.out]; rfl
        clear HR HR2 
        go_wp2
        go_step3
        subst hQ
        refine ⟨rfl, ?_⟩
        go_wp2
        rw [Exit.noGoto_ret]
        go_ret
        rw [HE.out]
        exact ⟨rfl, rfl⟩

theorem implLevelEnd (s : ByteArray) (x : Int) (w : World) (hs : s.size ≤ maxLen) :
    Calls Try.prog 19 #[.string s, .int .i64 x] w fun e w' => e = .returned (.int .i64 (levelEnd s.data.toList x)) ∧ w' = w := by
  have hls : s.data.toList.length = s.size := rfl
  by_cases hin : s.size ≤ 10000 ∧ 0 ≤ x ∧ x ≤ (s.size : Int)
  · obtain ⟨h1, h2, h3⟩ := hin
    obtain ⟨a, rfl⟩ : ∃ a : Nat, x = (a : Int) := ⟨x.toNat, by omega⟩
    rw [levelEnd_in (l := s.data.toList) (a := a) (by omega) (by omega)]
    exact implLevelEndIn s a w h1 (by omega)
  · have HE : Hid (levelEnd s.data.toList x = -1) := by rw [Hid, levelEnd, if_pos (by rw [hls]; omega)]
    unfold maxLen at hs
    clear hls
    by_cases h1 : x < 0
    · have d1 : decide (x < 0) = true := decide_eq_true h1
      clear hin h1
      go_enter Try.func19, Try.ntmps19
      go_wp2
      refine wp_scope_on 0 rfl ?_
      generalize hQ : Exit.jump 0 _ _ = QQ
      go_wp2
      subst hQ
      simp only [Exit.jump]
      go_ret
      rw [HE.out]
      exact ⟨rfl, rfl⟩
    have d1 : decide (x < 0) = false := decide_eq_false h1
    by_cases h2 : (s.size : Int) < x
    · have d2 : decide ((s.size : Int) < x) = true := decide_eq_true h2
      clear hin h1 h2
      go_enter Try.func19, Try.ntmps19
      go_wp2
      refine wp_scope_on 0 rfl ?_
      generalize hQ : Exit.jump 0 _ _ = QQ
      go_wp2
      subst hQ
      simp only [Exit.jump]
      go_ret
      rw [HE.out]
      exact ⟨rfl, rfl⟩
    have d2 : decide ((s.size : Int) < x) = false := decide_eq_false h2
    have d3 : decide ((10000 : Int) < (s.size : Int)) = true := decide_eq_true (by omega)
    clear hin h1 h2
    go_enter Try.func19, Try.ntmps19
    go_wp2
    refine wp_scope_on 0 rfl ?_
    generalize hQ : Exit.jump 0 _ _ = QQ
    go_wp2
    subst hQ
    simp only [Exit.jump]
    go_ret
    rw [HE.out]
    exact ⟨rfl, rfl⟩

theorem implLevelOk (s : ByteArray) (w : World) (hs : s.size ≤ maxLen) :
    Calls Try.prog 18 #[.string s] w fun e w' => e = .returned (.bool (levelOk s.data.toList)) ∧ w' = w := by
  have hls : s.data.toList.length = s.size := rfl
  unfold maxLen at hs
  by_cases h1 : s.size ≤ 60
  · have d1 : decide ((s.size : Int) ≤ 60) = true := decide_eq_true (by omega)
    have f1 : Hid (∀ W, Calls Try.prog 19 #[.string s, .int .i64 0] W fun e w' => e = .returned (.int .i64 (endV (runE s.data.toList 1 0))) ∧ w' = W) := fun W => implLevelEndIn s 0 W (by omega) (by omega)
    have HE := Lib.hid (endV_ok (l := s.data.toList) (by omega))
    rw [hls] at HE
    clear hls
    generalize endV (runE s.data.toList 1 0) = r at f1 HE
    go_enter Try.func18, Try.ntmps18
    go_wp2_with fail
    (with_reducible refine (f1.out _).mono ?_); rintro e w1 ⟨rfl, rfl⟩
    go_wp2
    go_ret
    rw [← HE.out]
    exact ⟨rfl, rfl⟩
  · have d1 : decide ((s.size : Int) ≤ 60) = false := decide_eq_false (by omega)
    have HE : Hid (levelOk s.data.toList = false) := by rw [Hid, levelOk, hls, decide_eq_false h1]; rfl
    clear hls
    go_enter Try.func18, Try.ntmps18
    go_wp2
    go_ret
    rw [HE.out]
    exact ⟨rfl, rfl⟩
end Go.Proofs.Ytnklajagefedmaa
