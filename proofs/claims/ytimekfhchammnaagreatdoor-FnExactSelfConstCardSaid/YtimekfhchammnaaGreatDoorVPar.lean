/-
  Contracts of spec.LevelParams and LevelUps.
-/
import Derived.Test.YtimekfhchammnaaGreatDoorVEnd
namespace Go.Proofs.YtimekfhchammnaaGreatDoor
set_option maxRecDepth 100000
open Go.ChangeShapes Go.WideShapes Go.ChangeAt Go.RowKit
set_option linter.unusedSimpArgs false

theorem parF_step {l : List UInt8} {n p : Nat} (hp : p < l.length) (h : l[p] ≠ 117) : parF n (l.drop p) = parF n (l.drop (p + 1)) := by
  rw [List.drop_eq_getElem_cons hp, parF, if_neg (fun hc => h hc.1)]
theorem parF_more {l : List UInt8} {n p : Nat} (hp : p + 1 < l.length) (h : l[p] = 117) (hn : n < l[p + 1].toNat - 47) : parF n (l.drop p) = parF (l[p + 1].toNat - 47) (l.drop (p + 1)) := by
  rw [List.drop_eq_getElem_cons (show p < l.length by omega), parF]
  have e : (l.drop (p + 1)).headD 0 = l[p + 1] := by rw [List.drop_eq_getElem_cons hp]; rfl
  rw [e, if_pos ⟨h, hn⟩]
theorem parF_less {l : List UInt8} {n p : Nat} (hp : p + 1 < l.length) (hn : ¬ n < l[p + 1].toNat - 47) : parF n (l.drop p) = parF n (l.drop (p + 1)) := by
  rw [List.drop_eq_getElem_cons (show p < l.length by omega), parF]
  have e : (l.drop (p + 1)).headD 0 = l[p + 1] := by rw [List.drop_eq_getElem_cons hp]; rfl
  rw [e, if_neg (fun h => hn h.2)]

set_option maxHeartbeats 1000000 in
theorem specLevelParams (s : ByteArray) (w : World) (hs : s.size ≤ maxLen) :
    Calls Tryz.prog 82 #[.string s] w fun e w' => e = .returned (.int .i64 (levelParams s.data.toList : Int)) ∧ w' = w := by
  have f1 := Lib.hid fun W => specLevelOk s W hs
  have hls : s.data.toList.length = s.size := rfl
  unfold maxLen at hs
  rcases Nat.eq_zero_or_pos s.size with h0 | hpos
  · have HE : Hid (levelParams s.data.toList = 0) := by
      have : s.data.toList = [] := List.length_eq_zero_iff.1 (by omega)
      rw [Hid, this]
      simp [levelParams, parF]
    have d1 : decide ((0 : Int) < (s.size : Int)) = false := decide_eq_false (by omega)
    clear hls f1
    go_enter Tryz.func82, Tryz.ntmps82
    go_wp2
    refine wp_loop_rounds 1 ?_
    rw [rounds_succ]
    go_wp2
    go_ret
    rw [HE.out]
    exact ⟨rfl, rfl⟩
  by_cases hok : levelOk s.data.toList = true
  · rw [hok] at f1
    have HP := Lib.hid (lend_par_at s.data.toList 1 (levelOk_len hok).2)
    have h60 := (levelOk_len hok).1
    rw [hls] at h60
    have HE : Hid (levelParams s.data.toList = parF 0 s.data.toList) := if_pos hok
    rw [HE.out]
    clear hok HE hls
    go_enter Tryz.func82, Tryz.ntmps82
    go_wp2
    go_loopw [3, 4] (fun nn i wr => ∃ n p : Nat, p ≤ s.size ∧ n ≤ 208 ∧ nn = .int .i64 n ∧ i = .int .i64 p ∧ wr = w ∧ Hid (parF n (s.data.toList.drop p) = parF 0 s.data.toList)) (fun _ i _ => s.size - (intOf i).toNat)
    case atStart => exact ⟨0, 0, Nat.zero_le _, Nat.zero_le _, rfl, rfl, rfl, rfl⟩
    case round =>
      obtain ⟨n, p, hp, hn, rfl, rfl, rfl, HR⟩ := hrel
      by_cases hlt : p < s.size
      · have hll : p < s.data.toList.length := hlt
        have q1 : (0 : Int) ≤ (p : Int) := by omega
        have q2 : (p : Int) < (s.size : Int) := by omega
        by_cases c1 : s[p] = 117
        · have e1 : ((s[p].toNat : Int) == 117) = true := is_byte c1
          obtain ⟨hj, b1, b2⟩ := HP.out p hll c1
          have hj' : p + 1 < s.size := hj
          have b1' : 48 ≤ s[p + 1].toNat := b1
          have b2' : s[p + 1].toNat ≤ 50 := b2
          have q3 : (0 : Int) ≤ (p : Int) + 1 := by omega
          have q4 : (p : Int) + 1 < (s.size : Int) := by omega
          by_cases hm : n < s[p + 1].toNat - 47
          · have d2 : decide ((n : Int) < (s[p + 1].toNat : Int) - 47) = true := decide_eq_true (by omega)
            have HR2 := Lib.hid ((parF_more hj c1 hm).symm.trans HR.out)
            clear HR c1
            go_wp2_with fail
            (with_reducible refine (f1.out _).mono ?_); rintro e w1 ⟨rfl, rfl⟩
            go_wp2
            go_roundw
            case rel => exact ⟨s[p + 1].toNat - 47, p + 1, by omega, by omega, by simp <;> omega, by go_num, trivial, HR2.out⟩
            case measure => simp [intOf]; omega
          · have d2 : decide ((n : Int) < (s[p + 1].toNat : Int) - 47) = false := decide_eq_false (by omega)
            have HR2 := Lib.hid ((parF_less hj hm).symm.trans HR.out)
            clear HR c1
            go_wp2_with fail
            (with_reducible refine (f1.out _).mono ?_); rintro e w1 ⟨rfl, rfl⟩
            go_wp2
            go_roundw
            case rel => exact ⟨n, p + 1, by omega, by omega, rfl, by go_num, trivial, HR2.out⟩
            case measure => simp [intOf]; omega
        · have e1 : ((s[p].toNat : Int) == 117) = false := ne_byte c1
          have HR2 := Lib.hid ((parF_step hll c1).symm.trans HR.out)
          clear HR c1
          go_wp2_with fail
          (with_reducible refine (f1.out _).mono ?_); rintro e w1 ⟨rfl, rfl⟩
          go_wp2
          go_roundw
          case rel => exact ⟨n, p + 1, by omega, by omega, rfl, by go_num, trivial, HR2.out⟩
          case measure => simp [intOf]; omega
      · have hpe : p = s.size := by omega
        have HE : Hid (parF 0 s.data.toList = n) := by
          rw [Hid, ← HR.out, List.drop_eq_nil_of_le (by show s.size ≤ p; omega)]
          rfl
        have d1 : decide ((p : Int) < (s.size : Int)) = false := decide_eq_false (by omega)
        clear HR HP
        go_wp2
        go_ret
        rw [HE.out]
        exact ⟨rfl, rfl⟩
  · rw [Bool.not_eq_true] at hok
    rw [hok] at f1
    have HE : Hid (levelParams s.data.toList = 0) := if_neg (by rw [hok]; decide)
    have d1 : decide ((0 : Int) < (s.size : Int)) = true := decide_eq_true (by omega)
    clear hls hok
    go_enter Tryz.func82, Tryz.ntmps82
    go_wp2
    refine wp_loop_rounds 1 ?_
    rw [rounds_succ]
    go_wp2_with fail
    (with_reducible refine (f1.out _).mono ?_); rintro e w1 ⟨rfl, rfl⟩
    go_wp2
    go_ret
    rw [HE.out]
    exact ⟨rfl, rfl⟩

end Go.Proofs.YtimekfhchammnaaGreatDoor
