/-
  The contract of spec.LevelPut.
-/
import Derived.Test.YtnklajagefedmaaGreatDoorVPar
import Derived.Test.YtnklajagefedmaaGreatDoorVPutM
import Derived.Lib.AppendStr
namespace Go.Proofs.YtnklajagefedmaaGreatDoor
set_option maxRecDepth 100000
open Go.ChangeShapes Go.WideShapes Go.ChangeAt Go.RowKit
set_option linter.unusedSimpArgs false

set_option maxHeartbeats 2000000 in
theorem specLevelPut (s : ByteArray) {w : World} {b : Nat} {v : Value} {args : List (List UInt8)} (h : w.ownsRow b 9 1 v args.length (args.map sv)) (hs : s.size ≤ maxLen) (hx : ∀ x ∈ args, x.length ≤ maxLen) (hn : args.length ≤ 10000000) :
    Calls Tryz.prog 10 #[.string s, v] w fun e w' => e = .returned (putRes (levelPut s.data.toList args)) ∧ Below w.heap.size w w' := by
  obtain ⟨a0, cap, rfl⟩ := own_sliceV h
  have f1 := Lib.hid fun W => specLevelOk s W hs
  have f2 := Lib.hid fun W => specLevelParams s W hs
  have hls : s.data.toList.length = s.size := rfl
  by_cases hok : levelOk s.data.toList = true
  rotate_left
  · have HE : Hid (levelPut s.data.toList args = none) := if_neg fun hc => hok hc.1
    rw [Bool.not_eq_true] at hok
    rw [hok] at f1
    clear hok h hls f2
    go_enter Tryz.func10, Tryz.ntmps10
    go_wp2_with fail
    (with_reducible refine (f1.out _).mono ?_); rintro e w1 ⟨rfl, rfl⟩
    go_wp2
    go_ret2
    rw [HE.out]
    exact ⟨rfl, Below.refl _ _⟩
  have h60 := (levelOk_len hok).1
  rw [hls] at h60
  have HP := Lib.hid (lend_par_at s.data.toList 1 (levelOk_len hok).2)
  have hpar : levelParams s.data.toList = parF 0 s.data.toList := if_pos hok
  have HOK := Lib.hid hok
  rw [hok] at f1
  clear hok hls
  by_cases h3 : args.length ≤ 3
  rotate_left
  · have HE : Hid (levelPut s.data.toList args = none) := if_neg fun hc => h3 hc.2.1
    have d1 : decide ((3 : Int) < (args.length : Int)) = true := decide_eq_true (by omega)
    clear h f2 hpar HP
    go_enter Tryz.func10, Tryz.ntmps10
    go_wp2_with fail
    (with_reducible refine (f1.out _).mono ?_); rintro e w1 ⟨rfl, rfl⟩
    go_wp2
    go_ret2
    rw [HE.out]
    exact ⟨rfl, Below.refl _ _⟩
  have d1 : decide ((3 : Int) < (args.length : Int)) = false := decide_eq_false (by omega)
  by_cases h4 : levelParams s.data.toList ≤ args.length
  rotate_left
  · have HE : Hid (levelPut s.data.toList args = none) := if_neg fun hc => h4 hc.2.2.1
    have d2 : decide ((args.length : Int) < (levelParams s.data.toList : Int)) = true := decide_eq_true (by omega)
    clear h hpar HP
    go_enter Tryz.func10, Tryz.ntmps10
    go_wp2_with fail
    (with_reducible refine (f1.out _).mono ?_); rintro e w1 ⟨rfl, rfl⟩
    go_wp2_with fail
    (with_reducible refine (f2.out _).mono ?_); rintro e w1 ⟨rfl, rfl⟩
    go_wp2
    go_ret2
    rw [HE.out]
    exact ⟨rfl, Below.refl _ _⟩
  have d2 : decide ((args.length : Int) < (levelParams s.data.toList : Int)) = false := decide_eq_false (by omega)
  have d2n : decide (args.length < levelParams s.data.toList) = false := decide_eq_false (by omega)
  have HG := Lib.hid (parF_ge s.data.toList 0)
  rw [← hpar] at HG
  clear hpar
  have f3 := Lib.hid fun (x : List UInt8) (hm : x ∈ args) W => specLevelOk ⟨x.toArray⟩ W (by simpa [ByteArray.size] using hx x hm)
  simp only at f3
  go_enter Tryz.func10, Tryz.ntmps10
  go_wp2_with fail
  (with_reducible refine (f1.out _).mono ?_); rintro e w1 ⟨rfl, rfl⟩
  go_wp2_with fail
  (with_reducible refine (f2.out _).mono ?_); rintro e w1 ⟨rfl, rfl⟩
  clear f1 f2
  go_wp2
  go_loopw [6] (fun i wr => ∃ k : Nat, k ≤ args.length ∧ i = .int .i64 k ∧ wr = w1 ∧ Hid (∀ j (hj : j < args.length), j < k → levelOk args[j] = true)) (fun i _ => args.length - (intOf i).toNat)
  case atStart => exact ⟨0, Nat.zero_le _, rfl, rfl, fun j _ hj => by omega⟩
  case round =>
    obtain ⟨k, hk, rfl, rfl, HA⟩ := hrel
    by_cases hlt : k < args.length
    · obtain ⟨g, cap', e0, _, hgl⟩ := h.form (by omega)
      cases e0
      have ex : (args.map sv)[k]? = some (sv args[k]) := by simp [hlt]
      have cc := (h.cellAt k (by omega)).trans ex
      unfold sv at cc
      have q1 : (0 : Int) ≤ (k : Int) := by omega
      have q2 : (k : Int) < (args.length : Int) := by omega
      have g3 := Lib.hid (f3.out args[k] (List.getElem_mem hlt))
      have HB : Hid (levelOk args[k] = false → levelPut s.data.toList args = none) := fun hb => if_neg fun hc => by
        have := hc.2.2.2.1 args[k] (List.getElem_mem hlt)
        rw [hb] at this
        cases this
      have HA2 : Hid (levelOk args[k] = true → ∀ j (hj : j < args.length), j < k + 1 → levelOk args[j] = true) := fun hb j hj hjk => if e : j = k then by subst e; exact hb else HA.out j hj (by omega)
      clear ex HA f3
      generalize levelOk args[k] = ok at g3 HB HA2
      generalize args[k] = x at cc g3
      cases ok
      · have HE := Lib.hid (HB.out rfl)
        clear HB HA2
        go_wp2_with fail
        (with_reducible refine (g3.out _).mono ?_); rintro e w2 ⟨rfl, rfl⟩
        go_wp2
        go_ret2
        rw [HE.out]
        exact ⟨rfl, Below.refl _ _⟩
      · have HN := Lib.hid (HA2.out rfl)
        clear HB HA2
        go_wp2_with fail
        (with_reducible refine (g3.out _).mono ?_); rintro e w2 ⟨rfl, rfl⟩
        go_wp2
        go_roundw
        case rel => exact ⟨k + 1, by omega, by go_num, trivial, HN.out⟩
        case measure => simp [intOf]; omega
    · rename World => wz
      have hke : args.length ≤ k := by omega
      have hall : ∀ x ∈ args, levelOk x = true := fun x hm => by
        obtain ⟨j, hj, e⟩ := List.getElem_of_mem hm
        rw [← e]
        exact HA.out j hj (by omega)
      have HL : Hid (∀ x ∈ args, x.length ≤ 60) := fun x hm => (levelOk_len (hall x hm)).1
      have HY : Hid ((putF args s.data.toList).length ≤ 60 → levelPut s.data.toList args = some (putF args s.data.toList)) := fun hc => if_pos ⟨HOK.out, h3, h4, hall, hc⟩
      have HN : Hid (¬ (putF args s.data.toList).length ≤ 60 → levelPut s.data.toList args = none) := fun hc => if_neg fun h5 => hc h5.2.2.2.2
      have dk : decide ((k : Int) < (args.length : Int)) = false := decide_eq_false (by omega)
      obtain ⟨i0, hi, hz0, hz1, hz2⟩ := info_parts info8
      clear HA hall f3
      go_wp2
      go_loopw [7, 8] (fun vo i wq => ∃ (p : Nat) (out : List UInt8), p ≤ s.size ∧ out.length ≤ 60 * p ∧ i = .int .i64 p ∧ wq.ownsRow wz.heap.size 5 1 vo out.length (out.map bv) ∧ Below wz.heap.size wz wq ∧ Hid (out ++ putF args (s.data.toList.drop p) = putF args s.data.toList)) (fun _ i _ => s.size - (intOf i).toNat)
      case atStart => exact ⟨0, [], Nat.zero_le _, Nat.le_refl _, rfl, World.ownsRow_lit wz #[] 0 (Nat.le_refl _) (by decide) (by simp), (Below.refl _ _).alloc (Nat.le_refl _) _, rfl⟩
      case round =>
        obtain ⟨p, out, hp, hol, rfl, hown, hbel, HR⟩ := hrel
        have hz := hbel.size
        have hl := hown.lt
        by_cases hlt2 : p < s.size
        · have hll : p < s.data.toList.length := hlt2
          have q1 : (0 : Int) ≤ (p : Int) := by omega
          have q2 : (p : Int) < (s.size : Int) := by omega
          by_cases c1 : s[p] = 117
          · have e1 : ((s[p].toNat : Int) == 117) = true := is_byte c1
            obtain ⟨hj, b1, b2⟩ := HP.out p hll c1
            have hj' : p + 1 < s.size := hj
            have hge := HG.out p hj c1
            have b1' : 48 ≤ s[p + 1].toNat := b1
            have b2' : s[p + 1].toNat ≤ 50 := b2
            have hge' : s[p + 1].toNat - 47 ≤ levelParams s.data.toList := hge
            have q3 : (0 : Int) ≤ (p : Int) + 1 := by omega
            have q4 : (p : Int) + 1 < (s.size : Int) := by omega
            obtain ⟨d, hd⟩ : ∃ d, s[p + 1].toNat = d + 48 := ⟨s[p + 1].toNat - 48, by omega⟩
            have hda : d < args.length := by omega
            obtain ⟨g, cap', e0, _, hgl⟩ := h.form (by omega)
            cases e0
            have ex : (args.map sv)[d]? = some (sv args[d]) := by simp [hda]
            have cc := (hbel.cell (p := ⟨g, d, none⟩) hgl).trans ((h.cellAt d (by omega)).trans ex)
            unfold sv at cc
            have q5 : (0 : Int) ≤ (d : Int) := by omega
            have q6 : (d : Int) < (args.length : Int) := by omega
            have e3 : IntKind.i64.wrap ((s[p + 1].toNat : Int)) = (d : Int) + 48 := by rw [hd]; exact IntWalk.i64_in _ (by omega)
            have e4 : IntKind.i64.wrap ((d : Int) + 48 - 48) = (d : Int) := by rw [show (d : Int) + 48 - 48 = (d : Int) by omega]; exact IntWalk.i64_in _ (by omega)
            have hxl := HL.out args[d] (List.getElem_mem hda)
            have HS := Lib.hid (putF_atPar (args := args) hj c1)
            have hget : args.getD (s.data.toList[p + 1].toNat - 48) [] = args[d] := by
              have : s.data.toList[p + 1].toNat - 48 = d := by show s[p + 1].toNat - 48 = d; omega
              rw [this]
              simp [hda]
            rw [hget] at HS
            have HR2 : Hid ((out ++ args[d]) ++ putF args (s.data.toList.drop (p + 2)) = putF args s.data.toList) := by rw [Hid, List.append_assoc, ← HS.out, HR.out]
            clear HS HR ex hget hge b1 b2
            generalize args[d] = x at cc hxl HR2
            go_wp2_with (at_builtin; refine Lib.wpList_append_own_string _ rfl _ _ 53 9 rfl wz.heap.size 5 i0 Tryz.underlying53 Tryz.underlying9 hi hz0 hz1 hz2 _ _ _ rfl hown ⟨x.toArray⟩ rfl (by simp only [maxLen, ByteArray.size, List.size_toArray]; omega) (by simp only [ByteArray.size, List.size_toArray]; omega) hz ?_; intro v1 w2 hown1 hgrow hat)
            rw [strCells_bv, ← List.map_append] at hown1
            go_roundw
            case rel => exact ⟨p + 2, out ++ x, by omega, by simp; omega, by go_num, by simpa [ByteArray.size] using hown1, hbel.grown hgrow hz (fun q hq => (hl q hq).1), HR2.out⟩
            case measure => simp [intOf]; omega
          · have e1 : ((s[p].toNat : Int) == 117) = false := ne_byte c1
            have HS := Lib.hid (putF_at (args := args) hll c1)
            have HR2 : Hid ((out ++ [s[p]]) ++ putF args (s.data.toList.drop (p + 1)) = putF args s.data.toList) := by
              rw [Hid, List.append_assoc]
              exact (congrArg (out ++ ·) HS.out.symm).trans HR.out
            clear HS HR c1
            go_wp2_with (at_builtin; refine wpList_append_own _ rfl _ _ 53 rfl wz.heap.size 5 i0 _ 1 1 Tryz.underlying53 hi hz0 hz1 hz2 rfl (by decide) _ _ _ rfl (hown.alloc _) ⟨_, 0, none⟩ 1 1 [.int .u8 (s[p].toNat : Int)] rfl rfl (oneNew _ _ _) (by simp [Value.oneCell']) (by simp only [maxLen]; omega) (by omega) (by simp; omega) ?_; intro v1 w2 hown1 hgrow hat)
            go_roundw
            case rel => exact ⟨p + 1, out ++ [s[p]], by omega, by simp; omega, by go_num, by simpa [bv] using hown1, (hbel.alloc hz _).grown hgrow (by simp; omega) (fun q hq => (hl q hq).1), HR2.out⟩
            case measure => simp [intOf]; omega
        · have hE : out = putF args s.data.toList := by
            have := HR.out
            rw [List.drop_eq_nil_of_le (by show s.size ≤ p; omega), putF_nil, List.append_nil] at this
            exact this
          have dp : decide ((p : Int) < (s.size : Int)) = false := decide_eq_false (by omega)
          rw [← hE] at HY HN
          have hcv := conv_own _ Tryz.underlying53 Tryz.underlying5 Tryz.underlying9 hown
          obtain ⟨ao, co, rfl⟩ : ∃ a c, u7 = .slice a out.length c := by
            rcases hown.2 with ⟨rfl, e⟩ | ⟨g, cap, cur, rfl, _⟩
            · exact ⟨_, _, by rw [e]⟩
            · exact ⟨_, _, rfl⟩
          clear hE HR hown
          by_cases h6 : out.length ≤ 60
          · have HE := Lib.hid (HY.out h6)
            have d6 : decide ((60 : Int) < (out.length : Int)) = false := decide_eq_false (by omega)
            go_wp2
            go_ret2
            rw [HE.out]
            exact ⟨rfl, hbel⟩
          · have HE := Lib.hid (HN.out h6)
            have d6 : decide ((60 : Int) < (out.length : Int)) = true := decide_eq_true (by omega)
            go_wp2
            go_ret2
            rw [HE.out]
            exact ⟨rfl, hbel⟩
end Go.Proofs.YtnklajagefedmaaGreatDoor
