/-
  Contracts of spec.l05At and LevelAt.
-/
import Derived.Test.YtdeophmdpbgkdaaUMath
import Derived.Test.YtdeophmdpbgkdaaVPut
import Derived.Test.YtdeophmdpbgkdaaInts
namespace Go.Proofs.Ytdeophmdpbgkdaa
set_option maxRecDepth 100000
open Go.ChangeShapes Go.WideShapes Go.ChangeAt Go.RowKit
set_option linter.unusedSimpArgs false

theorem drop_at {l : List UInt8} {p : Nat} {c : UInt8} {r : List UInt8} (h : l.drop p = c :: r) : ∃ hp : p < l.length, l[p] = c ∧ l.drop (p + 1) = r := by
  have hp : p < l.length := by
    by_cases hp : p < l.length
    · exact hp
    · rw [List.drop_eq_nil_of_le (by omega)] at h; cases h
  rw [List.drop_eq_getElem_cons hp] at h
  injection h with h1 h2
  exact ⟨hp, h1, h2⟩
theorem asV_le {vs : List Int} (hv : ∀ x ∈ vs, 0 ≤ x ∧ x ≤ 1000) (k : Fin 3) : asV (vs.map Int.toNat) k ≤ 1000 := by
  unfold asV
  by_cases hk : k.val < vs.length
  · have : (vs.map Int.toNat).getD k.val 0 = (vs[k.val]).toNat := by simp [hk]
    rw [this]
    have := hv _ (List.getElem_mem hk)
    omega
  · have : (vs.map Int.toNat).getD k.val 0 = 0 := by simp [List.getD, List.getElem?_eq_none (show vs.length ≤ k.val by omega)]
    omega
theorem asV_at {vs : List Int} (hv : ∀ x ∈ vs, 0 ≤ x ∧ x ≤ 1000) (k : Fin 3) (hk : k.val < vs.length) : vs[k.val] = (asV (vs.map Int.toNat) k : Int) := by
  unfold asV
  have : (vs.map Int.toNat).getD k.val 0 = (vs[k.val]).toNat := by simp [hk]
  rw [this]
  have := hv _ (List.getElem_mem hk)
  omega

set_option maxHeartbeats 4000000 in
theorem specL05At (s : ByteArray) {w : World} {b : Nat} {v : Value} {vs : List Int} (h : w.ownsRow b 3 1 v vs.length (vs.map iv)) (hs : s.size ≤ 60) (hv : ∀ x ∈ vs, 0 ≤ x ∧ x ≤ 1000) (hn : vs.length ≤ 3)
    (HG : Hid (∀ i (hi : i + 1 < s.data.toList.length), s.data.toList[i] = 117 → s.data.toList[i + 1].toNat - 47 ≤ vs.length)) :
    ∀ (t : Lv) (p : Nat) (r : List UInt8), s.data.toList.drop p = t.bytes ++ r → Calls Try.prog 49 #[.string s, .int .i64 (p : Int), v] w fun e w' => e = .returned (.tuple #[.int .i64 (t.val (asV (vs.map Int.toNat)) : Int), .int .i64 ((p + t.bytes.length : Nat) : Int)]) ∧ w' = w := by
  have HV := Lib.hid (Lv.val_le (asV_le hv))
  have HU := Lib.hid Lv.ups_lt
  have HA := Lib.hid (asV_at hv)
  have HL := Lib.hid (asV_le hv)
  have HLS : Hid (s.data.toList.length = s.size) := rfl
  generalize asV (vs.map Int.toNat) = V at HV HA HL
  have HVS := Lib.hid hv
  clear hv
  intro t
  induction t with
  | z =>
    intro p r hd
    obtain ⟨hp, c1, _⟩ := drop_at hd
    have hp' : p < s.size := hp
    have c1' : s[p] = 122 := c1
    have q1 : (0 : Int) ≤ (p : Int) := by omega
    have q2 : (p : Int) < (s.size : Int) := by omega
    have e1 : ((s[p].toNat : Int) == 122) = true := is_byte c1'
    clear c1 c1' hd
    go_enter Try.func49, Try.ntmps49
    go_wp2
    go_ret2
    exact ⟨rfl, rfl⟩
  | par k =>
    intro p r hd
    obtain ⟨hp, c1, hd2⟩ := drop_at hd
    obtain ⟨hp2, c2, _⟩ := drop_at hd2
    have hp' : p < s.size := hp
    have hp2' : p + 1 < s.size := hp2
    have c1' : s[p] = 117 := c1
    have hge := HG.out p hp2 c1
    have hb := (Lv.par_byte k).2.2
    have hb1 := (Lv.par_byte k).1
    rw [← c2] at hb hb1
    have hb' : s[p + 1].toNat - 48 = k.val := hb
    have hb1' : 48 ≤ s[p + 1].toNat := hb1
    have hge' : s[p + 1].toNat - 47 ≤ vs.length := hge
    have q1 : (0 : Int) ≤ (p : Int) := by omega
    have q2 : (p : Int) < (s.size : Int) := by omega
    have q3 : (0 : Int) ≤ (p : Int) + 1 := by omega
    have q4 : (p : Int) + 1 < (s.size : Int) := by omega
    have e1 : ((s[p].toNat : Int) == 117) = true := is_byte c1'
    have e0 : ((s[p].toNat : Int) == 122) = false := ne_byte (d := 122) (by rw [c1']; decide)
    have hkl : k.val < vs.length := by omega
    have e3 : s[p + 1].toNat = k.val + 48 := by omega
    obtain ⟨g, cap, rfl, _, hgl⟩ := h.form (by omega)
    have ex : (vs.map iv)[k.val]? = some (iv (V k : Int)) := by simp [hkl, HA.out k hkl]
    have cc := (h.cellAt k.val (by omega)).trans ex
    unfold iv at cc
    have q5 : (0 : Int) ≤ (k.val : Int) := by omega
    have q6 : (k.val : Int) < (vs.length : Int) := by omega
    have e4 : IntKind.i64.wrap ((s[p + 1].toNat : Int)) = (k.val : Int) + 48 := by rw [e3]; exact IntWalk.i64_in _ (by omega)
    have e5 : IntKind.i64.wrap ((k.val : Int) + 48 - 48) = (k.val : Int) := by rw [show (k.val : Int) + 48 - 48 = (k.val : Int) by omega]; exact IntWalk.i64_in _ (by omega)
    clear c1 c1' hd hd2 c2 hb hb1 hge ex h hb' e3 hb1' hge'
    go_enter Try.func49, Try.ntmps49
    go_wp2
    go_ret2
    exact ⟨rfl, rfl⟩
  | up t ih =>
    intro p r hd
    obtain ⟨hp, c1, hd2⟩ := drop_at hd
    have hp' : p < s.size := hp
    have c1' : s[p] = 43 := c1
    have q1 : (0 : Int) ≤ (p : Int) := by omega
    have q2 : (p : Int) < (s.size : Int) := by omega
    have e1 : ((s[p].toNat : Int) == 43) = true := is_byte c1'
    have e0 : ((s[p].toNat : Int) == 122) = false := ne_byte (d := 122) (by rw [c1']; decide)
    have e2 : ((s[p].toNat : Int) == 117) = false := ne_byte (d := 117) (by rw [c1']; decide)
    have hd2 : s.data.toList.drop (p + 1) = t.bytes ++ r := hd2
    have f1 := Lib.hid (ih (p + 1) r hd2)
    rw [show ((p + 1 : Nat) : Int) = (p : Int) + 1 by omega] at f1
    have hn1 := HV.out t
    have hn2 := HU.out t
    have hn3 : t.bytes.length ≤ 60 := by
      have e := congrArg List.length hd2
      have := HLS.out
      simp only [List.length_drop, List.length_append] at e
      omega
    have HF : Hid ((Lv.up t).val V = t.val V + 1 ∧ (Lv.up t).bytes.length = t.bytes.length + 1) := ⟨rfl, rfl⟩
    clear c1 c1' hd hd2 ih
    generalize (Lv.up t).val V = N at HF
    generalize (Lv.up t).bytes.length = M at HF
    generalize t.val V = n at f1 HF hn1
    generalize t.bytes.length = m at f1 HF hn2 hn3
    generalize t.ups = u at hn1 hn2
    go_enter Try.func49, Try.ntmps49
    go_wp2_with fail
    (with_reducible refine f1.out.mono ?_); rintro e w1 ⟨rfl, rfl⟩
    go_wp2
    go_ret2
    obtain ⟨rfl, rfl⟩ := HF.out
    exact ⟨by simp <;> omega, rfl⟩
  | mx a b iha ihb =>
    intro p r hd
    obtain ⟨hp, c1, hd2⟩ := drop_at hd
    have hp' : p < s.size := hp
    have c1' : s[p] = 109 := c1
    have q1 : (0 : Int) ≤ (p : Int) := by omega
    have q2 : (p : Int) < (s.size : Int) := by omega
    have e3 : ((s[p].toNat : Int) == 105) = false := ne_byte (d := 105) (by rw [c1']; decide)
    have e0 : ((s[p].toNat : Int) == 122) = false := ne_byte (d := 122) (by rw [c1']; decide)
    have e2 : ((s[p].toNat : Int) == 117) = false := ne_byte (d := 117) (by rw [c1']; decide)
    have e1 : ((s[p].toNat : Int) == 43) = false := ne_byte (d := 43) (by rw [c1']; decide)
    have hd2 : s.data.toList.drop (p + 1) = a.bytes ++ (b.bytes ++ r) := hd2.trans (List.append_assoc _ _ _)
    have f1 := Lib.hid (iha (p + 1) _ hd2)
    have hdb : s.data.toList.drop (p + 1 + a.bytes.length) = b.bytes ++ r := by
      rw [← List.drop_drop, hd2, List.drop_left]
    have f2 := Lib.hid (ihb _ r hdb)
    rw [show ((p + 1 + a.bytes.length : Nat) : Int) = (p : Int) + 1 + (a.bytes.length : Int) by omega] at f2
    rw [show ((p + 1 : Nat) : Int) = (p : Int) + 1 by omega] at f1
    have hn1 := HV.out a
    have hn2 := HU.out a
    have hm1 := HV.out b
    have hm2 := HU.out b
    have hn3 : p + 1 + a.bytes.length + b.bytes.length ≤ 60 := by
      have e := congrArg List.length hdb
      have e' := congrArg List.length hd2
      have := HLS.out
      simp only [List.length_drop, List.length_append] at e e'
      omega
    have HF : Hid ((Lv.mx a b).val V = max (a.val V) (b.val V) ∧ (Lv.mx a b).bytes.length = a.bytes.length + b.bytes.length + 1) := ⟨rfl, by simp [Lv.bytes]⟩
    clear c1 c1' hd hd2 iha ihb hdb
    generalize (Lv.mx a b).val V = N at HF
    generalize (Lv.mx a b).bytes.length = M at HF
    generalize a.val V = x at f1 HF hn1
    generalize b.val V = y at f2 HF hm1
    generalize a.bytes.length = m at f1 f2 HF hn2 hn3
    generalize b.bytes.length = k at f2 HF hm2 hn3
    generalize a.ups = u at hn1 hn2
    generalize b.ups = u' at hm1 hm2
    by_cases hxy : y < x
    · have d1 : decide ((y : Int) < (x : Int)) = true := decide_eq_true (by omega)
      have d1n : decide (y < x) = true := decide_eq_true (by omega)
      go_enter Try.func49, Try.ntmps49
      go_wp2_with fail
      (with_reducible refine f1.out.mono ?_); rintro e w1 ⟨rfl, rfl⟩
      go_wp2_with fail
      (with_reducible refine f2.out.mono ?_); rintro e w1 ⟨rfl, rfl⟩
      go_wp2
      go_ret2
      obtain ⟨rfl, rfl⟩ := HF.out
      rw [Nat.max_eq_left (by omega)]
      exact ⟨by simp <;> omega, rfl⟩
    · have d1 : decide ((y : Int) < (x : Int)) = false := decide_eq_false (by omega)
      have d1n : decide (y < x) = false := decide_eq_false (by omega)
      go_enter Try.func49, Try.ntmps49
      go_wp2_with fail
      (with_reducible refine f1.out.mono ?_); rintro e w1 ⟨rfl, rfl⟩
      go_wp2_with fail
      (with_reducible refine f2.out.mono ?_); rintro e w1 ⟨rfl, rfl⟩
      go_wp2
      go_ret2
      obtain ⟨rfl, rfl⟩ := HF.out
      rw [Nat.max_eq_right (by omega)]
      exact ⟨by simp <;> omega, rfl⟩
  | im a b iha ihb =>
    intro p r hd
    obtain ⟨hp, c1, hd2⟩ := drop_at hd
    have hp' : p < s.size := hp
    have c1' : s[p] = 105 := c1
    have q1 : (0 : Int) ≤ (p : Int) := by omega
    have q2 : (p : Int) < (s.size : Int) := by omega
    have e3 : ((s[p].toNat : Int) == 105) = true := is_byte c1'
    have e0 : ((s[p].toNat : Int) == 122) = false := ne_byte (d := 122) (by rw [c1']; decide)
    have e2 : ((s[p].toNat : Int) == 117) = false := ne_byte (d := 117) (by rw [c1']; decide)
    have e1 : ((s[p].toNat : Int) == 43) = false := ne_byte (d := 43) (by rw [c1']; decide)
    have hd2 : s.data.toList.drop (p + 1) = a.bytes ++ (b.bytes ++ r) := hd2.trans (List.append_assoc _ _ _)
    have f1 := Lib.hid (iha (p + 1) _ hd2)
    have hdb : s.data.toList.drop (p + 1 + a.bytes.length) = b.bytes ++ r := by
      rw [← List.drop_drop, hd2, List.drop_left]
    have f2 := Lib.hid (ihb _ r hdb)
    rw [show ((p + 1 + a.bytes.length : Nat) : Int) = (p : Int) + 1 + (a.bytes.length : Int) by omega] at f2
    rw [show ((p + 1 : Nat) : Int) = (p : Int) + 1 by omega] at f1
    have hn1 := HV.out a
    have hn2 := HU.out a
    have hm1 := HV.out b
    have hm2 := HU.out b
    have hn3 : p + 1 + a.bytes.length + b.bytes.length ≤ 60 := by
      have e := congrArg List.length hdb
      have e' := congrArg List.length hd2
      have := HLS.out
      simp only [List.length_drop, List.length_append] at e e'
      omega
    have HF : Hid ((Lv.im a b).val V = (if b.val V = 0 then 0 else max (a.val V) (b.val V)) ∧ (Lv.im a b).bytes.length = a.bytes.length + b.bytes.length + 1) := ⟨rfl, by simp [Lv.bytes]⟩
    clear c1 c1' hd hd2 iha ihb hdb
    generalize (Lv.im a b).val V = N at HF
    generalize (Lv.im a b).bytes.length = M at HF
    generalize a.val V = x at f1 HF hn1
    generalize b.val V = y at f2 HF hm1
    generalize a.bytes.length = m at f1 f2 HF hn2 hn3
    generalize b.bytes.length = k at f2 HF hm2 hn3
    generalize a.ups = u at hn1 hn2
    generalize b.ups = u' at hm1 hm2
    by_cases hy0 : y = 0
    · have dz : ((y : Int) == 0) = true := by simp [hy0]
      have HY := Lib.hid hy0
      clear hy0
      go_enter Try.func49, Try.ntmps49
      go_wp2_with fail
      (with_reducible refine f1.out.mono ?_); rintro e w1 ⟨rfl, rfl⟩
      go_wp2_with fail
      (with_reducible refine f2.out.mono ?_); rintro e w1 ⟨rfl, rfl⟩
      go_wp2
      go_ret2
      obtain ⟨rfl, rfl⟩ := HF.out
      rw [if_pos HY.out]
      exact ⟨by simp <;> omega, rfl⟩
    · have dz : ((y : Int) == 0) = false := beq_eq_false_iff_ne.2 (by omega)
      by_cases hxy : y < x
      · have d1 : decide ((y : Int) < (x : Int)) = true := decide_eq_true (by omega)
        have d1n : decide (y < x) = true := decide_eq_true (by omega)
        go_enter Try.func49, Try.ntmps49
        go_wp2_with fail
        (with_reducible refine f1.out.mono ?_); rintro e w1 ⟨rfl, rfl⟩
        go_wp2_with fail
        (with_reducible refine f2.out.mono ?_); rintro e w1 ⟨rfl, rfl⟩
        go_wp2
        go_ret2
        obtain ⟨rfl, rfl⟩ := HF.out
        rw [if_neg hy0, Nat.max_eq_left (by omega)]
        exact ⟨by simp <;> omega, rfl⟩
      · have d1 : decide ((y : Int) < (x : Int)) = false := decide_eq_false (by omega)
        have d1n : decide (y < x) = false := decide_eq_false (by omega)
        go_enter Try.func49, Try.ntmps49
        go_wp2_with fail
        (with_reducible refine f1.out.mono ?_); rintro e w1 ⟨rfl, rfl⟩
        go_wp2_with fail
        (with_reducible refine f2.out.mono ?_); rintro e w1 ⟨rfl, rfl⟩
        go_wp2
        go_ret2
        obtain ⟨rfl, rfl⟩ := HF.out
        rw [if_neg hy0, Nat.max_eq_right (by omega)]
        exact ⟨by simp <;> omega, rfl⟩
set_option maxHeartbeats 2000000 in
theorem specLevelAt (s : ByteArray) {w : World} {b : Nat} {v : Value} {vs : List Int} (h : w.ownsRow b 3 1 v vs.length (vs.map iv)) (hs : s.size ≤ maxLen) (hn : vs.length ≤ 10000000) :
    Calls Try.prog 23 #[.string s, v] w fun e w' => e = .returned (.int .i64 (levelAt s.data.toList vs)) ∧ w' = w := by
  obtain ⟨a0, cap, rfl⟩ := own_sliceI h
  have f1 := Lib.hid fun W => specLevelOk s W hs
  have f2 := Lib.hid fun W => specLevelParams s W hs
  have hls : s.data.toList.length = s.size := rfl
  by_cases hok : levelOk s.data.toList = true
  rotate_left
  · have HE : Hid (levelAt s.data.toList vs = -1) := if_neg fun hc => hok hc.1
    rw [Bool.not_eq_true] at hok
    rw [hok] at f1
    clear hok h hls f2
    go_enter Try.func23, Try.ntmps23
    go_wp2_with fail
    (with_reducible refine (f1.out _).mono ?_); rintro e w1 ⟨rfl, rfl⟩
    go_wp2
    go_ret
    rw [HE.out]
    exact ⟨rfl, rfl⟩
  have h60 := (levelOk_len hok).1
  rw [hls] at h60
  have hpar : levelParams s.data.toList = parF 0 s.data.toList := if_pos hok
  have HOK := Lib.hid hok
  rw [hok] at f1
  clear hok hls
  by_cases h3 : vs.length ≤ 3
  rotate_left
  · have HE : Hid (levelAt s.data.toList vs = -1) := if_neg fun hc => h3 hc.2.1
    have d1 : decide ((3 : Int) < (vs.length : Int)) = true := decide_eq_true (by omega)
    clear h f2 hpar
    go_enter Try.func23, Try.ntmps23
    go_wp2_with fail
    (with_reducible refine (f1.out _).mono ?_); rintro e w1 ⟨rfl, rfl⟩
    go_wp2
    go_ret
    rw [HE.out]
    exact ⟨rfl, rfl⟩
  have d1 : decide ((3 : Int) < (vs.length : Int)) = false := decide_eq_false (by omega)
  by_cases h4 : levelParams s.data.toList ≤ vs.length
  rotate_left
  · have HE : Hid (levelAt s.data.toList vs = -1) := if_neg fun hc => h4 hc.2.2.1
    have d2 : decide ((vs.length : Int) < (levelParams s.data.toList : Int)) = true := decide_eq_true (by omega)
    have d2n : decide (vs.length < levelParams s.data.toList) = true := decide_eq_true (by omega)
    clear h hpar
    go_enter Try.func23, Try.ntmps23
    go_wp2_with fail
    (with_reducible refine (f1.out _).mono ?_); rintro e w1 ⟨rfl, rfl⟩
    go_wp2_with fail
    (with_reducible refine (f2.out _).mono ?_); rintro e w1 ⟨rfl, rfl⟩
    go_wp2
    go_ret
    rw [HE.out]
    exact ⟨rfl, rfl⟩
  have d2 : decide ((vs.length : Int) < (levelParams s.data.toList : Int)) = false := decide_eq_false (by omega)
  have d2n : decide (vs.length < levelParams s.data.toList) = false := decide_eq_false (by omega)
  have HG : Hid (∀ i (hi : i + 1 < s.data.toList.length), s.data.toList[i] = 117 → s.data.toList[i + 1].toNat - 47 ≤ vs.length) := fun i hi he => Nat.le_trans (parF_ge s.data.toList 0 i hi he) (by rw [← hpar]; exact h4)
  clear hpar
  go_enter Try.func23, Try.ntmps23
  go_wp2_with fail
  (with_reducible refine (f1.out _).mono ?_); rintro e w1 ⟨rfl, rfl⟩
  go_wp2_with fail
  (with_reducible refine (f2.out _).mono ?_); rintro e w1 ⟨rfl, rfl⟩
  clear f1 f2
  go_wp2
  go_loopw [5] (fun i wr => ∃ k : Nat, k ≤ vs.length ∧ i = .int .i64 k ∧ wr = w1 ∧ Hid (∀ j (hj : j < vs.length), j < k → 0 ≤ vs[j] ∧ vs[j] ≤ 1000)) (fun i _ => vs.length - (intOf i).toNat)
  case atStart => exact ⟨0, Nat.zero_le _, rfl, rfl, fun j _ hj => by omega⟩
  case round =>
    obtain ⟨k, hk, rfl, rfl, HA⟩ := hrel
    by_cases hlt : k < vs.length
    · obtain ⟨g, cap', e0, _, hgl⟩ := h.form (by omega)
      cases e0
      have ex : (vs.map iv)[k]? = some (iv vs[k]) := by simp [hlt]
      have cc := (h.cellAt k (by omega)).trans ex
      unfold iv at cc
      have q1 : (0 : Int) ≤ (k : Int) := by omega
      have q2 : (k : Int) < (vs.length : Int) := by omega
      have g3 := Lib.hid fun W => specInV vs[k] 0 1000 W
      have HB : Hid ((decide ((0 : Int) ≤ vs[k]) && decide (vs[k] ≤ (1000 : Int))) = false → levelAt s.data.toList vs = -1) := fun hb => if_neg fun hc => by
        have := hc.2.2.2 vs[k] (List.getElem_mem hlt)
        rw [decide_eq_true this.1, decide_eq_true this.2] at hb
        cases hb
      have HA2 : Hid ((decide ((0 : Int) ≤ vs[k]) && decide (vs[k] ≤ (1000 : Int))) = true → ∀ j (hj : j < vs.length), j < k + 1 → 0 ≤ vs[j] ∧ vs[j] ≤ 1000) := fun hb j hj hjk => if e : j = k then by subst e; simpa using hb else HA.out j hj (by omega)
      clear ex HA
      generalize (decide ((0 : Int) ≤ vs[k]) && decide (vs[k] ≤ (1000 : Int))) = ok at g3 HB HA2
      generalize vs[k] = x at cc g3
      cases ok
      · have HE := Lib.hid (HB.out rfl)
        clear HB HA2
        go_wp2_with fail
        (with_reducible refine (g3.out _).mono ?_); rintro e w2 ⟨rfl, rfl⟩
        go_wp2
        go_ret
        rw [HE.out]
        exact ⟨rfl, rfl⟩
      · have HN := Lib.hid (HA2.out rfl)
        clear HB HA2
        go_wp2_with fail
        (with_reducible refine (g3.out _).mono ?_); rintro e w2 ⟨rfl, rfl⟩
        go_wp2
        go_roundw
        case rel => exact ⟨k + 1, by omega, by go_num, trivial, HN.out⟩
        case measure => simp [intOf]; omega
    · have hall : ∀ x ∈ vs, 0 ≤ x ∧ x ≤ 1000 := fun x hm => by
        obtain ⟨j, hj, e⟩ := List.getElem_of_mem hm
        rw [← e]
        exact HA.out j hj (by omega)
      obtain ⟨t, ht⟩ := level_tree HOK.out
      have HY : Hid (levelAt s.data.toList vs = (t.val (asV (vs.map Int.toNat)) : Int)) := by
        have e : levelAt s.data.toList vs = (lval (vs.map Int.toNat) s.data.toList : Int) := if_pos ⟨HOK.out, h3, h4, hall⟩
        rw [Hid, e, ht, lval_tree]
      have f3 := Lib.hid (specL05At s h h60 hall h3 HG t 0 [] (by rw [ht]; simp))
      rw [show (((0 : Nat) : Int)) = 0 by rfl] at f3
      have dk : decide ((k : Int) < (vs.length : Int)) = false := decide_eq_false (by omega)
      clear HA hall ht h
      go_wp2_with fail
      (with_reducible refine f3.out.mono ?_); rintro e w2 ⟨rfl, rfl⟩
      go_wp2
      go_ret
      rw [HY.out]
      exact ⟨rfl, rfl⟩
end Go.Proofs.Ytdeophmdpbgkdaa
