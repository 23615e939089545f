/-
  Contract of impl.LevelParams.
-/
import Derived.Test.YtdeophmdpbgkdaaVI1
import Derived.Test.YtdeophmdpbgkdaaVPar
import Derived.Lib.MinMax
namespace Go.Proofs.Ytdeophmdpbgkdaa
set_option maxRecDepth 100000
open Go.ChangeShapes Go.WideShapes Go.ChangeAt Go.RowKit
set_option linter.unusedSimpArgs false

theorem lend_map1 {o : Option Nat} {n : Nat} (h : o.map (· + 1) = some (n + 1)) : o = some n := by
  cases o with
  | none => cases h
  | some k => simp at h; rw [h]
theorem lend_map2 {o : Option Nat} {n : Nat} (h : o.map (· + 2) = some (n + 2)) : o = some n := by
  cases o with
  | none => cases h
  | some k => simp at h; rw [h]
/-- The greatest digit of a parameter, wherever it stands. -/
def digF : Nat → List UInt8 → Nat
  | n, [] => n
  | n, c :: r => digF (if 48 ≤ c.toNat ∧ c.toNat ≤ 50 then max n (c.toNat - 47) else n) r
theorem digF_eq : ∀ (l : List UInt8) (k : Nat), lend k l = some l.length → ∀ n, digF n l = parF n l := by
  refine lend_ind (motive := fun k l => lend k l = some l.length → ∀ n, digF n l = parF n l) ?_ ?_ ?_ ?_ ?_ ?_ ?_
  · intro l h n
    rw [lend_zero] at h
    have : l = [] := List.length_eq_zero_iff.1 (Option.some.inj h).symm
    rw [this]; rfl
  · intro n h; rw [lend_nil] at h; cases h
  · intro n r ih h m
    rw [lend_z] at h
    rw [digF, parF, if_neg (by decide), if_neg (fun hc => absurd hc.1 (by decide))]
    exact ih (lend_map1 h) m
  · intro n r ih h m
    rw [lend_up] at h
    rw [digF, parF, if_neg (by decide), if_neg (fun hc => absurd hc.1 (by decide))]
    exact ih (lend_map1 h) m
  · intro n c r hc ih h m
    rw [lend_two n hc] at h
    rw [digF, parF, if_neg (by rcases hc with rfl | rfl <;> decide), if_neg (fun hd => by rcases hc with rfl | rfl <;> exact absurd hd.1 (by decide))]
    exact ih (lend_map1 h) m
  · intro n d r h1 h2 ih h m
    rw [lend_par n h1 h2] at h
    have hd : d ≠ 117 := by rintro rfl; revert h2; decide
    rw [digF, if_neg (show ¬ (48 ≤ (117 : UInt8).toNat ∧ (117 : UInt8).toNat ≤ 50) by decide), digF, if_pos ⟨h1, h2⟩, ih (lend_map2 h), parF, parF]
    simp only [List.headD_cons, true_and, hd, false_and, if_false]
    congr 1
    by_cases hm : m < d.toNat - 47
    · rw [if_pos hm]; omega
    · rw [if_neg hm]; omega
  · intro n c r hbad h; rw [hbad] at h; cases h
theorem digF_mono : ∀ (l : List UInt8) (n : Nat), n ≤ digF n l
  | [], n => Nat.le_refl _
  | c :: r, n => by
    rw [digF]
    refine Nat.le_trans ?_ (digF_mono r _)
    split <;> omega
theorem digF_ge : ∀ (l : List UInt8) (n i : Nat) (hi : i < l.length), 48 ≤ l[i].toNat → l[i].toNat ≤ 50 → l[i].toNat - 47 ≤ digF n l
  | [], n, i, hi, _, _ => by simp at hi
  | c :: r, n, 0, hi, h1, h2 => by
    simp at h1 h2 ⊢
    rw [digF, if_pos ⟨h1, h2⟩]
    have := digF_mono r (max n (c.toNat - 47))
    omega
  | c :: r, n, i + 1, hi, h1, h2 => by
    simp only [List.getElem_cons_succ] at h1 h2 ⊢
    rw [digF]
    exact digF_ge r _ i (by simpa using hi) h1 h2
theorem digF_at {l : List UInt8} {n p : Nat} (hp : p < l.length) : digF n (l.drop p) = digF (if 48 ≤ l[p].toNat ∧ l[p].toNat ≤ 50 then max n (l[p].toNat - 47) else n) (l.drop (p + 1)) := by
  rw [List.drop_eq_getElem_cons hp, digF]

set_option maxHeartbeats 1000000 in
theorem implLevelParams (s : ByteArray) (w : World) (hs : s.size ≤ maxLen) :
    Calls Try.prog 38 #[.string s] w fun e w' => e = .returned (.int .i64 (levelParams s.data.toList : Int)) ∧ w' = w := by
  have f1 := Lib.hid fun W => implLevelOk s W hs
  have hls : s.data.toList.length = s.size := rfl
  unfold maxLen at hs
  by_cases hok : levelOk s.data.toList = true
  · rw [hok] at f1
    have h60 := (levelOk_len hok).1
    rw [hls] at h60
    have HE : Hid (levelParams s.data.toList = digF 0 s.data.toList) := (if_pos hok).trans (digF_eq s.data.toList 1 (levelOk_len hok).2 0).symm
    rw [HE.out]
    clear hok HE hls
    go_enter Try.func38, Try.ntmps38
    go_wp2_with fail
    (with_reducible refine (f1.out _).mono ?_); rintro e w1 ⟨rfl, rfl⟩
    clear f1
    go_wp2
    go_loopw [3, 4] (fun nn i wr => ∃ n p : Nat, p ≤ s.size ∧ n ≤ 208 ∧ nn = .int .i64 n ∧ i = .int .i64 p ∧ wr = w1 ∧ Hid (digF n (s.data.toList.drop p) = digF 0 s.data.toList)) (fun _ i _ => s.size - (intOf i).toNat)
    case atStart => exact ⟨0, 0, Nat.zero_le _, Nat.zero_le _, rfl, rfl, rfl, rfl⟩
    case round =>
      obtain ⟨n, p, hp, hn, rfl, rfl, rfl, HR⟩ := hrel
      by_cases hlt : p < s.size
      · have hll : p < s.data.toList.length := hlt
        have q1 : (0 : Int) ≤ (p : Int) := by omega
        have q2 : (p : Int) < (s.size : Int) := by omega
        have d1 : decide ((p : Int) < (s.size : Int)) = true := decide_eq_true (by omega)
        have f2 := Lib.hid fun W => implIsParam s[p] W
        by_cases b1 : 48 ≤ s[p].toNat ∧ s[p].toNat ≤ 50
        · have HR2 := Lib.hid ((digF_at (n := n) hll).symm.trans HR.out)
          rw [show s.data.toList[p] = s[p] from rfl, if_pos b1] at HR2
          have hmx : max (n : Int) (((s[p].toNat - 48 : Nat) : Int) + 1) = ((max n (s[p].toNat - 47) : Nat) : Int) := by omega
          have hmx2 : max n (s[p].toNat - 47) ≤ 208 := by omega
          have f3 := Lib.hid fun W => implParamOf s[p] W b1.1
          rw [decide_eq_true b1] at f2
          clear HR b1
          go_wp2_with fail
          (with_reducible refine (f2.out _).mono ?_); rintro e w1 ⟨rfl, rfl⟩
          go_wp2_with fail
          (with_reducible refine (f3.out _).mono ?_); rintro e w1 ⟨rfl, rfl⟩
          go_wp2
          go_roundw
          case rel => exact ⟨max n (s[p].toNat - 47), p + 1, by omega, hmx2, by simp <;> omega, by go_num, trivial, HR2.out⟩
          case measure => simp [intOf]; omega
        · have HR2 := Lib.hid ((digF_at (n := n) hll).symm.trans HR.out)
          rw [show s.data.toList[p] = s[p] from rfl, if_neg b1] at HR2
          rw [decide_eq_false b1] at f2
          clear HR b1
          go_wp2_with fail
          (with_reducible refine (f2.out _).mono ?_); rintro e w1 ⟨rfl, rfl⟩
          go_wp2
          go_roundw
          case rel => exact ⟨n, p + 1, by omega, hn, rfl, by go_num, trivial, HR2.out⟩
          case measure => simp [intOf]; omega
      · have d1 : decide ((p : Int) < (s.size : Int)) = false := decide_eq_false (by omega)
        have HE : Hid (digF 0 s.data.toList = n) := by
          rw [Hid, ← HR.out, List.drop_eq_nil_of_le (by show s.size ≤ p; omega)]; rfl
        clear HR
        go_wp2
        go_ret
        rw [HE.out]
        exact ⟨rfl, rfl⟩
  · have HE : Hid (levelParams s.data.toList = 0) := if_neg hok
    rw [Bool.not_eq_true] at hok
    rw [hok] at f1
    clear hok hls
    go_enter Try.func38, Try.ntmps38
    go_wp2_with fail
    (with_reducible refine (f1.out _).mono ?_); rintro e w1 ⟨rfl, rfl⟩
    go_wp2
    go_ret
    rw [HE.out]
    exact ⟨rfl, rfl⟩
end Go.Proofs.Ytdeophmdpbgkdaa
