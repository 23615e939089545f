/-
  laws.FnLevels from the contracts of the program's functions of chapter 4 (handed in as hypotheses).
-/
import Derived.Test.YtfmbipocbnhnbaaDr3
namespace Go.Proofs.Ytfmbipocbnhnbaa
set_option maxRecDepth 100000
open Go.ChangeShapes Go.WideShapes Go.ChangeAt Go.RowKit
set_option linter.unusedSimpArgs false

theorem bigB {w : World} {v : Value} {l : List UInt8} (hl : CameB w v l) (hm : l.length ≤ maxLen) :
    Calls Try.prog 9 #[v] w fun e w' => e = .returned (.bool (decide (1048576 < l.length))) ∧ w' = w := by
  obtain ⟨a0, cap, _, _, rfl, _⟩ := hl
  unfold maxLen at hm
  by_cases h : 1048576 < l.length
  · have d1 : decide ((1048576 : Int) < (l.length : Int)) = true := decide_eq_true (by omega)
    have HE : Hid (decide (1048576 < l.length) = true) := decide_eq_true h
    go_enter Try.func9, Try.ntmps9
    go_wp2
    go_ret
    rw [HE.out]
    exact ⟨rfl, rfl⟩
  · have d1 : decide ((1048576 : Int) < (l.length : Int)) = false := decide_eq_false (by omega)
    have HE : Hid (decide (1048576 < l.length) = false) := decide_eq_false h
    go_enter Try.func9, Try.ntmps9
    go_wp2
    go_ret
    rw [HE.out]
    exact ⟨rfl, rfl⟩

set_option maxHeartbeats 4000000 in
theorem lawLevels {v : Value} {l : List UInt8} (w : World) (hl : CameB w v l) (hm : l.length ≤ maxLen)
    (hOk : ∀ (s : ByteArray), s.size ≤ 1048576 → ∀ W, Calls Try.prog 12 #[.string s] W fun e w' => e = .returned (.bool (levelOk s.data.toList)) ∧ Below W.heap.size W w')
    (hEnd : ∀ (s : ByteArray) (x : Int), s.size ≤ 1048576 → ∀ W, Calls Try.prog 13 #[.string s, .int .i64 x] W fun e w' => e = .returned (.int .i64 (levelEnd s.data.toList x)) ∧ Below W.heap.size W w')
    (hPar : ∀ (s : ByteArray), s.size ≤ 1048576 → ∀ W, Calls Try.prog 15 #[.string s] W fun e w' => e = .returned (.int .i64 (levelParams s.data.toList : Int)) ∧ Below W.heap.size W w')
    (hUps : ∀ (s : ByteArray), s.size ≤ 1048576 → ∀ W, Calls Try.prog 14 #[.string s] W fun e w' => e = .returned (.int .i64 (levelUps s.data.toList : Int)) ∧ Below W.heap.size W w')
    (hPut : ∀ (s : ByteArray) (args : List (List UInt8)), s.size ≤ 1048576 → args.length ≤ 1048576 → (∀ x ∈ args, x.length ≤ 1048576) → ∀ (W : World) (b : Nat) (v : Value), W.ownsRow b 9 1 v args.length (args.map sv) → Calls Try.prog 11 #[.string s, v] W fun e w' => e = .returned (putRes (levelPut s.data.toList args)) ∧ Below W.heap.size W w') :
    Calls Try.prog 3 #[v] w fun e w' => e = .returned (.bool true) ∧ Below w.heap.size w w' := by
  have f0 := Lib.hid (bigB hl hm)
  by_cases hbig : 1048576 < l.length
  · rw [decide_eq_true hbig] at f0
    obtain ⟨a0, cap, _, _, rfl, _⟩ := hl
    clear hOk hEnd hPar hUps hPut
    go_enter Try.func3, Try.ntmps3
    go_wp2_with fail
    (with_reducible refine f0.out.mono ?_); rintro e w1 ⟨rfl, rfl⟩
    go_wp2
    go_ret
    exact ⟨rfl, Below.refl _ _⟩
  rw [decide_eq_false hbig] at f0
  have f1 := Lib.hid (drawLevels hl (by omega))
  obtain ⟨a0, cap, _, _, rfl, _⟩ := hl
  have gOk := Lib.hid hOk
  have gEnd := Lib.hid hEnd
  have gPar := Lib.hid hPar
  have gUps := Lib.hid hUps
  have gPut := Lib.hid hPut
  clear hOk hEnd hPar hUps hPut
  go_enter Try.func3, Try.ntmps3
  go_wp2_with fail
  (with_reducible refine f0.out.mono ?_); rintro e w1 ⟨rfl, rfl⟩
  go_wp2_with fail
  (with_reducible refine f1.out.mono ?_); rintro e w2 ⟨⟨a, b, hT, hla, hlb, rfl⟩, B2⟩
  clear f0 f1 hbig
  obtain ⟨t, hz, hzp, hzu⟩ := hT.zer
  have z2 := B2.size
  have sa : (⟨a.toArray⟩ : ByteArray).size = a.length := by simp [ByteArray.size]
  have sb : (⟨b.toArray⟩ : ByteArray).size = b.length := by simp [ByteArray.size]
  have HT : Hid (t.length ≤ 60) := by
    have := hz
    unfold levelPut at this
    split at this
    · rename_i h
      have e := Option.some.inj this
      rw [Hid, ← e]
      exact h.2.2.2.2
    · cases this
  have fP1 := Lib.hid fun W b v hv => gPut.out ⟨a.toArray⟩ own3 (by omega) (by decide) (fun x hx => by simp only [own3, List.mem_cons, List.not_mem_nil, or_false] at hx; rcases hx with rfl | rfl | rfl <;> decide) W b v hv
  rw [show (⟨a.toArray⟩ : ByteArray).data.toList = a from rfl, hT.own, show putRes (some a) = .tuple #[.string ⟨a.toArray⟩, .bool true] from rfl] at fP1
  have fP2 := Lib.hid fun W b v hv => gPut.out ((⟨#[43]⟩ : ByteArray) ++ ⟨a.toArray⟩) zer3 (by rw [lvBytes2]; simp [ByteArray.size]; omega) (by decide) (fun x hx => by simp only [zer3, List.mem_cons, List.not_mem_nil, or_false] at hx; rcases hx with rfl | rfl | rfl <;> decide) W b v hv
  rw [show ((⟨#[43]⟩ : ByteArray) ++ ⟨a.toArray⟩).data.toList = 43 :: a by rw [lvBytes2], hz, show putRes (some t) = .tuple #[.string ⟨t.toArray⟩, .bool true] from rfl] at fP2
  have fOa := Lib.hid (gOk.out ⟨a.toArray⟩ (by omega))
  rw [show (⟨a.toArray⟩ : ByteArray).data.toList = a from rfl, hT.ok] at fOa
  have eab : (⟨a.toArray⟩ : ByteArray) ++ ⟨b.toArray⟩ = ⟨(a ++ b).toArray⟩ := by apply ByteArray.ext; simp
  have lab : ((⟨a.toArray⟩ : ByteArray) ++ ⟨b.toArray⟩).data.toList = a ++ b := by rw [eab]
  have sab : ((⟨a.toArray⟩ : ByteArray) ++ ⟨b.toArray⟩).size ≤ 1048576 := by rw [eab]; simp [ByteArray.size]; omega
  have fOab := Lib.hid (gOk.out ((⟨a.toArray⟩ : ByteArray) ++ ⟨b.toArray⟩) sab)
  rw [lab, hT.not] at fOab
  have fE0 := Lib.hid (gEnd.out ((⟨a.toArray⟩ : ByteArray) ++ ⟨b.toArray⟩) 0 sab)
  rw [lab, hT.end0] at fE0
  have fE1 := Lib.hid (gEnd.out ((⟨a.toArray⟩ : ByteArray) ++ ⟨b.toArray⟩) (a.length : Int) sab)
  rw [lab, hT.end1] at fE1
  have fU0 := Lib.hid (gUps.out ((⟨#[109]⟩ : ByteArray) ++ ⟨a.toArray⟩ ++ ⟨b.toArray⟩) (by rw [lvBytes3]; simp [ByteArray.size]; omega))
  rw [show ((⟨#[109]⟩ : ByteArray) ++ ⟨a.toArray⟩ ++ ⟨b.toArray⟩).data.toList = 109 :: (a ++ b) by rw [lvBytes3], hT.ups] at fU0
  have fUa : Hid (∀ W, Calls Try.prog 14 #[.string ⟨a.toArray⟩] W fun e w' => e = .returned (.int .i64 (levelUps a : Int)) ∧ Below W.heap.size W w') := gUps.out ⟨a.toArray⟩ (by omega)
  have fUb : Hid (∀ W, Calls Try.prog 14 #[.string ⟨b.toArray⟩] W fun e w' => e = .returned (.int .i64 (levelUps b : Int)) ∧ Below W.heap.size W w') := gUps.out ⟨b.toArray⟩ (by omega)
  have fUt : Hid (∀ W, Calls Try.prog 14 #[.string ⟨t.toArray⟩] W fun e w' => e = .returned (.int .i64 (levelUps t : Int)) ∧ Below W.heap.size W w') := gUps.out ⟨t.toArray⟩ (by have := HT.out; simp [ByteArray.size]; omega)
  rw [hzu] at fUt
  have fPt : Hid (∀ W, Calls Try.prog 15 #[.string ⟨t.toArray⟩] W fun e w' => e = .returned (.int .i64 (levelParams t : Int)) ∧ Below W.heap.size W w') := gPar.out ⟨t.toArray⟩ (by have := HT.out; simp [ByteArray.size]; omega)
  rw [hzp] at fPt
  have fPa : Hid (∀ W, Calls Try.prog 15 #[.string ⟨a.toArray⟩] W fun e w' => e = .returned (.int .i64 (levelParams a : Int)) ∧ Below W.heap.size W w') := gPar.out ⟨a.toArray⟩ (by omega)
  have hpa : levelParams a ≤ 3 := levelParams_top
  have hua : levelUps a ≤ a.length := by unfold levelUps; split; exact List.count_le_length; omega
  have hub : levelUps b ≤ b.length := by unfold levelUps; split; exact List.count_le_length; omega
  have dpa : decide ((levelParams a : Int) ≤ 3) = true := decide_eq_true (by omega)
  clear gOk gEnd gPar gUps gPut hT hz hzp hzu HT eab lab sab
  generalize levelUps a = ua at fU0 fUa fUt hua
  generalize levelUps b = ub at fU0 fUb hub
  generalize levelParams a = pa at fPa hpa dpa
  have r1 := World.ownsRow_lit (base := w2.heap.size) (e := 9) (size := 1) w2 #[.string ⟨#[117, 48]⟩, .string ⟨#[117, 49]⟩, .string ⟨#[117, 50]⟩] 3 (Nat.le_refl _) (by decide) (by simp)
  have b2 := (Below.refl w2.heap.size w2).alloc (Nat.le_refl _) (.cells #[.string ⟨#[117, 48]⟩, .string ⟨#[117, 49]⟩, .string ⟨#[117, 50]⟩] 9)
  go_wp2_with fail
  (with_reducible refine (fP1.out _ _ _ r1).mono ?_); rintro e w3 ⟨rfl, hb3⟩
  have B3 := B2.trans ((b2.trans (hb3.mono (by simp))).mono z2)
  have z3 := B3.size
  clear r1 b2
  have r2 := World.ownsRow_lit (base := w3.heap.size) (e := 9) (size := 1) w3 #[.string ⟨#[122]⟩, .string ⟨#[122]⟩, .string ⟨#[122]⟩] 3 (Nat.le_refl _) (by decide) (by simp)
  have b3 := (Below.refl w3.heap.size w3).alloc (Nat.le_refl _) (.cells #[.string ⟨#[122]⟩, .string ⟨#[122]⟩, .string ⟨#[122]⟩] 9)
  go_wp2_with fail
  (with_reducible refine (fP2.out _ _ _ r2).mono ?_); rintro e w4 ⟨rfl, hb4⟩
  have B4 := B3.trans ((b3.trans (hb4.mono (by simp))).mono z3)
  clear r2 b3 hb3 hb4
  go_wp2_with fail
  (with_reducible refine (fOa.out _).mono ?_); rintro e w5 ⟨rfl, hb5⟩
  have B5 := B4.trans (hb5.mono B4.size)
  clear hb5
  go_wp2_with fail
  (with_reducible refine (fE0.out _).mono ?_); rintro e w6 ⟨rfl, hb6⟩
  have B6 := B5.trans (hb6.mono B5.size)
  clear hb6
  go_wp2_with fail
  (with_reducible refine (fE1.out _).mono ?_); rintro e w7 ⟨rfl, hb7⟩
  have B7 := B6.trans (hb7.mono B6.size)
  clear hb7
  go_wp2_with fail
  (with_reducible refine (fU0.out _).mono ?_); rintro e w8 ⟨rfl, hb8⟩
  have B8 := B7.trans (hb8.mono B7.size)
  clear hb8
  go_wp2_with fail
  (with_reducible refine (fUa.out _).mono ?_); rintro e w9 ⟨rfl, hb9⟩
  have B9 := B8.trans (hb9.mono B8.size)
  clear hb9
  go_wp2_with fail
  (with_reducible refine (fUb.out _).mono ?_); rintro e w10 ⟨rfl, hb10⟩
  have B10 := B9.trans (hb10.mono B9.size)
  clear hb10
  go_wp2_with fail
  (with_reducible refine (fPt.out _).mono ?_); rintro e w11 ⟨rfl, hb11⟩
  have B11 := B10.trans (hb11.mono B10.size)
  clear hb11
  go_wp2_with fail
  (with_reducible refine (fUt.out _).mono ?_); rintro e w12 ⟨rfl, hb12⟩
  have B12 := B11.trans (hb12.mono B11.size)
  clear hb12
  go_wp2_with fail
  (with_reducible refine (fUa.out _).mono ?_); rintro e w13 ⟨rfl, hb13⟩
  have B13 := B12.trans (hb13.mono B12.size)
  clear hb13
  go_wp2_with fail
  (with_reducible refine (fPa.out _).mono ?_); rintro e w14 ⟨rfl, hb14⟩
  have B14 := B13.trans (hb14.mono B13.size)
  clear hb14
  go_wp2_with fail
  (with_reducible refine (fOab.out _).mono ?_); rintro e w15 ⟨rfl, hb15⟩
  have B15 := B14.trans (hb15.mono B14.size)
  clear hb15
  go_wp2
  go_ret
  refine ⟨?_, B15⟩
  simp
end Go.Proofs.Ytfmbipocbnhnbaa
