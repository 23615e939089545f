/-
  laws.FnLevelOrder from the contracts of the program's functions (handed in as hypotheses).
-/
import Derived.Test.YtdeophmdpbgkdaaUOrd
import Derived.Test.YtdeophmdpbgkdaaUDr
import Derived.Test.YtdeophmdpbgkdaaBig
import Derived.Test.YtdeophmdpbgkdaaULe
import Derived.StillTailTactics
namespace Go.Proofs.Ytdeophmdpbgkdaa
set_option maxRecDepth 100000
open Go.ChangeShapes Go.WideShapes Go.ChangeAt Go.RowKit
set_option linter.unusedSimpArgs false

theorem LvP.ok' {a : List UInt8} (h : LvP a) (hl : a.length ≤ 23) : levelOk a = true := h.run.ok (by omega)
theorem ba2 (a b : List UInt8) : (⟨a.toArray⟩ : ByteArray) ++ ⟨b.toArray⟩ = ⟨(a ++ b).toArray⟩ := by
  apply ByteArray.ext
  simp
theorem ba_size (a : List UInt8) : (⟨a.toArray⟩ : ByteArray).size = a.length := by simp [ByteArray.size]

theorem wit_three {a b : List UInt8} {ws : List Nat} (h : levelWit a b = some ws) : ws.length = 3 := by
  rw [levelWit] at h
  split at h
  · obtain ⟨i, _, rfl⟩ := Option.map_eq_some_iff.1 h
    rfl
  · cases h

set_option maxHeartbeats 8000000 in
theorem lawLevelOrder {v : Value} {l : List UInt8} (w : World) (hl : CameB w v l) (hm : l.length ≤ maxLen)
    (hAt : ∀ (s : ByteArray) (vs : List Int), s.size ≤ 1048576 → vs.length ≤ 1048576 → ∀ (W : World) (b : Nat) (v : Value), W.ownsRow b 3 1 v vs.length (vs.map iv) → Calls Try.prog 16 #[.string s, v] W fun e w' => e = .returned (.int .i64 (levelAt s.data.toList vs)) ∧ Below W.heap.size W w')
    (hLe : ∀ (a b : ByteArray), a.size ≤ 1048576 → b.size ≤ 1048576 → ∀ W, Calls Try.prog 18 #[.string a, .string b] W fun e w' => e = .returned (.bool (levelLe a.data.toList b.data.toList)) ∧ Below W.heap.size W w')
    (hSame : ∀ (a b : ByteArray), a.size ≤ 1048576 → b.size ≤ 1048576 → ∀ W, Calls Try.prog 22 #[.string a, .string b] W fun e w' => e = .returned (.bool (levelSame a.data.toList b.data.toList)) ∧ Below W.heap.size W w')
    (hZero : ∀ (s : ByteArray), s.size ≤ 1048576 → ∀ W, Calls Try.prog 21 #[.string s] W fun e w' => e = .returned (.bool (levelLe s.data.toList [122])) ∧ Below W.heap.size W w')
    (hAbove : ∀ (s : ByteArray), s.size ≤ 1048576 → ∀ W, Calls Try.prog 20 #[.string s] W fun e w' => e = .returned (.bool (levelLe [43, 122] s.data.toList)) ∧ Below W.heap.size W w')
    (hWit : ∀ (a b : ByteArray), a.size ≤ 1048576 → b.size ≤ 1048576 → ∀ W, Calls Try.prog 19 #[.string a, .string b] W (WitRes (levelWit a.data.toList b.data.toList) W)) :
    Calls Try.prog 4 #[v] w fun e w' => e = .returned (.bool true) ∧ Below w.heap.size w w' := by
  have f0 := Lib.hid (bigB hl hm)
  by_cases hbig : 1048576 < l.length
  · rw [decide_eq_true hbig] at f0
    obtain ⟨a0, cap, _, _, rfl, _⟩ := hl
    clear hAt hLe hSame hZero hAbove hWit
    go_enter Try.func4, Try.ntmps4
    go_wp2_with fail
    (with_reducible refine f0.out.mono ?_); rintro e w1 ⟨rfl, rfl⟩
    go_wp2
    go_ret
    exact ⟨rfl, Below.refl _ _⟩
  rw [decide_eq_false hbig] at f0
  have f1 := Lib.hid (drawLevels hl (by omega))
  have f3 := Lib.hid fun W (hb : Below w.heap.size w W) => drawPlaces (hl.below hb) (by omega)
  obtain ⟨a0, cap, _, _, rfl, _⟩ := hl
  have gAt := Lib.hid hAt
  have gLe := Lib.hid hLe
  have gSame := Lib.hid hSame
  have gZero := Lib.hid hZero
  have gAbove := Lib.hid hAbove
  have gWit := Lib.hid hWit
  clear hAt hLe hSame hZero hAbove hWit
  go_enter Try.func4, Try.ntmps4
  go_wp2_with fail
  (with_reducible refine f0.out.mono ?_); rintro e w1 ⟨rfl, rfl⟩
  go_wp2_with fail
  (with_reducible refine f1.out.mono ?_); rintro e w7 ⟨⟨a, b, hLa, hLb, la, lb, rfl⟩, B7⟩
  have oa := hLa.ok' la
  have ob := hLb.ok' lb
  clear f0 f1 hLa hLb
  go_wp2_with fail
  (with_reducible refine (f3.out _ B7).mono ?_); rintro e w8 ⟨u, p, hp12, hp, rfl, hrow, hb8⟩
  have B8 := B7.trans (hb8.mono B7.size)
  clear f3 hb8
  obtain ⟨g, cp, rfl, _, hgl⟩ := hrow.form (by omega)
  obtain ⟨y0, y1, y2, pr, rfl⟩ : ∃ y0 y1 y2 pr, p = y0 :: y1 :: y2 :: pr := by
    match p, hp12 with
    | y0 :: y1 :: y2 :: pr, _ => exact ⟨y0, y1, y2, pr, rfl⟩
  have k0 := hp y0 (by simp)
  have k1 := hp y1 (by simp)
  have k2 := hp y2 (by simp)
  have c0 : w8.cell? ⟨g, 0, none⟩ = some (.int .i64 y0) := hrow.cellAt 0 (by omega)
  have c1 : w8.cell? ⟨g, 1, none⟩ = some (.int .i64 y1) := hrow.cellAt 1 (by omega)
  have c2 : w8.cell? ⟨g, 2, none⟩ = some (.int .i64 y2) := hrow.cellAt 2 (by omega)
  obtain ⟨⟨p0, p1⟩, ⟨p2, p3⟩, ⟨p4, p5⟩⟩ := And.intro k0 (And.intro k1 k2)
  clear k0 k1 k2 hp hrow hp12
  go_wp2_with fail
  go_still_tail 12, (by kernel_rfl)
  change wpList _ _ _ _ _ w8.drew
  have B9 := B8.drew
  clear c0 c1 c2 B7
  generalize w8.drew = w9 at B9
  have hvs : ∀ x ∈ [y0 % 40, y1 % 40, y2 % 40], 0 ≤ x ∧ x ≤ 1000 := fun x hx => by
    simp only [List.mem_cons, List.not_mem_nil, or_false] at hx
    rcases hx with rfl | rfl | rfl <;> omega
  have hO := ordP (vs := [y0 % 40, y1 % 40, y2 % 40]) oa ob la lb rfl hvs
  obtain ⟨⟨x, ex⟩, ⟨y, ey⟩, ole, oanti, owit, o1, o2, o3, o4, o5, o6, o7, o8⟩ := hO
  rw [ex, ey] at ole
  have eZ : ((⟨#[105]⟩ : ByteArray) ++ ⟨a.toArray⟩ ++ ⟨#[122]⟩) = ⟨(105 :: (a ++ [122])).toArray⟩ := lvBytes3 a [122] 105
  have fAA : Hid (∀ W, Calls Try.prog 18 #[.string ⟨a.toArray⟩, .string ⟨a.toArray⟩] W fun e w' => e = .returned (.bool true) ∧ Below W.heap.size W w') := fun W => by
    have := gLe.out ⟨a.toArray⟩ ⟨a.toArray⟩ (by rw [ba_size]; omega) (by rw [ba_size]; omega) W
    rw [show levelLe (ByteArray.data ⟨a.toArray⟩).toList (ByteArray.data ⟨a.toArray⟩).toList = true by exact o1] at this
    exact this
  have fAM : Hid (∀ W, Calls Try.prog 18 #[.string ⟨a.toArray⟩, .string ((⟨#[109]⟩ : ByteArray) ++ ⟨a.toArray⟩ ++ ⟨b.toArray⟩)] W fun e w' => e = .returned (.bool true) ∧ Below W.heap.size W w') := fun W => by
    have := gLe.out ⟨a.toArray⟩ ((⟨#[109]⟩ : ByteArray) ++ ⟨a.toArray⟩ ++ ⟨b.toArray⟩) (by rw [ba_size]; omega) (by rw [lvBytes3, ba_size]; simp; omega) W
    rw [show levelLe (ByteArray.data ⟨a.toArray⟩).toList (ByteArray.data ((⟨#[109]⟩ : ByteArray) ++ ⟨a.toArray⟩ ++ ⟨b.toArray⟩)).toList = true by rw [lvBytes3]; exact o2] at this
    exact this
  have fIM : Hid (∀ W, Calls Try.prog 18 #[.string ((⟨#[105]⟩ : ByteArray) ++ ⟨a.toArray⟩ ++ ⟨b.toArray⟩), .string ((⟨#[109]⟩ : ByteArray) ++ ⟨a.toArray⟩ ++ ⟨b.toArray⟩)] W fun e w' => e = .returned (.bool true) ∧ Below W.heap.size W w') := fun W => by
    have := gLe.out ((⟨#[105]⟩ : ByteArray) ++ ⟨a.toArray⟩ ++ ⟨b.toArray⟩) ((⟨#[109]⟩ : ByteArray) ++ ⟨a.toArray⟩ ++ ⟨b.toArray⟩) (by rw [lvBytes3, ba_size]; simp; omega) (by rw [lvBytes3, ba_size]; simp; omega) W
    rw [show levelLe (ByteArray.data ((⟨#[105]⟩ : ByteArray) ++ ⟨a.toArray⟩ ++ ⟨b.toArray⟩)).toList (ByteArray.data ((⟨#[109]⟩ : ByteArray) ++ ⟨a.toArray⟩ ++ ⟨b.toArray⟩)).toList = true by rw [lvBytes3, lvBytes3]; exact o3] at this
    exact this
  have fBI : Hid (∀ W, Calls Try.prog 18 #[.string ⟨b.toArray⟩, .string ((⟨#[105]⟩ : ByteArray) ++ ⟨a.toArray⟩ ++ ⟨b.toArray⟩)] W fun e w' => e = .returned (.bool true) ∧ Below W.heap.size W w') := fun W => by
    have := gLe.out ⟨b.toArray⟩ ((⟨#[105]⟩ : ByteArray) ++ ⟨a.toArray⟩ ++ ⟨b.toArray⟩) (by rw [ba_size]; omega) (by rw [lvBytes3, ba_size]; simp; omega) W
    rw [show levelLe (ByteArray.data ⟨b.toArray⟩).toList (ByteArray.data ((⟨#[105]⟩ : ByteArray) ++ ⟨a.toArray⟩ ++ ⟨b.toArray⟩)).toList = true by rw [lvBytes3]; exact o4] at this
    exact this
  have fUA : Hid (∀ W, Calls Try.prog 18 #[.string ((⟨#[43]⟩ : ByteArray) ++ ⟨a.toArray⟩), .string ⟨a.toArray⟩] W fun e w' => e = .returned (.bool false) ∧ Below W.heap.size W w') := fun W => by
    have := gLe.out ((⟨#[43]⟩ : ByteArray) ++ ⟨a.toArray⟩) ⟨a.toArray⟩ (by rw [lvBytes2, ba_size]; simp; omega) (by rw [ba_size]; omega) W
    rw [show levelLe (ByteArray.data ((⟨#[43]⟩ : ByteArray) ++ ⟨a.toArray⟩)).toList (ByteArray.data ⟨a.toArray⟩).toList = false by rw [lvBytes2]; exact o5] at this
    exact this
  have fUp : Hid (∀ W, Calls Try.prog 20 #[.string ((⟨#[43]⟩ : ByteArray) ++ ⟨a.toArray⟩)] W fun e w' => e = .returned (.bool true) ∧ Below W.heap.size W w') := fun W => by
    have := gAbove.out ((⟨#[43]⟩ : ByteArray) ++ ⟨a.toArray⟩) (by rw [lvBytes2, ba_size]; simp; omega) W
    rw [show levelLe [43, 122] (ByteArray.data ((⟨#[43]⟩ : ByteArray) ++ ⟨a.toArray⟩)).toList = true by rw [lvBytes2]; exact o6] at this
    exact this
  have fZe : Hid (∀ W, Calls Try.prog 21 #[.string ((⟨#[105]⟩ : ByteArray) ++ ⟨a.toArray⟩ ++ ⟨#[122]⟩)] W fun e w' => e = .returned (.bool true) ∧ Below W.heap.size W w') := fun W => by
    have := gZero.out ((⟨#[105]⟩ : ByteArray) ++ ⟨a.toArray⟩ ++ ⟨#[122]⟩) (by rw [eZ, ba_size]; simp; omega) W
    rw [show levelLe (ByteArray.data ((⟨#[105]⟩ : ByteArray) ++ ⟨a.toArray⟩ ++ ⟨#[122]⟩)).toList [122] = true by rw [eZ]; exact o7] at this
    exact this
  have fSm : Hid (∀ W, Calls Try.prog 22 #[.string ((⟨#[109]⟩ : ByteArray) ++ ⟨a.toArray⟩ ++ ⟨b.toArray⟩), .string ((⟨#[109]⟩ : ByteArray) ++ ⟨b.toArray⟩ ++ ⟨a.toArray⟩)] W fun e w' => e = .returned (.bool true) ∧ Below W.heap.size W w') := fun W => by
    have := gSame.out ((⟨#[109]⟩ : ByteArray) ++ ⟨a.toArray⟩ ++ ⟨b.toArray⟩) ((⟨#[109]⟩ : ByteArray) ++ ⟨b.toArray⟩ ++ ⟨a.toArray⟩) (by rw [lvBytes3, ba_size]; simp; omega) (by rw [lvBytes3, ba_size]; simp; omega) W
    rw [show levelSame (ByteArray.data ((⟨#[109]⟩ : ByteArray) ++ ⟨a.toArray⟩ ++ ⟨b.toArray⟩)).toList (ByteArray.data ((⟨#[109]⟩ : ByteArray) ++ ⟨b.toArray⟩ ++ ⟨a.toArray⟩)).toList = true by rw [lvBytes3, lvBytes3]; exact o8] at this
    exact this
  have fXa : Hid (∀ (W : World) (q : Nat) (v : Value), W.ownsRow q 3 1 v 3 ([y0 % 40, y1 % 40, y2 % 40].map iv) → Calls Try.prog 16 #[.string ⟨a.toArray⟩, v] W fun e w' => e = .returned (.int .i64 (x : Int)) ∧ Below W.heap.size W w') := fun W q v hv => by
    have := gAt.out ⟨a.toArray⟩ [y0 % 40, y1 % 40, y2 % 40] (by rw [ba_size]; omega) (by simp) W q v hv
    rw [show levelAt (ByteArray.data ⟨a.toArray⟩).toList [y0 % 40, y1 % 40, y2 % 40] = _ from ex] at this
    exact this
  have fXb : Hid (∀ (W : World) (q : Nat) (v : Value), W.ownsRow q 3 1 v 3 ([y0 % 40, y1 % 40, y2 % 40].map iv) → Calls Try.prog 16 #[.string ⟨b.toArray⟩, v] W fun e w' => e = .returned (.int .i64 (y : Int)) ∧ Below W.heap.size W w') := fun W q v hv => by
    have := gAt.out ⟨b.toArray⟩ [y0 % 40, y1 % 40, y2 % 40] (by rw [ba_size]; omega) (by simp) W q v hv
    rw [show levelAt (ByteArray.data ⟨b.toArray⟩).toList [y0 % 40, y1 % 40, y2 % 40] = _ from ey] at this
    exact this
  have fL := Lib.hid (gLe.out ⟨a.toArray⟩ ⟨b.toArray⟩ (by rw [ba_size]; omega) (by rw [ba_size]; omega))
  have fW := Lib.hid (gWit.out ⟨a.toArray⟩ ⟨b.toArray⟩ (by rw [ba_size]; omega) (by rw [ba_size]; omega))
  rw [show (ByteArray.data ⟨a.toArray⟩).toList = a from rfl, show (ByteArray.data ⟨b.toArray⟩).toList = b from rfl] at fL fW
  clear gLe gSame gZero gAbove gWit o1 o2 o3 o4 o5 o6 o7 o8 eZ ex ey
  have r9 : (w9.alloc (.cells #[.int .i64 (y0 % 40), .int .i64 (y1 % 40), .int .i64 (y2 % 40)] 3)).ownsRow w1.heap.size 3 1 (.slice (some ⟨w9.heap.size, 0, none⟩) 3 3) 3 ([y0 % 40, y1 % 40, y2 % 40].map iv) :=
    World.ownsRow_lit (base := w1.heap.size) (e := 3) (size := 1) w9 #[.int .i64 (y0 % 40), .int .i64 (y1 % 40), .int .i64 (y2 % 40)] 3 B9.size (by decide) (by simp)
  have B10 := B9.trans (((Below.refl w9.heap.size w9).alloc (Nat.le_refl _) (.cells #[.int .i64 (y0 % 40), .int .i64 (y1 % 40), .int .i64 (y2 % 40)] 3)).mono B9.size)
  have R9 := Lib.hid r9
  have HB10 := Lib.hid B10
  clear r9 B10 hvs B9 B8
  cases hw : levelWit a b with
  | none =>
    rw [hw] at oanti fW
    have hle : levelLe a b = true := oanti
    rw [hle] at fL
    have hxy := ole hle
    have d1 : decide ((y : Int) < (x : Int)) = false := decide_eq_false (by omega)
    have d1n : decide (y < x) = false := decide_eq_false (by omega)
    have d2 : decide ((x : Int) < 0) = false := decide_eq_false (by omega)
    have d3 : decide ((y : Int) < 0) = false := decide_eq_false (by omega)
    clear hw oanti ole owit hle gAt
    go_wp2_with fail
    (with_reducible refine (fL.out _).mono ?_); rintro e w11 ⟨rfl, hb11⟩
    have hv11 := own_below R9.out hb11
    have B11 := HB10.out.trans (hb11.mono HB10.out.size)
    clear hb11 fL
    go_wp2_with fail
    (with_reducible refine (fW.out _).mono ?_); rintro e w12 ⟨uw, rfl, _, hb12⟩
    have hv12 := own_below hv11 hb12
    have B12 := B11.trans (hb12.mono B11.size)
    clear hb12 fW hv11
    go_wp2_with (at_builtin; refine append_copyI rfl _ _ rfl rfl _ _ [y0 % 40, y1 % 40, y2 % 40] rfl hv12 (by simp) (by simp) ?_; intro u13 w13 h13 hb13)
    have B13 := B12.trans (hb13.mono B12.size)
    have hv13 := own_below hv12 hb13
    clear hv12 hb13
    go_wp2_with fail
    (with_reducible refine (fXa.out _ _ _ h13).mono ?_); rintro e w14 ⟨rfl, hb14⟩
    have B14 := B13.trans (hb14.mono B13.size)
    have hv14 := own_below hv13 hb14
    clear hv13 hb14 h13 fXa
    go_wp2_with (at_builtin; refine append_copyI rfl _ _ rfl rfl _ _ [y0 % 40, y1 % 40, y2 % 40] rfl hv14 (by simp) (by simp) ?_; intro u15 w15 h15 hb15)
    have B15 := B14.trans (hb15.mono B14.size)
    clear hv14 hb15
    go_wp2_with fail
    (with_reducible refine (fXb.out _ _ _ h15).mono ?_); rintro e w16 ⟨rfl, hb16⟩
    have B16 := B15.trans (hb16.mono B15.size)
    clear hb16 h15 fXb
    go_wp2_with fail
    (with_reducible refine (fAA.out _).mono ?_); rintro e v1 ⟨rfl, hc1⟩
    have C1 := B16.trans (hc1.mono B16.size)
    clear hc1
    go_wp2_with fail
    (with_reducible refine (fAM.out _).mono ?_); rintro e v2 ⟨rfl, hc2⟩
    have C2 := C1.trans (hc2.mono C1.size)
    clear hc2
    go_wp2_with fail
    (with_reducible refine (fIM.out _).mono ?_); rintro e v3 ⟨rfl, hc3⟩
    have C3 := C2.trans (hc3.mono C2.size)
    clear hc3
    go_wp2_with fail
    (with_reducible refine (fBI.out _).mono ?_); rintro e v4 ⟨rfl, hc4⟩
    have C4 := C3.trans (hc4.mono C3.size)
    clear hc4
    go_wp2_with fail
    (with_reducible refine (fUA.out _).mono ?_); rintro e v5 ⟨rfl, hc5⟩
    have C5 := C4.trans (hc5.mono C4.size)
    clear hc5
    go_wp2_with fail
    (with_reducible refine (fUp.out _).mono ?_); rintro e v6 ⟨rfl, hc6⟩
    have C6 := C5.trans (hc6.mono C5.size)
    clear hc6
    go_wp2_with fail
    (with_reducible refine (fZe.out _).mono ?_); rintro e v7 ⟨rfl, hc7⟩
    have C7 := C6.trans (hc7.mono C6.size)
    clear hc7
    go_wp2_with fail
    (with_reducible refine (fSm.out _).mono ?_); rintro e v8 ⟨rfl, hc8⟩
    have C8 := C7.trans (hc8.mono C7.size)
    clear hc8
    go_wp2
    go_ret
    exact ⟨rfl, C8⟩
  | some ws =>
    rw [hw] at oanti fW
    have hle : levelLe a b = false := oanti
    rw [hle] at fL
    obtain ⟨n, m, en, em, hmn⟩ := owit ws hw
    have h3 := wit_three hw
    have fW2 : Hid (∀ W, Calls Try.prog 19 #[.string ⟨a.toArray⟩, .string ⟨b.toArray⟩] W fun e w' => ∃ v, e = .returned (.tuple #[v, .bool true]) ∧ w'.ownsRow W.heap.size 3 1 v (ws.map fun (x : Nat) => (x : Int)).length ((ws.map fun (x : Nat) => (x : Int)).map iv) ∧ Below W.heap.size W w') := fun W => by
      refine (fW.out W).mono ?_
      rintro e w' ⟨v, h1, h2, h4⟩
      refine ⟨v, h1, ?_, h4⟩
      rw [List.length_map, List.map_map]
      exact h2
    have hL3 : (ws.map fun (x : Nat) => (x : Int)).length = 3 := by rw [List.length_map, h3]
    generalize (ws.map fun (x : Nat) => (x : Int)) = L at fW2 en em hL3
    have fNa : Hid (∀ (W : World) (q : Nat) (v : Value), W.ownsRow q 3 1 v L.length (L.map iv) → Calls Try.prog 16 #[.string ⟨a.toArray⟩, v] W fun e w' => e = .returned (.int .i64 (n : Int)) ∧ Below W.heap.size W w') := fun W q v hv => by
      have := gAt.out ⟨a.toArray⟩ L (by rw [ba_size]; omega) (by omega) W q v hv
      rw [show levelAt (ByteArray.data ⟨a.toArray⟩).toList L = _ from en] at this
      exact this
    have fNb : Hid (∀ (W : World) (q : Nat) (v : Value), W.ownsRow q 3 1 v L.length (L.map iv) → Calls Try.prog 16 #[.string ⟨b.toArray⟩, v] W fun e w' => e = .returned (.int .i64 (m : Int)) ∧ Below W.heap.size W w') := fun W q v hv => by
      have := gAt.out ⟨b.toArray⟩ L (by rw [ba_size]; omega) (by omega) W q v hv
      rw [show levelAt (ByteArray.data ⟨b.toArray⟩).toList L = _ from em] at this
      exact this
    have d2 : decide ((x : Int) < 0) = false := decide_eq_false (by omega)
    have d3 : decide ((y : Int) < 0) = false := decide_eq_false (by omega)
    have d4 : decide ((n : Int) ≤ (m : Int)) = false := decide_eq_false (by omega)
    have d4n : decide (n ≤ m) = false := decide_eq_false (by omega)
    have HL3 := Lib.hid hL3
    clear hw oanti ole owit hle gAt en em h3 hL3 fW
    go_wp2_with fail
    (with_reducible refine (fL.out _).mono ?_); rintro e w11 ⟨rfl, hb11⟩
    have hv11 := own_below R9.out hb11
    have B11 := HB10.out.trans (hb11.mono HB10.out.size)
    clear hb11 fL
    go_wp2_with fail
    (with_reducible refine (fW2.out _).mono ?_); rintro e w12 ⟨uw, rfl, hx12, hb12⟩
    have hv12 := own_below hv11 hb12
    have B12 := B11.trans (hb12.mono B11.size)
    clear hb12 fW2 hv11
    go_wp2_with (at_builtin; refine append_copyI rfl _ _ rfl rfl _ _ [y0 % 40, y1 % 40, y2 % 40] rfl hv12 (by simp) (by simp) ?_; intro u13 w13 h13 hb13)
    have B13 := B12.trans (hb13.mono B12.size)
    have hv13 := own_below hv12 hb13
    have hx13 := own_below hx12 hb13
    clear hv12 hx12 hb13
    go_wp2_with fail
    (with_reducible refine (fXa.out _ _ _ h13).mono ?_); rintro e w14 ⟨rfl, hb14⟩
    have B14 := B13.trans (hb14.mono B13.size)
    have hv14 := own_below hv13 hb14
    have hx14 := own_below hx13 hb14
    clear hv13 hx13 hb14 h13 fXa
    go_wp2_with (at_builtin; refine append_copyI rfl _ _ rfl rfl _ _ [y0 % 40, y1 % 40, y2 % 40] rfl hv14 (by simp) (by simp) ?_; intro u15 w15 h15 hb15)
    have B15 := B14.trans (hb15.mono B14.size)
    have hx15 := own_below hx14 hb15
    clear hv14 hx14 hb15
    go_wp2_with fail
    (with_reducible refine (fXb.out _ _ _ h15).mono ?_); rintro e w16 ⟨rfl, hb16⟩
    have B16 := B15.trans (hb16.mono B15.size)
    have hx16 := own_below hx15 hb16
    clear hb16 h15 fXb hx15
    go_wp2_with (at_builtin; refine append_copyI rfl _ _ rfl rfl _ _ L rfl hx16 (by have := HL3.out; omega) (by have := HL3.out; omega) ?_; intro u17 w17 h17 hb17)
    have B17 := B16.trans (hb17.mono B16.size)
    have hx17 := own_below hx16 hb17
    clear hx16 hb17
    go_wp2_with fail
    (with_reducible refine (fNa.out _ _ _ h17).mono ?_); rintro e w18 ⟨rfl, hb18⟩
    have B18 := B17.trans (hb18.mono B17.size)
    have hx18 := own_below hx17 hb18
    clear hb18 h17 fNa hx17
    go_wp2_with (at_builtin; refine append_copyI rfl _ _ rfl rfl _ _ L rfl hx18 (by have := HL3.out; omega) (by have := HL3.out; omega) ?_; intro u19 w19 h19 hb19)
    have B19 := B18.trans (hb19.mono B18.size)
    clear hx18 hb19
    go_wp2_with fail
    (with_reducible refine (fNb.out _ _ _ h19).mono ?_); rintro e w20 ⟨rfl, hb20⟩
    have B20 := B19.trans (hb20.mono B19.size)
    clear hb20 h19 fNb
    go_wp2_with fail
    (with_reducible refine (fAA.out _).mono ?_); rintro e v1 ⟨rfl, hc1⟩
    have C1 := B20.trans (hc1.mono B20.size)
    clear hc1
    go_wp2_with fail
    (with_reducible refine (fAM.out _).mono ?_); rintro e v2 ⟨rfl, hc2⟩
    have C2 := C1.trans (hc2.mono C1.size)
    clear hc2
    go_wp2_with fail
    (with_reducible refine (fIM.out _).mono ?_); rintro e v3 ⟨rfl, hc3⟩
    have C3 := C2.trans (hc3.mono C2.size)
    clear hc3
    go_wp2_with fail
    (with_reducible refine (fBI.out _).mono ?_); rintro e v4 ⟨rfl, hc4⟩
    have C4 := C3.trans (hc4.mono C3.size)
    clear hc4
    go_wp2_with fail
    (with_reducible refine (fUA.out _).mono ?_); rintro e v5 ⟨rfl, hc5⟩
    have C5 := C4.trans (hc5.mono C4.size)
    clear hc5
    go_wp2_with fail
    (with_reducible refine (fUp.out _).mono ?_); rintro e v6 ⟨rfl, hc6⟩
    have C6 := C5.trans (hc6.mono C5.size)
    clear hc6
    go_wp2_with fail
    (with_reducible refine (fZe.out _).mono ?_); rintro e v7 ⟨rfl, hc7⟩
    have C7 := C6.trans (hc7.mono C6.size)
    clear hc7
    go_wp2_with fail
    (with_reducible refine (fSm.out _).mono ?_); rintro e v8 ⟨rfl, hc8⟩
    have C8 := C7.trans (hc8.mono C7.size)
    clear hc8
    go_wp2
    go_ret
    exact ⟨rfl, C8⟩
end Go.Proofs.Ytdeophmdpbgkdaa
