/-
  The contract of spec.LevelWitness.
-/
import Derived.Test.YtdeophmdpbgkdaaUVal
import Derived.Test.YtdeophmdpbgkdaaDr2
import Derived.StillTailTactics
namespace Go.Proofs.Ytdeophmdpbgkdaa
set_option maxRecDepth 100000
open Go.ChangeShapes Go.WideShapes Go.ChangeAt Go.RowKit
set_option linter.unusedSimpArgs false

def natV (x : Nat) : Value := iv (x : Int)
/-- The values that are returned, and whether there are any. -/
def WitRes (r : Option (List Nat)) (w : World) (e : Ending) (w' : World) : Prop :=
  ∃ v, e = .returned (.tuple #[v, .bool r.isSome]) ∧ w'.ownsRow w.heap.size 3 1 v (r.getD []).length ((r.getD []).map natV) ∧ Below w.heap.size w w'
theorem tryOne_le {k : Nat} (hk : 2 ≤ k) (i : Nat) : tryOne k i ≤ k := by unfold tryOne; split; omega; split <;> omega
theorem tri_form {x y z k : Nat} (hy : y < 3) (hz : z < 3) : tryTri k (9 * x + 3 * y + z) = [tryOne k x, tryOne k y, tryOne k z] := by
  rw [tryTri, show (9 * x + 3 * y + z) / 9 = x by omega, show (9 * x + 3 * y + z) / 3 % 3 = y by omega, show (9 * x + 3 * y + z) % 3 = z by omega]
theorem wit_found {a b : List UInt8} {i : Nat} (ha : levelOk a = true) (hb : levelOk b = true) (hi : i < 27)
    (h1 : ∀ j, j < i → above a b (tryTri (2 + levelUps a + levelUps b) j) = false) (h2 : above a b (tryTri (2 + levelUps a + levelUps b) i) = true) :
    levelWit a b = some (tryTri (2 + levelUps a + levelUps b) i) := by
  rw [levelWit, if_pos ⟨ha, hb⟩]
  have : witIdx a b = some i := by
    rw [witIdx, List.find?_range_eq_some]
    exact ⟨h2, by simpa using hi, fun j hj => by rw [h1 j hj]; rfl⟩
  rw [this]
  rfl
theorem wit_none {a b : List UInt8} (h1 : ∀ j, j < 27 → above a b (tryTri (2 + levelUps a + levelUps b) j) = false) : levelWit a b = none := by
  rw [levelWit]
  split
  · have : witIdx a b = none := by
      rw [witIdx, List.find?_eq_none]
      intro j hj
      rw [h1 j (List.mem_range.1 hj)]
      decide
    rw [this]
    rfl
  · rfl
theorem levelAt_try {l : List UInt8} {vs : List Nat} (ho : levelOk l = true) (h3 : vs.length = 3) (hp : levelParams l ≤ 3) (hv : ∀ x ∈ vs, x ≤ 1000) : levelAt l (vs.map fun (x : Nat) => (x : Int)) = (lval vs l : Int) := by
  rw [levelAt, if_pos, List.map_map]
  · congr 2
    exact (List.map_congr_left (fun x _ => by simp)).trans (List.map_id _)
  · refine ⟨ho, by simp [h3], by simpa [h3] using hp, ?_⟩
    intro x hx
    obtain ⟨y, hy, rfl⟩ := List.mem_map.1 hx
    have := hv y hy
    omega

set_option maxHeartbeats 4000000 in
theorem specLevelWitness (a b : ByteArray) (w : World) (ha : a.size ≤ maxLen) (hb : b.size ≤ maxLen) :
    Calls Try.prog 30 #[.string a, .string b] w (WitRes (levelWit a.data.toList b.data.toList) w) := by
  have f1 := Lib.hid fun W => specLevelOk a W ha
  have f2 := Lib.hid fun W => specLevelOk b W hb
  by_cases ho : levelOk a.data.toList = true
  rotate_left
  · have HE : Hid (levelWit a.data.toList b.data.toList = none) := if_neg fun hc => ho hc.1
    rw [Bool.not_eq_true] at ho
    rw [ho] at f1
    clear ho f2
    have r1 := World.ownsRow_lit (base := w.heap.size) (e := 3) (size := 1) w #[] 0 (Nat.le_refl _) (by decide) (by simp)
    have b1 := (Below.refl w.heap.size w).alloc (Nat.le_refl _) (.cells #[] 3)
    go_enter Try.func30, Try.ntmps30
    go_wp2_with fail
    (with_reducible refine (f1.out _).mono ?_); rintro e w1 ⟨rfl, rfl⟩
    go_wp2
    go_ret2
    rw [HE.out]
    exact ⟨_, rfl, r1, b1⟩
  have ha60 : a.size ≤ 60 := (levelOk_len ho).1
  have HOa := Lib.hid ho
  rw [ho] at f1
  clear ho
  by_cases ho : levelOk b.data.toList = true
  rotate_left
  · have HE : Hid (levelWit a.data.toList b.data.toList = none) := if_neg fun hc => ho hc.2
    rw [Bool.not_eq_true] at ho
    rw [ho] at f2
    clear ho
    have r1 := World.ownsRow_lit (base := w.heap.size) (e := 3) (size := 1) w #[] 0 (Nat.le_refl _) (by decide) (by simp)
    have b1 := (Below.refl w.heap.size w).alloc (Nat.le_refl _) (.cells #[] 3)
    go_enter Try.func30, Try.ntmps30
    go_wp2_with fail
    (with_reducible refine (f1.out _).mono ?_); rintro e w1 ⟨rfl, rfl⟩
    go_wp2_with fail
    (with_reducible refine (f2.out _).mono ?_); rintro e w1 ⟨rfl, rfl⟩
    go_wp2
    go_ret2
    rw [HE.out]
    exact ⟨_, rfl, r1, b1⟩
  have hb60 : b.size ≤ 60 := (levelOk_len ho).1
  have HOb := Lib.hid ho
  rw [ho] at f2
  clear ho
  have f3 := Lib.hid fun W => specLevelUps a W ha
  have f4 := Lib.hid fun W => specLevelUps b W hb
  have hua : levelUps a.data.toList ≤ 60 := by
    have : a.data.toList.length = a.size := rfl
    unfold levelUps
    split
    · exact Nat.le_trans List.count_le_length (by omega)
    · omega
  have hub : levelUps b.data.toList ≤ 60 := by
    have : b.data.toList.length = b.size := rfl
    unfold levelUps
    split
    · exact Nat.le_trans List.count_le_length (by omega)
    · omega
  have HFnd := Lib.hid fun i hi h1 h2 => wit_found (a := a.data.toList) (b := b.data.toList) (i := i) HOa.out HOb.out hi h1 h2
  have HNon := Lib.hid fun h1 => wit_none (a := a.data.toList) (b := b.data.toList) h1
  generalize levelUps a.data.toList = ua at f3 hua HFnd HNon
  generalize levelUps b.data.toList = ub at f4 hub HFnd HNon
  go_enter Try.func30, Try.ntmps30
  go_wp2_with fail
  (with_reducible refine (f1.out _).mono ?_); rintro e w1 ⟨rfl, rfl⟩
  go_wp2_with fail
  (with_reducible refine (f2.out _).mono ?_); rintro e w2 ⟨rfl, rfl⟩
  go_wp2_with fail
  (with_reducible refine (f3.out _).mono ?_); rintro e w3 ⟨rfl, rfl⟩
  go_wp2_with fail
  (with_reducible refine (f4.out _).mono ?_); rintro e w4 ⟨rfl, rfl⟩
  clear f1 f2 f3 f4
  obtain ⟨K, hK⟩ : ∃ K, 2 + ua + ub = K := ⟨_, rfl⟩
  have hK2 : 2 ≤ K := by omega
  have hKm : K ≤ 122 := by omega
  rw [hK] at HFnd HNon
  have hKK : (2 : Int) + (ua : Int) + (ub : Int) = (K : Int) := by omega
  clear hK
  go_wp2_with fail
  clear hKK
  rename World => w0
  have r0 := World.ownsRow_lit (base := w0.heap.size) (e := 3) (size := 1) w0 #[.int .i64 0, .int .i64 1, .int .i64 (K : Int)] 3 (Nat.le_refl _) (by decide) (by simp)
  have b0 := (Below.refl w0.heap.size w0).alloc (Nat.le_refl _) (.cells #[.int .i64 0, .int .i64 1, .int .i64 (K : Int)] 3)
  go_loopw [7] (fun i wr => ∃ x : Nat, x ≤ 3 ∧ i = .int .i64 x ∧ wr.ownsRow w0.heap.size 3 1 (.slice (some ⟨w0.heap.size, 0, none⟩) 3 3) 3 [.int .i64 0, .int .i64 1, .int .i64 (K : Int)] ∧ Below w0.heap.size w0 wr ∧ Hid (∀ j, j < 9 * x → above a.data.toList b.data.toList (tryTri K j) = false)) (fun i _ => 3 - (intOf i).toNat)
  case atStart => exact ⟨0, by omega, rfl, r0, b0, fun j hj => by omega⟩
  case round =>
    obtain ⟨x, hx, rfl, hown, hbel, HA⟩ := hrel
    clear r0 b0
    by_cases hx3 : x < 3
    · rename World => w1
      have d1 : decide ((x : Int) < 3) = true := decide_eq_true (by omega)
      go_wp2
      go_loopw [8] (fun i wr => ∃ y : Nat, y ≤ 3 ∧ i = .int .i64 y ∧ wr.ownsRow w0.heap.size 3 1 (.slice (some ⟨w0.heap.size, 0, none⟩) 3 3) 3 [.int .i64 0, .int .i64 1, .int .i64 (K : Int)] ∧ Below w0.heap.size w0 wr ∧ Hid (∀ j, j < 9 * x + 3 * y → above a.data.toList b.data.toList (tryTri K j) = false)) (fun i _ => 3 - (intOf i).toNat)
      case atStart => exact ⟨0, by omega, rfl, hown, hbel, fun j hj => HA.out j (by omega)⟩
      case round =>
        clear hown hbel HA
        obtain ⟨y, hy, rfl, hown, hbel, HA⟩ := hrel
        by_cases hy3 : y < 3
        · rename World => w2
          have d2 : decide ((y : Int) < 3) = true := decide_eq_true (by omega)
          go_wp2
          go_loopw [9] (fun i wr => ∃ z : Nat, z ≤ 3 ∧ i = .int .i64 z ∧ wr.ownsRow w0.heap.size 3 1 (.slice (some ⟨w0.heap.size, 0, none⟩) 3 3) 3 [.int .i64 0, .int .i64 1, .int .i64 (K : Int)] ∧ Below w0.heap.size w0 wr ∧ Hid (∀ j, j < 9 * x + 3 * y + z → above a.data.toList b.data.toList (tryTri K j) = false)) (fun i _ => 3 - (intOf i).toNat)
          case atStart => exact ⟨0, by omega, rfl, hown, hbel, fun j hj => HA.out j (by omega)⟩
          case round =>
            clear hown hbel HA
            obtain ⟨z, hz, rfl, hown, hbel, HA⟩ := hrel
            by_cases hz3 : z < 3
            · have d3 : decide ((z : Int) < 3) = true := decide_eq_true (by omega)
              have row : ∀ i, i < 3 → wr.cell? ⟨w0.heap.size, i, none⟩ = some (.int .i64 (tryOne K i : Int)) := fun i hi => by
                have := hown.cellAt i (by omega)
                rw [this]
                have : i = 0 ∨ i = 1 ∨ i = 2 := by omega
                rcases this with rfl | rfl | rfl <;> rfl
              have cx := row x hx3
              have cy := row y hy3
              have cz := row z hz3
              have tx := tryOne_le hK2 x
              have ty := tryOne_le hK2 y
              have tz := tryOne_le hK2 z
              have HT := Lib.hid (tri_form (x := x) (k := K) hy3 hz3)
              clear row
              generalize tryOne K x = X at cx tx HT
              generalize tryOne K y = Y at cy ty HT
              generalize tryOne K z = Z at cz tz HT
              have q1 : (0 : Int) ≤ (x : Int) := by omega
              have q2 : (x : Int) < 3 := by omega
              have q3 : (0 : Int) ≤ (y : Int) := by omega
              have q4 : (y : Int) < 3 := by omega
              have q5 : (0 : Int) ≤ (z : Int) := by omega
              have q6 : (z : Int) < 3 := by omega
              go_wp2_with fail
              go_still_tail 12, (by kernel_rfl)
              change wpList _ _ _ _ _ wr.drew
              have hbel1 := hbel.drew
              have hown1 : wr.drew.ownsRow w0.heap.size 3 1 (.slice (some ⟨w0.heap.size, 0, none⟩) 3 3) 3 [.int .i64 0, .int .i64 1, .int .i64 (K : Int)] := hown.drew
              clear hown hbel cx cy cz
              generalize wr.drew = wd at hown1 hbel1
              have r1 := World.ownsRow_lit (base := w0.heap.size) (e := 3) (size := 1) wd #[.int .i64 (X : Int), .int .i64 (Y : Int), .int .i64 (Z : Int)] 3 hbel1.size (by decide) (by simp)
              have b1 := (Below.refl wd.heap.size wd).alloc (Nat.le_refl _) (.cells #[.int .i64 (X : Int), .int .i64 (Y : Int), .int .i64 (Z : Int)] 3)
              have hown2 := Lib.hid (own_below hown1 b1)
              have hbel2 := Lib.hid (hbel1.trans (b1.mono hbel1.size))
              have R1 := Lib.hid r1
              have e3 : [X, Y, Z].length = 3 := rfl
              have em : ([X, Y, Z].map fun (x : Nat) => (x : Int)) = [(X : Int), (Y : Int), (Z : Int)] := rfl
              have hv : ∀ x ∈ [X, Y, Z], x ≤ 1000 := fun x hx => by
                simp only [List.mem_cons, List.not_mem_nil, or_false] at hx
                rcases hx with rfl | rfl | rfl <;> omega
              have g1 := specLevelAt a (vs := [(X : Int), (Y : Int), (Z : Int)]) r1 ha (by simp)
              have g2 := specLevelAt b (vs := [(X : Int), (Y : Int), (Z : Int)]) r1 hb (by simp)
              rw [← em, levelAt_try HOa.out e3 levelParams_top hv] at g1
              rw [← em, levelAt_try HOb.out e3 levelParams_top hv] at g2
              have G1 := Lib.hid g1
              have G2 := Lib.hid g2
              have HP : Hid (above a.data.toList b.data.toList (tryTri K (9 * x + 3 * y + z)) = decide (lval [X, Y, Z] b.data.toList < lval [X, Y, Z] a.data.toList)) := by rw [Hid, HT.out]; rfl
              clear g1 g2 r1 b1 hown1 hbel1 em e3 hv
              generalize lval [X, Y, Z] a.data.toList = m at G1 HP
              generalize lval [X, Y, Z] b.data.toList = n at G2 HP
              by_cases hmn : n < m
              · have HW := Lib.hid (HFnd.out (9 * x + 3 * y + z) (by omega) HA.out (by rw [HP.out]; exact decide_eq_true hmn))
                rw [HT.out] at HW
                have d4 : decide ((n : Int) < (m : Int)) = true := decide_eq_true (by omega)
                have d4n : decide (n < m) = true := decide_eq_true (by omega)
                clear HP HT HFnd HNon HA
                go_wp2_with fail
                (with_reducible refine G1.out.mono ?_); rintro e w5 ⟨rfl, rfl⟩
                go_wp2_with fail
                (with_reducible refine G2.out.mono ?_); rintro e w5 ⟨rfl, rfl⟩
                go_wp2
                go_ret2
                rw [HW.out]
                exact ⟨_, rfl, R1.out, hbel2.out⟩
              · have HA2 : Hid (∀ j, j < 9 * x + 3 * y + (z + 1) → above a.data.toList b.data.toList (tryTri K j) = false) := fun j hj => by
                  by_cases e : j = 9 * x + 3 * y + z
                  · subst e; rw [HP.out]; exact decide_eq_false hmn
                  · exact HA.out j (by omega)
                have d4 : decide ((n : Int) < (m : Int)) = false := decide_eq_false (by omega)
                have d4n : decide (n < m) = false := decide_eq_false (by omega)
                clear HP HT HFnd HNon HA
                go_wp2_with fail
                (with_reducible refine G1.out.mono ?_); rintro e w5 ⟨rfl, rfl⟩
                go_wp2_with fail
                (with_reducible refine G2.out.mono ?_); rintro e w5 ⟨rfl, rfl⟩
                go_wp2
                go_roundw
                case rel => exact ⟨z + 1, by omega, by go_num, hown2.out, hbel2.out, HA2.out⟩
                case measure => simp [intOf]; omega
            · have d3 : decide ((z : Int) < 3) = false := decide_eq_false (by omega)
              have HA2 : Hid (∀ j, j < 9 * x + 3 * (y + 1) → above a.data.toList b.data.toList (tryTri K j) = false) := fun j hj => HA.out j (by omega)
              clear HA
              go_wp2
              go_roundw
              case rel => exact ⟨y + 1, by omega, by go_num, hown, hbel, HA2.out⟩
              case measure => simp [intOf]; omega
        · have d2 : decide ((y : Int) < 3) = false := decide_eq_false (by omega)
          have HA2 : Hid (∀ j, j < 9 * (x + 1) → above a.data.toList b.data.toList (tryTri K j) = false) := fun j hj => HA.out j (by omega)
          clear HA
          go_wp2
          go_roundw
          case rel => exact ⟨x + 1, by omega, by go_num, hown, hbel, HA2.out⟩
          case measure => simp [intOf]; omega
    · have HE := Lib.hid (HNon.out fun j hj => HA.out j (by omega))
      have d1 : decide ((x : Int) < 3) = false := decide_eq_false (by omega)
      clear HA HFnd HNon
      go_wp2
      go_ret2
      rw [HE.out]
      exact ⟨_, rfl, World.ownsRow_lit (base := w0.heap.size) (e := 3) (size := 1) wr #[] 0 hbel.size (by decide) (by simp), hbel.alloc hbel.size _⟩
end Go.Proofs.Ytdeophmdpbgkdaa
