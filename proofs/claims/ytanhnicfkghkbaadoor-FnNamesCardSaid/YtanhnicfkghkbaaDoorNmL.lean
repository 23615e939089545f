/-
  The law FnNames from the contracts of the program's and the model's functions.
-/
import Derived.Test.YtanhnicfkghkbaaDoorDrNms
import Derived.Test.YtanhnicfkghkbaaDoorNmP
import Derived.Test.YtanhnicfkghkbaaDoorApp5
import Derived.Test.YtanhnicfkghkbaaDoorAppR
import Derived.Test.YtanhnicfkghkbaaDoorHeldW
import Derived.Test.YtanhnicfkghkbaaDoorSmT
import Derived.Test.YtanhnicfkghkbaaDoorBig
import Derived.Test.YtanhnicfkghkbaaDoorAddC
import Derived.Test.YtanhnicfkghkbaaDoorUnderC
import Derived.Test.YtanhnicfkghkbaaDoorNPartsI
import Derived.Test.YtanhnicfkghkbaaDoorNsImpl
import Derived.Test.YtanhnicfkghkbaaDoorInC
namespace Go.Proofs.YtanhnicfkghkbaaDoor
set_option maxRecDepth 100000
open Go.ChangeShapes Go.WideShapes Go.ChangeAt Go.RowKit
set_option linter.unusedSimpArgs false
set_option linter.unusedVariables false

theorem cat_part (x : List UInt8) : (⟨x.toArray⟩ : ByteArray) ++ ⟨#[46]⟩ ++ ⟨#[112, 97, 114, 116]⟩ = ⟨(x ++ dPart).toArray⟩ := by
  apply ByteArray.ext
  simp [dPart]
theorem cat_dot (x : List UInt8) : (⟨x.toArray⟩ : ByteArray) ++ ⟨#[46]⟩ = ⟨(x ++ [46]).toArray⟩ := by
  apply ByteArray.ext
  simp
theorem addRes_part {x : List UInt8} (h0 : nameOk x = true) (h1 : nameOk (x ++ dPart) = true) : addRes ⟨x.toArray⟩ ⟨#[112, 97, 114, 116]⟩ = .tuple #[.string ⟨(x ++ dPart).toArray⟩, .bool true] := by
  have hj := cat_part x
  have h2 : nameOk (ByteArray.data ((⟨x.toArray⟩ : ByteArray) ++ (⟨#[46]⟩ : ByteArray) ++ ⟨#[112, 97, 114, 116]⟩)).toList = true := by rw [hj]; exact h1
  rw [addRes, if_pos ⟨h0, by decide, h2⟩, hj]
set_option maxHeartbeats 8000000 in
theorem lawNames {v : Value} {l : List UInt8} (w : World) (hl : CameB w v l) (hnil : NilB v) (hm : l.length ≤ maxLen) (hv : MaxLenInt w)
    (hBo : ∀ (W : World) (b1 b2 : Nat) (v1 v2 : Value) (a b : List BL), W.ownsRow b1 9 1 v1 a.length (a.map sv) → W.ownsRow b2 9 1 v2 b.length (b.map sv) → a.length + b.length ≤ 1048576 → (∀ x ∈ a ++ b, x.length ≤ 1048576) → Calls Tryd.prog 7 #[v1, v2] W (LRes (srt (a ++ b)) W)) :
    Calls Tryd.prog 3 #[v] w fun e w' => e = .returned (.bool true) ∧ Below w.heap.size w w' := by
  have f0 := Lib.hid (bigB hl hm)
  by_cases hbig : 1048576 < l.length
  · rw [decide_eq_true hbig] at f0
    obtain ⟨a0, cap, _, _, rfl, _⟩ := hl
    go_enter Tryd.func3, Tryd.ntmps3
    go_wp2_with fail
    (with_reducible refine f0.out.mono ?_); rintro e w1 ⟨rfl, rfl⟩
    go_wp2
    go_ret
    exact ⟨rfl, Below.refl _ _⟩
  rw [decide_eq_false hbig] at f0
  have f1 := Lib.hid (drawNamesD hl (by omega))
  have HL := Lib.hid hl
  have HN := Lib.hid hnil
  have HV := Lib.hid hv
  obtain ⟨a0, cap, _, _, rfl, _⟩ := hl
  clear hv hnil
  go_enter Tryd.func3, Tryd.ntmps3
  go_wp2_with fail
  (with_reducible refine f0.out.mono ?_); rintro e w1 ⟨rfl, rfl⟩
  go_wp2_with fail
  (with_reducible refine f1.out.mono ?_); rintro e w2 ⟨u, A, hA1, hA5, hA, rfl, hu, hb2⟩
  have HB2 := Lib.hid hb2
  have HU2 := Lib.hid hu
  have HA := Lib.hid hA
  have HC2 := Lib.hid (HL.out.below hb2)
  clear hu hb2 hA f0 f1 HL
  go_wp2_with (at_builtin; refine append_five rfl _ _ rfl rfl _ l rfl HC2.out HN.out (by omega) ?_; intro c3 w3 hc3 hb3)
  have f4 := Lib.hid (drawNamesD hc3 (by simp; omega))
  have HB3 := Lib.hid (HB2.out.trans (hb3.mono HB2.out.size))
  have HU3 := Lib.hid (own_below HU2.out hb3)
  obtain ⟨_, _, _, _, rfl, _⟩ := hc3
  clear hb3 HB2 HU2 HC2 HN
  go_wp2_with fail
  (with_reducible refine f4.out.mono ?_); rintro e w4 ⟨ub, B, hB1, hB5, hB, rfl, hub, hb4⟩
  have HB4 := Lib.hid (HB3.out.trans (hb4.mono HB3.out.size))
  have HU4 := Lib.hid (own_below HU3.out hb4)
  have HD4 := Lib.hid hub
  have HB := Lib.hid hB
  clear hub hb4 hB HB3 HU3 f4
  obtain ⟨gu, cu, eu, _, hgu⟩ := HU4.out.form (by omega)
  subst eu
  obtain ⟨gd, cd, ed, _, hgd⟩ := HD4.out.form (by omega)
  subst ed
  have hA0 : 0 < A.length := by omega
  have hmem := HA.out _ (List.getElem_mem hA0)
  have c0 := HU4.out.cellAt 0 (by omega)
  rw [List.getElem?_map, List.getElem?_eq_getElem hA0] at c0
  simp only [Option.map_some, sv] at c0
  obtain ⟨n0, n1, n2, n3, n4, n5, n6, n7⟩ := name_facts _ hmem
  have hle := (theNames_ok _ hmem).2
  have HF := Lib.hid (And.intro n2 (And.intro n3 (And.intro n4 (And.intro n5 n7))))
  generalize hx0 : A[0] = x at c0 n0 n1 n2 n3 n4 n5 n6 n7 HF hle
  have qA : (0 : Int) < (A.length : Int) := by omega
  have hr := addRes_part n0 n1
  have fA := Lib.hid fun W => implNameAdd ⟨x.toArray⟩ ⟨#[112, 97, 114, 116]⟩ W (by rw [size_sv]; unfold maxLen; omega) (by unfold maxLen; decide)
  rw [hr] at fA
  clear hr n0 n1 n2 n3 n4 n5 n6 n7 hmem
  go_wp2_with fail
  (with_reducible refine (fA.out _).mono ?_); rintro e w5 ⟨rfl, hb5⟩
  have HB5 := Lib.hid (HB4.out.trans (hb5.mono HB4.out.size))
  have HU5 := Lib.hid (own_below HU4.out hb5)
  have HD5 := Lib.hid (own_below HD4.out hb5)
  clear hb5 HB4 HU4 HD4 fA c0
  go_wp2_with (at_builtin; first | (refine append_copyS rfl _ _ rfl rfl _ _ A rfl HU5.out (by omega) ?_; intro u6 w6 ho6 hb6; have HD6 := Lib.hid (own_below HD5.out hb6)) | (refine append_copyS rfl _ _ rfl rfl _ _ B rfl HD6.out (by omega) ?_; intro u7 w7 ho7 hb7))
  have HB7 := Lib.hid (HB5.out.trans ((hb6.trans (hb7.mono hb6.size)).mono HB5.out.size))
  have HU7 := Lib.hid (own_below (own_below HU5.out hb6) hb7)
  have HD7 := Lib.hid (own_below HD6.out hb7)
  have f8 := Lib.hid (hBo _ _ _ _ _ A B (own_below ho6 hb7) ho7 (by omega) (fun y hy => by
    rcases List.mem_append.1 hy with h | h
    · exact Nat.le_trans (theNames_ok _ (HA.out _ h)).2 (by decide)
    · exact Nat.le_trans (theNames_ok _ (HB.out _ h)).2 (by decide)))
  obtain ⟨s1, s10, s3, s4⟩ := srt_facts A B hA1 hA5 hB5
  have HS := Lib.hid (And.intro s3 s4)
  have HOk := Lib.hid (names_srt HA.out HB.out)
  have HSw := Lib.hid (srt_swap A B)
  have HSl : Hid (∀ y ∈ srt (A ++ B), y.length ≤ 8 ∧ y ∈ A ++ B) := fun y hy => by
    have h9 := (srt_spec _ (A ++ B) (Nat.le_refl _)).2.1 y |>.1 hy
    refine ⟨?_, h9⟩
    rcases List.mem_append.1 h9 with h | h
    · exact (theNames_ok _ (HA.out _ h)).2
    · exact (theNames_ok _ (HB.out _ h)).2
  clear ho6 ho7 hb6 hb7 HB5 HU5 HD5 HD6 s3 s4
  generalize hS : srt (A ++ B) = S at f8 s1 s10 HS HOk HSw HSl
  go_wp2_with fail
  (with_reducible refine f8.out.mono ?_); rintro e w8 ⟨u8, rfl, hu8, hb8⟩
  have HB8 := Lib.hid (HB7.out.trans (hb8.mono HB7.out.size))
  have HU8 := Lib.hid (own_below HU7.out hb8)
  have HD8 := Lib.hid (own_below HD7.out hb8)
  have HS8 := Lib.hid hu8
  clear hb8 hu8 HB7 HU7 HD7 f8
  obtain ⟨gs, cs, es, _, hgs⟩ := HS8.out.form (by omega)
  subst es
  have c0 := HU8.out.cellAt 0 (by omega)
  rw [List.getElem?_map, List.getElem?_eq_getElem hA0] at c0
  simp only [Option.map_some, sv] at c0
  have hmem := HA.out _ (List.getElem_mem hA0)
  obtain ⟨n0, n1, n2, n3, n4, n5, n6, n7⟩ := name_facts _ hmem
  rw [hx0] at c0 n0 n1 n2 n3 n4 n5 n6 n7
  have sx : (⟨x.toArray⟩ : ByteArray).size ≤ maxLen := by rw [size_sv]; unfold maxLen; omega
  have sp : (⟨(x ++ dPart).toArray⟩ : ByteArray).size ≤ maxLen := by rw [size_sv, List.length_append]; unfold maxLen; have : dPart.length = 5 := rfl; omega
  have sd : ((⟨(x ++ dPart).toArray⟩ : ByteArray) ++ ⟨#[46]⟩).size ≤ maxLen := by rw [cat_dot, size_sv, List.length_append, List.length_append]; unfold maxLen; have : dPart.length = 5 := rfl; simp; omega
  have g1 : Hid (∀ W, Calls Tryd.prog 8 #[.string ⟨x.toArray⟩, .string ⟨(x ++ dPart).toArray⟩] W fun e w' => e = .returned (.bool true) ∧ Below W.heap.size W w') := fun W => by
    have := implUnder ⟨x.toArray⟩ ⟨(x ++ dPart).toArray⟩ W sx sp
    rw [show under (ByteArray.data ⟨x.toArray⟩).toList (ByteArray.data ⟨(x ++ dPart).toArray⟩).toList = true from n2] at this
    exact this
  have g2 : Hid (∀ W, Calls Tryd.prog 8 #[.string ⟨(x ++ dPart).toArray⟩, .string ⟨x.toArray⟩] W fun e w' => e = .returned (.bool false) ∧ Below W.heap.size W w') := fun W => by
    have := implUnder ⟨(x ++ dPart).toArray⟩ ⟨x.toArray⟩ W sp sx
    rw [show under (ByteArray.data ⟨(x ++ dPart).toArray⟩).toList (ByteArray.data ⟨x.toArray⟩).toList = false from n3] at this
    exact this
  have g3 := Lib.hid fun W (hW : Below w1.heap.size w1 W) => implNameParts ⟨(x ++ dPart).toArray⟩ W sp (HV.out.below hW)
  have g4 := Lib.hid fun W (hW : Below w1.heap.size w1 W) => implNameParts ⟨x.toArray⟩ W sx (HV.out.below hW)
  have g5 : Hid (∀ W, Calls Tryd.prog 11 #[.string ((⟨(x ++ dPart).toArray⟩ : ByteArray) ++ ⟨#[46]⟩)] W fun e w' => e = .returned (.bool false) ∧ Below W.heap.size W w') := fun W => by
    have := implNameOk ((⟨(x ++ dPart).toArray⟩ : ByteArray) ++ ⟨#[46]⟩) W sd
    rw [show nameOk (ByteArray.data ((⟨(x ++ dPart).toArray⟩ : ByteArray) ++ ⟨#[46]⟩)).toList = false by rw [cat_dot]; exact n5] at this
    exact this
  replace n4 : (nparts (ByteArray.data ⟨(x ++ dPart).toArray⟩).toList).length = (nparts (ByteArray.data ⟨x.toArray⟩).toList).length + 1 := n4
  replace n7 : (nparts (ByteArray.data ⟨x.toArray⟩).toList).length ≤ 5 := n7
  generalize nparts (ByteArray.data ⟨(x ++ dPart).toArray⟩).toList = np1 at g3 n4
  generalize nparts (ByteArray.data ⟨x.toArray⟩).toList = np0 at g4 n4 n7
  have hxp : (⟨(x ++ dPart).toArray⟩ : ByteArray).size ≤ 100 := by rw [size_sv, List.length_append]; have : dPart.length = 5 := rfl; omega
  generalize (⟨(x ++ dPart).toArray⟩ : ByteArray) = xp at g1 g2 g3 g5 hxp ⊢
  have qA : (0 : Int) < (A.length : Int) := by omega
  clear n0 n1 n2 n3 n5 n6 sx sp sd hmem
  -- region 7
  have HC : Hid (∀ W, Below w8.heap.size w8 W → W.cell? ⟨gu, 0, none⟩ = some (.string ⟨x.toArray⟩)) := fun W hW => (hW.cell (p := ⟨gu, 0, none⟩) (HU8.out.lt gu rfl).2).trans c0
  go_wp2
  refine wp_region_held_drew (S := fun w' => w'.cell? ⟨gu, 0, none⟩ = some (.string ⟨x.toArray⟩)) (by kernel_rfl) c0 (fun hS0 => ?_)
  refine heldW 0 32 (.bool true) rfl rfl (by kernel_rfl) (by kernel_rfl) (by kernel_rfl) (fun _ _ _ h => h) (by rfl) hS0 (fun W hSW => ?_) ?_
  · (try dsimp only at hSW); go_simp
  simp only [Act.put, List.setIfInBounds_toArray, List.set_cons_zero, List.set_cons_succ]
  refine heldW 1 33 (.bool false) rfl rfl (by kernel_rfl) (by kernel_rfl) (by kernel_rfl) (fun _ _ _ h => h) (by rfl) hS0 (fun W hSW => ?_) ?_
  · (try dsimp only at hSW); go_simp
  simp only [Act.put, List.setIfInBounds_toArray, List.set_cons_zero, List.set_cons_succ]
  refine heldW 2 34 (.bool false) rfl rfl (by kernel_rfl) (by kernel_rfl) (by kernel_rfl) (fun _ _ _ h => h) (by rfl) hS0 (fun W hSW => ?_) ?_
  · (try dsimp only at hSW); go_simp
  simp only [Act.put, List.setIfInBounds_toArray, List.set_cons_zero, List.set_cons_succ]
  refine heldW 3 35 (.slice (some ⟨gu, 0, none⟩) A.length cu) rfl rfl (by kernel_rfl) (by kernel_rfl) (by kernel_rfl) (fun _ _ _ h => h) (by rfl) hS0 (fun W hSW => ?_) ?_
  · (try dsimp only at hSW); go_simp
  simp only [Act.put, List.setIfInBounds_toArray, List.set_cons_zero, List.set_cons_succ]
  refine heldW 4 36 (.pointer (some ⟨gu, 0, none⟩)) rfl rfl (by kernel_rfl) (by kernel_rfl) (by kernel_rfl) (fun _ _ _ h => h) (by rfl) hS0 (fun W hSW => ?_) ?_
  · (try dsimp only at hSW); go_simp
  simp only [Act.put, List.setIfInBounds_toArray, List.set_cons_zero, List.set_cons_succ]
  refine heldW 5 37 (.string ⟨x.toArray⟩) rfl rfl (by kernel_rfl) (by kernel_rfl) (by kernel_rfl) (fun _ _ _ h => h) (by rfl) hS0 (fun W hSW => ?_) ?_
  · (try dsimp only at hSW); go_simp
  simp only [Act.put, List.setIfInBounds_toArray, List.set_cons_zero, List.set_cons_succ]
  refine heldW 6 38 (.string xp) rfl rfl (by kernel_rfl) (by kernel_rfl) (by kernel_rfl) (fun _ _ _ h => h) (by rfl) hS0 (fun W hSW => ?_) ?_
  · (try dsimp only at hSW); go_simp
  simp only [Act.put, List.setIfInBounds_toArray, List.set_cons_zero, List.set_cons_succ]
  refine wpAnyH_ready (rs := [7]) (by kernel_rfl) (by simp) (AllReadyH.cons rfl (fun K hK => ?_) AllReadyH.nil)
  rw [if_pos (by rfl)]
  go_simp
  (with_reducible refine (g1.out _).mono ?_); rintro e w9 ⟨rfl, hb9⟩
  have H9 : Hid (Below w8.heap.size w8 w9) := ((Below.refl w8.heap.size w8).drew.trans hb9)
  refine hK.out _ _ (HC.out _ H9.out) (fun hS9 => ?_)
  clear hK K hb9 hS0
  try simp only [Act.put, List.setIfInBounds_toArray, List.set_cons_zero, List.set_cons_succ]
  refine heldW 8 40 (.bool false) rfl rfl (by kernel_rfl) (by kernel_rfl) (by kernel_rfl) (fun _ _ _ h => h) (by rfl) hS9 (fun W hSW => ?_) ?_
  · (try dsimp only at hSW); go_simp
  simp only [Act.put, List.setIfInBounds_toArray, List.set_cons_zero, List.set_cons_succ]
  refine heldW 9 41 (.bool false) rfl rfl (by kernel_rfl) (by kernel_rfl) (by kernel_rfl) (fun _ _ _ h => h) (by rfl) hS9 (fun W hSW => ?_) ?_
  · (try dsimp only at hSW); go_simp
  simp only [Act.put, List.setIfInBounds_toArray, List.set_cons_zero, List.set_cons_succ]
  refine heldW 10 42 (.bool false) rfl rfl (by kernel_rfl) (by kernel_rfl) (by kernel_rfl) (fun _ _ _ h => h) (by rfl) hS9 (fun W hSW => ?_) ?_
  · (try dsimp only at hSW); go_simp
  simp only [Act.put, List.setIfInBounds_toArray, List.set_cons_zero, List.set_cons_succ]
  refine heldW 11 43 (.string xp) rfl rfl (by kernel_rfl) (by kernel_rfl) (by kernel_rfl) (fun _ _ _ h => h) (by rfl) hS9 (fun W hSW => ?_) ?_
  · (try dsimp only at hSW); go_simp
  simp only [Act.put, List.setIfInBounds_toArray, List.set_cons_zero, List.set_cons_succ]
  refine heldW 12 44 (.slice (some ⟨gu, 0, none⟩) A.length cu) rfl rfl (by kernel_rfl) (by kernel_rfl) (by kernel_rfl) (fun _ _ _ h => h) (by rfl) hS9 (fun W hSW => ?_) ?_
  · (try dsimp only at hSW); go_simp
  simp only [Act.put, List.setIfInBounds_toArray, List.set_cons_zero, List.set_cons_succ]
  refine heldW 13 45 (.pointer (some ⟨gu, 0, none⟩)) rfl rfl (by kernel_rfl) (by kernel_rfl) (by kernel_rfl) (fun _ _ _ h => h) (by rfl) hS9 (fun W hSW => ?_) ?_
  · (try dsimp only at hSW); go_simp
  simp only [Act.put, List.setIfInBounds_toArray, List.set_cons_zero, List.set_cons_succ]
  refine heldW 14 46 (.string ⟨x.toArray⟩) rfl rfl (by kernel_rfl) (by kernel_rfl) (by kernel_rfl) (fun _ _ _ h => h) (by rfl) hS9 (fun W hSW => ?_) ?_
  · (try dsimp only at hSW); go_simp
  simp only [Act.put, List.setIfInBounds_toArray, List.set_cons_zero, List.set_cons_succ]
  refine wpAnyH_ready (rs := [15]) (by kernel_rfl) (by simp) (AllReadyH.cons rfl (fun K hK => ?_) AllReadyH.nil)
  rw [if_pos (by rfl)]
  go_simp
  (with_reducible refine (g2.out _).mono ?_); rintro e w10 ⟨rfl, hb10⟩
  have H10 : Hid (Below w8.heap.size w8 w10) := (H9.out.trans (hb10.mono H9.out.size))
  refine hK.out _ _ (HC.out _ H10.out) (fun hS10 => ?_)
  clear hK K hb10 hS9
  try simp only [Act.put, List.setIfInBounds_toArray, List.set_cons_zero, List.set_cons_succ]
  refine heldW 16 48 (.bool false) rfl rfl (by kernel_rfl) (by kernel_rfl) (by kernel_rfl) (fun _ _ _ h => h) (by rfl) hS10 (fun W hSW => ?_) ?_
  · (try dsimp only at hSW); go_simp
  simp only [Act.put, List.setIfInBounds_toArray, List.set_cons_zero, List.set_cons_succ]
  refine heldW 17 49 (.bool false) rfl rfl (by kernel_rfl) (by kernel_rfl) (by kernel_rfl) (fun _ _ _ h => h) (by rfl) hS10 (fun W hSW => ?_) ?_
  · (try dsimp only at hSW); go_simp
  simp only [Act.put, List.setIfInBounds_toArray, List.set_cons_zero, List.set_cons_succ]
  refine heldW 18 50 (.string xp) rfl rfl (by kernel_rfl) (by kernel_rfl) (by kernel_rfl) (fun _ _ _ h => h) (by rfl) hS10 (fun W hSW => ?_) ?_
  · (try dsimp only at hSW); go_simp
  simp only [Act.put, List.setIfInBounds_toArray, List.set_cons_zero, List.set_cons_succ]
  refine heldW 21 53 (.slice (some ⟨gu, 0, none⟩) A.length cu) rfl rfl (by kernel_rfl) (by kernel_rfl) (by kernel_rfl) (fun _ _ _ h => h) (by rfl) hS10 (fun W hSW => ?_) ?_
  · (try dsimp only at hSW); go_simp
  simp only [Act.put, List.setIfInBounds_toArray, List.set_cons_zero, List.set_cons_succ]
  refine heldW 22 54 (.pointer (some ⟨gu, 0, none⟩)) rfl rfl (by kernel_rfl) (by kernel_rfl) (by kernel_rfl) (fun _ _ _ h => h) (by rfl) hS10 (fun W hSW => ?_) ?_
  · (try dsimp only at hSW); go_simp
  simp only [Act.put, List.setIfInBounds_toArray, List.set_cons_zero, List.set_cons_succ]
  refine heldW 23 55 (.string ⟨x.toArray⟩) rfl rfl (by kernel_rfl) (by kernel_rfl) (by kernel_rfl) (fun _ _ _ h => h) (by rfl) hS10 (fun W hSW => ?_) ?_
  · (try dsimp only at hSW); go_simp
  simp only [Act.put, List.setIfInBounds_toArray, List.set_cons_zero, List.set_cons_succ]
  refine wpAnyH_ready (rs := [19]) (by kernel_rfl) (by simp) (AllReadyH.cons rfl (fun K hK => ?_) AllReadyH.nil)
  rw [if_pos (by rfl)]
  go_simp
  (with_reducible refine (g3.out _ (HB8.out.trans (H10.out.mono HB8.out.size))).mono ?_); rintro e w11 ⟨u11, rfl, hu11, hb11⟩
  have H11 : Hid (Below w8.heap.size w8 w11) := (H10.out.trans (hb11.mono H10.out.size))
  obtain ⟨a11, c11, e11⟩ := own_sliceV hu11
  subst e11
  rw [n4]
  refine hK.out _ _ (HC.out _ H11.out) (fun hS11 => ?_)
  clear hK K hb11 hS10 hu11
  try simp only [Act.put, List.setIfInBounds_toArray, List.set_cons_zero, List.set_cons_succ]
  refine heldW 20 52 (.int .i64 ((np0.length + 1 : Nat) : Int)) rfl rfl (by kernel_rfl) (by kernel_rfl) (by kernel_rfl) (fun _ _ _ h => h) (by rfl) hS11 (fun W hSW => ?_) ?_
  · (try dsimp only at hSW); go_simp
  simp only [Act.put, List.setIfInBounds_toArray, List.set_cons_zero, List.set_cons_succ]
  refine wpAnyH_ready (rs := [24]) (by kernel_rfl) (by simp) (AllReadyH.cons rfl (fun K hK => ?_) AllReadyH.nil)
  rw [if_pos (by rfl)]
  go_simp
  (with_reducible refine (g4.out _ (HB8.out.trans (H11.out.mono HB8.out.size))).mono ?_); rintro e w12 ⟨u12, rfl, hu12, hb12⟩
  have H12 : Hid (Below w8.heap.size w8 w12) := (H11.out.trans (hb12.mono H11.out.size))
  obtain ⟨a12, c12, e12⟩ := own_sliceV hu12
  subst e12
  refine hK.out _ _ (HC.out _ H12.out) (fun hS12 => ?_)
  clear hK K hb12 hS11 hu12
  try simp only [Act.put, List.setIfInBounds_toArray, List.set_cons_zero, List.set_cons_succ]
  refine heldW 25 57 (.int .i64 (np0.length : Int)) rfl rfl (by kernel_rfl) (by kernel_rfl) (by kernel_rfl) (fun _ _ _ h => h) (by rfl) hS12 (fun W hSW => ?_) ?_
  · (try dsimp only at hSW); go_simp
  simp only [Act.put, List.setIfInBounds_toArray, List.set_cons_zero, List.set_cons_succ]
  refine heldW 26 58 (.int .i64 ((np0.length + 1 : Nat) : Int)) rfl rfl (by kernel_rfl) (by kernel_rfl) (by kernel_rfl) (fun _ _ _ h => h) (by rfl) hS12 (fun W hSW => ?_) ?_
  · (try dsimp only at hSW); go_simp; (try exact IntWalk.i64_in _ (by omega))
  simp only [Act.put, List.setIfInBounds_toArray, List.set_cons_zero, List.set_cons_succ]
  refine heldW 27 59 (.bool false) rfl rfl (by kernel_rfl) (by kernel_rfl) (by kernel_rfl) (fun _ _ _ h => h) (by rfl) hS12 (fun W hSW => ?_) ?_
  · (try dsimp only at hSW); go_simp
  simp only [Act.put, List.setIfInBounds_toArray, List.set_cons_zero, List.set_cons_succ]
  refine heldW 28 60 (.bool false) rfl rfl (by kernel_rfl) (by kernel_rfl) (by kernel_rfl) (fun _ _ _ h => h) (by rfl) hS12 (fun W hSW => ?_) ?_
  · (try dsimp only at hSW); go_simp
  simp only [Act.put, List.setIfInBounds_toArray, List.set_cons_zero, List.set_cons_succ]
  refine heldW 29 61 (.bool false) rfl rfl (by kernel_rfl) (by kernel_rfl) (by kernel_rfl) (fun _ _ _ h => h) (by rfl) hS12 (fun W hSW => ?_) ?_
  · (try dsimp only at hSW); go_simp
  simp only [Act.put, List.setIfInBounds_toArray, List.set_cons_zero, List.set_cons_succ]
  refine heldW 31 63 (.slice (some ⟨gs, 0, none⟩) S.length cs) rfl rfl (by kernel_rfl) (by kernel_rfl) (by kernel_rfl) (fun _ _ _ h => h) (by rfl) hS12 (fun W hSW => ?_) ?_
  · (try dsimp only at hSW); go_simp
  simp only [Act.put, List.setIfInBounds_toArray, List.set_cons_zero, List.set_cons_succ]
  refine wpAnyH_ready (rs := [30]) (by kernel_rfl) (by simp) (AllReadyH.cons rfl (fun K hK => ?_) AllReadyH.nil)
  rw [if_pos (by rfl)]
  go_simp
  have H13 := Lib.hid (H12.out.alloc H12.out.size (.cells #[] 9))
  refine hK.out _ _ (HC.out _ H13.out) (fun hS13 => ?_)
  clear hK K hS12
  try simp only [Act.put, List.setIfInBounds_toArray, List.set_cons_zero, List.set_cons_succ]
  refine wpAnyH_ready (rs := [32]) (by kernel_rfl) (by simp) (AllReadyH.cons rfl (fun K hK => ?_) AllReadyH.nil)
  rw [if_pos (by rfl)]
  refine wp_copyS _ _ rfl rfl _ _ S rfl (own_below HS8.out H12.out) (by omega) ?_; intro u14 w14 ho14 hb14
  have H14 := Lib.hid (H12.out.trans (hb14.mono H12.out.size))
  have f15 := Lib.hid (implNamesOk ho14 (by omega) (fun y hy => Nat.le_trans (HSl.out y hy).1 (by decide)))
  rw [HOk.out] at f15
  obtain ⟨a14, c14, e14⟩ := own_sliceV ho14
  subst e14
  refine hK.out _ _ (HC.out _ H14.out) (fun hS14 => ?_)
  clear hK K hS13 hb14 ho14
  try simp only [Act.put, List.setIfInBounds_toArray, List.set_cons_zero, List.set_cons_succ]
  refine wpAnyH_ready (rs := [33]) (by kernel_rfl) (by simp) (AllReadyH.cons rfl (fun K hK => ?_) AllReadyH.nil)
  rw [if_pos (by rfl)]
  go_simp
  (with_reducible refine (f15.out).mono ?_); rintro e w15 ⟨rfl, hb15⟩
  have H15 : Hid (Below w8.heap.size w8 w15) := (H14.out.trans (hb15.mono H14.out.size))
  refine hK.out _ _ (HC.out _ H15.out) (fun hS15 => ?_)
  clear hK K hb15 hS14 f15
  try simp only [Act.put, List.setIfInBounds_toArray, List.set_cons_zero, List.set_cons_succ]
  refine heldW 34 66 (.bool false) rfl rfl (by kernel_rfl) (by kernel_rfl) (by kernel_rfl) (fun _ _ _ h => h) (by rfl) hS15 (fun W hSW => ?_) ?_
  · (try dsimp only at hSW); go_simp
  simp only [Act.put, List.setIfInBounds_toArray, List.set_cons_zero, List.set_cons_succ]
  refine heldW 35 67 (.bool false) rfl rfl (by kernel_rfl) (by kernel_rfl) (by kernel_rfl) (fun _ _ _ h => h) (by rfl) hS15 (fun W hSW => ?_) ?_
  · (try dsimp only at hSW); go_simp
  simp only [Act.put, List.setIfInBounds_toArray, List.set_cons_zero, List.set_cons_succ]
  refine heldW 36 68 (.bool false) rfl rfl (by kernel_rfl) (by kernel_rfl) (by kernel_rfl) (fun _ _ _ h => h) (by rfl) hS15 (fun W hSW => ?_) ?_
  · (try dsimp only at hSW); go_simp
  simp only [Act.put, List.setIfInBounds_toArray, List.set_cons_zero, List.set_cons_succ]
  refine heldW 37 69 (.string xp) rfl rfl (by kernel_rfl) (by kernel_rfl) (by kernel_rfl) (fun _ _ _ h => h) (by rfl) hS15 (fun W hSW => ?_) ?_
  · (try dsimp only at hSW); go_simp
  simp only [Act.put, List.setIfInBounds_toArray, List.set_cons_zero, List.set_cons_succ]
  refine heldW 38 70 (.string (xp ++ ⟨#[46]⟩)) rfl rfl (by kernel_rfl) (by kernel_rfl) (by kernel_rfl) (fun _ _ _ h => h) (by rfl) hS15 (fun W hSW => ?_) ?_
  · (try dsimp only at hSW); go_simp; (try omega)
  simp only [Act.put, List.setIfInBounds_toArray, List.set_cons_zero, List.set_cons_succ]
  refine wpAnyH_ready (rs := [39]) (by kernel_rfl) (by simp) (AllReadyH.cons rfl (fun K hK => ?_) AllReadyH.nil)
  rw [if_pos (by rfl)]
  go_simp
  (with_reducible refine (g5.out _).mono ?_); rintro e w16 ⟨rfl, hb16⟩
  have H16 : Hid (Below w8.heap.size w8 w16) := (H15.out.trans (hb16.mono H15.out.size))
  refine hK.out _ _ (HC.out _ H16.out) (fun hS16 => ?_)
  clear hK K hb16 hS15
  try simp only [Act.put, List.setIfInBounds_toArray, List.set_cons_zero, List.set_cons_succ]
  refine heldW 40 72 (.bool false) rfl rfl (by kernel_rfl) (by kernel_rfl) (by kernel_rfl) (fun _ _ _ h => h) (by rfl) hS16 (fun W hSW => ?_) ?_
  · (try dsimp only at hSW); go_simp
  simp only [Act.put, List.setIfInBounds_toArray, List.set_cons_zero, List.set_cons_succ]
  refine wpAnyH_done (by kernel_rfl) ?_ _
  have HB16 := Lib.hid (HB8.out.trans (H16.out.mono HB8.out.size))
  have HU16 := Lib.hid (own_below HU8.out H16.out)
  have HD16 := Lib.hid (own_below HD8.out H16.out)
  have HS16 := Lib.hid (own_below HS8.out H16.out)
  clear HB8 HU8 HD8 HS8 HC H9 H10 H11 H12 H13 H14 H15 H16 hS16 c0
  go_wp2
  go_loopw [8] (fun i wr => ∃ k : Nat, k ≤ A.length ∧ i = .int .i64 k ∧ Hid (Below w16.heap.size w16 wr)) (fun i _ => A.length - (intOf i).toNat)
  case atStart => exact ⟨0, Nat.zero_le _, rfl, Below.refl _ _⟩
  case round =>
    obtain ⟨k, hk, rfl, HR⟩ := hrel
    by_cases hlt : k < A.length
    · have cy := (own_below HU16.out HR.out).cellAt k (by omega)
      rw [List.getElem?_map, List.getElem?_eq_getElem hlt] at cy
      simp only [Option.map_some, sv] at cy
      have hmy := HA.out _ (List.getElem_mem hlt)
      have hmi := HS.out.1 _ (List.getElem_mem hlt)
      have hly := (theNames_ok _ hmy).2
      have hun := (name_facts _ hmy).2.2.2.2.2.2.1
      generalize A[k] = y at cy hmy hmi hly hun
      have g6 : Hid (∀ W, Calls Tryd.prog 8 #[.string ⟨y.toArray⟩, .string ⟨y.toArray⟩] W fun e w' => e = .returned (.bool true) ∧ Below W.heap.size W w') := fun W => by
        have := implUnder ⟨y.toArray⟩ ⟨y.toArray⟩ W (by rw [size_sv]; unfold maxLen; omega) (by rw [size_sv]; unfold maxLen; omega)
        rw [show under (ByteArray.data ⟨y.toArray⟩).toList (ByteArray.data ⟨y.toArray⟩).toList = true from hun] at this
        exact this
      have q1 : (0 : Int) ≤ (k : Int) := by omega
      have q2 : (k : Int) < (A.length : Int) := by omega
      have d1 : decide ((k : Int) < (A.length : Int)) = true := decide_eq_true q2
      have HCy : Hid (∀ W, Below wr.heap.size wr W → W.cell? ⟨gu, k, none⟩ = some (.string ⟨y.toArray⟩)) := fun W hW => (hW.cell (p := ⟨gu, k, none⟩) ((own_below HU16.out HR.out).lt gu rfl).2).trans cy
      clear hmy hun hly
      go_wp2
      refine wp_region_held_drew (S := fun w' => w'.cell? ⟨gu, k, none⟩ = some (.string ⟨y.toArray⟩)) (by kernel_rfl) cy (fun hS0 => ?_)
      refine heldW 1 80 (.slice (some ⟨gs, 0, none⟩) S.length cs) rfl rfl (by kernel_rfl) (by kernel_rfl) (by kernel_rfl) (fun _ _ _ h => h) (by rfl) hS0 (fun W hSW => ?_) ?_
      · (try dsimp only at hSW); go_simp
      simp only [Act.put, List.setIfInBounds_toArray, List.set_cons_zero, List.set_cons_succ]
      refine heldW 3 82 (.slice (some ⟨gu, 0, none⟩) A.length cu) rfl rfl (by kernel_rfl) (by kernel_rfl) (by kernel_rfl) (fun _ _ _ h => h) (by rfl) hS0 (fun W hSW => ?_) ?_
      · (try dsimp only at hSW); go_simp
      simp only [Act.put, List.setIfInBounds_toArray, List.set_cons_zero, List.set_cons_succ]
      refine heldW 4 83 (.int .i64 (k : Int)) rfl rfl (by kernel_rfl) (by kernel_rfl) (by kernel_rfl) (fun _ _ _ h => h) (by rfl) hS0 (fun W hSW => ?_) ?_
      · (try dsimp only at hSW); go_simp
      simp only [Act.put, List.setIfInBounds_toArray, List.set_cons_zero, List.set_cons_succ]
      refine heldW 5 84 (.pointer (some ⟨gu, k, none⟩)) rfl rfl (by kernel_rfl) (by kernel_rfl) (by kernel_rfl) (fun _ _ _ h => h) (by rfl) hS0 (fun W hSW => ?_) ?_
      · (try dsimp only at hSW); go_simp
      simp only [Act.put, List.setIfInBounds_toArray, List.set_cons_zero, List.set_cons_succ]
      refine heldW 6 85 (.string ⟨y.toArray⟩) rfl rfl (by kernel_rfl) (by kernel_rfl) (by kernel_rfl) (fun _ _ _ h => h) (by rfl) hS0 (fun W hSW => ?_) ?_
      · (try dsimp only at hSW); go_simp
      simp only [Act.put, List.setIfInBounds_toArray, List.set_cons_zero, List.set_cons_succ]
      refine wpAnyH_ready (rs := [0]) (by kernel_rfl) (by simp) (AllReadyH.cons rfl (fun K hK => ?_) AllReadyH.nil)
      rw [if_pos (by rfl)]
      go_simp
      have H1 := Lib.hid (((Below.refl wr.heap.size wr).alloc (Nat.le_refl _) (.cells #[] 9)).drew : Below wr.heap.size wr (wr.alloc (.cells #[] 9)).drew)
      refine hK.out _ _ (HCy.out _ H1.out) (fun hS1 => ?_)
      clear hK K hS0
      try simp only [Act.put, List.setIfInBounds_toArray, List.set_cons_zero, List.set_cons_succ]
      refine wpAnyH_ready (rs := [2]) (by kernel_rfl) (by simp) (AllReadyH.cons rfl (fun K hK => ?_) AllReadyH.nil)
      rw [if_pos (by rfl)]
      refine wp_copyS (W := wr.drew) _ _ rfl rfl w7.heap.size (.slice (some ⟨gs, 0, none⟩) S.length cs) S rfl (own_below (own_below HS16.out HR.out) (Below.refl wr.heap.size wr).drew) (by omega) ?_; intro u2 w20 ho2 hb2
      have H2 : Hid (Below wr.heap.size wr w20) := (Below.refl wr.heap.size wr).drew.trans hb2
      have f3 := Lib.hid (implNameIn ho2 y (by omega))
      rw [hmi] at f3
      obtain ⟨a2, c2, e2⟩ := own_sliceV ho2
      subst e2
      refine hK.out _ _ (HCy.out _ H2.out) (fun hS2 => ?_)
      clear hK K hS1 hb2 ho2
      try simp only [Act.put, List.setIfInBounds_toArray, List.set_cons_zero, List.set_cons_succ]
      refine wpAnyH_ready (rs := [7]) (by kernel_rfl) (by simp) (AllReadyH.cons rfl (fun K hK => ?_) AllReadyH.nil)
      rw [if_pos (by rfl)]
      go_simp
      (with_reducible refine f3.out.mono ?_); rintro e w21 ⟨rfl, rfl⟩
      refine hK.out _ _ (HCy.out _ H2.out) (fun hS3 => ?_)
      clear hK K hS2 f3
      try simp only [Act.put, List.setIfInBounds_toArray, List.set_cons_zero, List.set_cons_succ]
      refine heldW 8 87 (.bool false) rfl rfl (by kernel_rfl) (by kernel_rfl) (by kernel_rfl) (fun _ _ _ h => h) (by rfl) hS3 (fun W hSW => ?_) ?_
      · (try dsimp only at hSW); go_simp
      simp only [Act.put, List.setIfInBounds_toArray, List.set_cons_zero, List.set_cons_succ]
      refine heldW 9 88 (.bool false) rfl rfl (by kernel_rfl) (by kernel_rfl) (by kernel_rfl) (fun _ _ _ h => h) (by rfl) hS3 (fun W hSW => ?_) ?_
      · (try dsimp only at hSW); go_simp
      simp only [Act.put, List.setIfInBounds_toArray, List.set_cons_zero, List.set_cons_succ]
      refine heldW 10 89 (.slice (some ⟨gu, 0, none⟩) A.length cu) rfl rfl (by kernel_rfl) (by kernel_rfl) (by kernel_rfl) (fun _ _ _ h => h) (by rfl) hS3 (fun W hSW => ?_) ?_
      · (try dsimp only at hSW); go_simp
      simp only [Act.put, List.setIfInBounds_toArray, List.set_cons_zero, List.set_cons_succ]
      refine heldW 11 90 (.int .i64 (k : Int)) rfl rfl (by kernel_rfl) (by kernel_rfl) (by kernel_rfl) (fun _ _ _ h => h) (by rfl) hS3 (fun W hSW => ?_) ?_
      · (try dsimp only at hSW); go_simp
      simp only [Act.put, List.setIfInBounds_toArray, List.set_cons_zero, List.set_cons_succ]
      refine heldW 12 91 (.pointer (some ⟨gu, k, none⟩)) rfl rfl (by kernel_rfl) (by kernel_rfl) (by kernel_rfl) (fun _ _ _ h => h) (by rfl) hS3 (fun W hSW => ?_) ?_
      · (try dsimp only at hSW); go_simp
      simp only [Act.put, List.setIfInBounds_toArray, List.set_cons_zero, List.set_cons_succ]
      refine heldW 13 92 (.string ⟨y.toArray⟩) rfl rfl (by kernel_rfl) (by kernel_rfl) (by kernel_rfl) (fun _ _ _ h => h) (by rfl) hS3 (fun W hSW => ?_) ?_
      · (try dsimp only at hSW); go_simp
      simp only [Act.put, List.setIfInBounds_toArray, List.set_cons_zero, List.set_cons_succ]
      refine heldW 14 93 (.slice (some ⟨gu, 0, none⟩) A.length cu) rfl rfl (by kernel_rfl) (by kernel_rfl) (by kernel_rfl) (fun _ _ _ h => h) (by rfl) hS3 (fun W hSW => ?_) ?_
      · (try dsimp only at hSW); go_simp
      simp only [Act.put, List.setIfInBounds_toArray, List.set_cons_zero, List.set_cons_succ]
      refine heldW 15 94 (.int .i64 (k : Int)) rfl rfl (by kernel_rfl) (by kernel_rfl) (by kernel_rfl) (fun _ _ _ h => h) (by rfl) hS3 (fun W hSW => ?_) ?_
      · (try dsimp only at hSW); go_simp
      simp only [Act.put, List.setIfInBounds_toArray, List.set_cons_zero, List.set_cons_succ]
      refine heldW 16 95 (.pointer (some ⟨gu, k, none⟩)) rfl rfl (by kernel_rfl) (by kernel_rfl) (by kernel_rfl) (fun _ _ _ h => h) (by rfl) hS3 (fun W hSW => ?_) ?_
      · (try dsimp only at hSW); go_simp
      simp only [Act.put, List.setIfInBounds_toArray, List.set_cons_zero, List.set_cons_succ]
      refine heldW 17 96 (.string ⟨y.toArray⟩) rfl rfl (by kernel_rfl) (by kernel_rfl) (by kernel_rfl) (fun _ _ _ h => h) (by rfl) hS3 (fun W hSW => ?_) ?_
      · (try dsimp only at hSW); go_simp
      simp only [Act.put, List.setIfInBounds_toArray, List.set_cons_zero, List.set_cons_succ]
      refine wpAnyH_ready (rs := [18]) (by kernel_rfl) (by simp) (AllReadyH.cons rfl (fun K hK => ?_) AllReadyH.nil)
      rw [if_pos (by rfl)]
      go_simp
      (with_reducible refine (g6.out _).mono ?_); rintro e w22 ⟨rfl, hb4⟩
      have H4 := Lib.hid (H2.out.trans (hb4.mono H2.out.size))
      refine hK.out _ _ (HCy.out _ H4.out) (fun hS4 => ?_)
      clear hK K hS3 hb4
      try simp only [Act.put, List.setIfInBounds_toArray, List.set_cons_zero, List.set_cons_succ]
      refine heldW 19 98 (.bool false) rfl rfl (by kernel_rfl) (by kernel_rfl) (by kernel_rfl) (fun _ _ _ h => h) (by rfl) hS4 (fun W hSW => ?_) ?_
      · (try dsimp only at hSW); go_simp
      simp only [Act.put, List.setIfInBounds_toArray, List.set_cons_zero, List.set_cons_succ]
      refine heldW 20 99 (.bool false) rfl rfl (by kernel_rfl) (by kernel_rfl) (by kernel_rfl) (fun _ _ _ h => h) (by rfl) hS4 (fun W hSW => ?_) ?_
      · (try dsimp only at hSW); go_simp
      simp only [Act.put, List.setIfInBounds_toArray, List.set_cons_zero, List.set_cons_succ]
      refine wpAnyH_done (by kernel_rfl) ?_ _
      have HR2 := Lib.hid (HR.out.trans (H4.out.mono HR.out.size))
      clear H1 H2 H4 hS4 g6 HCy cy
      go_wp2
      go_roundw
      case rel => exact ⟨k + 1, by omega, by go_num, HR2.out⟩
      case measure => simp [intOf]; omega
    · have hke : k = A.length := by omega
      subst hke
      have d1 : decide ((A.length : Int) < (A.length : Int)) = false := decide_eq_false (by omega)
      have d2 : ¬ ((A.length : Int) < (A.length : Int)) := by omega
      have HB17 := Lib.hid (HB16.out.trans (HR.out.mono HB16.out.size))
      have HU17 := Lib.hid (own_below HU16.out HR.out)
      have HD17 := Lib.hid (own_below HD16.out HR.out)
      have HS17 := Lib.hid (own_below HS16.out HR.out)
      clear HB16 HU16 HD16 HS16 HR hlt hk
      go_wp2
      rename World => wo
      go_loopw [9] (fun i wz => ∃ k : Nat, k ≤ S.length ∧ i = .int .i64 k ∧ Hid (Below wo.heap.size wo wz)) (fun i _ => S.length - (intOf i).toNat)
      case atStart => exact ⟨0, Nat.zero_le _, rfl, Below.refl _ _⟩
      case round =>
        obtain ⟨j, hj, rfl, HR⟩ := hrel
        by_cases hlt : j < S.length
        · have cy := (own_below HS17.out HR.out).cellAt j (by omega)
          rw [List.getElem?_map, List.getElem?_eq_getElem hlt] at cy
          simp only [Option.map_some, sv] at cy
          have hmi := HS.out.2 _ (List.getElem_mem hlt)
          generalize S[j] = y at cy hmi
          have q1 : (0 : Int) ≤ (j : Int) := by omega
          have q2 : (j : Int) < (S.length : Int) := by omega
          have d1 : decide ((j : Int) < (S.length : Int)) = true := decide_eq_true q2
          have HCy : Hid (∀ W, Below wr.heap.size wr W → W.cell? ⟨gs, j, none⟩ = some (.string ⟨y.toArray⟩)) := fun W hW => (hW.cell (p := ⟨gs, j, none⟩) ((own_below HS17.out HR.out).lt gs rfl).2).trans cy
          go_wp2
          refine wp_region_held_drew (S := fun w' => w'.cell? ⟨gs, j, none⟩ = some (.string ⟨y.toArray⟩)) (by kernel_rfl) cy (fun hS0 => ?_)
          refine heldW 1 107 (.slice (some ⟨gu, 0, none⟩) A.length cu) rfl rfl (by kernel_rfl) (by kernel_rfl) (by kernel_rfl) (fun _ _ _ h => h) (by rfl) hS0 (fun W hSW => ?_) ?_
          · (try dsimp only at hSW); go_simp
          simp only [Act.put, List.setIfInBounds_toArray, List.set_cons_zero, List.set_cons_succ]
          refine heldW 3 109 (.slice (some ⟨gs, 0, none⟩) S.length cs) rfl rfl (by kernel_rfl) (by kernel_rfl) (by kernel_rfl) (fun _ _ _ h => h) (by rfl) hS0 (fun W hSW => ?_) ?_
          · (try dsimp only at hSW); go_simp
          simp only [Act.put, List.setIfInBounds_toArray, List.set_cons_zero, List.set_cons_succ]
          refine heldW 4 110 (.int .i64 (j : Int)) rfl rfl (by kernel_rfl) (by kernel_rfl) (by kernel_rfl) (fun _ _ _ h => h) (by rfl) hS0 (fun W hSW => ?_) ?_
          · (try dsimp only at hSW); go_simp
          simp only [Act.put, List.setIfInBounds_toArray, List.set_cons_zero, List.set_cons_succ]
          refine heldW 5 111 (.pointer (some ⟨gs, j, none⟩)) rfl rfl (by kernel_rfl) (by kernel_rfl) (by kernel_rfl) (fun _ _ _ h => h) (by rfl) hS0 (fun W hSW => ?_) ?_
          · (try dsimp only at hSW); go_simp
          simp only [Act.put, List.setIfInBounds_toArray, List.set_cons_zero, List.set_cons_succ]
          refine heldW 6 112 (.string ⟨y.toArray⟩) rfl rfl (by kernel_rfl) (by kernel_rfl) (by kernel_rfl) (fun _ _ _ h => h) (by rfl) hS0 (fun W hSW => ?_) ?_
          · (try dsimp only at hSW); go_simp
          simp only [Act.put, List.setIfInBounds_toArray, List.set_cons_zero, List.set_cons_succ]
          refine wpAnyH_ready (rs := [0]) (by kernel_rfl) (by simp) (AllReadyH.cons rfl (fun K hK => ?_) AllReadyH.nil)
          rw [if_pos (by rfl)]
          go_simp
          have H1 := Lib.hid (((Below.refl wr.heap.size wr).alloc (Nat.le_refl _) (.cells #[] 9)).drew : Below wr.heap.size wr (wr.alloc (.cells #[] 9)).drew)
          refine hK.out _ _ (HCy.out _ H1.out) (fun hS1 => ?_)
          clear hK K hS0
          try simp only [Act.put, List.setIfInBounds_toArray, List.set_cons_zero, List.set_cons_succ]
          refine wpAnyH_ready (rs := [2]) (by kernel_rfl) (by simp) (AllReadyH.cons rfl (fun K hK => ?_) AllReadyH.nil)
          rw [if_pos (by rfl)]
          refine wp_copyS (W := wr.drew) _ _ rfl rfl w1.heap.size (.slice (some ⟨gu, 0, none⟩) A.length cu) A rfl (own_below (own_below HU17.out HR.out) (Below.refl wr.heap.size wr).drew) (by omega) ?_; intro u2 w20 ho2 hb2
          have H2 : Hid (Below wr.heap.size wr w20) := (Below.refl wr.heap.size wr).drew.trans hb2
          have f3 := Lib.hid (implNameIn ho2 y (by omega))
          obtain ⟨a2, c2, e2⟩ := own_sliceV ho2
          subst e2
          refine hK.out _ _ (HCy.out _ H2.out) (fun hS2 => ?_)
          clear hK K hS1 hb2 ho2
          try simp only [Act.put, List.setIfInBounds_toArray, List.set_cons_zero, List.set_cons_succ]
          by_cases hin : inL A y = true
          · rw [hin] at f3
            refine wpAnyH_ready (rs := [7]) (by kernel_rfl) (by simp) (AllReadyH.cons rfl (fun K hK => ?_) AllReadyH.nil)
            rw [if_pos (by rfl)]
            go_simp
            (with_reducible refine f3.out.mono ?_); rintro e w21 ⟨rfl, rfl⟩
            refine hK.out _ _ (HCy.out _ H2.out) (fun hS3 => ?_)
            clear hK K hS2 f3
            try simp only [Act.put, List.setIfInBounds_toArray, List.set_cons_zero, List.set_cons_succ]
            refine heldW 8 114 (.bool false) rfl rfl (by kernel_rfl) (by kernel_rfl) (by kernel_rfl) (fun _ _ _ h => h) (by rfl) hS3 (fun W hSW => ?_) ?_
            · (try dsimp only at hSW); go_simp
            simp only [Act.put, List.setIfInBounds_toArray, List.set_cons_zero, List.set_cons_succ]
            refine heldW 9 115 (.bool false) rfl rfl (by kernel_rfl) (by kernel_rfl) (by kernel_rfl) (fun _ _ _ h => h) (by rfl) hS3 (fun W hSW => ?_) ?_
            · (try dsimp only at hSW); go_simp
            simp only [Act.put, List.setIfInBounds_toArray, List.set_cons_zero, List.set_cons_succ]
            refine heldS 10 116 rfl rfl (by kernel_rfl) (by kernel_rfl) (by kernel_rfl) (fun _ _ _ h => h) (by rfl) hS3 ?_
            simp only [Act.put, List.setIfInBounds_toArray, List.set_cons_zero, List.set_cons_succ]
            refine heldS 11 117 rfl rfl (by kernel_rfl) (by kernel_rfl) (by kernel_rfl) (fun _ _ _ h => h) (by rfl) hS3 ?_
            simp only [Act.put, List.setIfInBounds_toArray, List.set_cons_zero, List.set_cons_succ]
            refine heldS 12 118 rfl rfl (by kernel_rfl) (by kernel_rfl) (by kernel_rfl) (fun _ _ _ h => h) (by rfl) hS3 ?_
            simp only [Act.put, List.setIfInBounds_toArray, List.set_cons_zero, List.set_cons_succ]
            refine heldS 13 119 rfl rfl (by kernel_rfl) (by kernel_rfl) (by kernel_rfl) (fun _ _ _ h => h) (by rfl) hS3 ?_
            simp only [Act.put, List.setIfInBounds_toArray, List.set_cons_zero, List.set_cons_succ]
            refine heldS 14 120 rfl rfl (by kernel_rfl) (by kernel_rfl) (by kernel_rfl) (fun _ _ _ h => h) (by rfl) hS3 ?_
            simp only [Act.put, List.setIfInBounds_toArray, List.set_cons_zero, List.set_cons_succ]
            refine heldS 15 121 rfl rfl (by kernel_rfl) (by kernel_rfl) (by kernel_rfl) (fun _ _ _ h => h) (by rfl) hS3 ?_
            simp only [Act.put, List.setIfInBounds_toArray, List.set_cons_zero, List.set_cons_succ]
            refine heldS 16 122 rfl rfl (by kernel_rfl) (by kernel_rfl) (by kernel_rfl) (fun _ _ _ h => h) (by rfl) hS3 ?_
            simp only [Act.put, List.setIfInBounds_toArray, List.set_cons_zero, List.set_cons_succ]
            refine heldS 17 123 rfl rfl (by kernel_rfl) (by kernel_rfl) (by kernel_rfl) (fun _ _ _ h => h) (by rfl) hS3 ?_
            simp only [Act.put, List.setIfInBounds_toArray, List.set_cons_zero, List.set_cons_succ]
            refine heldS 18 124 rfl rfl (by kernel_rfl) (by kernel_rfl) (by kernel_rfl) (fun _ _ _ h => h) (by rfl) hS3 ?_
            simp only [Act.put, List.setIfInBounds_toArray, List.set_cons_zero, List.set_cons_succ]
            refine heldW 19 125 (.bool false) rfl rfl (by kernel_rfl) (by kernel_rfl) (by kernel_rfl) (fun _ _ _ h => h) (by rfl) hS3 (fun W hSW => ?_) ?_
            · (try dsimp only at hSW); go_simp
            simp only [Act.put, List.setIfInBounds_toArray, List.set_cons_zero, List.set_cons_succ]
            refine wpAnyH_done (by kernel_rfl) ?_ _
            have HR2 := Lib.hid (HR.out.trans (H2.out.mono HR.out.size))
            go_wp2
            go_roundw
            case rel => exact ⟨j + 1, by omega, by go_num, HR2.out⟩
            case measure => simp [intOf]; omega
          · rw [Bool.not_eq_true] at hin
            have hinB := hmi hin
            rw [hin] at f3
            refine wpAnyH_ready (rs := [7]) (by kernel_rfl) (by simp) (AllReadyH.cons rfl (fun K hK => ?_) AllReadyH.nil)
            rw [if_pos (by rfl)]
            go_simp
            (with_reducible refine f3.out.mono ?_); rintro e w21 ⟨rfl, rfl⟩
            refine hK.out _ _ (HCy.out _ H2.out) (fun hS3 => ?_)
            clear hK K hS2 f3
            try simp only [Act.put, List.setIfInBounds_toArray, List.set_cons_zero, List.set_cons_succ]
            refine heldW 8 114 (.bool true) rfl rfl (by kernel_rfl) (by kernel_rfl) (by kernel_rfl) (fun _ _ _ h => h) (by rfl) hS3 (fun W hSW => ?_) ?_
            · (try dsimp only at hSW); go_simp
            simp only [Act.put, List.setIfInBounds_toArray, List.set_cons_zero, List.set_cons_succ]
            refine heldW 9 115 (.bool true) rfl rfl (by kernel_rfl) (by kernel_rfl) (by kernel_rfl) (fun _ _ _ h => h) (by rfl) hS3 (fun W hSW => ?_) ?_
            · (try dsimp only at hSW); go_simp
            simp only [Act.put, List.setIfInBounds_toArray, List.set_cons_zero, List.set_cons_succ]
            refine heldW 11 117 (.slice (some ⟨gd, 0, none⟩) B.length cd) rfl rfl (by kernel_rfl) (by kernel_rfl) (by kernel_rfl) (fun _ _ _ h => h) (by rfl) hS3 (fun W hSW => ?_) ?_
            · (try dsimp only at hSW); go_simp
            simp only [Act.put, List.setIfInBounds_toArray, List.set_cons_zero, List.set_cons_succ]
            refine heldW 13 119 (.slice (some ⟨gs, 0, none⟩) S.length cs) rfl rfl (by kernel_rfl) (by kernel_rfl) (by kernel_rfl) (fun _ _ _ h => h) (by rfl) hS3 (fun W hSW => ?_) ?_
            · (try dsimp only at hSW); go_simp
            simp only [Act.put, List.setIfInBounds_toArray, List.set_cons_zero, List.set_cons_succ]
            refine heldW 14 120 (.int .i64 (j : Int)) rfl rfl (by kernel_rfl) (by kernel_rfl) (by kernel_rfl) (fun _ _ _ h => h) (by rfl) hS3 (fun W hSW => ?_) ?_
            · (try dsimp only at hSW); go_simp
            simp only [Act.put, List.setIfInBounds_toArray, List.set_cons_zero, List.set_cons_succ]
            refine heldW 15 121 (.pointer (some ⟨gs, j, none⟩)) rfl rfl (by kernel_rfl) (by kernel_rfl) (by kernel_rfl) (fun _ _ _ h => h) (by rfl) hS3 (fun W hSW => ?_) ?_
            · (try dsimp only at hSW); go_simp
            simp only [Act.put, List.setIfInBounds_toArray, List.set_cons_zero, List.set_cons_succ]
            refine heldW 16 122 (.string ⟨y.toArray⟩) rfl rfl (by kernel_rfl) (by kernel_rfl) (by kernel_rfl) (fun _ _ _ h => h) (by rfl) hS3 (fun W hSW => ?_) ?_
            · (try dsimp only at hSW); go_simp
            simp only [Act.put, List.setIfInBounds_toArray, List.set_cons_zero, List.set_cons_succ]
            refine wpAnyH_ready (rs := [10]) (by kernel_rfl) (by simp) (AllReadyH.cons rfl (fun K hK => ?_) AllReadyH.nil)
            rw [if_pos (by rfl)]
            go_simp
            have H3 := Lib.hid (H2.out.alloc H2.out.size (.cells #[] 9))
            refine hK.out _ _ (HCy.out _ H3.out) (fun hS4 => ?_)
            clear hK K hS3
            try simp only [Act.put, List.setIfInBounds_toArray, List.set_cons_zero, List.set_cons_succ]
            refine wpAnyH_ready (rs := [12]) (by kernel_rfl) (by simp) (AllReadyH.cons rfl (fun K hK => ?_) AllReadyH.nil)
            rw [if_pos (by rfl)]
            refine wp_copyS _ _ rfl rfl _ _ B rfl (own_below (own_below HD17.out HR.out) H2.out) (by omega) ?_; intro u4 w24 ho4 hb4
            have H4 := Lib.hid (H2.out.trans (hb4.mono H2.out.size))
            have f5 := Lib.hid (implNameIn ho4 y (by omega))
            rw [hinB] at f5
            obtain ⟨a4, c4, e4⟩ := own_sliceV ho4
            subst e4
            refine hK.out _ _ (HCy.out _ H4.out) (fun hS5 => ?_)
            clear hK K hS4 hb4 ho4
            try simp only [Act.put, List.setIfInBounds_toArray, List.set_cons_zero, List.set_cons_succ]
            refine wpAnyH_ready (rs := [17]) (by kernel_rfl) (by simp) (AllReadyH.cons rfl (fun K hK => ?_) AllReadyH.nil)
            rw [if_pos (by rfl)]
            go_simp
            (with_reducible refine f5.out.mono ?_); rintro e w25 ⟨rfl, rfl⟩
            refine hK.out _ _ (HCy.out _ H4.out) (fun hS6 => ?_)
            clear hK K hS5 f5
            try simp only [Act.put, List.setIfInBounds_toArray, List.set_cons_zero, List.set_cons_succ]
            refine heldW 18 124 (.bool false) rfl rfl (by kernel_rfl) (by kernel_rfl) (by kernel_rfl) (fun _ _ _ h => h) (by rfl) hS6 (fun W hSW => ?_) ?_
            · (try dsimp only at hSW); go_simp
            simp only [Act.put, List.setIfInBounds_toArray, List.set_cons_zero, List.set_cons_succ]
            refine heldW 19 125 (.bool false) rfl rfl (by kernel_rfl) (by kernel_rfl) (by kernel_rfl) (fun _ _ _ h => h) (by rfl) hS6 (fun W hSW => ?_) ?_
            · (try dsimp only at hSW); go_simp
            simp only [Act.put, List.setIfInBounds_toArray, List.set_cons_zero, List.set_cons_succ]
            refine wpAnyH_done (by kernel_rfl) ?_ _
            have HR2 := Lib.hid (HR.out.trans (H4.out.mono HR.out.size))
            go_wp2
            go_roundw
            case rel => exact ⟨j + 1, by omega, by go_num, HR2.out⟩
            case measure => simp [intOf]; omega
        · have hke : j = S.length := by omega
          subst hke
          have d1 : decide ((S.length : Int) < (S.length : Int)) = false := decide_eq_false (by omega)
          have d2 : ¬ ((S.length : Int) < (S.length : Int)) := by omega
          have HB18 := Lib.hid (HB17.out.trans (HR.out.mono HB17.out.size))
          have HU18 := Lib.hid (own_below HU17.out HR.out)
          have HD18 := Lib.hid (own_below HD17.out HR.out)
          have HS18 := Lib.hid (own_below HS17.out HR.out)
          clear HB17 HU17 HD17 HS17 HR hlt hj
          go_wp2_with (at_builtin; first | (refine append_copyS rfl _ _ rfl rfl _ _ B rfl HD18.out (by omega) ?_; intro u6 w26 ho6 hb6; have HU19 := Lib.hid (own_below HU18.out hb6)) | (refine append_copyS rfl _ _ rfl rfl _ _ A rfl HU19.out (by omega) ?_; intro u7 w27 ho7 hb7))
          have hb67 := hb6.trans (hb7.mono hb6.size)
          have HB19 := Lib.hid (HB18.out.trans (hb67.mono HB18.out.size))
          have HS19 := Lib.hid (own_below HS18.out hb67)
          have f8 := Lib.hid (hBo _ _ _ _ _ B A (own_below ho6 hb7) ho7 (by omega) (fun y hy => by
            rcases List.mem_append.1 hy with h | h
            · exact Nat.le_trans (theNames_ok _ (HB.out _ h)).2 (by decide)
            · exact Nat.le_trans (theNames_ok _ (HA.out _ h)).2 (by decide)))
          rw [← HSw.out] at f8
          clear ho6 ho7 hb6 hb7 hb67 HU19 HB18 HU18 HD18 HS18
          go_wp2_with fail
          (with_reducible refine f8.out.mono ?_); rintro e w28 ⟨u28, rfl, hu28, hb28⟩
          have HB20 := Lib.hid (HB19.out.trans (hb28.mono HB19.out.size))
          have HS20 := own_below HS19.out hb28
          clear f8 hb28 HB19 HS19
          have f9 := Lib.hid (sameTextsS HS20 hu28 (by omega) (by omega))
          clear HS20
          obtain ⟨a28, c28, e28⟩ := own_sliceV hu28
          subst e28
          clear hu28
          go_wp2_with fail
          (with_reducible refine f9.out.mono ?_); rintro e w29 ⟨rfl, qd, rfl⟩
          have HB21 := Lib.hid (below_drewN HB20.out qd)
          go_wp2
          go_ret
          exact ⟨rfl, HB21.out⟩
end Go.Proofs.YtanhnicfkghkbaaDoor
