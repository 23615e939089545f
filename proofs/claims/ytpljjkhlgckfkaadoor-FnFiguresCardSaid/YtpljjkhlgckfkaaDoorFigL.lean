/-
  laws.FnFigures returns true at every list of bytes, for programs whose figures answer as said.
-/
import Derived.Test.YtpljjkhlgckfkaaDoorFigM
import Derived.Test.YtpljjkhlgckfkaaDoorQDr
import Derived.Test.YtpljjkhlgckfkaaDoorRdI
import Derived.Test.YtpljjkhlgckfkaaDoorBig
import Derived.Lib.ItoaLen
import Derived.Deep.RegionHeld3
import Derived.Test.YtpljjkhlgckfkaaDoorHeldW
import Derived.Deep.DeepCutAuto
import Derived.BigQuiet
namespace Go.Proofs.YtpljjkhlgckfkaaDoor
set_option maxRecDepth 100000
open Go.ChangeShapes Go.WideShapes Go.ChangeAt Go.RowKit
set_option linter.unusedSimpArgs false
set_option linter.unusedVariables false

set_option maxHeartbeats 16000000 in
theorem walkFigures {w : World} {v : Value} {l : List UInt8} (hl : CameB w v l) (hm : l.length ≤ maxLen) (hv : Vars w) :
    Calls Tryd.prog 3 #[v] w fun e w' => e = .returned (.bool true) ∧ Below w.heap.size w w' := by
  have f0 := Lib.hid (bigB hl hm)
  have FP := Lib.hid fun (h : l.length ≤ 2000000) (W : World) (hW : Below w.heap.size w W) => drawPlaces (hl.below hW) h
  have HV := Lib.hid hv
  obtain ⟨a0, cap, _, _, hve, _⟩ := id hl
  clear hl hv
  subst hve
  go_enter Tryd.func3, Tryd.ntmps3
  go_wp2_with fail
  (with_reducible refine f0.out.mono ?_); rintro e w1 ⟨rfl, rfl⟩
  by_cases hb : 1048576 < l.length
  · have d1 : decide (1048576 < l.length) = true := decide_eq_true hb
    clear FP f0
    go_wp2
    go_ret
    exact ⟨rfl, Below.refl _ _⟩
  have d1 : decide (1048576 < l.length) = false := decide_eq_false hb
  have fp := Lib.hid (FP.out (by omega) _ (Below.refl _ _))
  clear FP f0 hb hm
  go_wp2_with fail
  (with_reducible refine fp.out.mono ?_); rintro e w2 ⟨u2, ps, rfl, hpl, hpx, hrow, hb2⟩
  have HB2 := Lib.hid hb2
  have HV2 := Lib.hid (HV.out.below hb2)
  obtain ⟨p0, p1, p2, p3, p4, p5, p6, p7, p8, p9, p10, p11, rfl⟩ : ∃ p0 p1 p2 p3 p4 p5 p6 p7 p8 p9 p10 p11, ps = [p0, p1, p2, p3, p4, p5, p6, p7, p8, p9, p10, p11] := by
    rcases ps with _ | ⟨p0, _ | ⟨p1, _ | ⟨p2, _ | ⟨p3, _ | ⟨p4, _ | ⟨p5, _ | ⟨p6, _ | ⟨p7, _ | ⟨p8, _ | ⟨p9, _ | ⟨p10, _ | ⟨p11, _ | ⟨p12, r⟩⟩⟩⟩⟩⟩⟩⟩⟩⟩⟩⟩⟩ <;> first | exact ⟨_, _, _, _, _, _, _, _, _, _, _, _, rfl⟩ | (simp at hpl; done)
  have x0 := hpx p0 (by simp)
  have x1 := hpx p1 (by simp)
  have x2 := hpx p2 (by simp)
  have x3 := hpx p3 (by simp)
  have x4 := hpx p4 (by simp)
  have x5 := hpx p5 (by simp)
  have x6 := hpx p6 (by simp)
  have x7 := hpx p7 (by simp)
  obtain ⟨g, c, rfl, _, hgl⟩ := hrow.form (by simp)
  have HC : Hid (∀ W, Below w2.heap.size w2 W → W.cell? ⟨g, 0, none⟩ = some (.int .i64 p0) ∧ W.cell? ⟨g, 1, none⟩ = some (.int .i64 p1) ∧ W.cell? ⟨g, 2, none⟩ = some (.int .i64 p2) ∧ W.cell? ⟨g, 3, none⟩ = some (.int .i64 p3) ∧ W.cell? ⟨g, 4, none⟩ = some (.int .i64 p4) ∧ W.cell? ⟨g, 5, none⟩ = some (.int .i64 p5) ∧ W.cell? ⟨g, 6, none⟩ = some (.int .i64 p6) ∧ W.cell? ⟨g, 7, none⟩ = some (.int .i64 p7)) := by
    intro W hW
    have h := own_below hrow hW
    exact ⟨h.cellAt 0 (by simp), h.cellAt 1 (by simp), h.cellAt 2 (by simp), h.cellAt 3 (by simp), h.cellAt 4 (by simp), h.cellAt 5 (by simp), h.cellAt 6 (by simp), h.cellAt 7 (by simp)⟩
  obtain ⟨c0, c1, c2, c3, c4, c5, c6, c7⟩ := HC.out _ (Below.refl _ _)
  clear hpl hpx hrow hb2 fp
  simp only [List.length_cons, List.length_nil, Nat.zero_add, Nat.reduceAdd]
  have fD := Lib.hid fun W (hW : Below w2.heap.size w2 W) => implDecimal p5 W (by omega) (by omega) (HV2.out.below hW).tab
  obtain ⟨b6, hb6⟩ : ∃ b6 : UInt8, IntKind.u8.wrap p6 = (b6.toNat : Int) := ⟨UInt8.ofNat (p6 % 256).toNat, by rw [show IntKind.u8.wrap p6 = p6 % 256 from rfl]; simp; omega⟩
  obtain ⟨b7, hb7⟩ : ∃ b7 : UInt8, IntKind.u8.wrap p7 = (b7.toNat : Int) := ⟨UInt8.ofNat (p7 % 256).toNat, by rw [show IntKind.u8.wrap p7 = p7 % 256 from rfl]; simp; omega⟩
  have ld := Lib.itoa_length_le p5 (by omega) (by omega)
  obtain ⟨dc, hdc⟩ : ∃ dc, Lib.itoa p5 = dc := ⟨_, rfl⟩
  rw [hdc] at fD ld
  have hcat : (⟨dc.toArray⟩ : ByteArray) ++ ⟨#[b6, b7]⟩ = ⟨(dc ++ [b6, b7]).toArray⟩ := by
    apply ByteArray.ext
    simp
  have HCAT := Lib.hid hcat
  clear hcat hdc
  go_upto_region 4 with fail
  go_cut [4] (fun s4 wx => s4 = .string ⟨(dc ++ [b6, b7]).toArray⟩ ∧ Hid (Below w2.heap.size w2 wx))
  case first =>
    refine wp_region_held_drew (S := (fun w' => w'.cell? ⟨g, 0, none⟩ = some (.int .i64 p0) ∧ w'.cell? ⟨g, 1, none⟩ = some (.int .i64 p1) ∧ w'.cell? ⟨g, 2, none⟩ = some (.int .i64 p2) ∧ w'.cell? ⟨g, 3, none⟩ = some (.int .i64 p3) ∧ w'.cell? ⟨g, 4, none⟩ = some (.int .i64 p4) ∧ w'.cell? ⟨g, 5, none⟩ = some (.int .i64 p5) ∧ w'.cell? ⟨g, 6, none⟩ = some (.int .i64 p6) ∧ w'.cell? ⟨g, 7, none⟩ = some (.int .i64 p7))) (by kernel_rfl) ⟨c0, c1, c2, c3, c4, c5, c6, c7⟩ (fun hS0 => ?_)
    clear c0 c1 c2 c3 c4 c5 c6 c7
    refine heldW 0 17 (.slice (some ⟨g, 0, none⟩) 12 c) rfl rfl (by kernel_rfl) (by kernel_rfl) (by kernel_rfl) (fun _ _ _ h => h) (by rfl) hS0 (fun W hSW => ?_) ?_
    · (try dsimp only at hSW); (try obtain ⟨hSA, hSB⟩ := hSW); go_simp; (try omega)
    simp only [Act.put, List.setIfInBounds_toArray, List.set_cons_zero, List.set_cons_succ]
    refine heldW 1 18 (.pointer (some ⟨g, 5, none⟩)) rfl rfl (by kernel_rfl) (by kernel_rfl) (by kernel_rfl) (fun _ _ _ h => h) (by rfl) hS0 (fun W hSW => ?_) ?_
    · (try dsimp only at hSW); (try obtain ⟨hSA, hSB⟩ := hSW); go_simp; (try omega)
    simp only [Act.put, List.setIfInBounds_toArray, List.set_cons_zero, List.set_cons_succ]
    refine heldW 2 19 (.int .i64 p5) rfl rfl (by kernel_rfl) (by kernel_rfl) (by kernel_rfl) (fun _ _ _ h => h) (by rfl) hS0 (fun W hSW => ?_) ?_
    · (try dsimp only at hSW); (try obtain ⟨hSA, hSB⟩ := hSW); go_simp; (try omega)
    simp only [Act.put, List.setIfInBounds_toArray, List.set_cons_zero, List.set_cons_succ]
    refine heldW 4 21 (.slice (some ⟨g, 0, none⟩) 12 c) rfl rfl (by kernel_rfl) (by kernel_rfl) (by kernel_rfl) (fun _ _ _ h => h) (by rfl) hS0 (fun W hSW => ?_) ?_
    · (try dsimp only at hSW); (try obtain ⟨hSA, hSB⟩ := hSW); go_simp; (try omega)
    simp only [Act.put, List.setIfInBounds_toArray, List.set_cons_zero, List.set_cons_succ]
    refine heldW 5 22 (.pointer (some ⟨g, 6, none⟩)) rfl rfl (by kernel_rfl) (by kernel_rfl) (by kernel_rfl) (fun _ _ _ h => h) (by rfl) hS0 (fun W hSW => ?_) ?_
    · (try dsimp only at hSW); (try obtain ⟨hSA, hSB⟩ := hSW); go_simp; (try omega)
    simp only [Act.put, List.setIfInBounds_toArray, List.set_cons_zero, List.set_cons_succ]
    refine heldW 6 23 (.int .i64 p6) rfl rfl (by kernel_rfl) (by kernel_rfl) (by kernel_rfl) (fun _ _ _ h => h) (by rfl) hS0 (fun W hSW => ?_) ?_
    · (try dsimp only at hSW); (try obtain ⟨hSA, hSB⟩ := hSW); go_simp; (try omega)
    simp only [Act.put, List.setIfInBounds_toArray, List.set_cons_zero, List.set_cons_succ]
    refine heldW 7 24 (.int .u8 (b6.toNat : Int)) rfl rfl (by kernel_rfl) (by kernel_rfl) (by kernel_rfl) (fun _ _ _ h => h) (by rfl) hS0 (fun W hSW => ?_) ?_
    · (try dsimp only at hSW); (try obtain ⟨hSA, hSB⟩ := hSW); go_simp; (try omega)
    simp only [Act.put, List.setIfInBounds_toArray, List.set_cons_zero, List.set_cons_succ]
    refine heldW 8 25 (.slice (some ⟨g, 0, none⟩) 12 c) rfl rfl (by kernel_rfl) (by kernel_rfl) (by kernel_rfl) (fun _ _ _ h => h) (by rfl) hS0 (fun W hSW => ?_) ?_
    · (try dsimp only at hSW); (try obtain ⟨hSA, hSB⟩ := hSW); go_simp; (try omega)
    simp only [Act.put, List.setIfInBounds_toArray, List.set_cons_zero, List.set_cons_succ]
    refine heldW 9 26 (.pointer (some ⟨g, 7, none⟩)) rfl rfl (by kernel_rfl) (by kernel_rfl) (by kernel_rfl) (fun _ _ _ h => h) (by rfl) hS0 (fun W hSW => ?_) ?_
    · (try dsimp only at hSW); (try obtain ⟨hSA, hSB⟩ := hSW); go_simp; (try omega)
    simp only [Act.put, List.setIfInBounds_toArray, List.set_cons_zero, List.set_cons_succ]
    refine heldW 10 27 (.int .i64 p7) rfl rfl (by kernel_rfl) (by kernel_rfl) (by kernel_rfl) (fun _ _ _ h => h) (by rfl) hS0 (fun W hSW => ?_) ?_
    · (try dsimp only at hSW); (try obtain ⟨hSA, hSB⟩ := hSW); go_simp; (try omega)
    simp only [Act.put, List.setIfInBounds_toArray, List.set_cons_zero, List.set_cons_succ]
    refine heldW 11 28 (.int .u8 (b7.toNat : Int)) rfl rfl (by kernel_rfl) (by kernel_rfl) (by kernel_rfl) (fun _ _ _ h => h) (by rfl) hS0 (fun W hSW => ?_) ?_
    · (try dsimp only at hSW); (try obtain ⟨hSA, hSB⟩ := hSW); go_simp; (try omega)
    simp only [Act.put, List.setIfInBounds_toArray, List.set_cons_zero, List.set_cons_succ]
    refine wpAnyH_ready (rs := [3, 12]) (by kernel_rfl) (by simp) (AllReadyH.cons rfl (fun K hK => ?_) (AllReadyH.cons rfl (fun K hK => ?_) AllReadyH.nil))
    · rw [if_pos (by rfl)]
      go_simp
      (with_reducible refine (fD.out _ (Below.refl w2.heap.size w2).drew).mono ?_); rintro e w3 ⟨rfl, hb3⟩
      have H3 := Lib.hid (((Below.refl w2.heap.size w2).drew).trans hb3 : Below w2.heap.size w2 w3)
      refine hK.out _ _ (HC.out _ H3.out) (fun hS1 => ?_)
      clear hK K hS0 hb3
      try simp only [Act.put, List.setIfInBounds_toArray, List.set_cons_zero, List.set_cons_succ]
      refine wpAnyH_ready (rs := [12]) (by kernel_rfl) (by simp) (AllReadyH.cons rfl (fun K hK => ?_) AllReadyH.nil)
      rw [if_pos (by rfl)]
      go_simp
      have H4 := Lib.hid (H3.out.alloc H3.out.size (.cells #[.int .u8 (b6.toNat : Int), .int .u8 (b7.toNat : Int)] 5))
      have hrw : (w3.alloc (.cells #[.int .u8 (b6.toNat : Int), .int .u8 (b7.toNat : Int)] 5)).ownsRow w3.heap.size 5 1 (.slice (some ⟨w3.heap.size, 0, none⟩) 2 2) 2 ([b6, b7].map bv) := World.ownsRow_lit w3 #[.int .u8 (b6.toNat : Int), .int .u8 (b7.toNat : Int)] 2 (Nat.le_refl _) (by decide) (by simp)
      have hcv := conv_own _ Tryd.underlying22 Tryd.underlying5 Tryd.underlying9 hrw
      refine hK.out _ _ (HC.out _ H4.out) (fun hS2 => ?_)
      clear hK K hS1
      try simp only [Act.put, List.setIfInBounds_toArray, List.set_cons_zero, List.set_cons_succ]
      refine wpAnyH_ready (rs := [13]) (by kernel_rfl) (by simp) (AllReadyH.cons rfl (fun K hK => ?_) AllReadyH.nil)
      rw [if_pos (by rfl)]
      go_simp
      refine hK.out _ _ (HC.out _ H4.out) (fun hSZ => ?_)
      clear hK K hS2
      try simp only [Act.put, List.setIfInBounds_toArray, List.set_cons_zero, List.set_cons_succ]
      refine heldW 14 31 (.string ((⟨dc.toArray⟩ : ByteArray) ++ ⟨#[b6, b7]⟩)) rfl rfl (by kernel_rfl) (by kernel_rfl) (by kernel_rfl) (fun _ _ _ h => h) (by rfl) hSZ (fun W hSW => ?_) ?_
      · (try dsimp only at hSW); (try obtain ⟨hSA, hSB⟩ := hSW); go_simp; (try omega)
      simp only [Act.put, List.setIfInBounds_toArray, List.set_cons_zero, List.set_cons_succ]
      refine heldW 15 4 (.string ((⟨dc.toArray⟩ : ByteArray) ++ ⟨#[b6, b7]⟩)) rfl rfl (by kernel_rfl) (by kernel_rfl) (by kernel_rfl) (fun _ _ _ h => h) (by rfl) hSZ (fun W hSW => ?_) ?_
      · (try dsimp only at hSW); (try obtain ⟨hSA, hSB⟩ := hSW); go_simp; (try omega)
      simp only [Act.put, List.setIfInBounds_toArray, List.set_cons_zero, List.set_cons_succ]
      refine wpAnyH_done (by kernel_rfl) ?_ _
      go_wp2_with fail
      go_meet
      exact ⟨by rw [HCAT.out], H4.out⟩
    · rw [if_pos (by rfl)]
      go_simp
      have H3 := Lib.hid (((Below.refl w2.heap.size w2).alloc (Nat.le_refl _) (.cells #[.int .u8 (b6.toNat : Int), .int .u8 (b7.toNat : Int)] 5)).drew : Below w2.heap.size w2 (w2.alloc (.cells #[.int .u8 (b6.toNat : Int), .int .u8 (b7.toNat : Int)] 5)).drew)
      have hrw : (w2.alloc (.cells #[.int .u8 (b6.toNat : Int), .int .u8 (b7.toNat : Int)] 5)).drew.ownsRow w2.heap.size 5 1 (.slice (some ⟨w2.heap.size, 0, none⟩) 2 2) 2 ([b6, b7].map bv) := World.ownsRow_lit w2 #[.int .u8 (b6.toNat : Int), .int .u8 (b7.toNat : Int)] 2 (Nat.le_refl _) (by decide) (by simp)
      refine hK.out _ _ (HC.out _ H3.out) (fun hS1 => ?_)
      clear hK K hS0
      try simp only [Act.put, List.setIfInBounds_toArray, List.set_cons_zero, List.set_cons_succ]
      refine wpAnyH_ready (rs := [3, 13]) (by kernel_rfl) (by simp) (AllReadyH.cons rfl (fun K hK => ?_) (AllReadyH.cons rfl (fun K hK => ?_) AllReadyH.nil))
      · rw [if_pos (by rfl)]
        go_simp
        (with_reducible refine (fD.out _ H3.out).mono ?_); rintro e w4 ⟨rfl, hb4⟩
        have H4 := Lib.hid (H3.out.trans (hb4.mono H3.out.size))
        have hcv := conv_own _ Tryd.underlying22 Tryd.underlying5 Tryd.underlying9 (own_below (w := (w2.alloc (.cells #[.int .u8 (b6.toNat : Int), .int .u8 (b7.toNat : Int)] 5)).drew) hrw hb4)
        refine hK.out _ _ (HC.out _ H4.out) (fun hS2 => ?_)
        clear hK K hS1 hb4
        try simp only [Act.put, List.setIfInBounds_toArray, List.set_cons_zero, List.set_cons_succ]
        refine wpAnyH_ready (rs := [13]) (by kernel_rfl) (by simp) (AllReadyH.cons rfl (fun K hK => ?_) AllReadyH.nil)
        rw [if_pos (by rfl)]
        go_simp
        refine hK.out _ _ (HC.out _ H4.out) (fun hSZ => ?_)
        clear hK K hS2
        try simp only [Act.put, List.setIfInBounds_toArray, List.set_cons_zero, List.set_cons_succ]
        refine heldW 14 31 (.string ((⟨dc.toArray⟩ : ByteArray) ++ ⟨#[b6, b7]⟩)) rfl rfl (by kernel_rfl) (by kernel_rfl) (by kernel_rfl) (fun _ _ _ h => h) (by rfl) hSZ (fun W hSW => ?_) ?_
        · (try dsimp only at hSW); (try obtain ⟨hSA, hSB⟩ := hSW); go_simp; (try omega)
        simp only [Act.put, List.setIfInBounds_toArray, List.set_cons_zero, List.set_cons_succ]
        refine heldW 15 4 (.string ((⟨dc.toArray⟩ : ByteArray) ++ ⟨#[b6, b7]⟩)) rfl rfl (by kernel_rfl) (by kernel_rfl) (by kernel_rfl) (fun _ _ _ h => h) (by rfl) hSZ (fun W hSW => ?_) ?_
        · (try dsimp only at hSW); (try obtain ⟨hSA, hSB⟩ := hSW); go_simp; (try omega)
        simp only [Act.put, List.setIfInBounds_toArray, List.set_cons_zero, List.set_cons_succ]
        refine wpAnyH_done (by kernel_rfl) ?_ _
        go_wp2_with fail
        go_meet
        exact ⟨by rw [HCAT.out], H4.out⟩
      · rw [if_pos (by rfl)]
        have hcv := conv_own _ Tryd.underlying22 Tryd.underlying5 Tryd.underlying9 hrw
        go_simp
        refine hK.out _ _ (HC.out _ H3.out) (fun hS2 => ?_)
        clear hK K hS1
        try simp only [Act.put, List.setIfInBounds_toArray, List.set_cons_zero, List.set_cons_succ]
        refine wpAnyH_ready (rs := [3]) (by kernel_rfl) (by simp) (AllReadyH.cons rfl (fun K hK => ?_) AllReadyH.nil)
        rw [if_pos (by rfl)]
        go_simp
        (with_reducible refine (fD.out _ H3.out).mono ?_); rintro e w4 ⟨rfl, hb4⟩
        have H4 := Lib.hid (H3.out.trans (hb4.mono H3.out.size))
        refine hK.out _ _ (HC.out _ H4.out) (fun hSZ => ?_)
        clear hK K hS2 hb4
        try simp only [Act.put, List.setIfInBounds_toArray, List.set_cons_zero, List.set_cons_succ]
        refine heldW 14 31 (.string ((⟨dc.toArray⟩ : ByteArray) ++ ⟨#[b6, b7]⟩)) rfl rfl (by kernel_rfl) (by kernel_rfl) (by kernel_rfl) (fun _ _ _ h => h) (by rfl) hSZ (fun W hSW => ?_) ?_
        · (try dsimp only at hSW); (try obtain ⟨hSA, hSB⟩ := hSW); go_simp; (try omega)
        simp only [Act.put, List.setIfInBounds_toArray, List.set_cons_zero, List.set_cons_succ]
        refine heldW 15 4 (.string ((⟨dc.toArray⟩ : ByteArray) ++ ⟨#[b6, b7]⟩)) rfl rfl (by kernel_rfl) (by kernel_rfl) (by kernel_rfl) (fun _ _ _ h => h) (by rfl) hSZ (fun W hSW => ?_) ?_
        · (try dsimp only at hSW); (try obtain ⟨hSA, hSB⟩ := hSW); go_simp; (try omega)
        simp only [Act.put, List.setIfInBounds_toArray, List.set_cons_zero, List.set_cons_succ]
        refine wpAnyH_done (by kernel_rfl) ?_ _
        go_wp2_with fail
        go_meet
        exact ⟨by rw [HCAT.out], H4.out⟩
  case rest =>
    obtain ⟨rfl, H4⟩ := hcut
    clear c0 c1 c2 c3 c4 c5 c6 c7 fD HCAT
    have hb6' := hb6
    clear hb6 hb7 hb6'
    obtain ⟨t, ht⟩ : ∃ t, dc ++ [b6, b7] = t := ⟨_, rfl⟩
    have htl : t.length ≤ 23 := by rw [← ht]; simp; omega
    rw [ht]
    clear ht ld
    have fH := Lib.hid fun W => implHex ⟨t.toArray⟩ W (by show t.length ≤ _; omega)
    have hxl := hexL_len t
    have hun := un_hexL t
    have fU := Lib.hid fun W => implUnhex ⟨(hexL t).toArray⟩ W (by show (hexL t).length ≤ _; omega) (by show (hexL t).length % 2 = 0; omega)
    simp only [show ∀ l : List UInt8, (⟨l.toArray⟩ : ByteArray).data.toList = l from fun l => rfl] at fH fU
    rw [hun] at fU
    simp only [unRes] at fU
    generalize hexL t = hx at fH fU hxl
    clear hun
    go_wp2_with fail
    (with_reducible refine (fH.out _).mono ?_); rintro e w5 ⟨rfl, hb5⟩
    have H5 := Lib.hid (H4.out.trans (hb5.mono H4.out.size))
    clear hb5 fH H4
    go_wp2_with fail
    (with_reducible refine (fU.out _).mono ?_); rintro e w6 ⟨rfl, hb6⟩
    have H6 := Lib.hid (H5.out.trans (hb6.mono H5.out.size))
    clear hb6 fU H5
    obtain ⟨c0, c1, c2, c3, c4, c5, c6, c7⟩ := HC.out _ H6.out
    obtain ⟨N, hN⟩ : ∃ N : Nat, p0 * 10000 + p1 = (N : Int) := ⟨(p0 * 10000 + p1).toNat, by omega⟩
    have e1 : IntKind.i64.wrap (p0 * 10000) = p0 * 10000 := IntWalk.i64_in _ (by omega)
    have e2 : IntKind.i64.wrap (p0 * 10000 + p1) = (N : Int) := by rw [hN]; exact IntWalk.i64_in _ (by omega)
    have hN9 : N ≤ 1000000000 := by omega
    have e3 : IntKind.i64.wrap (p2 - 5000) = p2 - 5000 := IntWalk.i64_in _ (by omega)
    have e4 : IntKind.i64.wrap (-p3) = -p3 := IntWalk.i64_in _ (by omega)
    have HD := Lib.hid (isDec_itoa hN9)
    have lN := Lib.itoa_length_le (N : Int) (by omega) (by omega)
    have fD := Lib.hid fun W (hW : Below w2.heap.size w2 W) => implDecimal (N : Int) W (by omega) (by omega) (HV2.out.below hW).tab
    have fR := Lib.hid fun W (hW : Below w2.heap.size w2 W) => implRead ⟨(Lib.itoa (N : Int)).toArray⟩ W (by show (Lib.itoa (N : Int)).length ≤ _; omega) (HV2.out.below hW)
    unfold RdPost at fR
    simp only [show ∀ l : List UInt8, (⟨l.toArray⟩ : ByteArray).data.toList = l from fun l => rfl] at fR
    obtain ⟨b1, b2, b3⟩ := brought_in (v := p2 - 5000) (lo := -p3) (hi := p4) (by omega)
    have fB := Lib.hid fun W => implBrought (p2 - 5000) (-p3) p4 W (by omega)
    have fB2 := Lib.hid fun W => implBrought (brought (p2 - 5000) (-p3) p4) (-p3) p4 W (by omega)
    rw [b3] at fB2
    generalize brought (p2 - 5000) (-p3) p4 = bb at fB fB2 b1 b2
    generalize Lib.itoa (N : Int) = dn at fD fR HD lN
    have g1 : decide (-p3 ≤ bb) = true := decide_eq_true b1
    have g2 : decide (bb ≤ p4) = true := decide_eq_true b2
    have g3 : (bb == bb) = true := by rw [beq_iff_eq]
    have g4 : (t == t) = true := by rw [beq_iff_eq]
    have g5 : ((N : Int) == (N : Int)) = true := by rw [beq_iff_eq]
    have g6 : ((hx.length : Int) == 2 * (t.length : Int)) = true := by rw [beq_iff_eq]; omega
    have e5 : IntKind.i64.wrap (2 * (t.length : Int)) = 2 * (t.length : Int) := IntWalk.i64_in _ (by omega)
    clear b3 x0 x1 x2 x3 x4 x5 x6 x7 hN b1 b2
    go_wp2
    go_quiet (fail)
    have H7 := Lib.hid (below_drewN H6.out nq)
    generalize w6.drewN nq = w7 at H7 ⊢
    clear c0 c1 c2 c3 c4 c5 c6 c7 H6
    go_wp2_with fail
    (with_reducible refine (fD.out _ H7.out).mono ?_); rintro e w8 ⟨rfl, hb8⟩
    have H8 := Lib.hid (H7.out.trans (hb8.mono H7.out.size))
    clear hb8 fD H7
    go_wp2_with fail
    (with_reducible refine (fR.out _ H8.out).mono ?_); rintro e w9 ⟨hb9, (⟨m, hm, rfl⟩ | ⟨hno, _⟩)⟩
    rotate_left
    · exact absurd HD.out (hno N)
    have hmN := hm.uniq HD.out
    subst hmN
    have H9 := Lib.hid (H8.out.trans (hb9.mono H8.out.size))
    clear hb9 fR H8 hm HD
    obtain ⟨c0, c1, c2, c3, c4, c5, c6, c7⟩ := HC.out _ H9.out
    go_wp2
    go_quiet ((go_at_call 10; exact Calls.quiet_of_same (fB.out _)))
    have H10 := Lib.hid (below_drewN H9.out nq)
    generalize w9.drewN nq = w10 at H10 ⊢
    clear fB e1 e2 e3 c0 c1 c2 c3 c4 c5 c6 c7 H9
    obtain ⟨c0, c1, c2, c3, c4, c5, c6, c7⟩ := HC.out _ H10.out
    go_wp2
    go_quiet ((go_at_call 10; exact Calls.quiet_of_same (fB2.out _)))

    go_wp2
    go_ret
    exact ⟨rfl, HB2.out.trans ((below_drewN H10.out _).mono HB2.out.size)⟩
theorem walkFig (W : World) {v : Value} {l : List UInt8} (hl : CameB W v l) (hm : l.length ≤ maxLen) (hv : Vars W) :
    Calls Tryd.prog 3 #[v] W fun e w' => e = .returned (.bool true) ∧ Below W.heap.size W w' := walkFigures hl hm hv
end Go.Proofs.YtpljjkhlgckfkaaDoor
