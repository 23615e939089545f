/-
  The contracts of spec.RecName and spec.NamesOf.
  The laws of DeclOk and RecName from the contracts of the model's and the program's functions (the program's handed in as hypotheses).
-/
import Derived.Test.YtgielbamebjjdaaGreatDoorG2
import Derived.Test.YtgielbamebjjdaaGreatDoorJ0
import Derived.Deep.RegionHeld3
namespace Go.Proofs.YtgielbamebjjdaaGreatDoor
set_option maxRecDepth 100000
open Go.ChangeShapes Go.WideShapes Go.ChangeAt Go.RowKit
set_option linter.unusedSimpArgs false
set_option linter.unusedVariables false

theorem recText (nm : List UInt8) : (⟨nm.toArray⟩ : ByteArray) ++ ⟨#[46, 114, 101, 99]⟩ = ⟨(nm ++ 46 :: recB).toArray⟩ := by
  apply ByteArray.ext
  simp [recB]
set_option maxHeartbeats 4000000 in
theorem specRecName {w : World} {d : Dc} {b : Nat} {u : Value} (h : w.ownsRow b 42 2 u d.ctors.length (flatC d.ctors)) (hs : d.Small) :
    Calls Tryz.prog 33 #[d.val u] w fun e w' => e = .returned (.string ⟨(recName d).toArray⟩) ∧ Below w.heap.size w w' := by
  obtain ⟨kd, nm, ps, fl, ty, vl, cs⟩ := d
  obtain ⟨ua, uc, rfl⟩ := row_sliceD h
  have HB0 := Lib.hid (alloc_any w (.cells #[.int .i64 kd, .string ⟨nm.toArray⟩, .int .i64 ps, .int .i64 fl, .string ⟨ty.toArray⟩, .string ⟨vl.toArray⟩, .slice ua cs.length uc] 36))
  have f1 := Lib.hid (specDeclOk (d := ⟨kd, nm, ps, fl, ty, vl, cs⟩) (own_below h HB0.out) hs)
  have hval : ∀ u, Dc.val ⟨kd, nm, ps, fl, ty, vl, cs⟩ u = .agg #[.int .i64 kd, .string ⟨nm.toArray⟩, .int .i64 ps, .int .i64 fl, .string ⟨ty.toArray⟩, .string ⟨vl.toArray⟩, u] := fun u => rfl
  rw [hval] at f1 ⊢
  have s1 := hs.name
  simp only at s1
  have HE : Hid (recName ⟨kd, nm, ps, fl, ty, vl, cs⟩ = if kd = 4 ∧ declOk ⟨kd, nm, ps, fl, ty, vl, cs⟩ = true then nm ++ 46 :: recB else []) := rfl
  have HX := Lib.hid (declBox (w := w) (kd := kd) (ps := ps) (fl := fl) (nm := nm) (ty := ty) (vl := vl) (u := .slice ua cs.length uc))
  have hrt := recText nm
  have znm := size_sv nm
  clear h hval hs
  generalize declOk ⟨kd, nm, ps, fl, ty, vl, cs⟩ = ok at f1 HE
  by_cases k4 : kd = 4
  rotate_left
  · have b4 : (kd == 4) = false := by rw [beq_eq_false_iff_ne]; exact k4
    have b5 : (kd != 4) = true := by rw [bne, b4]; rfl
    have HF : Hid (recName ⟨kd, nm, ps, fl, ty, vl, cs⟩ = []) := by rw [Hid, HE.out, if_neg (fun h => k4 h.1)]
    clear f1 HX HE k4
    go_enter Tryz.func33, Tryz.ntmps33
    go_wp2
    go_ret
    rw [HF.out]
    exact ⟨rfl, HB0.out⟩
  subst k4
  go_enter Tryz.func33, Tryz.ntmps33
  go_wp2_with fail
  (with_reducible refine f1.out.mono ?_); rintro e w1 ⟨rfl, hb⟩
  have HB1 := Lib.hid (HB0.out.trans (hb.mono HB0.out.size))
  obtain ⟨c0, c1, c2, c3, c4, c5, c6⟩ := HX.out _ hb
  clear hb f1 HX
  cases ok
  · have HF : Hid (recName ⟨4, nm, ps, fl, ty, vl, cs⟩ = []) := by rw [Hid, HE.out]; rfl
    go_wp2
    go_ret
    rw [HF.out]
    exact ⟨rfl, HB1.out⟩
  · have HF : Hid (recName ⟨4, nm, ps, fl, ty, vl, cs⟩ = nm ++ 46 :: recB) := by rw [Hid, HE.out]; rfl
    generalize nm ++ 46 :: recB = rn at hrt HF
    go_wp2
    go_ret
    rw [HF.out]
    exact ⟨rfl, HB1.out⟩

def NRes (l : List (List UInt8)) (w : World) (e : Ending) (w' : World) : Prop := LRes' l w e w'
set_option maxHeartbeats 8000000 in
theorem specNamesOf {w : World} {d : Dc} {b : Nat} {u : Value} (h : w.ownsRow b 42 2 u d.ctors.length (flatC d.ctors)) (hs : d.Small) :
    Calls Tryz.prog 37 #[d.val u] w (LRes' (namesOf d) w) := by
  obtain ⟨i0, hi, hz0, hz1, hz2⟩ := info_parts infoStr'
  obtain ⟨kd, nm, ps, fl, ty, vl, cs⟩ := d
  obtain ⟨ua, uc, rfl⟩ := row_sliceD h
  have HB0 := Lib.hid (alloc_any w (.cells #[.int .i64 kd, .string ⟨nm.toArray⟩, .int .i64 ps, .int .i64 fl, .string ⟨ty.toArray⟩, .string ⟨vl.toArray⟩, .slice ua cs.length uc] 36))
  have HROW := Lib.hid (own_below h HB0.out)
  have f1 := Lib.hid (specDeclOk (d := ⟨kd, nm, ps, fl, ty, vl, cs⟩) HROW.out hs)
  have hval : ∀ u, Dc.val ⟨kd, nm, ps, fl, ty, vl, cs⟩ u = .agg #[.int .i64 kd, .string ⟨nm.toArray⟩, .int .i64 ps, .int .i64 fl, .string ⟨ty.toArray⟩, .string ⟨vl.toArray⟩, u] := fun u => rfl
  rw [hval] at f1 ⊢
  have s1 := hs.name
  have s4 := hs.ctors
  simp only at s1 s4
  have HE : Hid (namesOf ⟨kd, nm, ps, fl, ty, vl, cs⟩ = if declOk ⟨kd, nm, ps, fl, ty, vl, cs⟩ = true then nm :: (cs.map fun c => c.1) ++ (if kd = 4 then [nm ++ 46 :: recB] else []) else []) := rfl
  have HX := Lib.hid (declBox (w := w) (kd := kd) (ps := ps) (fl := fl) (nm := nm) (ty := ty) (vl := vl) (u := .slice ua cs.length uc))
  have hrt := recText nm
  have znm := size_sv nm
  clear h hval hs
  generalize declOk ⟨kd, nm, ps, fl, ty, vl, cs⟩ = ok at f1 HE
  go_enter Tryz.func37, Tryz.ntmps37
  go_wp2_with fail
  (with_reducible refine f1.out.mono ?_); rintro e w1 ⟨rfl, hb⟩
  have HBX := Lib.hid hb
  have HB1 := Lib.hid (HB0.out.trans (hb.mono HB0.out.size))
  obtain ⟨c0, c1, c2, c3, c4, c5, c6⟩ := HX.out _ hb
  clear hb f1
  cases ok
  · have HF : Hid (namesOf ⟨kd, nm, ps, fl, ty, vl, cs⟩ = []) := by rw [Hid, HE.out]; rfl
    have hrow : Hid ((w1.alloc (.cells #[] 9)).ownsRow w.heap.size 9 1 (.slice (some ⟨w1.heap.size, 0, none⟩) 0 0) 0 []) := World.ownsRow_lit w1 #[] 0 HB1.out.size (by decide) (by simp)
    have hbl := Lib.hid (HB1.out.alloc HB1.out.size (.cells #[] 9))
    clear HX HROW
    go_wp2
    go_ret
    rw [HF.out]
    exact ⟨_, rfl, hrow.out, hbl.out⟩
  have HV : Hid (namesOf ⟨kd, nm, ps, fl, ty, vl, cs⟩ = nm :: (cs.map fun c => c.1) ++ (if kd = 4 then [nm ++ 46 :: recB] else [])) := by rw [Hid, HE.out]; rfl
  clear HE
  obtain ⟨W0, hW0⟩ : ∃ W0, (w.alloc (.cells #[.int .i64 kd, .string ⟨nm.toArray⟩, .int .i64 ps, .int .i64 fl, .string ⟨ty.toArray⟩, .string ⟨vl.toArray⟩, .slice ua cs.length uc] 36)) = W0 := ⟨_, rfl⟩
  rw [hW0] at HX HROW HB0 HBX
  clear hW0
  have hrow0 : Hid ((w1.alloc (.cells #[.string ⟨nm.toArray⟩] 9)).ownsRow W0.heap.size 9 1 (.slice (some ⟨w1.heap.size, 0, none⟩) 1 1) 1 [sv nm]) := World.ownsRow_lit w1 #[.string ⟨nm.toArray⟩] 1 HBX.out.size (by decide) (by simp)
  have hbl0 := Lib.hid (HBX.out.alloc HBX.out.size (.cells #[.string ⟨nm.toArray⟩] 9))
  go_wp2
  go_loopw [3, 4] (fun o i wr => ∃ (k : Nat) (oo : Value), k ≤ cs.length ∧ i = .int .i64 k ∧ oo = o ∧ Hid (wr.ownsRow W0.heap.size 9 1 oo (k + 1) ((nm :: (cs.take k).map fun c => c.1).map sv)) ∧ Hid (Below W0.heap.size W0 wr)) (fun _ i _ => cs.length - (intOf i).toNat)
  case atStart => exact ⟨0, _, Nat.zero_le _, rfl, rfl, hrow0.out, hbl0.out⟩
  case round =>
    obtain ⟨k, oo, hk, rfl, rfl, HO, HW⟩ := hrel
    clear c0 c1 c2 c3 c4 c5 c6
    obtain ⟨c0, c1, c2, c3, c4, c5, c6⟩ := HX.out _ HW.out
    have hz := HW.out.size
    by_cases hlt : k < cs.length
    · have hrow := own_below HROW.out HW.out
      obtain ⟨g, cap', eg, _, hgl⟩ := hrow.form (by omega)
      cases eg
      obtain ⟨fa, fb⟩ := flatC_at hlt
      have x1 := (hrow.cellAt (k * 2) (by omega)).trans fa
      unfold sv at x1
      have HT : Hid ((nm :: (cs.take (k + 1)).map fun c => c.1).map sv = ((nm :: (cs.take k).map fun c => c.1).map sv) ++ [sv cs[k].1]) := by
        rw [Hid, List.take_succ_eq_append_getElem hlt, List.map_append, ← List.cons_append, List.map_append]
        rfl
      have q1 : (0 : Int) ≤ (k : Int) := by omega
      have q2 : (k : Int) < (cs.length : Int) := by omega
      clear fa fb hrow
      generalize cs[k].1 = n at x1 HT
      go_wp2_with (at_builtin; refine wpList_append_own _ rfl _ _ 25 rfl W0.heap.size 9 i0 _ 1 16 Tryz.underlying25 hi hz0 hz1 hz2 rfl (by decide) _ _ _ rfl (HO.out.alloc _) ⟨wr.heap.size, 0, none⟩ 1 1 [.string ⟨n.toArray⟩] rfl rfl (oneNew _ _ _) (by simp [Value.oneCell']) (by simp only [maxLen]; omega) (by omega) (by simp; omega) ?_; intro v2 w2 hown2 hgrow hnil2)
      have HO2 : Hid (w2.ownsRow W0.heap.size 9 1 v2 (k + 1 + 1) ((nm :: (cs.take (k + 1)).map fun c => c.1).map sv)) := by
        rw [Hid, HT.out]
        exact hown2
      have HW2 : Hid (Below W0.heap.size W0 w2) := (HW.out.alloc hz _).grown hgrow (by simp; omega) (fun q hq => (HO.out.lt q hq).1)
      clear hown2 hgrow
      go_wp2
      go_roundw
      case rel => exact ⟨k + 1, _, by omega, by go_num, rfl, HO2.out, HW2.out⟩
      case measure => simp [intOf]; omega
    · obtain rfl : k = cs.length := by omega
      have HBF := Lib.hid (HB0.out.trans (HW.out.mono HB0.out.size))
      have hz0' := HB0.out.size
      by_cases k4 : kd = 4
      · have HF : Hid ((namesOf ⟨kd, nm, ps, fl, ty, vl, cs⟩).map sv = ((nm :: (cs.take cs.length).map fun c => c.1).map sv) ++ [sv (nm ++ 46 :: recB)] ∧ (namesOf ⟨kd, nm, ps, fl, ty, vl, cs⟩).length = cs.length + 1 + 1) := by
          rw [Hid, HV.out, if_pos k4, List.take_length]
          simp
        subst k4
        generalize nm ++ 46 :: recB = rn at hrt HF
        go_wp2_with (at_builtin; refine wpList_append_own _ rfl _ _ 25 rfl W0.heap.size 9 i0 _ 1 16 Tryz.underlying25 hi hz0 hz1 hz2 rfl (by decide) _ _ _ rfl (HO.out.alloc _) ⟨wr.heap.size, 0, none⟩ 1 1 [.string ⟨rn.toArray⟩] rfl rfl (oneNew _ _ _) (by simp [Value.oneCell']) (by simp only [maxLen]; omega) (by omega) (by simp; omega) ?_; intro v2 w2 hown2 hgrow hnil2)
        have HO2 : Hid (w2.ownsRow w.heap.size 9 1 v2 (namesOf ⟨4, nm, ps, fl, ty, vl, cs⟩).length ((namesOf ⟨4, nm, ps, fl, ty, vl, cs⟩).map sv)) := by
          rw [Hid, HF.out.1, HF.out.2]
          exact own_lower hown2 hz0'
        have HB2 : Hid (Below w.heap.size w w2) := (HBF.out.alloc HBF.out.size _).grown hgrow (by simp; omega) (fun q hq => Nat.le_trans hz0' (HO.out.lt q hq).1)
        clear hown2 hgrow
        go_wp2
        go_ret
        exact ⟨_, rfl, HO2.out, HB2.out⟩
      · have b4 : (kd == 4) = false := by rw [beq_eq_false_iff_ne]; exact k4
        have HO2 : Hid (wr.ownsRow w.heap.size 9 1 oo (namesOf ⟨kd, nm, ps, fl, ty, vl, cs⟩).length ((namesOf ⟨kd, nm, ps, fl, ty, vl, cs⟩).map sv)) := by
          rw [Hid, HV.out, if_neg k4, List.append_nil]
          have h1 := own_lower HO.out hz0'
          rw [List.take_length] at h1
          simpa using h1
        clear k4
        go_wp2
        go_ret
        exact ⟨_, rfl, HO2.out, HBF.out⟩
end Go.Proofs.YtgielbamebjjdaaGreatDoor

namespace Go.Proofs.YtgielbamebjjdaaGreatDoor
set_option maxRecDepth 100000
open Go.ChangeShapes Go.WideShapes Go.ChangeAt Go.RowKit
set_option linter.unusedSimpArgs false
set_option linter.unusedVariables false

set_option maxHeartbeats 8000000 in
theorem lawRecName {d : Dc} {u : Value} (w : World) (hu : CameC w u d.ctors) (hf : d.Fits)
    (hI : d.Small → ∀ (W : World) (b : Nat) (v : Value), Below w.heap.size w W → W.ownsRow b 42 2 v d.ctors.length (flatC d.ctors) → Calls Tryz.prog 35 #[d.val v] W fun e w' => e = .returned (.string ⟨(recName d).toArray⟩) ∧ Below W.heap.size W w') :
    Calls Tryz.prog 5 #[d.val u] w fun e w' => e = .returned (.bool true) ∧ Below w.heap.size w w' := by
  obtain ⟨a0, cap, _, _, hsl, _⟩ := id hu
  have HSZ : Hid (∀ W : World, Below w.heap.size w W → Calls Tryz.prog 32 #[d.val u, .int .i64 1048576] W fun e w' => Below W.heap.size W w' ∧ (e = .returned (.int .i64 (-1)) ∨ ∃ r : Nat, e = .returned (.int .i64 (r : Int)) ∧ r + d.size = 1048576)) := fun W hb => szDecl (hu.below hb) hf 1048576 (Nat.le_refl _)
  have HSm : Hid (d.size ≤ 1048576 → d.Small) := fun h => Dc.small h
  have HTo := Lib.hid fun (hn : d.ctors.length ≤ 1048576) (W : World) (hb : Below w.heap.size w W) => toDecl (hu.below hb) hn
  have HSp := Lib.hid fun (hs : d.Small) (W : World) (b : Nat) (v : Value) (h : W.ownsRow b 42 2 v d.ctors.length (flatC d.ctors)) => specRecName h hs
  have HEq := Lib.hid fun (hn : d.ctors.length ≤ 1048576) (W : World) (b1 b2 : Nat) (v1 v2 : Value) (h1 : W.ownsRow b1 42 2 v1 d.ctors.length (flatC d.ctors)) (h2 : W.ownsRow b2 42 2 v2 d.ctors.length (flatC d.ctors)) => eqDecl h1 h2 hn
  have HI := Lib.hid hI
  unfold DRes at HTo
  obtain ⟨r, hr⟩ : ∃ r, recName d = r := ⟨_, rfl⟩
  rw [hr] at HSp HI
  clear hu hf hI hr
  obtain ⟨kd, nm, ps, fl, ty, vl, cs⟩ := d
  have hval : ∀ u, Dc.val ⟨kd, nm, ps, fl, ty, vl, cs⟩ u = .agg #[.int .i64 kd, .string ⟨nm.toArray⟩, .int .i64 ps, .int .i64 fl, .string ⟨ty.toArray⟩, .string ⟨vl.toArray⟩, u] := fun u => rfl
  simp only [hval] at HSZ HTo HSp HEq HI ⊢
  simp only at hsl HSZ HTo HSp HEq HI
  subst hsl
  have HB0 := Lib.hid (alloc_any w (.cells #[.int .i64 kd, .string ⟨nm.toArray⟩, .int .i64 ps, .int .i64 fl, .string ⟨ty.toArray⟩, .string ⟨vl.toArray⟩, .slice a0 cs.length cap] 48))
  have HA := Lib.hid (anyBox (w := w) (kd := kd) (ps := ps) (fl := fl) (nm := nm) (ty := ty) (vl := vl) (u := .slice a0 cs.length cap) (T := 48))
  have HX := Lib.hid fun w u => anyBox (w := w) (kd := kd) (ps := ps) (fl := fl) (nm := nm) (ty := ty) (vl := vl) (u := u) (T := 36)
  clear hval
  go_enter Tryz.func5, Tryz.ntmps5
  go_wp2_with fail
  (with_reducible refine (HSZ.out _ HB0.out).mono ?_); rintro e w1 ⟨hb1, (rfl | ⟨z, rfl, hz⟩)⟩
  · have HB1 := Lib.hid (HB0.out.trans (hb1.mono HB0.out.size))
    clear hb1
    go_wp2
    go_ret
    exact ⟨rfl, HB1.out⟩
  have hsm := HSm.out (by omega)
  have hn := hsm.ctors
  simp only at hn
  have HI2 := Lib.hid (HI.out hsm)
  have HSp2 := Lib.hid (HSp.out hsm)
  have HTo2 := Lib.hid (HTo.out hn)
  have HEq2 := Lib.hid (HEq.out hn)
  have dz : decide ((z : Int) < 0) = false := decide_eq_false (by omega)
  have HB1 := Lib.hid (HB0.out.trans (hb1.mono HB0.out.size))
  have HA1 := Lib.hid hb1
  obtain ⟨c0, c1, c2, c3, c4, c5, c6⟩ := HA.out _ hb1
  clear hb1 hz hsm HI HSp HTo HEq HSZ HSm
  go_wp2_with fail
  (with_reducible refine (HTo2.out _ HB1.out).mono ?_); rintro e w2 ⟨u1, rfl, hu1, hb2⟩
  have HB2 := Lib.hid (HB1.out.trans (hb2.mono HB1.out.size))
  have HA2 := Lib.hid (HA1.out.trans (hb2.mono HA1.out.size))
  obtain ⟨ua, uc, rfl⟩ := row_sliceD hu1
  clear hb2 c0 c1 c2 c3 c4 c5 c6
  go_wp2_with fail
  (with_reducible refine (HSp2.out _ _ _ hu1).mono ?_); rintro e w3 ⟨rfl, hb3⟩
  have HB3 := Lib.hid (HB2.out.trans (hb3.mono HB2.out.size))
  have HA3 := Lib.hid (HA2.out.trans (hb3.mono HA2.out.size))
  obtain ⟨c0, c1, c2, c3, c4, c5, c6⟩ := HA.out _ HA3.out
  clear hb3 hu1
  go_wp2_with fail
  (with_reducible refine (HTo2.out _ HB3.out).mono ?_); rintro e w4 ⟨u2, rfl, hu2, hb4⟩
  have HB4 := Lib.hid (HB3.out.trans (hb4.mono HB3.out.size))
  have HA4 := Lib.hid (HA3.out.trans (hb4.mono HA3.out.size))
  obtain ⟨va, vc, rfl⟩ := row_sliceD hu2
  have bx := alloc_any w4 (.cells #[.int .i64 kd, .string ⟨nm.toArray⟩, .int .i64 ps, .int .i64 fl, .string ⟨ty.toArray⟩, .string ⟨vl.toArray⟩, .slice va cs.length vc] 36)
  have hrow5 := own_below hu2 bx
  have HB5 := Lib.hid (HB4.out.trans (bx.mono HB4.out.size))
  have HA5 := Lib.hid (HA4.out.trans (bx.mono HA4.out.size))
  have HX5 := Lib.hid (HX.out w4 (.slice va cs.length vc))
  clear hb4 hu2 c0 c1 c2 c3 c4 c5 c6 bx HX
  go_wp2_with fail
  (with_reducible refine (HI2.out _ _ _ HB5.out hrow5).mono ?_); rintro e w6 ⟨rfl, hb6⟩
  have hrow6 := own_below hrow5 hb6
  have HB6 := Lib.hid (HB5.out.trans (hb6.mono HB5.out.size))
  have HA6 := Lib.hid (HA5.out.trans (hb6.mono HA5.out.size))
  obtain ⟨p0, p1, p2, p3, p4, p5, p6⟩ := HA.out _ HA6.out
  obtain ⟨q0, q1, q2, q3, q4, q5, q6⟩ := HX5.out _ hb6
  have hb66 := Lib.hid hb6
  clear hb6 hrow5 HI2 HSp2
  skip
  go_wp2
  skip
  go_region_held3 (fun w' => (w'.cell? ⟨w.heap.size, 0, none⟩ = some (.int .i64 kd) ∧ w'.cell? ⟨w.heap.size, 1, none⟩ = some (.string ⟨nm.toArray⟩) ∧ w'.cell? ⟨w.heap.size, 2, none⟩ = some (.int .i64 ps) ∧ w'.cell? ⟨w.heap.size, 3, none⟩ = some (.int .i64 fl) ∧ w'.cell? ⟨w.heap.size, 4, none⟩ = some (.string ⟨ty.toArray⟩) ∧ w'.cell? ⟨w.heap.size, 5, none⟩ = some (.string ⟨vl.toArray⟩) ∧ w'.cell? ⟨w.heap.size, 6, none⟩ = some (.slice a0 cs.length cap)) ∧ (w'.cell? ⟨w4.heap.size, 0, none⟩ = some (.int .i64 kd) ∧ w'.cell? ⟨w4.heap.size, 1, none⟩ = some (.string ⟨nm.toArray⟩) ∧ w'.cell? ⟨w4.heap.size, 2, none⟩ = some (.int .i64 ps) ∧ w'.cell? ⟨w4.heap.size, 3, none⟩ = some (.int .i64 fl) ∧ w'.cell? ⟨w4.heap.size, 4, none⟩ = some (.string ⟨ty.toArray⟩) ∧ w'.cell? ⟨w4.heap.size, 5, none⟩ = some (.string ⟨vl.toArray⟩) ∧ w'.cell? ⟨w4.heap.size, 6, none⟩ = some (.slice va cs.length vc))) (first | exact X8 | exact X7 | exact ⟨⟨p0, p1, p2, p3, p4, p5, p6⟩, q0, q1, q2, q3, q4, q5, q6⟩)
    (first | (go_at_call 34; (with_reducible refine (HTo2.out _ HB6.out.drew).mono ?_); rintro e w7 ⟨u3, rfl, hu3, hb7⟩; have hd7 := hb66.out.drew.trans (hb7.mono hb66.out.drew.size); have X7 := And.intro (HA.out _ (HA6.out.drew.trans (hb7.mono HA6.out.drew.size))) (HX5.out _ hd7); obtain ⟨wa, wc, rfl⟩ := row_sliceD hu3; have hrow7 := own_below (w := w6.drew) hrow6 hb7; have HB7 := Lib.hid (HB6.out.drew.trans (hb7.mono HB6.out.drew.size))) | (go_at_call 36; (with_reducible refine (HEq2.out _ _ _ _ _ hrow7 hu3).mono ?_); rintro e w8 ⟨rfl, hb8⟩; have X8 := And.intro (HA.out _ ((HA6.out.drew.trans (hb7.mono HA6.out.drew.size)).trans (hb8.mono (HA6.out.drew.trans (hb7.mono HA6.out.drew.size)).size))) (HX5.out _ (hd7.trans (hb8.mono hd7.size))); have HB8 := Lib.hid (HB7.out.trans (hb8.mono HB7.out.size))))
  go_wp2
  go_ret
  exact ⟨rfl, HB8.out⟩
end Go.Proofs.YtgielbamebjjdaaGreatDoor
