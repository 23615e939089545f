/-
  Contracts of spec.l01Long, spec.Given and spec.Arrows.
-/
import Derived.Test.YtgmjbdndffdpoaaDoorEMath
import Derived.Test.YtgmjbdndffdpoaaDoorTOkS
import Derived.Test.YtgmjbdndffdpoaaDoorListsP
import Derived.Test.YtgmjbdndffdpoaaDoorLists
import Derived.Test.YtgmjbdndffdpoaaDoorVPutM
namespace Go.Proofs.YtgmjbdndffdpoaaDoor
set_option maxRecDepth 100000
open Go.ChangeShapes Go.WideShapes Go.ChangeAt Go.RowKit
set_option linter.unusedSimpArgs false
set_option linter.unusedVariables false

theorem infoByteE : (Tryd.prog.info? 5).map (fun i => (i.zero, i.size, i.bytes)) = some (some (.int .u8 0), 1, 1) := by kernel_rfl
set_option maxHeartbeats 1000000 in
theorem specLong (n : Nat) (x : UInt8) (w : World) (hn : n ≤ 100000) :
    Calls Tryd.prog 35 #[.int .i64 (n : Int), .int .u8 (x.toNat : Int)] w fun e w' => e = .returned (.string ⟨(List.replicate n x).toArray⟩) ∧ Below w.heap.size w w' := by
  obtain ⟨i0, hi, hz0, hz1, hz2⟩ := info_parts infoByteE
  go_enter Tryd.func35, Tryd.ntmps35
  go_wp2_with (at_make; refine wpList_make_full _ rfl _ _ 61 rfl w.heap.size 5 i0 (.int .u8 0) 1 Tryd.underlying61 hi hz0 hz1 _ _ _ _ n rfl rfl rfl rfl (by rw [hz2]; omega) (by unfold maxLen; omega) (Nat.le_refl _) ?_; intro w0 hown0 hgrow0)
  have hbel0 : Below w.heap.size w w0 := (Below.refl _ _).grown hgrow0 (Nat.le_refl _) (by simp)
  have hxl := hown0.1
  generalize (madeCells (Value.int .u8 0).cells (n * 1)).toList = xs at hown0 hxl
  rw [Nat.mul_one] at hxl
  go_loopw [6] (fun i wr => ∃ k : Nat, k ≤ n ∧ i = .int .i64 k ∧ wr.ownsRow w.heap.size 5 1 (.slice (some ⟨w.heap.size, 0, none⟩) n n) n ((List.replicate n (Value.int .u8 (x.toNat : Int))).take k ++ xs.drop k) ∧ Below w.heap.size w wr) (fun i _ => n - (intOf i).toNat)
  case atStart => exact ⟨0, Nat.zero_le _, rfl, by simpa using hown0, hbel0⟩
  case round =>
    obtain ⟨k, hk, rfl, hown, hbel⟩ := hrel
    clear hown0 hgrow0 hbel0
    by_cases hlt : k < n
    · have HU := Lib.hid (fill_set (a := List.replicate n (Value.int .u8 (x.toNat : Int))) (b := xs) (k := k) (u := .int .u8 (x.toNat : Int)) (by simpa using hlt) (by simpa using hxl) (by simp))
      have hlen : k < ((List.replicate n (Value.int .u8 (x.toNat : Int))).take k ++ xs.drop k).length := by simp; omega
      have co := hown.cellAt k (by omega)
      rw [List.getElem?_eq_getElem hlen] at co
      have cf := hown.frozenAt k
      generalize ((List.replicate n (Value.int .u8 (x.toNat : Int))).take k ++ xs.drop k)[k] = old at co
      have HS := Lib.hid (hown.stored k (.int .u8 (x.toNat : Int)))
      have HB := Lib.hid hbel
      have q1 : (0 : Int) ≤ (k : Int) := by omega
      have q2 : (k : Int) < (n : Int) := by omega
      clear hown hlen hbel
      go_wp2
      go_roundw
      case rel =>
        have e1 := HS.out
        rw [HU.out] at e1
        exact ⟨k + 1, by omega, by go_num, e1.1, HB.out.grown e1.2 HB.out.size (fun j hj => by cases hj; exact Nat.le_refl _)⟩
      case measure => simp [intOf]; omega
    · obtain rfl : k = n := by omega
      rw [List.drop_eq_nil_of_le (by omega), List.append_nil, List.take_of_length_le (by simp)] at hown
      have hown2 : wr.ownsRow w.heap.size 5 1 (.slice (some ⟨w.heap.size, 0, none⟩) k k) k ((List.replicate k x).map bv) := by rw [List.map_replicate]; exact hown
      have cv := conv_own (P := Tryd.prog) (t := 61) (d := 9) wr Tryd.underlying61 Tryd.underlying5 Tryd.underlying9 hown2
      have HB := Lib.hid hbel
      clear hown hown2 hbel
      go_wp2
      go_ret
      exact ⟨rfl, HB.out⟩

theorem ba_app (a b : List UInt8) : (⟨a.toArray⟩ : ByteArray) ++ ⟨b.toArray⟩ = ⟨(a ++ b).toArray⟩ := by
  apply ByteArray.ext
  simp
theorem ba_self (s : ByteArray) : (⟨s.data.toList.toArray⟩ : ByteArray) = s := rfl
theorem flat_take {l : List (List UInt8)} {k : Nat} (h : k < l.length) : (l.take (k + 1)).flatten = (l.take k).flatten ++ l[k] := by
  rw [List.take_succ_eq_append_getElem h, List.flatten_append]
  simp
theorem flat_take_le (l : List (List UInt8)) (k : Nat) : (l.take k).flatten.length ≤ l.flatten.length := by
  have h := congrArg List.length (congrArg List.flatten (List.take_append_drop k l))
  rw [List.flatten_append, List.length_append] at h
  omega
theorem mem_take_succ {l : List (List UInt8)} {k : Nat} (h : k < l.length) {P : List UInt8 → Prop} (h1 : ∀ a ∈ l.take k, P a) (h2 : P l[k]) : ∀ a ∈ l.take (k + 1), P a := by
  intro a ha
  rw [List.take_succ_eq_append_getElem h] at ha
  rcases List.mem_append.1 ha with ha | ha
  · exact h1 a ha
  · rw [List.mem_singleton.1 ha]; exact h2

set_option maxHeartbeats 8000000 in
theorem specGiven (s : ByteArray) {W : World} {b : Nat} {v : Value} {args : List (List UInt8)} (h : W.ownsRow b 9 1 v args.length (args.map sv)) (hs : s.size ≤ maxLen) (hx : ∀ x ∈ args, x.length ≤ 1048576) (hn : args.length ≤ 10000000) :
    Calls Tryd.prog 17 #[.string s, v] W fun e w' => e = .returned (putRes (givenOf s.data.toList args)) ∧ Below W.heap.size W w' := by
  obtain ⟨a0, cap, rfl⟩ := own_sliceV h
  have hls : s.data.toList.length = s.size := rfl
  have f1 := Lib.hid (specTermOk s W hs)
  have HO := Lib.hid h
  unfold maxLen at hs
  by_cases hok : termOk s.data.toList = true
  rotate_left
  · have HE : Hid (givenOf s.data.toList args = none) := by rw [Hid, givenOf, if_neg (fun k => hok k.1)]
    rw [Bool.not_eq_true] at hok
    rw [hok] at f1
    clear h hok hx HO hls
    go_enter Tryd.func17, Tryd.ntmps17
    go_wp2_with fail
    (with_reducible refine f1.out.mono ?_); rintro e w1 ⟨rfl, hb1⟩
    go_wp2
    go_ret2
    rw [HE.out]
    exact ⟨rfl, hb1⟩
  have hs2 : s.size ≤ 2000 := by
    rw [← hls]
    have hk := hok
    unfold termOk at hk
    cases ht : termOf s.data.toList with
    | none => rw [ht] at hk; cases hk
    | some t => exact (termOf_is ht).2.2
  have HOK := Lib.hid hok
  rw [hok] at f1
  by_cases hl : args.length ≤ 2000
  rotate_left
  · have HE : Hid (givenOf s.data.toList args = none) := by rw [Hid, givenOf, if_neg (fun k => by have := k.2.2; omega)]
    have d1 : decide ((2000 : Int) < (args.length : Int)) = true := decide_eq_true (by omega)
    have e1 : decide (2000 < args.length) = true := decide_eq_true (by omega)
    clear h hok hx HO hls
    go_enter Tryd.func17, Tryd.ntmps17
    go_wp2_with fail
    (with_reducible refine f1.out.mono ?_); rintro e w1 ⟨rfl, hb1⟩
    go_wp2
    go_ret2
    rw [HE.out]
    exact ⟨rfl, hb1⟩
  have d1 : decide ((2000 : Int) < (args.length : Int)) = false := decide_eq_false (by omega)
  have e1 : decide (2000 < args.length) = false := decide_eq_false (by omega)
  have HX := Lib.hid hx
  clear h hok hx hn
  go_enter Tryd.func17, Tryd.ntmps17
  go_wp2_with fail
  (with_reducible refine f1.out.mono ?_); rintro e w1 ⟨rfl, hb1⟩
  have HB1 := Lib.hid hb1
  clear hb1 f1
  go_wp2
  go_loopw [6, 7] (fun n i wr => ∃ (k m : Nat), k ≤ args.length ∧ i = .int .i64 k ∧ n = .int .i64 (m : Int) ∧ m ≤ 2000 ∧ Hid (m = s.size + k + (args.take k).flatten.length ∧ ∀ a ∈ args.take k, termOk a = true) ∧ Below W.heap.size W wr) (fun _ i _ => args.length - (intOf i).toNat)
  case atStart => exact ⟨0, s.size, Nat.zero_le _, rfl, rfl, hs2, ⟨by simp, by simp⟩, HB1.out⟩
  case round =>
    obtain ⟨k, m, hk, rfl, rfl, hm, HM, hbr⟩ := hrel
    clear HB1
    by_cases hlt : k < args.length
    · have hr := own_below HO.out hbr
      obtain ⟨g', cap', e0, _, hgl⟩ := hr.form (by omega)
      cases e0
      have ex : (args.map sv)[k]? = some (sv args[k]) := by simp [hlt]
      have cc := (hr.cellAt k (by omega)).trans ex
      unfold sv at cc
      have q1 : (0 : Int) ≤ (k : Int) := by omega
      have q2 : (k : Int) < (args.length : Int) := by omega
      have hxk := HX.out args[k] (List.getElem_mem hlt)
      have hzk : (⟨args[k].toArray⟩ : ByteArray).size = args[k].length := by simp [ByteArray.size]
      have f2 := Lib.hid (specTermOk ⟨args[k].toArray⟩ wr (by unfold maxLen; omega))
      simp only at f2
      have hft := congrArg List.length (flat_take hlt)
      rw [List.length_append] at hft
      have htl := flat_take_le args (k + 1)
      by_cases hka : termOk args[k] = true
      rotate_left
      · have HE : Hid (givenOf s.data.toList args = none) := by rw [Hid, givenOf, if_neg (fun k' => hka (k'.2.1 _ (List.getElem_mem hlt)))]
        rw [Bool.not_eq_true] at hka
        rw [hka] at f2
        have HB := Lib.hid hbr
        clear hka HM ex hr hft htl hbr
        generalize args[k] = xk at cc f2 hxk hzk
        go_wp2_with fail
        (with_reducible refine f2.out.mono ?_); rintro e w2 ⟨rfl, hb2⟩
        have HB2 := Lib.hid (HB.out.trans (hb2.mono HB.out.size))
        clear hb2 f2 HB
        go_wp2
        go_ret2
        rw [HE.out]
        exact ⟨rfl, HB2.out⟩
      · have HOKK := Lib.hid (mem_take_succ (P := fun a => termOk a = true) hlt HM.out.2 hka)
        rw [hka] at f2
        have hmm := HM.out.1
        by_cases hbig : m + 1 + args[k].length ≤ 2000
        rotate_left
        · have HE : Hid (givenOf s.data.toList args = none) := by rw [Hid, givenOf, if_neg (fun k' => by have := k'.2.2; omega)]
          have d3 : decide ((2000 : Int) < (m : Int) + 1 + (args[k].length : Int)) = true := decide_eq_true (by omega)
          have HB := Lib.hid hbr
          clear hka HM ex hr hft htl hbr HOKK hmm
          generalize args[k] = xk at cc f2 hxk hzk d3 hbig
          go_wp2_with fail
          (with_reducible refine f2.out.mono ?_); rintro e w2 ⟨rfl, hb2⟩
          have HB2 := Lib.hid (HB.out.trans (hb2.mono HB.out.size))
          clear hb2 f2 HB
          go_wp2
          go_ret2
          rw [HE.out]
          exact ⟨rfl, HB2.out⟩
        · have d3 : decide ((2000 : Int) < (m : Int) + 1 + (args[k].length : Int)) = false := decide_eq_false (by omega)
          have HM2 : Hid (m + 1 + args[k].length = s.size + (k + 1) + (args.take (k + 1)).flatten.length ∧ ∀ a ∈ args.take (k + 1), termOk a = true) := ⟨by omega, HOKK.out⟩
          have HB := Lib.hid hbr
          clear hka HM ex hr hft htl hbr HOKK hmm
          generalize args[k] = xk at cc f2 hxk hzk d3 hbig HM2
          go_wp2_with fail
          (with_reducible refine f2.out.mono ?_); rintro e w2 ⟨rfl, hb2⟩
          have HB2 := Lib.hid (HB.out.trans (hb2.mono HB.out.size))
          clear hb2 f2 HB
          go_wp2
          go_roundw
          case rel => exact ⟨k + 1, m + 1 + xk.length, by omega, by go_num, by go_num, hbig, HM2.out, HB2.out⟩
          case measure => simp [intOf]; omega
    · obtain rfl : k = args.length := by omega
      have HM2 := HM.out
      rw [List.take_length] at HM2
      have HE : Hid (givenOf s.data.toList args = some (List.replicate args.length 64 ++ s.data.toList ++ args.flatten)) := by
        rw [Hid, givenOf, if_pos ⟨HOK.out, HM2.2, by rw [hls]; omega⟩]
      have htot : s.size + args.length + args.flatten.length ≤ 2000 := by omega
      have f3 := Lib.hid (specLong args.length 64 wr (by omega))
      have hrl : (List.replicate args.length (64 : UInt8)).length = args.length := List.length_replicate
      have zr : (⟨(List.replicate args.length (64 : UInt8)).toArray⟩ : ByteArray).size ≤ 2000 := by show (List.replicate args.length (64 : UInt8)).length ≤ 2000; omega
      have HA : Hid ((⟨(List.replicate args.length (64 : UInt8)).toArray⟩ : ByteArray) ++ s = ⟨(List.replicate args.length 64 ++ s.data.toList ++ (args.take 0).flatten).toArray⟩) := by
        rw [Hid, List.take_zero, List.flatten_nil, List.append_nil, ← ba_app]
      have HRP := Lib.hid (rfl : List.replicate args.length (64 : UInt8) = List.replicate args.length 64)
      have d4 : decide ((args.length : Int) < (args.length : Int)) = false := decide_eq_false (by omega)
      have HB := Lib.hid hbr
      have e64 : ((64 : UInt8).toNat : Int) = 64 := rfl
      rw [e64] at f3
      generalize List.replicate args.length (64 : UInt8) = rp at f3 zr HA HE hrl
      clear HM HM2 hbr HOK
      go_wp2_with fail
      (with_reducible refine f3.out.mono ?_); rintro e w2 ⟨rfl, hb2⟩
      have HB2 := Lib.hid (HB.out.trans (hb2.mono HB.out.size))
      clear hb2 f3 HB
      go_wp2
      go_loopw [8, 9] (fun t i wr' => ∃ k : Nat, k ≤ args.length ∧ i = .int .i64 k ∧ t = .string ⟨(rp ++ s.data.toList ++ (args.take k).flatten).toArray⟩ ∧ wr' = w2) (fun _ i _ => args.length - (intOf i).toNat)
      case atStart => exact ⟨0, Nat.zero_le _, rfl, by rw [HA.out], rfl⟩
      case round =>
        obtain ⟨k, hk, rfl, rfl, rfl⟩ := hrel
        by_cases hlt : k < args.length
        · have hr := own_below HO.out HB2.out
          obtain ⟨g', cap', e0, _, hgl⟩ := hr.form (by omega)
          cases e0
          have ex : (args.map sv)[k]? = some (sv args[k]) := by simp [hlt]
          have cc := (hr.cellAt k (by omega)).trans ex
          unfold sv at cc
          have q1 : (0 : Int) ≤ (k : Int) := by omega
          have q2 : (k : Int) < (args.length : Int) := by omega
          have HK : Hid ((⟨(rp ++ s.data.toList ++ (args.take k).flatten).toArray⟩ : ByteArray) ++ ⟨args[k].toArray⟩ = ⟨(rp ++ s.data.toList ++ (args.take (k + 1)).flatten).toArray⟩) := by
            rw [Hid, ba_app, flat_take hlt, List.append_assoc]
          have hft := flat_take_le args k
          have zs : (⟨(rp ++ s.data.toList ++ (args.take k).flatten).toArray⟩ : ByteArray).size ≤ 100000 := by
            show (rp ++ s.data.toList ++ (args.take k).flatten).length ≤ 100000
            simp only [List.length_append]
            omega
          have zx : args[k].length ≤ 1048576 := HX.out args[k] (List.getElem_mem hlt)
          generalize args[k] = xk at cc HK zx
          generalize (⟨(rp ++ s.data.toList ++ (args.take k).flatten).toArray⟩ : ByteArray) = tx at HK zs
          clear ex hr hft
          go_wp2
          go_roundw
          case rel => exact ⟨k + 1, by omega, by go_num, by rw [← HK.out], trivial⟩
          case measure => simp [intOf]; omega
        · obtain rfl : k = args.length := by omega
          rw [List.take_length]
          have d5 : decide ((args.length : Int) < (args.length : Int)) = false := decide_eq_false (by omega)
          clear HA
          generalize rp ++ s.data.toList ++ args.flatten = tx at HE
          go_wp2
          go_ret2
          rw [HE.out]
          exact ⟨rfl, HB2.out⟩
end Go.Proofs.YtgmjbdndffdpoaaDoor
