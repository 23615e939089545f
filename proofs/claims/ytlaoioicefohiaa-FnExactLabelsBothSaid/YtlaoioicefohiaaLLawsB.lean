/-
  The laws of LabelsWithin and LabelsBoth, each from the contract of its own function of the program (handed in as a hypothesis).
-/
import Derived.Test.YtlaoioicefohiaaLLawsA
import Derived.Test.YtlaoioicefohiaaLWithin
namespace Go.Proofs.Ytlaoioicefohiaa
set_option maxRecDepth 100000
open Go.ChangeShapes Go.WideShapes Go.ChangeAt Go.RowKit
set_option linter.unusedSimpArgs false

set_option maxHeartbeats 2000000 in
theorem lawLabelsWithin {vA vB : Value} {a b : List Lbl} (w : World) (hA : CameL w vA a) (hB : CameL w vB b)
    (hI : a.length + b.length ≤ 1048576 → (∀ x ∈ a ++ b, x.2.length ≤ 1048576) → ∀ (W : World) (b1 b2 : Nat) (v1 v2 : Value), W.ownsRow b1 31 2 v1 a.length (flat a) → W.ownsRow b2 31 2 v2 b.length (flat b) → Calls Try.prog 37 #[v1, v2] W fun e w' => e = .returned (.bool (withinL a b)) ∧ Below W.heap.size W w') :
    Calls Try.prog 9 #[vA, vB] w fun e w' => e = .returned (.bool true) ∧ Below w.heap.size w w' := by
  have f0 : Hid (Calls Try.prog 27 #[vA, .int .i64 1048576] w (SzResL a 1048576 w)) := szLabelS hA 1048576 (Nat.le_refl _)
  go_enter Try.func9, Try.ntmps9
  go_wp2_with fail
  (refine f0.out.mono ?_); rintro e w0 ⟨hb0, (rfl | ⟨r, rfl, hr⟩)⟩
  · go_wp2
    go_ret
    exact ⟨rfl, hb0⟩
  clear f0
  have d0 : decide ((r : Int) < 0) = false := decide_eq_false (by omega)
  go_wp2_with fail
  (refine (szLabelS (hB.below hb0) r (by omega)).mono ?_); rintro e w1 ⟨hb1', (rfl | ⟨r2, rfl, hr2⟩)⟩
  · go_wp2
    go_ret
    exact ⟨rfl, hb0.trans (hb1'.mono hb0.size)⟩
  have hb1 := hb0.trans (hb1'.mono hb0.size)
  have d1 : decide ((r2 : Int) < 0) = false := decide_eq_false (by omega)
  have fI := Lib.hid (hI (by omega) (fun x hx => by
    rcases List.mem_append.1 hx with h | h
    · have := totLb_mem h; omega
    · have := totLb_mem h; omega))
  have fA := Lib.hid fun W (hb : Below w.heap.size w W) => toLabelS (hA.below hb) (by omega)
  have fB := Lib.hid fun W (hb : Below w.heap.size w W) => toLabelS (hB.below hb) (by omega)
  have ha : a.length ≤ 1048576 := by omega
  have hb : b.length ≤ 1048576 := by omega
  clear hI hr hr2 hb1' hb0
  go_wp2_with fail
  (refine (fA.out _ hb1).mono ?_); rintro e w2 ⟨u1, rfl, hu1, hb2⟩
  have B2 := hb1.trans (hb2.mono hb1.size)
  go_wp2_with fail
  (refine (fB.out _ B2).mono ?_); rintro e w3 ⟨u2, rfl, hu2, hb3⟩
  have B3 := B2.trans (hb3.mono B2.size)
  go_wp2_with fail
  (refine (specLabelsWithin (own_below hu1 hb3) hu2 ha hb).mono ?_); rintro e w4 ⟨rfl, hb4⟩
  have B4 := B3.trans (hb4.mono B3.size)
  go_wp2_with fail
  (refine (fA.out _ B4).mono ?_); rintro e w5 ⟨x0, rfl, hx0, hb5⟩
  have B5 := B4.trans (hb5.mono B4.size)
  go_wp2_with fail
  (refine (fB.out _ B5).mono ?_); rintro e w6 ⟨x1, rfl, hx1, hb6⟩
  have B6 := B5.trans (hb6.mono B5.size)
  have hx06 := own_below hx0 hb6
  go_wp2_with fail
  (refine (fI.out _ _ _ _ _ hx06 hx1).mono ?_); rintro e w7 ⟨rfl, hb7⟩
  have B7 := B6.trans (hb7.mono B6.size)
  have hx07 := own_below hx06 hb7
  have hx17 := own_below hx1 hb7
  generalize withinL a b = c
  have hcc : (c == c) = true := by simp
  go_wp2_with fail
  (refine (fA.out _ B7).mono ?_); rintro e w8 ⟨t8, rfl, ht8, hb8⟩
  have B8 := B7.trans (hb8.mono B7.size)
  go_wp2_with fail
  (refine (eqLabelS (own_below hx07 hb8) ht8 (by omega)).mono ?_); rintro e w9 ⟨rfl, hb9⟩
  have B9 := B8.trans (hb9.mono B8.size)
  have hx19 := own_below (own_below hx17 hb8) hb9
  go_wp2_with fail
  (refine (fB.out _ B9).mono ?_); rintro e w10 ⟨t10, rfl, ht10, hb10⟩
  have B10 := B9.trans (hb10.mono B9.size)
  go_wp2_with fail
  (refine (eqLabelS (own_below hx19 hb10) ht10 (by omega)).mono ?_); rintro e w11 ⟨rfl, hb11⟩
  go_wp2
  go_ret
  exact ⟨rfl, B10.trans (hb11.mono B10.size)⟩

def LoL (v : Value) (m : Nat) : Prop := ∀ k, v.ownBlock = some k → m ≤ k
def HiL (v : Value) (m : Nat) : Prop := ∀ k, v.ownBlock = some k → k < m
theorem own_loL {w : World} {b n : Nat} {v : Value} {xs : List Value} (h : w.ownsRow b 31 2 v n xs) : LoL v b := fun k hk => (h.lt k hk).1
theorem own_hiL {w : World} {b n : Nat} {v : Value} {xs : List Value} (h : w.ownsRow b 31 2 v n xs) : HiL v w.heap.size := fun k hk => (h.lt k hk).2
theorem LoL.mono {v : Value} {m m' : Nat} (h : LoL v m) (hm : m' ≤ m) : LoL v m' := fun k hk => Nat.le_trans hm (h k hk)
theorem kept_apartL {w w' : World} {b n M : Nat} {v v' : Value} {xs : List Value} (h : w.ownsRow b 31 2 v n xs) (hg : w.grownBy w' v'.ownBlock) (hd : (HiL v M ∧ LoL v' M) ∨ (HiL v' M ∧ LoL v M)) : w'.ownsRow b 31 2 v n xs := by
  refine h.kept hg ?_
  rcases hv : v.ownBlock with _ | k
  · exact .inl rfl
  · refine .inr fun e => ?_
    rcases hd with ⟨h1, h2⟩ | ⟨h1, h2⟩
    · have := h1 k hv; have := h2 k e.symm; omega
    · have := h1 k e.symm; have := h2 k hv; omega
theorem markOneL {w : World} {base n : Nat} {v : Value} {xs : List Value} (h : w.ownsRow base 31 2 v n xs) (hn : n ≤ 10000000) :
    Calls Try.prog 34 #[v, .int .i64 1] w fun e w' => e = .returned (.int .i64 (1 + 2 * (n : Int))) ∧ w'.ownsRow base 31 2 v n (flat (marksL 1 n)) ∧ w.grownBy w' v.ownBlock := markLabelS (k := 1) h hn (by decide) (by decide)
theorem heldOneL {w : World} {base n : Nat} {v : Value} (h : w.ownsRow base 31 2 v n (flat (marksL 1 n))) (hn : n ≤ 10000000) :
    Calls Try.prog 35 #[v, .int .i64 1] w fun e w' => e = .returned (.int .i64 (1 + 2 * (n : Int))) ∧ Below w.heap.size w w' := heldLabelS (k := 1) h hn (by decide) (by decide)
theorem mark2L {w : World} {base n k : Nat} {v : Value} {xs : List Value} (h : w.ownsRow base 31 2 v n xs) (hn : n ≤ 10000000) (hk : k ≤ 10000000) :
    Calls Try.prog 34 #[v, .int .i64 (1 + 2 * (k : Int))] w fun e w' => e = .returned (.int .i64 (1 + 2 * (k : Int) + 2 * (n : Int))) ∧ w.grownBy w' v.ownBlock := by
  have := markLabelS (k := 1 + 2 * k) h hn (by omega) (by omega)
  rw [show ((1 + 2 * k : Nat) : Int) = 1 + 2 * (k : Int) by omega] at this
  exact this.mono fun e w' ⟨h1, _, h3⟩ => ⟨h1, h3⟩
set_option maxHeartbeats 4000000 in
theorem lawLabelsBoth {vA vB : Value} {a b : List Lbl} (w : World) (hA : CameL w vA a) (hB : CameL w vB b)
    (hI : a.length + b.length ≤ 1048576 → (∀ x ∈ a ++ b, x.2.length ≤ 1048576) → ∀ (W : World) (b1 b2 : Nat) (v1 v2 : Value), W.ownsRow b1 31 2 v1 a.length (flat a) → W.ownsRow b2 31 2 v2 b.length (flat b) → Calls Try.prog 33 #[v1, v2] W (LResL (srt ordL (a ++ b)) W)) :
    Calls Try.prog 8 #[vA, vB] w fun e w' => e = .returned (.bool true) ∧ Below w.heap.size w w' := by
  have f0 : Hid (Calls Try.prog 27 #[vA, .int .i64 1048576] w (SzResL a 1048576 w)) := szLabelS hA 1048576 (Nat.le_refl _)
  go_enter Try.func8, Try.ntmps8
  go_wp2_with fail
  (refine f0.out.mono ?_); rintro e w0 ⟨hb0, (rfl | ⟨r, rfl, hr⟩)⟩
  · go_wp2
    go_ret
    exact ⟨rfl, hb0⟩
  clear f0
  have d0 : decide ((r : Int) < 0) = false := decide_eq_false (by omega)
  go_wp2_with fail
  (refine (szLabelS (hB.below hb0) r (by omega)).mono ?_); rintro e w1 ⟨hb1', (rfl | ⟨r2, rfl, hr2⟩)⟩
  · go_wp2
    go_ret
    exact ⟨rfl, hb0.trans (hb1'.mono hb0.size)⟩
  have hb1 := hb0.trans (hb1'.mono hb0.size)
  clear hb1' hb0
  have d1 : decide ((r2 : Int) < 0) = false := decide_eq_false (by omega)
  have hn : a.length + b.length ≤ 1048576 := by omega
  have hx : ∀ x ∈ a ++ b, x.2.length ≤ 1048576 := by
    intro x hx
    rcases List.mem_append.1 hx with h | h
    · have := totLb_mem h; omega
    · have := totLb_mem h; omega
  have fA := Lib.hid fun W (hb : Below w.heap.size w W) => toLabelS (hA.below hb) (by omega)
  have fB := Lib.hid fun W (hb : Below w.heap.size w W) => toLabelS (hB.below hb) (by omega)
  have hsl := (srt_spec ordL _ (a ++ b) (Nat.le_refl _)).2.2
  rw [List.length_append] at hsl
  have fS := Lib.hid fun (W : World) (b1 b2 : Nat) (v1 v2 : Value) (h1 : W.ownsRow b1 31 2 v1 a.length (flat a)) (h2 : W.ownsRow b2 31 2 v2 b.length (flat b)) => specLabelsBoth h1 h2 hn
  have fI := Lib.hid (hI hn hx)
  clear hx hr hr2 hI
  generalize srt ordL (a ++ b) = s at hsl fS fI
  -- the model's answer
  go_wp2_with fail
  (refine (fA.out _ hb1).mono ?_); rintro e w2 ⟨u1, rfl, hu1, hb2'⟩
  have hb2 := hb1.trans (hb2'.mono hb1.size)
  go_wp2_with fail
  (refine (fB.out _ hb2).mono ?_); rintro e w3 ⟨u2, rfl, hu2, hb3⟩
  have B3 := hb2.trans (hb3.mono hb2.size)
  go_wp2_with fail
  (refine (fS.out _ _ _ _ _ (own_below hu1 hb3) hu2).mono ?_); rintro e w4 ⟨vW, rfl, hW, hb4⟩
  have B4 := B3.trans (hb4.mono B3.size)
  have z4 := B4.size
  have hiW := own_hiL hW
  clear hu1 hu2 hb2 hb3 hb4
  -- the program's arguments and answer
  go_wp2_with fail
  (refine (fA.out _ B4).mono ?_); rintro e w5 ⟨x0, rfl, hx0, hb5⟩
  have B5 := B4.trans (hb5.mono z4)
  have z5 := B5.size
  have m5 := hb5.size
  have hi0 := own_hiL hx0
  have lo0 := own_loL hx0
  go_wp2_with fail
  (refine (fB.out _ B5).mono ?_); rintro e w6 ⟨x1, rfl, hx1, hb6⟩
  have B6 := B5.trans (hb6.mono z5)
  have z6 := B6.size
  have m6 := hb6.size
  have hi1 := own_hiL hx1
  have lo1 := own_loL hx1
  have hx0' := own_below hx0 hb6
  go_wp2_with fail
  (refine (fI.out _ _ _ _ _ hx0' hx1).mono ?_); rintro e w7 ⟨vg, rfl, hg, hb7⟩
  have B7 := B6.trans (hb7.mono z6)
  have z7 := B7.size
  have m7 := hb7.size
  have log := own_loL hg
  have hx07 := own_below hx0' hb7
  have hx17 := own_below hx1 hb7
  have hW7 := own_below (own_below (own_below hW hb5) hb6) hb7
  clear hx0 hx0' hx1 hW hb5 hb6 hb7
  go_wp2_with fail
  (refine (eqLabelS hg hW7 (by omega)).mono ?_); rintro e w8 ⟨rfl, hb8⟩
  have D8 := B7.trans (hb8.mono z7)
  go_wp2_with fail
  (refine (fA.out _ D8).mono ?_); rintro e w9 ⟨t9, rfl, ht9, hb9⟩
  have B9 := D8.trans (hb9.mono D8.size)
  have z9 := B9.size
  have hx09 := own_below (own_below hx07 hb8) hb9
  have hx19 := own_below (own_below hx17 hb8) hb9
  have hg9 := own_below (own_below hg hb8) hb9
  have hW9 := own_below (own_below hW7 hb8) hb9
  clear hx07 hx17 hg hW7 D8 hb9
  go_wp2_with fail
  (refine (eqLabelS hx09 ht9 (by omega)).mono ?_); rintro e w10 ⟨rfl, hb10⟩
  have D10 := B9.trans (hb10.mono z9)
  clear ht9
  go_wp2_with fail
  (refine (fB.out _ D10).mono ?_); rintro e w11 ⟨t11, rfl, ht11, hb11⟩
  have B11 := D10.trans (hb11.mono D10.size)
  have z11 := B11.size
  have hx011 := own_below (own_below hx09 hb10) hb11
  have hx111 := own_below (own_below hx19 hb10) hb11
  have hg11 := own_below (own_below hg9 hb10) hb11
  have hW11 := own_below (own_below hW9 hb10) hb11
  clear hx09 hx19 hg9 hW9 D10 hb11
  go_wp2_with fail
  (refine (eqLabelS hx111 ht11 (by omega)).mono ?_); rintro e w12 ⟨rfl, hb12⟩
  have D12 := B11.trans (hb12.mono z11)
  have hx012 := own_below hx011 hb12
  have hx112 := own_below hx111 hb12
  have hg12 := own_below hg11 hb12
  have hW12 := own_below hW11 hb12
  have z12 := D12.size
  clear hx011 hx111 hg11 hW11 ht11
  -- the arguments are marked
  go_wp2_with fail
  (refine (markOneL hx012 (by omega)).mono ?_); rintro e w13 ⟨rfl, _, hg13⟩
  have B13 := D12.grown hg13 z12 (fun k hk => by have := lo0 k hk; omega)
  have hx113 := kept_apartL hx112 hg13 (.inr ⟨hi0, lo1⟩)
  have hgg13 := kept_apartL hg12 hg13 (.inr ⟨hi0, log.mono (by omega)⟩)
  have hW13 := kept_apartL hW12 hg13 (.inl ⟨hiW, lo0⟩)
  have z13 := B13.size
  clear hx012 hx112 hg12 hW12 hg13
  go_wp2_with fail
  (refine (mark2L hx113 (by omega) (by omega)).mono ?_); rintro e w14 ⟨rfl, hg14⟩
  have B14 := B13.grown hg14 z13 (fun k hk => by have := lo1 k hk; omega)
  have hgg14 := kept_apartL hgg13 hg14 (.inr ⟨hi1, log⟩)
  have hW14 := kept_apartL hW13 hg14 (.inl ⟨hiW, lo1.mono (by omega)⟩)
  have z14 := B14.size
  have d14 : decide (1 + 2 * (a.length : Int) + 2 * (b.length : Int) < 0) = false := decide_eq_false (by omega)
  clear hx113 hgg13 hW13 hg14
  go_wp2_with fail
  (refine (eqLabelS hgg14 hW14 (by omega)).mono ?_); rintro e w15 ⟨rfl, hb15⟩
  have D15 := B14.trans (hb15.mono z14)
  have hg15 := own_below hgg14 hb15
  have hW15 := own_below hW14 hb15
  have z15 := D15.size
  clear hgg14 hW14
  -- the answer is marked
  go_wp2_with fail
  (refine (markOneL hg15 (by omega)).mono ?_); rintro e w16 ⟨rfl, hm16, hg16⟩
  have B16 := D15.grown hg16 z15 (fun k hk => by have := log k hk; omega)
  have hW16 := kept_apartL hW15 hg16 (.inl ⟨hiW, log.mono (by omega)⟩)
  have z16 := B16.size
  clear hg15 hW15 hg16
  go_wp2_with fail
  (refine (heldOneL hm16 (by omega)).mono ?_); rintro e w17 ⟨rfl, hb17⟩
  have B17 := B16.trans (hb17.mono z16)
  have z17 := B17.size
  have hm17 := own_below hm16 hb17
  have hW17 := own_below hW16 hb17
  have d17 : decide (1 + 2 * (s.length : Int) < 0) = false := decide_eq_false (by omega)
  clear hm16 hW16 hb17
  -- the second answer
  go_wp2_with fail
  (refine (fA.out _ B17).mono ?_); rintro e w18 ⟨y0, rfl, hy0, hb18⟩
  have B18 := B17.trans (hb18.mono z17)
  have hm18 := own_below hm17 hb18
  have hW18 := own_below hW17 hb18
  clear hm17 hW17
  go_wp2_with fail
  (refine (fB.out _ B18).mono ?_); rintro e w19 ⟨y1, rfl, hy1, hb19⟩
  have B19 := B18.trans (hb19.mono B18.size)
  have hm19 := own_below hm18 hb19
  have hW19 := own_below hW18 hb19
  have hy09 := own_below hy0 hb19
  clear hm18 hW18 hy0 hb18 hb19
  go_wp2_with fail
  (refine (fI.out _ _ _ _ _ hy09 hy1).mono ?_); rintro e w20 ⟨vh, rfl, hh, hb20⟩
  have B20 := B19.trans (hb20.mono B19.size)
  have hm20 := own_below hm19 hb20
  have hW20 := own_below hW19 hb20
  clear hm19 hW19 hy09 hy1 hb20
  go_wp2_with fail
  (refine (eqLabelS hh hW20 (by omega)).mono ?_); rintro e w21 ⟨rfl, hb21⟩
  have D21 := B20.trans (hb21.mono B20.size)
  have hm21 := own_below hm20 hb21
  clear hm20 hW20 hh
  go_wp2_with fail
  (refine (heldOneL hm21 (by omega)).mono ?_); rintro e w22 ⟨rfl, hb22⟩
  go_wp2
  go_ret
  exact ⟨rfl, D21.trans (hb22.mono D21.size)⟩
end Go.Proofs.Ytlaoioicefohiaa
