/-
  laws.FnExactNamesBoth from the contract of impl.NamesBoth (handed in as a hypothesis).
-/
import Derived.Test.YtlaoioicefohiaaSB
namespace Go.Proofs.Ytlaoioicefohiaa
set_option maxRecDepth 100000
open Go.ChangeShapes Go.WideShapes Go.ChangeAt Go.RowKit

def Lo (v : Value) (m : Nat) : Prop := ∀ k, v.ownBlock = some k → m ≤ k
def Hi (v : Value) (m : Nat) : Prop := ∀ k, v.ownBlock = some k → k < m
theorem own_lo {w : World} {b n : Nat} {v : Value} {xs : List Value} (h : w.ownsRow b 9 1 v n xs) : Lo v b := fun k hk => (h.lt k hk).1
theorem own_hi {w : World} {b n : Nat} {v : Value} {xs : List Value} (h : w.ownsRow b 9 1 v n xs) : Hi v w.heap.size := fun k hk => (h.lt k hk).2
theorem Lo.mono {v : Value} {m m' : Nat} (h : Lo v m) (hm : m' ≤ m) : Lo v m' := fun k hk => Nat.le_trans hm (h k hk)
theorem kept_apart {w w' : World} {b n M : Nat} {v v' : Value} {xs : List Value} (h : w.ownsRow b 9 1 v n xs) (hg : w.grownBy w' v'.ownBlock) (hd : (Hi v M ∧ Lo v' M) ∨ (Hi v' M ∧ Lo v M)) : w'.ownsRow b 9 1 v n xs := by
  refine h.kept hg ?_
  rcases hv : v.ownBlock with _ | k
  · exact .inl rfl
  · refine .inr fun e => ?_
    rcases hd with ⟨h1, h2⟩ | ⟨h1, h2⟩
    · have := h1 k hv; have := h2 k e.symm; omega
    · have := h1 k e.symm; have := h2 k hv; omega
theorem mark2 {w : World} {base n k : Nat} {v : Value} {xs : List Value} (h : w.ownsRow base 9 1 v n xs) (hn : n ≤ 10000000) (hk : k ≤ 10000000) :
    Calls Try.prog 16 #[v, .int .i64 ((k : Int) + 1)] w fun e w' => e = .returned (.int .i64 ((k : Int) + 1 + (n : Int))) ∧ w.grownBy w' v.ownBlock := by
  have := markStringS (k := k + 1) h (by omega) (by omega) (by omega)
  rw [show ((k + 1 + n : Nat) : Int) = (k : Int) + 1 + (n : Int) by omega] at this
  exact this.mono fun e w' ⟨h1, _, h3⟩ => ⟨h1, h3⟩

set_option maxHeartbeats 4000000 in
theorem lawNamesBoth {vA vB : Value} {a b : List BL} (w : World) (hA : Came w vA a) (hB : Came w vB b)
    (hI : a.length + b.length ≤ 1048576 → (∀ x ∈ a ++ b, x.length ≤ 1048576) → ∀ (W : World) (b1 b2 : Nat) (v1 v2 : Value), W.ownsRow b1 9 1 v1 a.length (a.map sv) → W.ownsRow b2 9 1 v2 b.length (b.map sv) → Calls Try.prog 14 #[v1, v2] W (LRes (srt (a ++ b)) W)) :
    Calls Try.prog 3 #[vA, vB] w fun e w' => e = .returned (.bool true) ∧ Below w.heap.size w w' := by
  have f0 : Hid (Calls Try.prog 11 #[vA, .int .i64 1048576] w (SzRes a 1048576 w)) := szStringS hA 1048576 (Nat.le_refl _)
  go_enter Try.func3, Try.ntmps3
  go_wp2_with fail
  (refine f0.out.mono ?_); rintro e w0 ⟨rfl, (rfl | ⟨r, rfl, hr⟩)⟩
  · go_wp2
    go_ret
    exact ⟨rfl, Below.refl _ _⟩
  clear f0
  have d0 : decide ((r : Int) < 0) = false := decide_eq_false (by omega)
  go_wp2_with fail
  (refine (szStringS hB r (by omega)).mono ?_); rintro e w1 ⟨rfl, (rfl | ⟨r2, rfl, hr2⟩)⟩
  · go_wp2
    go_ret
    exact ⟨rfl, Below.refl _ _⟩
  have d1 : decide ((r2 : Int) < 0) = false := decide_eq_false (by omega)
  have hn : a.length + b.length ≤ 1048576 := by omega
  have hx : ∀ x ∈ a ++ b, x.length ≤ 1048576 := by
    intro x hx
    rcases List.mem_append.1 hx with h | h
    · have := totL_mem h; omega
    · have := totL_mem h; omega
  have fA := Lib.hid fun W (hb : Below w1.heap.size w1 W) => toStringS (hA.below hb) (by omega)
  have fB := Lib.hid fun W (hb : Below w1.heap.size w1 W) => toStringS (hB.below hb) (by omega)
  have hsl := (srt_spec _ (a ++ b) (Nat.le_refl _)).2.2
  rw [List.length_append] at hsl
  have fS := Lib.hid fun (W : World) (b1 b2 : Nat) (v1 v2 : Value) (h1 : W.ownsRow b1 9 1 v1 a.length (a.map sv)) (h2 : W.ownsRow b2 9 1 v2 b.length (b.map sv)) => specNamesBoth h1 h2 hn
  have fI := Lib.hid (hI hn hx)
  clear hx hr hr2 hI
  generalize srt (a ++ b) = s at hsl fS fI
  -- the model's answer
  go_wp2_with fail
  (refine (fA.out _ (Below.refl _ _)).mono ?_); rintro e w2 ⟨u1, rfl, hu1, hb2⟩
  go_wp2_with fail
  (refine (fB.out _ hb2).mono ?_); rintro e w3 ⟨u2, rfl, hu2, hb3⟩
  have B3 := hb2.trans (hb3.mono hb2.size)
  go_wp2_with fail
  (refine (fS.out _ _ _ _ _ (own_below hu1 hb3) hu2).mono ?_); rintro e w4 ⟨vW, rfl, hW, hb4⟩
  have B4 := B3.trans (hb4.mono B3.size)
  have z4 := B4.size
  have hiW := own_hi hW
  clear hu1 hu2 hb2 hb3 hb4
  -- the program's arguments and answer
  go_wp2_with fail
  (refine (fA.out _ B4).mono ?_); rintro e w5 ⟨x0, rfl, hx0, hb5⟩
  have B5 := B4.trans (hb5.mono z4)
  have z5 := B5.size
  have m5 := hb5.size
  have hi0 := own_hi hx0
  have lo0 := own_lo hx0
  go_wp2_with fail
  (refine (fB.out _ B5).mono ?_); rintro e w6 ⟨x1, rfl, hx1, hb6⟩
  have B6 := B5.trans (hb6.mono z5)
  have z6 := B6.size
  have m6 := hb6.size
  have hi1 := own_hi hx1
  have lo1 := own_lo hx1
  have hx0' := own_below hx0 hb6
  go_wp2_with fail
  (refine (fI.out _ _ _ _ _ hx0' hx1).mono ?_); rintro e w7 ⟨vg, rfl, hg, hb7⟩
  have B7 := B6.trans (hb7.mono z6)
  have z7 := B7.size
  have m7 := hb7.size
  have log := own_lo hg
  have hx07 := own_below hx0' hb7
  have hx17 := own_below hx1 hb7
  have hW7 := own_below (own_below (own_below hW hb5) hb6) hb7
  clear hx0 hx0' hx1 hW hb5 hb6 hb7
  go_wp2_with fail
  (refine (eqStringS hg hW7 (by omega)).mono ?_); rintro e w8 ⟨rfl, q1, rfl⟩
  have D8 := below_drewN B7 q1
  go_wp2_with fail
  (refine (fA.out _ D8).mono ?_); rintro e w9 ⟨t9, rfl, ht9, hb9⟩
  have B9 := D8.trans (hb9.mono D8.size)
  have z9 := B9.size
  have hx09 := own_below (own_drew hx07 q1) hb9
  have hx19 := own_below (own_drew hx17 q1) hb9
  have hg9 := own_below (own_drew hg q1) hb9
  have hW9 := own_below (own_drew hW7 q1) hb9
  clear hx07 hx17 hg hW7 D8 hb9
  go_wp2_with fail
  (refine (eqStringS hx09 ht9 (by omega)).mono ?_); rintro e w10 ⟨rfl, q2, rfl⟩
  have D10 := below_drewN B9 q2
  clear ht9
  go_wp2_with fail
  (refine (fB.out _ D10).mono ?_); rintro e w11 ⟨t11, rfl, ht11, hb11⟩
  have B11 := D10.trans (hb11.mono D10.size)
  have z11 := B11.size
  have hx011 := own_below (own_drew hx09 q2) hb11
  have hx111 := own_below (own_drew hx19 q2) hb11
  have hg11 := own_below (own_drew hg9 q2) hb11
  have hW11 := own_below (own_drew hW9 q2) hb11
  clear hx09 hx19 hg9 hW9 D10 hb11
  go_wp2_with fail
  (refine (eqStringS hx111 ht11 (by omega)).mono ?_); rintro e w12 ⟨rfl, q3, rfl⟩
  have D12 := below_drewN B11 q3
  have hx012 := own_drew hx011 q3
  have hx112 := own_drew hx111 q3
  have hg12 := own_drew hg11 q3
  have hW12 := own_drew hW11 q3
  have z12 := D12.size
  clear hx011 hx111 hg11 hW11 ht11
  -- the arguments are marked
  go_wp2_with fail
  (refine (markOne hx012 (by omega)).mono ?_); rintro e w13 ⟨rfl, _, hg13⟩
  have B13 := D12.grown hg13 z12 (fun k hk => by have := lo0 k hk; omega)
  have hx113 := kept_apart hx112 hg13 (.inr ⟨hi0, lo1⟩)
  have hgg13 := kept_apart hg12 hg13 (.inr ⟨hi0, log.mono (by omega)⟩)
  have hW13 := kept_apart hW12 hg13 (.inl ⟨hiW, lo0⟩)
  have z13 := B13.size
  clear hx012 hx112 hg12 hW12 hg13
  go_wp2_with fail
  (refine (mark2 hx113 (by omega) (by omega)).mono ?_); rintro e w14 ⟨rfl, hg14⟩
  have B14 := B13.grown hg14 z13 (fun k hk => by have := lo1 k hk; omega)
  have hgg14 := kept_apart hgg13 hg14 (.inr ⟨hi1, log⟩)
  have hW14 := kept_apart hW13 hg14 (.inl ⟨hiW, lo1.mono (by omega)⟩)
  have z14 := B14.size
  have d14 : decide ((a.length : Int) + 1 + (b.length : Int) < 0) = false := decide_eq_false (by omega)
  clear hx113 hgg13 hW13 hg14
  go_wp2_with fail
  (refine (eqStringS hgg14 hW14 (by omega)).mono ?_); rintro e w15 ⟨rfl, q4, rfl⟩
  have D15 := below_drewN B14 q4
  have hg15 := own_drew hgg14 q4
  have hW15 := own_drew hW14 q4
  have z15 := D15.size
  clear hgg14 hW14
  -- the answer is marked
  go_wp2_with fail
  (refine (markOne hg15 (by omega)).mono ?_); rintro e w16 ⟨rfl, hm16, hg16⟩
  have B16 := D15.grown hg16 z15 (fun k hk => by have := log k hk; omega)
  have hW16 := kept_apart hW15 hg16 (.inl ⟨hiW, log.mono (by omega)⟩)
  have z16 := B16.size
  clear hg15 hW15 hg16
  go_wp2_with fail
  (refine (heldOne hm16 (by omega)).mono ?_); rintro e w17 ⟨rfl, hb17⟩
  have B17 := B16.trans (hb17.mono z16)
  have z17 := B17.size
  have hm17 := own_below hm16 hb17
  have hW17 := own_below hW16 hb17
  have d17 : decide ((s.length : Int) + 1 < 0) = false := decide_eq_false (by omega)
  clear hm16 hW16 hb17
  -- the second answer
  go_wp2_with fail
  (refine (fA.out _ B17).mono ?_); rintro e w18 ⟨y0, rfl, hy0, hb18⟩
  have B18 := B17.trans (hb18.mono z17)
  have hm18 := own_below hm17 hb18
  have hW18 := own_below hW17 hb18
  clear hm17 hW17
  go_wp2_with fail
  (refine (fB.out _ B18).mono ?_); rintro e w19 ⟨y1, rfl, hy1, hb19⟩
  have B19 := B18.trans (hb19.mono B18.size)
  have hm19 := own_below hm18 hb19
  have hW19 := own_below hW18 hb19
  have hy09 := own_below hy0 hb19
  clear hm18 hW18 hy0 hb18 hb19
  go_wp2_with fail
  (refine (fI.out _ _ _ _ _ hy09 hy1).mono ?_); rintro e w20 ⟨vh, rfl, hh, hb20⟩
  have B20 := B19.trans (hb20.mono B19.size)
  have hm20 := own_below hm19 hb20
  have hW20 := own_below hW19 hb20
  clear hm19 hW19 hy09 hy1 hb20
  go_wp2_with fail
  (refine (eqStringS hh hW20 (by omega)).mono ?_); rintro e w21 ⟨rfl, q5, rfl⟩
  have D21 := below_drewN B20 q5
  have hm21 := own_drew hm20 q5
  clear hm20 hW20 hh
  go_wp2_with fail
  (refine (heldOne hm21 (by omega)).mono ?_); rintro e w22 ⟨rfl, hb22⟩
  go_wp2
  go_ret
  exact ⟨rfl, D21.trans (hb22.mono D21.size)⟩
end Go.Proofs.Ytlaoioicefohiaa
