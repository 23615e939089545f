/-
  Contracts of spec.l01New, Decimal at a parameter's number, l04Level and DrawLevels.
-/
import Derived.Test.YtnklajagefedmaaDoorDr1
import Derived.Test.YtnklajagefedmaaDoorDr2
namespace Go.Proofs.YtnklajagefedmaaDoor
set_option maxRecDepth 100000
open Go.ChangeShapes Go.WideShapes Go.ChangeAt Go.RowKit
set_option linter.unusedSimpArgs false

theorem figureSmall (d : Nat) (w : World) (hd : d ≤ 9) :
    Calls Tryd.prog 83 #[.int .i64 (d : Int)] w fun e w' => e = .returned (.int .u8 ((48 + d : Nat) : Int)) ∧ w' = w := by
  have d1 : decide ((d : Int) < 10) = true := decide_eq_true (by omega)
  have e1 : IntKind.u8.wrap (48 + (d : Int)) = ((48 + d : Nat) : Int) := by rw [IntKind.wrap_u8]; omega
  go_enter Tryd.func83, Tryd.ntmps83
  go_wp2
  go_ret
  refine ⟨?_, rfl⟩
  simp [e1]

theorem decimalZero (w : World) : Calls Tryd.prog 71 #[.int .i64 0] w fun e w' => e = .returned (.string ⟨#[48]⟩) ∧ Below w.heap.size w w' := by
  go_enter Tryd.func71, Tryd.ntmps71
  go_wp2
  go_ret
  exact ⟨rfl, Below.refl _ _⟩
set_option maxHeartbeats 1000000 in
theorem decimalSmall (d : Nat) (w : World) (h1 : 1 ≤ d) (hd : d ≤ 9) :
    Calls Tryd.prog 71 #[.int .i64 (d : Int)] w fun e w' => e = .returned (.string ⟨#[UInt8.ofNat (48 + d)]⟩) ∧ Below w.heap.size w w' := by
  have f1 := Lib.hid fun W => figureSmall d W hd
  have d0 : ((d : Int) == 0) = false := beq_eq_false_iff_ne.2 (by omega)
  have d0' : ((d : Int) != 0) = true := by rw [bne, d0]; rfl
  have d1 : decide ((d : Int) < 0) = false := decide_eq_false (by omega)
  have e1 : ((d : Int)).tmod 10 = (d : Int) := by rw [Int.tmod_eq_emod_of_nonneg (by omega)]; omega
  have e2 : ((d : Int)).tdiv 10 = 0 := by rw [Int.tdiv_eq_ediv_of_nonneg (by omega)]; omega
  go_enter Tryd.func71, Tryd.ntmps71
  go_wp2
  refine wp_loop_rounds 2 ?_
  rw [rounds_succ]
  go_wp2_with fail
  (with_reducible refine (f1.out _).mono ?_); rintro e w1 ⟨rfl, rfl⟩
  have hcv := conv_one w1 (48 + (d : Int)) Tryd.underlying22 Tryd.underlying5 Tryd.underlying9 (by omega) (by omega)
  rw [show (48 + (d : Int)).toNat = 48 + d by omega] at hcv
  have hB : Below w1.heap.size w1 (w1.alloc (.cells #[.int .u8 (48 + (d : Int))] 5)) := (Below.refl _ _).alloc (Nat.le_refl _) _
  go_wp2
  rw [rounds_succ]
  go_wp2
  go_ret
  refine ⟨?_, hB⟩
  simp
  apply ByteArray.ext
  simp

set_option maxHeartbeats 1000000 in
theorem drawNew {w : World} {v : Value} {l : List UInt8} (hl : CameB w v l) (hn : l.length ≤ 2000000) :
    Calls Tryd.prog 43 #[v] w fun e w' => ∃ cb, e = .returned (.pointer (some ⟨cb, 0, none⟩)) ∧ Cur w v l cb w' := by
  obtain ⟨a0, cap, b, off, rfl, h2, h3⟩ := hl
  go_enter Tryd.func43, Tryd.ntmps43
  go_wp2
  go_loopw [3, 4] (fun hh i wr => ∃ (p : Nat) (x : Int), p ≤ l.length ∧ hh = .int .i64 x ∧ i = .int .i64 p ∧ wr = w) (fun _ i _ => l.length - (intOf i).toNat)
  case atStart => exact ⟨0, _, Nat.zero_le _, rfl, rfl, rfl⟩
  case round =>
    obtain ⟨p, x, hp, rfl, rfl, rfl⟩ := hrel
    by_cases hlt : p < l.length
    · by_cases h4 : p < 4000
      · have d1 : decide ((p : Int) < (l.length : Int)) = true := decide_eq_true (by omega)
        have d2 : decide ((p : Int) < 4000) = true := decide_eq_true (by omega)
        obtain ⟨rfl, hb⟩ := h2 (by omega)
        have cc := h3 p hlt
        have hby := l[p].toNat_lt
        generalize l[p].toNat = u at cc hby
        have q1 : (0 : Int) ≤ (p : Int) := by omega
        have q2 : (p : Int) < (l.length : Int) := by omega
        clear h2 h3
        go_wp2
        go_roundw
        case rel => exact ⟨p + 1, _, by omega, rfl, by go_num, trivial⟩
        case measure => simp [intOf]; omega
      · have d1 : decide ((p : Int) < (l.length : Int)) = true := decide_eq_true (by omega)
        have d2 : decide ((p : Int) < 4000) = false := decide_eq_false (by omega)
        clear h2 h3
        go_wp2
        go_ret
        exact ⟨wr.heap.size, rfl, (Below.refl _ _).alloc (Nat.le_refl _) _, Nat.le_refl _, by simp, 0, x, Nat.zero_le _, World.news_of_block (cs := #[.slice a0 l.length cap, .int .i64 0, .int .i64 x]) (t := 86) (fr := (0, 0)) (heap_alloc_new wr _) 0 _ rfl, World.news_of_block (cs := #[.slice a0 l.length cap, .int .i64 0, .int .i64 x]) (t := 86) (fr := (0, 0)) (heap_alloc_new wr _) 1 _ rfl, World.news_of_block (cs := #[.slice a0 l.length cap, .int .i64 0, .int .i64 x]) (t := 86) (fr := (0, 0)) (heap_alloc_new wr _) 2 _ rfl, by simp, by simp⟩
    · have d1 : decide ((p : Int) < (l.length : Int)) = false := decide_eq_false (by omega)
      clear h2 h3
      go_wp2
      go_ret
      exact ⟨wr.heap.size, rfl, (Below.refl _ _).alloc (Nat.le_refl _) _, Nat.le_refl _, by simp, 0, x, Nat.zero_le _, World.news_of_block (cs := #[.slice a0 l.length cap, .int .i64 0, .int .i64 x]) (t := 86) (fr := (0, 0)) (heap_alloc_new wr _) 0 _ rfl, World.news_of_block (cs := #[.slice a0 l.length cap, .int .i64 0, .int .i64 x]) (t := 86) (fr := (0, 0)) (heap_alloc_new wr _) 1 _ rfl, World.news_of_block (cs := #[.slice a0 l.length cap, .int .i64 0, .int .i64 x]) (t := 86) (fr := (0, 0)) (heap_alloc_new wr _) 2 _ rfl, by simp, by simp⟩

theorem decimalPar (d : Nat) (w : World) (hd : d ≤ 2) :
    Calls Tryd.prog 71 #[.int .i64 (d : Int)] w fun e w' => e = .returned (.string ⟨#[UInt8.ofNat (48 + d)]⟩) ∧ Below w.heap.size w w' := by
  rcases Nat.eq_zero_or_pos d with rfl | hp
  · exact decimalZero w
  · exact decimalSmall d w hp (by omega)
theorem Cur.below {w0 w w' : World} {v : Value} {l : List UInt8} {cb : Nat} (h : Cur w0 v l cb w) (hb : Below w.heap.size w w') : Cur w0 v l cb w' := by
  obtain ⟨h1, h2, h3, i, x, h4, c0, c1, c2, z1, z2⟩ := h
  refine ⟨h1.trans (hb.mono h1.size), h2, Nat.lt_of_lt_of_le h3 hb.size, i, x, h4, (hb.cell (p := ⟨cb, 0, none⟩) h3).trans c0, (hb.cell (p := ⟨cb, 1, none⟩) h3).trans c1, (hb.cell (p := ⟨cb, 2, none⟩) h3).trans c2, (hb.frozen (p := ⟨cb, 1, none⟩) h3).trans z1, (hb.frozen (p := ⟨cb, 2, none⟩) h3).trans z2⟩
theorem lvBytes2 (a : List UInt8) (c : UInt8) : (⟨#[c]⟩ : ByteArray) ++ ⟨a.toArray⟩ = ⟨(c :: a).toArray⟩ := by
  apply ByteArray.ext
  simp
theorem lvBytes3 (a b : List UInt8) (c : UInt8) : (⟨#[c]⟩ : ByteArray) ++ ⟨a.toArray⟩ ++ ⟨b.toArray⟩ = ⟨(c :: (a ++ b)).toArray⟩ := by
  apply ByteArray.ext
  simp
def lvMax : Nat → Nat
  | 0 => 2
  | d + 1 => 1 + 2 * lvMax d
theorem lvMax_ge (d : Nat) : 2 ≤ lvMax d := by
  induction d with
  | zero => exact Nat.le_refl _
  | succ d ih => rw [lvMax]; omega
def LvPost (w0 : World) (v : Value) (l : List UInt8) (cb d : Nat) (w : World) (e : Ending) (w' : World) : Prop :=
  (∃ t : List UInt8, LvP t ∧ t.length ≤ lvMax d ∧ e = .returned (.string ⟨t.toArray⟩)) ∧ Cur w0 v l cb w' ∧ w.grownBy w' (some cb)

set_option maxHeartbeats 2000000 in
theorem drawLevel {w0 : World} {v : Value} {l : List UInt8} {cb : Nat} (hl : CameB w0 v l) (hn : l.length ≤ 2000000) (m : Nat) (hm0 : 1 ≤ m) (hm : m ≤ 3) : ∀ (d : Nat), d ≤ 10 → ∀ (w : World), Cur w0 v l cb w →
    Calls Tryd.prog 44 #[.pointer (some ⟨cb, 0, none⟩), .int .i64 (m : Int), .int .i64 (d : Int)] w (LvPost w0 v l cb d w) := by
  intro d
  have fO2 : Hid (∀ W, Cur w0 v l cb W → Calls Tryd.prog 68 #[.pointer (some ⟨cb, 0, none⟩), .int .i64 2] W fun e w' => (∃ x : Bool, e = .returned (.bool x)) ∧ Cur w0 v l cb w' ∧ W.grownBy w' (some cb)) := fun W hW => drawOnce hl hW hn 2 (by decide) (by decide)
  have fO3 : Hid (∀ W, Cur w0 v l cb W → Calls Tryd.prog 68 #[.pointer (some ⟨cb, 0, none⟩), .int .i64 3] W fun e w' => (∃ x : Bool, e = .returned (.bool x)) ∧ Cur w0 v l cb w' ∧ W.grownBy w' (some cb)) := fun W hW => drawOnce hl hW hn 3 (by decide) (by decide)
  have fB3 : Hid (∀ W, Cur w0 v l cb W → Calls Tryd.prog 45 #[.pointer (some ⟨cb, 0, none⟩), .int .i64 (m : Int)] W fun e w' => (∃ x : Nat, x < m ∧ e = .returned (.int .i64 x)) ∧ Cur w0 v l cb w' ∧ W.grownBy w' (some cb)) := fun W hW => drawBelow hl hW hn m hm0 (by omega)
  have fB4 : Hid (∀ W, Cur w0 v l cb W → Calls Tryd.prog 45 #[.pointer (some ⟨cb, 0, none⟩), .int .i64 4] W fun e w' => (∃ x : Nat, x < 4 ∧ e = .returned (.int .i64 x)) ∧ Cur w0 v l cb w' ∧ W.grownBy w' (some cb)) := fun W hW => drawBelow hl hW hn 4 (by decide) (by decide)
  have fD := Lib.hid decimalPar
  have dm0 : decide ((0 : Int) < (m : Int)) = true := decide_eq_true (by omega)
  have dm0n : decide (0 < m) = true := decide_eq_true (by omega)
  clear hl hn
  induction d with
  | zero =>
    intro _ w hc
    have hC := Lib.hid hc
    go_enter Tryd.func44, Tryd.ntmps44
    go_wp2_with fail
    (with_reducible refine (fO2.out _ hC.out).mono ?_); rintro e w1 ⟨⟨x, rfl⟩, hc1, hg1⟩
    cases x
    · go_wp2
      go_ret
      exact ⟨⟨[122], LvP.z, by simp [lvMax], rfl⟩, hc1, hg1⟩
    · go_wp2_with fail
      (with_reducible refine (fB3.out _ hc1).mono ?_); rintro e w4 ⟨⟨x, hx, rfl⟩, hc4, hg4⟩
      go_wp2_with fail
      (with_reducible refine (fD.out x _ (by omega)).mono ?_); rintro e w5 ⟨rfl, hb5⟩
      have hc5 := hc4.below hb5
      have hg5 := grownBy_of_below hb5 (some cb)
      have hs : (UInt8.ofNat (48 + x)).toNat = 48 + x := by simp; omega
      have HL := Lib.hid (LvP.par (d := UInt8.ofNat (48 + x)) (by omega) (by omega))
      have HE := Lib.hid (lvBytes2 [UInt8.ofNat (48 + x)] 117)
      clear hs
      go_wp2
      go_ret
      refine ⟨⟨[117, UInt8.ofNat (48 + x)], HL.out, by simp [lvMax], ?_⟩, hc5, hg1.trans (hg4.trans hg5)⟩
      rw [← HE.out]
      simp
  | succ d ih =>
    intro hd w hc
    have hmx : lvMax (d + 1) = 1 + 2 * lvMax d := rfl
    have hge := lvMax_ge d
    have hcap : lvMax d ≤ 50000 := by
      have this : ∀ k, k ≤ 10 → lvMax k + 1 ≤ 3 * 2 ^ k := by
        intro k
        induction k with
        | zero => intro _; decide
        | succ k ih =>
          intro hk
          have h1 := ih (by omega)
          rw [lvMax, Nat.pow_succ]
          omega
      have h1 := this d (by omega)
      have h2 : 2 ^ d ≤ 2 ^ 10 := Nat.pow_le_pow_right (by decide) (by omega)
      omega
    have ih1 := Lib.hid (ih (by omega))
    clear ih
    generalize hnn : d + 1 = n at hmx ⊢
    have ih2 : Hid (∀ W, Cur w0 v l cb W → Calls Tryd.prog 44 #[.pointer (some ⟨cb, 0, none⟩), .int .i64 (m : Int), .int .i64 ((n : Int) - 1)] W (LvPost w0 v l cb d W)) := fun W hW => by
      rw [show (n : Int) - 1 = (d : Int) by omega]
      exact ih1.out W hW
    clear ih1
    have d0 : decide ((n : Int) ≤ 0) = false := decide_eq_false (by omega)
    have hC := Lib.hid hc
    clear hc
    go_enter Tryd.func44, Tryd.ntmps44
    go_wp2_with fail
    (with_reducible refine (fO3.out _ hC.out).mono ?_); rintro e w1 ⟨⟨y, rfl⟩, hc1, hg1⟩
    cases y
    · go_wp2_with fail
      (with_reducible refine (fB4.out _ hc1).mono ?_); rintro e w2 ⟨⟨x, hx, rfl⟩, hc2, hg2⟩
      rcases Nat.lt_or_ge x 1 with hx0 | hx0
      · obtain rfl : x = 0 := by omega
        go_wp2_with fail
        (with_reducible refine (ih2.out _ hc2).mono ?_); rintro e w3 ⟨⟨a, ha, hla, rfl⟩, hc3, hg3⟩
        have za : ((⟨#[109]⟩ : ByteArray) ++ ⟨a.toArray⟩).size ≤ 100000 := by rw [ByteArray.size_append]; simp [ByteArray.size]; omega
        go_wp2_with fail
        (with_reducible refine (ih2.out _ hc3).mono ?_); rintro e w4 ⟨⟨b, hb, hlb, rfl⟩, hc4, hg4⟩
        have HE := Lib.hid (lvBytes3 a b 109)
        have zb : b.length ≤ 50000 := by omega
        go_wp2
        go_ret
        refine ⟨⟨109 :: (a ++ b), LvP.two (.inl rfl) ha hb, by rw [hmx]; simp; omega, ?_⟩, hc4, hg1.trans (hg2.trans (hg3.trans hg4))⟩
        rw [← HE.out]
        rfl
      · rcases Nat.lt_or_ge x 2 with hx1 | hx1
        · obtain rfl : x = 1 := by omega
          go_wp2_with fail
          (with_reducible refine (ih2.out _ hc2).mono ?_); rintro e w3 ⟨⟨a, ha, hla, rfl⟩, hc3, hg3⟩
          have za : ((⟨#[105]⟩ : ByteArray) ++ ⟨a.toArray⟩).size ≤ 100000 := by rw [ByteArray.size_append]; simp [ByteArray.size]; omega
          go_wp2_with fail
          (with_reducible refine (ih2.out _ hc3).mono ?_); rintro e w4 ⟨⟨b, hb, hlb, rfl⟩, hc4, hg4⟩
          have HE := Lib.hid (lvBytes3 a b 105)
          have zb : b.length ≤ 50000 := by omega
          go_wp2
          go_ret
          refine ⟨⟨105 :: (a ++ b), LvP.two (.inr rfl) ha hb, by rw [hmx]; simp; omega, ?_⟩, hc4, hg1.trans (hg2.trans (hg3.trans hg4))⟩
          rw [← HE.out]
          rfl
        · have b0 : ((x : Int) == 0) = false := beq_eq_false_iff_ne.2 (by omega)
          have b1 : ((x : Int) == 1) = false := beq_eq_false_iff_ne.2 (by omega)
          go_wp2_with fail
          (with_reducible refine (ih2.out _ hc2).mono ?_); rintro e w3 ⟨⟨a, ha, hla, rfl⟩, hc3, hg3⟩
          have HE := Lib.hid (lvBytes2 a 43)
          have za : a.length ≤ 50000 := by omega
          go_wp2
          go_ret
          refine ⟨⟨43 :: a, LvP.up ha, by rw [hmx]; simp; omega, ?_⟩, hc3, hg1.trans (hg2.trans hg3)⟩
          rw [← HE.out]
          rfl
    · go_wp2_with fail
      (with_reducible refine (fO2.out _ hc1).mono ?_); rintro e w2 ⟨⟨x, rfl⟩, hc2, hg2⟩
      cases x
      · go_wp2
        go_ret
        exact ⟨⟨[122], LvP.z, by rw [hmx]; simp <;> omega, rfl⟩, hc2, hg1.trans hg2⟩
      · go_wp2_with fail
        (with_reducible refine (fB3.out _ hc2).mono ?_); rintro e w4 ⟨⟨x, hx, rfl⟩, hc4, hg4⟩
        go_wp2_with fail
        (with_reducible refine (fD.out x _ (by omega)).mono ?_); rintro e w5 ⟨rfl, hb5⟩
        have hc5 := hc4.below hb5
        have hg5 := grownBy_of_below hb5 (some cb)
        have hs : (UInt8.ofNat (48 + x)).toNat = 48 + x := by simp; omega
        have HL := Lib.hid (LvP.par (d := UInt8.ofNat (48 + x)) (by omega) (by omega))
        have HE := Lib.hid (lvBytes2 [UInt8.ofNat (48 + x)] 117)
        clear hs
        go_wp2
        go_ret
        refine ⟨⟨[117, UInt8.ofNat (48 + x)], HL.out, by rw [hmx]; simp; omega, ?_⟩, hc5, hg1.trans (hg2.trans (hg4.trans hg5))⟩
        rw [← HE.out]
        simp

end Go.Proofs.YtnklajagefedmaaDoor
