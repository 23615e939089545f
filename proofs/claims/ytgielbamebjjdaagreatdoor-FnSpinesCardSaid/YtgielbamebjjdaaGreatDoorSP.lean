/-
  Plain: what the readers answer of the text of a tree of one's own; Given and Arrows of such.
  Contracts of spec.l01New, Decimal at a parameter's number, l04Level and DrawLevels.
  Drawn names and drawn terms: contracts of spec.l01Pick, l02Name, DrawNames, l06Term and DrawTerm.
  The contract of spec.DrawList, with what the drawn terms are.
  The contract of spec.DrawTerm, with what the drawn terms are.
  Plain: whether a list consists of names and rises strictly.
  Plain: heads, arguments, domains, targets and names of drawn terms.
  append([]string{}, v...): a copy in a place of its own, whether v is nil, empty or not.
  FnSpines from the contracts of the program's functions.
-/
import Derived.Test.YtgielbamebjjdaaGreatDoorE1
import Derived.Test.YtgielbamebjjdaaGreatDoorJF1
import Derived.Test.YtgielbamebjjdaaGreatDoorJ0
import Derived.Test.YtgielbamebjjdaaGreatDoorG1
import Derived.Test.YtgielbamebjjdaaGreatDoorE2
import Derived.Laws.AppendOwnNone
import Derived.Test.YtgielbamebjjdaaGreatDoorNMath
import Derived.Test.YtgielbamebjjdaaGreatDoorListsP
namespace Go.Proofs.YtgielbamebjjdaaGreatDoor
set_option maxRecDepth 100000
open Go.ChangeShapes Go.WideShapes Go.ChangeAt Go.RowKit
set_option linter.unusedSimpArgs false
set_option linter.unusedVariables false

theorem isTm_own {T : Tm} (hT : T.Ok) (hl : T.bytes.length ≤ 2000) : IsTm T.bytes T := ⟨hT, rfl, hl⟩
theorem headOf_own {T : Tm} (hT : T.Ok) (hl : T.bytes.length ≤ 2000) : headOf T.bytes = T.head.bytes := by rw [headOf, termOf_some (isTm_own hT hl)]
theorem targetOf_own {T : Tm} (hT : T.Ok) (hl : T.bytes.length ≤ 2000) : targetOf T.bytes = T.targ.bytes := by rw [targetOf, termOf_some (isTm_own hT hl)]
theorem argsOf_own {T : Tm} (hT : T.Ok) (hl : T.bytes.length ≤ 2000) : argsOf T.bytes = T.args.map Tm.bytes := by rw [argsOf, termOf_some (isTm_own hT hl)]
theorem domainsOf_own {T : Tm} (hT : T.Ok) (hl : T.bytes.length ≤ 2000) : domainsOf T.bytes = T.doms.map Tm.bytes := by rw [domainsOf, termOf_some (isTm_own hT hl)]
theorem termOk_own {T : Tm} (hT : T.Ok) (hl : T.bytes.length ≤ 2000) : termOk T.bytes = true := by rw [termOk, termOf_some (isTm_own hT hl)]; rfl
theorem catB_len (ts : List Tm) (a : Tm) (h : a ∈ ts) : a.bytes.length ≤ (catB ts).length := by
  induction ts with
  | nil => cases h
  | cons x r ih =>
    have e : catB (x :: r) = x.bytes ++ catB r := by simp [catB]
    rw [e, List.length_append]
    rcases List.mem_cons.1 h with rfl | h
    · omega
    · have := ih h; omega
theorem givenOf_own {h : Tm} {us : List Tm} (hh : h.Ok) (hu : ∀ a ∈ us, a.Ok) (hl : (h.given us).bytes.length ≤ 2000) : givenOf h.bytes (us.map Tm.bytes) = some (h.given us).bytes := by
  have hb := given_bytes us h
  have hz : h.bytes.length + us.length + (catB us).length = (h.given us).bytes.length := by rw [hb]; simp; omega
  have e : (us.map Tm.bytes).flatten = catB us := rfl
  rw [givenOf, if_pos]
  · rw [hb, e, List.length_map]
  · refine ⟨termOk_own hh (by omega), fun a ha => ?_, by rw [e, List.length_map]; omega⟩
    obtain ⟨x, hx, rfl⟩ := List.mem_map.1 ha
    exact termOk_own (hu x hx) (by have := catB_len us x hx; omega)
theorem catP_len (ts : List Tm) : (catP ts).length = ts.length + (catB ts).length := by
  induction ts with
  | nil => rfl
  | cons x r ih =>
    have e : catB (x :: r) = x.bytes ++ catB r := by simp [catB]
    have e2 : catP (x :: r) = 112 :: (x.bytes ++ catP r) := by simp [catP]
    rw [e, e2]
    simp only [List.length_cons, List.length_append, ih]
    omega
theorem arrowsOf_own {t : Tm} {ds : List Tm} (ht : t.Ok) (hd : ∀ a ∈ ds, a.Ok) (hl : (Tm.arrows ds t).bytes.length ≤ 2000) : arrowsOf (ds.map Tm.bytes) t.bytes = some (Tm.arrows ds t).bytes := by
  have hb := arrows_bytes ds t
  have hz : t.bytes.length + ds.length + (catB ds).length = (Tm.arrows ds t).bytes.length := by rw [hb, List.length_append, catP_len]; omega
  have e : (ds.map Tm.bytes).flatten = catB ds := rfl
  have e2 : ((ds.map Tm.bytes).map fun d => 112 :: d).flatten = catP ds := by simp [catP, Function.comp_def]
  rw [arrowsOf, if_pos]
  · rw [hb, e2]
  · refine ⟨termOk_own ht (by omega), fun a ha => ?_, by rw [e, List.length_map]; omega⟩
    obtain ⟨x, hx, rfl⟩ := List.mem_map.1 ha
    exact termOk_own (hd x hx) (by have := catB_len ds x hx; omega)
end Go.Proofs.YtgielbamebjjdaaGreatDoor

namespace Go.Proofs.YtgielbamebjjdaaGreatDoor
set_option maxRecDepth 100000
open Go.ChangeShapes Go.WideShapes Go.ChangeAt Go.RowKit
set_option linter.unusedSimpArgs false

theorem figureSmall (d : Nat) (w : World) (hd : d ≤ 9) :
    Calls Tryz.prog 175 #[.int .i64 (d : Int)] w fun e w' => e = .returned (.int .u8 ((48 + d : Nat) : Int)) ∧ w' = w := by
  have d1 : decide ((d : Int) < 10) = true := decide_eq_true (by omega)
  have e1 : IntKind.u8.wrap (48 + (d : Int)) = ((48 + d : Nat) : Int) := by rw [IntKind.wrap_u8]; omega
  go_enter Tryz.func175, Tryz.ntmps175
  go_wp2
  go_ret
  refine ⟨?_, rfl⟩
  simp [e1]

theorem decimalZero (w : World) : Calls Tryz.prog 139 #[.int .i64 0] w fun e w' => e = .returned (.string ⟨#[48]⟩) ∧ Below w.heap.size w w' := by
  go_enter Tryz.func139, Tryz.ntmps139
  go_wp2
  go_ret
  exact ⟨rfl, Below.refl _ _⟩
set_option maxHeartbeats 1000000 in
theorem decimalSmall (d : Nat) (w : World) (h1 : 1 ≤ d) (hd : d ≤ 9) :
    Calls Tryz.prog 139 #[.int .i64 (d : Int)] w fun e w' => e = .returned (.string ⟨#[UInt8.ofNat (48 + d)]⟩) ∧ Below w.heap.size w w' := by
  have f1 := Lib.hid fun W => figureSmall d W hd
  have d0 : ((d : Int) == 0) = false := beq_eq_false_iff_ne.2 (by omega)
  have d0' : ((d : Int) != 0) = true := by rw [bne, d0]; rfl
  have d1 : decide ((d : Int) < 0) = false := decide_eq_false (by omega)
  have e1 : ((d : Int)).tmod 10 = (d : Int) := by rw [Int.tmod_eq_emod_of_nonneg (by omega)]; omega
  have e2 : ((d : Int)).tdiv 10 = 0 := by rw [Int.tdiv_eq_ediv_of_nonneg (by omega)]; omega
  go_enter Tryz.func139, Tryz.ntmps139
  go_wp2
  refine wp_loop_rounds 2 ?_
  rw [rounds_succ]
  go_wp2_with fail
  (with_reducible refine (f1.out _).mono ?_); rintro e w1 ⟨rfl, rfl⟩
  have hcv := conv_one w1 (48 + (d : Int)) Tryz.underlying22 Tryz.underlying5 Tryz.underlying9 (by omega) (by omega)
  rw [show (48 + (d : Int)).toNat = 48 + d by omega] at hcv
  have hB : Below w1.heap.size w1 (w1.alloc (.cells #[.int .u8 (48 + (d : Int))] 5)) := (Below.refl _ _).alloc (Nat.le_refl _) _
  go_wp2
  rw [rounds_succ]
  go_wp2
  go_ret
  refine ⟨?_, hB⟩
  simp
  apply ByteArray.ext
  simp

set_option maxHeartbeats 1000000 in
theorem drawNew {w : World} {v : Value} {l : List UInt8} (hl : CameB w v l) (hn : l.length ≤ 2000000) :
    Calls Tryz.prog 52 #[v] w fun e w' => ∃ cb, e = .returned (.pointer (some ⟨cb, 0, none⟩)) ∧ Cur w v l cb w' := by
  obtain ⟨a0, cap, b, off, rfl, h2, h3⟩ := hl
  go_enter Tryz.func52, Tryz.ntmps52
  go_wp2
  go_loopw [3, 4] (fun hh i wr => ∃ (p : Nat) (x : Int), p ≤ l.length ∧ hh = .int .i64 x ∧ i = .int .i64 p ∧ wr = w) (fun _ i _ => l.length - (intOf i).toNat)
  case atStart => exact ⟨0, _, Nat.zero_le _, rfl, rfl, rfl⟩
  case round =>
    obtain ⟨p, x, hp, rfl, rfl, rfl⟩ := hrel
    by_cases hlt : p < l.length
    · by_cases h4 : p < 4000
      · have d1 : decide ((p : Int) < (l.length : Int)) = true := decide_eq_true (by omega)
        have d2 : decide ((p : Int) < 4000) = true := decide_eq_true (by omega)
        obtain ⟨rfl, hb⟩ := h2 (by omega)
        have cc := h3 p hlt
        have hby := l[p].toNat_lt
        generalize l[p].toNat = u at cc hby
        have q1 : (0 : Int) ≤ (p : Int) := by omega
        have q2 : (p : Int) < (l.length : Int) := by omega
        clear h2 h3
        go_wp2
        go_roundw
        case rel => exact ⟨p + 1, _, by omega, rfl, by go_num, trivial⟩
        case measure => simp [intOf]; omega
      · have d1 : decide ((p : Int) < (l.length : Int)) = true := decide_eq_true (by omega)
        have d2 : decide ((p : Int) < 4000) = false := decide_eq_false (by omega)
        clear h2 h3
        go_wp2
        go_ret
        exact ⟨wr.heap.size, rfl, (Below.refl _ _).alloc (Nat.le_refl _) _, Nat.le_refl _, by simp, 0, x, Nat.zero_le _, World.news_of_block (cs := #[.slice a0 l.length cap, .int .i64 0, .int .i64 x]) (t := 113) (fr := (0, 0)) (heap_alloc_new wr _) 0 _ rfl, World.news_of_block (cs := #[.slice a0 l.length cap, .int .i64 0, .int .i64 x]) (t := 113) (fr := (0, 0)) (heap_alloc_new wr _) 1 _ rfl, World.news_of_block (cs := #[.slice a0 l.length cap, .int .i64 0, .int .i64 x]) (t := 113) (fr := (0, 0)) (heap_alloc_new wr _) 2 _ rfl, by simp, by simp⟩
    · have d1 : decide ((p : Int) < (l.length : Int)) = false := decide_eq_false (by omega)
      clear h2 h3
      go_wp2
      go_ret
      exact ⟨wr.heap.size, rfl, (Below.refl _ _).alloc (Nat.le_refl _) _, Nat.le_refl _, by simp, 0, x, Nat.zero_le _, World.news_of_block (cs := #[.slice a0 l.length cap, .int .i64 0, .int .i64 x]) (t := 113) (fr := (0, 0)) (heap_alloc_new wr _) 0 _ rfl, World.news_of_block (cs := #[.slice a0 l.length cap, .int .i64 0, .int .i64 x]) (t := 113) (fr := (0, 0)) (heap_alloc_new wr _) 1 _ rfl, World.news_of_block (cs := #[.slice a0 l.length cap, .int .i64 0, .int .i64 x]) (t := 113) (fr := (0, 0)) (heap_alloc_new wr _) 2 _ rfl, by simp, by simp⟩

theorem decimalPar (d : Nat) (w : World) (hd : d ≤ 2) :
    Calls Tryz.prog 139 #[.int .i64 (d : Int)] w fun e w' => e = .returned (.string ⟨#[UInt8.ofNat (48 + d)]⟩) ∧ Below w.heap.size w w' := by
  rcases Nat.eq_zero_or_pos d with rfl | hp
  · exact decimalZero w
  · exact decimalSmall d w hp (by omega)
theorem Cur.below {w0 w w' : World} {v : Value} {l : List UInt8} {cb : Nat} (h : Cur w0 v l cb w) (hb : Below w.heap.size w w') : Cur w0 v l cb w' := by
  obtain ⟨h1, h2, h3, i, x, h4, c0, c1, c2, z1, z2⟩ := h
  refine ⟨h1.trans (hb.mono h1.size), h2, Nat.lt_of_lt_of_le h3 hb.size, i, x, h4, (hb.cell (p := ⟨cb, 0, none⟩) h3).trans c0, (hb.cell (p := ⟨cb, 1, none⟩) h3).trans c1, (hb.cell (p := ⟨cb, 2, none⟩) h3).trans c2, (hb.frozen (p := ⟨cb, 1, none⟩) h3).trans z1, (hb.frozen (p := ⟨cb, 2, none⟩) h3).trans z2⟩
theorem lvBytes2 (a : List UInt8) (c : UInt8) : (⟨#[c]⟩ : ByteArray) ++ ⟨a.toArray⟩ = ⟨(c :: a).toArray⟩ := by
  apply ByteArray.ext
  simp
theorem lvBytes3 (a b : List UInt8) (c : UInt8) : (⟨#[c]⟩ : ByteArray) ++ ⟨a.toArray⟩ ++ ⟨b.toArray⟩ = ⟨(c :: (a ++ b)).toArray⟩ := by
  apply ByteArray.ext
  simp
def lvMax : Nat → Nat
  | 0 => 2
  | d + 1 => 1 + 2 * lvMax d
theorem lvMax_ge (d : Nat) : 2 ≤ lvMax d := by
  induction d with
  | zero => exact Nat.le_refl _
  | succ d ih => rw [lvMax]; omega
def LvPost (w0 : World) (v : Value) (l : List UInt8) (cb d : Nat) (w : World) (e : Ending) (w' : World) : Prop :=
  (∃ t : List UInt8, LvP t ∧ t.length ≤ lvMax d ∧ e = .returned (.string ⟨t.toArray⟩)) ∧ Cur w0 v l cb w' ∧ w.grownBy w' (some cb)

set_option maxHeartbeats 2000000 in
theorem drawLevel {w0 : World} {v : Value} {l : List UInt8} {cb : Nat} (hl : CameB w0 v l) (hn : l.length ≤ 2000000) (m : Nat) (hm0 : 1 ≤ m) (hm : m ≤ 3) : ∀ (d : Nat), d ≤ 10 → ∀ (w : World), Cur w0 v l cb w →
    Calls Tryz.prog 99 #[.pointer (some ⟨cb, 0, none⟩), .int .i64 (m : Int), .int .i64 (d : Int)] w (LvPost w0 v l cb d w) := by
  intro d
  have fO2 : Hid (∀ W, Cur w0 v l cb W → Calls Tryz.prog 98 #[.pointer (some ⟨cb, 0, none⟩), .int .i64 2] W fun e w' => (∃ x : Bool, e = .returned (.bool x)) ∧ Cur w0 v l cb w' ∧ W.grownBy w' (some cb)) := fun W hW => drawOnce hl hW hn 2 (by decide) (by decide)
  have fO3 : Hid (∀ W, Cur w0 v l cb W → Calls Tryz.prog 98 #[.pointer (some ⟨cb, 0, none⟩), .int .i64 3] W fun e w' => (∃ x : Bool, e = .returned (.bool x)) ∧ Cur w0 v l cb w' ∧ W.grownBy w' (some cb)) := fun W hW => drawOnce hl hW hn 3 (by decide) (by decide)
  have fB3 : Hid (∀ W, Cur w0 v l cb W → Calls Tryz.prog 53 #[.pointer (some ⟨cb, 0, none⟩), .int .i64 (m : Int)] W fun e w' => (∃ x : Nat, x < m ∧ e = .returned (.int .i64 x)) ∧ Cur w0 v l cb w' ∧ W.grownBy w' (some cb)) := fun W hW => drawBelow hl hW hn m hm0 (by omega)
  have fB4 : Hid (∀ W, Cur w0 v l cb W → Calls Tryz.prog 53 #[.pointer (some ⟨cb, 0, none⟩), .int .i64 4] W fun e w' => (∃ x : Nat, x < 4 ∧ e = .returned (.int .i64 x)) ∧ Cur w0 v l cb w' ∧ W.grownBy w' (some cb)) := fun W hW => drawBelow hl hW hn 4 (by decide) (by decide)
  have fD := Lib.hid decimalPar
  have dm0 : decide ((0 : Int) < (m : Int)) = true := decide_eq_true (by omega)
  have dm0n : decide (0 < m) = true := decide_eq_true (by omega)
  clear hl hn
  induction d with
  | zero =>
    intro _ w hc
    have hC := Lib.hid hc
    go_enter Tryz.func99, Tryz.ntmps99
    go_wp2_with fail
    (with_reducible refine (fO2.out _ hC.out).mono ?_); rintro e w1 ⟨⟨x, rfl⟩, hc1, hg1⟩
    cases x
    · go_wp2
      go_ret
      exact ⟨⟨[122], LvP.z, by simp [lvMax], rfl⟩, hc1, hg1⟩
    · go_wp2_with fail
      (with_reducible refine (fB3.out _ hc1).mono ?_); rintro e w4 ⟨⟨x, hx, rfl⟩, hc4, hg4⟩
      go_wp2_with fail
      (with_reducible refine (fD.out x _ (by omega)).mono ?_); rintro e w5 ⟨rfl, hb5⟩
      have hc5 := hc4.below hb5
      have hg5 := grownBy_of_below hb5 (some cb)
      have hs : (UInt8.ofNat (48 + x)).toNat = 48 + x := by simp; omega
      have HL := Lib.hid (LvP.par (d := UInt8.ofNat (48 + x)) (by omega) (by omega))
      have HE := Lib.hid (lvBytes2 [UInt8.ofNat (48 + x)] 117)
      clear hs
      go_wp2
      go_ret
      refine ⟨⟨[117, UInt8.ofNat (48 + x)], HL.out, by simp [lvMax], ?_⟩, hc5, hg1.trans (hg4.trans hg5)⟩
      rw [← HE.out]
      simp
  | succ d ih =>
    intro hd w hc
    have hmx : lvMax (d + 1) = 1 + 2 * lvMax d := rfl
    have hge := lvMax_ge d
    have hcap : lvMax d ≤ 50000 := by
      have this : ∀ k, k ≤ 10 → lvMax k + 1 ≤ 3 * 2 ^ k := by
        intro k
        induction k with
        | zero => intro _; decide
        | succ k ih =>
          intro hk
          have h1 := ih (by omega)
          rw [lvMax, Nat.pow_succ]
          omega
      have h1 := this d (by omega)
      have h2 : 2 ^ d ≤ 2 ^ 10 := Nat.pow_le_pow_right (by decide) (by omega)
      omega
    have ih1 := Lib.hid (ih (by omega))
    clear ih
    generalize hnn : d + 1 = n at hmx ⊢
    have ih2 : Hid (∀ W, Cur w0 v l cb W → Calls Tryz.prog 99 #[.pointer (some ⟨cb, 0, none⟩), .int .i64 (m : Int), .int .i64 ((n : Int) - 1)] W (LvPost w0 v l cb d W)) := fun W hW => by
      rw [show (n : Int) - 1 = (d : Int) by omega]
      exact ih1.out W hW
    clear ih1
    have d0 : decide ((n : Int) ≤ 0) = false := decide_eq_false (by omega)
    have hC := Lib.hid hc
    clear hc
    go_enter Tryz.func99, Tryz.ntmps99
    go_wp2_with fail
    (with_reducible refine (fO3.out _ hC.out).mono ?_); rintro e w1 ⟨⟨y, rfl⟩, hc1, hg1⟩
    cases y
    · go_wp2_with fail
      (with_reducible refine (fB4.out _ hc1).mono ?_); rintro e w2 ⟨⟨x, hx, rfl⟩, hc2, hg2⟩
      rcases Nat.lt_or_ge x 1 with hx0 | hx0
      · obtain rfl : x = 0 := by omega
        go_wp2_with fail
        (with_reducible refine (ih2.out _ hc2).mono ?_); rintro e w3 ⟨⟨a, ha, hla, rfl⟩, hc3, hg3⟩
        have za : ((⟨#[109]⟩ : ByteArray) ++ ⟨a.toArray⟩).size ≤ 100000 := by rw [ByteArray.size_append]; simp [ByteArray.size]; omega
        go_wp2_with fail
        (with_reducible refine (ih2.out _ hc3).mono ?_); rintro e w4 ⟨⟨b, hb, hlb, rfl⟩, hc4, hg4⟩
        have HE := Lib.hid (lvBytes3 a b 109)
        have zb : b.length ≤ 50000 := by omega
        go_wp2
        go_ret
        refine ⟨⟨109 :: (a ++ b), LvP.two (.inl rfl) ha hb, by rw [hmx]; simp; omega, ?_⟩, hc4, hg1.trans (hg2.trans (hg3.trans hg4))⟩
        rw [← HE.out]
        rfl
      · rcases Nat.lt_or_ge x 2 with hx1 | hx1
        · obtain rfl : x = 1 := by omega
          go_wp2_with fail
          (with_reducible refine (ih2.out _ hc2).mono ?_); rintro e w3 ⟨⟨a, ha, hla, rfl⟩, hc3, hg3⟩
          have za : ((⟨#[105]⟩ : ByteArray) ++ ⟨a.toArray⟩).size ≤ 100000 := by rw [ByteArray.size_append]; simp [ByteArray.size]; omega
          go_wp2_with fail
          (with_reducible refine (ih2.out _ hc3).mono ?_); rintro e w4 ⟨⟨b, hb, hlb, rfl⟩, hc4, hg4⟩
          have HE := Lib.hid (lvBytes3 a b 105)
          have zb : b.length ≤ 50000 := by omega
          go_wp2
          go_ret
          refine ⟨⟨105 :: (a ++ b), LvP.two (.inr rfl) ha hb, by rw [hmx]; simp; omega, ?_⟩, hc4, hg1.trans (hg2.trans (hg3.trans hg4))⟩
          rw [← HE.out]
          rfl
        · have b0 : ((x : Int) == 0) = false := beq_eq_false_iff_ne.2 (by omega)
          have b1 : ((x : Int) == 1) = false := beq_eq_false_iff_ne.2 (by omega)
          go_wp2_with fail
          (with_reducible refine (ih2.out _ hc2).mono ?_); rintro e w3 ⟨⟨a, ha, hla, rfl⟩, hc3, hg3⟩
          have HE := Lib.hid (lvBytes2 a 43)
          have za : a.length ≤ 50000 := by omega
          go_wp2
          go_ret
          refine ⟨⟨43 :: a, LvP.up ha, by rw [hmx]; simp; omega, ?_⟩, hc3, hg1.trans (hg2.trans hg3)⟩
          rw [← HE.out]
          rfl
    · go_wp2_with fail
      (with_reducible refine (fO2.out _ hc1).mono ?_); rintro e w2 ⟨⟨x, rfl⟩, hc2, hg2⟩
      cases x
      · go_wp2
        go_ret
        exact ⟨⟨[122], LvP.z, by rw [hmx]; simp <;> omega, rfl⟩, hc2, hg1.trans hg2⟩
      · go_wp2_with fail
        (with_reducible refine (fB3.out _ hc2).mono ?_); rintro e w4 ⟨⟨x, hx, rfl⟩, hc4, hg4⟩
        go_wp2_with fail
        (with_reducible refine (fD.out x _ (by omega)).mono ?_); rintro e w5 ⟨rfl, hb5⟩
        have hc5 := hc4.below hb5
        have hg5 := grownBy_of_below hb5 (some cb)
        have hs : (UInt8.ofNat (48 + x)).toNat = 48 + x := by simp; omega
        have HL := Lib.hid (LvP.par (d := UInt8.ofNat (48 + x)) (by omega) (by omega))
        have HE := Lib.hid (lvBytes2 [UInt8.ofNat (48 + x)] 117)
        clear hs
        go_wp2
        go_ret
        refine ⟨⟨[117, UInt8.ofNat (48 + x)], HL.out, by rw [hmx]; simp; omega, ?_⟩, hc5, hg1.trans (hg2.trans (hg4.trans hg5))⟩
        rw [← HE.out]
        simp

end Go.Proofs.YtgielbamebjjdaaGreatDoor

namespace Go.Proofs.YtgielbamebjjdaaGreatDoor
set_option maxRecDepth 100000
open Go.ChangeShapes Go.WideShapes Go.ChangeAt Go.RowKit
set_option linter.unusedSimpArgs false

theorem own_weakenS {w : World} {b b' n z : Nat} {e : TypeId} {v : Value} {xs : List Value} (h : w.ownsRow b e z v n xs) (hb : b' ≤ b) : w.ownsRow b' e z v n xs := by
  obtain ⟨h1, h2 | ⟨g, cap, cur, e, h3, h4⟩⟩ := h
  · exact ⟨h1, .inl h2⟩
  · exact ⟨h1, .inr ⟨g, cap, cur, e, Nat.le_trans hb h3, h4⟩⟩
theorem Cur.grownS {w0 w w' : World} {v : Value} {l : List UInt8} {cb : Nat} {row : Option Nat} (h : Cur w0 v l cb w) (hg : w.grownBy w' row) (h1 : row ≠ some cb) (h2 : ∀ k, row = some k → w0.heap.size ≤ k) : Cur w0 v l cb w' := by
  obtain ⟨b1, b2, b3, i, x, b4, c0, c1, c2, z1, z2⟩ := h
  have hb : w'.heap[cb]? = w.heap[cb]? := hg.block cb b3 (fun e => h1 e.symm)
  exact ⟨b1.grown hg b1.size h2, b2, Nat.lt_of_lt_of_le b3 hg.size, i, x, b4, (World.cell?_of_block (a := ⟨cb, 0, none⟩) hb).trans c0, (World.cell?_of_block (a := ⟨cb, 1, none⟩) hb).trans c1, (World.cell?_of_block (a := ⟨cb, 2, none⟩) hb).trans c2, (World.frozen?_of_block (a := ⟨cb, 1, none⟩) hb).trans z1, (World.frozen?_of_block (a := ⟨cb, 2, none⟩) hb).trans z2⟩
/-- One of the strings of a list that is no row of the cursor. -/
theorem drawPick {w0 w : World} {v : Value} {l : List UInt8} {cb : Nat} (hl : CameB w0 v l) (hc : Cur w0 v l cb w) (hn : l.length ≤ 2000000) {b n : Nat} {u : Value} {ls : List (List UInt8)}
    (hr : w.ownsRow b 9 1 u n (ls.map sv)) (hb : cb < b) (h1 : 1 ≤ n) (h2 : n ≤ 256) :
    Calls Tryz.prog 140 #[.pointer (some ⟨cb, 0, none⟩), u] w fun e w' => (∃ x, x ∈ ls ∧ e = .returned (.string ⟨x.toArray⟩)) ∧ Cur w0 v l cb w' ∧ w.grownBy w' (some cb) := by
  have hln : ls.length = n := by simpa using hr.1
  have f1 := Lib.hid (drawBelow hl hc hn n h1 h2)
  obtain ⟨g, cap, rfl, hgb, hgl⟩ := hr.form (by omega)
  have hgc : g ≠ cb := by have := (hr.lt g rfl).1; omega
  clear hl hc
  go_enter Tryz.func140, Tryz.ntmps140
  go_wp2_with fail
  (with_reducible refine f1.out.mono ?_); rintro e w1 ⟨⟨x, hx, rfl⟩, hc1, hg1⟩
  have hr1 := hr.kept hg1 (.inr (by simp [Value.ownBlock]; exact hgc))
  have ex : (ls.map sv)[x]? = some (sv ls[x]) := by simp [show x < ls.length by omega]
  have cc := (hr1.cellAt x (by omega)).trans ex
  unfold sv at cc
  have hm := List.getElem_mem (show x < ls.length by omega)
  have q1 : (0 : Int) ≤ (x : Int) := by omega
  have q2 : (x : Int) < (n : Int) := by omega
  generalize ls[x] = y at cc hm
  have H := Lib.hid (And.intro hc1 hg1)
  clear ex hr hr1 hc1 hg1 f1
  go_wp2
  go_ret
  exact ⟨⟨y, hm, rfl⟩, H.out⟩
def theNames : List (List UInt8) := [[110, 97, 116], [110, 97, 116, 46, 122, 101, 114, 111], [110, 97, 116, 46, 115, 117, 99, 99], [105, 100], [101, 109], [97, 46, 98], [97, 46, 98, 46, 99], [98, 111, 111, 108], [101, 113], [97, 100, 100], [120, 49]]
theorem theNames_ok : ∀ x ∈ theNames, nameOk x = true ∧ x.length ≤ 8 := by decide
theorem drawNameD {w0 : World} {v : Value} {l : List UInt8} {cb : Nat} (hl : CameB w0 v l) (hn : l.length ≤ 2000000) (w : World) (hc : Cur w0 v l cb w) :
    Calls Tryz.prog 101 #[.pointer (some ⟨cb, 0, none⟩)] w fun e w' => (∃ x, x ∈ theNames ∧ nameOk x = true ∧ x.length ≤ 8 ∧ e = .returned (.string ⟨x.toArray⟩)) ∧ Cur w0 v l cb w' ∧ w.grownBy w' (some cb) := by
  have hcw : cb < w.heap.size := hc.2.2.1
  have r0 : (w.alloc (.cells #[.string ⟨#[110, 97, 116]⟩, .string ⟨#[110, 97, 116, 46, 122, 101, 114, 111]⟩, .string ⟨#[110, 97, 116, 46, 115, 117, 99, 99]⟩, .string ⟨#[105, 100]⟩, .string ⟨#[101, 109]⟩, .string ⟨#[97, 46, 98]⟩, .string ⟨#[97, 46, 98, 46, 99]⟩, .string ⟨#[98, 111, 111, 108]⟩, .string ⟨#[101, 113]⟩, .string ⟨#[97, 100, 100]⟩, .string ⟨#[120, 49]⟩] 9)).ownsRow w.heap.size 9 1 (.slice (some ⟨w.heap.size, 0, none⟩) 11 11) 11 (theNames.map sv) := World.ownsRow_lit (base := w.heap.size) (e := 9) (size := 1) w #[.string ⟨#[110, 97, 116]⟩, .string ⟨#[110, 97, 116, 46, 122, 101, 114, 111]⟩, .string ⟨#[110, 97, 116, 46, 115, 117, 99, 99]⟩, .string ⟨#[105, 100]⟩, .string ⟨#[101, 109]⟩, .string ⟨#[97, 46, 98]⟩, .string ⟨#[97, 46, 98, 46, 99]⟩, .string ⟨#[98, 111, 111, 108]⟩, .string ⟨#[101, 113]⟩, .string ⟨#[97, 100, 100]⟩, .string ⟨#[120, 49]⟩] 11 (Nat.le_refl _) (by decide) (by simp)
  have b0 := (Below.refl w.heap.size w).alloc (Nat.le_refl _) (.cells #[.string ⟨#[110, 97, 116]⟩, .string ⟨#[110, 97, 116, 46, 122, 101, 114, 111]⟩, .string ⟨#[110, 97, 116, 46, 115, 117, 99, 99]⟩, .string ⟨#[105, 100]⟩, .string ⟨#[101, 109]⟩, .string ⟨#[97, 46, 98]⟩, .string ⟨#[97, 46, 98, 46, 99]⟩, .string ⟨#[98, 111, 111, 108]⟩, .string ⟨#[101, 113]⟩, .string ⟨#[97, 100, 100]⟩, .string ⟨#[120, 49]⟩] 9)
  have f1 := Lib.hid (drawPick hl (hc.below b0) hn r0 hcw (by decide) (by decide))
  have G0 := Lib.hid (grownBy_of_below b0 (some cb))
  clear r0 b0 hc hl
  go_enter Tryz.func101, Tryz.ntmps101
  go_wp2_with fail
  (with_reducible refine f1.out.mono ?_); rintro e w1 ⟨⟨x, hx, rfl⟩, hc1, hg1⟩
  obtain ⟨h1, h2⟩ := theNames_ok x hx
  have HX := Lib.hid hx
  have H := Lib.hid (And.intro hc1 (G0.out.trans hg1))
  clear hc1 hg1 hx f1 G0
  go_wp2
  go_ret
  exact ⟨⟨x, HX.out, h1, h2, rfl⟩, H.out⟩
theorem drawName {w0 : World} {v : Value} {l : List UInt8} {cb : Nat} (hl : CameB w0 v l) (hn : l.length ≤ 2000000) (w : World) (hc : Cur w0 v l cb w) :
    Calls Tryz.prog 101 #[.pointer (some ⟨cb, 0, none⟩)] w fun e w' => (∃ x, nameOk x = true ∧ x.length ≤ 8 ∧ e = .returned (.string ⟨x.toArray⟩)) ∧ Cur w0 v l cb w' ∧ w.grownBy w' (some cb) :=
  (drawNameD hl hn w hc).mono fun _ _ ⟨⟨x, _, h1, h2, h3⟩, h4⟩ => ⟨⟨x, h1, h2, h3⟩, h4⟩
theorem sort_text (t : List UInt8) : (⟨#[115]⟩ : ByteArray) ++ ⟨t.toArray⟩ ++ ⟨#[46]⟩ = ⟨(Tm.sort t).bytes.toArray⟩ := by
  apply ByteArray.ext
  simp [Tm.bytes]
theorem let_text (a b c : List UInt8) : (⟨#[116]⟩ : ByteArray) ++ ⟨a.toArray⟩ ++ ⟨b.toArray⟩ ++ ⟨c.toArray⟩ = ⟨(116 :: (a ++ (b ++ c))).toArray⟩ := by
  apply ByteArray.ext
  simp
theorem lvsB_le : ∀ {ls : List (List UInt8)}, (∀ y ∈ ls, levelOk y = true ∧ y.length ≤ 5) → (lvsB ls).length ≤ ls.length * 6
  | [], _ => by simp [lvsB]
  | x :: r, h => by
    have h1 := (h x List.mem_cons_self).2
    have h2 := lvsB_le (ls := r) fun y hy => h y (List.mem_cons_of_mem _ hy)
    simp only [lvsB, List.length_append, List.length_cons]
    omega
theorem infoStrT : (Tryz.prog.info? 9).map (fun i => (i.zero, i.size, i.bytes)) = some (some (.string ⟨#[]⟩), 1, 16) := by kernel_rfl
/-- A row above the cursor's block stays while the cursor moves. -/
theorem keep_cur {w w' : World} {b cb n : Nat} {v : Value} {xs : List Value} (h : w.ownsRow b 9 1 v n xs) (hg : w.grownBy w' (some cb)) (hb : cb < b) : w'.ownsRow b 9 1 v n xs :=
  h.kept hg (by
    rcases hv : v.ownBlock with _ | g
    · exact .inl rfl
    · refine .inr fun e => ?_
      have h1 := (h.lt g hv).1
      have h2 : g = cb := by simpa using e
      omega)
def tmMax : Nat → Nat
  | 0 => 30
  | d + 1 => 1 + 3 * tmMax d
theorem tmMax_ge (d : Nat) : 30 ≤ tmMax d := by
  induction d with
  | zero => exact Nat.le_refl _
  | succ d ih => rw [tmMax]; omega
theorem tmMax_le {d : Nat} (h : d ≤ 4) : tmMax d ≤ 3000 := by
  rcases (by omega : d = 0 ∨ d = 1 ∨ d = 2 ∨ d = 3 ∨ d = 4) with rfl | rfl | rfl | rfl | rfl <;> decide
/-- A term as it is drawn: small numbers, names of the list. -/
def Tm.Drawn : Tm → Prop
  | .var n => n ≤ 30
  | .sort _ => True
  | .const n _ => n ∈ theNames
  | .app f x => f.Drawn ∧ x.Drawn
  | .lam d b => d.Drawn ∧ b.Drawn
  | .pi d b => d.Drawn ∧ b.Drawn
  | .lett t v b => t.Drawn ∧ v.Drawn ∧ b.Drawn
theorem Tm.Drawn.lim : ∀ {t : Tm}, t.Drawn → t.Lim 30
  | .var _, h => h
  | .sort _, _ => trivial
  | .const _ _, _ => trivial
  | .app _ _, h => ⟨h.1.lim, h.2.lim⟩
  | .lam _ _, h => ⟨h.1.lim, h.2.lim⟩
  | .pi _ _, h => ⟨h.1.lim, h.2.lim⟩
  | .lett _ _ _, h => ⟨h.1.lim, h.2.1.lim, h.2.2.lim⟩
def TmPostD (w0 : World) (v : Value) (l : List UInt8) (cb M : Nat) (e : Ending) (w' : World) : Prop :=
  (∃ T : Tm, T.Ok ∧ T.Drawn ∧ T.bytes.length ≤ M ∧ e = .returned (.string ⟨T.bytes.toArray⟩)) ∧ Cur w0 v l cb w'

def TmPost (w0 : World) (v : Value) (l : List UInt8) (cb M : Nat) (e : Ending) (w' : World) : Prop :=
  (∃ T : Tm, T.Ok ∧ T.Lim 30 ∧ T.bytes.length ≤ M ∧ e = .returned (.string ⟨T.bytes.toArray⟩)) ∧ Cur w0 v l cb w'

/-- The cursor's world, and what another world had is as it was but for the cursor. -/
def CurG (wk w0 : World) (v : Value) (l : List UInt8) (cb : Nat) (w : World) : Prop := Cur w0 v l cb w ∧ wk.grownBy w (some cb)
theorem grownBy_trans {w w' w'' : World} {row : Option Nat} (h : w.grownBy w' row) (h' : w'.grownBy w'' row) : w.grownBy w'' row :=
  ⟨h'.os.trans h.os, h'.tape.trans h.tape, h'.output.trans h.output, Nat.le_trans h.size h'.size, fun k hk hr => (h'.block k (Nat.lt_of_lt_of_le hk h.size) hr).trans (h.block k hk hr)⟩
theorem CurG.below {wk w0 w w' : World} {v : Value} {l : List UInt8} {cb : Nat} (h : CurG wk w0 v l cb w) (hb : Below w.heap.size w w') : CurG wk w0 v l cb w' :=
  ⟨h.1.below hb, grownBy_trans h.2 (grownBy_of_below hb _)⟩
theorem CurG.grownS {wk w0 w w' : World} {v : Value} {l : List UInt8} {cb : Nat} {row : Option Nat} (h : CurG wk w0 v l cb w) (hg : w.grownBy w' row) (h1 : row ≠ some cb) (h2 : ∀ k, row = some k → w0.heap.size ≤ k) (h3 : ∀ k, row = some k → wk.heap.size ≤ k) : CurG wk w0 v l cb w' :=
  ⟨h.1.grownS hg h1 h2, ⟨hg.os.trans h.2.os, hg.tape.trans h.2.tape, hg.output.trans h.2.output, Nat.le_trans h.2.size hg.size, fun k hk hr => (hg.block k (Nat.lt_of_lt_of_le hk h.2.size) (fun e => by have := h3 k e.symm; omega)).trans (h.2.block k hk hr)⟩⟩
theorem CurG.adapt {wk w0 W : World} {v : Value} {l : List UInt8} {cb : Nat} (hW : CurG wk w0 v l cb W) {f : FuncId} {args : Array Value} {A : Ending → Prop}
    (h : Calls Tryz.prog f args W fun e w' => A e ∧ Cur w0 v l cb w' ∧ W.grownBy w' (some cb)) : Calls Tryz.prog f args W fun e w' => A e ∧ CurG wk w0 v l cb w' ∧ W.grownBy w' (some cb) :=
  h.mono fun _ _ ⟨a, c, g⟩ => ⟨a, ⟨c, grownBy_trans hW.2 g⟩, g⟩
def TmPostG (wk w0 : World) (v : Value) (l : List UInt8) (cb M : Nat) (e : Ending) (w' : World) : Prop :=
  (∃ T : Tm, T.Ok ∧ T.Drawn ∧ T.bytes.length ≤ M ∧ e = .returned (.string ⟨T.bytes.toArray⟩)) ∧ CurG wk w0 v l cb w'
def LvPostG (wk w0 : World) (v : Value) (l : List UInt8) (cb d : Nat) (w : World) (e : Ending) (w' : World) : Prop :=
  (∃ t : List UInt8, LvP t ∧ t.length ≤ lvMax d ∧ e = .returned (.string ⟨t.toArray⟩)) ∧ CurG wk w0 v l cb w' ∧ w.grownBy w' (some cb)

set_option maxHeartbeats 8000000 in
theorem drawTermG {wk w0 : World} {v : Value} {l : List UInt8} {cb : Nat} (hl : CameB w0 v l) (hn : l.length ≤ 2000000) : ∀ (d bn : Nat), d ≤ 4 → bn + d ≤ 20 → ∀ (w : World), CurG wk w0 v l cb w →
    Calls Tryz.prog 51 #[.pointer (some ⟨cb, 0, none⟩), .int .i64 (bn : Int), .int .i64 (d : Int)] w (TmPostG wk w0 v l cb (tmMax d)) := by
  intro d
  obtain ⟨i0, hi, hz0, hz1, hz2⟩ := info_parts infoStrT
  have fO4 : Hid (∀ W, CurG wk w0 v l cb W → Calls Tryz.prog 98 #[.pointer (some ⟨cb, 0, none⟩), .int .i64 4] W fun e w' => (∃ x : Bool, e = .returned (.bool x)) ∧ CurG wk w0 v l cb w' ∧ W.grownBy w' (some cb)) := fun W hW => hW.adapt (drawOnce hl hW.1 hn 4 (by decide) (by decide))
  have fB3 : Hid (∀ W, CurG wk w0 v l cb W → Calls Tryz.prog 53 #[.pointer (some ⟨cb, 0, none⟩), .int .i64 3] W fun e w' => (∃ x : Nat, x < 3 ∧ e = .returned (.int .i64 x)) ∧ CurG wk w0 v l cb w' ∧ W.grownBy w' (some cb)) := fun W hW => hW.adapt (drawBelow hl hW.1 hn 3 (by decide) (by decide))
  have fB4 : Hid (∀ W, CurG wk w0 v l cb W → Calls Tryz.prog 53 #[.pointer (some ⟨cb, 0, none⟩), .int .i64 4] W fun e w' => (∃ x : Nat, x < 4 ∧ e = .returned (.int .i64 x)) ∧ CurG wk w0 v l cb w' ∧ W.grownBy w' (some cb)) := fun W hW => hW.adapt (drawBelow hl hW.1 hn 4 (by decide) (by decide))
  have fB7 : Hid (∀ W, CurG wk w0 v l cb W → Calls Tryz.prog 53 #[.pointer (some ⟨cb, 0, none⟩), .int .i64 7] W fun e w' => (∃ x : Nat, x < 7 ∧ e = .returned (.int .i64 x)) ∧ CurG wk w0 v l cb w' ∧ W.grownBy w' (some cb)) := fun W hW => hW.adapt (drawBelow hl hW.1 hn 7 (by decide) (by decide))
  have gBv : Hid (∀ bn : Nat, bn ≤ 20 → ∀ W, CurG wk w0 v l cb W → Calls Tryz.prog 53 #[.pointer (some ⟨cb, 0, none⟩), .int .i64 ((bn : Int) + 2)] W fun e w' => (∃ x : Nat, x < bn + 2 ∧ e = .returned (.int .i64 x)) ∧ CurG wk w0 v l cb w' ∧ W.grownBy w' (some cb)) := fun bn hbn W hW => by
    have := hW.adapt (drawBelow hl hW.1 hn (bn + 2) (by omega) (by omega))
    rw [show ((bn + 2 : Nat) : Int) = (bn : Int) + 2 by omega] at this
    exact this
  have fL2 : Hid (∀ W, CurG wk w0 v l cb W → Calls Tryz.prog 99 #[.pointer (some ⟨cb, 0, none⟩), .int .i64 2, .int .i64 2] W (LvPostG wk w0 v l cb 2 W)) := fun W hW => hW.adapt (drawLevel hl hn 2 (by decide) (by decide) 2 (by decide) W hW.1)
  have fL1 : Hid (∀ W, CurG wk w0 v l cb W → Calls Tryz.prog 99 #[.pointer (some ⟨cb, 0, none⟩), .int .i64 2, .int .i64 1] W (LvPostG wk w0 v l cb 1 W)) := fun W hW => hW.adapt (drawLevel hl hn 2 (by decide) (by decide) 1 (by decide) W hW.1)
  have fN := Lib.hid fun W (hW : CurG wk w0 v l cb W) => hW.adapt (drawNameD hl hn W hW.1)
  have fV := Lib.hid specVar
  clear hl hn
  induction d with
  | zero =>
    intro bn _ hbn w hc
    have fBv := Lib.hid (gBv.out bn (by omega))
    have hC := Lib.hid hc
    have hM : tmMax 0 = 30 := rfl
    generalize tmMax 0 = M at hM
    clear hc gBv
    go_enter Tryz.func51, Tryz.ntmps51
    go_wp2_with fail
    (with_reducible refine (fB4.out _ hC.out).mono ?_); rintro e wa ⟨⟨x, hx, rfl⟩, hca, _⟩
    rcases Nat.lt_or_ge x 1 with hx0 | hx0
    · obtain rfl : x = 0 := by omega
      go_wp2_with fail
      (with_reducible refine (fL2.out _ hca).mono ?_); rintro e wb ⟨⟨t, ht, hlt, rfl⟩, hcb, _⟩
      have HE := Lib.hid (sort_text t)
      have zt : t.length ≤ 11 := hlt
      have HT := Lib.hid (ht.run.ok (by omega))
      have HCB := Lib.hid hcb
      clear ht hlt hcb hca
      go_wp2
      go_ret
      refine ⟨⟨.sort t, HT.out, trivial, by simp only [Tm.bytes, List.length_cons, List.length_append, List.length_nil]; omega, ?_⟩, HCB.out⟩
      rw [← HE.out]
      rfl
    have b0 : ((x : Int) == 0) = false := beq_eq_false_iff_ne.2 (by omega)
    rcases Nat.lt_or_ge x 2 with hx1 | hx1
    · obtain rfl : x = 1 := by omega
      have hcw : cb < wa.heap.size := hca.1.2.2.1
      have hwk : wk.heap.size ≤ wa.heap.size := hca.2.size
      have r0 := World.ownsRow_lit (base := wa.heap.size) (e := 9) (size := 1) wa #[] 0 (Nat.le_refl _) (by decide) (by simp)
      have bb0 := (Below.refl wa.heap.size wa).alloc (Nat.le_refl _) (.cells #[] 9)
      have hc3 := hca.below bb0
      have hz0 := bb0.size
      clear bb0
      go_wp2
      go_loopw [7, 8] (fun vo i wr => ∃ (k : Nat) (ls : List (List UInt8)), k ≤ 2 ∧ ls.length = k ∧ i = .int .i64 k ∧ wr.ownsRow wa.heap.size 9 1 vo ls.length (ls.map sv) ∧ CurG wk w0 v l cb wr ∧ wa.heap.size ≤ wr.heap.size ∧ Hid (∀ y ∈ ls, levelOk y = true ∧ y.length ≤ 5)) (fun _ i _ => 2 - (intOf i).toNat)
      case atStart => exact ⟨0, [], by omega, rfl, rfl, r0, hc3, hz0, fun x hx => absurd hx (by simp)⟩
      case round =>
        obtain ⟨k, ls, hk, hp, rfl, hown, hcr, hzz, HP⟩ := hrel
        clear r0 hc3 hz0 hca
        go_wp2_with fail
        (with_reducible refine (fB3.out _ hcr).mono ?_); rintro e w3 ⟨⟨y, hy, rfl⟩, hc3, hg3⟩
        have hown3 := keep_cur hown hg3 hcw
        have z3 : wa.heap.size ≤ w3.heap.size := Nat.le_trans hzz hg3.size
        clear hown hg3 hcr
        by_cases hky : k < y
        · have d1 : decide ((k : Int) < (y : Int)) = true := decide_eq_true (by omega)
          have d1n : decide (k < y) = true := decide_eq_true hky
          go_wp2_with fail
          (with_reducible refine (fL1.out _ hc3).mono ?_); rintro e w4 ⟨⟨t, ht, hlt, rfl⟩, hc4, hg4⟩
          have zt : t.length ≤ 5 := hlt
          have HT := Lib.hid (ht.run.ok (by omega))
          have hown4 := keep_cur hown3 hg4 hcw
          have z4 : wa.heap.size ≤ w4.heap.size := Nat.le_trans z3 hg4.size
          clear ht hlt hown3 hc3 hg4
          go_wp2_with (at_builtin; refine wpList_append_own _ rfl _ _ 25 rfl wa.heap.size 9 i0 _ 1 16 Tryz.underlying25 hi hz0 hz1 hz2 rfl (by decide) _ _ _ rfl (hown4.alloc _) ⟨_, 0, none⟩ 1 1 [.string ⟨t.toArray⟩] rfl rfl (oneNew _ _ _) (by simp [Value.oneCell']) (by simp only [maxLen]; omega) (by omega) (by simp; omega) ?_; intro v1 w5 hown5 hg5 _)
          have hlo : ∀ g, u7.ownBlock = some g → wa.heap.size ≤ g := fun g hg => (hown4.lt g hg).1
          have hc5 := (hc4.below ((Below.refl w4.heap.size w4).alloc (Nat.le_refl _) (.cells #[.string ⟨t.toArray⟩] 9))).grownS hg5 (fun e => by have := hlo cb e; omega) (fun g hg => by have := hlo g hg; have := hc4.1.2.1; omega) (fun g hg => by have := hlo g hg; omega)
          have HP2 : Hid (∀ y ∈ ls ++ [t], levelOk y = true ∧ y.length ≤ 5) := fun y hy => by
            rcases List.mem_append.1 hy with h | h
            · exact HP.out y h
            · simp only [List.mem_cons, List.not_mem_nil, or_false] at h
              subst h
              exact ⟨HT.out, zt⟩
          have z5 : wa.heap.size ≤ w5.heap.size := by have := hg5.size; simp at this; omega
          clear hown4 hc4 hg5 HP hlo
          go_wp2
          go_roundw
          case rel => exact ⟨k + 1, ls ++ [t], by omega, by simp [hp], by go_num, by simpa [sv] using hown5, hc5, z5, HP2.out⟩
          case measure => simp [intOf]; omega
        · have d1 : decide ((k : Int) < (y : Int)) = false := decide_eq_false (by omega)
          have d1n : decide (k < y) = false := decide_eq_false hky
          go_wp2_with fail
          (with_reducible refine (fN.out _ hc3).mono ?_); rintro e w4 ⟨⟨nm, hnt, hnm, hnl, rfl⟩, hc4, hg4⟩
          have hown4 := keep_cur hown3 hg4 hcw
          have hzl := lvsB_le HP.out
          have zl : (lvsB ls).length ≤ 12 := by
            have : ls.length * 6 ≤ 12 := by omega
            omega
          have znm : (⟨nm.toArray⟩ : ByteArray).size ≤ 10000000 := by show nm.length ≤ _; omega
          have fC := Lib.hid (specConst ⟨nm.toArray⟩ hown4 (by omega) znm (by omega))
          have HT : Hid ((Tm.const nm ls).Ok) := ⟨hnm, by omega, fun y hy => (HP.out y hy).1⟩
          have HC4 := Lib.hid hc4
          have HNT := Lib.hid hnt
          have HB : Hid ((Tm.const nm ls).bytes.length ≤ 23) := by
            rw [Hid]
            simp only [Tm.bytes, List.length_cons, List.length_append, List.length_nil]
            omega
          clear hown3 hown4 hc3 hc4 hg4 HP hnm hnt hzl
          go_wp2_with fail
          (with_reducible refine fC.out.mono ?_); rintro e w5 ⟨rfl, rfl⟩
          go_wp2
          go_ret
          exact ⟨⟨.const nm ls, HT.out, HNT.out, by have := HB.out; omega, rfl⟩, HC4.out⟩
    have b1 : ((x : Int) == 1) = false := beq_eq_false_iff_ne.2 (by omega)
    go_wp2_with fail
    (with_reducible refine (fBv.out _ hca).mono ?_); rintro e wb ⟨⟨y, hy, rfl⟩, hcb, _⟩
    go_wp2_with fail
    (with_reducible refine (fV.out y _ (by omega)).mono ?_); rintro e wc ⟨rfl, hbc⟩
    have HCB := Lib.hid (hcb.below hbc)
    have HB : Hid ((Tm.var y).bytes.length ≤ 12) := by
      have hd : (Lib.decDigits y).length ≤ 10 := digits_len (by omega)
      rw [Hid]
      simp only [Tm.bytes, List.length_cons, List.length_append, List.length_nil]
      omega
    clear hcb hbc hca
    go_wp2
    go_ret
    exact ⟨⟨.var y, show y ≤ 999 by omega, show y ≤ 30 by omega, by have := HB.out; omega, rfl⟩, HCB.out⟩
  | succ d ih =>
    intro bn hd hbn w hc
    have fBv := Lib.hid (gBv.out bn (by omega))
    have hmx : tmMax (d + 1) = 1 + 3 * tmMax d := rfl
    have hge := tmMax_ge d
    have hcap := tmMax_le (show d ≤ 4 by omega)
    have ih1 := Lib.hid ih
    clear ih gBv
    generalize hnn : d + 1 = n at hmx ⊢
    generalize tmMax n = M at hmx ⊢
    have ih2 : Hid (∀ W, CurG wk w0 v l cb W → Calls Tryz.prog 51 #[.pointer (some ⟨cb, 0, none⟩), .int .i64 (bn : Int), .int .i64 ((n : Int) - 1)] W (TmPostG wk w0 v l cb (tmMax d))) := fun W hW => by
      rw [show (n : Int) - 1 = (d : Int) by omega]
      exact ih1.out bn (by omega) (by omega) W hW
    have ih3 : Hid (∀ W, CurG wk w0 v l cb W → Calls Tryz.prog 51 #[.pointer (some ⟨cb, 0, none⟩), .int .i64 ((bn : Int) + 1), .int .i64 ((n : Int) - 1)] W (TmPostG wk w0 v l cb (tmMax d))) := fun W hW => by
      rw [show (n : Int) - 1 = (d : Int) by omega, show (bn : Int) + 1 = ((bn + 1 : Nat) : Int) by omega]
      exact ih1.out (bn + 1) (by omega) (by omega) W hW
    generalize tmMax d = m at hmx hge hcap ih2 ih3
    clear ih1
    have d0 : decide ((n : Int) ≤ 0) = false := decide_eq_false (by omega)
    have hC := Lib.hid hc
    clear hc
    go_enter Tryz.func51, Tryz.ntmps51
    go_wp2_with fail
    (with_reducible refine (fO4.out _ hC.out).mono ?_); rintro e w1 ⟨⟨y, rfl⟩, hc1, _⟩
    cases y
    rotate_left
    · clear ih2 ih3 fO4
      go_wp2_with fail
      (with_reducible refine (fB4.out _ hc1).mono ?_); rintro e wa ⟨⟨x, hx, rfl⟩, hca, _⟩
      rcases Nat.lt_or_ge x 1 with hx0 | hx0
      · obtain rfl : x = 0 := by omega
        go_wp2_with fail
        (with_reducible refine (fL2.out _ hca).mono ?_); rintro e wb ⟨⟨t, ht, hlt, rfl⟩, hcb, _⟩
        have HE := Lib.hid (sort_text t)
        have zt : t.length ≤ 11 := hlt
        have HT := Lib.hid (ht.run.ok (by omega))
        have HCB := Lib.hid hcb
        clear ht hlt hcb hca
        go_wp2
        go_ret
        refine ⟨⟨.sort t, HT.out, trivial, by simp only [Tm.bytes, List.length_cons, List.length_append, List.length_nil]; omega, ?_⟩, HCB.out⟩
        rw [← HE.out]
        rfl
      have b0 : ((x : Int) == 0) = false := beq_eq_false_iff_ne.2 (by omega)
      rcases Nat.lt_or_ge x 2 with hx1 | hx1
      · obtain rfl : x = 1 := by omega
        have hcw : cb < wa.heap.size := hca.1.2.2.1
        have hwk : wk.heap.size ≤ wa.heap.size := hca.2.size
        have r0 := World.ownsRow_lit (base := wa.heap.size) (e := 9) (size := 1) wa #[] 0 (Nat.le_refl _) (by decide) (by simp)
        have bb0 := (Below.refl wa.heap.size wa).alloc (Nat.le_refl _) (.cells #[] 9)
        have hc3 := hca.below bb0
        have hz0 := bb0.size
        clear bb0
        go_wp2
        go_loopw [7, 8] (fun vo i wr => ∃ (k : Nat) (ls : List (List UInt8)), k ≤ 2 ∧ ls.length = k ∧ i = .int .i64 k ∧ wr.ownsRow wa.heap.size 9 1 vo ls.length (ls.map sv) ∧ CurG wk w0 v l cb wr ∧ wa.heap.size ≤ wr.heap.size ∧ Hid (∀ y ∈ ls, levelOk y = true ∧ y.length ≤ 5)) (fun _ i _ => 2 - (intOf i).toNat)
        case atStart => exact ⟨0, [], by omega, rfl, rfl, r0, hc3, hz0, fun x hx => absurd hx (by simp)⟩
        case round =>
          obtain ⟨k, ls, hk, hp, rfl, hown, hcr, hzz, HP⟩ := hrel
          clear r0 hc3 hz0 hca
          go_wp2_with fail
          (with_reducible refine (fB3.out _ hcr).mono ?_); rintro e w3 ⟨⟨y, hy, rfl⟩, hc3, hg3⟩
          have hown3 := keep_cur hown hg3 hcw
          have z3 : wa.heap.size ≤ w3.heap.size := Nat.le_trans hzz hg3.size
          clear hown hg3 hcr
          by_cases hky : k < y
          · have d1 : decide ((k : Int) < (y : Int)) = true := decide_eq_true (by omega)
            have d1n : decide (k < y) = true := decide_eq_true hky
            go_wp2_with fail
            (with_reducible refine (fL1.out _ hc3).mono ?_); rintro e w4 ⟨⟨t, ht, hlt, rfl⟩, hc4, hg4⟩
            have zt : t.length ≤ 5 := hlt
            have HT := Lib.hid (ht.run.ok (by omega))
            have hown4 := keep_cur hown3 hg4 hcw
            have z4 : wa.heap.size ≤ w4.heap.size := Nat.le_trans z3 hg4.size
            clear ht hlt hown3 hc3 hg4
            go_wp2_with (at_builtin; refine wpList_append_own _ rfl _ _ 25 rfl wa.heap.size 9 i0 _ 1 16 Tryz.underlying25 hi hz0 hz1 hz2 rfl (by decide) _ _ _ rfl (hown4.alloc _) ⟨_, 0, none⟩ 1 1 [.string ⟨t.toArray⟩] rfl rfl (oneNew _ _ _) (by simp [Value.oneCell']) (by simp only [maxLen]; omega) (by omega) (by simp; omega) ?_; intro v1 w5 hown5 hg5 _)
            have hlo : ∀ g, u7.ownBlock = some g → wa.heap.size ≤ g := fun g hg => (hown4.lt g hg).1
            have hc5 := (hc4.below ((Below.refl w4.heap.size w4).alloc (Nat.le_refl _) (.cells #[.string ⟨t.toArray⟩] 9))).grownS hg5 (fun e => by have := hlo cb e; omega) (fun g hg => by have := hlo g hg; have := hc4.1.2.1; omega) (fun g hg => by have := hlo g hg; omega)
            have HP2 : Hid (∀ y ∈ ls ++ [t], levelOk y = true ∧ y.length ≤ 5) := fun y hy => by
              rcases List.mem_append.1 hy with h | h
              · exact HP.out y h
              · simp only [List.mem_cons, List.not_mem_nil, or_false] at h
                subst h
                exact ⟨HT.out, zt⟩
            have z5 : wa.heap.size ≤ w5.heap.size := by have := hg5.size; simp at this; omega
            clear hown4 hc4 hg5 HP hlo
            go_wp2
            go_roundw
            case rel => exact ⟨k + 1, ls ++ [t], by omega, by simp [hp], by go_num, by simpa [sv] using hown5, hc5, z5, HP2.out⟩
            case measure => simp [intOf]; omega
          · have d1 : decide ((k : Int) < (y : Int)) = false := decide_eq_false (by omega)
            have d1n : decide (k < y) = false := decide_eq_false hky
            go_wp2_with fail
            (with_reducible refine (fN.out _ hc3).mono ?_); rintro e w4 ⟨⟨nm, hnt, hnm, hnl, rfl⟩, hc4, hg4⟩
            have hown4 := keep_cur hown3 hg4 hcw
            have hzl := lvsB_le HP.out
            have zl : (lvsB ls).length ≤ 12 := by
              have : ls.length * 6 ≤ 12 := by omega
              omega
            have znm : (⟨nm.toArray⟩ : ByteArray).size ≤ 10000000 := by show nm.length ≤ _; omega
            have fC := Lib.hid (specConst ⟨nm.toArray⟩ hown4 (by omega) znm (by omega))
            have HT : Hid ((Tm.const nm ls).Ok) := ⟨hnm, by omega, fun y hy => (HP.out y hy).1⟩
            have HC4 := Lib.hid hc4
            have HNT := Lib.hid hnt
            have HB : Hid ((Tm.const nm ls).bytes.length ≤ 23) := by
              rw [Hid]
              simp only [Tm.bytes, List.length_cons, List.length_append, List.length_nil]
              omega
            clear hown3 hown4 hc3 hc4 hg4 HP hnm hnt hzl
            go_wp2_with fail
            (with_reducible refine fC.out.mono ?_); rintro e w5 ⟨rfl, rfl⟩
            go_wp2
            go_ret
            exact ⟨⟨.const nm ls, HT.out, HNT.out, by have := HB.out; omega, rfl⟩, HC4.out⟩
      have b1 : ((x : Int) == 1) = false := beq_eq_false_iff_ne.2 (by omega)
      go_wp2_with fail
      (with_reducible refine (fBv.out _ hca).mono ?_); rintro e wb ⟨⟨y, hy, rfl⟩, hcb, _⟩
      go_wp2_with fail
      (with_reducible refine (fV.out y _ (by omega)).mono ?_); rintro e wc ⟨rfl, hbc⟩
      have HCB := Lib.hid (hcb.below hbc)
      have HB : Hid ((Tm.var y).bytes.length ≤ 12) := by
        have hd : (Lib.decDigits y).length ≤ 10 := digits_len (by omega)
        rw [Hid]
        simp only [Tm.bytes, List.length_cons, List.length_append, List.length_nil]
        omega
      clear hcb hbc hca
      go_wp2
      go_ret
      exact ⟨⟨.var y, show y ≤ 999 by omega, show y ≤ 30 by omega, by have := HB.out; omega, rfl⟩, HCB.out⟩
    clear fB3 fB4 fBv fL2 fL1 fN fV fO4
    go_wp2_with fail
    (with_reducible refine (ih2.out _ hc1).mono ?_); rintro e w2 ⟨⟨A, hA, hLA, hlA, rfl⟩, hc2⟩
    have zA0 : (⟨A.bytes.toArray⟩ : ByteArray).size ≤ 100000 := by show A.bytes.length ≤ _; omega
    clear hc1
    go_wp2_with fail
    (with_reducible refine (fB7.out _ hc2).mono ?_); rintro e w3 ⟨⟨x, hx, rfl⟩, hc3, _⟩
    clear hc2
    rcases (by omega : x = 0 ∨ x = 1 ∨ x = 2 ∨ x = 3 ∨ x = 4 ∨ x = 5 ∨ x = 6) with rfl | rfl | rfl | rfl | rfl | rfl | rfl
    · go_wp2_with fail
      (with_reducible refine (ih2.out _ hc3).mono ?_); rintro e w4 ⟨⟨B, hB, hLB, hlB, rfl⟩, hc4⟩
      have HE := Lib.hid (lvBytes3 A.bytes B.bytes 64)
      have zB : (⟨B.bytes.toArray⟩ : ByteArray).size ≤ 100000 := by show B.bytes.length ≤ _; omega
      have HT : Hid ((Tm.app A B).Ok) := ⟨hA, hB⟩
      have HL : Hid ((Tm.app A B).Drawn) := ⟨hLA, hLB⟩
      have HB : Hid ((Tm.app A B).bytes.length ≤ M) := by
        rw [Hid]
        simp only [Tm.bytes, List.length_cons, List.length_append]
        omega
      have zA : ((⟨#[64]⟩ : ByteArray) ++ ⟨A.bytes.toArray⟩).size ≤ 200000 := by rw [ByteArray.size_append]; show 1 + A.bytes.length ≤ _; omega
      have HC4 := Lib.hid hc4
      clear hc3 hc4 hlB hB hLB
      go_wp2
      go_ret
      refine ⟨⟨.app A B, HT.out, HL.out, HB.out, ?_⟩, HC4.out⟩
      rw [show (Tm.app A B).bytes = 64 :: (A.bytes ++ B.bytes) from rfl, ← HE.out]
      rfl
    · go_wp2_with fail
      (with_reducible refine (ih2.out _ hc3).mono ?_); rintro e w4 ⟨⟨B, hB, hLB, hlB, rfl⟩, hc4⟩
      have HE := Lib.hid (lvBytes3 A.bytes B.bytes 64)
      have zB : (⟨B.bytes.toArray⟩ : ByteArray).size ≤ 100000 := by show B.bytes.length ≤ _; omega
      have HT : Hid ((Tm.app A B).Ok) := ⟨hA, hB⟩
      have HL : Hid ((Tm.app A B).Drawn) := ⟨hLA, hLB⟩
      have HB : Hid ((Tm.app A B).bytes.length ≤ M) := by
        rw [Hid]
        simp only [Tm.bytes, List.length_cons, List.length_append]
        omega
      have zA : ((⟨#[64]⟩ : ByteArray) ++ ⟨A.bytes.toArray⟩).size ≤ 200000 := by rw [ByteArray.size_append]; show 1 + A.bytes.length ≤ _; omega
      have HC4 := Lib.hid hc4
      clear hc3 hc4 hlB hB hLB
      go_wp2
      go_ret
      refine ⟨⟨.app A B, HT.out, HL.out, HB.out, ?_⟩, HC4.out⟩
      rw [show (Tm.app A B).bytes = 64 :: (A.bytes ++ B.bytes) from rfl, ← HE.out]
      rfl
    · go_wp2_with fail
      (with_reducible refine (ih2.out _ hc3).mono ?_); rintro e w4 ⟨⟨B, hB, hLB, hlB, rfl⟩, hc4⟩
      have HE := Lib.hid (lvBytes3 A.bytes B.bytes 64)
      have zB : (⟨B.bytes.toArray⟩ : ByteArray).size ≤ 100000 := by show B.bytes.length ≤ _; omega
      have HT : Hid ((Tm.app A B).Ok) := ⟨hA, hB⟩
      have HL : Hid ((Tm.app A B).Drawn) := ⟨hLA, hLB⟩
      have HB : Hid ((Tm.app A B).bytes.length ≤ M) := by
        rw [Hid]
        simp only [Tm.bytes, List.length_cons, List.length_append]
        omega
      have zA : ((⟨#[64]⟩ : ByteArray) ++ ⟨A.bytes.toArray⟩).size ≤ 200000 := by rw [ByteArray.size_append]; show 1 + A.bytes.length ≤ _; omega
      have HC4 := Lib.hid hc4
      clear hc3 hc4 hlB hB hLB
      go_wp2
      go_ret
      refine ⟨⟨.app A B, HT.out, HL.out, HB.out, ?_⟩, HC4.out⟩
      rw [show (Tm.app A B).bytes = 64 :: (A.bytes ++ B.bytes) from rfl, ← HE.out]
      rfl
    · go_wp2_with fail
      (with_reducible refine (ih3.out _ hc3).mono ?_); rintro e w4 ⟨⟨B, hB, hLB, hlB, rfl⟩, hc4⟩
      have HE := Lib.hid (lvBytes3 A.bytes B.bytes 112)
      have zB : (⟨B.bytes.toArray⟩ : ByteArray).size ≤ 100000 := by show B.bytes.length ≤ _; omega
      have HT : Hid ((Tm.pi A B).Ok) := ⟨hA, hB⟩
      have HL : Hid ((Tm.pi A B).Drawn) := ⟨hLA, hLB⟩
      have HB : Hid ((Tm.pi A B).bytes.length ≤ M) := by
        rw [Hid]
        simp only [Tm.bytes, List.length_cons, List.length_append]
        omega
      have zA : ((⟨#[112]⟩ : ByteArray) ++ ⟨A.bytes.toArray⟩).size ≤ 200000 := by rw [ByteArray.size_append]; show 1 + A.bytes.length ≤ _; omega
      have HC4 := Lib.hid hc4
      clear hc3 hc4 hlB hB hLB
      go_wp2
      go_ret
      refine ⟨⟨.pi A B, HT.out, HL.out, HB.out, ?_⟩, HC4.out⟩
      rw [show (Tm.pi A B).bytes = 112 :: (A.bytes ++ B.bytes) from rfl, ← HE.out]
      rfl
    · go_wp2_with fail
      (with_reducible refine (ih2.out _ hc3).mono ?_); rintro e w4 ⟨⟨V, hV, hLV, hlV, rfl⟩, hc4⟩
      have zA : ((⟨#[116]⟩ : ByteArray) ++ ⟨A.bytes.toArray⟩).size ≤ 200000 := by rw [ByteArray.size_append]; show 1 + A.bytes.length ≤ _; omega
      have zV : (⟨V.bytes.toArray⟩ : ByteArray).size ≤ 100000 := by show V.bytes.length ≤ _; omega
      have zAV : ((⟨#[116]⟩ : ByteArray) ++ ⟨A.bytes.toArray⟩ ++ ⟨V.bytes.toArray⟩).size ≤ 300000 := by rw [ByteArray.size_append]; omega
      clear hc3
      go_wp2_with fail
      (with_reducible refine (ih3.out _ hc4).mono ?_); rintro e w5 ⟨⟨B, hB, hLB, hlB, rfl⟩, hc5⟩
      have HE := Lib.hid (let_text A.bytes V.bytes B.bytes)
      have zB : (⟨B.bytes.toArray⟩ : ByteArray).size ≤ 100000 := by show B.bytes.length ≤ _; omega
      have HT : Hid ((Tm.lett A V B).Ok) := ⟨hA, hV, hB⟩
      have HL : Hid ((Tm.lett A V B).Drawn) := ⟨hLA, hLV, hLB⟩
      have HB : Hid ((Tm.lett A V B).bytes.length ≤ M) := by
        rw [Hid]
        simp only [Tm.bytes, List.length_cons, List.length_append]
        omega
      have HC5 := Lib.hid hc5
      clear hc4 hc5 hlB hB hlV hV hLV hLB
      go_wp2
      go_ret
      refine ⟨⟨.lett A V B, HT.out, HL.out, HB.out, ?_⟩, HC5.out⟩
      rw [show (Tm.lett A V B).bytes = 116 :: (A.bytes ++ (V.bytes ++ B.bytes)) from rfl, ← HE.out]
      rfl
    · go_wp2_with fail
      (with_reducible refine (ih3.out _ hc3).mono ?_); rintro e w4 ⟨⟨B, hB, hLB, hlB, rfl⟩, hc4⟩
      have HE := Lib.hid (lvBytes3 A.bytes B.bytes 108)
      have zB : (⟨B.bytes.toArray⟩ : ByteArray).size ≤ 100000 := by show B.bytes.length ≤ _; omega
      have HT : Hid ((Tm.lam A B).Ok) := ⟨hA, hB⟩
      have HL : Hid ((Tm.lam A B).Drawn) := ⟨hLA, hLB⟩
      have HB : Hid ((Tm.lam A B).bytes.length ≤ M) := by
        rw [Hid]
        simp only [Tm.bytes, List.length_cons, List.length_append]
        omega
      have zA : ((⟨#[108]⟩ : ByteArray) ++ ⟨A.bytes.toArray⟩).size ≤ 200000 := by rw [ByteArray.size_append]; show 1 + A.bytes.length ≤ _; omega
      have HC4 := Lib.hid hc4
      clear hc3 hc4 hlB hB hLB
      go_wp2
      go_ret
      refine ⟨⟨.lam A B, HT.out, HL.out, HB.out, ?_⟩, HC4.out⟩
      rw [show (Tm.lam A B).bytes = 108 :: (A.bytes ++ B.bytes) from rfl, ← HE.out]
      rfl
    · go_wp2_with fail
      (with_reducible refine (ih3.out _ hc3).mono ?_); rintro e w4 ⟨⟨B, hB, hLB, hlB, rfl⟩, hc4⟩
      have HE := Lib.hid (lvBytes3 A.bytes B.bytes 108)
      have zB : (⟨B.bytes.toArray⟩ : ByteArray).size ≤ 100000 := by show B.bytes.length ≤ _; omega
      have HT : Hid ((Tm.lam A B).Ok) := ⟨hA, hB⟩
      have HL : Hid ((Tm.lam A B).Drawn) := ⟨hLA, hLB⟩
      have HB : Hid ((Tm.lam A B).bytes.length ≤ M) := by
        rw [Hid]
        simp only [Tm.bytes, List.length_cons, List.length_append]
        omega
      have zA : ((⟨#[108]⟩ : ByteArray) ++ ⟨A.bytes.toArray⟩).size ≤ 200000 := by rw [ByteArray.size_append]; show 1 + A.bytes.length ≤ _; omega
      have HC4 := Lib.hid hc4
      clear hc3 hc4 hlB hB hLB
      go_wp2
      go_ret
      refine ⟨⟨.lam A B, HT.out, HL.out, HB.out, ?_⟩, HC4.out⟩
      rw [show (Tm.lam A B).bytes = 108 :: (A.bytes ++ B.bytes) from rfl, ← HE.out]
      rfl

theorem drawTermK {w0 : World} {v : Value} {l : List UInt8} {cb : Nat} (hl : CameB w0 v l) (hn : l.length ≤ 2000000) (d bn : Nat) (h1 : d ≤ 4) (h2 : bn + d ≤ 20) (w : World) (hc : Cur w0 v l cb w) :
    Calls Tryz.prog 51 #[.pointer (some ⟨cb, 0, none⟩), .int .i64 (bn : Int), .int .i64 (d : Int)] w fun e w' => (∃ T : Tm, T.Ok ∧ T.Drawn ∧ T.bytes.length ≤ tmMax d ∧ e = .returned (.string ⟨T.bytes.toArray⟩)) ∧ Cur w0 v l cb w' ∧ w.grownBy w' (some cb) :=
  (drawTermG hl hn d bn h1 h2 w ⟨hc, grownBy_of_below (Below.refl _ _) _⟩).mono fun _ _ ⟨a, b, c⟩ => ⟨a, b, c⟩
theorem drawTermD {w0 : World} {v : Value} {l : List UInt8} {cb : Nat} (hl : CameB w0 v l) (hn : l.length ≤ 2000000) : ∀ (d bn : Nat), d ≤ 4 → bn + d ≤ 20 → ∀ (w : World), Cur w0 v l cb w →
    Calls Tryz.prog 51 #[.pointer (some ⟨cb, 0, none⟩), .int .i64 (bn : Int), .int .i64 (d : Int)] w (TmPostD w0 v l cb (tmMax d)) :=
  fun d bn h1 h2 w hc => (drawTermK hl hn d bn h1 h2 w hc).mono fun _ _ ⟨a, b, _⟩ => ⟨a, b⟩
theorem drawTerm {w0 : World} {v : Value} {l : List UInt8} {cb : Nat} (hl : CameB w0 v l) (hn : l.length ≤ 2000000) : ∀ (d bn : Nat), d ≤ 4 → bn + d ≤ 20 → ∀ (w : World), Cur w0 v l cb w →
    Calls Tryz.prog 51 #[.pointer (some ⟨cb, 0, none⟩), .int .i64 (bn : Int), .int .i64 (d : Int)] w (TmPost w0 v l cb (tmMax d)) :=
  fun d bn h1 h2 w hc => (drawTermD hl hn d bn h1 h2 w hc).mono fun _ _ ⟨⟨T, k1, k2, k3, k4⟩, k5⟩ => ⟨⟨T, k1, k2.lim, k3, k4⟩, k5⟩
end Go.Proofs.YtgielbamebjjdaaGreatDoor

namespace Go.Proofs.YtgielbamebjjdaaGreatDoor
set_option maxRecDepth 100000
open Go.ChangeShapes Go.WideShapes Go.ChangeAt Go.RowKit
set_option linter.unusedSimpArgs false

/-- What DrawList answers: up to three terms. -/
def TlRes (w : World) (e : Ending) (w' : World) : Prop :=
  ∃ (v : Value) (ls : List Tm), ls.length ≤ 3 ∧ (∀ y ∈ ls, y.Ok ∧ y.Drawn ∧ y.bytes.length ≤ 274) ∧ e = .returned v ∧ w'.ownsRow w.heap.size 9 1 v ls.length (ls.map fun p => sv p.bytes) ∧ Below w.heap.size w w'
set_option maxHeartbeats 2000000 in
theorem drawList {w : World} {v : Value} {l : List UInt8} (hl : CameB w v l) (hn : l.length ≤ 2000000) :
    Calls Tryz.prog 14 #[v] w (TlRes w) := by
  have f1 := Lib.hid (drawNew hl hn)
  have fB : Hid (∀ cb W, Cur w v l cb W → Calls Tryz.prog 53 #[.pointer (some ⟨cb, 0, none⟩), .int .i64 4] W fun e w' => (∃ x : Nat, x < 4 ∧ e = .returned (.int .i64 x)) ∧ Cur w v l cb w' ∧ W.grownBy w' (some cb)) := fun cb W hW => drawBelow hl hW hn 4 (by decide) (by decide)
  have fN : Hid (∀ cb W, Cur w v l cb W → Calls Tryz.prog 51 #[.pointer (some ⟨cb, 0, none⟩), .int .i64 1, .int .i64 2] W fun e w' => (∃ T : Tm, T.Ok ∧ T.Drawn ∧ T.bytes.length ≤ tmMax 2 ∧ e = .returned (.string ⟨T.bytes.toArray⟩)) ∧ Cur w v l cb w' ∧ W.grownBy w' (some cb)) := fun cb W hW => drawTermK hl hn 2 1 (by decide) (by decide) W hW
  obtain ⟨i0, hi, hz0, hz1, hz2⟩ := info_parts infoStrT
  obtain ⟨a0, cap, _, _, rfl, _⟩ := hl
  go_enter Tryz.func14, Tryz.ntmps14
  go_wp2_with fail
  (with_reducible refine f1.out.mono ?_); rintro e wa ⟨cb, rfl, hca⟩
  have hcw : cb < wa.heap.size := hca.2.2.1
  have r0 := World.ownsRow_lit (base := wa.heap.size) (e := 9) (size := 1) wa #[] 0 (Nat.le_refl _) (by decide) (by simp)
  have bb0 := (Below.refl wa.heap.size wa).alloc (Nat.le_refl _) (.cells #[] 9)
  have hc3 := hca.below bb0
  have hz0' := bb0.size
  have hwa : w.heap.size ≤ wa.heap.size := hca.1.size
  clear bb0 f1 hca
  go_wp2
  go_loopw [4, 5] (fun vo i wr => ∃ (k : Nat) (ls : List Tm), k ≤ 3 ∧ ls.length = k ∧ i = .int .i64 k ∧ wr.ownsRow wa.heap.size 9 1 vo ls.length (ls.map fun p => sv p.bytes) ∧ Cur w (.slice a0 l.length cap) l cb wr ∧ wa.heap.size ≤ wr.heap.size ∧ Hid (∀ y ∈ ls, y.Ok ∧ y.Drawn ∧ y.bytes.length ≤ 274)) (fun _ i _ => 4 - (intOf i).toNat)
  case atStart => exact ⟨0, [], by omega, rfl, rfl, r0, hc3, hz0', fun x hx => absurd hx (by simp)⟩
  case round =>
    obtain ⟨k, ls, hk, hp, rfl, hown, hcr, hzz, HP⟩ := hrel
    clear r0 hc3 hz0'
    go_wp2_with fail
    (with_reducible refine (fB.out _ _ hcr).mono ?_); rintro e w3 ⟨⟨y, hy, rfl⟩, hc3, hg3⟩
    have hown3 := keep_cur hown hg3 hcw
    have z3 : wa.heap.size ≤ w3.heap.size := Nat.le_trans hzz hg3.size
    clear hown hg3 hcr
    by_cases hky : k < y
    · have d1 : decide ((k : Int) < (y : Int)) = true := decide_eq_true (by omega)
      go_wp2_with fail
      (with_reducible refine (fN.out _ _ hc3).mono ?_); rintro e w4 ⟨⟨t, ht, htd, hlt, rfl⟩, hc4, hg4⟩
      have hown4 := keep_cur hown3 hg4 hcw
      have z4 : wa.heap.size ≤ w4.heap.size := Nat.le_trans z3 hg4.size
      clear hown3 hc3 hg4
      go_wp2_with (at_builtin; refine wpList_append_own _ rfl _ _ 25 rfl wa.heap.size 9 i0 _ 1 16 Tryz.underlying25 hi hz0 hz1 hz2 rfl (by decide) _ _ _ rfl (hown4.alloc _) ⟨_, 0, none⟩ 1 1 [.string ⟨t.bytes.toArray⟩] rfl rfl (oneNew _ _ _) (by simp [Value.oneCell']) (by simp only [maxLen]; omega) (by omega) (by simp; omega) ?_; intro v1 w5 hown5 hg5 _)
      have hlo : ∀ g, u4.ownBlock = some g → wa.heap.size ≤ g := fun g hg => (hown4.lt g hg).1
      have hc5 := (hc4.below ((Below.refl w4.heap.size w4).alloc (Nat.le_refl _) (.cells #[.string ⟨t.bytes.toArray⟩] 9))).grownS hg5 (fun e => by have := hlo cb e; omega) (fun g hg => by have := hlo g hg; omega)
      have HP2 : Hid (∀ y ∈ ls ++ [t], y.Ok ∧ y.Drawn ∧ y.bytes.length ≤ 274) := fun y hy => by
        rcases List.mem_append.1 hy with h | h
        · exact HP.out y h
        · simp only [List.mem_cons, List.not_mem_nil, or_false] at h
          subst h
          exact ⟨ht, htd, Nat.le_trans hlt (by decide)⟩
      have z5 : wa.heap.size ≤ w5.heap.size := by have := hg5.size; simp at this; omega
      clear hown4 hc4 hg5 HP hlo ht htd hlt
      go_wp2
      go_roundw
      case rel => exact ⟨k + 1, ls ++ [t], by omega, by simp [hp], by go_num, by simpa [sv] using hown5, hc5, z5, HP2.out⟩
      case measure => simp [intOf]; omega
    · have d1 : decide ((k : Int) < (y : Int)) = false := decide_eq_false (by omega)
      have HW := Lib.hid (own_weakenS hown3 (b' := w.heap.size) hwa)
      have HC := Lib.hid hc3.1
      have HL : Hid (ls.length ≤ 3) := (by omega : ls.length ≤ 3)
      clear hown3 hc3 hp
      go_wp2
      go_ret
      exact ⟨_, ls, HL.out, HP.out, rfl, HW.out, HC.out⟩
end Go.Proofs.YtgielbamebjjdaaGreatDoor

namespace Go.Proofs.YtgielbamebjjdaaGreatDoor
set_option maxRecDepth 100000
open Go.ChangeShapes Go.WideShapes Go.ChangeAt Go.RowKit
set_option linter.unusedSimpArgs false

theorem drawTermTopD {w : World} {v : Value} {l : List UInt8} (hl : CameB w v l) (hn : l.length ≤ 2000000) :
    Calls Tryz.prog 13 #[v] w fun e w' => (∃ T : Tm, T.Ok ∧ T.Drawn ∧ T.bytes.length ≤ 823 ∧ e = .returned (.string ⟨T.bytes.toArray⟩)) ∧ Below w.heap.size w w' := by
  have f1 := Lib.hid (drawNew hl hn)
  have f2 : Hid (∀ cb W, Cur w v l cb W → Calls Tryz.prog 51 #[.pointer (some ⟨cb, 0, none⟩), .int .i64 1, .int .i64 3] W (TmPostD w v l cb (tmMax 3))) := fun cb W hW => drawTermD hl hn 3 1 (by decide) (by decide) W hW
  obtain ⟨a0, cap, _, _, rfl, _⟩ := hl
  go_enter Tryz.func13, Tryz.ntmps13
  go_wp2_with fail
  (with_reducible refine f1.out.mono ?_); rintro e w1 ⟨cb, rfl, hc1⟩
  go_wp2_with fail
  (with_reducible refine (f2.out _ _ hc1).mono ?_); rintro e w2 ⟨⟨T, hT, hD, hlT, rfl⟩, hc2⟩
  go_wp2
  go_ret
  exact ⟨⟨T, hT, hD, Nat.le_trans hlT (by decide), rfl⟩, hc2.1⟩
end Go.Proofs.YtgielbamebjjdaaGreatDoor

namespace Go.Proofs.YtgielbamebjjdaaGreatDoor
set_option maxRecDepth 100000
open Go.ChangeShapes Go.WideShapes Go.ChangeAt Go.RowKit
set_option linter.unusedSimpArgs false
set_option linter.unusedVariables false

def okAt (l : List (List UInt8)) (k : Nat) : Bool := nameOk (l.getD k []) && (decide (k = 0) || decide (l.getD (k - 1) [] < l.getD k []))
def namesOk (l : List (List UInt8)) : Bool := (List.range l.length).all (okAt l)
theorem namesOk_bad {l : List (List UInt8)} {k : Nat} (h : k < l.length) (hb : okAt l k = false) : namesOk l = false := by
  rw [Bool.eq_false_iff]
  intro h2
  have := List.all_eq_true.1 h2 k (List.mem_range.2 h)
  rw [hb] at this
  cases this
theorem namesOk_done {l : List (List UInt8)} (h : ∀ j, j < l.length → okAt l j = true) : namesOk l = true :=
  List.all_eq_true.2 fun k hk => h k (List.mem_range.1 hk)
theorem okAt_name {l : List (List UInt8)} {k : Nat} (h : k < l.length) (hb : nameOk l[k] = false) : okAt l k = false := by
  simp [okAt, List.getElem?_eq_getElem h, hb]
theorem okAt_zero {l : List (List UInt8)} (h : 0 < l.length) (hb : nameOk l[0] = true) : okAt l 0 = true := by
  simp [okAt, List.getElem?_eq_getElem h, hb]
theorem okAt_succ {l : List (List UInt8)} {k : Nat} (h : k + 1 < l.length) (hb : nameOk l[k + 1] = true) : okAt l (k + 1) = decide (l[k] < l[k + 1]) := by
  have h2 : k < l.length := by omega
  simp [okAt, List.getElem?_eq_getElem h, List.getElem?_eq_getElem h2, hb]

end Go.Proofs.YtgielbamebjjdaaGreatDoor

namespace Go.Proofs.YtgielbamebjjdaaGreatDoor
set_option maxRecDepth 100000
open Go.ChangeShapes Go.WideShapes Go.ChangeAt Go.RowKit
set_option linter.unusedSimpArgs false
set_option linter.unusedVariables false

theorem usesIn_own {T : Tm} (hT : T.Ok) (hl : T.bytes.length ≤ 2000) : usesIn T.bytes = srt T.cnames := by rw [usesIn, termOf_some (isTm_own hT hl)]
theorem given_own (T : Tm) : T.head.given T.args = T := by
  induction T with
  | app f a ih1 ih2 =>
    rw [Tm.head, Tm.args, Tm.given, List.foldl_append]
    show Tm.app (f.head.given f.args) a = _
    rw [ih1]
  | _ => rfl
theorem arrows_own (T : Tm) : Tm.arrows T.doms T.targ = T := by
  induction T with
  | pi d b ih1 ih2 =>
    rw [Tm.targ, Tm.doms]
    show Tm.pi d (Tm.arrows b.doms b.targ) = _
    rw [ih2]
  | _ => rfl
theorem arrows_names : ∀ (ds : List Tm) (t : Tm) (x : List UInt8), x ∈ t.cnames → x ∈ (Tm.arrows ds t).cnames
  | [], t, x, k => k
  | a :: us, t, x, k => List.mem_append_right _ (arrows_names us t x k)
theorem names_drawn : ∀ {T : Tm}, T.Drawn → ∀ x ∈ T.cnames, x ∈ theNames := by
  intro T
  induction T with
  | var n => intro _ x hx; simp [Tm.cnames] at hx
  | sort t => intro _ x hx; simp [Tm.cnames] at hx
  | const n ls => intro h x hx; simp only [Tm.cnames, List.mem_singleton] at hx; subst hx; exact h
  | app f a i1 i2 => intro h x hx; exact (List.mem_append.1 hx).elim (i1 h.1 x) (i2 h.2 x)
  | lam f a i1 i2 => intro h x hx; exact (List.mem_append.1 hx).elim (i1 h.1 x) (i2 h.2 x)
  | pi f a i1 i2 => intro h x hx; exact (List.mem_append.1 hx).elim (i1 h.1 x) (i2 h.2 x)
  | lett f a b i1 i2 i3 => intro h x hx; exact (List.mem_append.1 hx).elim (fun k => (List.mem_append.1 k).elim (i1 h.1 x) (i2 h.2.1 x)) (i3 h.2.2 x)
theorem namesOk_asc {l : List BL} (ha : Asc l) (hn : ∀ x ∈ l, nameOk x = true) : namesOk l = true := by
  refine namesOk_done fun j hj => ?_
  cases j with
  | zero => exact okAt_zero hj (hn _ (List.getElem_mem hj))
  | succ k =>
    rw [okAt_succ hj (hn _ (List.getElem_mem hj)), decide_eq_true_eq]
    exact List.pairwise_iff_getElem.1 ha k (k + 1) (by omega) hj (by omega)
theorem none_not : ([110, 111, 110, 101] : List UInt8) ∉ theNames := by decide
theorem catB_le {ts : List Tm} {m : Nat} (h : ∀ a ∈ ts, a.bytes.length ≤ m) : (catB ts).length ≤ ts.length * m := by
  induction ts with
  | nil => simp [catB]
  | cons x r ih =>
    have e : catB (x :: r) = x.bytes ++ catB r := by simp [catB]
    have h1 := h x List.mem_cons_self
    have h2 := ih fun a ha => h a (List.mem_cons_of_mem _ ha)
    rw [e, List.length_append, List.length_cons, Nat.add_mul]
    omega
end Go.Proofs.YtgielbamebjjdaaGreatDoor

namespace Go.Proofs.YtgielbamebjjdaaGreatDoor
set_option maxRecDepth 100000
open Go.ChangeShapes Go.WideShapes Go.ChangeAt Go.RowKit
set_option linter.unusedSimpArgs false
set_option linter.unusedVariables false

theorem append_copyS {W : World} {ops : Array Oper} {rest : List Oper} {o : Oper} {a : Act} {Q : Exit → Act → World → Prop} (hgd : Region.wanted o (yielded ops a.tmps) = true) (s x : Operand)
    (ho : o.op = .call { callee := .builtin .append, args := #[s, x], argTypes := #[25, 25] })
    (hs : a.eval s = .slice (some ⟨W.heap.size, 0, none⟩) 0 0) (bx : Nat) (vx : Value) (l : List (List UInt8)) (hx : a.eval x = vx) (hrow : W.ownsRow bx 9 1 vx l.length (l.map sv))
    (h63 : l.length ≤ 1000000)
    (h : ∀ v' w', w'.ownsRow W.heap.size 9 1 v' l.length (l.map sv) → Below W.heap.size W w' → wpList Tryz.prog ops Q rest (a.put o.dst v') w') : wpList Tryz.prog ops Q (o :: rest) a (W.alloc (.cells #[] 9)) := by
  have b0 := (Below.refl W.heap.size W).alloc (Nat.le_refl _) (.cells #[] 9)
  obtain ⟨i0, hi, hz0, hz1, hz2⟩ := info_parts infoStr'
  have r0 := World.ownsRow_lit (base := W.heap.size) (e := 9) (size := 1) W #[] 0 (Nat.le_refl _) (by decide) (by simp)
  refine wpList_step fun K hK => ?_
  rw [if_pos hgd]
  rcases hrow.2 with ⟨rfl, h0⟩ | ⟨g, cap, cur, rfl, _⟩
  · obtain rfl : l = [] := List.length_eq_zero_iff.1 h0
    have hrun := run_append_owned_none (P := Tryz.prog) (w := W.alloc (.cells #[] 9)) W.heap.size 25 o.type 9 i0 1 Tryz.underlying25 hi _ 0 [] r0
    unfold Oper.wp
    simp [execOp, ho, resolve, invoke, builtin, hs, hx, hrun, Result.andThen]
    exact hK _ _ (h _ _ r0 b0)
  refine wp_append_own _ s x 25 ho W.heap.size 9 i0 _ 1 16 Tryz.underlying25 hi hz0 hz1 hz2 rfl (by decide) _ 0 [] hs r0 ⟨g, 0, none⟩ l.length cap (l.map sv) hx (by simp) ((hrow.alloc _).cells rfl) (fun u hu => by obtain ⟨x, _, rfl⟩ := List.mem_map.1 hu; rfl) (by unfold maxLen; omega) (by omega) (by simp) ?_
  intro v' w' h1 h2 h3
  refine hK _ _ (h v' w' (by simpa using h1) (b0.grown h2 b0.size fun k hk => ?_))
  cases hk
  exact Nat.le_refl _
end Go.Proofs.YtgielbamebjjdaaGreatDoor

namespace Go.Proofs.YtgielbamebjjdaaGreatDoor
set_option maxRecDepth 100000
open Go.ChangeShapes Go.WideShapes Go.ChangeAt Go.RowKit
set_option linter.unusedSimpArgs false
set_option linter.unusedVariables false

/-- What a row of strings as an answer says, with the strings of terms. -/
theorem resRow {r : List (List UInt8)} {n : Nat} (hr : r.length = n) {f : FuncId} {args : Array Value} {W : World} (h : Calls Tryz.prog f args W (LRes' r W)) :
    Calls Tryz.prog f args W fun e w' => ∃ a c, e = .returned (.slice a n c) ∧ w'.ownsRow W.heap.size 9 1 (.slice a n c) r.length (r.map sv) ∧ Below W.heap.size W w' := by
  refine h.mono ?_
  rintro e w' ⟨v, rfl, ho, hb⟩
  obtain ⟨a, c, rfl⟩ := own_sliceV ho
  rw [← hr]
  exact ⟨a, c, rfl, ho, hb⟩

set_option maxHeartbeats 16000000 in
theorem lawSpines {v : Value} {l : List UInt8} (w : World) (hl : CameB w v l) (hm : l.length ≤ maxLen)
    (hHead : ∀ (s : ByteArray), s.size ≤ 1048576 → ∀ W, Below w.heap.size w W → Calls Tryz.prog 16 #[.string s] W fun e w' => e = .returned (.string ⟨(headOf s.data.toList).toArray⟩) ∧ Below W.heap.size W w')
    (hArgs : ∀ (s : ByteArray), s.size ≤ 1048576 → ∀ W, Below w.heap.size w W → Calls Tryz.prog 17 #[.string s] W (LRes' (argsOf s.data.toList) W))
    (hDoms : ∀ (s : ByteArray), s.size ≤ 1048576 → ∀ W, Below w.heap.size w W → Calls Tryz.prog 19 #[.string s] W (LRes' (domainsOf s.data.toList) W))
    (hTarg : ∀ (s : ByteArray), s.size ≤ 1048576 → ∀ W, Below w.heap.size w W → Calls Tryz.prog 20 #[.string s] W fun e w' => e = .returned (.string ⟨(targetOf s.data.toList).toArray⟩) ∧ Below W.heap.size W w')
    (hGiv : ∀ (s : ByteArray) (us : List (List UInt8)), s.size ≤ 1048576 → us.length ≤ 1048576 → (∀ x ∈ us, x.length ≤ 1048576) → ∀ (W : World) (b : Nat) (u : Value), Below w.heap.size w W → W.ownsRow b 9 1 u us.length (us.map sv) → Calls Tryz.prog 15 #[.string s, u] W fun e w' => e = .returned (putRes (givenOf s.data.toList us)) ∧ Below W.heap.size W w')
    (hArr : ∀ (s : ByteArray) (us : List (List UInt8)), s.size ≤ 1048576 → us.length ≤ 1048576 → (∀ x ∈ us, x.length ≤ 1048576) → ∀ (W : World) (b : Nat) (u : Value), Below w.heap.size w W → W.ownsRow b 9 1 u us.length (us.map sv) → Calls Tryz.prog 18 #[u, .string s] W fun e w' => e = .returned (putRes (arrowsOf us s.data.toList)) ∧ Below W.heap.size W w')
    (hUses : ∀ (s : ByteArray), s.size ≤ 1048576 → ∀ W, Below w.heap.size w W → Calls Tryz.prog 21 #[.string s] W (LRes' (usesIn s.data.toList) W))
    (hNs : ∀ (us : List (List UInt8)), us.length ≤ 1048576 → (∀ x ∈ us, x.length ≤ 1048576) → ∀ (W : World) (b : Nat) (u : Value), Below w.heap.size w W → W.ownsRow b 9 1 u us.length (us.map sv) → Calls Tryz.prog 22 #[u] W fun e w' => e = .returned (.bool (namesOk us)) ∧ Below W.heap.size W w')
    (hHas : ∀ (s y : ByteArray), s.size ≤ 1048576 → y.size ≤ 1048576 → ∀ W, Below w.heap.size w W → Calls Tryz.prog 23 #[.string s, .string y] W fun e w' => e = .returned (.bool (inL (usesIn s.data.toList) y.data.toList)) ∧ Below W.heap.size W w') :
    Calls Tryz.prog 3 #[v] w fun e w' => e = .returned (.bool true) ∧ Below w.heap.size w w' := by
  have f0 := Lib.hid (bigB hl hm)
  by_cases hbig : 1048576 < l.length
  · rw [decide_eq_true hbig] at f0
    obtain ⟨a0, cap, _, _, rfl, _⟩ := hl
    clear hHead hArgs hDoms hTarg hGiv hArr hUses hNs hHas
    go_enter Tryz.func3, Tryz.ntmps3
    go_wp2_with fail
    (with_reducible refine f0.out.mono ?_); rintro e w1 ⟨rfl, rfl⟩
    go_wp2
    go_ret
    exact ⟨rfl, Below.refl _ _⟩
  rw [decide_eq_false hbig] at f0
  have f1 := Lib.hid (drawTermTopD hl (by omega))
  have f2 := Lib.hid fun W (hb : Below w.heap.size w W) => drawList (hl.below hb) (by omega)
  have gHead := Lib.hid hHead
  have gArgs := Lib.hid hArgs
  have gDoms := Lib.hid hDoms
  have gTarg := Lib.hid hTarg
  have gGiv := Lib.hid hGiv
  have gArr := Lib.hid hArr
  have gUses := Lib.hid hUses
  have gNs := Lib.hid hNs
  have gHas := Lib.hid hHas
  clear hHead hArgs hDoms hTarg hGiv hArr hUses hNs hHas
  obtain ⟨a0, cap, _, _, rfl, _⟩ := hl
  go_enter Tryz.func3, Tryz.ntmps3
  go_wp2_with fail
  (with_reducible refine f0.out.mono ?_); rintro e w1 ⟨rfl, rfl⟩
  go_wp2_with fail
  (with_reducible refine f1.out.mono ?_); rintro e w2 ⟨⟨T, hT, hD, hTl, rfl⟩, B2⟩
  go_wp2_with fail
  (with_reducible refine (f2.out _ B2).mono ?_); rintro e w3 ⟨vl, ts, ht3, hts, rfl, hrowL, hb3⟩
  have B3 := B2.trans (hb3.mono B2.size)
  clear hb3 f0 f1 f2
  -- the terms
  have hG : (T.given ts).Ok := given_ok ts T hT fun a ha => (hts a ha).1
  have hV : (Tm.arrows ts T).Ok := arrows_ok ts T hT fun a ha => (hts a ha).1
  have hcat := catB_le fun a ha => (hts a ha).2.2
  have hc3 : ts.length * 274 ≤ 3 * 274 := Nat.mul_le_mul_right _ ht3
  have hGl : (T.given ts).bytes.length ≤ 1700 := by rw [given_bytes]; simp; omega
  have hVl : (Tm.arrows ts T).bytes.length ≤ 1700 := by rw [arrows_bytes, List.length_append, catP_len]; omega
  have zT : (⟨T.bytes.toArray⟩ : ByteArray).size ≤ 1048576 := by show T.bytes.length ≤ _; omega
  have zG : (⟨(T.given ts).bytes.toArray⟩ : ByteArray).size ≤ 1048576 := by show (T.given ts).bytes.length ≤ _; omega
  have zV : (⟨(Tm.arrows ts T).bytes.toArray⟩ : ByteArray).size ≤ 1048576 := by show (Tm.arrows ts T).bytes.length ≤ _; omega
  have zH : (⟨T.head.bytes.toArray⟩ : ByteArray).size ≤ 1048576 := by have := T.head_len; show T.head.bytes.length ≤ _; omega
  have zU : (⟨T.targ.bytes.toArray⟩ : ByteArray).size ≤ 1048576 := by have := T.targ_len; show T.targ.bytes.length ≤ _; omega
  have hszl := T.size_le
  have hal := T.args_len
  have hdl := T.doms_len
  have hcl := T.cnames_len
  have hsr := srt_spec _ T.cnames (Nat.le_refl _)
  have hno : ∀ x ∈ srt T.cnames, nameOk x = true ∧ x.length ≤ 8 := fun x hx => theNames_ok x (names_drawn hD x ((hsr.2.1 x).1 hx))
  have hnn : inL (srt T.cnames) [110, 111, 110, 101] = false := by
    simp only [inL, decide_eq_false_iff_not]
    exact fun h => none_not (names_drawn hD _ ((hsr.2.1 _).1 h))
  have partA : ∀ a ∈ T.args, a.bytes.length ≤ 1000 := fun a ha => by have := catB_len T.args a ha; have h2 := congrArg List.length (head_args T); simp at h2; omega
  have partD : ∀ a ∈ T.doms, a.bytes.length ≤ 1000 := fun a ha => by have := catB_len T.doms a ha; have h2 := congrArg List.length (doms_targ T); rw [List.length_append, catP_len] at h2; omega
  have cut : ∀ s : List UInt8, (ByteArray.data ⟨s.toArray⟩).toList = s := fun s => rfl
  -- the contracts at them
  have fHeadT : Hid (∀ W, Below w1.heap.size w1 W → Calls Tryz.prog 16 #[.string ⟨T.bytes.toArray⟩] W fun e w' => e = .returned (.string ⟨T.head.bytes.toArray⟩) ∧ Below W.heap.size W w') := fun W hb => by
    have := gHead.out ⟨T.bytes.toArray⟩ zT W hb
    rw [cut, headOf_own hT (by omega)] at this
    exact this
  have fHeadG : Hid (∀ W, Below w1.heap.size w1 W → Calls Tryz.prog 16 #[.string ⟨(T.given ts).bytes.toArray⟩] W fun e w' => e = .returned (.string ⟨T.head.bytes.toArray⟩) ∧ Below W.heap.size W w') := fun W hb => by
    have := gHead.out ⟨(T.given ts).bytes.toArray⟩ zG W hb
    rw [cut, headOf_own hG (by omega), given_head] at this
    exact this
  have fTargT : Hid (∀ W, Below w1.heap.size w1 W → Calls Tryz.prog 20 #[.string ⟨T.bytes.toArray⟩] W fun e w' => e = .returned (.string ⟨T.targ.bytes.toArray⟩) ∧ Below W.heap.size W w') := fun W hb => by
    have := gTarg.out ⟨T.bytes.toArray⟩ zT W hb
    rw [cut, targetOf_own hT (by omega)] at this
    exact this
  have fTargV : Hid (∀ W, Below w1.heap.size w1 W → Calls Tryz.prog 20 #[.string ⟨(Tm.arrows ts T).bytes.toArray⟩] W fun e w' => e = .returned (.string ⟨T.targ.bytes.toArray⟩) ∧ Below W.heap.size W w') := fun W hb => by
    have := gTarg.out ⟨(Tm.arrows ts T).bytes.toArray⟩ zV W hb
    rw [cut, targetOf_own hV (by omega), arrows_targ] at this
    exact this
  have fArgsT : Hid (∀ W, Below w1.heap.size w1 W → Calls Tryz.prog 17 #[.string ⟨T.bytes.toArray⟩] W fun e w' => ∃ a c, e = .returned (.slice a T.args.length c) ∧ w'.ownsRow W.heap.size 9 1 (.slice a T.args.length c) (T.args.map Tm.bytes).length ((T.args.map Tm.bytes).map sv) ∧ Below W.heap.size W w') := fun W hb => by
    have := gArgs.out ⟨T.bytes.toArray⟩ zT W hb
    rw [cut, argsOf_own hT (by omega)] at this
    exact resRow (by simp) this
  have fArgsG : Hid (∀ W, Below w1.heap.size w1 W → Calls Tryz.prog 17 #[.string ⟨(T.given ts).bytes.toArray⟩] W fun e w' => ∃ a c, e = .returned (.slice a (T.args.length + ts.length) c) ∧ Below W.heap.size W w') := fun W hb => by
    have := gArgs.out ⟨(T.given ts).bytes.toArray⟩ zG W hb
    rw [cut, argsOf_own hG (by omega), given_args] at this
    exact (resRow (n := T.args.length + ts.length) (by simp) this).mono fun _ _ ⟨a, c, h1, _, h3⟩ => ⟨a, c, h1, h3⟩
  have fDomsT : Hid (∀ W, Below w1.heap.size w1 W → Calls Tryz.prog 19 #[.string ⟨T.bytes.toArray⟩] W fun e w' => ∃ a c, e = .returned (.slice a T.doms.length c) ∧ w'.ownsRow W.heap.size 9 1 (.slice a T.doms.length c) (T.doms.map Tm.bytes).length ((T.doms.map Tm.bytes).map sv) ∧ Below W.heap.size W w') := fun W hb => by
    have := gDoms.out ⟨T.bytes.toArray⟩ zT W hb
    rw [cut, domainsOf_own hT (by omega)] at this
    exact resRow (by simp) this
  have fDomsV : Hid (∀ W, Below w1.heap.size w1 W → Calls Tryz.prog 19 #[.string ⟨(Tm.arrows ts T).bytes.toArray⟩] W fun e w' => ∃ a c, e = .returned (.slice a (T.doms.length + ts.length) c) ∧ Below W.heap.size W w') := fun W hb => by
    have := gDoms.out ⟨(Tm.arrows ts T).bytes.toArray⟩ zV W hb
    rw [cut, domainsOf_own hV (by omega), arrows_doms] at this
    exact (resRow (n := T.doms.length + ts.length) (by simp; omega) this).mono fun _ _ ⟨a, c, h1, _, h3⟩ => ⟨a, c, h1, h3⟩
  have fGivT : Hid (∀ (W : World) (b : Nat) (u : Value), Below w1.heap.size w1 W → W.ownsRow b 9 1 u (T.args.map Tm.bytes).length ((T.args.map Tm.bytes).map sv) → Calls Tryz.prog 15 #[.string ⟨T.head.bytes.toArray⟩, u] W fun e w' => e = .returned (.tuple #[.string ⟨T.bytes.toArray⟩, .bool true]) ∧ Below W.heap.size W w') := fun W b u hb hu => by
    have := gGiv.out ⟨T.head.bytes.toArray⟩ (T.args.map Tm.bytes) zH (by simp; omega) (fun x hx => by obtain ⟨a, ha, rfl⟩ := List.mem_map.1 hx; have := partA a ha; omega) W b u hb hu
    have hg := givenOf_own (h := T.head) (us := T.args) (Tm.head_ok hT) (fun a ha => Tm.args_ok hT a ha) (by rw [given_own]; omega)
    rw [given_own] at hg
    rw [cut, hg] at this
    exact this
  have fArrT : Hid (∀ (W : World) (b : Nat) (u : Value), Below w1.heap.size w1 W → W.ownsRow b 9 1 u (T.doms.map Tm.bytes).length ((T.doms.map Tm.bytes).map sv) → Calls Tryz.prog 18 #[u, .string ⟨T.targ.bytes.toArray⟩] W fun e w' => e = .returned (.tuple #[.string ⟨T.bytes.toArray⟩, .bool true]) ∧ Below W.heap.size W w') := fun W b u hb hu => by
    have := gArr.out ⟨T.targ.bytes.toArray⟩ (T.doms.map Tm.bytes) zU (by simp; omega) (fun x hx => by obtain ⟨a, ha, rfl⟩ := List.mem_map.1 hx; have := partD a ha; omega) W b u hb hu
    have hg := arrowsOf_own (t := T.targ) (ds := T.doms) (Tm.targ_ok hT) (fun a ha => Tm.doms_ok hT a ha) (by rw [arrows_own]; omega)
    rw [arrows_own] at hg
    rw [cut, hg] at this
    exact this
  have fGivL : Hid (∀ (W : World) (b : Nat) (u : Value), Below w1.heap.size w1 W → W.ownsRow b 9 1 u (ts.map Tm.bytes).length ((ts.map Tm.bytes).map sv) → Calls Tryz.prog 15 #[.string ⟨T.bytes.toArray⟩, u] W fun e w' => e = .returned (.tuple #[.string ⟨(T.given ts).bytes.toArray⟩, .bool true]) ∧ Below W.heap.size W w') := fun W b u hb hu => by
    have := gGiv.out ⟨T.bytes.toArray⟩ (ts.map Tm.bytes) zT (by simp; omega) (fun x hx => by obtain ⟨a, ha, rfl⟩ := List.mem_map.1 hx; have := (hts a ha).2.2; omega) W b u hb hu
    rw [cut, givenOf_own hT (fun a ha => (hts a ha).1) (by omega)] at this
    exact this
  have fArrL : Hid (∀ (W : World) (b : Nat) (u : Value), Below w1.heap.size w1 W → W.ownsRow b 9 1 u (ts.map Tm.bytes).length ((ts.map Tm.bytes).map sv) → Calls Tryz.prog 18 #[u, .string ⟨T.bytes.toArray⟩] W fun e w' => e = .returned (.tuple #[.string ⟨(Tm.arrows ts T).bytes.toArray⟩, .bool true]) ∧ Below W.heap.size W w') := fun W b u hb hu => by
    have := gArr.out ⟨T.bytes.toArray⟩ (ts.map Tm.bytes) zT (by simp; omega) (fun x hx => by obtain ⟨a, ha, rfl⟩ := List.mem_map.1 hx; have := (hts a ha).2.2; omega) W b u hb hu
    rw [cut, arrowsOf_own hT (fun a ha => (hts a ha).1) (by omega)] at this
    exact this
  have hnl : (srt T.cnames).length ≤ 1000 := by have := hsr.2.2; omega
  have fUses : Hid (∀ W, Below w1.heap.size w1 W → Calls Tryz.prog 21 #[.string ⟨T.bytes.toArray⟩] W fun e w' => ∃ a c, e = .returned (.slice a (srt T.cnames).length c) ∧ w'.ownsRow W.heap.size 9 1 (.slice a (srt T.cnames).length c) (srt T.cnames).length ((srt T.cnames).map sv) ∧ Below W.heap.size W w') := fun W hb => by
    have := gUses.out ⟨T.bytes.toArray⟩ zT W hb
    rw [cut, usesIn_own hT (by omega)] at this
    exact resRow rfl this
  have fNs : Hid (∀ (W : World) (b : Nat) (u : Value), Below w1.heap.size w1 W → W.ownsRow b 9 1 u (srt T.cnames).length ((srt T.cnames).map sv) → Calls Tryz.prog 22 #[u] W fun e w' => e = .returned (.bool true) ∧ Below W.heap.size W w') := fun W b u hb hu => by
    have := gNs.out (srt T.cnames) (by omega) (fun x hx => by have := (hno x hx).2; omega) W b u hb hu
    rw [namesOk_asc hsr.1 fun x hx => (hno x hx).1] at this
    exact this
  have fHasT : Hid (∀ y, y ∈ srt T.cnames → ∀ W, Below w1.heap.size w1 W → Calls Tryz.prog 23 #[.string ⟨T.bytes.toArray⟩, .string ⟨y.toArray⟩] W fun e w' => e = .returned (.bool true) ∧ Below W.heap.size W w') := fun y hy W hb => by
    have := gHas.out ⟨T.bytes.toArray⟩ ⟨y.toArray⟩ zT (by have := (hno y hy).2; show y.length ≤ _; omega) W hb
    rw [cut, cut, usesIn_own hT (by omega), show inL (srt T.cnames) y = true by simp only [inL, decide_eq_true_eq]; exact hy] at this
    exact this
  have fHasG : Hid (∀ y, y ∈ srt T.cnames → ∀ W, Below w1.heap.size w1 W → Calls Tryz.prog 23 #[.string ⟨(T.given ts).bytes.toArray⟩, .string ⟨y.toArray⟩] W fun e w' => e = .returned (.bool true) ∧ Below W.heap.size W w') := fun y hy W hb => by
    have := gHas.out ⟨(T.given ts).bytes.toArray⟩ ⟨y.toArray⟩ zG (by have := (hno y hy).2; show y.length ≤ _; omega) W hb
    have hsg := srt_spec _ (T.given ts).cnames (Nat.le_refl _)
    rw [cut, cut, usesIn_own hG (by omega), show inL (srt (T.given ts).cnames) y = true by simp only [inL, decide_eq_true_eq]; exact (hsg.2.1 y).2 (given_names ts T y ((hsr.2.1 y).1 hy))] at this
    exact this
  have fNone : Hid (∀ W, Below w1.heap.size w1 W → Calls Tryz.prog 23 #[.string ⟨T.bytes.toArray⟩, .string ⟨#[110, 111, 110, 101]⟩] W fun e w' => e = .returned (.bool false) ∧ Below W.heap.size W w') := fun W hb => by
    have := gHas.out ⟨T.bytes.toArray⟩ ⟨([110, 111, 110, 101] : List UInt8).toArray⟩ zT (by decide) W hb
    rw [cut, cut, usesIn_own hT (by omega), hnn] at this
    exact this
  obtain ⟨al, cl, rfl⟩ := own_sliceV hrowL
  have HL : Hid (w3.ownsRow w2.heap.size 9 1 (.slice al ts.length cl) (ts.map Tm.bytes).length ((ts.map Tm.bytes).map sv)) := by
    rw [Hid, List.length_map, List.map_map]; exact hrowL
  have HLn : Hid ((ts.map Tm.bytes).length ≤ 1000000) := by rw [Hid, List.length_map]; omega
  have HB3 := Lib.hid B3
  have ha2 : T.args.length ≤ 1000 := by omega
  have hd2 : T.doms.length ≤ 1000 := by omega
  clear gHead gArgs gDoms gTarg gGiv gArr gUses gNs gHas hG hV hcat hc3 hszl hal hdl hcl hsr hno hnn partA partD cut hrowL B3 B2 hT hD hTl hts zT zG zV zH zU
  have hGl2 : (T.given ts).bytes.length ≤ 1700 := hGl
  clear hGl hVl hGl2
  generalize T.bytes = tb at *
  generalize T.head.bytes = hb at *
  generalize T.targ.bytes = ub at *
  generalize (T.given ts).bytes = gb at *
  generalize (Tm.arrows ts T).bytes = vb at *
  generalize T.args.map Tm.bytes = LA at *
  generalize T.doms.map Tm.bytes = LD at *
  generalize T.args.length = na at *
  generalize T.doms.length = nd at *
  generalize ts.map Tm.bytes = LL at *
  generalize ts.length = nl at *
  generalize srt T.cnames = NM at *
  generalize hnm : NM.length = nn at *
  have HNM := Lib.hid hnm
  clear hnm
  have hszW := HB3.out.size
  have hz3 : w3.heap.size ≤ w3.heap.size := Nat.le_refl _
  clear hszW hz3
  go_wp2_with fail
  (with_reducible refine (fHeadT.out _ HB3.out).mono ?_); rintro e w4 ⟨rfl, hb4⟩
  have C4 := Lib.hid hb4
  have B4 := Lib.hid (HB3.out.trans (C4.out.mono HB3.out.size))
  clear hb4
  go_wp2_with fail
  (with_reducible refine (fArgsT.out _ B4.out).mono ?_); rintro e w5 ⟨a5, c5, rfl, ho5, hb5⟩
  have C5 := Lib.hid (C4.out.trans (hb5.mono C4.out.size))
  have B5 := Lib.hid (HB3.out.trans (C5.out.mono HB3.out.size))
  have O5 := Lib.hid ho5
  clear hb5 ho5
  go_wp2_with fail
  (with_reducible refine (fGivT.out _ _ _ B5.out O5.out).mono ?_); rintro e w6 ⟨rfl, hb6⟩
  have C6 := Lib.hid (C5.out.trans (hb6.mono C5.out.size))
  have B6 := Lib.hid (HB3.out.trans (C6.out.mono HB3.out.size))
  clear hb6 O5
  go_wp2_with fail
  (with_reducible refine (fDomsT.out _ B6.out).mono ?_); rintro e w7 ⟨a7, c7, rfl, ho7, hb7⟩
  have C7 := Lib.hid (C6.out.trans (hb7.mono C6.out.size))
  have B7 := Lib.hid (HB3.out.trans (C7.out.mono HB3.out.size))
  have O7 := Lib.hid ho7
  clear hb7 ho7
  go_wp2_with fail
  (with_reducible refine (fTargT.out _ B7.out).mono ?_); rintro e w8 ⟨rfl, hb8⟩
  have C8 := Lib.hid (C7.out.trans (hb8.mono C7.out.size))
  have B8 := Lib.hid (HB3.out.trans (C8.out.mono HB3.out.size))
  have O8 := Lib.hid (own_below O7.out hb8)
  clear hb8 O7
  go_wp2_with fail
  (with_reducible refine (fArrT.out _ _ _ B8.out O8.out).mono ?_); rintro e w9 ⟨rfl, hb9⟩
  have C9 := Lib.hid (C8.out.trans (hb9.mono C8.out.size))
  have B9 := Lib.hid (HB3.out.trans (C9.out.mono HB3.out.size))
  have L9 := Lib.hid (own_below HL.out C9.out)
  clear hb9 O8
  go_wp2_with (at_builtin; refine append_copyS rfl _ _ rfl rfl _ _ LL rfl L9.out HLn.out ?_; intro u10 w10 ho10 hb10)
  have C10 := Lib.hid (C9.out.trans (hb10.mono C9.out.size))
  have B10 := Lib.hid (HB3.out.trans (C10.out.mono HB3.out.size))
  have O10 := Lib.hid ho10
  clear ho10 hb10 L9
  go_wp2_with fail
  (with_reducible refine (fGivL.out _ _ _ B10.out O10.out).mono ?_); rintro e w11 ⟨rfl, hb11⟩
  have C11 := Lib.hid (C10.out.trans (hb11.mono C10.out.size))
  have B11 := Lib.hid (HB3.out.trans (C11.out.mono HB3.out.size))
  have L11 := Lib.hid (own_below HL.out C11.out)
  clear hb11 O10
  go_wp2_with (at_builtin; refine append_copyS rfl _ _ rfl rfl _ _ LL rfl L11.out HLn.out ?_; intro u12 w12 ho12 hb12)
  have C12 := Lib.hid (C11.out.trans (hb12.mono C11.out.size))
  have B12 := Lib.hid (HB3.out.trans (C12.out.mono HB3.out.size))
  have O12 := Lib.hid ho12
  clear ho12 hb12 L11
  go_wp2_with fail
  (with_reducible refine (fArrL.out _ _ _ B12.out O12.out).mono ?_); rintro e w13 ⟨rfl, hb13⟩
  have C13 := Lib.hid (C12.out.trans (hb13.mono C12.out.size))
  have B13 := Lib.hid (HB3.out.trans (C13.out.mono HB3.out.size))
  clear hb13 O12
  go_wp2_with fail
  (with_reducible refine (fArgsG.out _ B13.out).mono ?_); rintro e w14 ⟨a14, c14, rfl, hb14⟩
  have C14 := Lib.hid (C13.out.trans (hb14.mono C13.out.size))
  have B14 := Lib.hid (HB3.out.trans (C14.out.mono HB3.out.size))
  clear hb14
  go_wp2_with fail
  (with_reducible refine (fDomsV.out _ B14.out).mono ?_); rintro e w15 ⟨a15, c15, rfl, hb15⟩
  have C15 := Lib.hid (C14.out.trans (hb15.mono C14.out.size))
  have B15 := Lib.hid (HB3.out.trans (C15.out.mono HB3.out.size))
  clear hb15
  go_wp2_with fail
  (with_reducible refine (fUses.out _ B15.out).mono ?_); rintro e w16 ⟨an, cn, rfl, ho16, hb16⟩
  have C16 := Lib.hid (C15.out.trans (hb16.mono C15.out.size))
  have B16 := Lib.hid (HB3.out.trans (C16.out.mono HB3.out.size))
  have HN16 := Lib.hid ho16
  clear hb16 ho16
  go_wp2_with fail
  (with_reducible refine (fArgsT.out _ B16.out).mono ?_); rintro e w17 ⟨a17, c17, rfl, _, hb17⟩
  have E17 := Lib.hid hb17
  have C17 := Lib.hid (C16.out.trans (hb17.mono C16.out.size))
  have B17 := Lib.hid (HB3.out.trans (C17.out.mono HB3.out.size))
  clear hb17
  go_wp2_with fail
  (with_reducible refine (fDomsT.out _ B17.out).mono ?_); rintro e w18 ⟨a18, c18, rfl, _, hb18⟩
  have E18 := Lib.hid (E17.out.trans (hb18.mono E17.out.size))
  have C18 := Lib.hid (C17.out.trans (hb18.mono C17.out.size))
  have B18 := Lib.hid (HB3.out.trans (C18.out.mono HB3.out.size))
  clear hb18
  go_wp2_with fail
  (with_reducible refine (fHeadG.out _ B18.out).mono ?_); rintro e w19 ⟨rfl, hb19⟩
  have E19 := Lib.hid (E18.out.trans (hb19.mono E18.out.size))
  have C19 := Lib.hid (C18.out.trans (hb19.mono C18.out.size))
  have B19 := Lib.hid (HB3.out.trans (C19.out.mono HB3.out.size))
  clear hb19
  go_wp2_with fail
  (with_reducible refine (fHeadT.out _ B19.out).mono ?_); rintro e w20 ⟨rfl, hb20⟩
  have E20 := Lib.hid (E19.out.trans (hb20.mono E19.out.size))
  have C20 := Lib.hid (C19.out.trans (hb20.mono C19.out.size))
  have B20 := Lib.hid (HB3.out.trans (C20.out.mono HB3.out.size))
  clear hb20
  go_wp2_with fail
  (with_reducible refine (fTargV.out _ B20.out).mono ?_); rintro e w21 ⟨rfl, hb21⟩
  have E21 := Lib.hid (E20.out.trans (hb21.mono E20.out.size))
  have C21 := Lib.hid (C20.out.trans (hb21.mono C20.out.size))
  have B21 := Lib.hid (HB3.out.trans (C21.out.mono HB3.out.size))
  clear hb21
  go_wp2_with fail
  (with_reducible refine (fTargT.out _ B21.out).mono ?_); rintro e w22 ⟨rfl, hb22⟩
  have E22 := Lib.hid (E21.out.trans (hb22.mono E21.out.size))
  have C22 := Lib.hid (C21.out.trans (hb22.mono C21.out.size))
  have B22 := Lib.hid (HB3.out.trans (C22.out.mono HB3.out.size))
  have HNL : Hid (NM.length ≤ 1000000) := by rw [Hid, HNM.out]; omega
  have N22 : Hid (w22.ownsRow w15.heap.size 9 1 (.slice an nn cn) NM.length (NM.map sv)) := by rw [Hid, HNM.out]; exact own_below HN16.out E22.out
  clear hb22
  go_wp2_with (at_builtin; refine append_copyS rfl _ _ rfl rfl _ _ NM rfl N22.out HNL.out ?_; intro u23 w23 ho23 hb23)
  have E23 := Lib.hid (E22.out.trans (hb23.mono E22.out.size))
  have C23 := Lib.hid (C22.out.trans (hb23.mono C22.out.size))
  have B23 := Lib.hid (HB3.out.trans (C23.out.mono HB3.out.size))
  have O23 : Hid (w23.ownsRow w22.heap.size 9 1 u23 nn (NM.map sv)) := by rw [← HNM.out]; exact ho23
  clear ho23 hb23
  go_wp2_with fail
  (with_reducible refine (fNs.out _ _ _ B23.out O23.out).mono ?_); rintro e w24 ⟨rfl, hb24⟩
  have E24 := Lib.hid (E23.out.trans (hb24.mono E23.out.size))
  have C24 := Lib.hid (C23.out.trans (hb24.mono C23.out.size))
  have B24 := Lib.hid (HB3.out.trans (C24.out.mono HB3.out.size))
  have N24 := Lib.hid (own_below HN16.out E24.out)
  clear hb24
  go_wp2
  go_loopw [16] (fun i wr => ∃ k : Nat, k ≤ nn ∧ i = .int .i64 (k : Int) ∧ Below w1.heap.size w1 wr ∧ wr.ownsRow w15.heap.size 9 1 (.slice an nn cn) nn (NM.map sv)) (fun i _ => nn - (intOf i).toNat)
  case atStart => exact ⟨0, Nat.zero_le _, rfl, B24.out, N24.out⟩
  case round =>
    obtain ⟨k, hk, rfl, hbel, hrow⟩ := hrel
    clear B24 N24
    have HB := Lib.hid hbel
    have HR := Lib.hid hrow
    clear hbel
    have q1 : (0 : Int) ≤ (k : Int) := by omega
    by_cases hlt : k < nn
    · have q2 : (k : Int) < (nn : Int) := by omega
      obtain ⟨g, cap', e0, _, hgl⟩ := hrow.form (by omega)
      cases e0
      have hkl : k < NM.length := by rw [HNM.out]; exact hlt
      have ex : (NM.map sv)[k]? = some (sv NM[k]) := by simp [hkl]
      have cc := (hrow.cellAt k (by omega)).trans ex
      unfold sv at cc
      have gT := Lib.hid (fHasT.out NM[k] (List.getElem_mem hkl))
      have gG := Lib.hid (fHasG.out NM[k] (List.getElem_mem hkl))
      generalize NM[k] = y at cc gT gG
      clear ex hrow hkl
      go_wp2_with fail
      (with_reducible refine (gT.out _ HB.out).mono ?_); rintro e w25 ⟨rfl, hb25⟩
      have HB25 := Lib.hid (HB.out.trans (hb25.mono HB.out.size))
      have HR25 := Lib.hid (own_below HR.out hb25)
      have cc25 := (hb25.cell (p := ⟨g, k, none⟩) hgl).trans cc
      clear hb25 cc
      go_wp2_with fail
      (with_reducible refine (gG.out _ HB25.out).mono ?_); rintro e w26 ⟨rfl, hb26⟩
      have HB26 := Lib.hid (HB25.out.trans (hb26.mono HB25.out.size))
      have HR26 := Lib.hid (own_below HR25.out hb26)
      clear hb26 cc25
      go_wp2
      go_roundw
      case rel => exact ⟨k + 1, by omega, by go_num, HB26.out, HR26.out⟩
      case measure => simp [intOf]; omega
    · obtain rfl : k = nn := by omega
      clear hrow
      go_wp2_with fail
      (with_reducible refine (fNone.out _ HB.out).mono ?_); rintro e w27 ⟨rfl, hb27⟩
      have HB27 := Lib.hid (HB.out.trans (hb27.mono HB.out.size))
      clear hb27
      go_wp2
      go_ret
      exact ⟨rfl, HB27.out⟩
end Go.Proofs.YtgielbamebjjdaaGreatDoor
