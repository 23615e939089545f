/-
  The contract of spec.l07Lift.
-/
import Derived.Test.YtnklajagefedmaaDoorFOut
import Derived.Test.YtnklajagefedmaaDoorTText
namespace Go.Proofs.YtnklajagefedmaaDoor
set_option maxRecDepth 100000
open Go.ChangeShapes Go.WideShapes Go.ChangeAt Go.RowKit
set_option linter.unusedSimpArgs false

theorem OStO.below {ob : Nat} {W W' : World} {st : Option (List UInt8)} (h : OStO ob W st) (hb : Below W.heap.size W W') : OStO ob W' st := by
  obtain ⟨vb, B, bad, ho, hB, e⟩ := h
  exact ⟨vb, B, bad, ho.below hb, hB, e⟩
theorem OStO.lt {ob : Nat} {W : World} {st : Option (List UInt8)} (h : OStO ob W st) : ob < W.heap.size := by
  obtain ⟨vb, B, bad, ho, _, _⟩ := h
  exact heap_lt ho.box
theorem KeepO.rowO {ob : Nat} {W W' : World} {b n z : Nat} {e : TypeId} {v : Value} {xs : List Value} (h : KeepO ob W W') {st : Option (List UInt8)} (ho : OStO ob W st)
    (hr : W.ownsRow b e z v n xs) (h1 : e ≠ 5) (h2 : e ≠ 82) : W'.ownsRow b e z v n xs := by
  obtain ⟨vb, B, bad, ho, _, _⟩ := ho
  exact h.row ho hr h1 h2
theorem KeepO.keepSO {ob : Nat} {W W' : World} (h : KeepO ob W W') {st : Option (List UInt8)} (ho : OStO ob W st) (M : Nat) : KeepS M W W' := by
  obtain ⟨vb, B, bad, ho, _, _⟩ := ho
  exact h.keepS ho M

set_option maxHeartbeats 8000000 in
theorem specLift {ns : List Nd} (hn : ns.length ≤ 100000) (hsl : ∀ nd ∈ ns, ∃ a n c, nd.lv = .slice a n c) {b M ob a : Nat} (ha : a ≤ 999) : ∀ (T : Tm) (k c : Nat) (W : World) (v : Value) (st : Option (List UInt8)), OStO ob W st → W.ownsRow b 75 7 v ns.length (flatN ns) → Rep W M ns k T → T.Ok → T.bytes.length ≤ 100000 → c + T.bytes.length ≤ 200000 →
    Calls Tryd.prog 65 #[.pointer (some ⟨ob, 0, none⟩), v, .int .i64 (k : Int), .int .i64 (a : Int), .int .i64 (c : Int)] W fun e w' => e = .returned (.tuple #[]) ∧ KeepO ob W w' ∧ OStO ob w' (sayT st (T.lift a c)) := by
  have hklt : ∀ (k : Nat) nd, ns[k]? = some nd → k < ns.length := fun k nd h => by
    by_cases hl : k < ns.length
    · exact hl
    · rw [List.getElem?_eq_none (by omega)] at h; cases h
  intro T
  induction T with
  | var n =>
    intro k c W v st hO hrow hr hok hle hcc
    obtain ⟨nd, hnd, HK⟩ := hr
    obtain ⟨sa, sn, sc, hlv⟩ := hsl nd (List.mem_of_getElem? hnd)
    have hlt := hklt k nd hnd
    obtain ⟨g, cap, rfl, _, hgl⟩ := hrow.form (by omega)
    have c0 : W.cell? ⟨g, k * 7, none⟩ = some (.int .u8 (nd.kind.toNat : Int)) := node_at hrow hnd 0 (by decide)
    have c1 : W.cell? ⟨g, k * 7 + 1, none⟩ = some (.int .i64 (nd.a : Int)) := node_at hrow hnd 1 (by decide)
    have c2 : W.cell? ⟨g, k * 7 + 2, none⟩ = some (.int .i64 (nd.b : Int)) := node_at hrow hnd 2 (by decide)
    have c3 : W.cell? ⟨g, k * 7 + 3, none⟩ = some (.int .i64 (nd.c : Int)) := node_at hrow hnd 3 (by decide)
    have c4 : W.cell? ⟨g, k * 7 + 4, none⟩ = some (.int .i64 (nd.num : Int)) := node_at hrow hnd 4 (by decide)
    have c5 : W.cell? ⟨g, k * 7 + 5, none⟩ = some (.string ⟨nd.text.toArray⟩) := node_at hrow hnd 5 (by decide)
    have c6 : W.cell? ⟨g, k * 7 + 6, none⟩ = some (.slice sa sn sc) := by rw [← hlv]; exact node_at hrow hnd 6 (by decide)
    have q1 : (0 : Int) ≤ (k : Int) := by omega
    have q2 : (k : Int) < (ns.length : Int) := by omega
    have hkind : nd.kind = 118 := HK.1
    have hnum : nd.num = n := HK.2.1
    have hn9 : n ≤ 999 := hok
    rw [hkind] at c0
    rw [hnum] at c4
    clear hnum
    have b1 := (Below.refl W.heap.size W).alloc (Nat.le_refl _) (.cells #[.int .u8 118, .int .i64 (nd.a : Int), .int .i64 (nd.b : Int), .int .i64 (nd.c : Int), .int .i64 (n : Int), .string ⟨nd.text.toArray⟩, .slice sa sn sc] 75)
    have HO1 := hO.below b1
    have hob := hO.lt
    have KB : KeepO ob W (W.alloc (.cells #[.int .u8 118, .int .i64 (nd.a : Int), .int .i64 (nd.b : Int), .int .i64 (nd.c : Int), .int .i64 (n : Int), .string ⟨nd.text.toArray⟩, .slice sa sn sc] 75)) := KeepO.below b1 (Nat.le_of_lt hob)
    obtain ⟨vb, B, bad, ho, hB, rfl⟩ := HO1
    have k1 : (W.alloc (.cells #[.int .u8 118, .int .i64 (nd.a : Int), .int .i64 (nd.b : Int), .int .i64 (nd.c : Int), .int .i64 (n : Int), .string ⟨nd.text.toArray⟩, .slice sa sn sc] 75)).cell? ⟨ob, 1, none⟩ = some (.bool bad) := cell_of_row _ _ _ _ _ _ ho.box
    cases bad
    rotate_left
    · have HS := Lib.hid ho
      have KB' := KB
      clear hO hrow hnd hkind hlv hsl hklt ho b1 KB HK
      go_enter Tryd.func65, Tryd.ntmps65
      go_wp2
      refine bodyPost_ret (results_none rfl _ _ _) rfl ?_
      exact ⟨rfl, KB', ⟨vb, B, true, HS.out, hB, rfl⟩⟩
    have HO1 : OStO ob (W.alloc (.cells #[.int .u8 118, .int .i64 (nd.a : Int), .int .i64 (nd.b : Int), .int .i64 (nd.c : Int), .int .i64 (n : Int), .string ⟨nd.text.toArray⟩, .slice sa sn sc] 75)) (some B) := ⟨vb, B, false, ho, hB, rfl⟩
    have HOS := Lib.hid ho
    have HO2 := Lib.hid HO1
    have HKB := Lib.hid KB
    have fV := Lib.hid specVar
    have z1 : (W.alloc (.cells #[.int .u8 118, .int .i64 (nd.a : Int), .int .i64 (nd.b : Int), .int .i64 (nd.c : Int), .int .i64 (n : Int), .string ⟨nd.text.toArray⟩, .slice sa sn sc] 75)).frozen? ⟨ob, 1, none⟩ = false := frozen_of_row _ _ _ _ _ ho.box
    by_cases hc : c ≤ n
    · have d1 : decide ((c : Int) ≤ (n : Int)) = true := decide_eq_true (by omega)
      have d1n : decide (c ≤ n) = true := decide_eq_true hc
      by_cases h9 : n + a ≤ 999
      · have d2 : decide ((999 : Int) < (n : Int) + (a : Int)) = false := decide_eq_false (by omega)
        have hR : (Tm.var n).lift a c = .var (n + a) := by rw [Tm.lift, if_pos hc]
        have HE : Hid (sayT (some B) ((Tm.var n).lift a c) = say (some B) (Tm.var (n + a)).bytes) := by rw [Hid, hR]; exact sayT_ok (R := .var (n + a)) h9 _
        have zb : (Tm.var (n + a)).bytes.length ≤ 12 := by
          have hd : (Lib.decDigits (n + a)).length ≤ 10 := digits_len (by omega)
          simp only [Tm.bytes, List.length_cons, List.length_append, List.length_nil]
          omega
        have fV2 := Lib.hid fun W => specVar (n + a) W (by omega)
        rw [show ((n + a : Nat) : Int) = (n : Int) + (a : Int) by omega] at fV2
        clear hO hrow hnd hkind hlv hsl hklt ho b1 KB HK HO1 z1 hR fV
        generalize (Tm.var (n + a)).bytes = tb at fV2 HE zb
        go_enter Tryd.func65, Tryd.ntmps65
        go_wp2_with fail
        (with_reducible refine (fV2.out _).mono ?_); rintro e w2 ⟨rfl, hb2⟩
        have HO3 := HO2.out.below hb2
        have K3 := HKB.out.trans (KeepO.below hb2 (Nat.le_of_lt HO2.out.lt))
        have fS := Lib.hid (specSay tb HO3 (by omega))
        have HK3 := Lib.hid K3
        clear HO3 K3 hb2
        go_wp2_with fail
        (with_reducible refine fS.out.mono ?_); rintro e w3 ⟨rfl, hk3, ho3⟩
        have H := Lib.hid (And.intro (HK3.out.trans hk3) ho3)
        clear hk3 ho3
        go_wp2
        first | go_end0 | refine bodyPost_ret (results_none rfl _ _ _) rfl ?_
        rw [HE.out]
        exact ⟨rfl, H.out⟩
      · have d2 : decide ((999 : Int) < (n : Int) + (a : Int)) = true := decide_eq_true (by omega)
        have hR : (Tm.var n).lift a c = .var (n + a) := by rw [Tm.lift, if_pos hc]
        have HE : Hid (sayT (some B) ((Tm.var n).lift a c) = none) := by rw [Hid, hR]; exact sayT_bad (R := .var (n + a)) h9 _
        obtain ⟨r1, r2⟩ := ho.mark
        have H : Hid (KeepO ob W ((W.alloc (.cells #[.int .u8 118, .int .i64 (nd.a : Int), .int .i64 (nd.b : Int), .int .i64 (nd.c : Int), .int .i64 (n : Int), .string ⟨nd.text.toArray⟩, .slice sa sn sc] 75)).setCell ⟨ob, 1, none⟩ (.bool true)) ∧ OStO ob ((W.alloc (.cells #[.int .u8 118, .int .i64 (nd.a : Int), .int .i64 (nd.b : Int), .int .i64 (nd.c : Int), .int .i64 (n : Int), .string ⟨nd.text.toArray⟩, .slice sa sn sc] 75)).setCell ⟨ob, 1, none⟩ (.bool true)) none) := ⟨KB.trans r2, vb, B, true, r1, hB, rfl⟩
        clear hO hrow hnd hkind hlv hsl hklt ho b1 KB HK HO1 hR fV r1 r2
        go_enter Tryd.func65, Tryd.ntmps65
        go_wp2
        first | go_end0 | refine bodyPost_ret (results_none rfl _ _ _) rfl ?_
        rw [HE.out]
        have HH := H.out
        rw [World.setCell_alloc_past (hn := hob)] at HH
        exact ⟨rfl, HH⟩
    · have d1 : decide ((c : Int) ≤ (n : Int)) = false := decide_eq_false (by omega)
      have d1n : decide (c ≤ n) = false := decide_eq_false hc
      have hR : (Tm.var n).lift a c = .var n := by rw [Tm.lift, if_neg hc]
      have HE : Hid (sayT (some B) ((Tm.var n).lift a c) = say (some B) (Tm.var n).bytes) := by rw [Hid, hR]; exact sayT_ok (R := .var n) hn9 _
      have zb : (Tm.var n).bytes.length ≤ 12 := by
        have hd : (Lib.decDigits n).length ≤ 10 := digits_len (by omega)
        simp only [Tm.bytes, List.length_cons, List.length_append, List.length_nil]
        omega
      have fV2 := Lib.hid fun W => specVar n W (by omega)
      clear hO hrow hnd hkind hlv hsl hklt ho b1 KB HK HO1 z1 hR fV
      generalize (Tm.var n).bytes = tb at fV2 HE zb
      go_enter Tryd.func65, Tryd.ntmps65
      go_wp2_with fail
      (with_reducible refine (fV2.out _).mono ?_); rintro e w2 ⟨rfl, hb2⟩
      have HO3 := HO2.out.below hb2
      have K3 := HKB.out.trans (KeepO.below hb2 (Nat.le_of_lt HO2.out.lt))
      have fS := Lib.hid (specSay tb HO3 (by omega))
      have HK3 := Lib.hid K3
      clear HO3 K3 hb2
      go_wp2_with fail
      (with_reducible refine fS.out.mono ?_); rintro e w3 ⟨rfl, hk3, ho3⟩
      have H := Lib.hid (And.intro (HK3.out.trans hk3) ho3)
      clear hk3 ho3
      go_wp2
      first | go_end0 | refine bodyPost_ret (results_none rfl _ _ _) rfl ?_
      rw [HE.out]
      exact ⟨rfl, H.out⟩
  | sort l =>
    intro k c W v st hO hrow hr hok hle hcc
    obtain ⟨nd, hnd, HK⟩ := hr
    obtain ⟨sa, sn, sc, hlv⟩ := hsl nd (List.mem_of_getElem? hnd)
    have hlt := hklt k nd hnd
    obtain ⟨g, cap, rfl, _, hgl⟩ := hrow.form (by omega)
    have c0 : W.cell? ⟨g, k * 7, none⟩ = some (.int .u8 (nd.kind.toNat : Int)) := node_at hrow hnd 0 (by decide)
    have c1 : W.cell? ⟨g, k * 7 + 1, none⟩ = some (.int .i64 (nd.a : Int)) := node_at hrow hnd 1 (by decide)
    have c2 : W.cell? ⟨g, k * 7 + 2, none⟩ = some (.int .i64 (nd.b : Int)) := node_at hrow hnd 2 (by decide)
    have c3 : W.cell? ⟨g, k * 7 + 3, none⟩ = some (.int .i64 (nd.c : Int)) := node_at hrow hnd 3 (by decide)
    have c4 : W.cell? ⟨g, k * 7 + 4, none⟩ = some (.int .i64 (nd.num : Int)) := node_at hrow hnd 4 (by decide)
    have c5 : W.cell? ⟨g, k * 7 + 5, none⟩ = some (.string ⟨nd.text.toArray⟩) := node_at hrow hnd 5 (by decide)
    have c6 : W.cell? ⟨g, k * 7 + 6, none⟩ = some (.slice sa sn sc) := by rw [← hlv]; exact node_at hrow hnd 6 (by decide)
    have q1 : (0 : Int) ≤ (k : Int) := by omega
    have q2 : (k : Int) < (ns.length : Int) := by omega
    have hkind : nd.kind = 115 := HK.1
    rw [hkind] at c0
    have hrep : Rep W M ns k (.sort l) := ⟨nd, hnd, HK⟩
    have b1 := (Below.refl W.heap.size W).alloc (Nat.le_refl _) (.cells #[.int .u8 115, .int .i64 (nd.a : Int), .int .i64 (nd.b : Int), .int .i64 (nd.c : Int), .int .i64 (nd.num : Int), .string ⟨nd.text.toArray⟩, .slice sa sn sc] 75)
    have HO1 := hO.below b1
    have hob := hO.lt
    have KB : KeepO ob W (W.alloc (.cells #[.int .u8 115, .int .i64 (nd.a : Int), .int .i64 (nd.b : Int), .int .i64 (nd.c : Int), .int .i64 (nd.num : Int), .string ⟨nd.text.toArray⟩, .slice sa sn sc] 75)) := KeepO.below b1 (Nat.le_of_lt hob)
    obtain ⟨vb, B, bad, ho, hB, rfl⟩ := HO1
    have k1 : (W.alloc (.cells #[.int .u8 115, .int .i64 (nd.a : Int), .int .i64 (nd.b : Int), .int .i64 (nd.c : Int), .int .i64 (nd.num : Int), .string ⟨nd.text.toArray⟩, .slice sa sn sc] 75)).cell? ⟨ob, 1, none⟩ = some (.bool bad) := cell_of_row _ _ _ _ _ _ ho.box
    cases bad
    rotate_left
    · have HS := Lib.hid ho
      have KB' := KB
      clear hrep
      clear hO hrow hnd hkind hlv hsl hklt ho b1 KB HK
      go_enter Tryd.func65, Tryd.ntmps65
      go_wp2
      refine bodyPost_ret (results_none rfl _ _ _) rfl ?_
      exact ⟨rfl, KB', ⟨vb, B, true, HS.out, hB, rfl⟩⟩
    have HO2 : Hid (OStO ob (W.alloc (.cells #[.int .u8 115, .int .i64 (nd.a : Int), .int .i64 (nd.b : Int), .int .i64 (nd.c : Int), .int .i64 (nd.num : Int), .string ⟨nd.text.toArray⟩, .slice sa sn sc] 75)) (some B)) := ⟨vb, B, false, ho, hB, rfl⟩
    have HKB := Lib.hid KB
    have hR : (Tm.sort l).lift a c = .sort l := rfl
    have HE : Hid (sayT (some B) ((Tm.sort l).lift a c) = say (some B) (Tm.sort l).bytes) := by rw [Hid, hR]; exact sayT_ok hok _
    have fT := Lib.hid (specL06Text hn hsl (.sort l) k _ _ (own_below hrow b1) (Rep.keep (fun _ _ _ h => own_below h b1) (Ext.refl _) _ _ hrep) hok hle)
    clear hO hrow hnd hkind hlv hsl hklt ho b1 KB HK hrep hR hok
    generalize (Tm.sort l).bytes = tb at fT HE hle
    go_enter Tryd.func65, Tryd.ntmps65
    go_wp2_with fail
    (with_reducible refine fT.out.mono ?_); rintro e w2 ⟨rfl, hb2⟩
    have HO3 := HO2.out.below hb2
    have K3 := HKB.out.trans (KeepO.below hb2 (Nat.le_of_lt HO2.out.lt))
    have fS := Lib.hid (specSay tb HO3 (by omega))
    have HK3 := Lib.hid K3
    clear HO3 K3 hb2
    go_wp2_with fail
    (with_reducible refine fS.out.mono ?_); rintro e w3 ⟨rfl, hk3, ho3⟩
    have H := Lib.hid (And.intro (HK3.out.trans hk3) ho3)
    clear hk3 ho3
    go_wp2
    first | go_end0 | refine bodyPost_ret (results_none rfl _ _ _) rfl ?_
    rw [HE.out]
    exact ⟨rfl, H.out⟩
  | const n ls =>
    intro k c W v st hO hrow hr hok hle hcc
    obtain ⟨nd, hnd, HK⟩ := hr
    obtain ⟨sa, sn, sc, hlv⟩ := hsl nd (List.mem_of_getElem? hnd)
    have hlt := hklt k nd hnd
    obtain ⟨g, cap, rfl, _, hgl⟩ := hrow.form (by omega)
    have c0 : W.cell? ⟨g, k * 7, none⟩ = some (.int .u8 (nd.kind.toNat : Int)) := node_at hrow hnd 0 (by decide)
    have c1 : W.cell? ⟨g, k * 7 + 1, none⟩ = some (.int .i64 (nd.a : Int)) := node_at hrow hnd 1 (by decide)
    have c2 : W.cell? ⟨g, k * 7 + 2, none⟩ = some (.int .i64 (nd.b : Int)) := node_at hrow hnd 2 (by decide)
    have c3 : W.cell? ⟨g, k * 7 + 3, none⟩ = some (.int .i64 (nd.c : Int)) := node_at hrow hnd 3 (by decide)
    have c4 : W.cell? ⟨g, k * 7 + 4, none⟩ = some (.int .i64 (nd.num : Int)) := node_at hrow hnd 4 (by decide)
    have c5 : W.cell? ⟨g, k * 7 + 5, none⟩ = some (.string ⟨nd.text.toArray⟩) := node_at hrow hnd 5 (by decide)
    have c6 : W.cell? ⟨g, k * 7 + 6, none⟩ = some (.slice sa sn sc) := by rw [← hlv]; exact node_at hrow hnd 6 (by decide)
    have q1 : (0 : Int) ≤ (k : Int) := by omega
    have q2 : (k : Int) < (ns.length : Int) := by omega
    have hkind : nd.kind = 99 := HK.1
    rw [hkind] at c0
    have hrep : Rep W M ns k (.const n ls) := ⟨nd, hnd, HK⟩
    have b1 := (Below.refl W.heap.size W).alloc (Nat.le_refl _) (.cells #[.int .u8 99, .int .i64 (nd.a : Int), .int .i64 (nd.b : Int), .int .i64 (nd.c : Int), .int .i64 (nd.num : Int), .string ⟨nd.text.toArray⟩, .slice sa sn sc] 75)
    have HO1 := hO.below b1
    have hob := hO.lt
    have KB : KeepO ob W (W.alloc (.cells #[.int .u8 99, .int .i64 (nd.a : Int), .int .i64 (nd.b : Int), .int .i64 (nd.c : Int), .int .i64 (nd.num : Int), .string ⟨nd.text.toArray⟩, .slice sa sn sc] 75)) := KeepO.below b1 (Nat.le_of_lt hob)
    obtain ⟨vb, B, bad, ho, hB, rfl⟩ := HO1
    have k1 : (W.alloc (.cells #[.int .u8 99, .int .i64 (nd.a : Int), .int .i64 (nd.b : Int), .int .i64 (nd.c : Int), .int .i64 (nd.num : Int), .string ⟨nd.text.toArray⟩, .slice sa sn sc] 75)).cell? ⟨ob, 1, none⟩ = some (.bool bad) := cell_of_row _ _ _ _ _ _ ho.box
    cases bad
    rotate_left
    · have HS := Lib.hid ho
      have KB' := KB
      clear hrep
      clear hO hrow hnd hkind hlv hsl hklt ho b1 KB HK
      go_enter Tryd.func65, Tryd.ntmps65
      go_wp2
      refine bodyPost_ret (results_none rfl _ _ _) rfl ?_
      exact ⟨rfl, KB', ⟨vb, B, true, HS.out, hB, rfl⟩⟩
    have HO2 : Hid (OStO ob (W.alloc (.cells #[.int .u8 99, .int .i64 (nd.a : Int), .int .i64 (nd.b : Int), .int .i64 (nd.c : Int), .int .i64 (nd.num : Int), .string ⟨nd.text.toArray⟩, .slice sa sn sc] 75)) (some B)) := ⟨vb, B, false, ho, hB, rfl⟩
    have HKB := Lib.hid KB
    have hR : (Tm.const n ls).lift a c = .const n ls := rfl
    have HE : Hid (sayT (some B) ((Tm.const n ls).lift a c) = say (some B) (Tm.const n ls).bytes) := by rw [Hid, hR]; exact sayT_ok hok _
    have fT := Lib.hid (specL06Text hn hsl (.const n ls) k _ _ (own_below hrow b1) (Rep.keep (fun _ _ _ h => own_below h b1) (Ext.refl _) _ _ hrep) hok hle)
    clear hO hrow hnd hkind hlv hsl hklt ho b1 KB HK hrep hR hok
    generalize (Tm.const n ls).bytes = tb at fT HE hle
    go_enter Tryd.func65, Tryd.ntmps65
    go_wp2_with fail
    (with_reducible refine fT.out.mono ?_); rintro e w2 ⟨rfl, hb2⟩
    have HO3 := HO2.out.below hb2
    have K3 := HKB.out.trans (KeepO.below hb2 (Nat.le_of_lt HO2.out.lt))
    have fS := Lib.hid (specSay tb HO3 (by omega))
    have HK3 := Lib.hid K3
    clear HO3 K3 hb2
    go_wp2_with fail
    (with_reducible refine fS.out.mono ?_); rintro e w3 ⟨rfl, hk3, ho3⟩
    have H := Lib.hid (And.intro (HK3.out.trans hk3) ho3)
    clear hk3 ho3
    go_wp2
    first | go_end0 | refine bodyPost_ret (results_none rfl _ _ _) rfl ?_
    rw [HE.out]
    exact ⟨rfl, H.out⟩
  | app f x ihf ihx =>
    intro k c W v st hO hrow hr hok hle hcc
    obtain ⟨nd, hnd, HK⟩ := hr
    obtain ⟨sa, sn, sc, hlv⟩ := hsl nd (List.mem_of_getElem? hnd)
    have hlt := hklt k nd hnd
    obtain ⟨g, cap, rfl, _, hgl⟩ := hrow.form (by omega)
    have c0 : W.cell? ⟨g, k * 7, none⟩ = some (.int .u8 (nd.kind.toNat : Int)) := node_at hrow hnd 0 (by decide)
    have c1 : W.cell? ⟨g, k * 7 + 1, none⟩ = some (.int .i64 (nd.a : Int)) := node_at hrow hnd 1 (by decide)
    have c2 : W.cell? ⟨g, k * 7 + 2, none⟩ = some (.int .i64 (nd.b : Int)) := node_at hrow hnd 2 (by decide)
    have c3 : W.cell? ⟨g, k * 7 + 3, none⟩ = some (.int .i64 (nd.c : Int)) := node_at hrow hnd 3 (by decide)
    have c4 : W.cell? ⟨g, k * 7 + 4, none⟩ = some (.int .i64 (nd.num : Int)) := node_at hrow hnd 4 (by decide)
    have c5 : W.cell? ⟨g, k * 7 + 5, none⟩ = some (.string ⟨nd.text.toArray⟩) := node_at hrow hnd 5 (by decide)
    have c6 : W.cell? ⟨g, k * 7 + 6, none⟩ = some (.slice sa sn sc) := by rw [← hlv]; exact node_at hrow hnd 6 (by decide)
    have q1 : (0 : Int) ≤ (k : Int) := by omega
    have q2 : (k : Int) < (ns.length : Int) := by omega
    obtain ⟨hkind, hr1, hr2⟩ := HK
    rw [hkind] at c0
    have b1 := (Below.refl W.heap.size W).alloc (Nat.le_refl _) (.cells #[.int .u8 64, .int .i64 (nd.a : Int), .int .i64 (nd.b : Int), .int .i64 (nd.c : Int), .int .i64 (nd.num : Int), .string ⟨nd.text.toArray⟩, .slice sa sn sc] 75)
    have HO1 := hO.below b1
    have hob := hO.lt
    have KB : KeepO ob W (W.alloc (.cells #[.int .u8 64, .int .i64 (nd.a : Int), .int .i64 (nd.b : Int), .int .i64 (nd.c : Int), .int .i64 (nd.num : Int), .string ⟨nd.text.toArray⟩, .slice sa sn sc] 75)) := KeepO.below b1 (Nat.le_of_lt hob)
    obtain ⟨vb, B, bad, ho, hB, rfl⟩ := HO1
    have k1 : (W.alloc (.cells #[.int .u8 64, .int .i64 (nd.a : Int), .int .i64 (nd.b : Int), .int .i64 (nd.c : Int), .int .i64 (nd.num : Int), .string ⟨nd.text.toArray⟩, .slice sa sn sc] 75)).cell? ⟨ob, 1, none⟩ = some (.bool bad) := cell_of_row _ _ _ _ _ _ ho.box
    cases bad
    rotate_left
    · have HS := Lib.hid ho
      have KB' := KB
      clear hO hrow hnd hkind hlv hsl hklt ho b1 KB hr1 hr2 ihf ihx
      go_enter Tryd.func65, Tryd.ntmps65
      go_wp2
      refine bodyPost_ret (results_none rfl _ _ _) rfl ?_
      exact ⟨rfl, KB', ⟨vb, B, true, HS.out, hB, rfl⟩⟩
    have HO2 : Hid (OStO ob (W.alloc (.cells #[.int .u8 64, .int .i64 (nd.a : Int), .int .i64 (nd.b : Int), .int .i64 (nd.c : Int), .int .i64 (nd.num : Int), .string ⟨nd.text.toArray⟩, .slice sa sn sc] 75)) (some B)) := ⟨vb, B, false, ho, hB, rfl⟩
    have HKB := Lib.hid KB
    have hblk : (W.alloc (.cells #[.int .u8 64, .int .i64 (nd.a : Int), .int .i64 (nd.b : Int), .int .i64 (nd.c : Int), .int .i64 (nd.num : Int), .string ⟨nd.text.toArray⟩, .slice sa sn sc] 75)).heap[W.heap.size]? = some (.cells #[.int .u8 64, .int .i64 (nd.a : Int), .int .i64 (nd.b : Int), .int .i64 (nd.c : Int), .int .i64 (nd.num : Int), .string ⟨nd.text.toArray⟩, .slice sa sn sc] 75 (0, 0)) := heap_alloc_new W _
    have HBC : Hid (∀ W', KeepO ob (W.alloc (.cells #[.int .u8 64, .int .i64 (nd.a : Int), .int .i64 (nd.b : Int), .int .i64 (nd.c : Int), .int .i64 (nd.num : Int), .string ⟨nd.text.toArray⟩, .slice sa sn sc] 75)) W' → W'.cell? ⟨W.heap.size, 0, none⟩ = some (.int .u8 64) ∧ W'.cell? ⟨W.heap.size, 1, none⟩ = some (.int .i64 (nd.a : Int)) ∧ W'.cell? ⟨W.heap.size, 2, none⟩ = some (.int .i64 (nd.b : Int)) ∧ W'.cell? ⟨W.heap.size, 3, none⟩ = some (.int .i64 (nd.c : Int))) := fun W' hk => by
      have h := (hk.typ _ _ _ _ hblk (by decide) (by omega)).trans hblk
      exact ⟨cell_of_row _ _ _ _ _ _ h, cell_of_row _ _ _ _ _ _ h, cell_of_row _ _ _ _ _ _ h, cell_of_row _ _ _ _ _ _ h⟩
    have Hf : Hid (∀ W' s', KeepO ob (W.alloc (.cells #[.int .u8 64, .int .i64 (nd.a : Int), .int .i64 (nd.b : Int), .int .i64 (nd.c : Int), .int .i64 (nd.num : Int), .string ⟨nd.text.toArray⟩, .slice sa sn sc] 75)) W' → OStO ob W' s' → Calls Tryd.prog 65 #[.pointer (some ⟨ob, 0, none⟩), .slice (some ⟨g, 0, none⟩) ns.length cap, .int .i64 (nd.a : Int), .int .i64 (a : Int), .int .i64 (c : Int)] W' fun e w' => e = .returned (.tuple #[]) ∧ KeepO ob W' w' ∧ OStO ob w' (sayT s' (f.lift a c))) := fun W' s' hk ho' => by
      have := ihf nd.a c W' _ s' ho' (hk.rowO HO2.out (own_below hrow b1) (by decide) (by decide)) (Rep.keep (hk.keepSO HO2.out M) (Ext.refl _) _ _ (Rep.keep (fun _ _ _ h => own_below h b1) (Ext.refl _) _ _ hr1)) hok.1 (by simp only [Tm.bytes, List.length_cons, List.length_append] at hle; omega) (by simp only [Tm.bytes, List.length_cons, List.length_append] at hcc; omega)
      exact this
    have Hx : Hid (∀ W' s', KeepO ob (W.alloc (.cells #[.int .u8 64, .int .i64 (nd.a : Int), .int .i64 (nd.b : Int), .int .i64 (nd.c : Int), .int .i64 (nd.num : Int), .string ⟨nd.text.toArray⟩, .slice sa sn sc] 75)) W' → OStO ob W' s' → Calls Tryd.prog 65 #[.pointer (some ⟨ob, 0, none⟩), .slice (some ⟨g, 0, none⟩) ns.length cap, .int .i64 (nd.b : Int), .int .i64 (a : Int), .int .i64 (c : Int)] W' fun e w' => e = .returned (.tuple #[]) ∧ KeepO ob W' w' ∧ OStO ob w' (sayT s' (x.lift a c))) := fun W' s' hk ho' => by
      have := ihx nd.b c W' _ s' ho' (hk.rowO HO2.out (own_below hrow b1) (by decide) (by decide)) (Rep.keep (hk.keepSO HO2.out M) (Ext.refl _) _ _ (Rep.keep (fun _ _ _ h => own_below h b1) (Ext.refl _) _ _ hr2)) hok.2 (by simp only [Tm.bytes, List.length_cons, List.length_append] at hle; omega) (by simp only [Tm.bytes, List.length_cons, List.length_append] at hcc; omega)
      exact this
    have HE : Hid (sayT (sayT (say (some B) [64]) (f.lift a c)) (x.lift a c) = sayT (some B) ((Tm.app f x).lift a c)) := sayT_two rfl Iff.rfl _
    have z1 : (W.alloc (.cells #[.int .u8 64, .int .i64 (nd.a : Int), .int .i64 (nd.b : Int), .int .i64 (nd.c : Int), .int .i64 (nd.num : Int), .string ⟨nd.text.toArray⟩, .slice sa sn sc] 75)).heap.size = W.heap.size + 1 := by simp
    clear hO hrow hnd hkind hlv hsl hklt ho b1 KB hblk hr1 hr2 ihf ihx hok hle
    generalize f.lift a c = fl at Hf HE
    generalize x.lift a c = xl at Hx HE
    have cv := conv_one (P := Tryd.prog) (t := 22) (d := 9) (W.alloc (.cells #[.int .u8 64, .int .i64 (nd.a : Int), .int .i64 (nd.b : Int), .int .i64 (nd.c : Int), .int .i64 (nd.num : Int), .string ⟨nd.text.toArray⟩, .slice sa sn sc] 75)) 64 Tryd.underlying22 Tryd.underlying5 Tryd.underlying9 (by omega) (by omega)
    rw [z1, show (⟨#[UInt8.ofNat ((64 : Int).toNat)]⟩ : ByteArray) = ⟨#[64]⟩ from rfl] at cv
    have bs := (Below.refl (W.alloc (.cells #[.int .u8 64, .int .i64 (nd.a : Int), .int .i64 (nd.b : Int), .int .i64 (nd.c : Int), .int .i64 (nd.num : Int), .string ⟨nd.text.toArray⟩, .slice sa sn sc] 75)).heap.size (W.alloc (.cells #[.int .u8 64, .int .i64 (nd.a : Int), .int .i64 (nd.b : Int), .int .i64 (nd.c : Int), .int .i64 (nd.num : Int), .string ⟨nd.text.toArray⟩, .slice sa sn sc] 75))).alloc (Nat.le_refl _) (.cells #[.int .u8 64] 5)
    have HO3 := HO2.out.below bs
    have HK3 := Lib.hid (KeepO.below bs (Nat.le_of_lt HO2.out.lt))
    have fS := Lib.hid (specSay [64] HO3 (by decide))
    clear bs HO3
    go_enter Tryd.func65, Tryd.ntmps65
    go_wp2_with fail
    (refine fS.out.mono ?_); rintro e w3 ⟨rfl, hk3, ho3⟩
    have HKc := Lib.hid (HK3.out.trans hk3)
    have HOc := Lib.hid ho3
    clear hk3 ho3 HK3 fS cv
    obtain ⟨x0, x1, x2, x3⟩ := HBC.out _ HKc.out
    go_wp2_with fail
    (with_reducible refine (Hf.out _ _ HKc.out HOc.out).mono ?_); rintro e w4 ⟨rfl, hk4, ho4⟩
    have HK4 := Lib.hid (HKc.out.trans hk4)
    have HO4 := Lib.hid ho4
    clear hk4 ho4 HKc HOc x0 x1 x2 x3 Hf
    have HKc := HK4
    have HOc := HO4
    clear HK4 HO4
    obtain ⟨x0, x1, x2, x3⟩ := HBC.out _ HKc.out
    go_wp2_with fail
    (with_reducible refine (Hx.out _ _ HKc.out HOc.out).mono ?_); rintro e w5 ⟨rfl, hk4, ho4⟩
    have HK5 := Lib.hid (HKc.out.trans hk4)
    have HO5 := Lib.hid ho4
    clear hk4 ho4 HKc HOc x0 x1 x2 x3 Hx
    have HKc := HK5
    have HOc := HO5
    clear HK5 HO5
    obtain ⟨x0, x1, x2, x3⟩ := HBC.out _ HKc.out
    have H := Lib.hid (And.intro (HKB.out.trans HKc.out) HOc.out)
    clear HKc HOc x0 x1 x2 x3 HBC HKB
    go_wp2
    first | go_end0 | refine bodyPost_ret (results_none rfl _ _ _) rfl ?_
    rw [← HE.out]
    exact ⟨rfl, H.out⟩
  | lam f x ihf ihx =>
    intro k c W v st hO hrow hr hok hle hcc
    obtain ⟨nd, hnd, HK⟩ := hr
    obtain ⟨sa, sn, sc, hlv⟩ := hsl nd (List.mem_of_getElem? hnd)
    have hlt := hklt k nd hnd
    obtain ⟨g, cap, rfl, _, hgl⟩ := hrow.form (by omega)
    have c0 : W.cell? ⟨g, k * 7, none⟩ = some (.int .u8 (nd.kind.toNat : Int)) := node_at hrow hnd 0 (by decide)
    have c1 : W.cell? ⟨g, k * 7 + 1, none⟩ = some (.int .i64 (nd.a : Int)) := node_at hrow hnd 1 (by decide)
    have c2 : W.cell? ⟨g, k * 7 + 2, none⟩ = some (.int .i64 (nd.b : Int)) := node_at hrow hnd 2 (by decide)
    have c3 : W.cell? ⟨g, k * 7 + 3, none⟩ = some (.int .i64 (nd.c : Int)) := node_at hrow hnd 3 (by decide)
    have c4 : W.cell? ⟨g, k * 7 + 4, none⟩ = some (.int .i64 (nd.num : Int)) := node_at hrow hnd 4 (by decide)
    have c5 : W.cell? ⟨g, k * 7 + 5, none⟩ = some (.string ⟨nd.text.toArray⟩) := node_at hrow hnd 5 (by decide)
    have c6 : W.cell? ⟨g, k * 7 + 6, none⟩ = some (.slice sa sn sc) := by rw [← hlv]; exact node_at hrow hnd 6 (by decide)
    have q1 : (0 : Int) ≤ (k : Int) := by omega
    have q2 : (k : Int) < (ns.length : Int) := by omega
    obtain ⟨hkind, hr1, hr2⟩ := HK
    rw [hkind] at c0
    have b1 := (Below.refl W.heap.size W).alloc (Nat.le_refl _) (.cells #[.int .u8 108, .int .i64 (nd.a : Int), .int .i64 (nd.b : Int), .int .i64 (nd.c : Int), .int .i64 (nd.num : Int), .string ⟨nd.text.toArray⟩, .slice sa sn sc] 75)
    have HO1 := hO.below b1
    have hob := hO.lt
    have KB : KeepO ob W (W.alloc (.cells #[.int .u8 108, .int .i64 (nd.a : Int), .int .i64 (nd.b : Int), .int .i64 (nd.c : Int), .int .i64 (nd.num : Int), .string ⟨nd.text.toArray⟩, .slice sa sn sc] 75)) := KeepO.below b1 (Nat.le_of_lt hob)
    obtain ⟨vb, B, bad, ho, hB, rfl⟩ := HO1
    have k1 : (W.alloc (.cells #[.int .u8 108, .int .i64 (nd.a : Int), .int .i64 (nd.b : Int), .int .i64 (nd.c : Int), .int .i64 (nd.num : Int), .string ⟨nd.text.toArray⟩, .slice sa sn sc] 75)).cell? ⟨ob, 1, none⟩ = some (.bool bad) := cell_of_row _ _ _ _ _ _ ho.box
    cases bad
    rotate_left
    · have HS := Lib.hid ho
      have KB' := KB
      clear hO hrow hnd hkind hlv hsl hklt ho b1 KB hr1 hr2 ihf ihx
      go_enter Tryd.func65, Tryd.ntmps65
      go_wp2
      refine bodyPost_ret (results_none rfl _ _ _) rfl ?_
      exact ⟨rfl, KB', ⟨vb, B, true, HS.out, hB, rfl⟩⟩
    have HO2 : Hid (OStO ob (W.alloc (.cells #[.int .u8 108, .int .i64 (nd.a : Int), .int .i64 (nd.b : Int), .int .i64 (nd.c : Int), .int .i64 (nd.num : Int), .string ⟨nd.text.toArray⟩, .slice sa sn sc] 75)) (some B)) := ⟨vb, B, false, ho, hB, rfl⟩
    have HKB := Lib.hid KB
    have hblk : (W.alloc (.cells #[.int .u8 108, .int .i64 (nd.a : Int), .int .i64 (nd.b : Int), .int .i64 (nd.c : Int), .int .i64 (nd.num : Int), .string ⟨nd.text.toArray⟩, .slice sa sn sc] 75)).heap[W.heap.size]? = some (.cells #[.int .u8 108, .int .i64 (nd.a : Int), .int .i64 (nd.b : Int), .int .i64 (nd.c : Int), .int .i64 (nd.num : Int), .string ⟨nd.text.toArray⟩, .slice sa sn sc] 75 (0, 0)) := heap_alloc_new W _
    have HBC : Hid (∀ W', KeepO ob (W.alloc (.cells #[.int .u8 108, .int .i64 (nd.a : Int), .int .i64 (nd.b : Int), .int .i64 (nd.c : Int), .int .i64 (nd.num : Int), .string ⟨nd.text.toArray⟩, .slice sa sn sc] 75)) W' → W'.cell? ⟨W.heap.size, 0, none⟩ = some (.int .u8 108) ∧ W'.cell? ⟨W.heap.size, 1, none⟩ = some (.int .i64 (nd.a : Int)) ∧ W'.cell? ⟨W.heap.size, 2, none⟩ = some (.int .i64 (nd.b : Int)) ∧ W'.cell? ⟨W.heap.size, 3, none⟩ = some (.int .i64 (nd.c : Int))) := fun W' hk => by
      have h := (hk.typ _ _ _ _ hblk (by decide) (by omega)).trans hblk
      exact ⟨cell_of_row _ _ _ _ _ _ h, cell_of_row _ _ _ _ _ _ h, cell_of_row _ _ _ _ _ _ h, cell_of_row _ _ _ _ _ _ h⟩
    have Hf : Hid (∀ W' s', KeepO ob (W.alloc (.cells #[.int .u8 108, .int .i64 (nd.a : Int), .int .i64 (nd.b : Int), .int .i64 (nd.c : Int), .int .i64 (nd.num : Int), .string ⟨nd.text.toArray⟩, .slice sa sn sc] 75)) W' → OStO ob W' s' → Calls Tryd.prog 65 #[.pointer (some ⟨ob, 0, none⟩), .slice (some ⟨g, 0, none⟩) ns.length cap, .int .i64 (nd.a : Int), .int .i64 (a : Int), .int .i64 (c : Int)] W' fun e w' => e = .returned (.tuple #[]) ∧ KeepO ob W' w' ∧ OStO ob w' (sayT s' (f.lift a c))) := fun W' s' hk ho' => by
      have := ihf nd.a c W' _ s' ho' (hk.rowO HO2.out (own_below hrow b1) (by decide) (by decide)) (Rep.keep (hk.keepSO HO2.out M) (Ext.refl _) _ _ (Rep.keep (fun _ _ _ h => own_below h b1) (Ext.refl _) _ _ hr1)) hok.1 (by simp only [Tm.bytes, List.length_cons, List.length_append] at hle; omega) (by simp only [Tm.bytes, List.length_cons, List.length_append] at hcc; omega)
      exact this
    have Hx : Hid (∀ W' s', KeepO ob (W.alloc (.cells #[.int .u8 108, .int .i64 (nd.a : Int), .int .i64 (nd.b : Int), .int .i64 (nd.c : Int), .int .i64 (nd.num : Int), .string ⟨nd.text.toArray⟩, .slice sa sn sc] 75)) W' → OStO ob W' s' → Calls Tryd.prog 65 #[.pointer (some ⟨ob, 0, none⟩), .slice (some ⟨g, 0, none⟩) ns.length cap, .int .i64 (nd.b : Int), .int .i64 (a : Int), .int .i64 ((c : Int) + 1)] W' fun e w' => e = .returned (.tuple #[]) ∧ KeepO ob W' w' ∧ OStO ob w' (sayT s' (x.lift a (c + 1)))) := fun W' s' hk ho' => by
      have := ihx nd.b (c + 1) W' _ s' ho' (hk.rowO HO2.out (own_below hrow b1) (by decide) (by decide)) (Rep.keep (hk.keepSO HO2.out M) (Ext.refl _) _ _ (Rep.keep (fun _ _ _ h => own_below h b1) (Ext.refl _) _ _ hr2)) hok.2 (by simp only [Tm.bytes, List.length_cons, List.length_append] at hle; omega) (by simp only [Tm.bytes, List.length_cons, List.length_append] at hcc; omega)
      rw [show ((c + 1 : Nat) : Int) = (c : Int) + 1 by omega] at this
      exact this
    have HE : Hid (sayT (sayT (say (some B) [108]) (f.lift a c)) (x.lift a (c + 1)) = sayT (some B) ((Tm.lam f x).lift a c)) := sayT_two rfl Iff.rfl _
    have z1 : (W.alloc (.cells #[.int .u8 108, .int .i64 (nd.a : Int), .int .i64 (nd.b : Int), .int .i64 (nd.c : Int), .int .i64 (nd.num : Int), .string ⟨nd.text.toArray⟩, .slice sa sn sc] 75)).heap.size = W.heap.size + 1 := by simp
    clear hO hrow hnd hkind hlv hsl hklt ho b1 KB hblk hr1 hr2 ihf ihx hok hle
    generalize f.lift a c = fl at Hf HE
    generalize x.lift a (c + 1) = xl at Hx HE
    have cv := conv_one (P := Tryd.prog) (t := 22) (d := 9) (W.alloc (.cells #[.int .u8 108, .int .i64 (nd.a : Int), .int .i64 (nd.b : Int), .int .i64 (nd.c : Int), .int .i64 (nd.num : Int), .string ⟨nd.text.toArray⟩, .slice sa sn sc] 75)) 108 Tryd.underlying22 Tryd.underlying5 Tryd.underlying9 (by omega) (by omega)
    rw [z1, show (⟨#[UInt8.ofNat ((108 : Int).toNat)]⟩ : ByteArray) = ⟨#[108]⟩ from rfl] at cv
    have bs := (Below.refl (W.alloc (.cells #[.int .u8 108, .int .i64 (nd.a : Int), .int .i64 (nd.b : Int), .int .i64 (nd.c : Int), .int .i64 (nd.num : Int), .string ⟨nd.text.toArray⟩, .slice sa sn sc] 75)).heap.size (W.alloc (.cells #[.int .u8 108, .int .i64 (nd.a : Int), .int .i64 (nd.b : Int), .int .i64 (nd.c : Int), .int .i64 (nd.num : Int), .string ⟨nd.text.toArray⟩, .slice sa sn sc] 75))).alloc (Nat.le_refl _) (.cells #[.int .u8 108] 5)
    have HO3 := HO2.out.below bs
    have HK3 := Lib.hid (KeepO.below bs (Nat.le_of_lt HO2.out.lt))
    have fS := Lib.hid (specSay [108] HO3 (by decide))
    clear bs HO3
    go_enter Tryd.func65, Tryd.ntmps65
    go_wp2_with fail
    (refine fS.out.mono ?_); rintro e w3 ⟨rfl, hk3, ho3⟩
    have HKc := Lib.hid (HK3.out.trans hk3)
    have HOc := Lib.hid ho3
    clear hk3 ho3 HK3 fS cv
    obtain ⟨x0, x1, x2, x3⟩ := HBC.out _ HKc.out
    go_wp2_with fail
    (with_reducible refine (Hf.out _ _ HKc.out HOc.out).mono ?_); rintro e w4 ⟨rfl, hk4, ho4⟩
    have HK4 := Lib.hid (HKc.out.trans hk4)
    have HO4 := Lib.hid ho4
    clear hk4 ho4 HKc HOc x0 x1 x2 x3 Hf
    have HKc := HK4
    have HOc := HO4
    clear HK4 HO4
    obtain ⟨x0, x1, x2, x3⟩ := HBC.out _ HKc.out
    go_wp2_with fail
    (with_reducible refine (Hx.out _ _ HKc.out HOc.out).mono ?_); rintro e w5 ⟨rfl, hk4, ho4⟩
    have HK5 := Lib.hid (HKc.out.trans hk4)
    have HO5 := Lib.hid ho4
    clear hk4 ho4 HKc HOc x0 x1 x2 x3 Hx
    have HKc := HK5
    have HOc := HO5
    clear HK5 HO5
    obtain ⟨x0, x1, x2, x3⟩ := HBC.out _ HKc.out
    have H := Lib.hid (And.intro (HKB.out.trans HKc.out) HOc.out)
    clear HKc HOc x0 x1 x2 x3 HBC HKB
    go_wp2
    first | go_end0 | refine bodyPost_ret (results_none rfl _ _ _) rfl ?_
    rw [← HE.out]
    exact ⟨rfl, H.out⟩
  | pi f x ihf ihx =>
    intro k c W v st hO hrow hr hok hle hcc
    obtain ⟨nd, hnd, HK⟩ := hr
    obtain ⟨sa, sn, sc, hlv⟩ := hsl nd (List.mem_of_getElem? hnd)
    have hlt := hklt k nd hnd
    obtain ⟨g, cap, rfl, _, hgl⟩ := hrow.form (by omega)
    have c0 : W.cell? ⟨g, k * 7, none⟩ = some (.int .u8 (nd.kind.toNat : Int)) := node_at hrow hnd 0 (by decide)
    have c1 : W.cell? ⟨g, k * 7 + 1, none⟩ = some (.int .i64 (nd.a : Int)) := node_at hrow hnd 1 (by decide)
    have c2 : W.cell? ⟨g, k * 7 + 2, none⟩ = some (.int .i64 (nd.b : Int)) := node_at hrow hnd 2 (by decide)
    have c3 : W.cell? ⟨g, k * 7 + 3, none⟩ = some (.int .i64 (nd.c : Int)) := node_at hrow hnd 3 (by decide)
    have c4 : W.cell? ⟨g, k * 7 + 4, none⟩ = some (.int .i64 (nd.num : Int)) := node_at hrow hnd 4 (by decide)
    have c5 : W.cell? ⟨g, k * 7 + 5, none⟩ = some (.string ⟨nd.text.toArray⟩) := node_at hrow hnd 5 (by decide)
    have c6 : W.cell? ⟨g, k * 7 + 6, none⟩ = some (.slice sa sn sc) := by rw [← hlv]; exact node_at hrow hnd 6 (by decide)
    have q1 : (0 : Int) ≤ (k : Int) := by omega
    have q2 : (k : Int) < (ns.length : Int) := by omega
    obtain ⟨hkind, hr1, hr2⟩ := HK
    rw [hkind] at c0
    have b1 := (Below.refl W.heap.size W).alloc (Nat.le_refl _) (.cells #[.int .u8 112, .int .i64 (nd.a : Int), .int .i64 (nd.b : Int), .int .i64 (nd.c : Int), .int .i64 (nd.num : Int), .string ⟨nd.text.toArray⟩, .slice sa sn sc] 75)
    have HO1 := hO.below b1
    have hob := hO.lt
    have KB : KeepO ob W (W.alloc (.cells #[.int .u8 112, .int .i64 (nd.a : Int), .int .i64 (nd.b : Int), .int .i64 (nd.c : Int), .int .i64 (nd.num : Int), .string ⟨nd.text.toArray⟩, .slice sa sn sc] 75)) := KeepO.below b1 (Nat.le_of_lt hob)
    obtain ⟨vb, B, bad, ho, hB, rfl⟩ := HO1
    have k1 : (W.alloc (.cells #[.int .u8 112, .int .i64 (nd.a : Int), .int .i64 (nd.b : Int), .int .i64 (nd.c : Int), .int .i64 (nd.num : Int), .string ⟨nd.text.toArray⟩, .slice sa sn sc] 75)).cell? ⟨ob, 1, none⟩ = some (.bool bad) := cell_of_row _ _ _ _ _ _ ho.box
    cases bad
    rotate_left
    · have HS := Lib.hid ho
      have KB' := KB
      clear hO hrow hnd hkind hlv hsl hklt ho b1 KB hr1 hr2 ihf ihx
      go_enter Tryd.func65, Tryd.ntmps65
      go_wp2
      refine bodyPost_ret (results_none rfl _ _ _) rfl ?_
      exact ⟨rfl, KB', ⟨vb, B, true, HS.out, hB, rfl⟩⟩
    have HO2 : Hid (OStO ob (W.alloc (.cells #[.int .u8 112, .int .i64 (nd.a : Int), .int .i64 (nd.b : Int), .int .i64 (nd.c : Int), .int .i64 (nd.num : Int), .string ⟨nd.text.toArray⟩, .slice sa sn sc] 75)) (some B)) := ⟨vb, B, false, ho, hB, rfl⟩
    have HKB := Lib.hid KB
    have hblk : (W.alloc (.cells #[.int .u8 112, .int .i64 (nd.a : Int), .int .i64 (nd.b : Int), .int .i64 (nd.c : Int), .int .i64 (nd.num : Int), .string ⟨nd.text.toArray⟩, .slice sa sn sc] 75)).heap[W.heap.size]? = some (.cells #[.int .u8 112, .int .i64 (nd.a : Int), .int .i64 (nd.b : Int), .int .i64 (nd.c : Int), .int .i64 (nd.num : Int), .string ⟨nd.text.toArray⟩, .slice sa sn sc] 75 (0, 0)) := heap_alloc_new W _
    have HBC : Hid (∀ W', KeepO ob (W.alloc (.cells #[.int .u8 112, .int .i64 (nd.a : Int), .int .i64 (nd.b : Int), .int .i64 (nd.c : Int), .int .i64 (nd.num : Int), .string ⟨nd.text.toArray⟩, .slice sa sn sc] 75)) W' → W'.cell? ⟨W.heap.size, 0, none⟩ = some (.int .u8 112) ∧ W'.cell? ⟨W.heap.size, 1, none⟩ = some (.int .i64 (nd.a : Int)) ∧ W'.cell? ⟨W.heap.size, 2, none⟩ = some (.int .i64 (nd.b : Int)) ∧ W'.cell? ⟨W.heap.size, 3, none⟩ = some (.int .i64 (nd.c : Int))) := fun W' hk => by
      have h := (hk.typ _ _ _ _ hblk (by decide) (by omega)).trans hblk
      exact ⟨cell_of_row _ _ _ _ _ _ h, cell_of_row _ _ _ _ _ _ h, cell_of_row _ _ _ _ _ _ h, cell_of_row _ _ _ _ _ _ h⟩
    have Hf : Hid (∀ W' s', KeepO ob (W.alloc (.cells #[.int .u8 112, .int .i64 (nd.a : Int), .int .i64 (nd.b : Int), .int .i64 (nd.c : Int), .int .i64 (nd.num : Int), .string ⟨nd.text.toArray⟩, .slice sa sn sc] 75)) W' → OStO ob W' s' → Calls Tryd.prog 65 #[.pointer (some ⟨ob, 0, none⟩), .slice (some ⟨g, 0, none⟩) ns.length cap, .int .i64 (nd.a : Int), .int .i64 (a : Int), .int .i64 (c : Int)] W' fun e w' => e = .returned (.tuple #[]) ∧ KeepO ob W' w' ∧ OStO ob w' (sayT s' (f.lift a c))) := fun W' s' hk ho' => by
      have := ihf nd.a c W' _ s' ho' (hk.rowO HO2.out (own_below hrow b1) (by decide) (by decide)) (Rep.keep (hk.keepSO HO2.out M) (Ext.refl _) _ _ (Rep.keep (fun _ _ _ h => own_below h b1) (Ext.refl _) _ _ hr1)) hok.1 (by simp only [Tm.bytes, List.length_cons, List.length_append] at hle; omega) (by simp only [Tm.bytes, List.length_cons, List.length_append] at hcc; omega)
      exact this
    have Hx : Hid (∀ W' s', KeepO ob (W.alloc (.cells #[.int .u8 112, .int .i64 (nd.a : Int), .int .i64 (nd.b : Int), .int .i64 (nd.c : Int), .int .i64 (nd.num : Int), .string ⟨nd.text.toArray⟩, .slice sa sn sc] 75)) W' → OStO ob W' s' → Calls Tryd.prog 65 #[.pointer (some ⟨ob, 0, none⟩), .slice (some ⟨g, 0, none⟩) ns.length cap, .int .i64 (nd.b : Int), .int .i64 (a : Int), .int .i64 ((c : Int) + 1)] W' fun e w' => e = .returned (.tuple #[]) ∧ KeepO ob W' w' ∧ OStO ob w' (sayT s' (x.lift a (c + 1)))) := fun W' s' hk ho' => by
      have := ihx nd.b (c + 1) W' _ s' ho' (hk.rowO HO2.out (own_below hrow b1) (by decide) (by decide)) (Rep.keep (hk.keepSO HO2.out M) (Ext.refl _) _ _ (Rep.keep (fun _ _ _ h => own_below h b1) (Ext.refl _) _ _ hr2)) hok.2 (by simp only [Tm.bytes, List.length_cons, List.length_append] at hle; omega) (by simp only [Tm.bytes, List.length_cons, List.length_append] at hcc; omega)
      rw [show ((c + 1 : Nat) : Int) = (c : Int) + 1 by omega] at this
      exact this
    have HE : Hid (sayT (sayT (say (some B) [112]) (f.lift a c)) (x.lift a (c + 1)) = sayT (some B) ((Tm.pi f x).lift a c)) := sayT_two rfl Iff.rfl _
    have z1 : (W.alloc (.cells #[.int .u8 112, .int .i64 (nd.a : Int), .int .i64 (nd.b : Int), .int .i64 (nd.c : Int), .int .i64 (nd.num : Int), .string ⟨nd.text.toArray⟩, .slice sa sn sc] 75)).heap.size = W.heap.size + 1 := by simp
    clear hO hrow hnd hkind hlv hsl hklt ho b1 KB hblk hr1 hr2 ihf ihx hok hle
    generalize f.lift a c = fl at Hf HE
    generalize x.lift a (c + 1) = xl at Hx HE
    have cv := conv_one (P := Tryd.prog) (t := 22) (d := 9) (W.alloc (.cells #[.int .u8 112, .int .i64 (nd.a : Int), .int .i64 (nd.b : Int), .int .i64 (nd.c : Int), .int .i64 (nd.num : Int), .string ⟨nd.text.toArray⟩, .slice sa sn sc] 75)) 112 Tryd.underlying22 Tryd.underlying5 Tryd.underlying9 (by omega) (by omega)
    rw [z1, show (⟨#[UInt8.ofNat ((112 : Int).toNat)]⟩ : ByteArray) = ⟨#[112]⟩ from rfl] at cv
    have bs := (Below.refl (W.alloc (.cells #[.int .u8 112, .int .i64 (nd.a : Int), .int .i64 (nd.b : Int), .int .i64 (nd.c : Int), .int .i64 (nd.num : Int), .string ⟨nd.text.toArray⟩, .slice sa sn sc] 75)).heap.size (W.alloc (.cells #[.int .u8 112, .int .i64 (nd.a : Int), .int .i64 (nd.b : Int), .int .i64 (nd.c : Int), .int .i64 (nd.num : Int), .string ⟨nd.text.toArray⟩, .slice sa sn sc] 75))).alloc (Nat.le_refl _) (.cells #[.int .u8 112] 5)
    have HO3 := HO2.out.below bs
    have HK3 := Lib.hid (KeepO.below bs (Nat.le_of_lt HO2.out.lt))
    have fS := Lib.hid (specSay [112] HO3 (by decide))
    clear bs HO3
    go_enter Tryd.func65, Tryd.ntmps65
    go_wp2_with fail
    (refine fS.out.mono ?_); rintro e w3 ⟨rfl, hk3, ho3⟩
    have HKc := Lib.hid (HK3.out.trans hk3)
    have HOc := Lib.hid ho3
    clear hk3 ho3 HK3 fS cv
    obtain ⟨x0, x1, x2, x3⟩ := HBC.out _ HKc.out
    go_wp2_with fail
    (with_reducible refine (Hf.out _ _ HKc.out HOc.out).mono ?_); rintro e w4 ⟨rfl, hk4, ho4⟩
    have HK4 := Lib.hid (HKc.out.trans hk4)
    have HO4 := Lib.hid ho4
    clear hk4 ho4 HKc HOc x0 x1 x2 x3 Hf
    have HKc := HK4
    have HOc := HO4
    clear HK4 HO4
    obtain ⟨x0, x1, x2, x3⟩ := HBC.out _ HKc.out
    go_wp2_with fail
    (with_reducible refine (Hx.out _ _ HKc.out HOc.out).mono ?_); rintro e w5 ⟨rfl, hk4, ho4⟩
    have HK5 := Lib.hid (HKc.out.trans hk4)
    have HO5 := Lib.hid ho4
    clear hk4 ho4 HKc HOc x0 x1 x2 x3 Hx
    have HKc := HK5
    have HOc := HO5
    clear HK5 HO5
    obtain ⟨x0, x1, x2, x3⟩ := HBC.out _ HKc.out
    have H := Lib.hid (And.intro (HKB.out.trans HKc.out) HOc.out)
    clear HKc HOc x0 x1 x2 x3 HBC HKB
    go_wp2
    first | go_end0 | refine bodyPost_ret (results_none rfl _ _ _) rfl ?_
    rw [← HE.out]
    exact ⟨rfl, H.out⟩
  | lett f x y ihf ihx ihy =>
    intro k c W v st hO hrow hr hok hle hcc
    obtain ⟨nd, hnd, HK⟩ := hr
    obtain ⟨sa, sn, sc, hlv⟩ := hsl nd (List.mem_of_getElem? hnd)
    have hlt := hklt k nd hnd
    obtain ⟨g, cap, rfl, _, hgl⟩ := hrow.form (by omega)
    have c0 : W.cell? ⟨g, k * 7, none⟩ = some (.int .u8 (nd.kind.toNat : Int)) := node_at hrow hnd 0 (by decide)
    have c1 : W.cell? ⟨g, k * 7 + 1, none⟩ = some (.int .i64 (nd.a : Int)) := node_at hrow hnd 1 (by decide)
    have c2 : W.cell? ⟨g, k * 7 + 2, none⟩ = some (.int .i64 (nd.b : Int)) := node_at hrow hnd 2 (by decide)
    have c3 : W.cell? ⟨g, k * 7 + 3, none⟩ = some (.int .i64 (nd.c : Int)) := node_at hrow hnd 3 (by decide)
    have c4 : W.cell? ⟨g, k * 7 + 4, none⟩ = some (.int .i64 (nd.num : Int)) := node_at hrow hnd 4 (by decide)
    have c5 : W.cell? ⟨g, k * 7 + 5, none⟩ = some (.string ⟨nd.text.toArray⟩) := node_at hrow hnd 5 (by decide)
    have c6 : W.cell? ⟨g, k * 7 + 6, none⟩ = some (.slice sa sn sc) := by rw [← hlv]; exact node_at hrow hnd 6 (by decide)
    have q1 : (0 : Int) ≤ (k : Int) := by omega
    have q2 : (k : Int) < (ns.length : Int) := by omega
    obtain ⟨hkind, hr1, hr2, hr3⟩ := HK
    rw [hkind] at c0
    have b1 := (Below.refl W.heap.size W).alloc (Nat.le_refl _) (.cells #[.int .u8 116, .int .i64 (nd.a : Int), .int .i64 (nd.b : Int), .int .i64 (nd.c : Int), .int .i64 (nd.num : Int), .string ⟨nd.text.toArray⟩, .slice sa sn sc] 75)
    have HO1 := hO.below b1
    have hob := hO.lt
    have KB : KeepO ob W (W.alloc (.cells #[.int .u8 116, .int .i64 (nd.a : Int), .int .i64 (nd.b : Int), .int .i64 (nd.c : Int), .int .i64 (nd.num : Int), .string ⟨nd.text.toArray⟩, .slice sa sn sc] 75)) := KeepO.below b1 (Nat.le_of_lt hob)
    obtain ⟨vb, B, bad, ho, hB, rfl⟩ := HO1
    have k1 : (W.alloc (.cells #[.int .u8 116, .int .i64 (nd.a : Int), .int .i64 (nd.b : Int), .int .i64 (nd.c : Int), .int .i64 (nd.num : Int), .string ⟨nd.text.toArray⟩, .slice sa sn sc] 75)).cell? ⟨ob, 1, none⟩ = some (.bool bad) := cell_of_row _ _ _ _ _ _ ho.box
    cases bad
    rotate_left
    · have HS := Lib.hid ho
      have KB' := KB
      clear hO hrow hnd hkind hlv hsl hklt ho b1 KB hr1 hr2 hr3 ihf ihx ihy
      go_enter Tryd.func65, Tryd.ntmps65
      go_wp2
      refine bodyPost_ret (results_none rfl _ _ _) rfl ?_
      exact ⟨rfl, KB', ⟨vb, B, true, HS.out, hB, rfl⟩⟩
    have HO2 : Hid (OStO ob (W.alloc (.cells #[.int .u8 116, .int .i64 (nd.a : Int), .int .i64 (nd.b : Int), .int .i64 (nd.c : Int), .int .i64 (nd.num : Int), .string ⟨nd.text.toArray⟩, .slice sa sn sc] 75)) (some B)) := ⟨vb, B, false, ho, hB, rfl⟩
    have HKB := Lib.hid KB
    have hblk : (W.alloc (.cells #[.int .u8 116, .int .i64 (nd.a : Int), .int .i64 (nd.b : Int), .int .i64 (nd.c : Int), .int .i64 (nd.num : Int), .string ⟨nd.text.toArray⟩, .slice sa sn sc] 75)).heap[W.heap.size]? = some (.cells #[.int .u8 116, .int .i64 (nd.a : Int), .int .i64 (nd.b : Int), .int .i64 (nd.c : Int), .int .i64 (nd.num : Int), .string ⟨nd.text.toArray⟩, .slice sa sn sc] 75 (0, 0)) := heap_alloc_new W _
    have HBC : Hid (∀ W', KeepO ob (W.alloc (.cells #[.int .u8 116, .int .i64 (nd.a : Int), .int .i64 (nd.b : Int), .int .i64 (nd.c : Int), .int .i64 (nd.num : Int), .string ⟨nd.text.toArray⟩, .slice sa sn sc] 75)) W' → W'.cell? ⟨W.heap.size, 0, none⟩ = some (.int .u8 116) ∧ W'.cell? ⟨W.heap.size, 1, none⟩ = some (.int .i64 (nd.a : Int)) ∧ W'.cell? ⟨W.heap.size, 2, none⟩ = some (.int .i64 (nd.b : Int)) ∧ W'.cell? ⟨W.heap.size, 3, none⟩ = some (.int .i64 (nd.c : Int))) := fun W' hk => by
      have h := (hk.typ _ _ _ _ hblk (by decide) (by omega)).trans hblk
      exact ⟨cell_of_row _ _ _ _ _ _ h, cell_of_row _ _ _ _ _ _ h, cell_of_row _ _ _ _ _ _ h, cell_of_row _ _ _ _ _ _ h⟩
    have Hf : Hid (∀ W' s', KeepO ob (W.alloc (.cells #[.int .u8 116, .int .i64 (nd.a : Int), .int .i64 (nd.b : Int), .int .i64 (nd.c : Int), .int .i64 (nd.num : Int), .string ⟨nd.text.toArray⟩, .slice sa sn sc] 75)) W' → OStO ob W' s' → Calls Tryd.prog 65 #[.pointer (some ⟨ob, 0, none⟩), .slice (some ⟨g, 0, none⟩) ns.length cap, .int .i64 (nd.a : Int), .int .i64 (a : Int), .int .i64 (c : Int)] W' fun e w' => e = .returned (.tuple #[]) ∧ KeepO ob W' w' ∧ OStO ob w' (sayT s' (f.lift a c))) := fun W' s' hk ho' => by
      have := ihf nd.a c W' _ s' ho' (hk.rowO HO2.out (own_below hrow b1) (by decide) (by decide)) (Rep.keep (hk.keepSO HO2.out M) (Ext.refl _) _ _ (Rep.keep (fun _ _ _ h => own_below h b1) (Ext.refl _) _ _ hr1)) hok.1 (by simp only [Tm.bytes, List.length_cons, List.length_append] at hle; omega) (by simp only [Tm.bytes, List.length_cons, List.length_append] at hcc; omega)
      exact this
    have Hx : Hid (∀ W' s', KeepO ob (W.alloc (.cells #[.int .u8 116, .int .i64 (nd.a : Int), .int .i64 (nd.b : Int), .int .i64 (nd.c : Int), .int .i64 (nd.num : Int), .string ⟨nd.text.toArray⟩, .slice sa sn sc] 75)) W' → OStO ob W' s' → Calls Tryd.prog 65 #[.pointer (some ⟨ob, 0, none⟩), .slice (some ⟨g, 0, none⟩) ns.length cap, .int .i64 (nd.b : Int), .int .i64 (a : Int), .int .i64 (c : Int)] W' fun e w' => e = .returned (.tuple #[]) ∧ KeepO ob W' w' ∧ OStO ob w' (sayT s' (x.lift a c))) := fun W' s' hk ho' => by
      have := ihx nd.b c W' _ s' ho' (hk.rowO HO2.out (own_below hrow b1) (by decide) (by decide)) (Rep.keep (hk.keepSO HO2.out M) (Ext.refl _) _ _ (Rep.keep (fun _ _ _ h => own_below h b1) (Ext.refl _) _ _ hr2)) hok.2.1 (by simp only [Tm.bytes, List.length_cons, List.length_append] at hle; omega) (by simp only [Tm.bytes, List.length_cons, List.length_append] at hcc; omega)
      exact this
    have Hy : Hid (∀ W' s', KeepO ob (W.alloc (.cells #[.int .u8 116, .int .i64 (nd.a : Int), .int .i64 (nd.b : Int), .int .i64 (nd.c : Int), .int .i64 (nd.num : Int), .string ⟨nd.text.toArray⟩, .slice sa sn sc] 75)) W' → OStO ob W' s' → Calls Tryd.prog 65 #[.pointer (some ⟨ob, 0, none⟩), .slice (some ⟨g, 0, none⟩) ns.length cap, .int .i64 (nd.c : Int), .int .i64 (a : Int), .int .i64 ((c : Int) + 1)] W' fun e w' => e = .returned (.tuple #[]) ∧ KeepO ob W' w' ∧ OStO ob w' (sayT s' (y.lift a (c + 1)))) := fun W' s' hk ho' => by
      have := ihy nd.c (c + 1) W' _ s' ho' (hk.rowO HO2.out (own_below hrow b1) (by decide) (by decide)) (Rep.keep (hk.keepSO HO2.out M) (Ext.refl _) _ _ (Rep.keep (fun _ _ _ h => own_below h b1) (Ext.refl _) _ _ hr3)) hok.2.2 (by simp only [Tm.bytes, List.length_cons, List.length_append] at hle; omega) (by simp only [Tm.bytes, List.length_cons, List.length_append] at hcc; omega)
      rw [show ((c + 1 : Nat) : Int) = (c : Int) + 1 by omega] at this
      exact this
    have HE : Hid (sayT (sayT (sayT (say (some B) [116]) (f.lift a c)) (x.lift a c)) (y.lift a (c + 1)) = sayT (some B) ((Tm.lett f x y).lift a c)) := sayT_three rfl Iff.rfl _
    have z1 : (W.alloc (.cells #[.int .u8 116, .int .i64 (nd.a : Int), .int .i64 (nd.b : Int), .int .i64 (nd.c : Int), .int .i64 (nd.num : Int), .string ⟨nd.text.toArray⟩, .slice sa sn sc] 75)).heap.size = W.heap.size + 1 := by simp
    clear hO hrow hnd hkind hlv hsl hklt ho b1 KB hblk hr1 hr2 hr3 ihf ihx ihy hok hle
    generalize f.lift a c = fl at Hf HE
    generalize x.lift a c = xl at Hx HE
    generalize y.lift a (c + 1) = yl at Hy HE
    have fS := Lib.hid (specSay [116] HO2.out (by decide))
    have HK3 := Lib.hid (KeepO.refl ob (W.alloc (.cells #[.int .u8 116, .int .i64 (nd.a : Int), .int .i64 (nd.b : Int), .int .i64 (nd.c : Int), .int .i64 (nd.num : Int), .string ⟨nd.text.toArray⟩, .slice sa sn sc] 75)))
    go_enter Tryd.func65, Tryd.ntmps65
    go_wp2_with fail
    (refine fS.out.mono ?_); rintro e w3 ⟨rfl, hk3, ho3⟩
    have HKc := Lib.hid (HK3.out.trans hk3)
    have HOc := Lib.hid ho3
    clear hk3 ho3 HK3 fS
    obtain ⟨x0, x1, x2, x3⟩ := HBC.out _ HKc.out
    go_wp2_with fail
    (with_reducible refine (Hf.out _ _ HKc.out HOc.out).mono ?_); rintro e w4 ⟨rfl, hk4, ho4⟩
    have HK4 := Lib.hid (HKc.out.trans hk4)
    have HO4 := Lib.hid ho4
    clear hk4 ho4 HKc HOc x0 x1 x2 x3 Hf
    have HKc := HK4
    have HOc := HO4
    clear HK4 HO4
    obtain ⟨x0, x1, x2, x3⟩ := HBC.out _ HKc.out
    go_wp2_with fail
    (with_reducible refine (Hx.out _ _ HKc.out HOc.out).mono ?_); rintro e w5 ⟨rfl, hk4, ho4⟩
    have HK5 := Lib.hid (HKc.out.trans hk4)
    have HO5 := Lib.hid ho4
    clear hk4 ho4 HKc HOc x0 x1 x2 x3 Hx
    have HKc := HK5
    have HOc := HO5
    clear HK5 HO5
    obtain ⟨x0, x1, x2, x3⟩ := HBC.out _ HKc.out
    go_wp2_with fail
    (with_reducible refine (Hy.out _ _ HKc.out HOc.out).mono ?_); rintro e w6 ⟨rfl, hk4, ho4⟩
    have HK6 := Lib.hid (HKc.out.trans hk4)
    have HO6 := Lib.hid ho4
    clear hk4 ho4 HKc HOc x0 x1 x2 x3 Hy
    have HKc := HK6
    have HOc := HO6
    clear HK6 HO6
    obtain ⟨x0, x1, x2, x3⟩ := HBC.out _ HKc.out
    have H := Lib.hid (And.intro (HKB.out.trans HKc.out) HOc.out)
    clear HKc HOc x0 x1 x2 x3 HBC HKB
    go_wp2
    first | go_end0 | refine bodyPost_ret (results_none rfl _ _ _) rfl ?_
    rw [← HE.out]
    exact ⟨rfl, H.out⟩
end Go.Proofs.YtnklajagefedmaaDoor
