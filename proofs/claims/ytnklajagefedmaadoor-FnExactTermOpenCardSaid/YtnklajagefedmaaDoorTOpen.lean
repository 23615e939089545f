/-
  The contract of spec.l06Open.
-/
import Derived.Test.YtnklajagefedmaaDoorTNode
namespace Go.Proofs.YtnklajagefedmaaDoor
set_option maxRecDepth 100000
open Go.ChangeShapes Go.WideShapes Go.ChangeAt Go.RowKit
set_option linter.unusedSimpArgs false

set_option maxHeartbeats 4000000 in
theorem specL06Open {ns : List Nd} (hn : ns.length ≤ 100000) (hsl : ∀ nd ∈ ns, ∃ a n c, nd.lv = .slice a n c) {b B : Nat} : ∀ (t : Tm) (k : Nat) (W : World) (v : Value), W.ownsRow b 75 7 v ns.length (flatN ns) → Rep W B ns k t → t.Ok →
    Calls Tryd.prog 63 #[v, .int .i64 (k : Int)] W fun e w' => e = .returned (.int .i64 (t.opn : Int)) ∧ Below W.heap.size W w' := by
  have hklt : ∀ (k : Nat) nd, ns[k]? = some nd → k < ns.length := fun k nd h => by
    by_cases hl : k < ns.length
    · exact hl
    · rw [List.getElem?_eq_none (by omega)] at h; cases h
  intro t
  induction t with
  | var n =>
    intro k W v hrow hr hok
    obtain ⟨nd, hnd, HK⟩ := hr
    obtain ⟨sa, sn, sc, hlv⟩ := hsl nd (List.mem_of_getElem? hnd)
    have hlt := hklt k nd hnd
    obtain ⟨g, cap, rfl, _, hgl⟩ := hrow.form (by omega)
    have c0 : W.cell? ⟨g, k * 7, none⟩ = some (.int .u8 (nd.kind.toNat : Int)) := node_at hrow hnd 0 (by decide)
    have c1 : W.cell? ⟨g, k * 7 + 1, none⟩ = some (.int .i64 (nd.a : Int)) := node_at hrow hnd 1 (by decide)
    have c2 : W.cell? ⟨g, k * 7 + 2, none⟩ = some (.int .i64 (nd.b : Int)) := node_at hrow hnd 2 (by decide)
    have c3 : W.cell? ⟨g, k * 7 + 3, none⟩ = some (.int .i64 (nd.c : Int)) := node_at hrow hnd 3 (by decide)
    have c4 : W.cell? ⟨g, k * 7 + 4, none⟩ = some (.int .i64 (nd.num : Int)) := node_at hrow hnd 4 (by decide)
    have c5 : W.cell? ⟨g, k * 7 + 5, none⟩ = some (.string ⟨nd.text.toArray⟩) := node_at hrow hnd 5 (by decide)
    have c6 : W.cell? ⟨g, k * 7 + 6, none⟩ = some (.slice sa sn sc) := by rw [← hlv]; exact node_at hrow hnd 6 (by decide)
    have q1 : (0 : Int) ≤ (k : Int) := by omega
    have q2 : (k : Int) < (ns.length : Int) := by omega
    have hkind : nd.kind = 118 := HK.1
    have hnum : nd.num = n := HK.2.1
    have hn9 : n ≤ 999 := hok
    rw [hkind] at c0
    rw [hnum] at c4
    clear hrow hnd HK hkind hnum hlv hsl hklt
    go_enter Tryd.func63, Tryd.ntmps63
    go_wp2
    go_ret
    refine ⟨?_, (Below.refl _ _).alloc (Nat.le_refl _) _⟩
    simp [Tm.opn]
  | sort l =>
    intro k W v hrow hr hok
    obtain ⟨nd, hnd, HK⟩ := hr
    obtain ⟨sa, sn, sc, hlv⟩ := hsl nd (List.mem_of_getElem? hnd)
    have hlt := hklt k nd hnd
    obtain ⟨g, cap, rfl, _, hgl⟩ := hrow.form (by omega)
    have c0 : W.cell? ⟨g, k * 7, none⟩ = some (.int .u8 (nd.kind.toNat : Int)) := node_at hrow hnd 0 (by decide)
    have c1 : W.cell? ⟨g, k * 7 + 1, none⟩ = some (.int .i64 (nd.a : Int)) := node_at hrow hnd 1 (by decide)
    have c2 : W.cell? ⟨g, k * 7 + 2, none⟩ = some (.int .i64 (nd.b : Int)) := node_at hrow hnd 2 (by decide)
    have c3 : W.cell? ⟨g, k * 7 + 3, none⟩ = some (.int .i64 (nd.c : Int)) := node_at hrow hnd 3 (by decide)
    have c4 : W.cell? ⟨g, k * 7 + 4, none⟩ = some (.int .i64 (nd.num : Int)) := node_at hrow hnd 4 (by decide)
    have c5 : W.cell? ⟨g, k * 7 + 5, none⟩ = some (.string ⟨nd.text.toArray⟩) := node_at hrow hnd 5 (by decide)
    have c6 : W.cell? ⟨g, k * 7 + 6, none⟩ = some (.slice sa sn sc) := by rw [← hlv]; exact node_at hrow hnd 6 (by decide)
    have q1 : (0 : Int) ≤ (k : Int) := by omega
    have q2 : (k : Int) < (ns.length : Int) := by omega
    have hkind : nd.kind = 115 := HK.1
    rw [hkind] at c0
    clear hrow hnd HK hkind hlv hsl hklt
    go_enter Tryd.func63, Tryd.ntmps63
    go_wp2
    go_ret
    exact ⟨rfl, (Below.refl _ _).alloc (Nat.le_refl _) _⟩
  | const n ls =>
    intro k W v hrow hr hok
    obtain ⟨nd, hnd, HK⟩ := hr
    obtain ⟨sa, sn, sc, hlv⟩ := hsl nd (List.mem_of_getElem? hnd)
    have hlt := hklt k nd hnd
    obtain ⟨g, cap, rfl, _, hgl⟩ := hrow.form (by omega)
    have c0 : W.cell? ⟨g, k * 7, none⟩ = some (.int .u8 (nd.kind.toNat : Int)) := node_at hrow hnd 0 (by decide)
    have c1 : W.cell? ⟨g, k * 7 + 1, none⟩ = some (.int .i64 (nd.a : Int)) := node_at hrow hnd 1 (by decide)
    have c2 : W.cell? ⟨g, k * 7 + 2, none⟩ = some (.int .i64 (nd.b : Int)) := node_at hrow hnd 2 (by decide)
    have c3 : W.cell? ⟨g, k * 7 + 3, none⟩ = some (.int .i64 (nd.c : Int)) := node_at hrow hnd 3 (by decide)
    have c4 : W.cell? ⟨g, k * 7 + 4, none⟩ = some (.int .i64 (nd.num : Int)) := node_at hrow hnd 4 (by decide)
    have c5 : W.cell? ⟨g, k * 7 + 5, none⟩ = some (.string ⟨nd.text.toArray⟩) := node_at hrow hnd 5 (by decide)
    have c6 : W.cell? ⟨g, k * 7 + 6, none⟩ = some (.slice sa sn sc) := by rw [← hlv]; exact node_at hrow hnd 6 (by decide)
    have q1 : (0 : Int) ≤ (k : Int) := by omega
    have q2 : (k : Int) < (ns.length : Int) := by omega
    have hkind : nd.kind = 99 := HK.1
    rw [hkind] at c0
    clear hrow hnd HK hkind hlv hsl hklt
    go_enter Tryd.func63, Tryd.ntmps63
    go_wp2
    go_ret
    exact ⟨rfl, (Below.refl _ _).alloc (Nat.le_refl _) _⟩
  | app f a ihf iha =>
    intro k W v hrow hr hok
    obtain ⟨nd, hnd, HK⟩ := hr
    obtain ⟨sa, sn, sc, hlv⟩ := hsl nd (List.mem_of_getElem? hnd)
    have hlt := hklt k nd hnd
    obtain ⟨g, cap, rfl, _, hgl⟩ := hrow.form (by omega)
    have c0 : W.cell? ⟨g, k * 7, none⟩ = some (.int .u8 (nd.kind.toNat : Int)) := node_at hrow hnd 0 (by decide)
    have c1 : W.cell? ⟨g, k * 7 + 1, none⟩ = some (.int .i64 (nd.a : Int)) := node_at hrow hnd 1 (by decide)
    have c2 : W.cell? ⟨g, k * 7 + 2, none⟩ = some (.int .i64 (nd.b : Int)) := node_at hrow hnd 2 (by decide)
    have c3 : W.cell? ⟨g, k * 7 + 3, none⟩ = some (.int .i64 (nd.c : Int)) := node_at hrow hnd 3 (by decide)
    have c4 : W.cell? ⟨g, k * 7 + 4, none⟩ = some (.int .i64 (nd.num : Int)) := node_at hrow hnd 4 (by decide)
    have c5 : W.cell? ⟨g, k * 7 + 5, none⟩ = some (.string ⟨nd.text.toArray⟩) := node_at hrow hnd 5 (by decide)
    have c6 : W.cell? ⟨g, k * 7 + 6, none⟩ = some (.slice sa sn sc) := by rw [← hlv]; exact node_at hrow hnd 6 (by decide)
    have q1 : (0 : Int) ≤ (k : Int) := by omega
    have q2 : (k : Int) < (ns.length : Int) := by omega
    obtain ⟨hkind, hr1, hr2⟩ := HK
    rw [hkind] at c0
    have b1 := (Below.refl W.heap.size W).alloc (Nat.le_refl _) (.cells #[.int .u8 64, .int .i64 (nd.a : Int), .int .i64 (nd.b : Int), .int .i64 (nd.c : Int), .int .i64 (nd.num : Int), .string ⟨nd.text.toArray⟩, .slice sa sn sc] 75)
    have hblk : (W.alloc (.cells #[.int .u8 64, .int .i64 (nd.a : Int), .int .i64 (nd.b : Int), .int .i64 (nd.c : Int), .int .i64 (nd.num : Int), .string ⟨nd.text.toArray⟩, .slice sa sn sc] 75)).heap[W.heap.size]? = some (.cells #[.int .u8 64, .int .i64 (nd.a : Int), .int .i64 (nd.b : Int), .int .i64 (nd.c : Int), .int .i64 (nd.num : Int), .string ⟨nd.text.toArray⟩, .slice sa sn sc] 75 (0, 0)) := heap_alloc_new W _
    have hrow1 := own_below hrow b1
    have ks1 : KeepS B W (W.alloc (.cells #[.int .u8 64, .int .i64 (nd.a : Int), .int .i64 (nd.b : Int), .int .i64 (nd.c : Int), .int .i64 (nd.num : Int), .string ⟨nd.text.toArray⟩, .slice sa sn sc] 75)) := fun _ _ _ h => own_below h b1
    have z1 : W.heap.size < (W.alloc (.cells #[.int .u8 64, .int .i64 (nd.a : Int), .int .i64 (nd.b : Int), .int .i64 (nd.c : Int), .int .i64 (nd.num : Int), .string ⟨nd.text.toArray⟩, .slice sa sn sc] 75)).heap.size := by simp
    have B1 := Lib.hid b1
    have f1 := Lib.hid (ihf nd.a _ _ hrow1 (Rep.keep ks1 (Ext.refl _) f _ hr1) hok.1)
    have xb := Tm.opn_le f hok.1
    have yb := Tm.opn_le a hok.2
    have HE : Hid ((Tm.app f a).opn = max f.opn a.opn) := rfl
    generalize f.opn = x at f1 xb HE
    clear hnd hkind hlv b1 ks1 hrow hr1
    go_enter Tryd.func63, Tryd.ntmps63
    go_wp2_with fail
    (with_reducible refine f1.out.mono ?_); rintro e W2 ⟨rfl, hb2⟩
    have hblk2 := (hb2.block _ z1).trans hblk
    have hrow2 := own_below hrow1 hb2
    have B2 := Lib.hid (B1.out.trans (hb2.mono (Nat.le_of_lt z1)))
    have z2 : W.heap.size < W2.heap.size := Nat.lt_of_lt_of_le z1 hb2.size
    have f2 := Lib.hid (iha nd.b _ _ hrow2 (Rep.keep (fun _ _ _ h => own_below h B2.out) (Ext.refl _) a _ hr2) hok.2)
    generalize a.opn = y at f2 yb HE
    have a0 : W2.cell? ⟨W.heap.size, 0, none⟩ = some (.int .u8 64) := cell_of_row _ _ _ _ _ _ hblk2
    have a1 : W2.cell? ⟨W.heap.size, 1, none⟩ = some (.int .i64 (nd.a : Int)) := cell_of_row _ _ _ _ _ _ hblk2
    have a2 : W2.cell? ⟨W.heap.size, 2, none⟩ = some (.int .i64 (nd.b : Int)) := cell_of_row _ _ _ _ _ _ hblk2
    clear f1 hb2 hrow1 hblk hr2 z1
    go_wp2_with fail
    (with_reducible refine f2.out.mono ?_); rintro e W3 ⟨rfl, hb3⟩
    have hblk3 := (hb3.block _ z2).trans hblk2
    have B3 := Lib.hid (B2.out.trans (hb3.mono (Nat.le_of_lt z2)))
    have d0 : W3.cell? ⟨W.heap.size, 0, none⟩ = some (.int .u8 64) := cell_of_row _ _ _ _ _ _ hblk3
    have d3 : W3.cell? ⟨W.heap.size, 3, none⟩ = some (.int .i64 (nd.c : Int)) := cell_of_row _ _ _ _ _ _ hblk3
    have dz : decide ((x : Int) < 0) = false := decide_eq_false (by omega)
    have dz2 : decide ((y : Int) < 0) = false := decide_eq_false (by omega)
    clear f2 hb3 hrow2 hblk2 hblk3 a0 a1 a2
    by_cases hxy : x < y
    · have e1 : decide ((x : Int) < (y : Int)) = true := decide_eq_true (by omega)
      have e1n : decide (x < y) = true := decide_eq_true (by omega)
      go_wp2
      go_ret
      rw [HE.out, Nat.max_eq_right (by omega)]
      exact ⟨rfl, B3.out⟩
    · have e1 : decide ((x : Int) < (y : Int)) = false := decide_eq_false (by omega)
      have e1n : decide (x < y) = false := decide_eq_false (by omega)
      go_wp2
      go_ret
      rw [HE.out, Nat.max_eq_left (by omega)]
      exact ⟨rfl, B3.out⟩
  | lam f a ihf iha =>
    intro k W v hrow hr hok
    obtain ⟨nd, hnd, HK⟩ := hr
    obtain ⟨sa, sn, sc, hlv⟩ := hsl nd (List.mem_of_getElem? hnd)
    have hlt := hklt k nd hnd
    obtain ⟨g, cap, rfl, _, hgl⟩ := hrow.form (by omega)
    have c0 : W.cell? ⟨g, k * 7, none⟩ = some (.int .u8 (nd.kind.toNat : Int)) := node_at hrow hnd 0 (by decide)
    have c1 : W.cell? ⟨g, k * 7 + 1, none⟩ = some (.int .i64 (nd.a : Int)) := node_at hrow hnd 1 (by decide)
    have c2 : W.cell? ⟨g, k * 7 + 2, none⟩ = some (.int .i64 (nd.b : Int)) := node_at hrow hnd 2 (by decide)
    have c3 : W.cell? ⟨g, k * 7 + 3, none⟩ = some (.int .i64 (nd.c : Int)) := node_at hrow hnd 3 (by decide)
    have c4 : W.cell? ⟨g, k * 7 + 4, none⟩ = some (.int .i64 (nd.num : Int)) := node_at hrow hnd 4 (by decide)
    have c5 : W.cell? ⟨g, k * 7 + 5, none⟩ = some (.string ⟨nd.text.toArray⟩) := node_at hrow hnd 5 (by decide)
    have c6 : W.cell? ⟨g, k * 7 + 6, none⟩ = some (.slice sa sn sc) := by rw [← hlv]; exact node_at hrow hnd 6 (by decide)
    have q1 : (0 : Int) ≤ (k : Int) := by omega
    have q2 : (k : Int) < (ns.length : Int) := by omega
    obtain ⟨hkind, hr1, hr2⟩ := HK
    rw [hkind] at c0
    have b1 := (Below.refl W.heap.size W).alloc (Nat.le_refl _) (.cells #[.int .u8 108, .int .i64 (nd.a : Int), .int .i64 (nd.b : Int), .int .i64 (nd.c : Int), .int .i64 (nd.num : Int), .string ⟨nd.text.toArray⟩, .slice sa sn sc] 75)
    have hblk : (W.alloc (.cells #[.int .u8 108, .int .i64 (nd.a : Int), .int .i64 (nd.b : Int), .int .i64 (nd.c : Int), .int .i64 (nd.num : Int), .string ⟨nd.text.toArray⟩, .slice sa sn sc] 75)).heap[W.heap.size]? = some (.cells #[.int .u8 108, .int .i64 (nd.a : Int), .int .i64 (nd.b : Int), .int .i64 (nd.c : Int), .int .i64 (nd.num : Int), .string ⟨nd.text.toArray⟩, .slice sa sn sc] 75 (0, 0)) := heap_alloc_new W _
    have hrow1 := own_below hrow b1
    have ks1 : KeepS B W (W.alloc (.cells #[.int .u8 108, .int .i64 (nd.a : Int), .int .i64 (nd.b : Int), .int .i64 (nd.c : Int), .int .i64 (nd.num : Int), .string ⟨nd.text.toArray⟩, .slice sa sn sc] 75)) := fun _ _ _ h => own_below h b1
    have z1 : W.heap.size < (W.alloc (.cells #[.int .u8 108, .int .i64 (nd.a : Int), .int .i64 (nd.b : Int), .int .i64 (nd.c : Int), .int .i64 (nd.num : Int), .string ⟨nd.text.toArray⟩, .slice sa sn sc] 75)).heap.size := by simp
    have B1 := Lib.hid b1
    have f1 := Lib.hid (ihf nd.a _ _ hrow1 (Rep.keep ks1 (Ext.refl _) f _ hr1) hok.1)
    have xb := Tm.opn_le f hok.1
    have yb := Tm.opn_le a hok.2
    have HE : Hid ((Tm.lam f a).opn = max f.opn (a.opn - 1)) := rfl
    generalize f.opn = x at f1 xb HE
    clear hnd hkind hlv b1 ks1 hrow hr1
    go_enter Tryd.func63, Tryd.ntmps63
    go_wp2_with fail
    (with_reducible refine f1.out.mono ?_); rintro e W2 ⟨rfl, hb2⟩
    have hblk2 := (hb2.block _ z1).trans hblk
    have hrow2 := own_below hrow1 hb2
    have B2 := Lib.hid (B1.out.trans (hb2.mono (Nat.le_of_lt z1)))
    have z2 : W.heap.size < W2.heap.size := Nat.lt_of_lt_of_le z1 hb2.size
    have f2 := Lib.hid (iha nd.b _ _ hrow2 (Rep.keep (fun _ _ _ h => own_below h B2.out) (Ext.refl _) a _ hr2) hok.2)
    generalize a.opn = y at f2 yb HE
    have a0 : W2.cell? ⟨W.heap.size, 0, none⟩ = some (.int .u8 108) := cell_of_row _ _ _ _ _ _ hblk2
    have a1 : W2.cell? ⟨W.heap.size, 1, none⟩ = some (.int .i64 (nd.a : Int)) := cell_of_row _ _ _ _ _ _ hblk2
    have a2 : W2.cell? ⟨W.heap.size, 2, none⟩ = some (.int .i64 (nd.b : Int)) := cell_of_row _ _ _ _ _ _ hblk2
    clear f1 hb2 hrow1 hblk hr2 z1
    go_wp2_with fail
    (with_reducible refine f2.out.mono ?_); rintro e W3 ⟨rfl, hb3⟩
    have hblk3 := (hb3.block _ z2).trans hblk2
    have B3 := Lib.hid (B2.out.trans (hb3.mono (Nat.le_of_lt z2)))
    have d0 : W3.cell? ⟨W.heap.size, 0, none⟩ = some (.int .u8 108) := cell_of_row _ _ _ _ _ _ hblk3
    have d3 : W3.cell? ⟨W.heap.size, 3, none⟩ = some (.int .i64 (nd.c : Int)) := cell_of_row _ _ _ _ _ _ hblk3
    have dz : decide ((x : Int) < 0) = false := decide_eq_false (by omega)
    have dz2 : decide ((y : Int) - 1 < 0) = true ∨ decide ((y : Int) - 1 < 0) = false := by cases decide ((y : Int) - 1 < 0) <;> simp
    clear f2 hb3 hrow2 hblk2 hblk3 a0 a1 a2
    by_cases hxy : x + 1 < y
    · have e1 : decide ((x : Int) < (y : Int) - 1) = true := decide_eq_true (by omega)
      have e2 : decide ((y : Int) - 1 < 0) = false := decide_eq_false (by omega)
      clear dz2
      go_wp2
      go_ret
      rw [HE.out, Nat.max_eq_right (by omega)]
      exact ⟨by rw [show ((y - 1 : Nat) : Int) = (y : Int) - 1 by omega]; rfl, B3.out⟩
    · have e1 : decide ((x : Int) < (y : Int) - 1) = false := decide_eq_false (by omega)
      clear dz2
      go_wp2
      go_ret
      rw [HE.out, Nat.max_eq_left (by omega)]
      exact ⟨rfl, B3.out⟩
  | pi f a ihf iha =>
    intro k W v hrow hr hok
    obtain ⟨nd, hnd, HK⟩ := hr
    obtain ⟨sa, sn, sc, hlv⟩ := hsl nd (List.mem_of_getElem? hnd)
    have hlt := hklt k nd hnd
    obtain ⟨g, cap, rfl, _, hgl⟩ := hrow.form (by omega)
    have c0 : W.cell? ⟨g, k * 7, none⟩ = some (.int .u8 (nd.kind.toNat : Int)) := node_at hrow hnd 0 (by decide)
    have c1 : W.cell? ⟨g, k * 7 + 1, none⟩ = some (.int .i64 (nd.a : Int)) := node_at hrow hnd 1 (by decide)
    have c2 : W.cell? ⟨g, k * 7 + 2, none⟩ = some (.int .i64 (nd.b : Int)) := node_at hrow hnd 2 (by decide)
    have c3 : W.cell? ⟨g, k * 7 + 3, none⟩ = some (.int .i64 (nd.c : Int)) := node_at hrow hnd 3 (by decide)
    have c4 : W.cell? ⟨g, k * 7 + 4, none⟩ = some (.int .i64 (nd.num : Int)) := node_at hrow hnd 4 (by decide)
    have c5 : W.cell? ⟨g, k * 7 + 5, none⟩ = some (.string ⟨nd.text.toArray⟩) := node_at hrow hnd 5 (by decide)
    have c6 : W.cell? ⟨g, k * 7 + 6, none⟩ = some (.slice sa sn sc) := by rw [← hlv]; exact node_at hrow hnd 6 (by decide)
    have q1 : (0 : Int) ≤ (k : Int) := by omega
    have q2 : (k : Int) < (ns.length : Int) := by omega
    obtain ⟨hkind, hr1, hr2⟩ := HK
    rw [hkind] at c0
    have b1 := (Below.refl W.heap.size W).alloc (Nat.le_refl _) (.cells #[.int .u8 112, .int .i64 (nd.a : Int), .int .i64 (nd.b : Int), .int .i64 (nd.c : Int), .int .i64 (nd.num : Int), .string ⟨nd.text.toArray⟩, .slice sa sn sc] 75)
    have hblk : (W.alloc (.cells #[.int .u8 112, .int .i64 (nd.a : Int), .int .i64 (nd.b : Int), .int .i64 (nd.c : Int), .int .i64 (nd.num : Int), .string ⟨nd.text.toArray⟩, .slice sa sn sc] 75)).heap[W.heap.size]? = some (.cells #[.int .u8 112, .int .i64 (nd.a : Int), .int .i64 (nd.b : Int), .int .i64 (nd.c : Int), .int .i64 (nd.num : Int), .string ⟨nd.text.toArray⟩, .slice sa sn sc] 75 (0, 0)) := heap_alloc_new W _
    have hrow1 := own_below hrow b1
    have ks1 : KeepS B W (W.alloc (.cells #[.int .u8 112, .int .i64 (nd.a : Int), .int .i64 (nd.b : Int), .int .i64 (nd.c : Int), .int .i64 (nd.num : Int), .string ⟨nd.text.toArray⟩, .slice sa sn sc] 75)) := fun _ _ _ h => own_below h b1
    have z1 : W.heap.size < (W.alloc (.cells #[.int .u8 112, .int .i64 (nd.a : Int), .int .i64 (nd.b : Int), .int .i64 (nd.c : Int), .int .i64 (nd.num : Int), .string ⟨nd.text.toArray⟩, .slice sa sn sc] 75)).heap.size := by simp
    have B1 := Lib.hid b1
    have f1 := Lib.hid (ihf nd.a _ _ hrow1 (Rep.keep ks1 (Ext.refl _) f _ hr1) hok.1)
    have xb := Tm.opn_le f hok.1
    have yb := Tm.opn_le a hok.2
    have HE : Hid ((Tm.pi f a).opn = max f.opn (a.opn - 1)) := rfl
    generalize f.opn = x at f1 xb HE
    clear hnd hkind hlv b1 ks1 hrow hr1
    go_enter Tryd.func63, Tryd.ntmps63
    go_wp2_with fail
    (with_reducible refine f1.out.mono ?_); rintro e W2 ⟨rfl, hb2⟩
    have hblk2 := (hb2.block _ z1).trans hblk
    have hrow2 := own_below hrow1 hb2
    have B2 := Lib.hid (B1.out.trans (hb2.mono (Nat.le_of_lt z1)))
    have z2 : W.heap.size < W2.heap.size := Nat.lt_of_lt_of_le z1 hb2.size
    have f2 := Lib.hid (iha nd.b _ _ hrow2 (Rep.keep (fun _ _ _ h => own_below h B2.out) (Ext.refl _) a _ hr2) hok.2)
    generalize a.opn = y at f2 yb HE
    have a0 : W2.cell? ⟨W.heap.size, 0, none⟩ = some (.int .u8 112) := cell_of_row _ _ _ _ _ _ hblk2
    have a1 : W2.cell? ⟨W.heap.size, 1, none⟩ = some (.int .i64 (nd.a : Int)) := cell_of_row _ _ _ _ _ _ hblk2
    have a2 : W2.cell? ⟨W.heap.size, 2, none⟩ = some (.int .i64 (nd.b : Int)) := cell_of_row _ _ _ _ _ _ hblk2
    clear f1 hb2 hrow1 hblk hr2 z1
    go_wp2_with fail
    (with_reducible refine f2.out.mono ?_); rintro e W3 ⟨rfl, hb3⟩
    have hblk3 := (hb3.block _ z2).trans hblk2
    have B3 := Lib.hid (B2.out.trans (hb3.mono (Nat.le_of_lt z2)))
    have d0 : W3.cell? ⟨W.heap.size, 0, none⟩ = some (.int .u8 112) := cell_of_row _ _ _ _ _ _ hblk3
    have d3 : W3.cell? ⟨W.heap.size, 3, none⟩ = some (.int .i64 (nd.c : Int)) := cell_of_row _ _ _ _ _ _ hblk3
    have dz : decide ((x : Int) < 0) = false := decide_eq_false (by omega)
    have dz2 : decide ((y : Int) - 1 < 0) = true ∨ decide ((y : Int) - 1 < 0) = false := by cases decide ((y : Int) - 1 < 0) <;> simp
    clear f2 hb3 hrow2 hblk2 hblk3 a0 a1 a2
    by_cases hxy : x + 1 < y
    · have e1 : decide ((x : Int) < (y : Int) - 1) = true := decide_eq_true (by omega)
      have e2 : decide ((y : Int) - 1 < 0) = false := decide_eq_false (by omega)
      clear dz2
      go_wp2
      go_ret
      rw [HE.out, Nat.max_eq_right (by omega)]
      exact ⟨by rw [show ((y - 1 : Nat) : Int) = (y : Int) - 1 by omega]; rfl, B3.out⟩
    · have e1 : decide ((x : Int) < (y : Int) - 1) = false := decide_eq_false (by omega)
      clear dz2
      go_wp2
      go_ret
      rw [HE.out, Nat.max_eq_left (by omega)]
      exact ⟨rfl, B3.out⟩
  | lett f a c ihf iha ihc =>
    intro k W v hrow hr hok
    obtain ⟨nd, hnd, HK⟩ := hr
    obtain ⟨sa, sn, sc, hlv⟩ := hsl nd (List.mem_of_getElem? hnd)
    have hlt := hklt k nd hnd
    obtain ⟨g, cap, rfl, _, hgl⟩ := hrow.form (by omega)
    have c0 : W.cell? ⟨g, k * 7, none⟩ = some (.int .u8 (nd.kind.toNat : Int)) := node_at hrow hnd 0 (by decide)
    have c1 : W.cell? ⟨g, k * 7 + 1, none⟩ = some (.int .i64 (nd.a : Int)) := node_at hrow hnd 1 (by decide)
    have c2 : W.cell? ⟨g, k * 7 + 2, none⟩ = some (.int .i64 (nd.b : Int)) := node_at hrow hnd 2 (by decide)
    have c3 : W.cell? ⟨g, k * 7 + 3, none⟩ = some (.int .i64 (nd.c : Int)) := node_at hrow hnd 3 (by decide)
    have c4 : W.cell? ⟨g, k * 7 + 4, none⟩ = some (.int .i64 (nd.num : Int)) := node_at hrow hnd 4 (by decide)
    have c5 : W.cell? ⟨g, k * 7 + 5, none⟩ = some (.string ⟨nd.text.toArray⟩) := node_at hrow hnd 5 (by decide)
    have c6 : W.cell? ⟨g, k * 7 + 6, none⟩ = some (.slice sa sn sc) := by rw [← hlv]; exact node_at hrow hnd 6 (by decide)
    have q1 : (0 : Int) ≤ (k : Int) := by omega
    have q2 : (k : Int) < (ns.length : Int) := by omega
    obtain ⟨hkind, hr1, hr2, hr3⟩ := HK
    rw [hkind] at c0
    have b1 := (Below.refl W.heap.size W).alloc (Nat.le_refl _) (.cells #[.int .u8 116, .int .i64 (nd.a : Int), .int .i64 (nd.b : Int), .int .i64 (nd.c : Int), .int .i64 (nd.num : Int), .string ⟨nd.text.toArray⟩, .slice sa sn sc] 75)
    have hblk : (W.alloc (.cells #[.int .u8 116, .int .i64 (nd.a : Int), .int .i64 (nd.b : Int), .int .i64 (nd.c : Int), .int .i64 (nd.num : Int), .string ⟨nd.text.toArray⟩, .slice sa sn sc] 75)).heap[W.heap.size]? = some (.cells #[.int .u8 116, .int .i64 (nd.a : Int), .int .i64 (nd.b : Int), .int .i64 (nd.c : Int), .int .i64 (nd.num : Int), .string ⟨nd.text.toArray⟩, .slice sa sn sc] 75 (0, 0)) := heap_alloc_new W _
    have hrow1 := own_below hrow b1
    have ks1 : KeepS B W (W.alloc (.cells #[.int .u8 116, .int .i64 (nd.a : Int), .int .i64 (nd.b : Int), .int .i64 (nd.c : Int), .int .i64 (nd.num : Int), .string ⟨nd.text.toArray⟩, .slice sa sn sc] 75)) := fun _ _ _ h => own_below h b1
    have z1 : W.heap.size < (W.alloc (.cells #[.int .u8 116, .int .i64 (nd.a : Int), .int .i64 (nd.b : Int), .int .i64 (nd.c : Int), .int .i64 (nd.num : Int), .string ⟨nd.text.toArray⟩, .slice sa sn sc] 75)).heap.size := by simp
    have B1 := Lib.hid b1
    have f1 := Lib.hid (ihf nd.a _ _ hrow1 (Rep.keep ks1 (Ext.refl _) f _ hr1) hok.1)
    have xb := Tm.opn_le f hok.1
    have yb := Tm.opn_le a hok.2.1
    have HE : Hid ((Tm.lett f a c).opn = max (max f.opn a.opn) (c.opn - 1)) := rfl
    generalize f.opn = x at f1 xb HE
    have zb := Tm.opn_le c hok.2.2
    clear hnd hkind hlv b1 ks1 hrow hr1
    go_enter Tryd.func63, Tryd.ntmps63
    go_wp2_with fail
    (with_reducible refine f1.out.mono ?_); rintro e W2 ⟨rfl, hb2⟩
    have hblk2 := (hb2.block _ z1).trans hblk
    have hrow2 := own_below hrow1 hb2
    have B2 := Lib.hid (B1.out.trans (hb2.mono (Nat.le_of_lt z1)))
    have z2 : W.heap.size < W2.heap.size := Nat.lt_of_lt_of_le z1 hb2.size
    have f2 := Lib.hid (iha nd.b _ _ hrow2 (Rep.keep (fun _ _ _ h => own_below h B2.out) (Ext.refl _) a _ hr2) hok.2.1)
    generalize a.opn = y at f2 yb HE
    have a0 : W2.cell? ⟨W.heap.size, 0, none⟩ = some (.int .u8 116) := cell_of_row _ _ _ _ _ _ hblk2
    have a1 : W2.cell? ⟨W.heap.size, 1, none⟩ = some (.int .i64 (nd.a : Int)) := cell_of_row _ _ _ _ _ _ hblk2
    have a2 : W2.cell? ⟨W.heap.size, 2, none⟩ = some (.int .i64 (nd.b : Int)) := cell_of_row _ _ _ _ _ _ hblk2
    clear f1 hb2 hrow1 hblk hr2 z1
    go_wp2_with fail
    (with_reducible refine f2.out.mono ?_); rintro e W3 ⟨rfl, hb3⟩
    have hblk3 := (hb3.block _ z2).trans hblk2
    have B3 := Lib.hid (B2.out.trans (hb3.mono (Nat.le_of_lt z2)))
    have d0 : W3.cell? ⟨W.heap.size, 0, none⟩ = some (.int .u8 116) := cell_of_row _ _ _ _ _ _ hblk3
    have d3 : W3.cell? ⟨W.heap.size, 3, none⟩ = some (.int .i64 (nd.c : Int)) := cell_of_row _ _ _ _ _ _ hblk3
    have hrow3 := own_below hrow2 hb3
    have z3 : W.heap.size < W3.heap.size := Nat.lt_of_lt_of_le z2 hb3.size
    have f3 := Lib.hid (ihc nd.c _ _ hrow3 (Rep.keep (fun _ _ _ h => own_below h B3.out) (Ext.refl _) c _ hr3) hok.2.2)
    generalize c.opn = z at f3 zb HE
    clear f2 hb3 hrow2 hblk2 a0 a1 a2 hr3
    go_wp2_with fail
    (with_reducible refine f3.out.mono ?_); rintro e W4 ⟨rfl, hb4⟩
    have hblk4 := (hb4.block _ z3).trans hblk3
    have B4 := Lib.hid (B3.out.trans (hb4.mono (Nat.le_of_lt z3)))
    have g0 : W4.cell? ⟨W.heap.size, 0, none⟩ = some (.int .u8 116) := cell_of_row _ _ _ _ _ _ hblk4
    clear f3 hb4 hrow3 hblk3 hblk4 d0 d3
    by_cases hxy : x < y
    · have e1 : decide ((x : Int) < (y : Int)) = true := decide_eq_true (by omega)
      have e1n : decide (x < y) = true := decide_eq_true (by omega)
      by_cases hz : y + 1 < z
      · have e2 : decide ((y : Int) < (z : Int) - 1) = true := decide_eq_true (by omega)
        go_wp2
        go_ret
        rw [HE.out, Nat.max_eq_right (by omega)]
        exact ⟨by rw [show ((z - 1 : Nat) : Int) = (z : Int) - 1 by omega]; rfl, B4.out⟩
      · have e2 : decide ((y : Int) < (z : Int) - 1) = false := decide_eq_false (by omega)
        go_wp2
        go_ret
        rw [HE.out, Nat.max_eq_left (by omega), Nat.max_eq_right (by omega)]
        exact ⟨rfl, B4.out⟩
    · have e1 : decide ((x : Int) < (y : Int)) = false := decide_eq_false (by omega)
      have e1n : decide (x < y) = false := decide_eq_false (by omega)
      by_cases hz : x + 1 < z
      · have e2 : decide ((x : Int) < (z : Int) - 1) = true := decide_eq_true (by omega)
        go_wp2
        go_ret
        rw [HE.out, Nat.max_eq_right (by omega)]
        exact ⟨by rw [show ((z - 1 : Nat) : Int) = (z : Int) - 1 by omega]; rfl, B4.out⟩
      · have e2 : decide ((x : Int) < (z : Int) - 1) = false := decide_eq_false (by omega)
        go_wp2
        go_ret
        rw [HE.out, Nat.max_eq_left (by omega), Nat.max_eq_left (by omega)]
        exact ⟨rfl, B4.out⟩
end Go.Proofs.YtnklajagefedmaaDoor
