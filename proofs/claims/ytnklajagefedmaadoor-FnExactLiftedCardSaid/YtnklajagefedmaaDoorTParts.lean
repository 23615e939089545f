/-
  Contracts of spec.TermParts and ConstIn.
-/
import Derived.Test.YtnklajagefedmaaDoorTText
import Derived.Test.YtnklajagefedmaaDoorListsP
import Derived.Laws.AppendOwnNone
namespace Go.Proofs.YtnklajagefedmaaDoor
set_option maxRecDepth 100000
open Go.ChangeShapes Go.WideShapes Go.ChangeAt Go.RowKit
set_option linter.unusedSimpArgs false

theorem termParts_len (l : List UInt8) : (termParts l).length ≤ 3 := by
  unfold termParts
  cases termOf l with
  | none => exact Nat.zero_le _
  | some t => cases t <;> simp [Tm.parts]
theorem own_baseS {w : World} {b b' n z : Nat} {e : TypeId} {v : Value} {xs : List Value} (h : w.ownsRow b e z v n xs) (hb : b' ≤ b) : w.ownsRow b' e z v n xs := by
  obtain ⟨h1, h2 | ⟨g, cap, cur, e, h3, h4⟩⟩ := h
  · exact ⟨h1, .inl h2⟩
  · exact ⟨h1, .inr ⟨g, cap, cur, e, Nat.le_trans hb h3, h4⟩⟩

set_option maxHeartbeats 8000000 in
theorem specTermParts (s : ByteArray) (w : World) (hs : s.size ≤ maxLen) :
    Calls Tryd.prog 32 #[.string s] w (LRes' (termParts s.data.toList) w) := by
  have f1 := Lib.hid (specL06All s w hs)
  go_enter Tryd.func32, Tryd.ntmps32
  go_wp2_with fail
  (with_reducible refine f1.out.mono ?_); rintro e W ⟨v, ns, rfl, hrow, hb, hsl, (⟨t, ht, hn, hr⟩ | ⟨hno, rfl⟩)⟩
  rotate_left
  · obtain ⟨la, lc, rfl⟩ := own_sliceN hrow
    have HE : Hid (termParts s.data.toList = []) := by rw [Hid, termParts, termOf_none hno]
    have HB := Lib.hid hb
    clear hrow hno hb f1 hsl
    go_wp2
    go_ret
    rw [HE.out]
    exact ⟨_, rfl, World.ownsRow_lit W #[] 0 HB.out.size (by decide) (by simp), HB.out.alloc HB.out.size _⟩
  have HT : Hid (termParts s.data.toList = t.parts.map Tm.bytes) := by rw [Hid, termParts, termOf_some ht]
  have hle := ht.2.2
  rw [← ht.2.1] at hle
  have hok := ht.1
  have hsz := t.size_pos
  have hszl := t.size_le
  obtain ⟨k, hk⟩ : ∃ k, ns.length = k + 1 := ⟨ns.length - 1, by omega⟩
  rw [hk, Nat.add_sub_cancel] at hr
  have hn2 : ns.length ≤ 100000 := by omega
  have hk2 : k ≤ 100000 := by omega
  have HB := Lib.hid hb
  have hbz := hb.size
  have hklt : ∀ (k : Nat) nd, ns[k]? = some nd → k < ns.length := fun k nd h => by
    by_cases hl : k < ns.length
    · exact hl
    · rw [List.getElem?_eq_none (by omega)] at h; cases h
  clear f1 ht hsz hszl hb hn
  cases t with
  | var n =>
    obtain ⟨nd, hnd, HK⟩ := hr
    obtain ⟨sa, sn, sc, hlv⟩ := hsl nd (List.mem_of_getElem? hnd)
    have hlt := hklt k nd hnd
    obtain ⟨g, cap, rfl, _, hgl⟩ := hrow.form (by omega)
    have c0 : W.cell? ⟨g, k * 7, none⟩ = some (.int .u8 (nd.kind.toNat : Int)) := node_at hrow hnd 0 (by decide)
    have c1 : W.cell? ⟨g, k * 7 + 1, none⟩ = some (.int .i64 (nd.a : Int)) := node_at hrow hnd 1 (by decide)
    have c2 : W.cell? ⟨g, k * 7 + 2, none⟩ = some (.int .i64 (nd.b : Int)) := node_at hrow hnd 2 (by decide)
    have c3 : W.cell? ⟨g, k * 7 + 3, none⟩ = some (.int .i64 (nd.c : Int)) := node_at hrow hnd 3 (by decide)
    have c4 : W.cell? ⟨g, k * 7 + 4, none⟩ = some (.int .i64 (nd.num : Int)) := node_at hrow hnd 4 (by decide)
    have c5 : W.cell? ⟨g, k * 7 + 5, none⟩ = some (.string ⟨nd.text.toArray⟩) := node_at hrow hnd 5 (by decide)
    have c6 : W.cell? ⟨g, k * 7 + 6, none⟩ = some (.slice sa sn sc) := by rw [← hlv]; exact node_at hrow hnd 6 (by decide)
    have q1 : (0 : Int) ≤ (k : Int) := by omega
    have q2 : (k : Int) < (k : Int) + 1 := by omega
    have d0 : (((k : Int) + 1) == 0) = false := beq_eq_false_iff_ne.2 (by omega)
    have hkind : nd.kind = 118 := HK.1
    rw [hkind] at c0
    have HE : Hid (termParts s.data.toList = []) := HT.out
    have bb := ((HB.out.alloc HB.out.size (.cells #[.int .u8 118, .int .i64 (nd.a : Int), .int .i64 (nd.b : Int), .int .i64 (nd.c : Int), .int .i64 (nd.num : Int), .string ⟨nd.text.toArray⟩, .slice sa sn sc] 75)))
    have zz := bb.size
    have HBB := Lib.hid bb
    have r9 := World.ownsRow_lit (base := w.heap.size) (e := 9) (size := 1) (W.alloc (.cells #[.int .u8 118, .int .i64 (nd.a : Int), .int .i64 (nd.b : Int), .int .i64 (nd.c : Int), .int .i64 (nd.num : Int), .string ⟨nd.text.toArray⟩, .slice sa sn sc] 75)) #[] 0 zz (by decide) (by simp)
    rw [show (W.alloc (.cells #[.int .u8 118, .int .i64 (nd.a : Int), .int .i64 (nd.b : Int), .int .i64 (nd.c : Int), .int .i64 (nd.num : Int), .string ⟨nd.text.toArray⟩, .slice sa sn sc] 75)).heap.size = W.heap.size + 1 by simp] at r9
    have R9 := Lib.hid r9
    rw [hk]
    clear hrow hnd HK hkind hlv hsl hklt HT hok hle bb hn2 hk r9
    go_wp2
    go_ret
    rw [HE.out]
    exact ⟨_, rfl, R9.out, HBB.out.alloc zz _⟩
  | sort l =>
    obtain ⟨nd, hnd, HK⟩ := hr
    obtain ⟨sa, sn, sc, hlv⟩ := hsl nd (List.mem_of_getElem? hnd)
    have hlt := hklt k nd hnd
    obtain ⟨g, cap, rfl, _, hgl⟩ := hrow.form (by omega)
    have c0 : W.cell? ⟨g, k * 7, none⟩ = some (.int .u8 (nd.kind.toNat : Int)) := node_at hrow hnd 0 (by decide)
    have c1 : W.cell? ⟨g, k * 7 + 1, none⟩ = some (.int .i64 (nd.a : Int)) := node_at hrow hnd 1 (by decide)
    have c2 : W.cell? ⟨g, k * 7 + 2, none⟩ = some (.int .i64 (nd.b : Int)) := node_at hrow hnd 2 (by decide)
    have c3 : W.cell? ⟨g, k * 7 + 3, none⟩ = some (.int .i64 (nd.c : Int)) := node_at hrow hnd 3 (by decide)
    have c4 : W.cell? ⟨g, k * 7 + 4, none⟩ = some (.int .i64 (nd.num : Int)) := node_at hrow hnd 4 (by decide)
    have c5 : W.cell? ⟨g, k * 7 + 5, none⟩ = some (.string ⟨nd.text.toArray⟩) := node_at hrow hnd 5 (by decide)
    have c6 : W.cell? ⟨g, k * 7 + 6, none⟩ = some (.slice sa sn sc) := by rw [← hlv]; exact node_at hrow hnd 6 (by decide)
    have q1 : (0 : Int) ≤ (k : Int) := by omega
    have q2 : (k : Int) < (k : Int) + 1 := by omega
    have d0 : (((k : Int) + 1) == 0) = false := beq_eq_false_iff_ne.2 (by omega)
    have hkind : nd.kind = 115 := HK.1
    rw [hkind] at c0
    have HE : Hid (termParts s.data.toList = []) := HT.out
    have bb := ((HB.out.alloc HB.out.size (.cells #[.int .u8 115, .int .i64 (nd.a : Int), .int .i64 (nd.b : Int), .int .i64 (nd.c : Int), .int .i64 (nd.num : Int), .string ⟨nd.text.toArray⟩, .slice sa sn sc] 75)))
    have zz := bb.size
    have HBB := Lib.hid bb
    have r9 := World.ownsRow_lit (base := w.heap.size) (e := 9) (size := 1) (W.alloc (.cells #[.int .u8 115, .int .i64 (nd.a : Int), .int .i64 (nd.b : Int), .int .i64 (nd.c : Int), .int .i64 (nd.num : Int), .string ⟨nd.text.toArray⟩, .slice sa sn sc] 75)) #[] 0 zz (by decide) (by simp)
    rw [show (W.alloc (.cells #[.int .u8 115, .int .i64 (nd.a : Int), .int .i64 (nd.b : Int), .int .i64 (nd.c : Int), .int .i64 (nd.num : Int), .string ⟨nd.text.toArray⟩, .slice sa sn sc] 75)).heap.size = W.heap.size + 1 by simp] at r9
    have R9 := Lib.hid r9
    rw [hk]
    clear hrow hnd HK hkind hlv hsl hklt HT hok hle bb hn2 hk r9
    go_wp2
    go_ret
    rw [HE.out]
    exact ⟨_, rfl, R9.out, HBB.out.alloc zz _⟩
  | const n ls =>
    obtain ⟨nd, hnd, HK⟩ := hr
    obtain ⟨sa, sn, sc, hlv⟩ := hsl nd (List.mem_of_getElem? hnd)
    have hlt := hklt k nd hnd
    obtain ⟨g, cap, rfl, _, hgl⟩ := hrow.form (by omega)
    have c0 : W.cell? ⟨g, k * 7, none⟩ = some (.int .u8 (nd.kind.toNat : Int)) := node_at hrow hnd 0 (by decide)
    have c1 : W.cell? ⟨g, k * 7 + 1, none⟩ = some (.int .i64 (nd.a : Int)) := node_at hrow hnd 1 (by decide)
    have c2 : W.cell? ⟨g, k * 7 + 2, none⟩ = some (.int .i64 (nd.b : Int)) := node_at hrow hnd 2 (by decide)
    have c3 : W.cell? ⟨g, k * 7 + 3, none⟩ = some (.int .i64 (nd.c : Int)) := node_at hrow hnd 3 (by decide)
    have c4 : W.cell? ⟨g, k * 7 + 4, none⟩ = some (.int .i64 (nd.num : Int)) := node_at hrow hnd 4 (by decide)
    have c5 : W.cell? ⟨g, k * 7 + 5, none⟩ = some (.string ⟨nd.text.toArray⟩) := node_at hrow hnd 5 (by decide)
    have c6 : W.cell? ⟨g, k * 7 + 6, none⟩ = some (.slice sa sn sc) := by rw [← hlv]; exact node_at hrow hnd 6 (by decide)
    have q1 : (0 : Int) ≤ (k : Int) := by omega
    have q2 : (k : Int) < (k : Int) + 1 := by omega
    have d0 : (((k : Int) + 1) == 0) = false := beq_eq_false_iff_ne.2 (by omega)
    have hkind : nd.kind = 99 := HK.1
    rw [hkind] at c0
    have HE : Hid (termParts s.data.toList = []) := HT.out
    have bb := ((HB.out.alloc HB.out.size (.cells #[.int .u8 99, .int .i64 (nd.a : Int), .int .i64 (nd.b : Int), .int .i64 (nd.c : Int), .int .i64 (nd.num : Int), .string ⟨nd.text.toArray⟩, .slice sa sn sc] 75)))
    have zz := bb.size
    have HBB := Lib.hid bb
    have r9 := World.ownsRow_lit (base := w.heap.size) (e := 9) (size := 1) (W.alloc (.cells #[.int .u8 99, .int .i64 (nd.a : Int), .int .i64 (nd.b : Int), .int .i64 (nd.c : Int), .int .i64 (nd.num : Int), .string ⟨nd.text.toArray⟩, .slice sa sn sc] 75)) #[] 0 zz (by decide) (by simp)
    rw [show (W.alloc (.cells #[.int .u8 99, .int .i64 (nd.a : Int), .int .i64 (nd.b : Int), .int .i64 (nd.c : Int), .int .i64 (nd.num : Int), .string ⟨nd.text.toArray⟩, .slice sa sn sc] 75)).heap.size = W.heap.size + 1 by simp] at r9
    have R9 := Lib.hid r9
    rw [hk]
    clear hrow hnd HK hkind hlv hsl hklt HT hok hle bb hn2 hk r9
    go_wp2
    go_ret
    rw [HE.out]
    exact ⟨_, rfl, R9.out, HBB.out.alloc zz _⟩
  | app f a =>
    obtain ⟨nd, hnd, HK⟩ := hr
    obtain ⟨sa, sn, sc, hlv⟩ := hsl nd (List.mem_of_getElem? hnd)
    have hlt := hklt k nd hnd
    obtain ⟨g, cap, rfl, _, hgl⟩ := hrow.form (by omega)
    have c0 : W.cell? ⟨g, k * 7, none⟩ = some (.int .u8 (nd.kind.toNat : Int)) := node_at hrow hnd 0 (by decide)
    have c1 : W.cell? ⟨g, k * 7 + 1, none⟩ = some (.int .i64 (nd.a : Int)) := node_at hrow hnd 1 (by decide)
    have c2 : W.cell? ⟨g, k * 7 + 2, none⟩ = some (.int .i64 (nd.b : Int)) := node_at hrow hnd 2 (by decide)
    have c3 : W.cell? ⟨g, k * 7 + 3, none⟩ = some (.int .i64 (nd.c : Int)) := node_at hrow hnd 3 (by decide)
    have c4 : W.cell? ⟨g, k * 7 + 4, none⟩ = some (.int .i64 (nd.num : Int)) := node_at hrow hnd 4 (by decide)
    have c5 : W.cell? ⟨g, k * 7 + 5, none⟩ = some (.string ⟨nd.text.toArray⟩) := node_at hrow hnd 5 (by decide)
    have c6 : W.cell? ⟨g, k * 7 + 6, none⟩ = some (.slice sa sn sc) := by rw [← hlv]; exact node_at hrow hnd 6 (by decide)
    have q1 : (0 : Int) ≤ (k : Int) := by omega
    have q2 : (k : Int) < (k : Int) + 1 := by omega
    have d0 : (((k : Int) + 1) == 0) = false := beq_eq_false_iff_ne.2 (by omega)
    obtain ⟨hkind, hr1, hr2⟩ := HK
    rw [hkind] at c0
    have b1 := (Below.refl W.heap.size W).alloc (Nat.le_refl _) (.cells #[.int .u8 64, .int .i64 (nd.a : Int), .int .i64 (nd.b : Int), .int .i64 (nd.c : Int), .int .i64 (nd.num : Int), .string ⟨nd.text.toArray⟩, .slice sa sn sc] 75)
    have hblk : (W.alloc (.cells #[.int .u8 64, .int .i64 (nd.a : Int), .int .i64 (nd.b : Int), .int .i64 (nd.c : Int), .int .i64 (nd.num : Int), .string ⟨nd.text.toArray⟩, .slice sa sn sc] 75)).heap[W.heap.size]? = some (.cells #[.int .u8 64, .int .i64 (nd.a : Int), .int .i64 (nd.b : Int), .int .i64 (nd.c : Int), .int .i64 (nd.num : Int), .string ⟨nd.text.toArray⟩, .slice sa sn sc] 75 (0, 0)) := heap_alloc_new W _
    have z1 : W.heap.size < (W.alloc (.cells #[.int .u8 64, .int .i64 (nd.a : Int), .int .i64 (nd.b : Int), .int .i64 (nd.c : Int), .int .i64 (nd.num : Int), .string ⟨nd.text.toArray⟩, .slice sa sn sc] 75)).heap.size := by simp
    have HBC : Hid (∀ W', Below (W.alloc (.cells #[.int .u8 64, .int .i64 (nd.a : Int), .int .i64 (nd.b : Int), .int .i64 (nd.c : Int), .int .i64 (nd.num : Int), .string ⟨nd.text.toArray⟩, .slice sa sn sc] 75)).heap.size (W.alloc (.cells #[.int .u8 64, .int .i64 (nd.a : Int), .int .i64 (nd.b : Int), .int .i64 (nd.c : Int), .int .i64 (nd.num : Int), .string ⟨nd.text.toArray⟩, .slice sa sn sc] 75)) W' → W'.cell? ⟨W.heap.size, 3, none⟩ = some (.int .i64 (nd.c : Int)) ∧ W'.cell? ⟨W.heap.size, 1, none⟩ = some (.int .i64 (nd.a : Int)) ∧ W'.cell? ⟨W.heap.size, 2, none⟩ = some (.int .i64 (nd.b : Int))) := fun W' hb => by
      have h := (hb.block _ z1).trans hblk
      exact ⟨cell_of_row _ _ _ _ _ _ h, cell_of_row _ _ _ _ _ _ h, cell_of_row _ _ _ _ _ _ h⟩
    have Hf : Hid (∀ W', Below (W.alloc (.cells #[.int .u8 64, .int .i64 (nd.a : Int), .int .i64 (nd.b : Int), .int .i64 (nd.c : Int), .int .i64 (nd.num : Int), .string ⟨nd.text.toArray⟩, .slice sa sn sc] 75)).heap.size (W.alloc (.cells #[.int .u8 64, .int .i64 (nd.a : Int), .int .i64 (nd.b : Int), .int .i64 (nd.c : Int), .int .i64 (nd.num : Int), .string ⟨nd.text.toArray⟩, .slice sa sn sc] 75)) W' → Calls Tryd.prog 60 #[.slice (some ⟨g, 0, none⟩) (k + 1) cap, .int .i64 (nd.a : Int)] W' fun e w' => e = .returned (.string ⟨f.bytes.toArray⟩) ∧ Below W'.heap.size W' w') := fun W' hb => by
      rw [← hk]
      exact specL06Text hn2 hsl f nd.a W' _ (own_below (own_below hrow b1) hb) (Rep.keep (fun _ _ _ h => own_below (own_below h b1) hb) (Ext.refl _) f _ hr1) hok.1 (by simp only [Tm.bytes, List.length_cons, List.length_append] at hle; omega)
    have Ha : Hid (∀ W', Below (W.alloc (.cells #[.int .u8 64, .int .i64 (nd.a : Int), .int .i64 (nd.b : Int), .int .i64 (nd.c : Int), .int .i64 (nd.num : Int), .string ⟨nd.text.toArray⟩, .slice sa sn sc] 75)).heap.size (W.alloc (.cells #[.int .u8 64, .int .i64 (nd.a : Int), .int .i64 (nd.b : Int), .int .i64 (nd.c : Int), .int .i64 (nd.num : Int), .string ⟨nd.text.toArray⟩, .slice sa sn sc] 75)) W' → Calls Tryd.prog 60 #[.slice (some ⟨g, 0, none⟩) (k + 1) cap, .int .i64 (nd.b : Int)] W' fun e w' => e = .returned (.string ⟨a.bytes.toArray⟩) ∧ Below W'.heap.size W' w') := fun W' hb => by
      rw [← hk]
      exact specL06Text hn2 hsl a nd.b W' _ (own_below (own_below hrow b1) hb) (Rep.keep (fun _ _ _ h => own_below (own_below h b1) hb) (Ext.refl _) a _ hr2) hok.2 (by simp only [Tm.bytes, List.length_cons, List.length_append] at hle; omega)
    have HE : Hid (termParts s.data.toList = [f.bytes, a.bytes]) := HT.out
    have B0 := Lib.hid (HB.out.trans (b1.mono HB.out.size))
    have Z0 := Lib.hid (B0.out.size)
    rw [hk]
    clear hnd hkind hlv hsl hklt hrow hr1 hr2 hok hle b1 hblk z1 HT hn2 hk HB hbz
    generalize f.bytes = fb at Hf HE
    generalize a.bytes = ab at Ha HE
    go_wp2_with fail
    clear c0 c1 c2 c3 c4 c5 c6
    generalize (W.alloc (.cells #[.int .u8 64, .int .i64 (nd.a : Int), .int .i64 (nd.b : Int), .int .i64 (nd.c : Int), .int .i64 (nd.num : Int), .string ⟨nd.text.toArray⟩, .slice sa sn sc] 75)) = W1 at HBC Hf Ha B0 Z0
    have B1 := Below.refl W1.heap.size W1
    refine wp_region_held_drew (S := fun w' => Below W1.heap.size W1 w') (by kernel_rfl) B1.drew (fun hS0 => ?_)
    generalize W1.drew = w1 at hS0 ⊢
    refine heldT 0 39 (.slice (some ⟨g, 0, none⟩) (k + 1) cap) rfl rfl (by kernel_rfl) (by kernel_rfl) (by kernel_rfl) (fun _ _ _ h => h) (by rfl) hS0 (fun W' hSW => ?_) ?_
    · obtain ⟨x0, x1, x2⟩ := HBC.out W' hSW; (try go_simp) <;> (try omega)
    try simp only [Act.put, List.setIfInBounds_toArray, List.set_cons_zero, List.set_cons_succ]
    refine heldT 1 40 (.pointer (some ⟨W.heap.size, 1, none⟩)) rfl rfl (by kernel_rfl) (by kernel_rfl) (by kernel_rfl) (fun _ _ _ h => h) (by rfl) hS0 (fun W' hSW => ?_) ?_
    · obtain ⟨x0, x1, x2⟩ := HBC.out W' hSW; (try go_simp) <;> (try omega)
    try simp only [Act.put, List.setIfInBounds_toArray, List.set_cons_zero, List.set_cons_succ]
    refine heldT 2 41 (.int .i64 (nd.a : Int)) rfl rfl (by kernel_rfl) (by kernel_rfl) (by kernel_rfl) (fun _ _ _ h => h) (by rfl) hS0 (fun W' hSW => ?_) ?_
    · obtain ⟨x0, x1, x2⟩ := HBC.out W' hSW; (try go_simp) <;> (try omega)
    try simp only [Act.put, List.setIfInBounds_toArray, List.set_cons_zero, List.set_cons_succ]
    refine heldT 4 43 (.slice (some ⟨g, 0, none⟩) (k + 1) cap) rfl rfl (by kernel_rfl) (by kernel_rfl) (by kernel_rfl) (fun _ _ _ h => h) (by rfl) hS0 (fun W' hSW => ?_) ?_
    · obtain ⟨x0, x1, x2⟩ := HBC.out W' hSW; (try go_simp) <;> (try omega)
    try simp only [Act.put, List.setIfInBounds_toArray, List.set_cons_zero, List.set_cons_succ]
    refine heldT 5 44 (.pointer (some ⟨W.heap.size, 2, none⟩)) rfl rfl (by kernel_rfl) (by kernel_rfl) (by kernel_rfl) (fun _ _ _ h => h) (by rfl) hS0 (fun W' hSW => ?_) ?_
    · obtain ⟨x0, x1, x2⟩ := HBC.out W' hSW; (try go_simp) <;> (try omega)
    try simp only [Act.put, List.setIfInBounds_toArray, List.set_cons_zero, List.set_cons_succ]
    refine heldT 6 45 (.int .i64 (nd.b : Int)) rfl rfl (by kernel_rfl) (by kernel_rfl) (by kernel_rfl) (fun _ _ _ h => h) (by rfl) hS0 (fun W' hSW => ?_) ?_
    · obtain ⟨x0, x1, x2⟩ := HBC.out W' hSW; (try go_simp) <;> (try omega)
    try simp only [Act.put, List.setIfInBounds_toArray, List.set_cons_zero, List.set_cons_succ]
    refine wpAnyH_ready (rs := [3]) (by kernel_rfl) (by simp) ((AllReadyH.cons rfl (fun K hK => ?_) AllReadyH.nil))
    rw [if_pos (by rfl)]
    go_simp
    (with_reducible refine (Hf.out _ hS0).mono ?_); rintro e w2 ⟨rfl, hb_w2⟩
    refine hK.out _ _ (stepS hS0 hb_w2) (fun hS_w2 => ?_)
    clear hK K hb_w2
    try simp only [Act.put, List.setIfInBounds_toArray, List.set_cons_zero, List.set_cons_succ]
    refine wpAnyH_ready (rs := [7]) (by kernel_rfl) (by simp) ((AllReadyH.cons rfl (fun K hK => ?_) AllReadyH.nil))
    rw [if_pos (by rfl)]
    go_simp
    (with_reducible refine (Ha.out _ hS_w2).mono ?_); rintro e w3 ⟨rfl, hb_w3⟩
    refine hK.out _ _ (stepS hS_w2 hb_w3) (fun hS_w3 => ?_)
    clear hK K hb_w3
    try simp only [Act.put, List.setIfInBounds_toArray, List.set_cons_zero, List.set_cons_succ]
    refine wpAnyH_ready (rs := [8]) (by kernel_rfl) (by simp) ((AllReadyH.cons rfl (fun K hK => ?_) AllReadyH.nil))
    rw [if_pos (by rfl)]
    go_simp
    refine hK.out _ _ (allocS hS_w3 _) (fun hSb => ?_)
    clear hK K
    try simp only [Act.put, List.setIfInBounds_toArray, List.set_cons_zero, List.set_cons_succ]
    refine heldT 9 2 (.slice (some ⟨w3.heap.size, 0, none⟩) 2 2) rfl rfl (by kernel_rfl) (by kernel_rfl) (by kernel_rfl) (fun _ _ _ h => h) (by rfl) hSb (fun W' hSW => ?_) ?_
    · skip; (try go_simp) <;> (try omega)
    try simp only [Act.put, List.setIfInBounds_toArray, List.set_cons_zero, List.set_cons_succ]
    refine wpAnyH_done (by kernel_rfl) ?_ _
    have HL := Lib.hid (B0.out.trans (hS_w3.mono Z0.out))
    clear hSb
    go_wp2
    go_ret
    rw [HE.out]
    exact ⟨_, rfl, World.ownsRow_lit (base := w.heap.size) (e := 9) (size := 1) w3 #[.string ⟨fb.toArray⟩, .string ⟨ab.toArray⟩] 2 HL.out.size (by decide) (by simp), HL.out.alloc HL.out.size _⟩
  | lam f a =>
    obtain ⟨nd, hnd, HK⟩ := hr
    obtain ⟨sa, sn, sc, hlv⟩ := hsl nd (List.mem_of_getElem? hnd)
    have hlt := hklt k nd hnd
    obtain ⟨g, cap, rfl, _, hgl⟩ := hrow.form (by omega)
    have c0 : W.cell? ⟨g, k * 7, none⟩ = some (.int .u8 (nd.kind.toNat : Int)) := node_at hrow hnd 0 (by decide)
    have c1 : W.cell? ⟨g, k * 7 + 1, none⟩ = some (.int .i64 (nd.a : Int)) := node_at hrow hnd 1 (by decide)
    have c2 : W.cell? ⟨g, k * 7 + 2, none⟩ = some (.int .i64 (nd.b : Int)) := node_at hrow hnd 2 (by decide)
    have c3 : W.cell? ⟨g, k * 7 + 3, none⟩ = some (.int .i64 (nd.c : Int)) := node_at hrow hnd 3 (by decide)
    have c4 : W.cell? ⟨g, k * 7 + 4, none⟩ = some (.int .i64 (nd.num : Int)) := node_at hrow hnd 4 (by decide)
    have c5 : W.cell? ⟨g, k * 7 + 5, none⟩ = some (.string ⟨nd.text.toArray⟩) := node_at hrow hnd 5 (by decide)
    have c6 : W.cell? ⟨g, k * 7 + 6, none⟩ = some (.slice sa sn sc) := by rw [← hlv]; exact node_at hrow hnd 6 (by decide)
    have q1 : (0 : Int) ≤ (k : Int) := by omega
    have q2 : (k : Int) < (k : Int) + 1 := by omega
    have d0 : (((k : Int) + 1) == 0) = false := beq_eq_false_iff_ne.2 (by omega)
    obtain ⟨hkind, hr1, hr2⟩ := HK
    rw [hkind] at c0
    have b1 := (Below.refl W.heap.size W).alloc (Nat.le_refl _) (.cells #[.int .u8 108, .int .i64 (nd.a : Int), .int .i64 (nd.b : Int), .int .i64 (nd.c : Int), .int .i64 (nd.num : Int), .string ⟨nd.text.toArray⟩, .slice sa sn sc] 75)
    have hblk : (W.alloc (.cells #[.int .u8 108, .int .i64 (nd.a : Int), .int .i64 (nd.b : Int), .int .i64 (nd.c : Int), .int .i64 (nd.num : Int), .string ⟨nd.text.toArray⟩, .slice sa sn sc] 75)).heap[W.heap.size]? = some (.cells #[.int .u8 108, .int .i64 (nd.a : Int), .int .i64 (nd.b : Int), .int .i64 (nd.c : Int), .int .i64 (nd.num : Int), .string ⟨nd.text.toArray⟩, .slice sa sn sc] 75 (0, 0)) := heap_alloc_new W _
    have z1 : W.heap.size < (W.alloc (.cells #[.int .u8 108, .int .i64 (nd.a : Int), .int .i64 (nd.b : Int), .int .i64 (nd.c : Int), .int .i64 (nd.num : Int), .string ⟨nd.text.toArray⟩, .slice sa sn sc] 75)).heap.size := by simp
    have HBC : Hid (∀ W', Below (W.alloc (.cells #[.int .u8 108, .int .i64 (nd.a : Int), .int .i64 (nd.b : Int), .int .i64 (nd.c : Int), .int .i64 (nd.num : Int), .string ⟨nd.text.toArray⟩, .slice sa sn sc] 75)).heap.size (W.alloc (.cells #[.int .u8 108, .int .i64 (nd.a : Int), .int .i64 (nd.b : Int), .int .i64 (nd.c : Int), .int .i64 (nd.num : Int), .string ⟨nd.text.toArray⟩, .slice sa sn sc] 75)) W' → W'.cell? ⟨W.heap.size, 3, none⟩ = some (.int .i64 (nd.c : Int)) ∧ W'.cell? ⟨W.heap.size, 1, none⟩ = some (.int .i64 (nd.a : Int)) ∧ W'.cell? ⟨W.heap.size, 2, none⟩ = some (.int .i64 (nd.b : Int))) := fun W' hb => by
      have h := (hb.block _ z1).trans hblk
      exact ⟨cell_of_row _ _ _ _ _ _ h, cell_of_row _ _ _ _ _ _ h, cell_of_row _ _ _ _ _ _ h⟩
    have Hf : Hid (∀ W', Below (W.alloc (.cells #[.int .u8 108, .int .i64 (nd.a : Int), .int .i64 (nd.b : Int), .int .i64 (nd.c : Int), .int .i64 (nd.num : Int), .string ⟨nd.text.toArray⟩, .slice sa sn sc] 75)).heap.size (W.alloc (.cells #[.int .u8 108, .int .i64 (nd.a : Int), .int .i64 (nd.b : Int), .int .i64 (nd.c : Int), .int .i64 (nd.num : Int), .string ⟨nd.text.toArray⟩, .slice sa sn sc] 75)) W' → Calls Tryd.prog 60 #[.slice (some ⟨g, 0, none⟩) (k + 1) cap, .int .i64 (nd.a : Int)] W' fun e w' => e = .returned (.string ⟨f.bytes.toArray⟩) ∧ Below W'.heap.size W' w') := fun W' hb => by
      rw [← hk]
      exact specL06Text hn2 hsl f nd.a W' _ (own_below (own_below hrow b1) hb) (Rep.keep (fun _ _ _ h => own_below (own_below h b1) hb) (Ext.refl _) f _ hr1) hok.1 (by simp only [Tm.bytes, List.length_cons, List.length_append] at hle; omega)
    have Ha : Hid (∀ W', Below (W.alloc (.cells #[.int .u8 108, .int .i64 (nd.a : Int), .int .i64 (nd.b : Int), .int .i64 (nd.c : Int), .int .i64 (nd.num : Int), .string ⟨nd.text.toArray⟩, .slice sa sn sc] 75)).heap.size (W.alloc (.cells #[.int .u8 108, .int .i64 (nd.a : Int), .int .i64 (nd.b : Int), .int .i64 (nd.c : Int), .int .i64 (nd.num : Int), .string ⟨nd.text.toArray⟩, .slice sa sn sc] 75)) W' → Calls Tryd.prog 60 #[.slice (some ⟨g, 0, none⟩) (k + 1) cap, .int .i64 (nd.b : Int)] W' fun e w' => e = .returned (.string ⟨a.bytes.toArray⟩) ∧ Below W'.heap.size W' w') := fun W' hb => by
      rw [← hk]
      exact specL06Text hn2 hsl a nd.b W' _ (own_below (own_below hrow b1) hb) (Rep.keep (fun _ _ _ h => own_below (own_below h b1) hb) (Ext.refl _) a _ hr2) hok.2 (by simp only [Tm.bytes, List.length_cons, List.length_append] at hle; omega)
    have HE : Hid (termParts s.data.toList = [f.bytes, a.bytes]) := HT.out
    have B0 := Lib.hid (HB.out.trans (b1.mono HB.out.size))
    have Z0 := Lib.hid (B0.out.size)
    rw [hk]
    clear hnd hkind hlv hsl hklt hrow hr1 hr2 hok hle b1 hblk z1 HT hn2 hk HB hbz
    generalize f.bytes = fb at Hf HE
    generalize a.bytes = ab at Ha HE
    go_wp2_with fail
    clear c0 c1 c2 c3 c4 c5 c6
    generalize (W.alloc (.cells #[.int .u8 108, .int .i64 (nd.a : Int), .int .i64 (nd.b : Int), .int .i64 (nd.c : Int), .int .i64 (nd.num : Int), .string ⟨nd.text.toArray⟩, .slice sa sn sc] 75)) = W1 at HBC Hf Ha B0 Z0
    have B1 := Below.refl W1.heap.size W1
    refine wp_region_held_drew (S := fun w' => Below W1.heap.size W1 w') (by kernel_rfl) B1.drew (fun hS0 => ?_)
    generalize W1.drew = w1 at hS0 ⊢
    refine heldT 0 39 (.slice (some ⟨g, 0, none⟩) (k + 1) cap) rfl rfl (by kernel_rfl) (by kernel_rfl) (by kernel_rfl) (fun _ _ _ h => h) (by rfl) hS0 (fun W' hSW => ?_) ?_
    · obtain ⟨x0, x1, x2⟩ := HBC.out W' hSW; (try go_simp) <;> (try omega)
    try simp only [Act.put, List.setIfInBounds_toArray, List.set_cons_zero, List.set_cons_succ]
    refine heldT 1 40 (.pointer (some ⟨W.heap.size, 1, none⟩)) rfl rfl (by kernel_rfl) (by kernel_rfl) (by kernel_rfl) (fun _ _ _ h => h) (by rfl) hS0 (fun W' hSW => ?_) ?_
    · obtain ⟨x0, x1, x2⟩ := HBC.out W' hSW; (try go_simp) <;> (try omega)
    try simp only [Act.put, List.setIfInBounds_toArray, List.set_cons_zero, List.set_cons_succ]
    refine heldT 2 41 (.int .i64 (nd.a : Int)) rfl rfl (by kernel_rfl) (by kernel_rfl) (by kernel_rfl) (fun _ _ _ h => h) (by rfl) hS0 (fun W' hSW => ?_) ?_
    · obtain ⟨x0, x1, x2⟩ := HBC.out W' hSW; (try go_simp) <;> (try omega)
    try simp only [Act.put, List.setIfInBounds_toArray, List.set_cons_zero, List.set_cons_succ]
    refine heldT 4 43 (.slice (some ⟨g, 0, none⟩) (k + 1) cap) rfl rfl (by kernel_rfl) (by kernel_rfl) (by kernel_rfl) (fun _ _ _ h => h) (by rfl) hS0 (fun W' hSW => ?_) ?_
    · obtain ⟨x0, x1, x2⟩ := HBC.out W' hSW; (try go_simp) <;> (try omega)
    try simp only [Act.put, List.setIfInBounds_toArray, List.set_cons_zero, List.set_cons_succ]
    refine heldT 5 44 (.pointer (some ⟨W.heap.size, 2, none⟩)) rfl rfl (by kernel_rfl) (by kernel_rfl) (by kernel_rfl) (fun _ _ _ h => h) (by rfl) hS0 (fun W' hSW => ?_) ?_
    · obtain ⟨x0, x1, x2⟩ := HBC.out W' hSW; (try go_simp) <;> (try omega)
    try simp only [Act.put, List.setIfInBounds_toArray, List.set_cons_zero, List.set_cons_succ]
    refine heldT 6 45 (.int .i64 (nd.b : Int)) rfl rfl (by kernel_rfl) (by kernel_rfl) (by kernel_rfl) (fun _ _ _ h => h) (by rfl) hS0 (fun W' hSW => ?_) ?_
    · obtain ⟨x0, x1, x2⟩ := HBC.out W' hSW; (try go_simp) <;> (try omega)
    try simp only [Act.put, List.setIfInBounds_toArray, List.set_cons_zero, List.set_cons_succ]
    refine wpAnyH_ready (rs := [3]) (by kernel_rfl) (by simp) ((AllReadyH.cons rfl (fun K hK => ?_) AllReadyH.nil))
    rw [if_pos (by rfl)]
    go_simp
    (with_reducible refine (Hf.out _ hS0).mono ?_); rintro e w2 ⟨rfl, hb_w2⟩
    refine hK.out _ _ (stepS hS0 hb_w2) (fun hS_w2 => ?_)
    clear hK K hb_w2
    try simp only [Act.put, List.setIfInBounds_toArray, List.set_cons_zero, List.set_cons_succ]
    refine wpAnyH_ready (rs := [7]) (by kernel_rfl) (by simp) ((AllReadyH.cons rfl (fun K hK => ?_) AllReadyH.nil))
    rw [if_pos (by rfl)]
    go_simp
    (with_reducible refine (Ha.out _ hS_w2).mono ?_); rintro e w3 ⟨rfl, hb_w3⟩
    refine hK.out _ _ (stepS hS_w2 hb_w3) (fun hS_w3 => ?_)
    clear hK K hb_w3
    try simp only [Act.put, List.setIfInBounds_toArray, List.set_cons_zero, List.set_cons_succ]
    refine wpAnyH_ready (rs := [8]) (by kernel_rfl) (by simp) ((AllReadyH.cons rfl (fun K hK => ?_) AllReadyH.nil))
    rw [if_pos (by rfl)]
    go_simp
    refine hK.out _ _ (allocS hS_w3 _) (fun hSb => ?_)
    clear hK K
    try simp only [Act.put, List.setIfInBounds_toArray, List.set_cons_zero, List.set_cons_succ]
    refine heldT 9 2 (.slice (some ⟨w3.heap.size, 0, none⟩) 2 2) rfl rfl (by kernel_rfl) (by kernel_rfl) (by kernel_rfl) (fun _ _ _ h => h) (by rfl) hSb (fun W' hSW => ?_) ?_
    · skip; (try go_simp) <;> (try omega)
    try simp only [Act.put, List.setIfInBounds_toArray, List.set_cons_zero, List.set_cons_succ]
    refine wpAnyH_done (by kernel_rfl) ?_ _
    have HL := Lib.hid (B0.out.trans (hS_w3.mono Z0.out))
    clear hSb
    go_wp2
    go_ret
    rw [HE.out]
    exact ⟨_, rfl, World.ownsRow_lit (base := w.heap.size) (e := 9) (size := 1) w3 #[.string ⟨fb.toArray⟩, .string ⟨ab.toArray⟩] 2 HL.out.size (by decide) (by simp), HL.out.alloc HL.out.size _⟩
  | pi f a =>
    obtain ⟨nd, hnd, HK⟩ := hr
    obtain ⟨sa, sn, sc, hlv⟩ := hsl nd (List.mem_of_getElem? hnd)
    have hlt := hklt k nd hnd
    obtain ⟨g, cap, rfl, _, hgl⟩ := hrow.form (by omega)
    have c0 : W.cell? ⟨g, k * 7, none⟩ = some (.int .u8 (nd.kind.toNat : Int)) := node_at hrow hnd 0 (by decide)
    have c1 : W.cell? ⟨g, k * 7 + 1, none⟩ = some (.int .i64 (nd.a : Int)) := node_at hrow hnd 1 (by decide)
    have c2 : W.cell? ⟨g, k * 7 + 2, none⟩ = some (.int .i64 (nd.b : Int)) := node_at hrow hnd 2 (by decide)
    have c3 : W.cell? ⟨g, k * 7 + 3, none⟩ = some (.int .i64 (nd.c : Int)) := node_at hrow hnd 3 (by decide)
    have c4 : W.cell? ⟨g, k * 7 + 4, none⟩ = some (.int .i64 (nd.num : Int)) := node_at hrow hnd 4 (by decide)
    have c5 : W.cell? ⟨g, k * 7 + 5, none⟩ = some (.string ⟨nd.text.toArray⟩) := node_at hrow hnd 5 (by decide)
    have c6 : W.cell? ⟨g, k * 7 + 6, none⟩ = some (.slice sa sn sc) := by rw [← hlv]; exact node_at hrow hnd 6 (by decide)
    have q1 : (0 : Int) ≤ (k : Int) := by omega
    have q2 : (k : Int) < (k : Int) + 1 := by omega
    have d0 : (((k : Int) + 1) == 0) = false := beq_eq_false_iff_ne.2 (by omega)
    obtain ⟨hkind, hr1, hr2⟩ := HK
    rw [hkind] at c0
    have b1 := (Below.refl W.heap.size W).alloc (Nat.le_refl _) (.cells #[.int .u8 112, .int .i64 (nd.a : Int), .int .i64 (nd.b : Int), .int .i64 (nd.c : Int), .int .i64 (nd.num : Int), .string ⟨nd.text.toArray⟩, .slice sa sn sc] 75)
    have hblk : (W.alloc (.cells #[.int .u8 112, .int .i64 (nd.a : Int), .int .i64 (nd.b : Int), .int .i64 (nd.c : Int), .int .i64 (nd.num : Int), .string ⟨nd.text.toArray⟩, .slice sa sn sc] 75)).heap[W.heap.size]? = some (.cells #[.int .u8 112, .int .i64 (nd.a : Int), .int .i64 (nd.b : Int), .int .i64 (nd.c : Int), .int .i64 (nd.num : Int), .string ⟨nd.text.toArray⟩, .slice sa sn sc] 75 (0, 0)) := heap_alloc_new W _
    have z1 : W.heap.size < (W.alloc (.cells #[.int .u8 112, .int .i64 (nd.a : Int), .int .i64 (nd.b : Int), .int .i64 (nd.c : Int), .int .i64 (nd.num : Int), .string ⟨nd.text.toArray⟩, .slice sa sn sc] 75)).heap.size := by simp
    have HBC : Hid (∀ W', Below (W.alloc (.cells #[.int .u8 112, .int .i64 (nd.a : Int), .int .i64 (nd.b : Int), .int .i64 (nd.c : Int), .int .i64 (nd.num : Int), .string ⟨nd.text.toArray⟩, .slice sa sn sc] 75)).heap.size (W.alloc (.cells #[.int .u8 112, .int .i64 (nd.a : Int), .int .i64 (nd.b : Int), .int .i64 (nd.c : Int), .int .i64 (nd.num : Int), .string ⟨nd.text.toArray⟩, .slice sa sn sc] 75)) W' → W'.cell? ⟨W.heap.size, 3, none⟩ = some (.int .i64 (nd.c : Int)) ∧ W'.cell? ⟨W.heap.size, 1, none⟩ = some (.int .i64 (nd.a : Int)) ∧ W'.cell? ⟨W.heap.size, 2, none⟩ = some (.int .i64 (nd.b : Int))) := fun W' hb => by
      have h := (hb.block _ z1).trans hblk
      exact ⟨cell_of_row _ _ _ _ _ _ h, cell_of_row _ _ _ _ _ _ h, cell_of_row _ _ _ _ _ _ h⟩
    have Hf : Hid (∀ W', Below (W.alloc (.cells #[.int .u8 112, .int .i64 (nd.a : Int), .int .i64 (nd.b : Int), .int .i64 (nd.c : Int), .int .i64 (nd.num : Int), .string ⟨nd.text.toArray⟩, .slice sa sn sc] 75)).heap.size (W.alloc (.cells #[.int .u8 112, .int .i64 (nd.a : Int), .int .i64 (nd.b : Int), .int .i64 (nd.c : Int), .int .i64 (nd.num : Int), .string ⟨nd.text.toArray⟩, .slice sa sn sc] 75)) W' → Calls Tryd.prog 60 #[.slice (some ⟨g, 0, none⟩) (k + 1) cap, .int .i64 (nd.a : Int)] W' fun e w' => e = .returned (.string ⟨f.bytes.toArray⟩) ∧ Below W'.heap.size W' w') := fun W' hb => by
      rw [← hk]
      exact specL06Text hn2 hsl f nd.a W' _ (own_below (own_below hrow b1) hb) (Rep.keep (fun _ _ _ h => own_below (own_below h b1) hb) (Ext.refl _) f _ hr1) hok.1 (by simp only [Tm.bytes, List.length_cons, List.length_append] at hle; omega)
    have Ha : Hid (∀ W', Below (W.alloc (.cells #[.int .u8 112, .int .i64 (nd.a : Int), .int .i64 (nd.b : Int), .int .i64 (nd.c : Int), .int .i64 (nd.num : Int), .string ⟨nd.text.toArray⟩, .slice sa sn sc] 75)).heap.size (W.alloc (.cells #[.int .u8 112, .int .i64 (nd.a : Int), .int .i64 (nd.b : Int), .int .i64 (nd.c : Int), .int .i64 (nd.num : Int), .string ⟨nd.text.toArray⟩, .slice sa sn sc] 75)) W' → Calls Tryd.prog 60 #[.slice (some ⟨g, 0, none⟩) (k + 1) cap, .int .i64 (nd.b : Int)] W' fun e w' => e = .returned (.string ⟨a.bytes.toArray⟩) ∧ Below W'.heap.size W' w') := fun W' hb => by
      rw [← hk]
      exact specL06Text hn2 hsl a nd.b W' _ (own_below (own_below hrow b1) hb) (Rep.keep (fun _ _ _ h => own_below (own_below h b1) hb) (Ext.refl _) a _ hr2) hok.2 (by simp only [Tm.bytes, List.length_cons, List.length_append] at hle; omega)
    have HE : Hid (termParts s.data.toList = [f.bytes, a.bytes]) := HT.out
    have B0 := Lib.hid (HB.out.trans (b1.mono HB.out.size))
    have Z0 := Lib.hid (B0.out.size)
    rw [hk]
    clear hnd hkind hlv hsl hklt hrow hr1 hr2 hok hle b1 hblk z1 HT hn2 hk HB hbz
    generalize f.bytes = fb at Hf HE
    generalize a.bytes = ab at Ha HE
    go_wp2_with fail
    clear c0 c1 c2 c3 c4 c5 c6
    generalize (W.alloc (.cells #[.int .u8 112, .int .i64 (nd.a : Int), .int .i64 (nd.b : Int), .int .i64 (nd.c : Int), .int .i64 (nd.num : Int), .string ⟨nd.text.toArray⟩, .slice sa sn sc] 75)) = W1 at HBC Hf Ha B0 Z0
    have B1 := Below.refl W1.heap.size W1
    refine wp_region_held_drew (S := fun w' => Below W1.heap.size W1 w') (by kernel_rfl) B1.drew (fun hS0 => ?_)
    generalize W1.drew = w1 at hS0 ⊢
    refine heldT 0 39 (.slice (some ⟨g, 0, none⟩) (k + 1) cap) rfl rfl (by kernel_rfl) (by kernel_rfl) (by kernel_rfl) (fun _ _ _ h => h) (by rfl) hS0 (fun W' hSW => ?_) ?_
    · obtain ⟨x0, x1, x2⟩ := HBC.out W' hSW; (try go_simp) <;> (try omega)
    try simp only [Act.put, List.setIfInBounds_toArray, List.set_cons_zero, List.set_cons_succ]
    refine heldT 1 40 (.pointer (some ⟨W.heap.size, 1, none⟩)) rfl rfl (by kernel_rfl) (by kernel_rfl) (by kernel_rfl) (fun _ _ _ h => h) (by rfl) hS0 (fun W' hSW => ?_) ?_
    · obtain ⟨x0, x1, x2⟩ := HBC.out W' hSW; (try go_simp) <;> (try omega)
    try simp only [Act.put, List.setIfInBounds_toArray, List.set_cons_zero, List.set_cons_succ]
    refine heldT 2 41 (.int .i64 (nd.a : Int)) rfl rfl (by kernel_rfl) (by kernel_rfl) (by kernel_rfl) (fun _ _ _ h => h) (by rfl) hS0 (fun W' hSW => ?_) ?_
    · obtain ⟨x0, x1, x2⟩ := HBC.out W' hSW; (try go_simp) <;> (try omega)
    try simp only [Act.put, List.setIfInBounds_toArray, List.set_cons_zero, List.set_cons_succ]
    refine heldT 4 43 (.slice (some ⟨g, 0, none⟩) (k + 1) cap) rfl rfl (by kernel_rfl) (by kernel_rfl) (by kernel_rfl) (fun _ _ _ h => h) (by rfl) hS0 (fun W' hSW => ?_) ?_
    · obtain ⟨x0, x1, x2⟩ := HBC.out W' hSW; (try go_simp) <;> (try omega)
    try simp only [Act.put, List.setIfInBounds_toArray, List.set_cons_zero, List.set_cons_succ]
    refine heldT 5 44 (.pointer (some ⟨W.heap.size, 2, none⟩)) rfl rfl (by kernel_rfl) (by kernel_rfl) (by kernel_rfl) (fun _ _ _ h => h) (by rfl) hS0 (fun W' hSW => ?_) ?_
    · obtain ⟨x0, x1, x2⟩ := HBC.out W' hSW; (try go_simp) <;> (try omega)
    try simp only [Act.put, List.setIfInBounds_toArray, List.set_cons_zero, List.set_cons_succ]
    refine heldT 6 45 (.int .i64 (nd.b : Int)) rfl rfl (by kernel_rfl) (by kernel_rfl) (by kernel_rfl) (fun _ _ _ h => h) (by rfl) hS0 (fun W' hSW => ?_) ?_
    · obtain ⟨x0, x1, x2⟩ := HBC.out W' hSW; (try go_simp) <;> (try omega)
    try simp only [Act.put, List.setIfInBounds_toArray, List.set_cons_zero, List.set_cons_succ]
    refine wpAnyH_ready (rs := [3]) (by kernel_rfl) (by simp) ((AllReadyH.cons rfl (fun K hK => ?_) AllReadyH.nil))
    rw [if_pos (by rfl)]
    go_simp
    (with_reducible refine (Hf.out _ hS0).mono ?_); rintro e w2 ⟨rfl, hb_w2⟩
    refine hK.out _ _ (stepS hS0 hb_w2) (fun hS_w2 => ?_)
    clear hK K hb_w2
    try simp only [Act.put, List.setIfInBounds_toArray, List.set_cons_zero, List.set_cons_succ]
    refine wpAnyH_ready (rs := [7]) (by kernel_rfl) (by simp) ((AllReadyH.cons rfl (fun K hK => ?_) AllReadyH.nil))
    rw [if_pos (by rfl)]
    go_simp
    (with_reducible refine (Ha.out _ hS_w2).mono ?_); rintro e w3 ⟨rfl, hb_w3⟩
    refine hK.out _ _ (stepS hS_w2 hb_w3) (fun hS_w3 => ?_)
    clear hK K hb_w3
    try simp only [Act.put, List.setIfInBounds_toArray, List.set_cons_zero, List.set_cons_succ]
    refine wpAnyH_ready (rs := [8]) (by kernel_rfl) (by simp) ((AllReadyH.cons rfl (fun K hK => ?_) AllReadyH.nil))
    rw [if_pos (by rfl)]
    go_simp
    refine hK.out _ _ (allocS hS_w3 _) (fun hSb => ?_)
    clear hK K
    try simp only [Act.put, List.setIfInBounds_toArray, List.set_cons_zero, List.set_cons_succ]
    refine heldT 9 2 (.slice (some ⟨w3.heap.size, 0, none⟩) 2 2) rfl rfl (by kernel_rfl) (by kernel_rfl) (by kernel_rfl) (fun _ _ _ h => h) (by rfl) hSb (fun W' hSW => ?_) ?_
    · skip; (try go_simp) <;> (try omega)
    try simp only [Act.put, List.setIfInBounds_toArray, List.set_cons_zero, List.set_cons_succ]
    refine wpAnyH_done (by kernel_rfl) ?_ _
    have HL := Lib.hid (B0.out.trans (hS_w3.mono Z0.out))
    clear hSb
    go_wp2
    go_ret
    rw [HE.out]
    exact ⟨_, rfl, World.ownsRow_lit (base := w.heap.size) (e := 9) (size := 1) w3 #[.string ⟨fb.toArray⟩, .string ⟨ab.toArray⟩] 2 HL.out.size (by decide) (by simp), HL.out.alloc HL.out.size _⟩
  | lett f a c =>
    obtain ⟨nd, hnd, HK⟩ := hr
    obtain ⟨sa, sn, sc, hlv⟩ := hsl nd (List.mem_of_getElem? hnd)
    have hlt := hklt k nd hnd
    obtain ⟨g, cap, rfl, _, hgl⟩ := hrow.form (by omega)
    have c0 : W.cell? ⟨g, k * 7, none⟩ = some (.int .u8 (nd.kind.toNat : Int)) := node_at hrow hnd 0 (by decide)
    have c1 : W.cell? ⟨g, k * 7 + 1, none⟩ = some (.int .i64 (nd.a : Int)) := node_at hrow hnd 1 (by decide)
    have c2 : W.cell? ⟨g, k * 7 + 2, none⟩ = some (.int .i64 (nd.b : Int)) := node_at hrow hnd 2 (by decide)
    have c3 : W.cell? ⟨g, k * 7 + 3, none⟩ = some (.int .i64 (nd.c : Int)) := node_at hrow hnd 3 (by decide)
    have c4 : W.cell? ⟨g, k * 7 + 4, none⟩ = some (.int .i64 (nd.num : Int)) := node_at hrow hnd 4 (by decide)
    have c5 : W.cell? ⟨g, k * 7 + 5, none⟩ = some (.string ⟨nd.text.toArray⟩) := node_at hrow hnd 5 (by decide)
    have c6 : W.cell? ⟨g, k * 7 + 6, none⟩ = some (.slice sa sn sc) := by rw [← hlv]; exact node_at hrow hnd 6 (by decide)
    have q1 : (0 : Int) ≤ (k : Int) := by omega
    have q2 : (k : Int) < (k : Int) + 1 := by omega
    have d0 : (((k : Int) + 1) == 0) = false := beq_eq_false_iff_ne.2 (by omega)
    obtain ⟨hkind, hr1, hr2, hr3⟩ := HK
    rw [hkind] at c0
    have b1 := (Below.refl W.heap.size W).alloc (Nat.le_refl _) (.cells #[.int .u8 116, .int .i64 (nd.a : Int), .int .i64 (nd.b : Int), .int .i64 (nd.c : Int), .int .i64 (nd.num : Int), .string ⟨nd.text.toArray⟩, .slice sa sn sc] 75)
    have hblk : (W.alloc (.cells #[.int .u8 116, .int .i64 (nd.a : Int), .int .i64 (nd.b : Int), .int .i64 (nd.c : Int), .int .i64 (nd.num : Int), .string ⟨nd.text.toArray⟩, .slice sa sn sc] 75)).heap[W.heap.size]? = some (.cells #[.int .u8 116, .int .i64 (nd.a : Int), .int .i64 (nd.b : Int), .int .i64 (nd.c : Int), .int .i64 (nd.num : Int), .string ⟨nd.text.toArray⟩, .slice sa sn sc] 75 (0, 0)) := heap_alloc_new W _
    have z1 : W.heap.size < (W.alloc (.cells #[.int .u8 116, .int .i64 (nd.a : Int), .int .i64 (nd.b : Int), .int .i64 (nd.c : Int), .int .i64 (nd.num : Int), .string ⟨nd.text.toArray⟩, .slice sa sn sc] 75)).heap.size := by simp
    have HBC : Hid (∀ W', Below (W.alloc (.cells #[.int .u8 116, .int .i64 (nd.a : Int), .int .i64 (nd.b : Int), .int .i64 (nd.c : Int), .int .i64 (nd.num : Int), .string ⟨nd.text.toArray⟩, .slice sa sn sc] 75)).heap.size (W.alloc (.cells #[.int .u8 116, .int .i64 (nd.a : Int), .int .i64 (nd.b : Int), .int .i64 (nd.c : Int), .int .i64 (nd.num : Int), .string ⟨nd.text.toArray⟩, .slice sa sn sc] 75)) W' → W'.cell? ⟨W.heap.size, 3, none⟩ = some (.int .i64 (nd.c : Int)) ∧ W'.cell? ⟨W.heap.size, 1, none⟩ = some (.int .i64 (nd.a : Int)) ∧ W'.cell? ⟨W.heap.size, 2, none⟩ = some (.int .i64 (nd.b : Int))) := fun W' hb => by
      have h := (hb.block _ z1).trans hblk
      exact ⟨cell_of_row _ _ _ _ _ _ h, cell_of_row _ _ _ _ _ _ h, cell_of_row _ _ _ _ _ _ h⟩
    have Hf : Hid (∀ W', Below (W.alloc (.cells #[.int .u8 116, .int .i64 (nd.a : Int), .int .i64 (nd.b : Int), .int .i64 (nd.c : Int), .int .i64 (nd.num : Int), .string ⟨nd.text.toArray⟩, .slice sa sn sc] 75)).heap.size (W.alloc (.cells #[.int .u8 116, .int .i64 (nd.a : Int), .int .i64 (nd.b : Int), .int .i64 (nd.c : Int), .int .i64 (nd.num : Int), .string ⟨nd.text.toArray⟩, .slice sa sn sc] 75)) W' → Calls Tryd.prog 60 #[.slice (some ⟨g, 0, none⟩) (k + 1) cap, .int .i64 (nd.a : Int)] W' fun e w' => e = .returned (.string ⟨f.bytes.toArray⟩) ∧ Below W'.heap.size W' w') := fun W' hb => by
      rw [← hk]
      exact specL06Text hn2 hsl f nd.a W' _ (own_below (own_below hrow b1) hb) (Rep.keep (fun _ _ _ h => own_below (own_below h b1) hb) (Ext.refl _) f _ hr1) hok.1 (by simp only [Tm.bytes, List.length_cons, List.length_append] at hle; omega)
    have Ha : Hid (∀ W', Below (W.alloc (.cells #[.int .u8 116, .int .i64 (nd.a : Int), .int .i64 (nd.b : Int), .int .i64 (nd.c : Int), .int .i64 (nd.num : Int), .string ⟨nd.text.toArray⟩, .slice sa sn sc] 75)).heap.size (W.alloc (.cells #[.int .u8 116, .int .i64 (nd.a : Int), .int .i64 (nd.b : Int), .int .i64 (nd.c : Int), .int .i64 (nd.num : Int), .string ⟨nd.text.toArray⟩, .slice sa sn sc] 75)) W' → Calls Tryd.prog 60 #[.slice (some ⟨g, 0, none⟩) (k + 1) cap, .int .i64 (nd.b : Int)] W' fun e w' => e = .returned (.string ⟨a.bytes.toArray⟩) ∧ Below W'.heap.size W' w') := fun W' hb => by
      rw [← hk]
      exact specL06Text hn2 hsl a nd.b W' _ (own_below (own_below hrow b1) hb) (Rep.keep (fun _ _ _ h => own_below (own_below h b1) hb) (Ext.refl _) a _ hr2) hok.2.1 (by simp only [Tm.bytes, List.length_cons, List.length_append] at hle; omega)
    have Hc : Hid (∀ W', Below (W.alloc (.cells #[.int .u8 116, .int .i64 (nd.a : Int), .int .i64 (nd.b : Int), .int .i64 (nd.c : Int), .int .i64 (nd.num : Int), .string ⟨nd.text.toArray⟩, .slice sa sn sc] 75)).heap.size (W.alloc (.cells #[.int .u8 116, .int .i64 (nd.a : Int), .int .i64 (nd.b : Int), .int .i64 (nd.c : Int), .int .i64 (nd.num : Int), .string ⟨nd.text.toArray⟩, .slice sa sn sc] 75)) W' → Calls Tryd.prog 60 #[.slice (some ⟨g, 0, none⟩) (k + 1) cap, .int .i64 (nd.c : Int)] W' fun e w' => e = .returned (.string ⟨c.bytes.toArray⟩) ∧ Below W'.heap.size W' w') := fun W' hb => by
      rw [← hk]
      exact specL06Text hn2 hsl c nd.c W' _ (own_below (own_below hrow b1) hb) (Rep.keep (fun _ _ _ h => own_below (own_below h b1) hb) (Ext.refl _) c _ hr3) hok.2.2 (by simp only [Tm.bytes, List.length_cons, List.length_append] at hle; omega)
    have HE : Hid (termParts s.data.toList = [f.bytes, a.bytes, c.bytes]) := HT.out
    have B0 := Lib.hid (HB.out.trans (b1.mono HB.out.size))
    have Z0 := Lib.hid (B0.out.size)
    rw [hk]
    clear hnd hkind hlv hsl hklt hrow hr1 hr2 hr3 hok hle b1 hblk z1 HT hn2 hk HB hbz
    generalize f.bytes = fb at Hf HE
    generalize a.bytes = ab at Ha HE
    generalize c.bytes = cb at Hc HE
    go_wp2_with fail
    clear c0 c1 c2 c3 c4 c5 c6
    generalize (W.alloc (.cells #[.int .u8 116, .int .i64 (nd.a : Int), .int .i64 (nd.b : Int), .int .i64 (nd.c : Int), .int .i64 (nd.num : Int), .string ⟨nd.text.toArray⟩, .slice sa sn sc] 75)) = W1 at HBC Hf Ha Hc B0 Z0
    have B1 := Below.refl W1.heap.size W1
    refine wp_region_held_drew (S := fun w' => Below W1.heap.size W1 w') (by kernel_rfl) B1.drew (fun hS0 => ?_)
    generalize W1.drew = w1 at hS0 ⊢
    refine heldT 0 26 (.slice (some ⟨g, 0, none⟩) (k + 1) cap) rfl rfl (by kernel_rfl) (by kernel_rfl) (by kernel_rfl) (fun _ _ _ h => h) (by rfl) hS0 (fun W' hSW => ?_) ?_
    · obtain ⟨x0, x1, x2⟩ := HBC.out W' hSW; (try go_simp) <;> (try omega)
    try simp only [Act.put, List.setIfInBounds_toArray, List.set_cons_zero, List.set_cons_succ]
    refine heldT 1 27 (.pointer (some ⟨W.heap.size, 1, none⟩)) rfl rfl (by kernel_rfl) (by kernel_rfl) (by kernel_rfl) (fun _ _ _ h => h) (by rfl) hS0 (fun W' hSW => ?_) ?_
    · obtain ⟨x0, x1, x2⟩ := HBC.out W' hSW; (try go_simp) <;> (try omega)
    try simp only [Act.put, List.setIfInBounds_toArray, List.set_cons_zero, List.set_cons_succ]
    refine heldT 2 28 (.int .i64 (nd.a : Int)) rfl rfl (by kernel_rfl) (by kernel_rfl) (by kernel_rfl) (fun _ _ _ h => h) (by rfl) hS0 (fun W' hSW => ?_) ?_
    · obtain ⟨x0, x1, x2⟩ := HBC.out W' hSW; (try go_simp) <;> (try omega)
    try simp only [Act.put, List.setIfInBounds_toArray, List.set_cons_zero, List.set_cons_succ]
    refine heldT 4 30 (.slice (some ⟨g, 0, none⟩) (k + 1) cap) rfl rfl (by kernel_rfl) (by kernel_rfl) (by kernel_rfl) (fun _ _ _ h => h) (by rfl) hS0 (fun W' hSW => ?_) ?_
    · obtain ⟨x0, x1, x2⟩ := HBC.out W' hSW; (try go_simp) <;> (try omega)
    try simp only [Act.put, List.setIfInBounds_toArray, List.set_cons_zero, List.set_cons_succ]
    refine heldT 5 31 (.pointer (some ⟨W.heap.size, 2, none⟩)) rfl rfl (by kernel_rfl) (by kernel_rfl) (by kernel_rfl) (fun _ _ _ h => h) (by rfl) hS0 (fun W' hSW => ?_) ?_
    · obtain ⟨x0, x1, x2⟩ := HBC.out W' hSW; (try go_simp) <;> (try omega)
    try simp only [Act.put, List.setIfInBounds_toArray, List.set_cons_zero, List.set_cons_succ]
    refine heldT 6 32 (.int .i64 (nd.b : Int)) rfl rfl (by kernel_rfl) (by kernel_rfl) (by kernel_rfl) (fun _ _ _ h => h) (by rfl) hS0 (fun W' hSW => ?_) ?_
    · obtain ⟨x0, x1, x2⟩ := HBC.out W' hSW; (try go_simp) <;> (try omega)
    try simp only [Act.put, List.setIfInBounds_toArray, List.set_cons_zero, List.set_cons_succ]
    refine heldT 8 34 (.slice (some ⟨g, 0, none⟩) (k + 1) cap) rfl rfl (by kernel_rfl) (by kernel_rfl) (by kernel_rfl) (fun _ _ _ h => h) (by rfl) hS0 (fun W' hSW => ?_) ?_
    · obtain ⟨x0, x1, x2⟩ := HBC.out W' hSW; (try go_simp) <;> (try omega)
    try simp only [Act.put, List.setIfInBounds_toArray, List.set_cons_zero, List.set_cons_succ]
    refine heldT 9 35 (.pointer (some ⟨W.heap.size, 3, none⟩)) rfl rfl (by kernel_rfl) (by kernel_rfl) (by kernel_rfl) (fun _ _ _ h => h) (by rfl) hS0 (fun W' hSW => ?_) ?_
    · obtain ⟨x0, x1, x2⟩ := HBC.out W' hSW; (try go_simp) <;> (try omega)
    try simp only [Act.put, List.setIfInBounds_toArray, List.set_cons_zero, List.set_cons_succ]
    refine heldT 10 36 (.int .i64 (nd.c : Int)) rfl rfl (by kernel_rfl) (by kernel_rfl) (by kernel_rfl) (fun _ _ _ h => h) (by rfl) hS0 (fun W' hSW => ?_) ?_
    · obtain ⟨x0, x1, x2⟩ := HBC.out W' hSW; (try go_simp) <;> (try omega)
    try simp only [Act.put, List.setIfInBounds_toArray, List.set_cons_zero, List.set_cons_succ]
    refine wpAnyH_ready (rs := [3]) (by kernel_rfl) (by simp) ((AllReadyH.cons rfl (fun K hK => ?_) AllReadyH.nil))
    rw [if_pos (by rfl)]
    go_simp
    (with_reducible refine (Hf.out _ hS0).mono ?_); rintro e w2 ⟨rfl, hb_w2⟩
    refine hK.out _ _ (stepS hS0 hb_w2) (fun hS_w2 => ?_)
    clear hK K hb_w2
    try simp only [Act.put, List.setIfInBounds_toArray, List.set_cons_zero, List.set_cons_succ]
    refine wpAnyH_ready (rs := [7]) (by kernel_rfl) (by simp) ((AllReadyH.cons rfl (fun K hK => ?_) AllReadyH.nil))
    rw [if_pos (by rfl)]
    go_simp
    (with_reducible refine (Ha.out _ hS_w2).mono ?_); rintro e w3 ⟨rfl, hb_w3⟩
    refine hK.out _ _ (stepS hS_w2 hb_w3) (fun hS_w3 => ?_)
    clear hK K hb_w3
    try simp only [Act.put, List.setIfInBounds_toArray, List.set_cons_zero, List.set_cons_succ]
    refine wpAnyH_ready (rs := [11]) (by kernel_rfl) (by simp) ((AllReadyH.cons rfl (fun K hK => ?_) AllReadyH.nil))
    rw [if_pos (by rfl)]
    go_simp
    (with_reducible refine (Hc.out _ hS_w3).mono ?_); rintro e w4 ⟨rfl, hb_w4⟩
    refine hK.out _ _ (stepS hS_w3 hb_w4) (fun hS_w4 => ?_)
    clear hK K hb_w4
    try simp only [Act.put, List.setIfInBounds_toArray, List.set_cons_zero, List.set_cons_succ]
    refine wpAnyH_ready (rs := [12]) (by kernel_rfl) (by simp) ((AllReadyH.cons rfl (fun K hK => ?_) AllReadyH.nil))
    rw [if_pos (by rfl)]
    go_simp
    refine hK.out _ _ (allocS hS_w4 _) (fun hSb => ?_)
    clear hK K
    try simp only [Act.put, List.setIfInBounds_toArray, List.set_cons_zero, List.set_cons_succ]
    refine heldT 13 2 (.slice (some ⟨w4.heap.size, 0, none⟩) 3 3) rfl rfl (by kernel_rfl) (by kernel_rfl) (by kernel_rfl) (fun _ _ _ h => h) (by rfl) hSb (fun W' hSW => ?_) ?_
    · skip; (try go_simp) <;> (try omega)
    try simp only [Act.put, List.setIfInBounds_toArray, List.set_cons_zero, List.set_cons_succ]
    refine wpAnyH_done (by kernel_rfl) ?_ _
    have HL := Lib.hid (B0.out.trans (hS_w4.mono Z0.out))
    clear hSb
    go_wp2
    go_ret
    rw [HE.out]
    exact ⟨_, rfl, World.ownsRow_lit (base := w.heap.size) (e := 9) (size := 1) w4 #[.string ⟨fb.toArray⟩, .string ⟨ab.toArray⟩, .string ⟨cb.toArray⟩] 3 HL.out.size (by decide) (by simp), HL.out.alloc HL.out.size _⟩
end Go.Proofs.YtnklajagefedmaaDoor
