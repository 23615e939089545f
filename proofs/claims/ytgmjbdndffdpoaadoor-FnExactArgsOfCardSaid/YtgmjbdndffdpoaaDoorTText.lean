/-
  The contract of spec.l06Text.
-/
import Derived.Test.YtgmjbdndffdpoaaDoorTTextP
import Derived.Test.YtgmjbdndffdpoaaDoorTVarM
import Derived.Test.YtgmjbdndffdpoaaDoorTCon
namespace Go.Proofs.YtgmjbdndffdpoaaDoor
set_option maxRecDepth 100000
open Go.ChangeShapes Go.WideShapes Go.ChangeAt Go.RowKit
set_option linter.unusedSimpArgs false

set_option maxHeartbeats 4000000 in
theorem specL06TextT {ns : List Nd} (hn : ns.length ≤ 100000) (hsl : ∀ nd ∈ ns, ∃ a n c, nd.lv = .slice a n c) {b B : Nat} : ∀ (t : Tm) (k : Nat) (W : World) (v : Value), W.ownsRow b 37 7 v ns.length (flatN ns) → RepT W B ns k t → t.Ok → t.bytes.length ≤ 100000 →
    Calls Tryd.prog 27 #[v, .int .i64 (k : Int)] W fun e w' => e = .returned (.string ⟨t.bytes.toArray⟩) ∧ Below W.heap.size W w' := by
  have hklt : ∀ (k : Nat) nd, ns[k]? = some nd → k < ns.length := fun k nd h => by
    by_cases hl : k < ns.length
    · exact hl
    · rw [List.getElem?_eq_none (by omega)] at h; cases h
  intro t
  induction t with
  | var n =>
    intro k W v hrow hr hok hle
    obtain ⟨nd, hnd, HK⟩ := hr
    obtain ⟨sa, sn, sc, hlv⟩ := hsl nd (List.mem_of_getElem? hnd)
    have hlt := hklt k nd hnd
    obtain ⟨g, cap, rfl, _, hgl⟩ := hrow.form (by omega)
    have c0 : W.cell? ⟨g, k * 7, none⟩ = some (.int .u8 (nd.kind.toNat : Int)) := node_at hrow hnd 0 (by decide)
    have c1 : W.cell? ⟨g, k * 7 + 1, none⟩ = some (.int .i64 (nd.a : Int)) := node_at hrow hnd 1 (by decide)
    have c2 : W.cell? ⟨g, k * 7 + 2, none⟩ = some (.int .i64 (nd.b : Int)) := node_at hrow hnd 2 (by decide)
    have c3 : W.cell? ⟨g, k * 7 + 3, none⟩ = some (.int .i64 (nd.c : Int)) := node_at hrow hnd 3 (by decide)
    have c4 : W.cell? ⟨g, k * 7 + 4, none⟩ = some (.int .i64 (nd.num : Int)) := node_at hrow hnd 4 (by decide)
    have c5 : W.cell? ⟨g, k * 7 + 5, none⟩ = some (.string ⟨nd.text.toArray⟩) := node_at hrow hnd 5 (by decide)
    have c6 : W.cell? ⟨g, k * 7 + 6, none⟩ = some (.slice sa sn sc) := by rw [← hlv]; exact node_at hrow hnd 6 (by decide)
    have q1 : (0 : Int) ≤ (k : Int) := by omega
    have q2 : (k : Int) < (ns.length : Int) := by omega
    have hkind : nd.kind = 118 := HK.1
    have hnum : nd.num = n := HK.2
    have hn9 : n ≤ 999 := hok
    rw [hkind] at c0
    rw [hnum] at c4
    have b1 := (Below.refl W.heap.size W).alloc (Nat.le_refl _) (.cells #[.int .u8 118, .int .i64 (nd.a : Int), .int .i64 (nd.b : Int), .int .i64 (nd.c : Int), .int .i64 (n : Int), .string ⟨nd.text.toArray⟩, .slice sa sn sc] 37)
    have B1 := Lib.hid b1
    have fV := Lib.hid fun W => specVar n W (by omega)
    generalize (Tm.var n).bytes = tb at fV ⊢
    clear hrow hnd HK hkind hnum hlv hsl hklt b1
    go_enter Tryd.func27, Tryd.ntmps27
    go_wp2_with fail
    (with_reducible refine (fV.out _).mono ?_); rintro e w2 ⟨rfl, hb2⟩
    go_wp2
    go_ret
    exact ⟨rfl, B1.out.trans (hb2.mono B1.out.size)⟩
  | sort l =>
    intro k W v hrow hr hok hle
    obtain ⟨nd, hnd, HK⟩ := hr
    obtain ⟨sa, sn, sc, hlv⟩ := hsl nd (List.mem_of_getElem? hnd)
    have hlt := hklt k nd hnd
    obtain ⟨g, cap, rfl, _, hgl⟩ := hrow.form (by omega)
    have c0 : W.cell? ⟨g, k * 7, none⟩ = some (.int .u8 (nd.kind.toNat : Int)) := node_at hrow hnd 0 (by decide)
    have c1 : W.cell? ⟨g, k * 7 + 1, none⟩ = some (.int .i64 (nd.a : Int)) := node_at hrow hnd 1 (by decide)
    have c2 : W.cell? ⟨g, k * 7 + 2, none⟩ = some (.int .i64 (nd.b : Int)) := node_at hrow hnd 2 (by decide)
    have c3 : W.cell? ⟨g, k * 7 + 3, none⟩ = some (.int .i64 (nd.c : Int)) := node_at hrow hnd 3 (by decide)
    have c4 : W.cell? ⟨g, k * 7 + 4, none⟩ = some (.int .i64 (nd.num : Int)) := node_at hrow hnd 4 (by decide)
    have c5 : W.cell? ⟨g, k * 7 + 5, none⟩ = some (.string ⟨nd.text.toArray⟩) := node_at hrow hnd 5 (by decide)
    have c6 : W.cell? ⟨g, k * 7 + 6, none⟩ = some (.slice sa sn sc) := by rw [← hlv]; exact node_at hrow hnd 6 (by decide)
    have q1 : (0 : Int) ≤ (k : Int) := by omega
    have q2 : (k : Int) < (ns.length : Int) := by omega
    have hkind : nd.kind = 115 := HK.1
    have htext : nd.text = l := HK.2
    rw [hkind] at c0
    rw [htext] at c5
    have HE := Lib.hid (sort_textN l)
    have zl : l.length ≤ 60 := (levelOk_len hok).1
    generalize (Tm.sort l).bytes = tb at HE ⊢
    clear hrow hnd HK hkind htext hlv hsl hklt hok hle
    go_enter Tryd.func27, Tryd.ntmps27
    go_wp2
    go_ret
    rw [← HE.out]
    exact ⟨rfl, (Below.refl _ _).alloc (Nat.le_refl _) _⟩
  | const n ls =>
    intro k W v hrow hr hok hle
    obtain ⟨nd, hnd, HK⟩ := hr
    obtain ⟨sa, sn, sc, hlv⟩ := hsl nd (List.mem_of_getElem? hnd)
    have hlt := hklt k nd hnd
    obtain ⟨g, cap, rfl, _, hgl⟩ := hrow.form (by omega)
    have c0 : W.cell? ⟨g, k * 7, none⟩ = some (.int .u8 (nd.kind.toNat : Int)) := node_at hrow hnd 0 (by decide)
    have c1 : W.cell? ⟨g, k * 7 + 1, none⟩ = some (.int .i64 (nd.a : Int)) := node_at hrow hnd 1 (by decide)
    have c2 : W.cell? ⟨g, k * 7 + 2, none⟩ = some (.int .i64 (nd.b : Int)) := node_at hrow hnd 2 (by decide)
    have c3 : W.cell? ⟨g, k * 7 + 3, none⟩ = some (.int .i64 (nd.c : Int)) := node_at hrow hnd 3 (by decide)
    have c4 : W.cell? ⟨g, k * 7 + 4, none⟩ = some (.int .i64 (nd.num : Int)) := node_at hrow hnd 4 (by decide)
    have c5 : W.cell? ⟨g, k * 7 + 5, none⟩ = some (.string ⟨nd.text.toArray⟩) := node_at hrow hnd 5 (by decide)
    have c6 : W.cell? ⟨g, k * 7 + 6, none⟩ = some (.slice sa sn sc) := by rw [← hlv]; exact node_at hrow hnd 6 (by decide)
    have q1 : (0 : Int) ≤ (k : Int) := by omega
    have q2 : (k : Int) < (ns.length : Int) := by omega
    have hkind : nd.kind = 99 := HK.1
    have htext : nd.text = n := HK.2.1
    have hlvs := HK.2.2
    rw [hlv] at hlvs
    rw [hkind] at c0
    rw [htext] at c5
    have b1 := (Below.refl W.heap.size W).alloc (Nat.le_refl _) (.cells #[.int .u8 99, .int .i64 (nd.a : Int), .int .i64 (nd.b : Int), .int .i64 (nd.c : Int), .int .i64 (nd.num : Int), .string ⟨n.toArray⟩, .slice sa sn sc] 37)
    have B1 := Lib.hid b1
    have zn : n.length ≤ 40 := nameOk_len hok.1
    have zls := lvsB_le60 hok.2.2
    have z3 := hok.2.1
    have zm : ls.length * 61 ≤ 183 := by omega
    have fC := Lib.hid (specConst ⟨n.toArray⟩ (own_below hlvs b1) (by omega) (by show n.length ≤ _; omega) (by omega))
    rw [show (⟨n.toArray⟩ : ByteArray).data.toList = n from rfl] at fC
    generalize (Tm.const n ls).bytes = tb at fC ⊢
    clear hrow hnd HK hkind htext hlv hsl hklt b1 hlvs hok hle zls z3 zm zn
    go_enter Tryd.func27, Tryd.ntmps27
    go_wp2_with fail
    (with_reducible refine fC.out.mono ?_); rintro e w2 ⟨rfl, rfl⟩
    go_wp2
    go_ret
    exact ⟨rfl, B1.out⟩
  | app f a ihf iha =>
    intro k W v hrow hr hok hle
    obtain ⟨nd, hnd, HK⟩ := hr
    obtain ⟨sa, sn, sc, hlv⟩ := hsl nd (List.mem_of_getElem? hnd)
    have hlt := hklt k nd hnd
    obtain ⟨g, cap, rfl, _, hgl⟩ := hrow.form (by omega)
    have c0 : W.cell? ⟨g, k * 7, none⟩ = some (.int .u8 (nd.kind.toNat : Int)) := node_at hrow hnd 0 (by decide)
    have c1 : W.cell? ⟨g, k * 7 + 1, none⟩ = some (.int .i64 (nd.a : Int)) := node_at hrow hnd 1 (by decide)
    have c2 : W.cell? ⟨g, k * 7 + 2, none⟩ = some (.int .i64 (nd.b : Int)) := node_at hrow hnd 2 (by decide)
    have c3 : W.cell? ⟨g, k * 7 + 3, none⟩ = some (.int .i64 (nd.c : Int)) := node_at hrow hnd 3 (by decide)
    have c4 : W.cell? ⟨g, k * 7 + 4, none⟩ = some (.int .i64 (nd.num : Int)) := node_at hrow hnd 4 (by decide)
    have c5 : W.cell? ⟨g, k * 7 + 5, none⟩ = some (.string ⟨nd.text.toArray⟩) := node_at hrow hnd 5 (by decide)
    have c6 : W.cell? ⟨g, k * 7 + 6, none⟩ = some (.slice sa sn sc) := by rw [← hlv]; exact node_at hrow hnd 6 (by decide)
    have q1 : (0 : Int) ≤ (k : Int) := by omega
    have q2 : (k : Int) < (ns.length : Int) := by omega
    obtain ⟨hkind, hr1, hr2⟩ := HK
    rw [hkind] at c0
    have b1 := (Below.refl W.heap.size W).alloc (Nat.le_refl _) (.cells #[.int .u8 64, .int .i64 (nd.a : Int), .int .i64 (nd.b : Int), .int .i64 (nd.c : Int), .int .i64 (nd.num : Int), .string ⟨nd.text.toArray⟩, .slice sa sn sc] 37)
    have hblk : (W.alloc (.cells #[.int .u8 64, .int .i64 (nd.a : Int), .int .i64 (nd.b : Int), .int .i64 (nd.c : Int), .int .i64 (nd.num : Int), .string ⟨nd.text.toArray⟩, .slice sa sn sc] 37)).heap[W.heap.size]? = some (.cells #[.int .u8 64, .int .i64 (nd.a : Int), .int .i64 (nd.b : Int), .int .i64 (nd.c : Int), .int .i64 (nd.num : Int), .string ⟨nd.text.toArray⟩, .slice sa sn sc] 37 (0, 0)) := heap_alloc_new W _
    have z1 : W.heap.size < (W.alloc (.cells #[.int .u8 64, .int .i64 (nd.a : Int), .int .i64 (nd.b : Int), .int .i64 (nd.c : Int), .int .i64 (nd.num : Int), .string ⟨nd.text.toArray⟩, .slice sa sn sc] 37)).heap.size := by simp
    have HBC : Hid (∀ W', Below (W.alloc (.cells #[.int .u8 64, .int .i64 (nd.a : Int), .int .i64 (nd.b : Int), .int .i64 (nd.c : Int), .int .i64 (nd.num : Int), .string ⟨nd.text.toArray⟩, .slice sa sn sc] 37)).heap.size (W.alloc (.cells #[.int .u8 64, .int .i64 (nd.a : Int), .int .i64 (nd.b : Int), .int .i64 (nd.c : Int), .int .i64 (nd.num : Int), .string ⟨nd.text.toArray⟩, .slice sa sn sc] 37)) W' → W'.cell? ⟨W.heap.size, 0, none⟩ = some (.int .u8 64) ∧ W'.cell? ⟨W.heap.size, 1, none⟩ = some (.int .i64 (nd.a : Int)) ∧ W'.cell? ⟨W.heap.size, 2, none⟩ = some (.int .i64 (nd.b : Int))) := fun W' hb => by
      have h := (hb.block _ z1).trans hblk
      exact ⟨cell_of_row _ _ _ _ _ _ h, cell_of_row _ _ _ _ _ _ h, cell_of_row _ _ _ _ _ _ h⟩
    have HF : Hid (∀ W', Below (W.alloc (.cells #[.int .u8 64, .int .i64 (nd.a : Int), .int .i64 (nd.b : Int), .int .i64 (nd.c : Int), .int .i64 (nd.num : Int), .string ⟨nd.text.toArray⟩, .slice sa sn sc] 37)).heap.size (W.alloc (.cells #[.int .u8 64, .int .i64 (nd.a : Int), .int .i64 (nd.b : Int), .int .i64 (nd.c : Int), .int .i64 (nd.num : Int), .string ⟨nd.text.toArray⟩, .slice sa sn sc] 37)) W' → Calls Tryd.prog 27 #[.slice (some ⟨g, 0, none⟩) ns.length cap, .int .i64 (nd.a : Int)] W' fun e w' => e = .returned (.string ⟨f.bytes.toArray⟩) ∧ Below W'.heap.size W' w') := fun W' hb =>
      ihf nd.a W' _ (own_below (own_below hrow b1) hb) (RepT.keep (fun _ _ _ h => own_below (own_below h b1) hb) (Ext.refl _) f _ hr1) hok.1 (by simp only [Tm.bytes, List.length_cons, List.length_append] at hle; omega)
    have HA : Hid (∀ W', Below (W.alloc (.cells #[.int .u8 64, .int .i64 (nd.a : Int), .int .i64 (nd.b : Int), .int .i64 (nd.c : Int), .int .i64 (nd.num : Int), .string ⟨nd.text.toArray⟩, .slice sa sn sc] 37)).heap.size (W.alloc (.cells #[.int .u8 64, .int .i64 (nd.a : Int), .int .i64 (nd.b : Int), .int .i64 (nd.c : Int), .int .i64 (nd.num : Int), .string ⟨nd.text.toArray⟩, .slice sa sn sc] 37)) W' → Calls Tryd.prog 27 #[.slice (some ⟨g, 0, none⟩) ns.length cap, .int .i64 (nd.b : Int)] W' fun e w' => e = .returned (.string ⟨a.bytes.toArray⟩) ∧ Below W'.heap.size W' w') := fun W' hb =>
      iha nd.b W' _ (own_below (own_below hrow b1) hb) (RepT.keep (fun _ _ _ h => own_below (own_below h b1) hb) (Ext.refl _) a _ hr2) hok.2 (by simp only [Tm.bytes, List.length_cons, List.length_append] at hle; omega)
    have HE := Lib.hid (two_textN 64 f.bytes a.bytes)
    rw [show (Tm.app f a).bytes = 64 :: (f.bytes ++ a.bytes) from rfl]
    have zf : f.bytes.length ≤ 100000 := by simp only [Tm.bytes, List.length_cons, List.length_append] at hle; omega
    have za : a.bytes.length ≤ 100000 := by simp only [Tm.bytes, List.length_cons, List.length_append] at hle; omega
    have B0 := Lib.hid b1
    have Z1 := Lib.hid z1
    clear hnd hkind hlv hsl hklt hrow hr1 hr2 ihf iha hok hle b1 hblk z1
    generalize f.bytes = fb at HF HE zf
    generalize a.bytes = ab at HA HE za
    generalize (64 :: (fb ++ ab)) = tb at HE ⊢
    go_enter Tryd.func27, Tryd.ntmps27
    go_wp2_with fail
    clear c0 c1 c2 c3 c4 c5 c6
    generalize (W.alloc (.cells #[.int .u8 64, .int .i64 (nd.a : Int), .int .i64 (nd.b : Int), .int .i64 (nd.c : Int), .int .i64 (nd.num : Int), .string ⟨nd.text.toArray⟩, .slice sa sn sc] 37)) = W1 at HBC HF HA B0 Z1
    have B1 := Below.refl W1.heap.size W1
    have X1 := HBC.out _ B1
    refine wp_region_held_drew (S := fun w' => Below W1.heap.size W1 w') (by kernel_rfl) B1.drew (fun hS0 => ?_)
    generalize W1.drew = w1 at hS0 ⊢
    refine heldT 0 47 (.pointer (some ⟨W.heap.size, 0, none⟩)) rfl rfl (by kernel_rfl) (by kernel_rfl) (by kernel_rfl) (fun _ _ _ h => h) (by rfl) hS0 (fun W hSW => ?_) ?_
    · obtain ⟨x0, x1, x2⟩ := HBC.out W hSW; (try go_simp) <;> (try omega)
    try simp only [Act.put, List.setIfInBounds_toArray, List.set_cons_zero, List.set_cons_succ]
    refine heldT 1 48 (.int .u8 64) rfl rfl (by kernel_rfl) (by kernel_rfl) (by kernel_rfl) (fun _ _ _ h => h) (by rfl) hS0 (fun W hSW => ?_) ?_
    · obtain ⟨x0, x1, x2⟩ := HBC.out W hSW; (try go_simp) <;> (try omega)
    try simp only [Act.put, List.setIfInBounds_toArray, List.set_cons_zero, List.set_cons_succ]
    refine heldT 4 51 (.slice (some ⟨g, 0, none⟩) ns.length cap) rfl rfl (by kernel_rfl) (by kernel_rfl) (by kernel_rfl) (fun _ _ _ h => h) (by rfl) hS0 (fun W hSW => ?_) ?_
    · obtain ⟨x0, x1, x2⟩ := HBC.out W hSW; (try go_simp) <;> (try omega)
    try simp only [Act.put, List.setIfInBounds_toArray, List.set_cons_zero, List.set_cons_succ]
    refine heldT 5 52 (.pointer (some ⟨W.heap.size, 1, none⟩)) rfl rfl (by kernel_rfl) (by kernel_rfl) (by kernel_rfl) (fun _ _ _ h => h) (by rfl) hS0 (fun W hSW => ?_) ?_
    · obtain ⟨x0, x1, x2⟩ := HBC.out W hSW; (try go_simp) <;> (try omega)
    try simp only [Act.put, List.setIfInBounds_toArray, List.set_cons_zero, List.set_cons_succ]
    refine heldT 6 53 (.int .i64 (nd.a : Int)) rfl rfl (by kernel_rfl) (by kernel_rfl) (by kernel_rfl) (fun _ _ _ h => h) (by rfl) hS0 (fun W hSW => ?_) ?_
    · obtain ⟨x0, x1, x2⟩ := HBC.out W hSW; (try go_simp) <;> (try omega)
    try simp only [Act.put, List.setIfInBounds_toArray, List.set_cons_zero, List.set_cons_succ]
    refine heldT 9 56 (.slice (some ⟨g, 0, none⟩) ns.length cap) rfl rfl (by kernel_rfl) (by kernel_rfl) (by kernel_rfl) (fun _ _ _ h => h) (by rfl) hS0 (fun W hSW => ?_) ?_
    · obtain ⟨x0, x1, x2⟩ := HBC.out W hSW; (try go_simp) <;> (try omega)
    try simp only [Act.put, List.setIfInBounds_toArray, List.set_cons_zero, List.set_cons_succ]
    refine heldT 10 57 (.pointer (some ⟨W.heap.size, 2, none⟩)) rfl rfl (by kernel_rfl) (by kernel_rfl) (by kernel_rfl) (fun _ _ _ h => h) (by rfl) hS0 (fun W hSW => ?_) ?_
    · obtain ⟨x0, x1, x2⟩ := HBC.out W hSW; (try go_simp) <;> (try omega)
    try simp only [Act.put, List.setIfInBounds_toArray, List.set_cons_zero, List.set_cons_succ]
    refine heldT 11 58 (.int .i64 (nd.b : Int)) rfl rfl (by kernel_rfl) (by kernel_rfl) (by kernel_rfl) (fun _ _ _ h => h) (by rfl) hS0 (fun W hSW => ?_) ?_
    · obtain ⟨x0, x1, x2⟩ := HBC.out W hSW; (try go_simp) <;> (try omega)
    try simp only [Act.put, List.setIfInBounds_toArray, List.set_cons_zero, List.set_cons_succ]
    refine wpAnyH_ready (rs := [2, 7]) (by kernel_rfl) (by simp) ((AllReadyH.cons rfl (fun K hK => ?_) (AllReadyH.cons rfl (fun K hK => ?_) AllReadyH.nil)))
    · rw [if_pos (by rfl)]
      go_simp
      refine hK.out _ _ (allocS hS0 _) (fun hSb => ?_)
      clear hK K
      have rb := World.ownsRow_lit (base := 0) (e := 5) (size := 1) w1 #[.int .u8 64] 1 (Nat.zero_le _) (by decide) (by simp)
      obtain ⟨gb, hgb⟩ : ∃ gb, w1.heap.size = gb := ⟨_, rfl⟩
      rw [hgb] at rb ⊢
      generalize w1.alloc (.cells #[.int .u8 64] 5) = wb at rb hSb ⊢
      refine wpAnyH_more (S' := fun w' => Below W1.heap.size W1 w' ∧ w'.ownsRow 0 5 1 (.slice (some ⟨gb, 0, none⟩) 1 1) 1 ([(64 : UInt8)].map bv)) (fun _ h => h.1) _ _ _ _ ?_
      have hS2 : Below W1.heap.size W1 wb ∧ wb.ownsRow 0 5 1 (.slice (some ⟨gb, 0, none⟩) 1 1) 1 ([(64 : UInt8)].map bv) := ⟨hSb, rb⟩
      clear rb hSb hgb
      try simp only [Act.put, List.setIfInBounds_toArray, List.set_cons_zero, List.set_cons_succ]
      refine heldT 3 50 (.string ⟨#[64]⟩) rfl rfl (by kernel_rfl) (by kernel_rfl) (by kernel_rfl) (fun _ _ _ h => h) (by rfl) hS2 (fun W hSW => ?_) ?_
      · have cv := conv_own (P := Tryd.prog) (t := 61) (d := 9) W Tryd.underlying61 Tryd.underlying5 Tryd.underlying9 hSW.2; (try go_simp) <;> (try omega)
      try simp only [Act.put, List.setIfInBounds_toArray, List.set_cons_zero, List.set_cons_succ]
      refine wpAnyH_ready (rs := [7]) (by kernel_rfl) (by simp) ((AllReadyH.cons rfl (fun K hK => ?_) AllReadyH.nil))
      rw [if_pos (by rfl)]
      go_simp
      (with_reducible refine (HF.out _ hS2.1).mono ?_); rintro e w2 ⟨rfl, hb_w2⟩
      refine hK.out _ _ ⟨stepS hS2.1 hb_w2, own_below hS2.2 hb_w2⟩ (fun hS_w2 => ?_)
      clear hK K hb_w2
      try simp only [Act.put, List.setIfInBounds_toArray, List.set_cons_zero, List.set_cons_succ]
      refine heldT 8 55 (.string ((⟨#[64]⟩ : ByteArray) ++ ⟨fb.toArray⟩)) rfl rfl (by kernel_rfl) (by kernel_rfl) (by kernel_rfl) (fun _ _ _ h => h) (by rfl) hS_w2 (fun W hSW => ?_) ?_
      · skip; (try go_simp) <;> (try omega)
      try simp only [Act.put, List.setIfInBounds_toArray, List.set_cons_zero, List.set_cons_succ]
      refine wpAnyH_ready (rs := [12]) (by kernel_rfl) (by simp) ((AllReadyH.cons rfl (fun K hK => ?_) AllReadyH.nil))
      rw [if_pos (by rfl)]
      go_simp
      (with_reducible refine (HA.out _ hS_w2.1).mono ?_); rintro e w3 ⟨rfl, hb_w3⟩
      refine hK.out _ _ ⟨stepS hS_w2.1 hb_w3, own_below hS_w2.2 hb_w3⟩ (fun hS_w3 => ?_)
      clear hK K hb_w3
      try simp only [Act.put, List.setIfInBounds_toArray, List.set_cons_zero, List.set_cons_succ]
      have hS_w3_1 := hS_w3.1
      refine heldT 13 60 (.string ((⟨#[64]⟩ : ByteArray) ++ ⟨fb.toArray⟩ ++ ⟨ab.toArray⟩)) rfl rfl (by kernel_rfl) (by kernel_rfl) (by kernel_rfl) (fun _ _ _ h => h) (by rfl) hS_w3 (fun W hSW => ?_) ?_
      · skip; (try go_simp) <;> (try omega)
      try simp only [Act.put, List.setIfInBounds_toArray, List.set_cons_zero, List.set_cons_succ]
      refine heldT 14 4 (.string ((⟨#[64]⟩ : ByteArray) ++ ⟨fb.toArray⟩ ++ ⟨ab.toArray⟩)) rfl rfl (by kernel_rfl) (by kernel_rfl) (by kernel_rfl) (fun _ _ _ h => h) (by rfl) hS_w3 (fun W hSW => ?_) ?_
      · skip; (try go_simp) <;> (try omega)
      try simp only [Act.put, List.setIfInBounds_toArray, List.set_cons_zero, List.set_cons_succ]
      refine wpAnyH_done (by kernel_rfl) ?_ _
      go_wp2
      go_ret
      rw [HE.out]
      exact ⟨rfl, B0.out.trans (hS_w3_1.mono (Nat.le_of_lt Z1.out))⟩
    · rw [if_pos (by rfl)]
      go_simp
      (with_reducible refine (HF.out _ hS0).mono ?_); rintro e w2 ⟨rfl, hb_w2⟩
      refine hK.out _ _ (stepS hS0 hb_w2) (fun hS_w2 => ?_)
      clear hK K hb_w2
      try simp only [Act.put, List.setIfInBounds_toArray, List.set_cons_zero, List.set_cons_succ]
      refine wpAnyH_ready (rs := [2, 12]) (by kernel_rfl) (by simp) ((AllReadyH.cons rfl (fun K hK => ?_) (AllReadyH.cons rfl (fun K hK => ?_) AllReadyH.nil)))
      · rw [if_pos (by rfl)]
        go_simp
        refine hK.out _ _ (allocS hS_w2 _) (fun hSb => ?_)
        clear hK K
        have rb := World.ownsRow_lit (base := 0) (e := 5) (size := 1) w2 #[.int .u8 64] 1 (Nat.zero_le _) (by decide) (by simp)
        obtain ⟨gb, hgb⟩ : ∃ gb, w2.heap.size = gb := ⟨_, rfl⟩
        rw [hgb] at rb ⊢
        generalize w2.alloc (.cells #[.int .u8 64] 5) = wb at rb hSb ⊢
        refine wpAnyH_more (S' := fun w' => Below W1.heap.size W1 w' ∧ w'.ownsRow 0 5 1 (.slice (some ⟨gb, 0, none⟩) 1 1) 1 ([(64 : UInt8)].map bv)) (fun _ h => h.1) _ _ _ _ ?_
        have hS2 : Below W1.heap.size W1 wb ∧ wb.ownsRow 0 5 1 (.slice (some ⟨gb, 0, none⟩) 1 1) 1 ([(64 : UInt8)].map bv) := ⟨hSb, rb⟩
        clear rb hSb hgb
        try simp only [Act.put, List.setIfInBounds_toArray, List.set_cons_zero, List.set_cons_succ]
        refine heldT 3 50 (.string ⟨#[64]⟩) rfl rfl (by kernel_rfl) (by kernel_rfl) (by kernel_rfl) (fun _ _ _ h => h) (by rfl) hS2 (fun W hSW => ?_) ?_
        · have cv := conv_own (P := Tryd.prog) (t := 61) (d := 9) W Tryd.underlying61 Tryd.underlying5 Tryd.underlying9 hSW.2; (try go_simp) <;> (try omega)
        try simp only [Act.put, List.setIfInBounds_toArray, List.set_cons_zero, List.set_cons_succ]
        refine heldT 8 55 (.string ((⟨#[64]⟩ : ByteArray) ++ ⟨fb.toArray⟩)) rfl rfl (by kernel_rfl) (by kernel_rfl) (by kernel_rfl) (fun _ _ _ h => h) (by rfl) hS2 (fun W hSW => ?_) ?_
        · skip; (try go_simp) <;> (try omega)
        try simp only [Act.put, List.setIfInBounds_toArray, List.set_cons_zero, List.set_cons_succ]
        refine wpAnyH_ready (rs := [12]) (by kernel_rfl) (by simp) ((AllReadyH.cons rfl (fun K hK => ?_) AllReadyH.nil))
        rw [if_pos (by rfl)]
        go_simp
        (with_reducible refine (HA.out _ hS2.1).mono ?_); rintro e w3 ⟨rfl, hb_w3⟩
        refine hK.out _ _ ⟨stepS hS2.1 hb_w3, own_below hS2.2 hb_w3⟩ (fun hS_w3 => ?_)
        clear hK K hb_w3
        try simp only [Act.put, List.setIfInBounds_toArray, List.set_cons_zero, List.set_cons_succ]
        have hS_w3_1 := hS_w3.1
        refine heldT 13 60 (.string ((⟨#[64]⟩ : ByteArray) ++ ⟨fb.toArray⟩ ++ ⟨ab.toArray⟩)) rfl rfl (by kernel_rfl) (by kernel_rfl) (by kernel_rfl) (fun _ _ _ h => h) (by rfl) hS_w3 (fun W hSW => ?_) ?_
        · skip; (try go_simp) <;> (try omega)
        try simp only [Act.put, List.setIfInBounds_toArray, List.set_cons_zero, List.set_cons_succ]
        refine heldT 14 4 (.string ((⟨#[64]⟩ : ByteArray) ++ ⟨fb.toArray⟩ ++ ⟨ab.toArray⟩)) rfl rfl (by kernel_rfl) (by kernel_rfl) (by kernel_rfl) (fun _ _ _ h => h) (by rfl) hS_w3 (fun W hSW => ?_) ?_
        · skip; (try go_simp) <;> (try omega)
        try simp only [Act.put, List.setIfInBounds_toArray, List.set_cons_zero, List.set_cons_succ]
        refine wpAnyH_done (by kernel_rfl) ?_ _
        go_wp2
        go_ret
        rw [HE.out]
        exact ⟨rfl, B0.out.trans (hS_w3_1.mono (Nat.le_of_lt Z1.out))⟩
      · rw [if_pos (by rfl)]
        go_simp
        (with_reducible refine (HA.out _ hS_w2).mono ?_); rintro e w3 ⟨rfl, hb_w3⟩
        refine hK.out _ _ (stepS hS_w2 hb_w3) (fun hS_w3 => ?_)
        clear hK K hb_w3
        try simp only [Act.put, List.setIfInBounds_toArray, List.set_cons_zero, List.set_cons_succ]
        refine wpAnyH_ready (rs := [2]) (by kernel_rfl) (by simp) ((AllReadyH.cons rfl (fun K hK => ?_) AllReadyH.nil))
        rw [if_pos (by rfl)]
        go_simp
        refine hK.out _ _ (allocS hS_w3 _) (fun hSb => ?_)
        clear hK K
        have rb := World.ownsRow_lit (base := 0) (e := 5) (size := 1) w3 #[.int .u8 64] 1 (Nat.zero_le _) (by decide) (by simp)
        obtain ⟨gb, hgb⟩ : ∃ gb, w3.heap.size = gb := ⟨_, rfl⟩
        rw [hgb] at rb ⊢
        generalize w3.alloc (.cells #[.int .u8 64] 5) = wb at rb hSb ⊢
        refine wpAnyH_more (S' := fun w' => Below W1.heap.size W1 w' ∧ w'.ownsRow 0 5 1 (.slice (some ⟨gb, 0, none⟩) 1 1) 1 ([(64 : UInt8)].map bv)) (fun _ h => h.1) _ _ _ _ ?_
        have hS2 : Below W1.heap.size W1 wb ∧ wb.ownsRow 0 5 1 (.slice (some ⟨gb, 0, none⟩) 1 1) 1 ([(64 : UInt8)].map bv) := ⟨hSb, rb⟩
        clear rb hSb hgb
        try simp only [Act.put, List.setIfInBounds_toArray, List.set_cons_zero, List.set_cons_succ]
        refine heldT 3 50 (.string ⟨#[64]⟩) rfl rfl (by kernel_rfl) (by kernel_rfl) (by kernel_rfl) (fun _ _ _ h => h) (by rfl) hS2 (fun W hSW => ?_) ?_
        · have cv := conv_own (P := Tryd.prog) (t := 61) (d := 9) W Tryd.underlying61 Tryd.underlying5 Tryd.underlying9 hSW.2; (try go_simp) <;> (try omega)
        try simp only [Act.put, List.setIfInBounds_toArray, List.set_cons_zero, List.set_cons_succ]
        refine heldT 8 55 (.string ((⟨#[64]⟩ : ByteArray) ++ ⟨fb.toArray⟩)) rfl rfl (by kernel_rfl) (by kernel_rfl) (by kernel_rfl) (fun _ _ _ h => h) (by rfl) hS2 (fun W hSW => ?_) ?_
        · skip; (try go_simp) <;> (try omega)
        try simp only [Act.put, List.setIfInBounds_toArray, List.set_cons_zero, List.set_cons_succ]
        have hS2_1 := hS2.1
        refine heldT 13 60 (.string ((⟨#[64]⟩ : ByteArray) ++ ⟨fb.toArray⟩ ++ ⟨ab.toArray⟩)) rfl rfl (by kernel_rfl) (by kernel_rfl) (by kernel_rfl) (fun _ _ _ h => h) (by rfl) hS2 (fun W hSW => ?_) ?_
        · skip; (try go_simp) <;> (try omega)
        try simp only [Act.put, List.setIfInBounds_toArray, List.set_cons_zero, List.set_cons_succ]
        refine heldT 14 4 (.string ((⟨#[64]⟩ : ByteArray) ++ ⟨fb.toArray⟩ ++ ⟨ab.toArray⟩)) rfl rfl (by kernel_rfl) (by kernel_rfl) (by kernel_rfl) (fun _ _ _ h => h) (by rfl) hS2 (fun W hSW => ?_) ?_
        · skip; (try go_simp) <;> (try omega)
        try simp only [Act.put, List.setIfInBounds_toArray, List.set_cons_zero, List.set_cons_succ]
        refine wpAnyH_done (by kernel_rfl) ?_ _
        go_wp2
        go_ret
        rw [HE.out]
        exact ⟨rfl, B0.out.trans (hS2_1.mono (Nat.le_of_lt Z1.out))⟩
  | lam f a ihf iha =>
    intro k W v hrow hr hok hle
    obtain ⟨nd, hnd, HK⟩ := hr
    obtain ⟨sa, sn, sc, hlv⟩ := hsl nd (List.mem_of_getElem? hnd)
    have hlt := hklt k nd hnd
    obtain ⟨g, cap, rfl, _, hgl⟩ := hrow.form (by omega)
    have c0 : W.cell? ⟨g, k * 7, none⟩ = some (.int .u8 (nd.kind.toNat : Int)) := node_at hrow hnd 0 (by decide)
    have c1 : W.cell? ⟨g, k * 7 + 1, none⟩ = some (.int .i64 (nd.a : Int)) := node_at hrow hnd 1 (by decide)
    have c2 : W.cell? ⟨g, k * 7 + 2, none⟩ = some (.int .i64 (nd.b : Int)) := node_at hrow hnd 2 (by decide)
    have c3 : W.cell? ⟨g, k * 7 + 3, none⟩ = some (.int .i64 (nd.c : Int)) := node_at hrow hnd 3 (by decide)
    have c4 : W.cell? ⟨g, k * 7 + 4, none⟩ = some (.int .i64 (nd.num : Int)) := node_at hrow hnd 4 (by decide)
    have c5 : W.cell? ⟨g, k * 7 + 5, none⟩ = some (.string ⟨nd.text.toArray⟩) := node_at hrow hnd 5 (by decide)
    have c6 : W.cell? ⟨g, k * 7 + 6, none⟩ = some (.slice sa sn sc) := by rw [← hlv]; exact node_at hrow hnd 6 (by decide)
    have q1 : (0 : Int) ≤ (k : Int) := by omega
    have q2 : (k : Int) < (ns.length : Int) := by omega
    obtain ⟨hkind, hr1, hr2⟩ := HK
    rw [hkind] at c0
    have b1 := (Below.refl W.heap.size W).alloc (Nat.le_refl _) (.cells #[.int .u8 108, .int .i64 (nd.a : Int), .int .i64 (nd.b : Int), .int .i64 (nd.c : Int), .int .i64 (nd.num : Int), .string ⟨nd.text.toArray⟩, .slice sa sn sc] 37)
    have hblk : (W.alloc (.cells #[.int .u8 108, .int .i64 (nd.a : Int), .int .i64 (nd.b : Int), .int .i64 (nd.c : Int), .int .i64 (nd.num : Int), .string ⟨nd.text.toArray⟩, .slice sa sn sc] 37)).heap[W.heap.size]? = some (.cells #[.int .u8 108, .int .i64 (nd.a : Int), .int .i64 (nd.b : Int), .int .i64 (nd.c : Int), .int .i64 (nd.num : Int), .string ⟨nd.text.toArray⟩, .slice sa sn sc] 37 (0, 0)) := heap_alloc_new W _
    have z1 : W.heap.size < (W.alloc (.cells #[.int .u8 108, .int .i64 (nd.a : Int), .int .i64 (nd.b : Int), .int .i64 (nd.c : Int), .int .i64 (nd.num : Int), .string ⟨nd.text.toArray⟩, .slice sa sn sc] 37)).heap.size := by simp
    have HBC : Hid (∀ W', Below (W.alloc (.cells #[.int .u8 108, .int .i64 (nd.a : Int), .int .i64 (nd.b : Int), .int .i64 (nd.c : Int), .int .i64 (nd.num : Int), .string ⟨nd.text.toArray⟩, .slice sa sn sc] 37)).heap.size (W.alloc (.cells #[.int .u8 108, .int .i64 (nd.a : Int), .int .i64 (nd.b : Int), .int .i64 (nd.c : Int), .int .i64 (nd.num : Int), .string ⟨nd.text.toArray⟩, .slice sa sn sc] 37)) W' → W'.cell? ⟨W.heap.size, 0, none⟩ = some (.int .u8 108) ∧ W'.cell? ⟨W.heap.size, 1, none⟩ = some (.int .i64 (nd.a : Int)) ∧ W'.cell? ⟨W.heap.size, 2, none⟩ = some (.int .i64 (nd.b : Int))) := fun W' hb => by
      have h := (hb.block _ z1).trans hblk
      exact ⟨cell_of_row _ _ _ _ _ _ h, cell_of_row _ _ _ _ _ _ h, cell_of_row _ _ _ _ _ _ h⟩
    have HF : Hid (∀ W', Below (W.alloc (.cells #[.int .u8 108, .int .i64 (nd.a : Int), .int .i64 (nd.b : Int), .int .i64 (nd.c : Int), .int .i64 (nd.num : Int), .string ⟨nd.text.toArray⟩, .slice sa sn sc] 37)).heap.size (W.alloc (.cells #[.int .u8 108, .int .i64 (nd.a : Int), .int .i64 (nd.b : Int), .int .i64 (nd.c : Int), .int .i64 (nd.num : Int), .string ⟨nd.text.toArray⟩, .slice sa sn sc] 37)) W' → Calls Tryd.prog 27 #[.slice (some ⟨g, 0, none⟩) ns.length cap, .int .i64 (nd.a : Int)] W' fun e w' => e = .returned (.string ⟨f.bytes.toArray⟩) ∧ Below W'.heap.size W' w') := fun W' hb =>
      ihf nd.a W' _ (own_below (own_below hrow b1) hb) (RepT.keep (fun _ _ _ h => own_below (own_below h b1) hb) (Ext.refl _) f _ hr1) hok.1 (by simp only [Tm.bytes, List.length_cons, List.length_append] at hle; omega)
    have HA : Hid (∀ W', Below (W.alloc (.cells #[.int .u8 108, .int .i64 (nd.a : Int), .int .i64 (nd.b : Int), .int .i64 (nd.c : Int), .int .i64 (nd.num : Int), .string ⟨nd.text.toArray⟩, .slice sa sn sc] 37)).heap.size (W.alloc (.cells #[.int .u8 108, .int .i64 (nd.a : Int), .int .i64 (nd.b : Int), .int .i64 (nd.c : Int), .int .i64 (nd.num : Int), .string ⟨nd.text.toArray⟩, .slice sa sn sc] 37)) W' → Calls Tryd.prog 27 #[.slice (some ⟨g, 0, none⟩) ns.length cap, .int .i64 (nd.b : Int)] W' fun e w' => e = .returned (.string ⟨a.bytes.toArray⟩) ∧ Below W'.heap.size W' w') := fun W' hb =>
      iha nd.b W' _ (own_below (own_below hrow b1) hb) (RepT.keep (fun _ _ _ h => own_below (own_below h b1) hb) (Ext.refl _) a _ hr2) hok.2 (by simp only [Tm.bytes, List.length_cons, List.length_append] at hle; omega)
    have HE := Lib.hid (two_textN 108 f.bytes a.bytes)
    rw [show (Tm.lam f a).bytes = 108 :: (f.bytes ++ a.bytes) from rfl]
    have zf : f.bytes.length ≤ 100000 := by simp only [Tm.bytes, List.length_cons, List.length_append] at hle; omega
    have za : a.bytes.length ≤ 100000 := by simp only [Tm.bytes, List.length_cons, List.length_append] at hle; omega
    have B0 := Lib.hid b1
    have Z1 := Lib.hid z1
    clear hnd hkind hlv hsl hklt hrow hr1 hr2 ihf iha hok hle b1 hblk z1
    generalize f.bytes = fb at HF HE zf
    generalize a.bytes = ab at HA HE za
    generalize (108 :: (fb ++ ab)) = tb at HE ⊢
    go_enter Tryd.func27, Tryd.ntmps27
    go_wp2_with fail
    clear c0 c1 c2 c3 c4 c5 c6
    generalize (W.alloc (.cells #[.int .u8 108, .int .i64 (nd.a : Int), .int .i64 (nd.b : Int), .int .i64 (nd.c : Int), .int .i64 (nd.num : Int), .string ⟨nd.text.toArray⟩, .slice sa sn sc] 37)) = W1 at HBC HF HA B0 Z1
    have B1 := Below.refl W1.heap.size W1
    have X1 := HBC.out _ B1
    refine wp_region_held_drew (S := fun w' => Below W1.heap.size W1 w') (by kernel_rfl) B1.drew (fun hS0 => ?_)
    generalize W1.drew = w1 at hS0 ⊢
    refine heldT 0 47 (.pointer (some ⟨W.heap.size, 0, none⟩)) rfl rfl (by kernel_rfl) (by kernel_rfl) (by kernel_rfl) (fun _ _ _ h => h) (by rfl) hS0 (fun W hSW => ?_) ?_
    · obtain ⟨x0, x1, x2⟩ := HBC.out W hSW; (try go_simp) <;> (try omega)
    try simp only [Act.put, List.setIfInBounds_toArray, List.set_cons_zero, List.set_cons_succ]
    refine heldT 1 48 (.int .u8 108) rfl rfl (by kernel_rfl) (by kernel_rfl) (by kernel_rfl) (fun _ _ _ h => h) (by rfl) hS0 (fun W hSW => ?_) ?_
    · obtain ⟨x0, x1, x2⟩ := HBC.out W hSW; (try go_simp) <;> (try omega)
    try simp only [Act.put, List.setIfInBounds_toArray, List.set_cons_zero, List.set_cons_succ]
    refine heldT 4 51 (.slice (some ⟨g, 0, none⟩) ns.length cap) rfl rfl (by kernel_rfl) (by kernel_rfl) (by kernel_rfl) (fun _ _ _ h => h) (by rfl) hS0 (fun W hSW => ?_) ?_
    · obtain ⟨x0, x1, x2⟩ := HBC.out W hSW; (try go_simp) <;> (try omega)
    try simp only [Act.put, List.setIfInBounds_toArray, List.set_cons_zero, List.set_cons_succ]
    refine heldT 5 52 (.pointer (some ⟨W.heap.size, 1, none⟩)) rfl rfl (by kernel_rfl) (by kernel_rfl) (by kernel_rfl) (fun _ _ _ h => h) (by rfl) hS0 (fun W hSW => ?_) ?_
    · obtain ⟨x0, x1, x2⟩ := HBC.out W hSW; (try go_simp) <;> (try omega)
    try simp only [Act.put, List.setIfInBounds_toArray, List.set_cons_zero, List.set_cons_succ]
    refine heldT 6 53 (.int .i64 (nd.a : Int)) rfl rfl (by kernel_rfl) (by kernel_rfl) (by kernel_rfl) (fun _ _ _ h => h) (by rfl) hS0 (fun W hSW => ?_) ?_
    · obtain ⟨x0, x1, x2⟩ := HBC.out W hSW; (try go_simp) <;> (try omega)
    try simp only [Act.put, List.setIfInBounds_toArray, List.set_cons_zero, List.set_cons_succ]
    refine heldT 9 56 (.slice (some ⟨g, 0, none⟩) ns.length cap) rfl rfl (by kernel_rfl) (by kernel_rfl) (by kernel_rfl) (fun _ _ _ h => h) (by rfl) hS0 (fun W hSW => ?_) ?_
    · obtain ⟨x0, x1, x2⟩ := HBC.out W hSW; (try go_simp) <;> (try omega)
    try simp only [Act.put, List.setIfInBounds_toArray, List.set_cons_zero, List.set_cons_succ]
    refine heldT 10 57 (.pointer (some ⟨W.heap.size, 2, none⟩)) rfl rfl (by kernel_rfl) (by kernel_rfl) (by kernel_rfl) (fun _ _ _ h => h) (by rfl) hS0 (fun W hSW => ?_) ?_
    · obtain ⟨x0, x1, x2⟩ := HBC.out W hSW; (try go_simp) <;> (try omega)
    try simp only [Act.put, List.setIfInBounds_toArray, List.set_cons_zero, List.set_cons_succ]
    refine heldT 11 58 (.int .i64 (nd.b : Int)) rfl rfl (by kernel_rfl) (by kernel_rfl) (by kernel_rfl) (fun _ _ _ h => h) (by rfl) hS0 (fun W hSW => ?_) ?_
    · obtain ⟨x0, x1, x2⟩ := HBC.out W hSW; (try go_simp) <;> (try omega)
    try simp only [Act.put, List.setIfInBounds_toArray, List.set_cons_zero, List.set_cons_succ]
    refine wpAnyH_ready (rs := [2, 7]) (by kernel_rfl) (by simp) ((AllReadyH.cons rfl (fun K hK => ?_) (AllReadyH.cons rfl (fun K hK => ?_) AllReadyH.nil)))
    · rw [if_pos (by rfl)]
      go_simp
      refine hK.out _ _ (allocS hS0 _) (fun hSb => ?_)
      clear hK K
      have rb := World.ownsRow_lit (base := 0) (e := 5) (size := 1) w1 #[.int .u8 108] 1 (Nat.zero_le _) (by decide) (by simp)
      obtain ⟨gb, hgb⟩ : ∃ gb, w1.heap.size = gb := ⟨_, rfl⟩
      rw [hgb] at rb ⊢
      generalize w1.alloc (.cells #[.int .u8 108] 5) = wb at rb hSb ⊢
      refine wpAnyH_more (S' := fun w' => Below W1.heap.size W1 w' ∧ w'.ownsRow 0 5 1 (.slice (some ⟨gb, 0, none⟩) 1 1) 1 ([(108 : UInt8)].map bv)) (fun _ h => h.1) _ _ _ _ ?_
      have hS2 : Below W1.heap.size W1 wb ∧ wb.ownsRow 0 5 1 (.slice (some ⟨gb, 0, none⟩) 1 1) 1 ([(108 : UInt8)].map bv) := ⟨hSb, rb⟩
      clear rb hSb hgb
      try simp only [Act.put, List.setIfInBounds_toArray, List.set_cons_zero, List.set_cons_succ]
      refine heldT 3 50 (.string ⟨#[108]⟩) rfl rfl (by kernel_rfl) (by kernel_rfl) (by kernel_rfl) (fun _ _ _ h => h) (by rfl) hS2 (fun W hSW => ?_) ?_
      · have cv := conv_own (P := Tryd.prog) (t := 61) (d := 9) W Tryd.underlying61 Tryd.underlying5 Tryd.underlying9 hSW.2; (try go_simp) <;> (try omega)
      try simp only [Act.put, List.setIfInBounds_toArray, List.set_cons_zero, List.set_cons_succ]
      refine wpAnyH_ready (rs := [7]) (by kernel_rfl) (by simp) ((AllReadyH.cons rfl (fun K hK => ?_) AllReadyH.nil))
      rw [if_pos (by rfl)]
      go_simp
      (with_reducible refine (HF.out _ hS2.1).mono ?_); rintro e w2 ⟨rfl, hb_w2⟩
      refine hK.out _ _ ⟨stepS hS2.1 hb_w2, own_below hS2.2 hb_w2⟩ (fun hS_w2 => ?_)
      clear hK K hb_w2
      try simp only [Act.put, List.setIfInBounds_toArray, List.set_cons_zero, List.set_cons_succ]
      refine heldT 8 55 (.string ((⟨#[108]⟩ : ByteArray) ++ ⟨fb.toArray⟩)) rfl rfl (by kernel_rfl) (by kernel_rfl) (by kernel_rfl) (fun _ _ _ h => h) (by rfl) hS_w2 (fun W hSW => ?_) ?_
      · skip; (try go_simp) <;> (try omega)
      try simp only [Act.put, List.setIfInBounds_toArray, List.set_cons_zero, List.set_cons_succ]
      refine wpAnyH_ready (rs := [12]) (by kernel_rfl) (by simp) ((AllReadyH.cons rfl (fun K hK => ?_) AllReadyH.nil))
      rw [if_pos (by rfl)]
      go_simp
      (with_reducible refine (HA.out _ hS_w2.1).mono ?_); rintro e w3 ⟨rfl, hb_w3⟩
      refine hK.out _ _ ⟨stepS hS_w2.1 hb_w3, own_below hS_w2.2 hb_w3⟩ (fun hS_w3 => ?_)
      clear hK K hb_w3
      try simp only [Act.put, List.setIfInBounds_toArray, List.set_cons_zero, List.set_cons_succ]
      have hS_w3_1 := hS_w3.1
      refine heldT 13 60 (.string ((⟨#[108]⟩ : ByteArray) ++ ⟨fb.toArray⟩ ++ ⟨ab.toArray⟩)) rfl rfl (by kernel_rfl) (by kernel_rfl) (by kernel_rfl) (fun _ _ _ h => h) (by rfl) hS_w3 (fun W hSW => ?_) ?_
      · skip; (try go_simp) <;> (try omega)
      try simp only [Act.put, List.setIfInBounds_toArray, List.set_cons_zero, List.set_cons_succ]
      refine heldT 14 4 (.string ((⟨#[108]⟩ : ByteArray) ++ ⟨fb.toArray⟩ ++ ⟨ab.toArray⟩)) rfl rfl (by kernel_rfl) (by kernel_rfl) (by kernel_rfl) (fun _ _ _ h => h) (by rfl) hS_w3 (fun W hSW => ?_) ?_
      · skip; (try go_simp) <;> (try omega)
      try simp only [Act.put, List.setIfInBounds_toArray, List.set_cons_zero, List.set_cons_succ]
      refine wpAnyH_done (by kernel_rfl) ?_ _
      go_wp2
      go_ret
      rw [HE.out]
      exact ⟨rfl, B0.out.trans (hS_w3_1.mono (Nat.le_of_lt Z1.out))⟩
    · rw [if_pos (by rfl)]
      go_simp
      (with_reducible refine (HF.out _ hS0).mono ?_); rintro e w2 ⟨rfl, hb_w2⟩
      refine hK.out _ _ (stepS hS0 hb_w2) (fun hS_w2 => ?_)
      clear hK K hb_w2
      try simp only [Act.put, List.setIfInBounds_toArray, List.set_cons_zero, List.set_cons_succ]
      refine wpAnyH_ready (rs := [2, 12]) (by kernel_rfl) (by simp) ((AllReadyH.cons rfl (fun K hK => ?_) (AllReadyH.cons rfl (fun K hK => ?_) AllReadyH.nil)))
      · rw [if_pos (by rfl)]
        go_simp
        refine hK.out _ _ (allocS hS_w2 _) (fun hSb => ?_)
        clear hK K
        have rb := World.ownsRow_lit (base := 0) (e := 5) (size := 1) w2 #[.int .u8 108] 1 (Nat.zero_le _) (by decide) (by simp)
        obtain ⟨gb, hgb⟩ : ∃ gb, w2.heap.size = gb := ⟨_, rfl⟩
        rw [hgb] at rb ⊢
        generalize w2.alloc (.cells #[.int .u8 108] 5) = wb at rb hSb ⊢
        refine wpAnyH_more (S' := fun w' => Below W1.heap.size W1 w' ∧ w'.ownsRow 0 5 1 (.slice (some ⟨gb, 0, none⟩) 1 1) 1 ([(108 : UInt8)].map bv)) (fun _ h => h.1) _ _ _ _ ?_
        have hS2 : Below W1.heap.size W1 wb ∧ wb.ownsRow 0 5 1 (.slice (some ⟨gb, 0, none⟩) 1 1) 1 ([(108 : UInt8)].map bv) := ⟨hSb, rb⟩
        clear rb hSb hgb
        try simp only [Act.put, List.setIfInBounds_toArray, List.set_cons_zero, List.set_cons_succ]
        refine heldT 3 50 (.string ⟨#[108]⟩) rfl rfl (by kernel_rfl) (by kernel_rfl) (by kernel_rfl) (fun _ _ _ h => h) (by rfl) hS2 (fun W hSW => ?_) ?_
        · have cv := conv_own (P := Tryd.prog) (t := 61) (d := 9) W Tryd.underlying61 Tryd.underlying5 Tryd.underlying9 hSW.2; (try go_simp) <;> (try omega)
        try simp only [Act.put, List.setIfInBounds_toArray, List.set_cons_zero, List.set_cons_succ]
        refine heldT 8 55 (.string ((⟨#[108]⟩ : ByteArray) ++ ⟨fb.toArray⟩)) rfl rfl (by kernel_rfl) (by kernel_rfl) (by kernel_rfl) (fun _ _ _ h => h) (by rfl) hS2 (fun W hSW => ?_) ?_
        · skip; (try go_simp) <;> (try omega)
        try simp only [Act.put, List.setIfInBounds_toArray, List.set_cons_zero, List.set_cons_succ]
        refine wpAnyH_ready (rs := [12]) (by kernel_rfl) (by simp) ((AllReadyH.cons rfl (fun K hK => ?_) AllReadyH.nil))
        rw [if_pos (by rfl)]
        go_simp
        (with_reducible refine (HA.out _ hS2.1).mono ?_); rintro e w3 ⟨rfl, hb_w3⟩
        refine hK.out _ _ ⟨stepS hS2.1 hb_w3, own_below hS2.2 hb_w3⟩ (fun hS_w3 => ?_)
        clear hK K hb_w3
        try simp only [Act.put, List.setIfInBounds_toArray, List.set_cons_zero, List.set_cons_succ]
        have hS_w3_1 := hS_w3.1
        refine heldT 13 60 (.string ((⟨#[108]⟩ : ByteArray) ++ ⟨fb.toArray⟩ ++ ⟨ab.toArray⟩)) rfl rfl (by kernel_rfl) (by kernel_rfl) (by kernel_rfl) (fun _ _ _ h => h) (by rfl) hS_w3 (fun W hSW => ?_) ?_
        · skip; (try go_simp) <;> (try omega)
        try simp only [Act.put, List.setIfInBounds_toArray, List.set_cons_zero, List.set_cons_succ]
        refine heldT 14 4 (.string ((⟨#[108]⟩ : ByteArray) ++ ⟨fb.toArray⟩ ++ ⟨ab.toArray⟩)) rfl rfl (by kernel_rfl) (by kernel_rfl) (by kernel_rfl) (fun _ _ _ h => h) (by rfl) hS_w3 (fun W hSW => ?_) ?_
        · skip; (try go_simp) <;> (try omega)
        try simp only [Act.put, List.setIfInBounds_toArray, List.set_cons_zero, List.set_cons_succ]
        refine wpAnyH_done (by kernel_rfl) ?_ _
        go_wp2
        go_ret
        rw [HE.out]
        exact ⟨rfl, B0.out.trans (hS_w3_1.mono (Nat.le_of_lt Z1.out))⟩
      · rw [if_pos (by rfl)]
        go_simp
        (with_reducible refine (HA.out _ hS_w2).mono ?_); rintro e w3 ⟨rfl, hb_w3⟩
        refine hK.out _ _ (stepS hS_w2 hb_w3) (fun hS_w3 => ?_)
        clear hK K hb_w3
        try simp only [Act.put, List.setIfInBounds_toArray, List.set_cons_zero, List.set_cons_succ]
        refine wpAnyH_ready (rs := [2]) (by kernel_rfl) (by simp) ((AllReadyH.cons rfl (fun K hK => ?_) AllReadyH.nil))
        rw [if_pos (by rfl)]
        go_simp
        refine hK.out _ _ (allocS hS_w3 _) (fun hSb => ?_)
        clear hK K
        have rb := World.ownsRow_lit (base := 0) (e := 5) (size := 1) w3 #[.int .u8 108] 1 (Nat.zero_le _) (by decide) (by simp)
        obtain ⟨gb, hgb⟩ : ∃ gb, w3.heap.size = gb := ⟨_, rfl⟩
        rw [hgb] at rb ⊢
        generalize w3.alloc (.cells #[.int .u8 108] 5) = wb at rb hSb ⊢
        refine wpAnyH_more (S' := fun w' => Below W1.heap.size W1 w' ∧ w'.ownsRow 0 5 1 (.slice (some ⟨gb, 0, none⟩) 1 1) 1 ([(108 : UInt8)].map bv)) (fun _ h => h.1) _ _ _ _ ?_
        have hS2 : Below W1.heap.size W1 wb ∧ wb.ownsRow 0 5 1 (.slice (some ⟨gb, 0, none⟩) 1 1) 1 ([(108 : UInt8)].map bv) := ⟨hSb, rb⟩
        clear rb hSb hgb
        try simp only [Act.put, List.setIfInBounds_toArray, List.set_cons_zero, List.set_cons_succ]
        refine heldT 3 50 (.string ⟨#[108]⟩) rfl rfl (by kernel_rfl) (by kernel_rfl) (by kernel_rfl) (fun _ _ _ h => h) (by rfl) hS2 (fun W hSW => ?_) ?_
        · have cv := conv_own (P := Tryd.prog) (t := 61) (d := 9) W Tryd.underlying61 Tryd.underlying5 Tryd.underlying9 hSW.2; (try go_simp) <;> (try omega)
        try simp only [Act.put, List.setIfInBounds_toArray, List.set_cons_zero, List.set_cons_succ]
        refine heldT 8 55 (.string ((⟨#[108]⟩ : ByteArray) ++ ⟨fb.toArray⟩)) rfl rfl (by kernel_rfl) (by kernel_rfl) (by kernel_rfl) (fun _ _ _ h => h) (by rfl) hS2 (fun W hSW => ?_) ?_
        · skip; (try go_simp) <;> (try omega)
        try simp only [Act.put, List.setIfInBounds_toArray, List.set_cons_zero, List.set_cons_succ]
        have hS2_1 := hS2.1
        refine heldT 13 60 (.string ((⟨#[108]⟩ : ByteArray) ++ ⟨fb.toArray⟩ ++ ⟨ab.toArray⟩)) rfl rfl (by kernel_rfl) (by kernel_rfl) (by kernel_rfl) (fun _ _ _ h => h) (by rfl) hS2 (fun W hSW => ?_) ?_
        · skip; (try go_simp) <;> (try omega)
        try simp only [Act.put, List.setIfInBounds_toArray, List.set_cons_zero, List.set_cons_succ]
        refine heldT 14 4 (.string ((⟨#[108]⟩ : ByteArray) ++ ⟨fb.toArray⟩ ++ ⟨ab.toArray⟩)) rfl rfl (by kernel_rfl) (by kernel_rfl) (by kernel_rfl) (fun _ _ _ h => h) (by rfl) hS2 (fun W hSW => ?_) ?_
        · skip; (try go_simp) <;> (try omega)
        try simp only [Act.put, List.setIfInBounds_toArray, List.set_cons_zero, List.set_cons_succ]
        refine wpAnyH_done (by kernel_rfl) ?_ _
        go_wp2
        go_ret
        rw [HE.out]
        exact ⟨rfl, B0.out.trans (hS2_1.mono (Nat.le_of_lt Z1.out))⟩
  | pi f a ihf iha =>
    intro k W v hrow hr hok hle
    obtain ⟨nd, hnd, HK⟩ := hr
    obtain ⟨sa, sn, sc, hlv⟩ := hsl nd (List.mem_of_getElem? hnd)
    have hlt := hklt k nd hnd
    obtain ⟨g, cap, rfl, _, hgl⟩ := hrow.form (by omega)
    have c0 : W.cell? ⟨g, k * 7, none⟩ = some (.int .u8 (nd.kind.toNat : Int)) := node_at hrow hnd 0 (by decide)
    have c1 : W.cell? ⟨g, k * 7 + 1, none⟩ = some (.int .i64 (nd.a : Int)) := node_at hrow hnd 1 (by decide)
    have c2 : W.cell? ⟨g, k * 7 + 2, none⟩ = some (.int .i64 (nd.b : Int)) := node_at hrow hnd 2 (by decide)
    have c3 : W.cell? ⟨g, k * 7 + 3, none⟩ = some (.int .i64 (nd.c : Int)) := node_at hrow hnd 3 (by decide)
    have c4 : W.cell? ⟨g, k * 7 + 4, none⟩ = some (.int .i64 (nd.num : Int)) := node_at hrow hnd 4 (by decide)
    have c5 : W.cell? ⟨g, k * 7 + 5, none⟩ = some (.string ⟨nd.text.toArray⟩) := node_at hrow hnd 5 (by decide)
    have c6 : W.cell? ⟨g, k * 7 + 6, none⟩ = some (.slice sa sn sc) := by rw [← hlv]; exact node_at hrow hnd 6 (by decide)
    have q1 : (0 : Int) ≤ (k : Int) := by omega
    have q2 : (k : Int) < (ns.length : Int) := by omega
    obtain ⟨hkind, hr1, hr2⟩ := HK
    rw [hkind] at c0
    have b1 := (Below.refl W.heap.size W).alloc (Nat.le_refl _) (.cells #[.int .u8 112, .int .i64 (nd.a : Int), .int .i64 (nd.b : Int), .int .i64 (nd.c : Int), .int .i64 (nd.num : Int), .string ⟨nd.text.toArray⟩, .slice sa sn sc] 37)
    have hblk : (W.alloc (.cells #[.int .u8 112, .int .i64 (nd.a : Int), .int .i64 (nd.b : Int), .int .i64 (nd.c : Int), .int .i64 (nd.num : Int), .string ⟨nd.text.toArray⟩, .slice sa sn sc] 37)).heap[W.heap.size]? = some (.cells #[.int .u8 112, .int .i64 (nd.a : Int), .int .i64 (nd.b : Int), .int .i64 (nd.c : Int), .int .i64 (nd.num : Int), .string ⟨nd.text.toArray⟩, .slice sa sn sc] 37 (0, 0)) := heap_alloc_new W _
    have z1 : W.heap.size < (W.alloc (.cells #[.int .u8 112, .int .i64 (nd.a : Int), .int .i64 (nd.b : Int), .int .i64 (nd.c : Int), .int .i64 (nd.num : Int), .string ⟨nd.text.toArray⟩, .slice sa sn sc] 37)).heap.size := by simp
    have HBC : Hid (∀ W', Below (W.alloc (.cells #[.int .u8 112, .int .i64 (nd.a : Int), .int .i64 (nd.b : Int), .int .i64 (nd.c : Int), .int .i64 (nd.num : Int), .string ⟨nd.text.toArray⟩, .slice sa sn sc] 37)).heap.size (W.alloc (.cells #[.int .u8 112, .int .i64 (nd.a : Int), .int .i64 (nd.b : Int), .int .i64 (nd.c : Int), .int .i64 (nd.num : Int), .string ⟨nd.text.toArray⟩, .slice sa sn sc] 37)) W' → W'.cell? ⟨W.heap.size, 0, none⟩ = some (.int .u8 112) ∧ W'.cell? ⟨W.heap.size, 1, none⟩ = some (.int .i64 (nd.a : Int)) ∧ W'.cell? ⟨W.heap.size, 2, none⟩ = some (.int .i64 (nd.b : Int))) := fun W' hb => by
      have h := (hb.block _ z1).trans hblk
      exact ⟨cell_of_row _ _ _ _ _ _ h, cell_of_row _ _ _ _ _ _ h, cell_of_row _ _ _ _ _ _ h⟩
    have HF : Hid (∀ W', Below (W.alloc (.cells #[.int .u8 112, .int .i64 (nd.a : Int), .int .i64 (nd.b : Int), .int .i64 (nd.c : Int), .int .i64 (nd.num : Int), .string ⟨nd.text.toArray⟩, .slice sa sn sc] 37)).heap.size (W.alloc (.cells #[.int .u8 112, .int .i64 (nd.a : Int), .int .i64 (nd.b : Int), .int .i64 (nd.c : Int), .int .i64 (nd.num : Int), .string ⟨nd.text.toArray⟩, .slice sa sn sc] 37)) W' → Calls Tryd.prog 27 #[.slice (some ⟨g, 0, none⟩) ns.length cap, .int .i64 (nd.a : Int)] W' fun e w' => e = .returned (.string ⟨f.bytes.toArray⟩) ∧ Below W'.heap.size W' w') := fun W' hb =>
      ihf nd.a W' _ (own_below (own_below hrow b1) hb) (RepT.keep (fun _ _ _ h => own_below (own_below h b1) hb) (Ext.refl _) f _ hr1) hok.1 (by simp only [Tm.bytes, List.length_cons, List.length_append] at hle; omega)
    have HA : Hid (∀ W', Below (W.alloc (.cells #[.int .u8 112, .int .i64 (nd.a : Int), .int .i64 (nd.b : Int), .int .i64 (nd.c : Int), .int .i64 (nd.num : Int), .string ⟨nd.text.toArray⟩, .slice sa sn sc] 37)).heap.size (W.alloc (.cells #[.int .u8 112, .int .i64 (nd.a : Int), .int .i64 (nd.b : Int), .int .i64 (nd.c : Int), .int .i64 (nd.num : Int), .string ⟨nd.text.toArray⟩, .slice sa sn sc] 37)) W' → Calls Tryd.prog 27 #[.slice (some ⟨g, 0, none⟩) ns.length cap, .int .i64 (nd.b : Int)] W' fun e w' => e = .returned (.string ⟨a.bytes.toArray⟩) ∧ Below W'.heap.size W' w') := fun W' hb =>
      iha nd.b W' _ (own_below (own_below hrow b1) hb) (RepT.keep (fun _ _ _ h => own_below (own_below h b1) hb) (Ext.refl _) a _ hr2) hok.2 (by simp only [Tm.bytes, List.length_cons, List.length_append] at hle; omega)
    have HE := Lib.hid (two_textN 112 f.bytes a.bytes)
    rw [show (Tm.pi f a).bytes = 112 :: (f.bytes ++ a.bytes) from rfl]
    have zf : f.bytes.length ≤ 100000 := by simp only [Tm.bytes, List.length_cons, List.length_append] at hle; omega
    have za : a.bytes.length ≤ 100000 := by simp only [Tm.bytes, List.length_cons, List.length_append] at hle; omega
    have B0 := Lib.hid b1
    have Z1 := Lib.hid z1
    clear hnd hkind hlv hsl hklt hrow hr1 hr2 ihf iha hok hle b1 hblk z1
    generalize f.bytes = fb at HF HE zf
    generalize a.bytes = ab at HA HE za
    generalize (112 :: (fb ++ ab)) = tb at HE ⊢
    go_enter Tryd.func27, Tryd.ntmps27
    go_wp2_with fail
    clear c0 c1 c2 c3 c4 c5 c6
    generalize (W.alloc (.cells #[.int .u8 112, .int .i64 (nd.a : Int), .int .i64 (nd.b : Int), .int .i64 (nd.c : Int), .int .i64 (nd.num : Int), .string ⟨nd.text.toArray⟩, .slice sa sn sc] 37)) = W1 at HBC HF HA B0 Z1
    have B1 := Below.refl W1.heap.size W1
    have X1 := HBC.out _ B1
    refine wp_region_held_drew (S := fun w' => Below W1.heap.size W1 w') (by kernel_rfl) B1.drew (fun hS0 => ?_)
    generalize W1.drew = w1 at hS0 ⊢
    refine heldT 0 47 (.pointer (some ⟨W.heap.size, 0, none⟩)) rfl rfl (by kernel_rfl) (by kernel_rfl) (by kernel_rfl) (fun _ _ _ h => h) (by rfl) hS0 (fun W hSW => ?_) ?_
    · obtain ⟨x0, x1, x2⟩ := HBC.out W hSW; (try go_simp) <;> (try omega)
    try simp only [Act.put, List.setIfInBounds_toArray, List.set_cons_zero, List.set_cons_succ]
    refine heldT 1 48 (.int .u8 112) rfl rfl (by kernel_rfl) (by kernel_rfl) (by kernel_rfl) (fun _ _ _ h => h) (by rfl) hS0 (fun W hSW => ?_) ?_
    · obtain ⟨x0, x1, x2⟩ := HBC.out W hSW; (try go_simp) <;> (try omega)
    try simp only [Act.put, List.setIfInBounds_toArray, List.set_cons_zero, List.set_cons_succ]
    refine heldT 4 51 (.slice (some ⟨g, 0, none⟩) ns.length cap) rfl rfl (by kernel_rfl) (by kernel_rfl) (by kernel_rfl) (fun _ _ _ h => h) (by rfl) hS0 (fun W hSW => ?_) ?_
    · obtain ⟨x0, x1, x2⟩ := HBC.out W hSW; (try go_simp) <;> (try omega)
    try simp only [Act.put, List.setIfInBounds_toArray, List.set_cons_zero, List.set_cons_succ]
    refine heldT 5 52 (.pointer (some ⟨W.heap.size, 1, none⟩)) rfl rfl (by kernel_rfl) (by kernel_rfl) (by kernel_rfl) (fun _ _ _ h => h) (by rfl) hS0 (fun W hSW => ?_) ?_
    · obtain ⟨x0, x1, x2⟩ := HBC.out W hSW; (try go_simp) <;> (try omega)
    try simp only [Act.put, List.setIfInBounds_toArray, List.set_cons_zero, List.set_cons_succ]
    refine heldT 6 53 (.int .i64 (nd.a : Int)) rfl rfl (by kernel_rfl) (by kernel_rfl) (by kernel_rfl) (fun _ _ _ h => h) (by rfl) hS0 (fun W hSW => ?_) ?_
    · obtain ⟨x0, x1, x2⟩ := HBC.out W hSW; (try go_simp) <;> (try omega)
    try simp only [Act.put, List.setIfInBounds_toArray, List.set_cons_zero, List.set_cons_succ]
    refine heldT 9 56 (.slice (some ⟨g, 0, none⟩) ns.length cap) rfl rfl (by kernel_rfl) (by kernel_rfl) (by kernel_rfl) (fun _ _ _ h => h) (by rfl) hS0 (fun W hSW => ?_) ?_
    · obtain ⟨x0, x1, x2⟩ := HBC.out W hSW; (try go_simp) <;> (try omega)
    try simp only [Act.put, List.setIfInBounds_toArray, List.set_cons_zero, List.set_cons_succ]
    refine heldT 10 57 (.pointer (some ⟨W.heap.size, 2, none⟩)) rfl rfl (by kernel_rfl) (by kernel_rfl) (by kernel_rfl) (fun _ _ _ h => h) (by rfl) hS0 (fun W hSW => ?_) ?_
    · obtain ⟨x0, x1, x2⟩ := HBC.out W hSW; (try go_simp) <;> (try omega)
    try simp only [Act.put, List.setIfInBounds_toArray, List.set_cons_zero, List.set_cons_succ]
    refine heldT 11 58 (.int .i64 (nd.b : Int)) rfl rfl (by kernel_rfl) (by kernel_rfl) (by kernel_rfl) (fun _ _ _ h => h) (by rfl) hS0 (fun W hSW => ?_) ?_
    · obtain ⟨x0, x1, x2⟩ := HBC.out W hSW; (try go_simp) <;> (try omega)
    try simp only [Act.put, List.setIfInBounds_toArray, List.set_cons_zero, List.set_cons_succ]
    refine wpAnyH_ready (rs := [2, 7]) (by kernel_rfl) (by simp) ((AllReadyH.cons rfl (fun K hK => ?_) (AllReadyH.cons rfl (fun K hK => ?_) AllReadyH.nil)))
    · rw [if_pos (by rfl)]
      go_simp
      refine hK.out _ _ (allocS hS0 _) (fun hSb => ?_)
      clear hK K
      have rb := World.ownsRow_lit (base := 0) (e := 5) (size := 1) w1 #[.int .u8 112] 1 (Nat.zero_le _) (by decide) (by simp)
      obtain ⟨gb, hgb⟩ : ∃ gb, w1.heap.size = gb := ⟨_, rfl⟩
      rw [hgb] at rb ⊢
      generalize w1.alloc (.cells #[.int .u8 112] 5) = wb at rb hSb ⊢
      refine wpAnyH_more (S' := fun w' => Below W1.heap.size W1 w' ∧ w'.ownsRow 0 5 1 (.slice (some ⟨gb, 0, none⟩) 1 1) 1 ([(112 : UInt8)].map bv)) (fun _ h => h.1) _ _ _ _ ?_
      have hS2 : Below W1.heap.size W1 wb ∧ wb.ownsRow 0 5 1 (.slice (some ⟨gb, 0, none⟩) 1 1) 1 ([(112 : UInt8)].map bv) := ⟨hSb, rb⟩
      clear rb hSb hgb
      try simp only [Act.put, List.setIfInBounds_toArray, List.set_cons_zero, List.set_cons_succ]
      refine heldT 3 50 (.string ⟨#[112]⟩) rfl rfl (by kernel_rfl) (by kernel_rfl) (by kernel_rfl) (fun _ _ _ h => h) (by rfl) hS2 (fun W hSW => ?_) ?_
      · have cv := conv_own (P := Tryd.prog) (t := 61) (d := 9) W Tryd.underlying61 Tryd.underlying5 Tryd.underlying9 hSW.2; (try go_simp) <;> (try omega)
      try simp only [Act.put, List.setIfInBounds_toArray, List.set_cons_zero, List.set_cons_succ]
      refine wpAnyH_ready (rs := [7]) (by kernel_rfl) (by simp) ((AllReadyH.cons rfl (fun K hK => ?_) AllReadyH.nil))
      rw [if_pos (by rfl)]
      go_simp
      (with_reducible refine (HF.out _ hS2.1).mono ?_); rintro e w2 ⟨rfl, hb_w2⟩
      refine hK.out _ _ ⟨stepS hS2.1 hb_w2, own_below hS2.2 hb_w2⟩ (fun hS_w2 => ?_)
      clear hK K hb_w2
      try simp only [Act.put, List.setIfInBounds_toArray, List.set_cons_zero, List.set_cons_succ]
      refine heldT 8 55 (.string ((⟨#[112]⟩ : ByteArray) ++ ⟨fb.toArray⟩)) rfl rfl (by kernel_rfl) (by kernel_rfl) (by kernel_rfl) (fun _ _ _ h => h) (by rfl) hS_w2 (fun W hSW => ?_) ?_
      · skip; (try go_simp) <;> (try omega)
      try simp only [Act.put, List.setIfInBounds_toArray, List.set_cons_zero, List.set_cons_succ]
      refine wpAnyH_ready (rs := [12]) (by kernel_rfl) (by simp) ((AllReadyH.cons rfl (fun K hK => ?_) AllReadyH.nil))
      rw [if_pos (by rfl)]
      go_simp
      (with_reducible refine (HA.out _ hS_w2.1).mono ?_); rintro e w3 ⟨rfl, hb_w3⟩
      refine hK.out _ _ ⟨stepS hS_w2.1 hb_w3, own_below hS_w2.2 hb_w3⟩ (fun hS_w3 => ?_)
      clear hK K hb_w3
      try simp only [Act.put, List.setIfInBounds_toArray, List.set_cons_zero, List.set_cons_succ]
      have hS_w3_1 := hS_w3.1
      refine heldT 13 60 (.string ((⟨#[112]⟩ : ByteArray) ++ ⟨fb.toArray⟩ ++ ⟨ab.toArray⟩)) rfl rfl (by kernel_rfl) (by kernel_rfl) (by kernel_rfl) (fun _ _ _ h => h) (by rfl) hS_w3 (fun W hSW => ?_) ?_
      · skip; (try go_simp) <;> (try omega)
      try simp only [Act.put, List.setIfInBounds_toArray, List.set_cons_zero, List.set_cons_succ]
      refine heldT 14 4 (.string ((⟨#[112]⟩ : ByteArray) ++ ⟨fb.toArray⟩ ++ ⟨ab.toArray⟩)) rfl rfl (by kernel_rfl) (by kernel_rfl) (by kernel_rfl) (fun _ _ _ h => h) (by rfl) hS_w3 (fun W hSW => ?_) ?_
      · skip; (try go_simp) <;> (try omega)
      try simp only [Act.put, List.setIfInBounds_toArray, List.set_cons_zero, List.set_cons_succ]
      refine wpAnyH_done (by kernel_rfl) ?_ _
      go_wp2
      go_ret
      rw [HE.out]
      exact ⟨rfl, B0.out.trans (hS_w3_1.mono (Nat.le_of_lt Z1.out))⟩
    · rw [if_pos (by rfl)]
      go_simp
      (with_reducible refine (HF.out _ hS0).mono ?_); rintro e w2 ⟨rfl, hb_w2⟩
      refine hK.out _ _ (stepS hS0 hb_w2) (fun hS_w2 => ?_)
      clear hK K hb_w2
      try simp only [Act.put, List.setIfInBounds_toArray, List.set_cons_zero, List.set_cons_succ]
      refine wpAnyH_ready (rs := [2, 12]) (by kernel_rfl) (by simp) ((AllReadyH.cons rfl (fun K hK => ?_) (AllReadyH.cons rfl (fun K hK => ?_) AllReadyH.nil)))
      · rw [if_pos (by rfl)]
        go_simp
        refine hK.out _ _ (allocS hS_w2 _) (fun hSb => ?_)
        clear hK K
        have rb := World.ownsRow_lit (base := 0) (e := 5) (size := 1) w2 #[.int .u8 112] 1 (Nat.zero_le _) (by decide) (by simp)
        obtain ⟨gb, hgb⟩ : ∃ gb, w2.heap.size = gb := ⟨_, rfl⟩
        rw [hgb] at rb ⊢
        generalize w2.alloc (.cells #[.int .u8 112] 5) = wb at rb hSb ⊢
        refine wpAnyH_more (S' := fun w' => Below W1.heap.size W1 w' ∧ w'.ownsRow 0 5 1 (.slice (some ⟨gb, 0, none⟩) 1 1) 1 ([(112 : UInt8)].map bv)) (fun _ h => h.1) _ _ _ _ ?_
        have hS2 : Below W1.heap.size W1 wb ∧ wb.ownsRow 0 5 1 (.slice (some ⟨gb, 0, none⟩) 1 1) 1 ([(112 : UInt8)].map bv) := ⟨hSb, rb⟩
        clear rb hSb hgb
        try simp only [Act.put, List.setIfInBounds_toArray, List.set_cons_zero, List.set_cons_succ]
        refine heldT 3 50 (.string ⟨#[112]⟩) rfl rfl (by kernel_rfl) (by kernel_rfl) (by kernel_rfl) (fun _ _ _ h => h) (by rfl) hS2 (fun W hSW => ?_) ?_
        · have cv := conv_own (P := Tryd.prog) (t := 61) (d := 9) W Tryd.underlying61 Tryd.underlying5 Tryd.underlying9 hSW.2; (try go_simp) <;> (try omega)
        try simp only [Act.put, List.setIfInBounds_toArray, List.set_cons_zero, List.set_cons_succ]
        refine heldT 8 55 (.string ((⟨#[112]⟩ : ByteArray) ++ ⟨fb.toArray⟩)) rfl rfl (by kernel_rfl) (by kernel_rfl) (by kernel_rfl) (fun _ _ _ h => h) (by rfl) hS2 (fun W hSW => ?_) ?_
        · skip; (try go_simp) <;> (try omega)
        try simp only [Act.put, List.setIfInBounds_toArray, List.set_cons_zero, List.set_cons_succ]
        refine wpAnyH_ready (rs := [12]) (by kernel_rfl) (by simp) ((AllReadyH.cons rfl (fun K hK => ?_) AllReadyH.nil))
        rw [if_pos (by rfl)]
        go_simp
        (with_reducible refine (HA.out _ hS2.1).mono ?_); rintro e w3 ⟨rfl, hb_w3⟩
        refine hK.out _ _ ⟨stepS hS2.1 hb_w3, own_below hS2.2 hb_w3⟩ (fun hS_w3 => ?_)
        clear hK K hb_w3
        try simp only [Act.put, List.setIfInBounds_toArray, List.set_cons_zero, List.set_cons_succ]
        have hS_w3_1 := hS_w3.1
        refine heldT 13 60 (.string ((⟨#[112]⟩ : ByteArray) ++ ⟨fb.toArray⟩ ++ ⟨ab.toArray⟩)) rfl rfl (by kernel_rfl) (by kernel_rfl) (by kernel_rfl) (fun _ _ _ h => h) (by rfl) hS_w3 (fun W hSW => ?_) ?_
        · skip; (try go_simp) <;> (try omega)
        try simp only [Act.put, List.setIfInBounds_toArray, List.set_cons_zero, List.set_cons_succ]
        refine heldT 14 4 (.string ((⟨#[112]⟩ : ByteArray) ++ ⟨fb.toArray⟩ ++ ⟨ab.toArray⟩)) rfl rfl (by kernel_rfl) (by kernel_rfl) (by kernel_rfl) (fun _ _ _ h => h) (by rfl) hS_w3 (fun W hSW => ?_) ?_
        · skip; (try go_simp) <;> (try omega)
        try simp only [Act.put, List.setIfInBounds_toArray, List.set_cons_zero, List.set_cons_succ]
        refine wpAnyH_done (by kernel_rfl) ?_ _
        go_wp2
        go_ret
        rw [HE.out]
        exact ⟨rfl, B0.out.trans (hS_w3_1.mono (Nat.le_of_lt Z1.out))⟩
      · rw [if_pos (by rfl)]
        go_simp
        (with_reducible refine (HA.out _ hS_w2).mono ?_); rintro e w3 ⟨rfl, hb_w3⟩
        refine hK.out _ _ (stepS hS_w2 hb_w3) (fun hS_w3 => ?_)
        clear hK K hb_w3
        try simp only [Act.put, List.setIfInBounds_toArray, List.set_cons_zero, List.set_cons_succ]
        refine wpAnyH_ready (rs := [2]) (by kernel_rfl) (by simp) ((AllReadyH.cons rfl (fun K hK => ?_) AllReadyH.nil))
        rw [if_pos (by rfl)]
        go_simp
        refine hK.out _ _ (allocS hS_w3 _) (fun hSb => ?_)
        clear hK K
        have rb := World.ownsRow_lit (base := 0) (e := 5) (size := 1) w3 #[.int .u8 112] 1 (Nat.zero_le _) (by decide) (by simp)
        obtain ⟨gb, hgb⟩ : ∃ gb, w3.heap.size = gb := ⟨_, rfl⟩
        rw [hgb] at rb ⊢
        generalize w3.alloc (.cells #[.int .u8 112] 5) = wb at rb hSb ⊢
        refine wpAnyH_more (S' := fun w' => Below W1.heap.size W1 w' ∧ w'.ownsRow 0 5 1 (.slice (some ⟨gb, 0, none⟩) 1 1) 1 ([(112 : UInt8)].map bv)) (fun _ h => h.1) _ _ _ _ ?_
        have hS2 : Below W1.heap.size W1 wb ∧ wb.ownsRow 0 5 1 (.slice (some ⟨gb, 0, none⟩) 1 1) 1 ([(112 : UInt8)].map bv) := ⟨hSb, rb⟩
        clear rb hSb hgb
        try simp only [Act.put, List.setIfInBounds_toArray, List.set_cons_zero, List.set_cons_succ]
        refine heldT 3 50 (.string ⟨#[112]⟩) rfl rfl (by kernel_rfl) (by kernel_rfl) (by kernel_rfl) (fun _ _ _ h => h) (by rfl) hS2 (fun W hSW => ?_) ?_
        · have cv := conv_own (P := Tryd.prog) (t := 61) (d := 9) W Tryd.underlying61 Tryd.underlying5 Tryd.underlying9 hSW.2; (try go_simp) <;> (try omega)
        try simp only [Act.put, List.setIfInBounds_toArray, List.set_cons_zero, List.set_cons_succ]
        refine heldT 8 55 (.string ((⟨#[112]⟩ : ByteArray) ++ ⟨fb.toArray⟩)) rfl rfl (by kernel_rfl) (by kernel_rfl) (by kernel_rfl) (fun _ _ _ h => h) (by rfl) hS2 (fun W hSW => ?_) ?_
        · skip; (try go_simp) <;> (try omega)
        try simp only [Act.put, List.setIfInBounds_toArray, List.set_cons_zero, List.set_cons_succ]
        have hS2_1 := hS2.1
        refine heldT 13 60 (.string ((⟨#[112]⟩ : ByteArray) ++ ⟨fb.toArray⟩ ++ ⟨ab.toArray⟩)) rfl rfl (by kernel_rfl) (by kernel_rfl) (by kernel_rfl) (fun _ _ _ h => h) (by rfl) hS2 (fun W hSW => ?_) ?_
        · skip; (try go_simp) <;> (try omega)
        try simp only [Act.put, List.setIfInBounds_toArray, List.set_cons_zero, List.set_cons_succ]
        refine heldT 14 4 (.string ((⟨#[112]⟩ : ByteArray) ++ ⟨fb.toArray⟩ ++ ⟨ab.toArray⟩)) rfl rfl (by kernel_rfl) (by kernel_rfl) (by kernel_rfl) (fun _ _ _ h => h) (by rfl) hS2 (fun W hSW => ?_) ?_
        · skip; (try go_simp) <;> (try omega)
        try simp only [Act.put, List.setIfInBounds_toArray, List.set_cons_zero, List.set_cons_succ]
        refine wpAnyH_done (by kernel_rfl) ?_ _
        go_wp2
        go_ret
        rw [HE.out]
        exact ⟨rfl, B0.out.trans (hS2_1.mono (Nat.le_of_lt Z1.out))⟩
  | lett f a c ihf iha ihc =>
    intro k W v hrow hr hok hle
    obtain ⟨nd, hnd, HK⟩ := hr
    obtain ⟨sa, sn, sc, hlv⟩ := hsl nd (List.mem_of_getElem? hnd)
    have hlt := hklt k nd hnd
    obtain ⟨g, cap, rfl, _, hgl⟩ := hrow.form (by omega)
    have c0 : W.cell? ⟨g, k * 7, none⟩ = some (.int .u8 (nd.kind.toNat : Int)) := node_at hrow hnd 0 (by decide)
    have c1 : W.cell? ⟨g, k * 7 + 1, none⟩ = some (.int .i64 (nd.a : Int)) := node_at hrow hnd 1 (by decide)
    have c2 : W.cell? ⟨g, k * 7 + 2, none⟩ = some (.int .i64 (nd.b : Int)) := node_at hrow hnd 2 (by decide)
    have c3 : W.cell? ⟨g, k * 7 + 3, none⟩ = some (.int .i64 (nd.c : Int)) := node_at hrow hnd 3 (by decide)
    have c4 : W.cell? ⟨g, k * 7 + 4, none⟩ = some (.int .i64 (nd.num : Int)) := node_at hrow hnd 4 (by decide)
    have c5 : W.cell? ⟨g, k * 7 + 5, none⟩ = some (.string ⟨nd.text.toArray⟩) := node_at hrow hnd 5 (by decide)
    have c6 : W.cell? ⟨g, k * 7 + 6, none⟩ = some (.slice sa sn sc) := by rw [← hlv]; exact node_at hrow hnd 6 (by decide)
    have q1 : (0 : Int) ≤ (k : Int) := by omega
    have q2 : (k : Int) < (ns.length : Int) := by omega
    obtain ⟨hkind, hr1, hr2, hr3⟩ := HK
    rw [hkind] at c0
    have b1 := (Below.refl W.heap.size W).alloc (Nat.le_refl _) (.cells #[.int .u8 116, .int .i64 (nd.a : Int), .int .i64 (nd.b : Int), .int .i64 (nd.c : Int), .int .i64 (nd.num : Int), .string ⟨nd.text.toArray⟩, .slice sa sn sc] 37)
    have hblk : (W.alloc (.cells #[.int .u8 116, .int .i64 (nd.a : Int), .int .i64 (nd.b : Int), .int .i64 (nd.c : Int), .int .i64 (nd.num : Int), .string ⟨nd.text.toArray⟩, .slice sa sn sc] 37)).heap[W.heap.size]? = some (.cells #[.int .u8 116, .int .i64 (nd.a : Int), .int .i64 (nd.b : Int), .int .i64 (nd.c : Int), .int .i64 (nd.num : Int), .string ⟨nd.text.toArray⟩, .slice sa sn sc] 37 (0, 0)) := heap_alloc_new W _
    have z1 : W.heap.size < (W.alloc (.cells #[.int .u8 116, .int .i64 (nd.a : Int), .int .i64 (nd.b : Int), .int .i64 (nd.c : Int), .int .i64 (nd.num : Int), .string ⟨nd.text.toArray⟩, .slice sa sn sc] 37)).heap.size := by simp
    have HBC : Hid (∀ W', Below (W.alloc (.cells #[.int .u8 116, .int .i64 (nd.a : Int), .int .i64 (nd.b : Int), .int .i64 (nd.c : Int), .int .i64 (nd.num : Int), .string ⟨nd.text.toArray⟩, .slice sa sn sc] 37)).heap.size (W.alloc (.cells #[.int .u8 116, .int .i64 (nd.a : Int), .int .i64 (nd.b : Int), .int .i64 (nd.c : Int), .int .i64 (nd.num : Int), .string ⟨nd.text.toArray⟩, .slice sa sn sc] 37)) W' → W'.cell? ⟨W.heap.size, 3, none⟩ = some (.int .i64 (nd.c : Int)) ∧ W'.cell? ⟨W.heap.size, 1, none⟩ = some (.int .i64 (nd.a : Int)) ∧ W'.cell? ⟨W.heap.size, 2, none⟩ = some (.int .i64 (nd.b : Int))) := fun W' hb => by
      have h := (hb.block _ z1).trans hblk
      exact ⟨cell_of_row _ _ _ _ _ _ h, cell_of_row _ _ _ _ _ _ h, cell_of_row _ _ _ _ _ _ h⟩
    have HF : Hid (∀ W', Below (W.alloc (.cells #[.int .u8 116, .int .i64 (nd.a : Int), .int .i64 (nd.b : Int), .int .i64 (nd.c : Int), .int .i64 (nd.num : Int), .string ⟨nd.text.toArray⟩, .slice sa sn sc] 37)).heap.size (W.alloc (.cells #[.int .u8 116, .int .i64 (nd.a : Int), .int .i64 (nd.b : Int), .int .i64 (nd.c : Int), .int .i64 (nd.num : Int), .string ⟨nd.text.toArray⟩, .slice sa sn sc] 37)) W' → Calls Tryd.prog 27 #[.slice (some ⟨g, 0, none⟩) ns.length cap, .int .i64 (nd.a : Int)] W' fun e w' => e = .returned (.string ⟨f.bytes.toArray⟩) ∧ Below W'.heap.size W' w') := fun W' hb =>
      ihf nd.a W' _ (own_below (own_below hrow b1) hb) (RepT.keep (fun _ _ _ h => own_below (own_below h b1) hb) (Ext.refl _) f _ hr1) hok.1 (by simp only [Tm.bytes, List.length_cons, List.length_append] at hle; omega)
    have HA : Hid (∀ W', Below (W.alloc (.cells #[.int .u8 116, .int .i64 (nd.a : Int), .int .i64 (nd.b : Int), .int .i64 (nd.c : Int), .int .i64 (nd.num : Int), .string ⟨nd.text.toArray⟩, .slice sa sn sc] 37)).heap.size (W.alloc (.cells #[.int .u8 116, .int .i64 (nd.a : Int), .int .i64 (nd.b : Int), .int .i64 (nd.c : Int), .int .i64 (nd.num : Int), .string ⟨nd.text.toArray⟩, .slice sa sn sc] 37)) W' → Calls Tryd.prog 27 #[.slice (some ⟨g, 0, none⟩) ns.length cap, .int .i64 (nd.b : Int)] W' fun e w' => e = .returned (.string ⟨a.bytes.toArray⟩) ∧ Below W'.heap.size W' w') := fun W' hb =>
      iha nd.b W' _ (own_below (own_below hrow b1) hb) (RepT.keep (fun _ _ _ h => own_below (own_below h b1) hb) (Ext.refl _) a _ hr2) hok.2.1 (by simp only [Tm.bytes, List.length_cons, List.length_append] at hle; omega)
    have HC : Hid (∀ W', Below (W.alloc (.cells #[.int .u8 116, .int .i64 (nd.a : Int), .int .i64 (nd.b : Int), .int .i64 (nd.c : Int), .int .i64 (nd.num : Int), .string ⟨nd.text.toArray⟩, .slice sa sn sc] 37)).heap.size (W.alloc (.cells #[.int .u8 116, .int .i64 (nd.a : Int), .int .i64 (nd.b : Int), .int .i64 (nd.c : Int), .int .i64 (nd.num : Int), .string ⟨nd.text.toArray⟩, .slice sa sn sc] 37)) W' → Calls Tryd.prog 27 #[.slice (some ⟨g, 0, none⟩) ns.length cap, .int .i64 (nd.c : Int)] W' fun e w' => e = .returned (.string ⟨c.bytes.toArray⟩) ∧ Below W'.heap.size W' w') := fun W' hb =>
      ihc nd.c W' _ (own_below (own_below hrow b1) hb) (RepT.keep (fun _ _ _ h => own_below (own_below h b1) hb) (Ext.refl _) c _ hr3) hok.2.2 (by simp only [Tm.bytes, List.length_cons, List.length_append] at hle; omega)
    have HE := Lib.hid (let_textN f.bytes a.bytes c.bytes)
    rw [show (Tm.lett f a c).bytes = 116 :: (f.bytes ++ (a.bytes ++ c.bytes)) from rfl]
    have zf : f.bytes.length ≤ 100000 := by simp only [Tm.bytes, List.length_cons, List.length_append] at hle; omega
    have za : a.bytes.length ≤ 100000 := by simp only [Tm.bytes, List.length_cons, List.length_append] at hle; omega
    have zc : c.bytes.length ≤ 100000 := by simp only [Tm.bytes, List.length_cons, List.length_append] at hle; omega
    have B0 := Lib.hid b1
    have Z1 := Lib.hid z1
    clear hnd hkind hlv hsl hklt hrow hr1 hr2 hr3 ihf iha ihc hok hle b1 hblk z1
    generalize f.bytes = fb at HF HE zf
    generalize a.bytes = ab at HA HE za
    generalize c.bytes = cbt at HC HE zc
    generalize (116 :: (fb ++ (ab ++ cbt))) = tb at HE ⊢
    go_enter Tryd.func27, Tryd.ntmps27
    go_wp2_with fail
    clear c0 c1 c2 c3 c4 c5 c6
    generalize (W.alloc (.cells #[.int .u8 116, .int .i64 (nd.a : Int), .int .i64 (nd.b : Int), .int .i64 (nd.c : Int), .int .i64 (nd.num : Int), .string ⟨nd.text.toArray⟩, .slice sa sn sc] 37)) = W1 at HBC HF HA HC B0 Z1
    have B1 := Below.refl W1.heap.size W1
    refine wp_region_held_drew (S := fun w' => Below W1.heap.size W1 w') (by kernel_rfl) B1.drew (fun hS0 => ?_)
    generalize W1.drew = w1 at hS0 ⊢
    refine heldT 0 32 (.slice (some ⟨g, 0, none⟩) ns.length cap) rfl rfl (by kernel_rfl) (by kernel_rfl) (by kernel_rfl) (fun _ _ _ h => h) (by rfl) hS0 (fun W hSW => ?_) ?_
    · obtain ⟨x0, x1, x2⟩ := HBC.out W hSW; (try go_simp) <;> (try omega)
    try simp only [Act.put, List.setIfInBounds_toArray, List.set_cons_zero, List.set_cons_succ]
    refine heldT 1 33 (.pointer (some ⟨W.heap.size, 1, none⟩)) rfl rfl (by kernel_rfl) (by kernel_rfl) (by kernel_rfl) (fun _ _ _ h => h) (by rfl) hS0 (fun W hSW => ?_) ?_
    · obtain ⟨x0, x1, x2⟩ := HBC.out W hSW; (try go_simp) <;> (try omega)
    try simp only [Act.put, List.setIfInBounds_toArray, List.set_cons_zero, List.set_cons_succ]
    refine heldT 2 34 (.int .i64 (nd.a : Int)) rfl rfl (by kernel_rfl) (by kernel_rfl) (by kernel_rfl) (fun _ _ _ h => h) (by rfl) hS0 (fun W hSW => ?_) ?_
    · obtain ⟨x0, x1, x2⟩ := HBC.out W hSW; (try go_simp) <;> (try omega)
    try simp only [Act.put, List.setIfInBounds_toArray, List.set_cons_zero, List.set_cons_succ]
    refine heldT 5 37 (.slice (some ⟨g, 0, none⟩) ns.length cap) rfl rfl (by kernel_rfl) (by kernel_rfl) (by kernel_rfl) (fun _ _ _ h => h) (by rfl) hS0 (fun W hSW => ?_) ?_
    · obtain ⟨x0, x1, x2⟩ := HBC.out W hSW; (try go_simp) <;> (try omega)
    try simp only [Act.put, List.setIfInBounds_toArray, List.set_cons_zero, List.set_cons_succ]
    refine heldT 6 38 (.pointer (some ⟨W.heap.size, 2, none⟩)) rfl rfl (by kernel_rfl) (by kernel_rfl) (by kernel_rfl) (fun _ _ _ h => h) (by rfl) hS0 (fun W hSW => ?_) ?_
    · obtain ⟨x0, x1, x2⟩ := HBC.out W hSW; (try go_simp) <;> (try omega)
    try simp only [Act.put, List.setIfInBounds_toArray, List.set_cons_zero, List.set_cons_succ]
    refine heldT 7 39 (.int .i64 (nd.b : Int)) rfl rfl (by kernel_rfl) (by kernel_rfl) (by kernel_rfl) (fun _ _ _ h => h) (by rfl) hS0 (fun W hSW => ?_) ?_
    · obtain ⟨x0, x1, x2⟩ := HBC.out W hSW; (try go_simp) <;> (try omega)
    try simp only [Act.put, List.setIfInBounds_toArray, List.set_cons_zero, List.set_cons_succ]
    refine heldT 10 42 (.slice (some ⟨g, 0, none⟩) ns.length cap) rfl rfl (by kernel_rfl) (by kernel_rfl) (by kernel_rfl) (fun _ _ _ h => h) (by rfl) hS0 (fun W hSW => ?_) ?_
    · obtain ⟨x0, x1, x2⟩ := HBC.out W hSW; (try go_simp) <;> (try omega)
    try simp only [Act.put, List.setIfInBounds_toArray, List.set_cons_zero, List.set_cons_succ]
    refine heldT 11 43 (.pointer (some ⟨W.heap.size, 3, none⟩)) rfl rfl (by kernel_rfl) (by kernel_rfl) (by kernel_rfl) (fun _ _ _ h => h) (by rfl) hS0 (fun W hSW => ?_) ?_
    · obtain ⟨x0, x1, x2⟩ := HBC.out W hSW; (try go_simp) <;> (try omega)
    try simp only [Act.put, List.setIfInBounds_toArray, List.set_cons_zero, List.set_cons_succ]
    refine heldT 12 44 (.int .i64 (nd.c : Int)) rfl rfl (by kernel_rfl) (by kernel_rfl) (by kernel_rfl) (fun _ _ _ h => h) (by rfl) hS0 (fun W hSW => ?_) ?_
    · obtain ⟨x0, x1, x2⟩ := HBC.out W hSW; (try go_simp) <;> (try omega)
    try simp only [Act.put, List.setIfInBounds_toArray, List.set_cons_zero, List.set_cons_succ]
    refine wpAnyH_ready (rs := [3]) (by kernel_rfl) (by simp) ((AllReadyH.cons rfl (fun K hK => ?_) AllReadyH.nil))
    rw [if_pos (by rfl)]
    go_simp
    (with_reducible refine (HF.out _ hS0).mono ?_); rintro e w2 ⟨rfl, hb_w2⟩
    refine hK.out _ _ (stepS hS0 hb_w2) (fun hS_w2 => ?_)
    clear hK K hb_w2
    try simp only [Act.put, List.setIfInBounds_toArray, List.set_cons_zero, List.set_cons_succ]
    refine heldT 4 36 (.string ((⟨#[116]⟩ : ByteArray) ++ ⟨fb.toArray⟩)) rfl rfl (by kernel_rfl) (by kernel_rfl) (by kernel_rfl) (fun _ _ _ h => h) (by rfl) hS_w2 (fun W hSW => ?_) ?_
    · skip; (try go_simp) <;> (try omega)
    try simp only [Act.put, List.setIfInBounds_toArray, List.set_cons_zero, List.set_cons_succ]
    refine wpAnyH_ready (rs := [8]) (by kernel_rfl) (by simp) ((AllReadyH.cons rfl (fun K hK => ?_) AllReadyH.nil))
    rw [if_pos (by rfl)]
    go_simp
    (with_reducible refine (HA.out _ hS_w2).mono ?_); rintro e w3 ⟨rfl, hb_w3⟩
    refine hK.out _ _ (stepS hS_w2 hb_w3) (fun hS_w3 => ?_)
    clear hK K hb_w3
    try simp only [Act.put, List.setIfInBounds_toArray, List.set_cons_zero, List.set_cons_succ]
    refine heldT 9 41 (.string ((⟨#[116]⟩ : ByteArray) ++ ⟨fb.toArray⟩ ++ ⟨ab.toArray⟩)) rfl rfl (by kernel_rfl) (by kernel_rfl) (by kernel_rfl) (fun _ _ _ h => h) (by rfl) hS_w3 (fun W hSW => ?_) ?_
    · skip; (try go_simp) <;> (try omega)
    try simp only [Act.put, List.setIfInBounds_toArray, List.set_cons_zero, List.set_cons_succ]
    refine wpAnyH_ready (rs := [13]) (by kernel_rfl) (by simp) ((AllReadyH.cons rfl (fun K hK => ?_) AllReadyH.nil))
    rw [if_pos (by rfl)]
    go_simp
    (with_reducible refine (HC.out _ hS_w3).mono ?_); rintro e w4 ⟨rfl, hb_w4⟩
    refine hK.out _ _ (stepS hS_w3 hb_w4) (fun hS_w4 => ?_)
    clear hK K hb_w4
    try simp only [Act.put, List.setIfInBounds_toArray, List.set_cons_zero, List.set_cons_succ]
    refine heldT 14 46 (.string ((⟨#[116]⟩ : ByteArray) ++ ⟨fb.toArray⟩ ++ ⟨ab.toArray⟩ ++ ⟨cbt.toArray⟩)) rfl rfl (by kernel_rfl) (by kernel_rfl) (by kernel_rfl) (fun _ _ _ h => h) (by rfl) hS_w4 (fun W hSW => ?_) ?_
    · skip; (try go_simp) <;> (try omega)
    try simp only [Act.put, List.setIfInBounds_toArray, List.set_cons_zero, List.set_cons_succ]
    refine heldT 15 4 (.string ((⟨#[116]⟩ : ByteArray) ++ ⟨fb.toArray⟩ ++ ⟨ab.toArray⟩ ++ ⟨cbt.toArray⟩)) rfl rfl (by kernel_rfl) (by kernel_rfl) (by kernel_rfl) (fun _ _ _ h => h) (by rfl) hS_w4 (fun W hSW => ?_) ?_
    · skip; (try go_simp) <;> (try omega)
    try simp only [Act.put, List.setIfInBounds_toArray, List.set_cons_zero, List.set_cons_succ]
    refine wpAnyH_done (by kernel_rfl) ?_ _
    go_wp2
    go_ret
    rw [HE.out]
    exact ⟨rfl, B0.out.trans (hS_w4.mono (Nat.le_of_lt Z1.out))⟩
theorem specL06Text {ns : List Nd} (hn : ns.length ≤ 100000) (hsl : ∀ nd ∈ ns, ∃ a n c, nd.lv = .slice a n c) {b B : Nat} (t : Tm) (k : Nat) (W : World) (v : Value) (hrow : W.ownsRow b 37 7 v ns.length (flatN ns)) (hr : Rep W B ns k t) (hok : t.Ok) (hle : t.bytes.length ≤ 100000) :
    Calls Tryd.prog 27 #[v, .int .i64 (k : Int)] W fun e w' => e = .returned (.string ⟨t.bytes.toArray⟩) ∧ Below W.heap.size W w' :=
  specL06TextT hn hsl t k W v hrow (Rep.toT t k hr) hok hle
end Go.Proofs.YtgmjbdndffdpoaaDoor
