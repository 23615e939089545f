/-
  The contract of spec.ConstIn.
-/
import Derived.Test.YtnklajagefedmaaDoorTParts
namespace Go.Proofs.YtnklajagefedmaaDoor
set_option maxRecDepth 100000
open Go.ChangeShapes Go.WideShapes Go.ChangeAt Go.RowKit
set_option linter.unusedSimpArgs false

/-- What ConstIn answers: the name, the levels, and whether there are any. -/
def CRes (r : Option (List UInt8 × List (List UInt8))) (w : World) (e : Ending) (w' : World) : Prop :=
  ∃ v, e = .returned (.tuple #[.string ⟨((r.map Prod.fst).getD []).toArray⟩, v, .bool r.isSome]) ∧ w'.ownsRow w.heap.size 9 1 v ((r.map Prod.snd).getD []).length (((r.map Prod.snd).getD []).map sv) ∧ Below w.heap.size w w'
theorem constIn_len (l : List UInt8) : (((constIn l).map Prod.snd).getD []).length ≤ 3 := by
  unfold constIn
  cases h : termOf l with
  | none => exact Nat.zero_le _
  | some t =>
    have hok := (termOf_is h).1
    cases t with
    | const n ls => exact hok.2.1
    | _ => exact Nat.zero_le _
theorem Rep.kindOf {W : World} {B : Nat} {ns : List Nd} {k : Nat} {t : Tm} (h : Rep W B ns k t) : ∃ nd, ns[k]? = some nd ∧ nd.kind = t.kind := by
  cases t with
  | var n => obtain ⟨nd, h, h2⟩ := h; exact ⟨nd, h, h2.1⟩
  | sort n => obtain ⟨nd, h, h2⟩ := h; exact ⟨nd, h, h2.1⟩
  | const n ls => obtain ⟨nd, h, h2⟩ := h; exact ⟨nd, h, h2.1⟩
  | app f a => obtain ⟨nd, h, h2⟩ := h; exact ⟨nd, h, h2.1⟩
  | lam f a => obtain ⟨nd, h, h2⟩ := h; exact ⟨nd, h, h2.1⟩
  | pi f a => obtain ⟨nd, h, h2⟩ := h; exact ⟨nd, h, h2.1⟩
  | lett f a b => obtain ⟨nd, h, h2⟩ := h; exact ⟨nd, h, h2.1⟩
theorem one_mapS (l : List (List UInt8)) : ∀ u ∈ l.map sv, u.oneCell' = true := by
  intro u hu
  obtain ⟨x, _, rfl⟩ := List.mem_map.1 hu
  rfl
theorem wp_append_none {P : Program} {w : World} {o : Oper} {a : Act} {K : Act → World → Prop} {Q : Exit → Act → World → Prop} (s x : Operand) (t : TypeId)
    (ho : o.op = .call { callee := .builtin .append, args := #[s, x], argTypes := #[t, t] })
    (base : Nat) (e : TypeId) (i : TypeInfo) (size : Nat) (ht : P.underlying t = some (.slice e)) (hi : P.info? e = some i) (v : Value) (n : Nat) (xs : List Value) (hs : a.eval s = v) (hown : w.ownsRow base e size v n xs)
    (hx : a.eval x = .slice none 0 0) (h : K (a.put o.dst v) w) : o.wp P a w K Q := by
  have hr := run_append_owned_none (P := P) w base t o.type e i size ht hi v n xs hown
  unfold Oper.wp execOp
  simp only [ho, resolve, invoke, builtin, Sem.run_bind, Sem.run_pure, Result.andThen_ok, List.map_toArray, List.map_cons, List.map_nil, hs, hx, hr]
  exact h

set_option maxHeartbeats 4000000 in
theorem specConstIn (s : ByteArray) (w : World) (hs : s.size ≤ maxLen) :
    Calls Tryd.prog 38 #[.string s] w (CRes (constIn s.data.toList) w) := by
  have f1 := Lib.hid (specL06All s w hs)
  go_enter Tryd.func38, Tryd.ntmps38
  go_wp2_with fail
  (with_reducible refine f1.out.mono ?_); rintro e W ⟨v, ns, rfl, hrow, hb, hsl, (⟨t, ht, hn, hr⟩ | ⟨hno, rfl⟩)⟩
  rotate_left
  · obtain ⟨la, lc, rfl⟩ := own_sliceN hrow
    have HE : Hid (constIn s.data.toList = none) := by rw [Hid, constIn, termOf_none hno]
    have HB := Lib.hid hb
    clear hrow hno hb f1 hsl
    go_wp2
    go_ret3
    rw [HE.out]
    exact ⟨_, rfl, World.ownsRow_lit W #[] 0 HB.out.size (by decide) (by simp), HB.out.alloc HB.out.size _⟩
  have hle := ht.2.2
  rw [← ht.2.1] at hle
  have hok := ht.1
  have hsz := t.size_pos
  have hszl := t.size_le
  obtain ⟨k, hk⟩ : ∃ k, ns.length = k + 1 := ⟨ns.length - 1, by omega⟩
  rw [hk, Nat.add_sub_cancel] at hr
  have hk2 : k ≤ 100000 := by omega
  have HB := Lib.hid hb
  have hbz := hb.size
  have hklt : ∀ (k : Nat) nd, ns[k]? = some nd → k < ns.length := fun k nd h => by
    by_cases hl : k < ns.length
    · exact hl
    · rw [List.getElem?_eq_none (by omega)] at h; cases h
  have q1 : (0 : Int) ≤ (k : Int) := by omega
  have q2 : (k : Int) < (k : Int) + 1 := by omega
  have d0 : (((k : Int) + 1) == 0) = false := beq_eq_false_iff_ne.2 (by omega)
  by_cases h99 : t.kind = 99
  rotate_left
  · obtain ⟨nd, hnd, hkind⟩ := hr.kindOf
    have hlt := hklt k nd hnd
    obtain ⟨g, cap, rfl, _, hgl⟩ := hrow.form (by omega)
    have c0 : W.cell? ⟨g, k * 7, none⟩ = some (.int .u8 (nd.kind.toNat : Int)) := node_at hrow hnd 0 (by decide)
    rw [hkind] at c0
    have HE : Hid (constIn s.data.toList = none) := by
      rw [Hid, constIn, termOf_some ht]
      cases t with
      | const n ls => exact absurd rfl h99
      | _ => rfl
    have b0 : ((t.kind.toNat : Int) == 99) = false := ne_byte (d := 99) h99
    generalize t.kind = kd at c0 b0
    rw [hk]
    clear hnd hkind hklt hrow hr hok hle hsz hszl hsl ht hn hb hk h99 f1 hlt
    go_wp2
    go_ret3
    rw [HE.out]
    exact ⟨_, rfl, World.ownsRow_lit W #[] 0 HB.out.size (by decide) (by simp), HB.out.alloc HB.out.size _⟩
  cases t with
  | var n => exact absurd h99 (show ¬ (118 : UInt8) = 99 by decide)
  | sort n => exact absurd h99 (show ¬ (115 : UInt8) = 99 by decide)
  | app f a => exact absurd h99 (show ¬ (64 : UInt8) = 99 by decide)
  | lam f a => exact absurd h99 (show ¬ (108 : UInt8) = 99 by decide)
  | pi f a => exact absurd h99 (show ¬ (112 : UInt8) = 99 by decide)
  | lett f a b => exact absurd h99 (show ¬ (116 : UInt8) = 99 by decide)
  | const n ls =>
    have HE : Hid (constIn s.data.toList = some (n, ls)) := by rw [Hid, constIn, termOf_some ht]
    obtain ⟨nd, hnd, HK⟩ := hr
    obtain ⟨sa, sn, sc, hlv⟩ := hsl nd (List.mem_of_getElem? hnd)
    have hlt := hklt k nd hnd
    obtain ⟨g, cap, rfl, _, hgl⟩ := hrow.form (by omega)
    have c0 : W.cell? ⟨g, k * 7, none⟩ = some (.int .u8 (nd.kind.toNat : Int)) := node_at hrow hnd 0 (by decide)
    have c1 : W.cell? ⟨g, k * 7 + 1, none⟩ = some (.int .i64 (nd.a : Int)) := node_at hrow hnd 1 (by decide)
    have c2 : W.cell? ⟨g, k * 7 + 2, none⟩ = some (.int .i64 (nd.b : Int)) := node_at hrow hnd 2 (by decide)
    have c3 : W.cell? ⟨g, k * 7 + 3, none⟩ = some (.int .i64 (nd.c : Int)) := node_at hrow hnd 3 (by decide)
    have c4 : W.cell? ⟨g, k * 7 + 4, none⟩ = some (.int .i64 (nd.num : Int)) := node_at hrow hnd 4 (by decide)
    have c5 : W.cell? ⟨g, k * 7 + 5, none⟩ = some (.string ⟨nd.text.toArray⟩) := node_at hrow hnd 5 (by decide)
    have c6 : W.cell? ⟨g, k * 7 + 6, none⟩ = some (.slice sa sn sc) := by rw [← hlv]; exact node_at hrow hnd 6 (by decide)
    have hkind : nd.kind = 99 := HK.1
    have htext : nd.text = n := HK.2.1
    have hlvs := HK.2.2
    rw [hlv] at hlvs
    rw [hkind] at c0
    rw [htext] at c5
    have b0 : ((99 : Int) == 99) = true := rfl
    have b1 := (Below.refl W.heap.size W).alloc (Nat.le_refl _) (.cells #[.int .u8 99, .int .i64 (nd.a : Int), .int .i64 (nd.b : Int), .int .i64 (nd.c : Int), .int .i64 (nd.num : Int), .string ⟨n.toArray⟩, .slice sa sn sc] 75)
    have hblk : (W.alloc (.cells #[.int .u8 99, .int .i64 (nd.a : Int), .int .i64 (nd.b : Int), .int .i64 (nd.c : Int), .int .i64 (nd.num : Int), .string ⟨n.toArray⟩, .slice sa sn sc] 75)).heap[W.heap.size]? = some (.cells #[.int .u8 99, .int .i64 (nd.a : Int), .int .i64 (nd.b : Int), .int .i64 (nd.c : Int), .int .i64 (nd.num : Int), .string ⟨n.toArray⟩, .slice sa sn sc] 75 (0, 0)) := heap_alloc_new W _
    have z1 : W.heap.size < (W.alloc (.cells #[.int .u8 99, .int .i64 (nd.a : Int), .int .i64 (nd.b : Int), .int .i64 (nd.c : Int), .int .i64 (nd.num : Int), .string ⟨n.toArray⟩, .slice sa sn sc] 75)).heap.size := by simp
    have HBC : Hid (∀ W', Below (W.alloc (.cells #[.int .u8 99, .int .i64 (nd.a : Int), .int .i64 (nd.b : Int), .int .i64 (nd.c : Int), .int .i64 (nd.num : Int), .string ⟨n.toArray⟩, .slice sa sn sc] 75)).heap.size (W.alloc (.cells #[.int .u8 99, .int .i64 (nd.a : Int), .int .i64 (nd.b : Int), .int .i64 (nd.c : Int), .int .i64 (nd.num : Int), .string ⟨n.toArray⟩, .slice sa sn sc] 75)) W' → W'.cell? ⟨W.heap.size, 5, none⟩ = some (.string ⟨n.toArray⟩) ∧ W'.cell? ⟨W.heap.size, 6, none⟩ = some (.slice sa sn sc)) := fun W' hb => by
      have h := (hb.block _ z1).trans hblk
      exact ⟨cell_of_row _ _ _ _ _ _ h, cell_of_row _ _ _ _ _ _ h⟩
    have HLV : Hid (∀ W', Below (W.alloc (.cells #[.int .u8 99, .int .i64 (nd.a : Int), .int .i64 (nd.b : Int), .int .i64 (nd.c : Int), .int .i64 (nd.num : Int), .string ⟨n.toArray⟩, .slice sa sn sc] 75)).heap.size (W.alloc (.cells #[.int .u8 99, .int .i64 (nd.a : Int), .int .i64 (nd.b : Int), .int .i64 (nd.c : Int), .int .i64 (nd.num : Int), .string ⟨n.toArray⟩, .slice sa sn sc] 75)) W' → W'.ownsRow w.heap.size 9 1 (.slice sa sn sc) ls.length (ls.map sv)) := fun W' hb => own_below (own_below hlvs b1) hb
    have B0 := Lib.hid (HB.out.trans (b1.mono HB.out.size))
    have Z0 := Lib.hid (B0.out.size)
    have hl3 : ls.length ≤ 3 := hok.2.1
    obtain ⟨i0, hi, hz0, hz1, hz2⟩ := info_parts infoStr'
    rw [hk]
    clear hnd hkind htext hlv hsl hklt hrow hok hle b1 hblk z1 hk HB hbz hlvs ht hn hb hsz hszl HK f1 h99
    go_wp2_with fail
    clear c0 c1 c2 c3 c4 c5 c6
    generalize (W.alloc (.cells #[.int .u8 99, .int .i64 (nd.a : Int), .int .i64 (nd.b : Int), .int .i64 (nd.c : Int), .int .i64 (nd.num : Int), .string ⟨n.toArray⟩, .slice sa sn sc] 75)) = W1 at HBC HLV B0 Z0
    have B1 := Below.refl W1.heap.size W1
    refine wp_region_held_drew (S := fun w' => Below W1.heap.size W1 w') (by kernel_rfl) B1.drew (fun hS0 => ?_)
    generalize W1.drew = w1 at hS0 ⊢
    refine heldT 0 29 (.pointer (some ⟨W.heap.size, 5, none⟩)) rfl rfl (by kernel_rfl) (by kernel_rfl) (by kernel_rfl) (fun _ _ _ h => h) (by rfl) hS0 (fun W' hSW => ?_) ?_
    · obtain ⟨x0, x1⟩ := HBC.out W' hSW; (try go_simp) <;> (try omega)
    try simp only [Act.put, List.setIfInBounds_toArray, List.set_cons_zero, List.set_cons_succ]
    refine heldT 1 30 (.string ⟨n.toArray⟩) rfl rfl (by kernel_rfl) (by kernel_rfl) (by kernel_rfl) (fun _ _ _ h => h) (by rfl) hS0 (fun W' hSW => ?_) ?_
    · obtain ⟨x0, x1⟩ := HBC.out W' hSW; (try go_simp) <;> (try omega)
    try simp only [Act.put, List.setIfInBounds_toArray, List.set_cons_zero, List.set_cons_succ]
    refine heldT 3 32 (.pointer (some ⟨W.heap.size, 6, none⟩)) rfl rfl (by kernel_rfl) (by kernel_rfl) (by kernel_rfl) (fun _ _ _ h => h) (by rfl) hS0 (fun W' hSW => ?_) ?_
    · obtain ⟨x0, x1⟩ := HBC.out W' hSW; (try go_simp) <;> (try omega)
    try simp only [Act.put, List.setIfInBounds_toArray, List.set_cons_zero, List.set_cons_succ]
    refine heldT 4 33 (.slice sa sn sc) rfl rfl (by kernel_rfl) (by kernel_rfl) (by kernel_rfl) (fun _ _ _ h => h) (by rfl) hS0 (fun W' hSW => ?_) ?_
    · obtain ⟨x0, x1⟩ := HBC.out W' hSW; (try go_simp) <;> (try omega)
    try simp only [Act.put, List.setIfInBounds_toArray, List.set_cons_zero, List.set_cons_succ]
    refine wpAnyH_ready (rs := [2]) (by kernel_rfl) (by simp) ((AllReadyH.cons rfl (fun K hK => ?_) AllReadyH.nil))
    rw [if_pos (by rfl)]
    go_simp
    refine hK.out _ _ (allocS hS0 _) (fun hSb => ?_)
    clear hK K
    try simp only [Act.put, List.setIfInBounds_toArray, List.set_cons_zero, List.set_cons_succ]
    have r0 := World.ownsRow_lit (base := w.heap.size) (e := 9) (size := 1) w1 #[] 0 (Nat.le_trans Z0.out hS0.size) (by decide) (by simp)
    have hlv := HLV.out _ hSb
    refine wpAnyH_ready (rs := [5]) (by kernel_rfl) (by simp) ((AllReadyH.cons rfl (fun K hK => ?_) AllReadyH.nil))
    rw [if_pos (by rfl)]
    rcases hlv.2 with ⟨hnil, hz⟩ | ⟨gl, capl, cur, hsome, _⟩
    · injection hnil with e1 e2 e3
      subst e1 e2 e3
      obtain rfl : ls = [] := List.length_eq_zero_iff.1 hz
      refine wp_append_none _ _ 27 rfl w.heap.size 9 i0 1 Tryd.underlying27 hi _ 0 [] rfl r0 rfl ?_
      have R0 := Lib.hid r0
      clear r0 hlv HLV
      refine hK.out _ _ hSb (fun hSc => ?_)
      clear hK K
      try dsimp only
      try simp only [Act.put, List.setIfInBounds_toArray, List.set_cons_zero, List.set_cons_succ]
      refine heldT 6 2 (.string ⟨n.toArray⟩) rfl rfl (by kernel_rfl) (by kernel_rfl) (by kernel_rfl) (fun _ _ _ h => h) (by rfl) hSc (fun W' hSW => ?_) ?_
      · skip; (try go_simp) <;> (try omega)
      try simp only [Act.put, List.setIfInBounds_toArray, List.set_cons_zero, List.set_cons_succ]
      refine heldT 7 3 (.slice (some ⟨w1.heap.size, 0, none⟩) 0 0) rfl rfl (by kernel_rfl) (by kernel_rfl) (by kernel_rfl) (fun _ _ _ h => h) (by rfl) hSc (fun W' hSW => ?_) ?_
      · skip; (try go_simp) <;> (try omega)
      try simp only [Act.put, List.setIfInBounds_toArray, List.set_cons_zero, List.set_cons_succ]
      refine heldT 8 4 (.bool true) rfl rfl (by kernel_rfl) (by kernel_rfl) (by kernel_rfl) (fun _ _ _ h => h) (by rfl) hSc (fun W' hSW => ?_) ?_
      · skip; (try go_simp) <;> (try omega)
      try simp only [Act.put, List.setIfInBounds_toArray, List.set_cons_zero, List.set_cons_succ]
      refine wpAnyH_done (by kernel_rfl) ?_ _
      go_wp2
      go_ret3
      rw [HE.out]
      exact ⟨_, rfl, R0.out, B0.out.trans (hSc.mono Z0.out)⟩
    · injection hsome with e1 e2 e3
      subst e1 e2 e3
      refine wp_append_own _ _ _ 27 rfl w.heap.size 9 i0 _ 1 16 Tryd.underlying27 hi hz0 hz1 hz2 rfl (by decide) _ 0 [] rfl r0 ⟨gl, 0, none⟩ ls.length sc (ls.map sv) rfl (by simp) (hlv.cells rfl) (one_mapS ls) (by unfold maxLen; omega) (by omega) (Nat.le_trans Z0.out hSb.size) ?_
      intro u w2 hu hg2 _
      change K (Act.put _ (some 34) u) w2
      have hSd : Below W1.heap.size W1 w2 := hSb.grown hg2 hSb.size (fun k hk => by cases hk; exact hS0.size)
      have R0 : Hid (w2.ownsRow w.heap.size 9 1 u ls.length (ls.map sv)) := by simpa [Hid] using hu
      clear r0 hlv HLV hu hg2
      refine hK.out _ _ hSd (fun hSc => ?_)
      clear hK K
      try dsimp only
      try simp only [Act.put, List.setIfInBounds_toArray, List.set_cons_zero, List.set_cons_succ]
      refine heldT 6 2 (.string ⟨n.toArray⟩) rfl rfl (by kernel_rfl) (by kernel_rfl) (by kernel_rfl) (fun _ _ _ h => h) (by rfl) hSc (fun W' hSW => ?_) ?_
      · skip; (try go_simp) <;> (try omega)
      try simp only [Act.put, List.setIfInBounds_toArray, List.set_cons_zero, List.set_cons_succ]
      refine heldT 7 3 (u) rfl rfl (by kernel_rfl) (by kernel_rfl) (by kernel_rfl) (fun _ _ _ h => h) (by rfl) hSc (fun W' hSW => ?_) ?_
      · skip; (try go_simp) <;> (try omega)
      try simp only [Act.put, List.setIfInBounds_toArray, List.set_cons_zero, List.set_cons_succ]
      refine heldT 8 4 (.bool true) rfl rfl (by kernel_rfl) (by kernel_rfl) (by kernel_rfl) (fun _ _ _ h => h) (by rfl) hSc (fun W' hSW => ?_) ?_
      · skip; (try go_simp) <;> (try omega)
      try simp only [Act.put, List.setIfInBounds_toArray, List.set_cons_zero, List.set_cons_succ]
      refine wpAnyH_done (by kernel_rfl) ?_ _
      go_wp2
      go_ret3
      rw [HE.out]
      exact ⟨_, rfl, R0.out, B0.out.trans (hSc.mono Z0.out)⟩
end Go.Proofs.YtnklajagefedmaaDoor
