/-
  Terms written out: the methods appendTo of terms with parts.
  The contract of impl.textOf at every term, and of impl.VarText.
  The contract of impl.TermParts.
-/
import Derived.Test.YtnklajagefedmaaDoorM4
import Derived.Test.YtnklajagefedmaaDoorTText
import Derived.Test.YtnklajagefedmaaDoorM3
import Derived.Test.YtnklajagefedmaaDoorTParts
namespace Go.Proofs.YtnklajagefedmaaDoor
set_option maxRecDepth 100000
open Go.ChangeShapes Go.WideShapes Go.ChangeAt Go.RowKit
set_option linter.unusedSimpArgs false

theorem cat_two (a b : Tm) : cat [a, b] = a.bytes ++ b.bytes := by simp [cat]
theorem cat_three (a b c : Tm) : cat [a, b, c] = a.bytes ++ (b.bytes ++ c.bytes) := by simp [cat]
theorem two_le (a b : Tm) : [a, b].length ≤ 3 := by simp
theorem three_le (a b c : Tm) : [a, b, c].length ≤ 3 := by simp
theorem KeepT.drew {W w : World} (h : KeepT W w) : KeepT W w.drew := h

set_option maxHeartbeats 2000000 in
theorem appApp {w0 W : World} {g0 : Nat} {t0 t1 : Tm} {T0 T1 : TypeId} {x0 x1 : Value} {u : Value} {l : List UInt8}
    (hg : w0.heap[g0]? = some (.cells #[.iface T0 x0, .iface T1 x1] 93 (0, 0))) (qa0 : AppOk w0 t0 (.iface T0 x0)) (qa1 : AppOk w0 t1 (.iface T1 x1)) (hb : Below w0.heap.size w0 W) (hu : W.ownsRow w0.heap.size 5 1 u l.length (l.map bv)) (hl : l.length + ((cat [t0, t1]).length + 1) ≤ 100000000) :
    Calls Tryd.prog 156 #[.pointer (some ⟨g0, 0, none⟩), u] W (AppAns w0 W (l ++ 64 :: cat [t0, t1])) := by
  obtain ⟨i0, hi, hz0, hz1, hz2⟩ := info_parts infoByteT
  have HL : Hid (l ++ 64 :: cat [t0, t1] = (l ++ [64]) ++ cat [t0, t1]) := by simp [Hid]
  have HA : ∀ k (h : k < [t0, t1].length) (h2 : k < ([.iface T0 x0, .iface T1 x1] : List Value).length), AppOk w0 [t0, t1][k] ([.iface T0 x0, .iface T1 x1] : List Value)[k] := fun k h h2 => by
    match k, h, h2 with
    | 0, _, _ => exact qa0
    | 1, _, _ => exact qa1
    | k + 2, h, _ => exact absurd h (by simp only [List.length_cons, List.length_nil]; omega)
  have f1 := Lib.hid fun (Wc : World) (b : Nat) (s u2 : Value) (hbc : Below w0.heap.size w0 Wc) (hs : Wc.ownsRow b 51 1 s 2 [.iface T0 x0, .iface T1 x1]) (hu2 : Wc.ownsRow w0.heap.size 5 1 u2 (l.length + 1) (l.map bv ++ [.int .u8 64])) =>
    appTerms (w0 := w0) (ts := [t0, t1]) (vs := [.iface T0 x0, .iface T1 x1]) (l := l ++ [64]) rfl (two_le t0 t1) HA hbc hs (by simpa [bv] using hu2) (by simp; omega)
  rw [HL.out]
  generalize (l ++ [64]) ++ cat [t0, t1] = out at f1
  have hB0 := hb
  have hK0 := KeepT.refl W
  have hu0 := hu
  have blk0 := blk_below hg hb
  clear qa0 qa1 hb hu HL HA hg
  go_enter Tryd.func156, Tryd.ntmps156
  go_wp2_with fail
  refine wp_region_held_drew (S := fun w' => KeepT W w') (by kernel_rfl) (KeepT.refl W).drew (fun hS0 => ?_)
  have hB1 : Below w0.heap.size w0 W.drew := hB0.drew
  have hu1 := own_drew hu0 1
  have hu1 : W.drew.ownsRow w0.heap.size 5 1 u l.length (l.map bv) := hu0
  generalize W.drew = w1 at hS0 hB1 hu1 ⊢
  clear hB0 hu0
  refine heldT 0 5 (u) rfl rfl (by kernel_rfl) (by kernel_rfl) (by kernel_rfl) (fun _ _ _ h => h) (by rfl) hS0 (fun wz hSW => ?_) ?_
  · skip; (try go_simp) <;> (try omega)
  try simp only [Act.put, List.setIfInBounds_toArray, List.set_cons_zero, List.set_cons_succ]
  refine heldT 3 8 (.pointer (some ⟨g0, 0, none⟩)) rfl rfl (by kernel_rfl) (by kernel_rfl) (by kernel_rfl) (fun _ _ _ h => h) (by rfl) hS0 (fun wz hSW => ?_) ?_
  · skip; (try go_simp) <;> (try omega)
  try simp only [Act.put, List.setIfInBounds_toArray, List.set_cons_zero, List.set_cons_succ]
  refine heldT 4 9 (.pointer (some ⟨g0, 0, none⟩)) rfl rfl (by kernel_rfl) (by kernel_rfl) (by kernel_rfl) (fun _ _ _ h => h) (by rfl) hS0 (fun wz hSW => ?_) ?_
  · skip; (try go_simp) <;> (try omega)
  try simp only [Act.put, List.setIfInBounds_toArray, List.set_cons_zero, List.set_cons_succ]
  refine heldT 5 10 (.pointer (some ⟨g0, 0, none⟩)) rfl rfl (by kernel_rfl) (by kernel_rfl) (by kernel_rfl) (fun _ _ _ h => h) (by rfl) hS0 (fun wz hSW => ?_) ?_
  · skip; (try go_simp) <;> (try omega)
  try simp only [Act.put, List.setIfInBounds_toArray, List.set_cons_zero, List.set_cons_succ]
  refine heldT 6 11 (.iface T0 x0) rfl rfl (by kernel_rfl) (by kernel_rfl) (by kernel_rfl) (fun _ _ _ h => h) (by rfl) hS0 (fun wz hSW => ?_) ?_
  · have y0 : wz.cell? ⟨g0, 0, none⟩ = some (.iface T0 x0) := (by rw [Lib.cell_of_heap (hSW _ _ _ _ (by decide) blk0)]; rfl); (try go_simp) <;> (try omega)
  try simp only [Act.put, List.setIfInBounds_toArray, List.set_cons_zero, List.set_cons_succ]
  refine heldT 7 12 (.pointer (some ⟨g0, 0, none⟩)) rfl rfl (by kernel_rfl) (by kernel_rfl) (by kernel_rfl) (fun _ _ _ h => h) (by rfl) hS0 (fun wz hSW => ?_) ?_
  · skip; (try go_simp) <;> (try omega)
  try simp only [Act.put, List.setIfInBounds_toArray, List.set_cons_zero, List.set_cons_succ]
  refine heldT 8 13 (.pointer (some ⟨g0, 0, none⟩)) rfl rfl (by kernel_rfl) (by kernel_rfl) (by kernel_rfl) (fun _ _ _ h => h) (by rfl) hS0 (fun wz hSW => ?_) ?_
  · skip; (try go_simp) <;> (try omega)
  try simp only [Act.put, List.setIfInBounds_toArray, List.set_cons_zero, List.set_cons_succ]
  refine heldT 9 14 (.pointer (some ⟨g0, 1, none⟩)) rfl rfl (by kernel_rfl) (by kernel_rfl) (by kernel_rfl) (fun _ _ _ h => h) (by rfl) hS0 (fun wz hSW => ?_) ?_
  · skip; (try go_simp) <;> (try omega)
  try simp only [Act.put, List.setIfInBounds_toArray, List.set_cons_zero, List.set_cons_succ]
  refine heldT 10 15 (.iface T1 x1) rfl rfl (by kernel_rfl) (by kernel_rfl) (by kernel_rfl) (fun _ _ _ h => h) (by rfl) hS0 (fun wz hSW => ?_) ?_
  · have y1 : wz.cell? ⟨g0, 1, none⟩ = some (.iface T1 x1) := (by rw [Lib.cell_of_heap (hSW _ _ _ _ (by decide) blk0)]; rfl); (try go_simp) <;> (try omega)
  try simp only [Act.put, List.setIfInBounds_toArray, List.set_cons_zero, List.set_cons_succ]
  refine wpAnyH_ready (rs := [1, 11]) (by kernel_rfl) (by simp) (AllReadyH.cons rfl (fun K hK => ?_) (AllReadyH.cons rfl (fun K hK => ?_) AllReadyH.nil))
  · rw [if_pos (by rfl)]
    go_simp
    refine hK.out _ _ (hS0.alloc _) (fun hSwy1 => ?_)
    clear hK K
    have hBwy1 := hB1.alloc hB1.size (.cells #[.int .u8 64] 5)
    have huwy1 := hu1.alloc (.cells #[.int .u8 64] 5)
    have rb := World.ownsRow_lit (base := 0) (e := 5) (size := 1) w1 #[.int .u8 64] 1 (Nat.zero_le _) (by decide) (by simp)
    obtain ⟨gb, hgb⟩ : ∃ gb, w1.heap.size = gb := ⟨_, rfl⟩
    rw [hgb] at rb ⊢
    generalize w1.alloc (.cells #[.int .u8 64] 5) = wy1 at rb hSwy1 hBwy1 huwy1 ⊢
    try simp only [Act.put, List.setIfInBounds_toArray, List.set_cons_zero, List.set_cons_succ]
    refine wpAnyH_ready (rs := [2, 11]) (by kernel_rfl) (by simp) (AllReadyH.cons rfl (fun K hK => ?_) (AllReadyH.cons rfl (fun K hK => ?_) AllReadyH.nil))
    · rw [if_pos (by rfl)]
      refine wp_append_own _ _ _ 22 rfl w0.heap.size 5 i0 _ 1 1 Tryd.underlying22 hi hz0 hz1 hz2 rfl (by decide) u l.length (l.map bv) rfl huwy1 ⟨gb, 0, none⟩ 1 1 [.int .u8 64] rfl rfl (rb.cells rfl) (by simp [Value.oneCell']) (by unfold maxLen; omega) (by omega) hBwy1.size ?_
      intro u2 wy2 hnwy2 hgwy2 _
      change K (Act.put _ (some 7) u2) wy2
      have hBwy2 := below_row hBwy1 huwy1 hgwy2
      have hKwy2 := keep_row hSwy1 huwy1 hgwy2
      refine hK.out _ _ hKwy2 (fun _ => ?_)
      clear hK K hgwy2
      try dsimp only
      try simp only [Act.put, List.setIfInBounds_toArray, List.set_cons_zero, List.set_cons_succ]
      refine wpAnyH_ready (rs := [11]) (by kernel_rfl) (by simp) (AllReadyH.cons rfl (fun K hK => ?_) AllReadyH.nil)
      rw [if_pos (by rfl)]
      go_simp
      refine hK.out _ _ (hKwy2.alloc _) (fun hSwy3 => ?_)
      clear hK K
      have hBwy3 := hBwy2.alloc hBwy2.size (.cells #[.iface T0 x0, .iface T1 x1] 51)
      have hswy3 := World.ownsRow_lit (base := 0) (e := 51) (size := 1) wy2 #[.iface T0 x0, .iface T1 x1] 2 (Nat.zero_le _) (by decide) (by simp)
      have hnwy3 := hnwy2.alloc (.cells #[.iface T0 x0, .iface T1 x1] 51)
      obtain ⟨gt, hgt⟩ : ∃ gt, wy2.heap.size = gt := ⟨_, rfl⟩
      rw [hgt] at hswy3 ⊢
      generalize wy2.alloc (.cells #[.iface T0 x0, .iface T1 x1] 51) = wy3 at hswy3 hSwy3 hBwy3 hnwy3 ⊢
      try simp only [Act.put, List.setIfInBounds_toArray, List.set_cons_zero, List.set_cons_succ]
      refine wpAnyH_ready (rs := [12]) (by kernel_rfl) (by simp) (AllReadyH.cons rfl (fun K hK => ?_) AllReadyH.nil)
      rw [if_pos (by rfl)]
      go_simp
      (with_reducible refine (f1.out _ _ _ _ hBwy3 hswy3 hnwy3).mono ?_); rintro e w3 ⟨u3, rfl, hu3, hb3, hk3⟩
      refine hK.out _ _ (hSwy3.trans hk3) (fun hS3 => ?_)
      have hKK := (hSwy3).trans hk3
      clear hK K
      try simp only [Act.put, List.setIfInBounds_toArray, List.set_cons_zero, List.set_cons_succ]
      refine heldT 13 4 (u3) rfl rfl (by kernel_rfl) (by kernel_rfl) (by kernel_rfl) (fun _ _ _ h => h) (by rfl) hS3 (fun wz hSW => ?_) ?_
      · skip; (try go_simp) <;> (try omega)
      try simp only [Act.put, List.setIfInBounds_toArray, List.set_cons_zero, List.set_cons_succ]
      refine wpAnyH_done (by kernel_rfl) ?_ _
      go_wp2
      go_ret
      exact ⟨_, rfl, hu3, hb3, hK0.trans hKK⟩
    · rw [if_pos (by rfl)]
      go_simp
      refine hK.out _ _ (hSwy1.alloc _) (fun hSwy4 => ?_)
      clear hK K
      have hBwy4 := hBwy1.alloc hBwy1.size (.cells #[.iface T0 x0, .iface T1 x1] 51)
      have hswy4 := World.ownsRow_lit (base := 0) (e := 51) (size := 1) wy1 #[.iface T0 x0, .iface T1 x1] 2 (Nat.zero_le _) (by decide) (by simp)
      have huwy4 := huwy1.alloc (.cells #[.iface T0 x0, .iface T1 x1] 51)
      have rbwy4 := rb.alloc (.cells #[.iface T0 x0, .iface T1 x1] 51)
      obtain ⟨gt, hgt⟩ : ∃ gt, wy1.heap.size = gt := ⟨_, rfl⟩
      rw [hgt] at hswy4 ⊢
      generalize wy1.alloc (.cells #[.iface T0 x0, .iface T1 x1] 51) = wy4 at hswy4 hSwy4 hBwy4 huwy4 rbwy4 ⊢
      try simp only [Act.put, List.setIfInBounds_toArray, List.set_cons_zero, List.set_cons_succ]
      refine wpAnyH_ready (rs := [2]) (by kernel_rfl) (by simp) (AllReadyH.cons rfl (fun K hK => ?_) AllReadyH.nil)
      rw [if_pos (by rfl)]
      refine wp_append_own _ _ _ 22 rfl w0.heap.size 5 i0 _ 1 1 Tryd.underlying22 hi hz0 hz1 hz2 rfl (by decide) u l.length (l.map bv) rfl huwy4 ⟨gb, 0, none⟩ 1 1 [.int .u8 64] rfl rfl (rbwy4.cells rfl) (by simp [Value.oneCell']) (by unfold maxLen; omega) (by omega) hBwy4.size ?_
      intro u2 wy5 hnwy5 hgwy5 _
      change K (Act.put _ (some 7) u2) wy5
      have hBwy5 := below_row hBwy4 huwy4 hgwy5
      have hKwy5 := keep_row hSwy4 huwy4 hgwy5
      have hswy5 := (keep_row (KeepT.refl _) huwy4 hgwy5).row hswy4 (by decide)
      refine hK.out _ _ hKwy5 (fun _ => ?_)
      clear hK K hgwy5
      try dsimp only
      try simp only [Act.put, List.setIfInBounds_toArray, List.set_cons_zero, List.set_cons_succ]
      refine wpAnyH_ready (rs := [12]) (by kernel_rfl) (by simp) (AllReadyH.cons rfl (fun K hK => ?_) AllReadyH.nil)
      rw [if_pos (by rfl)]
      go_simp
      (with_reducible refine (f1.out _ _ _ _ hBwy5 hswy5 hnwy5).mono ?_); rintro e w3 ⟨u3, rfl, hu3, hb3, hk3⟩
      refine hK.out _ _ (hKwy5.trans hk3) (fun hS3 => ?_)
      have hKK := (hKwy5).trans hk3
      clear hK K
      try simp only [Act.put, List.setIfInBounds_toArray, List.set_cons_zero, List.set_cons_succ]
      refine heldT 13 4 (u3) rfl rfl (by kernel_rfl) (by kernel_rfl) (by kernel_rfl) (fun _ _ _ h => h) (by rfl) hS3 (fun wz hSW => ?_) ?_
      · skip; (try go_simp) <;> (try omega)
      try simp only [Act.put, List.setIfInBounds_toArray, List.set_cons_zero, List.set_cons_succ]
      refine wpAnyH_done (by kernel_rfl) ?_ _
      go_wp2
      go_ret
      exact ⟨_, rfl, hu3, hb3, hK0.trans hKK⟩
  · rw [if_pos (by rfl)]
    go_simp
    refine hK.out _ _ (hS0.alloc _) (fun hSwy6 => ?_)
    clear hK K
    have hBwy6 := hB1.alloc hB1.size (.cells #[.iface T0 x0, .iface T1 x1] 51)
    have hswy6 := World.ownsRow_lit (base := 0) (e := 51) (size := 1) w1 #[.iface T0 x0, .iface T1 x1] 2 (Nat.zero_le _) (by decide) (by simp)
    have huwy6 := hu1.alloc (.cells #[.iface T0 x0, .iface T1 x1] 51)
    obtain ⟨gt, hgt⟩ : ∃ gt, w1.heap.size = gt := ⟨_, rfl⟩
    rw [hgt] at hswy6 ⊢
    generalize w1.alloc (.cells #[.iface T0 x0, .iface T1 x1] 51) = wy6 at hswy6 hSwy6 hBwy6 huwy6 ⊢
    try simp only [Act.put, List.setIfInBounds_toArray, List.set_cons_zero, List.set_cons_succ]
    refine wpAnyH_ready (rs := [1]) (by kernel_rfl) (by simp) (AllReadyH.cons rfl (fun K hK => ?_) AllReadyH.nil)
    rw [if_pos (by rfl)]
    go_simp
    refine hK.out _ _ (hSwy6.alloc _) (fun hSwy7 => ?_)
    clear hK K
    have hBwy7 := hBwy6.alloc hBwy6.size (.cells #[.int .u8 64] 5)
    have huwy7 := huwy6.alloc (.cells #[.int .u8 64] 5)
    have rb := World.ownsRow_lit (base := 0) (e := 5) (size := 1) wy6 #[.int .u8 64] 1 (Nat.zero_le _) (by decide) (by simp)
    have hswy7 := hswy6.alloc (.cells #[.int .u8 64] 5)
    obtain ⟨gb, hgb⟩ : ∃ gb, wy6.heap.size = gb := ⟨_, rfl⟩
    rw [hgb] at rb ⊢
    generalize wy6.alloc (.cells #[.int .u8 64] 5) = wy7 at rb hSwy7 hBwy7 huwy7 hswy7 ⊢
    try simp only [Act.put, List.setIfInBounds_toArray, List.set_cons_zero, List.set_cons_succ]
    refine wpAnyH_ready (rs := [2]) (by kernel_rfl) (by simp) (AllReadyH.cons rfl (fun K hK => ?_) AllReadyH.nil)
    rw [if_pos (by rfl)]
    refine wp_append_own _ _ _ 22 rfl w0.heap.size 5 i0 _ 1 1 Tryd.underlying22 hi hz0 hz1 hz2 rfl (by decide) u l.length (l.map bv) rfl huwy7 ⟨gb, 0, none⟩ 1 1 [.int .u8 64] rfl rfl (rb.cells rfl) (by simp [Value.oneCell']) (by unfold maxLen; omega) (by omega) hBwy7.size ?_
    intro u2 wy8 hnwy8 hgwy8 _
    change K (Act.put _ (some 7) u2) wy8
    have hBwy8 := below_row hBwy7 huwy7 hgwy8
    have hKwy8 := keep_row hSwy7 huwy7 hgwy8
    have hswy8 := (keep_row (KeepT.refl _) huwy7 hgwy8).row hswy7 (by decide)
    refine hK.out _ _ hKwy8 (fun _ => ?_)
    clear hK K hgwy8
    try dsimp only
    try simp only [Act.put, List.setIfInBounds_toArray, List.set_cons_zero, List.set_cons_succ]
    refine wpAnyH_ready (rs := [12]) (by kernel_rfl) (by simp) (AllReadyH.cons rfl (fun K hK => ?_) AllReadyH.nil)
    rw [if_pos (by rfl)]
    go_simp
    (with_reducible refine (f1.out _ _ _ _ hBwy8 hswy8 hnwy8).mono ?_); rintro e w3 ⟨u3, rfl, hu3, hb3, hk3⟩
    refine hK.out _ _ (hKwy8.trans hk3) (fun hS3 => ?_)
    have hKK := (hKwy8).trans hk3
    clear hK K
    try simp only [Act.put, List.setIfInBounds_toArray, List.set_cons_zero, List.set_cons_succ]
    refine heldT 13 4 (u3) rfl rfl (by kernel_rfl) (by kernel_rfl) (by kernel_rfl) (fun _ _ _ h => h) (by rfl) hS3 (fun wz hSW => ?_) ?_
    · skip; (try go_simp) <;> (try omega)
    try simp only [Act.put, List.setIfInBounds_toArray, List.set_cons_zero, List.set_cons_succ]
    refine wpAnyH_done (by kernel_rfl) ?_ _
    go_wp2
    go_ret
    exact ⟨_, rfl, hu3, hb3, hK0.trans hKK⟩

set_option maxHeartbeats 2000000 in
theorem appLam {w0 W : World} {g0 : Nat} {t0 t1 : Tm} {T0 T1 : TypeId} {x0 x1 : Value} {u : Value} {l : List UInt8}
    (hg : w0.heap[g0]? = some (.cells #[.iface T0 x0, .iface T1 x1] 96 (0, 0))) (qa0 : AppOk w0 t0 (.iface T0 x0)) (qa1 : AppOk w0 t1 (.iface T1 x1)) (hb : Below w0.heap.size w0 W) (hu : W.ownsRow w0.heap.size 5 1 u l.length (l.map bv)) (hl : l.length + ((cat [t0, t1]).length + 1) ≤ 100000000) :
    Calls Tryd.prog 159 #[.pointer (some ⟨g0, 0, none⟩), u] W (AppAns w0 W (l ++ 108 :: cat [t0, t1])) := by
  obtain ⟨i0, hi, hz0, hz1, hz2⟩ := info_parts infoByteT
  have HL : Hid (l ++ 108 :: cat [t0, t1] = (l ++ [108]) ++ cat [t0, t1]) := by simp [Hid]
  have HA : ∀ k (h : k < [t0, t1].length) (h2 : k < ([.iface T0 x0, .iface T1 x1] : List Value).length), AppOk w0 [t0, t1][k] ([.iface T0 x0, .iface T1 x1] : List Value)[k] := fun k h h2 => by
    match k, h, h2 with
    | 0, _, _ => exact qa0
    | 1, _, _ => exact qa1
    | k + 2, h, _ => exact absurd h (by simp only [List.length_cons, List.length_nil]; omega)
  have f1 := Lib.hid fun (Wc : World) (b : Nat) (s u2 : Value) (hbc : Below w0.heap.size w0 Wc) (hs : Wc.ownsRow b 51 1 s 2 [.iface T0 x0, .iface T1 x1]) (hu2 : Wc.ownsRow w0.heap.size 5 1 u2 (l.length + 1) (l.map bv ++ [.int .u8 108])) =>
    appTerms (w0 := w0) (ts := [t0, t1]) (vs := [.iface T0 x0, .iface T1 x1]) (l := l ++ [108]) rfl (two_le t0 t1) HA hbc hs (by simpa [bv] using hu2) (by simp; omega)
  rw [HL.out]
  generalize (l ++ [108]) ++ cat [t0, t1] = out at f1
  have hB0 := hb
  have hK0 := KeepT.refl W
  have hu0 := hu
  have blk0 := blk_below hg hb
  clear qa0 qa1 hb hu HL HA hg
  go_enter Tryd.func159, Tryd.ntmps159
  go_wp2_with fail
  refine wp_region_held_drew (S := fun w' => KeepT W w') (by kernel_rfl) (KeepT.refl W).drew (fun hS0 => ?_)
  have hB1 : Below w0.heap.size w0 W.drew := hB0.drew
  have hu1 := own_drew hu0 1
  have hu1 : W.drew.ownsRow w0.heap.size 5 1 u l.length (l.map bv) := hu0
  generalize W.drew = w1 at hS0 hB1 hu1 ⊢
  clear hB0 hu0
  refine heldT 0 5 (u) rfl rfl (by kernel_rfl) (by kernel_rfl) (by kernel_rfl) (fun _ _ _ h => h) (by rfl) hS0 (fun wz hSW => ?_) ?_
  · skip; (try go_simp) <;> (try omega)
  try simp only [Act.put, List.setIfInBounds_toArray, List.set_cons_zero, List.set_cons_succ]
  refine heldT 3 8 (.pointer (some ⟨g0, 0, none⟩)) rfl rfl (by kernel_rfl) (by kernel_rfl) (by kernel_rfl) (fun _ _ _ h => h) (by rfl) hS0 (fun wz hSW => ?_) ?_
  · skip; (try go_simp) <;> (try omega)
  try simp only [Act.put, List.setIfInBounds_toArray, List.set_cons_zero, List.set_cons_succ]
  refine heldT 4 9 (.pointer (some ⟨g0, 0, none⟩)) rfl rfl (by kernel_rfl) (by kernel_rfl) (by kernel_rfl) (fun _ _ _ h => h) (by rfl) hS0 (fun wz hSW => ?_) ?_
  · skip; (try go_simp) <;> (try omega)
  try simp only [Act.put, List.setIfInBounds_toArray, List.set_cons_zero, List.set_cons_succ]
  refine heldT 5 10 (.pointer (some ⟨g0, 0, none⟩)) rfl rfl (by kernel_rfl) (by kernel_rfl) (by kernel_rfl) (fun _ _ _ h => h) (by rfl) hS0 (fun wz hSW => ?_) ?_
  · skip; (try go_simp) <;> (try omega)
  try simp only [Act.put, List.setIfInBounds_toArray, List.set_cons_zero, List.set_cons_succ]
  refine heldT 6 11 (.iface T0 x0) rfl rfl (by kernel_rfl) (by kernel_rfl) (by kernel_rfl) (fun _ _ _ h => h) (by rfl) hS0 (fun wz hSW => ?_) ?_
  · have y0 : wz.cell? ⟨g0, 0, none⟩ = some (.iface T0 x0) := (by rw [Lib.cell_of_heap (hSW _ _ _ _ (by decide) blk0)]; rfl); (try go_simp) <;> (try omega)
  try simp only [Act.put, List.setIfInBounds_toArray, List.set_cons_zero, List.set_cons_succ]
  refine heldT 7 12 (.pointer (some ⟨g0, 0, none⟩)) rfl rfl (by kernel_rfl) (by kernel_rfl) (by kernel_rfl) (fun _ _ _ h => h) (by rfl) hS0 (fun wz hSW => ?_) ?_
  · skip; (try go_simp) <;> (try omega)
  try simp only [Act.put, List.setIfInBounds_toArray, List.set_cons_zero, List.set_cons_succ]
  refine heldT 8 13 (.pointer (some ⟨g0, 0, none⟩)) rfl rfl (by kernel_rfl) (by kernel_rfl) (by kernel_rfl) (fun _ _ _ h => h) (by rfl) hS0 (fun wz hSW => ?_) ?_
  · skip; (try go_simp) <;> (try omega)
  try simp only [Act.put, List.setIfInBounds_toArray, List.set_cons_zero, List.set_cons_succ]
  refine heldT 9 14 (.pointer (some ⟨g0, 1, none⟩)) rfl rfl (by kernel_rfl) (by kernel_rfl) (by kernel_rfl) (fun _ _ _ h => h) (by rfl) hS0 (fun wz hSW => ?_) ?_
  · skip; (try go_simp) <;> (try omega)
  try simp only [Act.put, List.setIfInBounds_toArray, List.set_cons_zero, List.set_cons_succ]
  refine heldT 10 15 (.iface T1 x1) rfl rfl (by kernel_rfl) (by kernel_rfl) (by kernel_rfl) (fun _ _ _ h => h) (by rfl) hS0 (fun wz hSW => ?_) ?_
  · have y1 : wz.cell? ⟨g0, 1, none⟩ = some (.iface T1 x1) := (by rw [Lib.cell_of_heap (hSW _ _ _ _ (by decide) blk0)]; rfl); (try go_simp) <;> (try omega)
  try simp only [Act.put, List.setIfInBounds_toArray, List.set_cons_zero, List.set_cons_succ]
  refine wpAnyH_ready (rs := [1, 11]) (by kernel_rfl) (by simp) (AllReadyH.cons rfl (fun K hK => ?_) (AllReadyH.cons rfl (fun K hK => ?_) AllReadyH.nil))
  · rw [if_pos (by rfl)]
    go_simp
    refine hK.out _ _ (hS0.alloc _) (fun hSwy1 => ?_)
    clear hK K
    have hBwy1 := hB1.alloc hB1.size (.cells #[.int .u8 108] 5)
    have huwy1 := hu1.alloc (.cells #[.int .u8 108] 5)
    have rb := World.ownsRow_lit (base := 0) (e := 5) (size := 1) w1 #[.int .u8 108] 1 (Nat.zero_le _) (by decide) (by simp)
    obtain ⟨gb, hgb⟩ : ∃ gb, w1.heap.size = gb := ⟨_, rfl⟩
    rw [hgb] at rb ⊢
    generalize w1.alloc (.cells #[.int .u8 108] 5) = wy1 at rb hSwy1 hBwy1 huwy1 ⊢
    try simp only [Act.put, List.setIfInBounds_toArray, List.set_cons_zero, List.set_cons_succ]
    refine wpAnyH_ready (rs := [2, 11]) (by kernel_rfl) (by simp) (AllReadyH.cons rfl (fun K hK => ?_) (AllReadyH.cons rfl (fun K hK => ?_) AllReadyH.nil))
    · rw [if_pos (by rfl)]
      refine wp_append_own _ _ _ 22 rfl w0.heap.size 5 i0 _ 1 1 Tryd.underlying22 hi hz0 hz1 hz2 rfl (by decide) u l.length (l.map bv) rfl huwy1 ⟨gb, 0, none⟩ 1 1 [.int .u8 108] rfl rfl (rb.cells rfl) (by simp [Value.oneCell']) (by unfold maxLen; omega) (by omega) hBwy1.size ?_
      intro u2 wy2 hnwy2 hgwy2 _
      change K (Act.put _ (some 7) u2) wy2
      have hBwy2 := below_row hBwy1 huwy1 hgwy2
      have hKwy2 := keep_row hSwy1 huwy1 hgwy2
      refine hK.out _ _ hKwy2 (fun _ => ?_)
      clear hK K hgwy2
      try dsimp only
      try simp only [Act.put, List.setIfInBounds_toArray, List.set_cons_zero, List.set_cons_succ]
      refine wpAnyH_ready (rs := [11]) (by kernel_rfl) (by simp) (AllReadyH.cons rfl (fun K hK => ?_) AllReadyH.nil)
      rw [if_pos (by rfl)]
      go_simp
      refine hK.out _ _ (hKwy2.alloc _) (fun hSwy3 => ?_)
      clear hK K
      have hBwy3 := hBwy2.alloc hBwy2.size (.cells #[.iface T0 x0, .iface T1 x1] 51)
      have hswy3 := World.ownsRow_lit (base := 0) (e := 51) (size := 1) wy2 #[.iface T0 x0, .iface T1 x1] 2 (Nat.zero_le _) (by decide) (by simp)
      have hnwy3 := hnwy2.alloc (.cells #[.iface T0 x0, .iface T1 x1] 51)
      obtain ⟨gt, hgt⟩ : ∃ gt, wy2.heap.size = gt := ⟨_, rfl⟩
      rw [hgt] at hswy3 ⊢
      generalize wy2.alloc (.cells #[.iface T0 x0, .iface T1 x1] 51) = wy3 at hswy3 hSwy3 hBwy3 hnwy3 ⊢
      try simp only [Act.put, List.setIfInBounds_toArray, List.set_cons_zero, List.set_cons_succ]
      refine wpAnyH_ready (rs := [12]) (by kernel_rfl) (by simp) (AllReadyH.cons rfl (fun K hK => ?_) AllReadyH.nil)
      rw [if_pos (by rfl)]
      go_simp
      (with_reducible refine (f1.out _ _ _ _ hBwy3 hswy3 hnwy3).mono ?_); rintro e w3 ⟨u3, rfl, hu3, hb3, hk3⟩
      refine hK.out _ _ (hSwy3.trans hk3) (fun hS3 => ?_)
      have hKK := (hSwy3).trans hk3
      clear hK K
      try simp only [Act.put, List.setIfInBounds_toArray, List.set_cons_zero, List.set_cons_succ]
      refine heldT 13 4 (u3) rfl rfl (by kernel_rfl) (by kernel_rfl) (by kernel_rfl) (fun _ _ _ h => h) (by rfl) hS3 (fun wz hSW => ?_) ?_
      · skip; (try go_simp) <;> (try omega)
      try simp only [Act.put, List.setIfInBounds_toArray, List.set_cons_zero, List.set_cons_succ]
      refine wpAnyH_done (by kernel_rfl) ?_ _
      go_wp2
      go_ret
      exact ⟨_, rfl, hu3, hb3, hK0.trans hKK⟩
    · rw [if_pos (by rfl)]
      go_simp
      refine hK.out _ _ (hSwy1.alloc _) (fun hSwy4 => ?_)
      clear hK K
      have hBwy4 := hBwy1.alloc hBwy1.size (.cells #[.iface T0 x0, .iface T1 x1] 51)
      have hswy4 := World.ownsRow_lit (base := 0) (e := 51) (size := 1) wy1 #[.iface T0 x0, .iface T1 x1] 2 (Nat.zero_le _) (by decide) (by simp)
      have huwy4 := huwy1.alloc (.cells #[.iface T0 x0, .iface T1 x1] 51)
      have rbwy4 := rb.alloc (.cells #[.iface T0 x0, .iface T1 x1] 51)
      obtain ⟨gt, hgt⟩ : ∃ gt, wy1.heap.size = gt := ⟨_, rfl⟩
      rw [hgt] at hswy4 ⊢
      generalize wy1.alloc (.cells #[.iface T0 x0, .iface T1 x1] 51) = wy4 at hswy4 hSwy4 hBwy4 huwy4 rbwy4 ⊢
      try simp only [Act.put, List.setIfInBounds_toArray, List.set_cons_zero, List.set_cons_succ]
      refine wpAnyH_ready (rs := [2]) (by kernel_rfl) (by simp) (AllReadyH.cons rfl (fun K hK => ?_) AllReadyH.nil)
      rw [if_pos (by rfl)]
      refine wp_append_own _ _ _ 22 rfl w0.heap.size 5 i0 _ 1 1 Tryd.underlying22 hi hz0 hz1 hz2 rfl (by decide) u l.length (l.map bv) rfl huwy4 ⟨gb, 0, none⟩ 1 1 [.int .u8 108] rfl rfl (rbwy4.cells rfl) (by simp [Value.oneCell']) (by unfold maxLen; omega) (by omega) hBwy4.size ?_
      intro u2 wy5 hnwy5 hgwy5 _
      change K (Act.put _ (some 7) u2) wy5
      have hBwy5 := below_row hBwy4 huwy4 hgwy5
      have hKwy5 := keep_row hSwy4 huwy4 hgwy5
      have hswy5 := (keep_row (KeepT.refl _) huwy4 hgwy5).row hswy4 (by decide)
      refine hK.out _ _ hKwy5 (fun _ => ?_)
      clear hK K hgwy5
      try dsimp only
      try simp only [Act.put, List.setIfInBounds_toArray, List.set_cons_zero, List.set_cons_succ]
      refine wpAnyH_ready (rs := [12]) (by kernel_rfl) (by simp) (AllReadyH.cons rfl (fun K hK => ?_) AllReadyH.nil)
      rw [if_pos (by rfl)]
      go_simp
      (with_reducible refine (f1.out _ _ _ _ hBwy5 hswy5 hnwy5).mono ?_); rintro e w3 ⟨u3, rfl, hu3, hb3, hk3⟩
      refine hK.out _ _ (hKwy5.trans hk3) (fun hS3 => ?_)
      have hKK := (hKwy5).trans hk3
      clear hK K
      try simp only [Act.put, List.setIfInBounds_toArray, List.set_cons_zero, List.set_cons_succ]
      refine heldT 13 4 (u3) rfl rfl (by kernel_rfl) (by kernel_rfl) (by kernel_rfl) (fun _ _ _ h => h) (by rfl) hS3 (fun wz hSW => ?_) ?_
      · skip; (try go_simp) <;> (try omega)
      try simp only [Act.put, List.setIfInBounds_toArray, List.set_cons_zero, List.set_cons_succ]
      refine wpAnyH_done (by kernel_rfl) ?_ _
      go_wp2
      go_ret
      exact ⟨_, rfl, hu3, hb3, hK0.trans hKK⟩
  · rw [if_pos (by rfl)]
    go_simp
    refine hK.out _ _ (hS0.alloc _) (fun hSwy6 => ?_)
    clear hK K
    have hBwy6 := hB1.alloc hB1.size (.cells #[.iface T0 x0, .iface T1 x1] 51)
    have hswy6 := World.ownsRow_lit (base := 0) (e := 51) (size := 1) w1 #[.iface T0 x0, .iface T1 x1] 2 (Nat.zero_le _) (by decide) (by simp)
    have huwy6 := hu1.alloc (.cells #[.iface T0 x0, .iface T1 x1] 51)
    obtain ⟨gt, hgt⟩ : ∃ gt, w1.heap.size = gt := ⟨_, rfl⟩
    rw [hgt] at hswy6 ⊢
    generalize w1.alloc (.cells #[.iface T0 x0, .iface T1 x1] 51) = wy6 at hswy6 hSwy6 hBwy6 huwy6 ⊢
    try simp only [Act.put, List.setIfInBounds_toArray, List.set_cons_zero, List.set_cons_succ]
    refine wpAnyH_ready (rs := [1]) (by kernel_rfl) (by simp) (AllReadyH.cons rfl (fun K hK => ?_) AllReadyH.nil)
    rw [if_pos (by rfl)]
    go_simp
    refine hK.out _ _ (hSwy6.alloc _) (fun hSwy7 => ?_)
    clear hK K
    have hBwy7 := hBwy6.alloc hBwy6.size (.cells #[.int .u8 108] 5)
    have huwy7 := huwy6.alloc (.cells #[.int .u8 108] 5)
    have rb := World.ownsRow_lit (base := 0) (e := 5) (size := 1) wy6 #[.int .u8 108] 1 (Nat.zero_le _) (by decide) (by simp)
    have hswy7 := hswy6.alloc (.cells #[.int .u8 108] 5)
    obtain ⟨gb, hgb⟩ : ∃ gb, wy6.heap.size = gb := ⟨_, rfl⟩
    rw [hgb] at rb ⊢
    generalize wy6.alloc (.cells #[.int .u8 108] 5) = wy7 at rb hSwy7 hBwy7 huwy7 hswy7 ⊢
    try simp only [Act.put, List.setIfInBounds_toArray, List.set_cons_zero, List.set_cons_succ]
    refine wpAnyH_ready (rs := [2]) (by kernel_rfl) (by simp) (AllReadyH.cons rfl (fun K hK => ?_) AllReadyH.nil)
    rw [if_pos (by rfl)]
    refine wp_append_own _ _ _ 22 rfl w0.heap.size 5 i0 _ 1 1 Tryd.underlying22 hi hz0 hz1 hz2 rfl (by decide) u l.length (l.map bv) rfl huwy7 ⟨gb, 0, none⟩ 1 1 [.int .u8 108] rfl rfl (rb.cells rfl) (by simp [Value.oneCell']) (by unfold maxLen; omega) (by omega) hBwy7.size ?_
    intro u2 wy8 hnwy8 hgwy8 _
    change K (Act.put _ (some 7) u2) wy8
    have hBwy8 := below_row hBwy7 huwy7 hgwy8
    have hKwy8 := keep_row hSwy7 huwy7 hgwy8
    have hswy8 := (keep_row (KeepT.refl _) huwy7 hgwy8).row hswy7 (by decide)
    refine hK.out _ _ hKwy8 (fun _ => ?_)
    clear hK K hgwy8
    try dsimp only
    try simp only [Act.put, List.setIfInBounds_toArray, List.set_cons_zero, List.set_cons_succ]
    refine wpAnyH_ready (rs := [12]) (by kernel_rfl) (by simp) (AllReadyH.cons rfl (fun K hK => ?_) AllReadyH.nil)
    rw [if_pos (by rfl)]
    go_simp
    (with_reducible refine (f1.out _ _ _ _ hBwy8 hswy8 hnwy8).mono ?_); rintro e w3 ⟨u3, rfl, hu3, hb3, hk3⟩
    refine hK.out _ _ (hKwy8.trans hk3) (fun hS3 => ?_)
    have hKK := (hKwy8).trans hk3
    clear hK K
    try simp only [Act.put, List.setIfInBounds_toArray, List.set_cons_zero, List.set_cons_succ]
    refine heldT 13 4 (u3) rfl rfl (by kernel_rfl) (by kernel_rfl) (by kernel_rfl) (fun _ _ _ h => h) (by rfl) hS3 (fun wz hSW => ?_) ?_
    · skip; (try go_simp) <;> (try omega)
    try simp only [Act.put, List.setIfInBounds_toArray, List.set_cons_zero, List.set_cons_succ]
    refine wpAnyH_done (by kernel_rfl) ?_ _
    go_wp2
    go_ret
    exact ⟨_, rfl, hu3, hb3, hK0.trans hKK⟩

set_option maxHeartbeats 2000000 in
theorem appPi {w0 W : World} {g0 : Nat} {t0 t1 : Tm} {T0 T1 : TypeId} {x0 x1 : Value} {u : Value} {l : List UInt8}
    (hg : w0.heap[g0]? = some (.cells #[.iface T0 x0, .iface T1 x1] 99 (0, 0))) (qa0 : AppOk w0 t0 (.iface T0 x0)) (qa1 : AppOk w0 t1 (.iface T1 x1)) (hb : Below w0.heap.size w0 W) (hu : W.ownsRow w0.heap.size 5 1 u l.length (l.map bv)) (hl : l.length + ((cat [t0, t1]).length + 1) ≤ 100000000) :
    Calls Tryd.prog 161 #[.pointer (some ⟨g0, 0, none⟩), u] W (AppAns w0 W (l ++ 112 :: cat [t0, t1])) := by
  obtain ⟨i0, hi, hz0, hz1, hz2⟩ := info_parts infoByteT
  have HL : Hid (l ++ 112 :: cat [t0, t1] = (l ++ [112]) ++ cat [t0, t1]) := by simp [Hid]
  have HA : ∀ k (h : k < [t0, t1].length) (h2 : k < ([.iface T0 x0, .iface T1 x1] : List Value).length), AppOk w0 [t0, t1][k] ([.iface T0 x0, .iface T1 x1] : List Value)[k] := fun k h h2 => by
    match k, h, h2 with
    | 0, _, _ => exact qa0
    | 1, _, _ => exact qa1
    | k + 2, h, _ => exact absurd h (by simp only [List.length_cons, List.length_nil]; omega)
  have f1 := Lib.hid fun (Wc : World) (b : Nat) (s u2 : Value) (hbc : Below w0.heap.size w0 Wc) (hs : Wc.ownsRow b 51 1 s 2 [.iface T0 x0, .iface T1 x1]) (hu2 : Wc.ownsRow w0.heap.size 5 1 u2 (l.length + 1) (l.map bv ++ [.int .u8 112])) =>
    appTerms (w0 := w0) (ts := [t0, t1]) (vs := [.iface T0 x0, .iface T1 x1]) (l := l ++ [112]) rfl (two_le t0 t1) HA hbc hs (by simpa [bv] using hu2) (by simp; omega)
  rw [HL.out]
  generalize (l ++ [112]) ++ cat [t0, t1] = out at f1
  have hB0 := hb
  have hK0 := KeepT.refl W
  have hu0 := hu
  have blk0 := blk_below hg hb
  clear qa0 qa1 hb hu HL HA hg
  go_enter Tryd.func161, Tryd.ntmps161
  go_wp2_with fail
  refine wp_region_held_drew (S := fun w' => KeepT W w') (by kernel_rfl) (KeepT.refl W).drew (fun hS0 => ?_)
  have hB1 : Below w0.heap.size w0 W.drew := hB0.drew
  have hu1 := own_drew hu0 1
  have hu1 : W.drew.ownsRow w0.heap.size 5 1 u l.length (l.map bv) := hu0
  generalize W.drew = w1 at hS0 hB1 hu1 ⊢
  clear hB0 hu0
  refine heldT 0 5 (u) rfl rfl (by kernel_rfl) (by kernel_rfl) (by kernel_rfl) (fun _ _ _ h => h) (by rfl) hS0 (fun wz hSW => ?_) ?_
  · skip; (try go_simp) <;> (try omega)
  try simp only [Act.put, List.setIfInBounds_toArray, List.set_cons_zero, List.set_cons_succ]
  refine heldT 3 8 (.pointer (some ⟨g0, 0, none⟩)) rfl rfl (by kernel_rfl) (by kernel_rfl) (by kernel_rfl) (fun _ _ _ h => h) (by rfl) hS0 (fun wz hSW => ?_) ?_
  · skip; (try go_simp) <;> (try omega)
  try simp only [Act.put, List.setIfInBounds_toArray, List.set_cons_zero, List.set_cons_succ]
  refine heldT 4 9 (.pointer (some ⟨g0, 0, none⟩)) rfl rfl (by kernel_rfl) (by kernel_rfl) (by kernel_rfl) (fun _ _ _ h => h) (by rfl) hS0 (fun wz hSW => ?_) ?_
  · skip; (try go_simp) <;> (try omega)
  try simp only [Act.put, List.setIfInBounds_toArray, List.set_cons_zero, List.set_cons_succ]
  refine heldT 5 10 (.pointer (some ⟨g0, 0, none⟩)) rfl rfl (by kernel_rfl) (by kernel_rfl) (by kernel_rfl) (fun _ _ _ h => h) (by rfl) hS0 (fun wz hSW => ?_) ?_
  · skip; (try go_simp) <;> (try omega)
  try simp only [Act.put, List.setIfInBounds_toArray, List.set_cons_zero, List.set_cons_succ]
  refine heldT 6 11 (.iface T0 x0) rfl rfl (by kernel_rfl) (by kernel_rfl) (by kernel_rfl) (fun _ _ _ h => h) (by rfl) hS0 (fun wz hSW => ?_) ?_
  · have y0 : wz.cell? ⟨g0, 0, none⟩ = some (.iface T0 x0) := (by rw [Lib.cell_of_heap (hSW _ _ _ _ (by decide) blk0)]; rfl); (try go_simp) <;> (try omega)
  try simp only [Act.put, List.setIfInBounds_toArray, List.set_cons_zero, List.set_cons_succ]
  refine heldT 7 12 (.pointer (some ⟨g0, 0, none⟩)) rfl rfl (by kernel_rfl) (by kernel_rfl) (by kernel_rfl) (fun _ _ _ h => h) (by rfl) hS0 (fun wz hSW => ?_) ?_
  · skip; (try go_simp) <;> (try omega)
  try simp only [Act.put, List.setIfInBounds_toArray, List.set_cons_zero, List.set_cons_succ]
  refine heldT 8 13 (.pointer (some ⟨g0, 0, none⟩)) rfl rfl (by kernel_rfl) (by kernel_rfl) (by kernel_rfl) (fun _ _ _ h => h) (by rfl) hS0 (fun wz hSW => ?_) ?_
  · skip; (try go_simp) <;> (try omega)
  try simp only [Act.put, List.setIfInBounds_toArray, List.set_cons_zero, List.set_cons_succ]
  refine heldT 9 14 (.pointer (some ⟨g0, 1, none⟩)) rfl rfl (by kernel_rfl) (by kernel_rfl) (by kernel_rfl) (fun _ _ _ h => h) (by rfl) hS0 (fun wz hSW => ?_) ?_
  · skip; (try go_simp) <;> (try omega)
  try simp only [Act.put, List.setIfInBounds_toArray, List.set_cons_zero, List.set_cons_succ]
  refine heldT 10 15 (.iface T1 x1) rfl rfl (by kernel_rfl) (by kernel_rfl) (by kernel_rfl) (fun _ _ _ h => h) (by rfl) hS0 (fun wz hSW => ?_) ?_
  · have y1 : wz.cell? ⟨g0, 1, none⟩ = some (.iface T1 x1) := (by rw [Lib.cell_of_heap (hSW _ _ _ _ (by decide) blk0)]; rfl); (try go_simp) <;> (try omega)
  try simp only [Act.put, List.setIfInBounds_toArray, List.set_cons_zero, List.set_cons_succ]
  refine wpAnyH_ready (rs := [1, 11]) (by kernel_rfl) (by simp) (AllReadyH.cons rfl (fun K hK => ?_) (AllReadyH.cons rfl (fun K hK => ?_) AllReadyH.nil))
  · rw [if_pos (by rfl)]
    go_simp
    refine hK.out _ _ (hS0.alloc _) (fun hSwy1 => ?_)
    clear hK K
    have hBwy1 := hB1.alloc hB1.size (.cells #[.int .u8 112] 5)
    have huwy1 := hu1.alloc (.cells #[.int .u8 112] 5)
    have rb := World.ownsRow_lit (base := 0) (e := 5) (size := 1) w1 #[.int .u8 112] 1 (Nat.zero_le _) (by decide) (by simp)
    obtain ⟨gb, hgb⟩ : ∃ gb, w1.heap.size = gb := ⟨_, rfl⟩
    rw [hgb] at rb ⊢
    generalize w1.alloc (.cells #[.int .u8 112] 5) = wy1 at rb hSwy1 hBwy1 huwy1 ⊢
    try simp only [Act.put, List.setIfInBounds_toArray, List.set_cons_zero, List.set_cons_succ]
    refine wpAnyH_ready (rs := [2, 11]) (by kernel_rfl) (by simp) (AllReadyH.cons rfl (fun K hK => ?_) (AllReadyH.cons rfl (fun K hK => ?_) AllReadyH.nil))
    · rw [if_pos (by rfl)]
      refine wp_append_own _ _ _ 22 rfl w0.heap.size 5 i0 _ 1 1 Tryd.underlying22 hi hz0 hz1 hz2 rfl (by decide) u l.length (l.map bv) rfl huwy1 ⟨gb, 0, none⟩ 1 1 [.int .u8 112] rfl rfl (rb.cells rfl) (by simp [Value.oneCell']) (by unfold maxLen; omega) (by omega) hBwy1.size ?_
      intro u2 wy2 hnwy2 hgwy2 _
      change K (Act.put _ (some 7) u2) wy2
      have hBwy2 := below_row hBwy1 huwy1 hgwy2
      have hKwy2 := keep_row hSwy1 huwy1 hgwy2
      refine hK.out _ _ hKwy2 (fun _ => ?_)
      clear hK K hgwy2
      try dsimp only
      try simp only [Act.put, List.setIfInBounds_toArray, List.set_cons_zero, List.set_cons_succ]
      refine wpAnyH_ready (rs := [11]) (by kernel_rfl) (by simp) (AllReadyH.cons rfl (fun K hK => ?_) AllReadyH.nil)
      rw [if_pos (by rfl)]
      go_simp
      refine hK.out _ _ (hKwy2.alloc _) (fun hSwy3 => ?_)
      clear hK K
      have hBwy3 := hBwy2.alloc hBwy2.size (.cells #[.iface T0 x0, .iface T1 x1] 51)
      have hswy3 := World.ownsRow_lit (base := 0) (e := 51) (size := 1) wy2 #[.iface T0 x0, .iface T1 x1] 2 (Nat.zero_le _) (by decide) (by simp)
      have hnwy3 := hnwy2.alloc (.cells #[.iface T0 x0, .iface T1 x1] 51)
      obtain ⟨gt, hgt⟩ : ∃ gt, wy2.heap.size = gt := ⟨_, rfl⟩
      rw [hgt] at hswy3 ⊢
      generalize wy2.alloc (.cells #[.iface T0 x0, .iface T1 x1] 51) = wy3 at hswy3 hSwy3 hBwy3 hnwy3 ⊢
      try simp only [Act.put, List.setIfInBounds_toArray, List.set_cons_zero, List.set_cons_succ]
      refine wpAnyH_ready (rs := [12]) (by kernel_rfl) (by simp) (AllReadyH.cons rfl (fun K hK => ?_) AllReadyH.nil)
      rw [if_pos (by rfl)]
      go_simp
      (with_reducible refine (f1.out _ _ _ _ hBwy3 hswy3 hnwy3).mono ?_); rintro e w3 ⟨u3, rfl, hu3, hb3, hk3⟩
      refine hK.out _ _ (hSwy3.trans hk3) (fun hS3 => ?_)
      have hKK := (hSwy3).trans hk3
      clear hK K
      try simp only [Act.put, List.setIfInBounds_toArray, List.set_cons_zero, List.set_cons_succ]
      refine heldT 13 4 (u3) rfl rfl (by kernel_rfl) (by kernel_rfl) (by kernel_rfl) (fun _ _ _ h => h) (by rfl) hS3 (fun wz hSW => ?_) ?_
      · skip; (try go_simp) <;> (try omega)
      try simp only [Act.put, List.setIfInBounds_toArray, List.set_cons_zero, List.set_cons_succ]
      refine wpAnyH_done (by kernel_rfl) ?_ _
      go_wp2
      go_ret
      exact ⟨_, rfl, hu3, hb3, hK0.trans hKK⟩
    · rw [if_pos (by rfl)]
      go_simp
      refine hK.out _ _ (hSwy1.alloc _) (fun hSwy4 => ?_)
      clear hK K
      have hBwy4 := hBwy1.alloc hBwy1.size (.cells #[.iface T0 x0, .iface T1 x1] 51)
      have hswy4 := World.ownsRow_lit (base := 0) (e := 51) (size := 1) wy1 #[.iface T0 x0, .iface T1 x1] 2 (Nat.zero_le _) (by decide) (by simp)
      have huwy4 := huwy1.alloc (.cells #[.iface T0 x0, .iface T1 x1] 51)
      have rbwy4 := rb.alloc (.cells #[.iface T0 x0, .iface T1 x1] 51)
      obtain ⟨gt, hgt⟩ : ∃ gt, wy1.heap.size = gt := ⟨_, rfl⟩
      rw [hgt] at hswy4 ⊢
      generalize wy1.alloc (.cells #[.iface T0 x0, .iface T1 x1] 51) = wy4 at hswy4 hSwy4 hBwy4 huwy4 rbwy4 ⊢
      try simp only [Act.put, List.setIfInBounds_toArray, List.set_cons_zero, List.set_cons_succ]
      refine wpAnyH_ready (rs := [2]) (by kernel_rfl) (by simp) (AllReadyH.cons rfl (fun K hK => ?_) AllReadyH.nil)
      rw [if_pos (by rfl)]
      refine wp_append_own _ _ _ 22 rfl w0.heap.size 5 i0 _ 1 1 Tryd.underlying22 hi hz0 hz1 hz2 rfl (by decide) u l.length (l.map bv) rfl huwy4 ⟨gb, 0, none⟩ 1 1 [.int .u8 112] rfl rfl (rbwy4.cells rfl) (by simp [Value.oneCell']) (by unfold maxLen; omega) (by omega) hBwy4.size ?_
      intro u2 wy5 hnwy5 hgwy5 _
      change K (Act.put _ (some 7) u2) wy5
      have hBwy5 := below_row hBwy4 huwy4 hgwy5
      have hKwy5 := keep_row hSwy4 huwy4 hgwy5
      have hswy5 := (keep_row (KeepT.refl _) huwy4 hgwy5).row hswy4 (by decide)
      refine hK.out _ _ hKwy5 (fun _ => ?_)
      clear hK K hgwy5
      try dsimp only
      try simp only [Act.put, List.setIfInBounds_toArray, List.set_cons_zero, List.set_cons_succ]
      refine wpAnyH_ready (rs := [12]) (by kernel_rfl) (by simp) (AllReadyH.cons rfl (fun K hK => ?_) AllReadyH.nil)
      rw [if_pos (by rfl)]
      go_simp
      (with_reducible refine (f1.out _ _ _ _ hBwy5 hswy5 hnwy5).mono ?_); rintro e w3 ⟨u3, rfl, hu3, hb3, hk3⟩
      refine hK.out _ _ (hKwy5.trans hk3) (fun hS3 => ?_)
      have hKK := (hKwy5).trans hk3
      clear hK K
      try simp only [Act.put, List.setIfInBounds_toArray, List.set_cons_zero, List.set_cons_succ]
      refine heldT 13 4 (u3) rfl rfl (by kernel_rfl) (by kernel_rfl) (by kernel_rfl) (fun _ _ _ h => h) (by rfl) hS3 (fun wz hSW => ?_) ?_
      · skip; (try go_simp) <;> (try omega)
      try simp only [Act.put, List.setIfInBounds_toArray, List.set_cons_zero, List.set_cons_succ]
      refine wpAnyH_done (by kernel_rfl) ?_ _
      go_wp2
      go_ret
      exact ⟨_, rfl, hu3, hb3, hK0.trans hKK⟩
  · rw [if_pos (by rfl)]
    go_simp
    refine hK.out _ _ (hS0.alloc _) (fun hSwy6 => ?_)
    clear hK K
    have hBwy6 := hB1.alloc hB1.size (.cells #[.iface T0 x0, .iface T1 x1] 51)
    have hswy6 := World.ownsRow_lit (base := 0) (e := 51) (size := 1) w1 #[.iface T0 x0, .iface T1 x1] 2 (Nat.zero_le _) (by decide) (by simp)
    have huwy6 := hu1.alloc (.cells #[.iface T0 x0, .iface T1 x1] 51)
    obtain ⟨gt, hgt⟩ : ∃ gt, w1.heap.size = gt := ⟨_, rfl⟩
    rw [hgt] at hswy6 ⊢
    generalize w1.alloc (.cells #[.iface T0 x0, .iface T1 x1] 51) = wy6 at hswy6 hSwy6 hBwy6 huwy6 ⊢
    try simp only [Act.put, List.setIfInBounds_toArray, List.set_cons_zero, List.set_cons_succ]
    refine wpAnyH_ready (rs := [1]) (by kernel_rfl) (by simp) (AllReadyH.cons rfl (fun K hK => ?_) AllReadyH.nil)
    rw [if_pos (by rfl)]
    go_simp
    refine hK.out _ _ (hSwy6.alloc _) (fun hSwy7 => ?_)
    clear hK K
    have hBwy7 := hBwy6.alloc hBwy6.size (.cells #[.int .u8 112] 5)
    have huwy7 := huwy6.alloc (.cells #[.int .u8 112] 5)
    have rb := World.ownsRow_lit (base := 0) (e := 5) (size := 1) wy6 #[.int .u8 112] 1 (Nat.zero_le _) (by decide) (by simp)
    have hswy7 := hswy6.alloc (.cells #[.int .u8 112] 5)
    obtain ⟨gb, hgb⟩ : ∃ gb, wy6.heap.size = gb := ⟨_, rfl⟩
    rw [hgb] at rb ⊢
    generalize wy6.alloc (.cells #[.int .u8 112] 5) = wy7 at rb hSwy7 hBwy7 huwy7 hswy7 ⊢
    try simp only [Act.put, List.setIfInBounds_toArray, List.set_cons_zero, List.set_cons_succ]
    refine wpAnyH_ready (rs := [2]) (by kernel_rfl) (by simp) (AllReadyH.cons rfl (fun K hK => ?_) AllReadyH.nil)
    rw [if_pos (by rfl)]
    refine wp_append_own _ _ _ 22 rfl w0.heap.size 5 i0 _ 1 1 Tryd.underlying22 hi hz0 hz1 hz2 rfl (by decide) u l.length (l.map bv) rfl huwy7 ⟨gb, 0, none⟩ 1 1 [.int .u8 112] rfl rfl (rb.cells rfl) (by simp [Value.oneCell']) (by unfold maxLen; omega) (by omega) hBwy7.size ?_
    intro u2 wy8 hnwy8 hgwy8 _
    change K (Act.put _ (some 7) u2) wy8
    have hBwy8 := below_row hBwy7 huwy7 hgwy8
    have hKwy8 := keep_row hSwy7 huwy7 hgwy8
    have hswy8 := (keep_row (KeepT.refl _) huwy7 hgwy8).row hswy7 (by decide)
    refine hK.out _ _ hKwy8 (fun _ => ?_)
    clear hK K hgwy8
    try dsimp only
    try simp only [Act.put, List.setIfInBounds_toArray, List.set_cons_zero, List.set_cons_succ]
    refine wpAnyH_ready (rs := [12]) (by kernel_rfl) (by simp) (AllReadyH.cons rfl (fun K hK => ?_) AllReadyH.nil)
    rw [if_pos (by rfl)]
    go_simp
    (with_reducible refine (f1.out _ _ _ _ hBwy8 hswy8 hnwy8).mono ?_); rintro e w3 ⟨u3, rfl, hu3, hb3, hk3⟩
    refine hK.out _ _ (hKwy8.trans hk3) (fun hS3 => ?_)
    have hKK := (hKwy8).trans hk3
    clear hK K
    try simp only [Act.put, List.setIfInBounds_toArray, List.set_cons_zero, List.set_cons_succ]
    refine heldT 13 4 (u3) rfl rfl (by kernel_rfl) (by kernel_rfl) (by kernel_rfl) (fun _ _ _ h => h) (by rfl) hS3 (fun wz hSW => ?_) ?_
    · skip; (try go_simp) <;> (try omega)
    try simp only [Act.put, List.setIfInBounds_toArray, List.set_cons_zero, List.set_cons_succ]
    refine wpAnyH_done (by kernel_rfl) ?_ _
    go_wp2
    go_ret
    exact ⟨_, rfl, hu3, hb3, hK0.trans hKK⟩

set_option maxHeartbeats 2000000 in
theorem appLet {w0 W : World} {g0 : Nat} {t0 t1 t2 : Tm} {T0 T1 T2 : TypeId} {x0 x1 x2 : Value} {u : Value} {l : List UInt8}
    (hg : w0.heap[g0]? = some (.cells #[.iface T0 x0, .iface T1 x1, .iface T2 x2] 102 (0, 0))) (qa0 : AppOk w0 t0 (.iface T0 x0)) (qa1 : AppOk w0 t1 (.iface T1 x1)) (qa2 : AppOk w0 t2 (.iface T2 x2)) (hb : Below w0.heap.size w0 W) (hu : W.ownsRow w0.heap.size 5 1 u l.length (l.map bv)) (hl : l.length + ((cat [t0, t1, t2]).length + 1) ≤ 100000000) :
    Calls Tryd.prog 163 #[.pointer (some ⟨g0, 0, none⟩), u] W (AppAns w0 W (l ++ 116 :: cat [t0, t1, t2])) := by
  obtain ⟨i0, hi, hz0, hz1, hz2⟩ := info_parts infoByteT
  have HL : Hid (l ++ 116 :: cat [t0, t1, t2] = (l ++ [116]) ++ cat [t0, t1, t2]) := by simp [Hid]
  have HA : ∀ k (h : k < [t0, t1, t2].length) (h2 : k < ([.iface T0 x0, .iface T1 x1, .iface T2 x2] : List Value).length), AppOk w0 [t0, t1, t2][k] ([.iface T0 x0, .iface T1 x1, .iface T2 x2] : List Value)[k] := fun k h h2 => by
    match k, h, h2 with
    | 0, _, _ => exact qa0
    | 1, _, _ => exact qa1
    | 2, _, _ => exact qa2
    | k + 3, h, _ => exact absurd h (by simp only [List.length_cons, List.length_nil]; omega)
  have f1 := Lib.hid fun (Wc : World) (b : Nat) (s u2 : Value) (hbc : Below w0.heap.size w0 Wc) (hs : Wc.ownsRow b 51 1 s 3 [.iface T0 x0, .iface T1 x1, .iface T2 x2]) (hu2 : Wc.ownsRow w0.heap.size 5 1 u2 (l.length + 1) (l.map bv ++ [.int .u8 116])) =>
    appTerms (w0 := w0) (ts := [t0, t1, t2]) (vs := [.iface T0 x0, .iface T1 x1, .iface T2 x2]) (l := l ++ [116]) rfl (three_le t0 t1 t2) HA hbc hs (by simpa [bv] using hu2) (by simp; omega)
  rw [HL.out]
  generalize (l ++ [116]) ++ cat [t0, t1, t2] = out at f1
  have hB0 := hb
  have hK0 := KeepT.refl W
  have hu0 := hu
  have blk0 := blk_below hg hb
  clear qa0 qa1 qa2 hb hu HL HA hg
  go_enter Tryd.func163, Tryd.ntmps163
  go_wp2_with fail
  refine wp_region_held_drew (S := fun w' => KeepT W w') (by kernel_rfl) (KeepT.refl W).drew (fun hS0 => ?_)
  have hB1 : Below w0.heap.size w0 W.drew := hB0.drew
  have hu1 := own_drew hu0 1
  have hu1 : W.drew.ownsRow w0.heap.size 5 1 u l.length (l.map bv) := hu0
  generalize W.drew = w1 at hS0 hB1 hu1 ⊢
  clear hB0 hu0
  refine heldT 0 5 (u) rfl rfl (by kernel_rfl) (by kernel_rfl) (by kernel_rfl) (fun _ _ _ h => h) (by rfl) hS0 (fun wz hSW => ?_) ?_
  · skip; (try go_simp) <;> (try omega)
  try simp only [Act.put, List.setIfInBounds_toArray, List.set_cons_zero, List.set_cons_succ]
  refine heldT 3 8 (.pointer (some ⟨g0, 0, none⟩)) rfl rfl (by kernel_rfl) (by kernel_rfl) (by kernel_rfl) (fun _ _ _ h => h) (by rfl) hS0 (fun wz hSW => ?_) ?_
  · skip; (try go_simp) <;> (try omega)
  try simp only [Act.put, List.setIfInBounds_toArray, List.set_cons_zero, List.set_cons_succ]
  refine heldT 4 9 (.pointer (some ⟨g0, 0, none⟩)) rfl rfl (by kernel_rfl) (by kernel_rfl) (by kernel_rfl) (fun _ _ _ h => h) (by rfl) hS0 (fun wz hSW => ?_) ?_
  · skip; (try go_simp) <;> (try omega)
  try simp only [Act.put, List.setIfInBounds_toArray, List.set_cons_zero, List.set_cons_succ]
  refine heldT 5 10 (.pointer (some ⟨g0, 0, none⟩)) rfl rfl (by kernel_rfl) (by kernel_rfl) (by kernel_rfl) (fun _ _ _ h => h) (by rfl) hS0 (fun wz hSW => ?_) ?_
  · skip; (try go_simp) <;> (try omega)
  try simp only [Act.put, List.setIfInBounds_toArray, List.set_cons_zero, List.set_cons_succ]
  refine heldT 6 11 (.iface T0 x0) rfl rfl (by kernel_rfl) (by kernel_rfl) (by kernel_rfl) (fun _ _ _ h => h) (by rfl) hS0 (fun wz hSW => ?_) ?_
  · have y0 : wz.cell? ⟨g0, 0, none⟩ = some (.iface T0 x0) := (by rw [Lib.cell_of_heap (hSW _ _ _ _ (by decide) blk0)]; rfl); (try go_simp) <;> (try omega)
  try simp only [Act.put, List.setIfInBounds_toArray, List.set_cons_zero, List.set_cons_succ]
  refine heldT 7 12 (.pointer (some ⟨g0, 0, none⟩)) rfl rfl (by kernel_rfl) (by kernel_rfl) (by kernel_rfl) (fun _ _ _ h => h) (by rfl) hS0 (fun wz hSW => ?_) ?_
  · skip; (try go_simp) <;> (try omega)
  try simp only [Act.put, List.setIfInBounds_toArray, List.set_cons_zero, List.set_cons_succ]
  refine heldT 8 13 (.pointer (some ⟨g0, 0, none⟩)) rfl rfl (by kernel_rfl) (by kernel_rfl) (by kernel_rfl) (fun _ _ _ h => h) (by rfl) hS0 (fun wz hSW => ?_) ?_
  · skip; (try go_simp) <;> (try omega)
  try simp only [Act.put, List.setIfInBounds_toArray, List.set_cons_zero, List.set_cons_succ]
  refine heldT 9 14 (.pointer (some ⟨g0, 1, none⟩)) rfl rfl (by kernel_rfl) (by kernel_rfl) (by kernel_rfl) (fun _ _ _ h => h) (by rfl) hS0 (fun wz hSW => ?_) ?_
  · skip; (try go_simp) <;> (try omega)
  try simp only [Act.put, List.setIfInBounds_toArray, List.set_cons_zero, List.set_cons_succ]
  refine heldT 10 15 (.iface T1 x1) rfl rfl (by kernel_rfl) (by kernel_rfl) (by kernel_rfl) (fun _ _ _ h => h) (by rfl) hS0 (fun wz hSW => ?_) ?_
  · have y1 : wz.cell? ⟨g0, 1, none⟩ = some (.iface T1 x1) := (by rw [Lib.cell_of_heap (hSW _ _ _ _ (by decide) blk0)]; rfl); (try go_simp) <;> (try omega)
  try simp only [Act.put, List.setIfInBounds_toArray, List.set_cons_zero, List.set_cons_succ]
  refine heldT 11 16 (.pointer (some ⟨g0, 0, none⟩)) rfl rfl (by kernel_rfl) (by kernel_rfl) (by kernel_rfl) (fun _ _ _ h => h) (by rfl) hS0 (fun wz hSW => ?_) ?_
  · skip; (try go_simp) <;> (try omega)
  try simp only [Act.put, List.setIfInBounds_toArray, List.set_cons_zero, List.set_cons_succ]
  refine heldT 12 17 (.pointer (some ⟨g0, 0, none⟩)) rfl rfl (by kernel_rfl) (by kernel_rfl) (by kernel_rfl) (fun _ _ _ h => h) (by rfl) hS0 (fun wz hSW => ?_) ?_
  · skip; (try go_simp) <;> (try omega)
  try simp only [Act.put, List.setIfInBounds_toArray, List.set_cons_zero, List.set_cons_succ]
  refine heldT 13 18 (.pointer (some ⟨g0, 2, none⟩)) rfl rfl (by kernel_rfl) (by kernel_rfl) (by kernel_rfl) (fun _ _ _ h => h) (by rfl) hS0 (fun wz hSW => ?_) ?_
  · skip; (try go_simp) <;> (try omega)
  try simp only [Act.put, List.setIfInBounds_toArray, List.set_cons_zero, List.set_cons_succ]
  refine heldT 14 19 (.iface T2 x2) rfl rfl (by kernel_rfl) (by kernel_rfl) (by kernel_rfl) (fun _ _ _ h => h) (by rfl) hS0 (fun wz hSW => ?_) ?_
  · have y2 : wz.cell? ⟨g0, 2, none⟩ = some (.iface T2 x2) := (by rw [Lib.cell_of_heap (hSW _ _ _ _ (by decide) blk0)]; rfl); (try go_simp) <;> (try omega)
  try simp only [Act.put, List.setIfInBounds_toArray, List.set_cons_zero, List.set_cons_succ]
  refine wpAnyH_ready (rs := [1, 15]) (by kernel_rfl) (by simp) (AllReadyH.cons rfl (fun K hK => ?_) (AllReadyH.cons rfl (fun K hK => ?_) AllReadyH.nil))
  · rw [if_pos (by rfl)]
    go_simp
    refine hK.out _ _ (hS0.alloc _) (fun hSwy1 => ?_)
    clear hK K
    have hBwy1 := hB1.alloc hB1.size (.cells #[.int .u8 116] 5)
    have huwy1 := hu1.alloc (.cells #[.int .u8 116] 5)
    have rb := World.ownsRow_lit (base := 0) (e := 5) (size := 1) w1 #[.int .u8 116] 1 (Nat.zero_le _) (by decide) (by simp)
    obtain ⟨gb, hgb⟩ : ∃ gb, w1.heap.size = gb := ⟨_, rfl⟩
    rw [hgb] at rb ⊢
    generalize w1.alloc (.cells #[.int .u8 116] 5) = wy1 at rb hSwy1 hBwy1 huwy1 ⊢
    try simp only [Act.put, List.setIfInBounds_toArray, List.set_cons_zero, List.set_cons_succ]
    refine wpAnyH_ready (rs := [2, 15]) (by kernel_rfl) (by simp) (AllReadyH.cons rfl (fun K hK => ?_) (AllReadyH.cons rfl (fun K hK => ?_) AllReadyH.nil))
    · rw [if_pos (by rfl)]
      refine wp_append_own _ _ _ 22 rfl w0.heap.size 5 i0 _ 1 1 Tryd.underlying22 hi hz0 hz1 hz2 rfl (by decide) u l.length (l.map bv) rfl huwy1 ⟨gb, 0, none⟩ 1 1 [.int .u8 116] rfl rfl (rb.cells rfl) (by simp [Value.oneCell']) (by unfold maxLen; omega) (by omega) hBwy1.size ?_
      intro u2 wy2 hnwy2 hgwy2 _
      change K (Act.put _ (some 7) u2) wy2
      have hBwy2 := below_row hBwy1 huwy1 hgwy2
      have hKwy2 := keep_row hSwy1 huwy1 hgwy2
      refine hK.out _ _ hKwy2 (fun _ => ?_)
      clear hK K hgwy2
      try dsimp only
      try simp only [Act.put, List.setIfInBounds_toArray, List.set_cons_zero, List.set_cons_succ]
      refine wpAnyH_ready (rs := [15]) (by kernel_rfl) (by simp) (AllReadyH.cons rfl (fun K hK => ?_) AllReadyH.nil)
      rw [if_pos (by rfl)]
      go_simp
      refine hK.out _ _ (hKwy2.alloc _) (fun hSwy3 => ?_)
      clear hK K
      have hBwy3 := hBwy2.alloc hBwy2.size (.cells #[.iface T0 x0, .iface T1 x1, .iface T2 x2] 51)
      have hswy3 := World.ownsRow_lit (base := 0) (e := 51) (size := 1) wy2 #[.iface T0 x0, .iface T1 x1, .iface T2 x2] 3 (Nat.zero_le _) (by decide) (by simp)
      have hnwy3 := hnwy2.alloc (.cells #[.iface T0 x0, .iface T1 x1, .iface T2 x2] 51)
      obtain ⟨gt, hgt⟩ : ∃ gt, wy2.heap.size = gt := ⟨_, rfl⟩
      rw [hgt] at hswy3 ⊢
      generalize wy2.alloc (.cells #[.iface T0 x0, .iface T1 x1, .iface T2 x2] 51) = wy3 at hswy3 hSwy3 hBwy3 hnwy3 ⊢
      try simp only [Act.put, List.setIfInBounds_toArray, List.set_cons_zero, List.set_cons_succ]
      refine wpAnyH_ready (rs := [16]) (by kernel_rfl) (by simp) (AllReadyH.cons rfl (fun K hK => ?_) AllReadyH.nil)
      rw [if_pos (by rfl)]
      go_simp
      (with_reducible refine (f1.out _ _ _ _ hBwy3 hswy3 hnwy3).mono ?_); rintro e w3 ⟨u3, rfl, hu3, hb3, hk3⟩
      refine hK.out _ _ (hSwy3.trans hk3) (fun hS3 => ?_)
      have hKK := (hSwy3).trans hk3
      clear hK K
      try simp only [Act.put, List.setIfInBounds_toArray, List.set_cons_zero, List.set_cons_succ]
      refine heldT 17 4 (u3) rfl rfl (by kernel_rfl) (by kernel_rfl) (by kernel_rfl) (fun _ _ _ h => h) (by rfl) hS3 (fun wz hSW => ?_) ?_
      · skip; (try go_simp) <;> (try omega)
      try simp only [Act.put, List.setIfInBounds_toArray, List.set_cons_zero, List.set_cons_succ]
      refine wpAnyH_done (by kernel_rfl) ?_ _
      go_wp2
      go_ret
      exact ⟨_, rfl, hu3, hb3, hK0.trans hKK⟩
    · rw [if_pos (by rfl)]
      go_simp
      refine hK.out _ _ (hSwy1.alloc _) (fun hSwy4 => ?_)
      clear hK K
      have hBwy4 := hBwy1.alloc hBwy1.size (.cells #[.iface T0 x0, .iface T1 x1, .iface T2 x2] 51)
      have hswy4 := World.ownsRow_lit (base := 0) (e := 51) (size := 1) wy1 #[.iface T0 x0, .iface T1 x1, .iface T2 x2] 3 (Nat.zero_le _) (by decide) (by simp)
      have huwy4 := huwy1.alloc (.cells #[.iface T0 x0, .iface T1 x1, .iface T2 x2] 51)
      have rbwy4 := rb.alloc (.cells #[.iface T0 x0, .iface T1 x1, .iface T2 x2] 51)
      obtain ⟨gt, hgt⟩ : ∃ gt, wy1.heap.size = gt := ⟨_, rfl⟩
      rw [hgt] at hswy4 ⊢
      generalize wy1.alloc (.cells #[.iface T0 x0, .iface T1 x1, .iface T2 x2] 51) = wy4 at hswy4 hSwy4 hBwy4 huwy4 rbwy4 ⊢
      try simp only [Act.put, List.setIfInBounds_toArray, List.set_cons_zero, List.set_cons_succ]
      refine wpAnyH_ready (rs := [2]) (by kernel_rfl) (by simp) (AllReadyH.cons rfl (fun K hK => ?_) AllReadyH.nil)
      rw [if_pos (by rfl)]
      refine wp_append_own _ _ _ 22 rfl w0.heap.size 5 i0 _ 1 1 Tryd.underlying22 hi hz0 hz1 hz2 rfl (by decide) u l.length (l.map bv) rfl huwy4 ⟨gb, 0, none⟩ 1 1 [.int .u8 116] rfl rfl (rbwy4.cells rfl) (by simp [Value.oneCell']) (by unfold maxLen; omega) (by omega) hBwy4.size ?_
      intro u2 wy5 hnwy5 hgwy5 _
      change K (Act.put _ (some 7) u2) wy5
      have hBwy5 := below_row hBwy4 huwy4 hgwy5
      have hKwy5 := keep_row hSwy4 huwy4 hgwy5
      have hswy5 := (keep_row (KeepT.refl _) huwy4 hgwy5).row hswy4 (by decide)
      refine hK.out _ _ hKwy5 (fun _ => ?_)
      clear hK K hgwy5
      try dsimp only
      try simp only [Act.put, List.setIfInBounds_toArray, List.set_cons_zero, List.set_cons_succ]
      refine wpAnyH_ready (rs := [16]) (by kernel_rfl) (by simp) (AllReadyH.cons rfl (fun K hK => ?_) AllReadyH.nil)
      rw [if_pos (by rfl)]
      go_simp
      (with_reducible refine (f1.out _ _ _ _ hBwy5 hswy5 hnwy5).mono ?_); rintro e w3 ⟨u3, rfl, hu3, hb3, hk3⟩
      refine hK.out _ _ (hKwy5.trans hk3) (fun hS3 => ?_)
      have hKK := (hKwy5).trans hk3
      clear hK K
      try simp only [Act.put, List.setIfInBounds_toArray, List.set_cons_zero, List.set_cons_succ]
      refine heldT 17 4 (u3) rfl rfl (by kernel_rfl) (by kernel_rfl) (by kernel_rfl) (fun _ _ _ h => h) (by rfl) hS3 (fun wz hSW => ?_) ?_
      · skip; (try go_simp) <;> (try omega)
      try simp only [Act.put, List.setIfInBounds_toArray, List.set_cons_zero, List.set_cons_succ]
      refine wpAnyH_done (by kernel_rfl) ?_ _
      go_wp2
      go_ret
      exact ⟨_, rfl, hu3, hb3, hK0.trans hKK⟩
  · rw [if_pos (by rfl)]
    go_simp
    refine hK.out _ _ (hS0.alloc _) (fun hSwy6 => ?_)
    clear hK K
    have hBwy6 := hB1.alloc hB1.size (.cells #[.iface T0 x0, .iface T1 x1, .iface T2 x2] 51)
    have hswy6 := World.ownsRow_lit (base := 0) (e := 51) (size := 1) w1 #[.iface T0 x0, .iface T1 x1, .iface T2 x2] 3 (Nat.zero_le _) (by decide) (by simp)
    have huwy6 := hu1.alloc (.cells #[.iface T0 x0, .iface T1 x1, .iface T2 x2] 51)
    obtain ⟨gt, hgt⟩ : ∃ gt, w1.heap.size = gt := ⟨_, rfl⟩
    rw [hgt] at hswy6 ⊢
    generalize w1.alloc (.cells #[.iface T0 x0, .iface T1 x1, .iface T2 x2] 51) = wy6 at hswy6 hSwy6 hBwy6 huwy6 ⊢
    try simp only [Act.put, List.setIfInBounds_toArray, List.set_cons_zero, List.set_cons_succ]
    refine wpAnyH_ready (rs := [1]) (by kernel_rfl) (by simp) (AllReadyH.cons rfl (fun K hK => ?_) AllReadyH.nil)
    rw [if_pos (by rfl)]
    go_simp
    refine hK.out _ _ (hSwy6.alloc _) (fun hSwy7 => ?_)
    clear hK K
    have hBwy7 := hBwy6.alloc hBwy6.size (.cells #[.int .u8 116] 5)
    have huwy7 := huwy6.alloc (.cells #[.int .u8 116] 5)
    have rb := World.ownsRow_lit (base := 0) (e := 5) (size := 1) wy6 #[.int .u8 116] 1 (Nat.zero_le _) (by decide) (by simp)
    have hswy7 := hswy6.alloc (.cells #[.int .u8 116] 5)
    obtain ⟨gb, hgb⟩ : ∃ gb, wy6.heap.size = gb := ⟨_, rfl⟩
    rw [hgb] at rb ⊢
    generalize wy6.alloc (.cells #[.int .u8 116] 5) = wy7 at rb hSwy7 hBwy7 huwy7 hswy7 ⊢
    try simp only [Act.put, List.setIfInBounds_toArray, List.set_cons_zero, List.set_cons_succ]
    refine wpAnyH_ready (rs := [2]) (by kernel_rfl) (by simp) (AllReadyH.cons rfl (fun K hK => ?_) AllReadyH.nil)
    rw [if_pos (by rfl)]
    refine wp_append_own _ _ _ 22 rfl w0.heap.size 5 i0 _ 1 1 Tryd.underlying22 hi hz0 hz1 hz2 rfl (by decide) u l.length (l.map bv) rfl huwy7 ⟨gb, 0, none⟩ 1 1 [.int .u8 116] rfl rfl (rb.cells rfl) (by simp [Value.oneCell']) (by unfold maxLen; omega) (by omega) hBwy7.size ?_
    intro u2 wy8 hnwy8 hgwy8 _
    change K (Act.put _ (some 7) u2) wy8
    have hBwy8 := below_row hBwy7 huwy7 hgwy8
    have hKwy8 := keep_row hSwy7 huwy7 hgwy8
    have hswy8 := (keep_row (KeepT.refl _) huwy7 hgwy8).row hswy7 (by decide)
    refine hK.out _ _ hKwy8 (fun _ => ?_)
    clear hK K hgwy8
    try dsimp only
    try simp only [Act.put, List.setIfInBounds_toArray, List.set_cons_zero, List.set_cons_succ]
    refine wpAnyH_ready (rs := [16]) (by kernel_rfl) (by simp) (AllReadyH.cons rfl (fun K hK => ?_) AllReadyH.nil)
    rw [if_pos (by rfl)]
    go_simp
    (with_reducible refine (f1.out _ _ _ _ hBwy8 hswy8 hnwy8).mono ?_); rintro e w3 ⟨u3, rfl, hu3, hb3, hk3⟩
    refine hK.out _ _ (hKwy8.trans hk3) (fun hS3 => ?_)
    have hKK := (hKwy8).trans hk3
    clear hK K
    try simp only [Act.put, List.setIfInBounds_toArray, List.set_cons_zero, List.set_cons_succ]
    refine heldT 17 4 (u3) rfl rfl (by kernel_rfl) (by kernel_rfl) (by kernel_rfl) (fun _ _ _ h => h) (by rfl) hS3 (fun wz hSW => ?_) ?_
    · skip; (try go_simp) <;> (try omega)
    try simp only [Act.put, List.setIfInBounds_toArray, List.set_cons_zero, List.set_cons_succ]
    refine wpAnyH_done (by kernel_rfl) ?_ _
    go_wp2
    go_ret
    exact ⟨_, rfl, hu3, hb3, hK0.trans hKK⟩
end Go.Proofs.YtnklajagefedmaaDoor

namespace Go.Proofs.YtnklajagefedmaaDoor
set_option maxRecDepth 100000
open Go.ChangeShapes Go.WideShapes Go.ChangeAt Go.RowKit
set_option linter.unusedSimpArgs false

/-- Every value that stands for a term is written by its own method. -/
theorem appOk {w0 : World} (hv : Vars w0) : ∀ (t : Tm) (v : Value), t.Lim 9999 → IRep w0 t v → AppOk w0 t v
  | .var n, _, hok, ⟨g, rfl, hg⟩ => ⟨_, _, _, rfl, methVar, fun _ _ _ hb hu hl => appVar n hok hg hv hb hu hl⟩
  | .sort s, _, _, ⟨g, rfl, hg⟩ => ⟨_, _, _, rfl, methSort, fun _ _ _ hb hu hl => appSort s hg hb hu hl⟩
  | .const s ls, _, _, ⟨g, c, rfl, hg, hc⟩ => ⟨_, _, _, rfl, methConst, fun _ _ _ hb hu hl => appConst s hg hc hb hu hl⟩
  | .app f a, _, hok, ⟨g, x, y, rfl, hg, hx, hy⟩ => by
    have h1 := appOk hv f x hok.1 hx
    have h2 := appOk hv a y hok.2 hy
    obtain ⟨T1, x1, rfl⟩ := hx.iface
    obtain ⟨T2, y1, rfl⟩ := hy.iface
    refine ⟨_, _, _, rfl, methApp, fun W u l hb hu hl => ?_⟩
    have e : (Tm.app f a).bytes = 64 :: cat [f, a] := by rw [cat_two]; rfl
    rw [e] at hl ⊢
    exact appApp hg h1 h2 hb hu (by simpa using hl)
  | .lam f a, _, hok, ⟨g, x, y, rfl, hg, hx, hy⟩ => by
    have h1 := appOk hv f x hok.1 hx
    have h2 := appOk hv a y hok.2 hy
    obtain ⟨T1, x1, rfl⟩ := hx.iface
    obtain ⟨T2, y1, rfl⟩ := hy.iface
    refine ⟨_, _, _, rfl, methLam, fun W u l hb hu hl => ?_⟩
    have e : (Tm.lam f a).bytes = 108 :: cat [f, a] := by rw [cat_two]; rfl
    rw [e] at hl ⊢
    exact appLam hg h1 h2 hb hu (by simpa using hl)
  | .pi f a, _, hok, ⟨g, x, y, rfl, hg, hx, hy⟩ => by
    have h1 := appOk hv f x hok.1 hx
    have h2 := appOk hv a y hok.2 hy
    obtain ⟨T1, x1, rfl⟩ := hx.iface
    obtain ⟨T2, y1, rfl⟩ := hy.iface
    refine ⟨_, _, _, rfl, methPi, fun W u l hb hu hl => ?_⟩
    have e : (Tm.pi f a).bytes = 112 :: cat [f, a] := by rw [cat_two]; rfl
    rw [e] at hl ⊢
    exact appPi hg h1 h2 hb hu (by simpa using hl)
  | .lett f a b, _, hok, ⟨g, x, y, z, rfl, hg, hx, hy, hz⟩ => by
    have h1 := appOk hv f x hok.1 hx
    have h2 := appOk hv a y hok.2.1 hy
    have h3 := appOk hv b z hok.2.2 hz
    obtain ⟨T1, x1, rfl⟩ := hx.iface
    obtain ⟨T2, y1, rfl⟩ := hy.iface
    obtain ⟨T3, z1, rfl⟩ := hz.iface
    refine ⟨_, _, _, rfl, methLet, fun W u l hb hu hl => ?_⟩
    have e : (Tm.lett f a b).bytes = 116 :: cat [f, a, b] := by rw [cat_three]; rfl
    rw [e] at hl ⊢
    exact appLet hg h1 h2 h3 hb hu (by simpa using hl)
theorem implText {w0 : World} (hv : Vars w0) {t : Tm} {v : Value} (hok : t.Lim 9999) (hr : IRep w0 t v) (hl : t.bytes.length ≤ 100000000) :
    Calls Tryd.prog 50 #[v] w0 fun e W' => e = .returned (.string ⟨t.bytes.toArray⟩) ∧ Below w0.heap.size w0 W' := by
  obtain ⟨T, x, fn, rfl, hm, hc⟩ := appOk hv t v hok hr
  exact implTextOf hm (hc w0 (.slice none 0 0) [] (Below.refl _ _) (World.ownsRow_nil _ _ _ _) (by simpa using hl))
theorem implVarText (n : Int) (W : World) (hv : Vars W) :
    Calls Tryd.prog 25 #[.int .i64 n] W fun e W' => e = .returned (.string ⟨(varText n).toArray⟩) ∧ Below W.heap.size W W' := by
  by_cases h : 0 ≤ n ∧ n ≤ 999
  · obtain ⟨u, rfl⟩ : ∃ u : Nat, n = (u : Int) := ⟨n.toNat, by omega⟩
    have HE : Hid (varText (u : Int) = (Tm.var u).bytes) := by rw [Hid, varText, if_pos h]; rfl
    have hok : (Tm.var u).Lim 9999 := by show u ≤ 9999; omega
    have hle : (Tm.var u).bytes.length ≤ 100000000 := by
      have := digits_len (u := u) (by omega)
      simp only [Tm.bytes, List.length_cons, List.length_append, List.length_nil]
      omega
    have hb0 := Below.alloc (Below.refl W.heap.size W) (Nat.le_refl _) (.cells #[.int .i64 (u : Int)] 67)
    have f1 := Lib.hid (implText (hv.below hb0) (t := .var u) (v := .iface 65 (.pointer (some ⟨W.heap.size, 0, none⟩))) hok ⟨_, rfl, heap_alloc_new _ _⟩ hle)
    have HB0 := Lib.hid hb0
    have d1 : decide ((999 : Int) < (u : Int)) = false := decide_eq_false (by omega)
    have d2 : decide ((u : Int) < 0) = false := decide_eq_false (by omega)
    generalize (Tm.var u).bytes = tb at f1 HE
    clear h hok hle hv hb0
    go_enter Tryd.func25, Tryd.ntmps25
    go_wp2_with fail
    (with_reducible refine f1.out.mono ?_); rintro e w1 ⟨rfl, hb⟩
    have HB := Lib.hid (HB0.out.trans (hb.mono HB0.out.size))
    clear hb
    go_wp2
    go_ret
    rw [HE.out]
    exact ⟨rfl, HB.out⟩
  · have HE : Hid (varText n = []) := by rw [Hid, varText, if_neg h]
    clear hv
    by_cases h0 : n < 0
    · have d1 : decide (n < 0) = true := decide_eq_true h0
      clear h
      go_enter Tryd.func25, Tryd.ntmps25
      go_wp2
      go_ret
      rw [HE.out]
      exact ⟨rfl, Below.refl _ _⟩
    · have d1 : decide (n < 0) = false := decide_eq_false h0
      have d2 : decide ((999 : Int) < n) = true := decide_eq_true (by omega)
      clear h
      go_enter Tryd.func25, Tryd.ntmps25
      go_wp2
      go_ret
      rw [HE.out]
      exact ⟨rfl, Below.refl _ _⟩
end Go.Proofs.YtnklajagefedmaaDoor

namespace Go.Proofs.YtnklajagefedmaaDoor
set_option maxRecDepth 100000
open Go.ChangeShapes Go.WideShapes Go.ChangeAt Go.RowKit
set_option linter.unusedSimpArgs false

theorem Tm.parts_ok : ∀ (t : Tm), t.Ok → ∀ p ∈ t.parts, p.Ok
  | .var _, _, p, h => by simp [Tm.parts] at h
  | .sort _, _, p, h => by simp [Tm.parts] at h
  | .const _ _, _, p, h => by simp [Tm.parts] at h
  | .app a b, k, p, h => by
    simp only [Tm.parts, List.mem_cons, List.not_mem_nil, or_false] at h
    rcases h with rfl | rfl
    · exact k.1
    · exact k.2
  | .lam a b, k, p, h => by
    simp only [Tm.parts, List.mem_cons, List.not_mem_nil, or_false] at h
    rcases h with rfl | rfl
    · exact k.1
    · exact k.2
  | .pi a b, k, p, h => by
    simp only [Tm.parts, List.mem_cons, List.not_mem_nil, or_false] at h
    rcases h with rfl | rfl
    · exact k.1
    · exact k.2
  | .lett a b c, k, p, h => by
    simp only [Tm.parts, List.mem_cons, List.not_mem_nil, or_false] at h
    rcases h with rfl | rfl | rfl
    · exact k.1
    · exact k.2.1
    · exact k.2.2
theorem Tm.parts_short : ∀ (t : Tm), ∀ p ∈ t.parts, p.bytes.length ≤ t.bytes.length
  | .var _, p, h => by simp [Tm.parts] at h
  | .sort _, p, h => by simp [Tm.parts] at h
  | .const _ _, p, h => by simp [Tm.parts] at h
  | .app a b, p, h => by
    simp only [Tm.parts, List.mem_cons, List.not_mem_nil, or_false] at h
    rcases h with rfl | rfl <;> simp only [Tm.bytes, List.length_cons, List.length_append] <;> omega
  | .lam a b, p, h => by
    simp only [Tm.parts, List.mem_cons, List.not_mem_nil, or_false] at h
    rcases h with rfl | rfl <;> simp only [Tm.bytes, List.length_cons, List.length_append] <;> omega
  | .pi a b, p, h => by
    simp only [Tm.parts, List.mem_cons, List.not_mem_nil, or_false] at h
    rcases h with rfl | rfl <;> simp only [Tm.bytes, List.length_cons, List.length_append] <;> omega
  | .lett a b c, p, h => by
    simp only [Tm.parts, List.mem_cons, List.not_mem_nil, or_false] at h
    rcases h with rfl | rfl | rfl <;> simp only [Tm.bytes, List.length_cons, List.length_append] <;> omega

set_option maxHeartbeats 4000000 in
theorem implTermParts (s : ByteArray) (W : World) (hv : Vars W) (hs : s.size ≤ maxLen) :
    Calls Tryd.prog 18 #[.string s] W (LRes' (termParts s.data.toList) W) := by
  have f1 := Lib.hid (implReadTerm s W hv hs)
  have HV := Lib.hid hv
  clear hv hs
  go_enter Tryd.func18, Tryd.ntmps18
  go_wp2_with fail
  (with_reducible refine f1.out.mono ?_); rintro e w1 ⟨hb, ⟨t, v, ht, rfl, hr⟩ | ⟨hno, rfl⟩⟩
  rotate_left
  · have HB := Lib.hid hb
    have HE : Hid (termParts s.data.toList = []) := by rw [Hid, termParts, termOf_none hno]
    clear hb hno f1
    go_wp2
    go_ret
    rw [HE.out]
    exact ⟨_, rfl, World.ownsRow_nil _ _ _ _, HB.out⟩
  have HE : Hid (termParts s.data.toList = t.parts.map Tm.bytes) := by rw [Hid, termParts, termOf_some ht]
  have h2 := ht.2.2
  rw [← ht.2.1] at h2
  have f2 := Lib.hid (implPartsOf hr)
  unfold PartsAns at f2
  have HP : Hid (∀ p ∈ t.parts, p.Ok ∧ p.bytes.length ≤ 100000000) := fun p hp => ⟨t.parts_ok ht.1 p hp, by have := t.parts_short p hp; omega⟩
  have hl3 := t.parts_le
  obtain ⟨T, x, rfl⟩ := hr.iface
  have HB := Lib.hid hb
  generalize t.parts = ts at f2 HE HP hl3
  clear hb ht hr f1 h2
  go_wp2_with fail
  (with_reducible refine f2.out.mono ?_); rintro e w2 ⟨u, vs, rfl, hu, hrs, hb2⟩
  obtain ⟨ua, uc, rfl⟩ := row_slice hu
  obtain ⟨i0, hi, hz0, hz1, hz2⟩ := info_parts infoStr
  have hvl := hrs.len
  have hv1 : vs.length ≤ ts.length := by omega
  have hv2 : ts.length ≤ vs.length := by omega
  have HU := Lib.hid hu
  have HRS := Lib.hid hrs
  have HB2 := Lib.hid (HB.out.trans (hb2.mono HB.out.size))
  have hzw2 := HB2.out.size
  clear hu hrs hb2 f2 HB hvl
  go_wp2
  go_loopw [5, 18] (fun o i wr => ∃ (k : Nat) (oo : Value), k ≤ ts.length ∧ i = .int .i64 k ∧ oo = o ∧ wr.ownsRow w2.heap.size 9 1 oo k ((ts.take k).map fun p => sv p.bytes) ∧ Below w2.heap.size w2 wr) (fun _ i _ => ts.length - (intOf i).toNat)
  case atStart => exact ⟨0, _, Nat.zero_le _, rfl, rfl, World.ownsRow_nil _ _ _ _, Below.refl _ _⟩
  case round =>
    obtain ⟨k, oo, hk, rfl, rfl, hown, hbr⟩ := hrel
    by_cases hlt : k < ts.length
    · have hu2 := own_below HU.out hbr
      obtain ⟨g, cap', e0, _, hgl⟩ := hu2.form (by omega)
      cases e0
      have ex : vs[k]? = some vs[k] := by simp
      have cc := (hu2.cellAt k (by omega)).trans ex
      have hr := (HRS.out.below hbr).at k hlt (by omega)
      have hp := HP.out ts[k] (List.getElem_mem hlt)
      have hbw : Below W.heap.size W wr := HB2.out.trans (hbr.mono HB2.out.size)
      have f3 := Lib.hid (implText (HV.out.below hbw) hp.1.lim9 hr hp.2)
      have hzr := hbw.size
      have HBW := Lib.hid hbw
      have HBR := Lib.hid hbr
      have HO := Lib.hid hown
      have htk : Hid ((ts.take (k + 1)).map (fun p => sv p.bytes) = (ts.take k).map (fun p => sv p.bytes) ++ [sv ts[k].bytes]) := by
        rw [Hid, List.take_succ_eq_append_getElem hlt, List.map_append]
        rfl
      obtain ⟨T3, x3, hv3⟩ := hr.iface
      rw [hv3] at f3 cc
      have q1 : (0 : Int) ≤ (k : Int) := by omega
      have q2 : (k : Int) < (ts.length : Int) := by omega
      generalize ts[k].bytes = tb at f3 htk
      clear ex hu2 hr hp hbw hbr hown hv3
      go_wp2_with fail
      (with_reducible refine f3.out.mono ?_); rintro e w3 ⟨rfl, hb3⟩
      have ho3 := own_below HO.out hb3
      have HB3 := Lib.hid (HBR.out.trans (hb3.mono HBR.out.size))
      have hB3 := HBW.out.trans (hb3.mono HBW.out.size)
      have hz3 := hB3.size
      have hz23 := HB3.out.size
      clear hb3 HO HBR HBW f3
      go_wp2_with (at_builtin; refine wpList_append_own _ rfl _ _ 27 rfl w2.heap.size 9 i0 _ 1 16 Tryd.underlying27 hi hz0 hz1 hz2 rfl (by decide) _ _ _ rfl (ho3.alloc _) ⟨w3.heap.size, 0, none⟩ 1 1 [.string ⟨tb.toArray⟩] rfl rfl (oneNew _ _ _) (by simp [Value.oneCell']) (by simp only [maxLen]; omega) (by omega) (by simp; omega) ?_)
      intro v4 w4 ho4 hg4 _
      have HO4 : Hid (w4.ownsRow w2.heap.size 9 1 v4 (k + 1) ((ts.take (k + 1)).map fun p => sv p.bytes)) := by
        rw [Hid, htk.out, List.map_take]
        exact ho4
      have HB4 : Hid (Below w2.heap.size w2 w4) := (HB3.out.alloc HB3.out.size _).grown hg4 (by simp; have := HB3.out.size; omega) (fun j hj => (ho3.lt j hj).1)
      clear ho4 hg4 ho3 htk
      go_wp2
      go_roundw
      case rel => exact ⟨k + 1, _, by omega, by go_num, rfl, HO4.out, HB4.out⟩
      case measure => simp [intOf]; omega
    · have hkk : k = ts.length := by omega
      have hbw : Below W.heap.size W wr := HB2.out.trans (hbr.mono HB2.out.size)
      have HBW := Lib.hid hbw
      have HO : Hid (wr.ownsRow W.heap.size 9 1 oo (termParts s.data.toList).length ((termParts s.data.toList).map sv)) := by
        have h1 := own_base hown hzw2
        rw [hkk, List.take_length] at h1
        rw [Hid, HE.out, List.length_map, List.map_map]
        exact h1
      have d1 : decide ((k : Int) < (ts.length : Int)) = false := decide_eq_false (by omega)
      clear hbw hbr hown hkk
      go_wp2
      go_ret
      exact ⟨_, rfl, HO.out, HBW.out⟩
end Go.Proofs.YtnklajagefedmaaDoor
