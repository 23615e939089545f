/-
  Terms written out: the methods appendTo of terms with parts.
  The contract of impl.textOf at every term, and of impl.VarText.
-/
import Derived.Test.YtgmjbdndffdpoaaGreatDoorM4
import Derived.Test.YtgmjbdndffdpoaaGreatDoorTTextP
namespace Go.Proofs.YtgmjbdndffdpoaaGreatDoor
set_option maxRecDepth 100000
open Go.ChangeShapes Go.WideShapes Go.ChangeAt Go.RowKit
set_option linter.unusedSimpArgs false

theorem cat_two (a b : Tm) : cat [a, b] = a.bytes ++ b.bytes := by simp [cat]
theorem cat_three (a b c : Tm) : cat [a, b, c] = a.bytes ++ (b.bytes ++ c.bytes) := by simp [cat]
theorem two_le (a b : Tm) : [a, b].length ≤ 3 := by simp
theorem three_le (a b c : Tm) : [a, b, c].length ≤ 3 := by simp
theorem KeepT.drew {W w : World} (h : KeepT W w) : KeepT W w.drew := h

set_option maxHeartbeats 2000000 in
theorem appApp {w0 W : World} {g0 : Nat} {t0 t1 : Tm} {T0 T1 : TypeId} {x0 x1 : Value} {u : Value} {l : List UInt8}
    (hg : w0.heap[g0]? = some (.cells #[.iface T0 x0, .iface T1 x1] 77 (0, 0))) (qa0 : AppOk w0 t0 (.iface T0 x0)) (qa1 : AppOk w0 t1 (.iface T1 x1)) (hb : Below w0.heap.size w0 W) (hu : W.ownsRow w0.heap.size 5 1 u l.length (l.map bv)) (hl : l.length + ((cat [t0, t1]).length + 1) ≤ 100000000) :
    Calls Tryz.prog 163 #[.pointer (some ⟨g0, 0, none⟩), u] W (AppAns w0 W (l ++ 64 :: cat [t0, t1])) := by
  obtain ⟨i0, hi, hz0, hz1, hz2⟩ := info_parts infoByteT
  have HL : Hid (l ++ 64 :: cat [t0, t1] = (l ++ [64]) ++ cat [t0, t1]) := by simp [Hid]
  have HA : ∀ k (h : k < [t0, t1].length) (h2 : k < ([.iface T0 x0, .iface T1 x1] : List Value).length), AppOk w0 [t0, t1][k] ([.iface T0 x0, .iface T1 x1] : List Value)[k] := fun k h h2 => by
    match k, h, h2 with
    | 0, _, _ => exact qa0
    | 1, _, _ => exact qa1
    | k + 2, h, _ => exact absurd h (by simp only [List.length_cons, List.length_nil]; omega)
  have f1 := Lib.hid fun (Wc : World) (b : Nat) (s u2 : Value) (hbc : Below w0.heap.size w0 Wc) (hs : Wc.ownsRow b 42 1 s 2 [.iface T0 x0, .iface T1 x1]) (hu2 : Wc.ownsRow w0.heap.size 5 1 u2 (l.length + 1) (l.map bv ++ [.int .u8 64])) =>
    appTerms (w0 := w0) (ts := [t0, t1]) (vs := [.iface T0 x0, .iface T1 x1]) (l := l ++ [64]) rfl (two_le t0 t1) HA hbc hs (by simpa [bv] using hu2) (by simp; omega)
  rw [HL.out]
  generalize (l ++ [64]) ++ cat [t0, t1] = out at f1
  have hB0 := hb
  have hK0 := KeepT.refl W
  have hu0 := hu
  have blk0 := blk_below hg hb
  clear qa0 qa1 hb hu HL HA hg
  go_enter Tryz.func163, Tryz.ntmps163
  go_wp2_with fail
  refine wp_region_held_drew (S := fun w' => KeepT W w') (by kernel_rfl) (KeepT.refl W).drew (fun hS0 => ?_)
  have hB1 : Below w0.heap.size w0 W.drew := hB0.drew
  have hu1 := own_drew hu0 1
  have hu1 : W.drew.ownsRow w0.heap.size 5 1 u l.length (l.map bv) := hu0
  generalize W.drew = w1 at hS0 hB1 hu1 ⊢
  clear hB0 hu0
  refine heldT 0 5 (u) rfl rfl (by kernel_rfl) (by kernel_rfl) (by kernel_rfl) (fun _ _ _ h => h) (by rfl) hS0 (fun wz hSW => ?_) ?_
  · skip; (try go_simp) <;> (try omega)
  try simp only [Act.put, List.setIfInBounds_toArray, List.set_cons_zero, List.set_cons_succ]
  refine heldT 3 8 (.pointer (some ⟨g0, 0, none⟩)) rfl rfl (by kernel_rfl) (by kernel_rfl) (by kernel_rfl) (fun _ _ _ h => h) (by rfl) hS0 (fun wz hSW => ?_) ?_
  · skip; (try go_simp) <;> (try omega)
  try simp only [Act.put, List.setIfInBounds_toArray, List.set_cons_zero, List.set_cons_succ]
  refine heldT 4 9 (.pointer (some ⟨g0, 0, none⟩)) rfl rfl (by kernel_rfl) (by kernel_rfl) (by kernel_rfl) (fun _ _ _ h => h) (by rfl) hS0 (fun wz hSW => ?_) ?_
  · skip; (try go_simp) <;> (try omega)
  try simp only [Act.put, List.setIfInBounds_toArray, List.set_cons_zero, List.set_cons_succ]
  refine heldT 5 10 (.pointer (some ⟨g0, 0, none⟩)) rfl rfl (by kernel_rfl) (by kernel_rfl) (by kernel_rfl) (fun _ _ _ h => h) (by rfl) hS0 (fun wz hSW => ?_) ?_
  · skip; (try go_simp) <;> (try omega)
  try simp only [Act.put, List.setIfInBounds_toArray, List.set_cons_zero, List.set_cons_succ]
  refine heldT 6 11 (.iface T0 x0) rfl rfl (by kernel_rfl) (by kernel_rfl) (by kernel_rfl) (fun _ _ _ h => h) (by rfl) hS0 (fun wz hSW => ?_) ?_
  · have y0 : wz.cell? ⟨g0, 0, none⟩ = some (.iface T0 x0) := (by rw [Lib.cell_of_heap (hSW _ _ _ _ (by decide) blk0)]; rfl); (try go_simp) <;> (try omega)
  try simp only [Act.put, List.setIfInBounds_toArray, List.set_cons_zero, List.set_cons_succ]
  refine heldT 7 12 (.pointer (some ⟨g0, 0, none⟩)) rfl rfl (by kernel_rfl) (by kernel_rfl) (by kernel_rfl) (fun _ _ _ h => h) (by rfl) hS0 (fun wz hSW => ?_) ?_
  · skip; (try go_simp) <;> (try omega)
  try simp only [Act.put, List.setIfInBounds_toArray, List.set_cons_zero, List.set_cons_succ]
  refine heldT 8 13 (.pointer (some ⟨g0, 0, none⟩)) rfl rfl (by kernel_rfl) (by kernel_rfl) (by kernel_rfl) (fun _ _ _ h => h) (by rfl) hS0 (fun wz hSW => ?_) ?_
  · skip; (try go_simp) <;> (try omega)
  try simp only [Act.put, List.setIfInBounds_toArray, List.set_cons_zero, List.set_cons_succ]
  refine heldT 9 14 (.pointer (some ⟨g0, 1, none⟩)) rfl rfl (by kernel_rfl) (by kernel_rfl) (by kernel_rfl) (fun _ _ _ h => h) (by rfl) hS0 (fun wz hSW => ?_) ?_
  · skip; (try go_simp) <;> (try omega)
  try simp only [Act.put, List.setIfInBounds_toArray, List.set_cons_zero, List.set_cons_succ]
  refine heldT 10 15 (.iface T1 x1) rfl rfl (by kernel_rfl) (by kernel_rfl) (by kernel_rfl) (fun _ _ _ h => h) (by rfl) hS0 (fun wz hSW => ?_) ?_
  · have y1 : wz.cell? ⟨g0, 1, none⟩ = some (.iface T1 x1) := (by rw [Lib.cell_of_heap (hSW _ _ _ _ (by decide) blk0)]; rfl); (try go_simp) <;> (try omega)
  try simp only [Act.put, List.setIfInBounds_toArray, List.set_cons_zero, List.set_cons_succ]
  refine wpAnyH_ready (rs := [1, 11]) (by kernel_rfl) (by simp) (AllReadyH.cons rfl (fun K hK => ?_) (AllReadyH.cons rfl (fun K hK => ?_) AllReadyH.nil))
  · rw [if_pos (by rfl)]
    go_simp
    refine hK.out _ _ (hS0.alloc _) (fun hSwy1 => ?_)
    clear hK K
    have hBwy1 := hB1.alloc hB1.size (.cells #[.int .u8 64] 5)
    have huwy1 := hu1.alloc (.cells #[.int .u8 64] 5)
    have rb := World.ownsRow_lit (base := 0) (e := 5) (size := 1) w1 #[.int .u8 64] 1 (Nat.zero_le _) (by decide) (by simp)
    obtain ⟨gb, hgb⟩ : ∃ gb, w1.heap.size = gb := ⟨_, rfl⟩
    rw [hgb] at rb ⊢
    generalize w1.alloc (.cells #[.int .u8 64] 5) = wy1 at rb hSwy1 hBwy1 huwy1 ⊢
    try simp only [Act.put, List.setIfInBounds_toArray, List.set_cons_zero, List.set_cons_succ]
    refine wpAnyH_ready (rs := [2, 11]) (by kernel_rfl) (by simp) (AllReadyH.cons rfl (fun K hK => ?_) (AllReadyH.cons rfl (fun K hK => ?_) AllReadyH.nil))
    · rw [if_pos (by rfl)]
      refine wp_append_own _ _ _ 22 rfl w0.heap.size 5 i0 _ 1 1 Tryz.underlying22 hi hz0 hz1 hz2 rfl (by decide) u l.length (l.map bv) rfl huwy1 ⟨gb, 0, none⟩ 1 1 [.int .u8 64] rfl rfl (rb.cells rfl) (by simp [Value.oneCell']) (by unfold maxLen; omega) (by omega) hBwy1.size ?_
      intro u2 wy2 hnwy2 hgwy2 _
      change K (Act.put _ (some 7) u2) wy2
      have hBwy2 := below_row hBwy1 huwy1 hgwy2
      have hKwy2 := keep_row hSwy1 huwy1 hgwy2
      refine hK.out _ _ hKwy2 (fun _ => ?_)
      clear hK K hgwy2
      try dsimp only
      try simp only [Act.put, List.setIfInBounds_toArray, List.set_cons_zero, List.set_cons_succ]
      refine wpAnyH_ready (rs := [11]) (by kernel_rfl) (by simp) (AllReadyH.cons rfl (fun K hK => ?_) AllReadyH.nil)
      rw [if_pos (by rfl)]
      go_simp
      refine hK.out _ _ (hKwy2.alloc _) (fun hSwy3 => ?_)
      clear hK K
      have hBwy3 := hBwy2.alloc hBwy2.size (.cells #[.iface T0 x0, .iface T1 x1] 42)
      have hswy3 := World.ownsRow_lit (base := 0) (e := 42) (size := 1) wy2 #[.iface T0 x0, .iface T1 x1] 2 (Nat.zero_le _) (by decide) (by simp)
      have hnwy3 := hnwy2.alloc (.cells #[.iface T0 x0, .iface T1 x1] 42)
      obtain ⟨gt, hgt⟩ : ∃ gt, wy2.heap.size = gt := ⟨_, rfl⟩
      rw [hgt] at hswy3 ⊢
      generalize wy2.alloc (.cells #[.iface T0 x0, .iface T1 x1] 42) = wy3 at hswy3 hSwy3 hBwy3 hnwy3 ⊢
      try simp only [Act.put, List.setIfInBounds_toArray, List.set_cons_zero, List.set_cons_succ]
      refine wpAnyH_ready (rs := [12]) (by kernel_rfl) (by simp) (AllReadyH.cons rfl (fun K hK => ?_) AllReadyH.nil)
      rw [if_pos (by rfl)]
      go_simp
      (with_reducible refine (f1.out _ _ _ _ hBwy3 hswy3 hnwy3).mono ?_); rintro e w3 ⟨u3, rfl, hu3, hb3, hk3⟩
      refine hK.out _ _ (hSwy3.trans hk3) (fun hS3 => ?_)
      have hKK := (hSwy3).trans hk3
      clear hK K
      try simp only [Act.put, List.setIfInBounds_toArray, List.set_cons_zero, List.set_cons_succ]
      refine heldT 13 4 (u3) rfl rfl (by kernel_rfl) (by kernel_rfl) (by kernel_rfl) (fun _ _ _ h => h) (by rfl) hS3 (fun wz hSW => ?_) ?_
      · skip; (try go_simp) <;> (try omega)
      try simp only [Act.put, List.setIfInBounds_toArray, List.set_cons_zero, List.set_cons_succ]
      refine wpAnyH_done (by kernel_rfl) ?_ _
      go_wp2
      go_ret
      exact ⟨_, rfl, hu3, hb3, hK0.trans hKK⟩
    · rw [if_pos (by rfl)]
      go_simp
      refine hK.out _ _ (hSwy1.alloc _) (fun hSwy4 => ?_)
      clear hK K
      have hBwy4 := hBwy1.alloc hBwy1.size (.cells #[.iface T0 x0, .iface T1 x1] 42)
      have hswy4 := World.ownsRow_lit (base := 0) (e := 42) (size := 1) wy1 #[.iface T0 x0, .iface T1 x1] 2 (Nat.zero_le _) (by decide) (by simp)
      have huwy4 := huwy1.alloc (.cells #[.iface T0 x0, .iface T1 x1] 42)
      have rbwy4 := rb.alloc (.cells #[.iface T0 x0, .iface T1 x1] 42)
      obtain ⟨gt, hgt⟩ : ∃ gt, wy1.heap.size = gt := ⟨_, rfl⟩
      rw [hgt] at hswy4 ⊢
      generalize wy1.alloc (.cells #[.iface T0 x0, .iface T1 x1] 42) = wy4 at hswy4 hSwy4 hBwy4 huwy4 rbwy4 ⊢
      try simp only [Act.put, List.setIfInBounds_toArray, List.set_cons_zero, List.set_cons_succ]
      refine wpAnyH_ready (rs := [2]) (by kernel_rfl) (by simp) (AllReadyH.cons rfl (fun K hK => ?_) AllReadyH.nil)
      rw [if_pos (by rfl)]
      refine wp_append_own _ _ _ 22 rfl w0.heap.size 5 i0 _ 1 1 Tryz.underlying22 hi hz0 hz1 hz2 rfl (by decide) u l.length (l.map bv) rfl huwy4 ⟨gb, 0, none⟩ 1 1 [.int .u8 64] rfl rfl (rbwy4.cells rfl) (by simp [Value.oneCell']) (by unfold maxLen; omega) (by omega) hBwy4.size ?_
      intro u2 wy5 hnwy5 hgwy5 _
      change K (Act.put _ (some 7) u2) wy5
      have hBwy5 := below_row hBwy4 huwy4 hgwy5
      have hKwy5 := keep_row hSwy4 huwy4 hgwy5
      have hswy5 := (keep_row (KeepT.refl _) huwy4 hgwy5).row hswy4 (by decide)
      refine hK.out _ _ hKwy5 (fun _ => ?_)
      clear hK K hgwy5
      try dsimp only
      try simp only [Act.put, List.setIfInBounds_toArray, List.set_cons_zero, List.set_cons_succ]
      refine wpAnyH_ready (rs := [12]) (by kernel_rfl) (by simp) (AllReadyH.cons rfl (fun K hK => ?_) AllReadyH.nil)
      rw [if_pos (by rfl)]
      go_simp
      (with_reducible refine (f1.out _ _ _ _ hBwy5 hswy5 hnwy5).mono ?_); rintro e w3 ⟨u3, rfl, hu3, hb3, hk3⟩
      refine hK.out _ _ (hKwy5.trans hk3) (fun hS3 => ?_)
      have hKK := (hKwy5).trans hk3
      clear hK K
      try simp only [Act.put, List.setIfInBounds_toArray, List.set_cons_zero, List.set_cons_succ]
      refine heldT 13 4 (u3) rfl rfl (by kernel_rfl) (by kernel_rfl) (by kernel_rfl) (fun _ _ _ h => h) (by rfl) hS3 (fun wz hSW => ?_) ?_
      · skip; (try go_simp) <;> (try omega)
      try simp only [Act.put, List.setIfInBounds_toArray, List.set_cons_zero, List.set_cons_succ]
      refine wpAnyH_done (by kernel_rfl) ?_ _
      go_wp2
      go_ret
      exact ⟨_, rfl, hu3, hb3, hK0.trans hKK⟩
  · rw [if_pos (by rfl)]
    go_simp
    refine hK.out _ _ (hS0.alloc _) (fun hSwy6 => ?_)
    clear hK K
    have hBwy6 := hB1.alloc hB1.size (.cells #[.iface T0 x0, .iface T1 x1] 42)
    have hswy6 := World.ownsRow_lit (base := 0) (e := 42) (size := 1) w1 #[.iface T0 x0, .iface T1 x1] 2 (Nat.zero_le _) (by decide) (by simp)
    have huwy6 := hu1.alloc (.cells #[.iface T0 x0, .iface T1 x1] 42)
    obtain ⟨gt, hgt⟩ : ∃ gt, w1.heap.size = gt := ⟨_, rfl⟩
    rw [hgt] at hswy6 ⊢
    generalize w1.alloc (.cells #[.iface T0 x0, .iface T1 x1] 42) = wy6 at hswy6 hSwy6 hBwy6 huwy6 ⊢
    try simp only [Act.put, List.setIfInBounds_toArray, List.set_cons_zero, List.set_cons_succ]
    refine wpAnyH_ready (rs := [1]) (by kernel_rfl) (by simp) (AllReadyH.cons rfl (fun K hK => ?_) AllReadyH.nil)
    rw [if_pos (by rfl)]
    go_simp
    refine hK.out _ _ (hSwy6.alloc _) (fun hSwy7 => ?_)
    clear hK K
    have hBwy7 := hBwy6.alloc hBwy6.size (.cells #[.int .u8 64] 5)
    have huwy7 := huwy6.alloc (.cells #[.int .u8 64] 5)
    have rb := World.ownsRow_lit (base := 0) (e := 5) (size := 1) wy6 #[.int .u8 64] 1 (Nat.zero_le _) (by decide) (by simp)
    have hswy7 := hswy6.alloc (.cells #[.int .u8 64] 5)
    obtain ⟨gb, hgb⟩ : ∃ gb, wy6.heap.size = gb := ⟨_, rfl⟩
    rw [hgb] at rb ⊢
    generalize wy6.alloc (.cells #[.int .u8 64] 5) = wy7 at rb hSwy7 hBwy7 huwy7 hswy7 ⊢
    try simp only [Act.put, List.setIfInBounds_toArray, List.set_cons_zero, List.set_cons_succ]
    refine wpAnyH_ready (rs := [2]) (by kernel_rfl) (by simp) (AllReadyH.cons rfl (fun K hK => ?_) AllReadyH.nil)
    rw [if_pos (by rfl)]
    refine wp_append_own _ _ _ 22 rfl w0.heap.size 5 i0 _ 1 1 Tryz.underlying22 hi hz0 hz1 hz2 rfl (by decide) u l.length (l.map bv) rfl huwy7 ⟨gb, 0, none⟩ 1 1 [.int .u8 64] rfl rfl (rb.cells rfl) (by simp [Value.oneCell']) (by unfold maxLen; omega) (by omega) hBwy7.size ?_
    intro u2 wy8 hnwy8 hgwy8 _
    change K (Act.put _ (some 7) u2) wy8
    have hBwy8 := below_row hBwy7 huwy7 hgwy8
    have hKwy8 := keep_row hSwy7 huwy7 hgwy8
    have hswy8 := (keep_row (KeepT.refl _) huwy7 hgwy8).row hswy7 (by decide)
    refine hK.out _ _ hKwy8 (fun _ => ?_)
    clear hK K hgwy8
    try dsimp only
    try simp only [Act.put, List.setIfInBounds_toArray, List.set_cons_zero, List.set_cons_succ]
    refine wpAnyH_ready (rs := [12]) (by kernel_rfl) (by simp) (AllReadyH.cons rfl (fun K hK => ?_) AllReadyH.nil)
    rw [if_pos (by rfl)]
    go_simp
    (with_reducible refine (f1.out _ _ _ _ hBwy8 hswy8 hnwy8).mono ?_); rintro e w3 ⟨u3, rfl, hu3, hb3, hk3⟩
    refine hK.out _ _ (hKwy8.trans hk3) (fun hS3 => ?_)
    have hKK := (hKwy8).trans hk3
    clear hK K
    try simp only [Act.put, List.setIfInBounds_toArray, List.set_cons_zero, List.set_cons_succ]
    refine heldT 13 4 (u3) rfl rfl (by kernel_rfl) (by kernel_rfl) (by kernel_rfl) (fun _ _ _ h => h) (by rfl) hS3 (fun wz hSW => ?_) ?_
    · skip; (try go_simp) <;> (try omega)
    try simp only [Act.put, List.setIfInBounds_toArray, List.set_cons_zero, List.set_cons_succ]
    refine wpAnyH_done (by kernel_rfl) ?_ _
    go_wp2
    go_ret
    exact ⟨_, rfl, hu3, hb3, hK0.trans hKK⟩

set_option maxHeartbeats 2000000 in
theorem appLam {w0 W : World} {g0 : Nat} {t0 t1 : Tm} {T0 T1 : TypeId} {x0 x1 : Value} {u : Value} {l : List UInt8}
    (hg : w0.heap[g0]? = some (.cells #[.iface T0 x0, .iface T1 x1] 109 (0, 0))) (qa0 : AppOk w0 t0 (.iface T0 x0)) (qa1 : AppOk w0 t1 (.iface T1 x1)) (hb : Below w0.heap.size w0 W) (hu : W.ownsRow w0.heap.size 5 1 u l.length (l.map bv)) (hl : l.length + ((cat [t0, t1]).length + 1) ≤ 100000000) :
    Calls Tryz.prog 170 #[.pointer (some ⟨g0, 0, none⟩), u] W (AppAns w0 W (l ++ 108 :: cat [t0, t1])) := by
  obtain ⟨i0, hi, hz0, hz1, hz2⟩ := info_parts infoByteT
  have HL : Hid (l ++ 108 :: cat [t0, t1] = (l ++ [108]) ++ cat [t0, t1]) := by simp [Hid]
  have HA : ∀ k (h : k < [t0, t1].length) (h2 : k < ([.iface T0 x0, .iface T1 x1] : List Value).length), AppOk w0 [t0, t1][k] ([.iface T0 x0, .iface T1 x1] : List Value)[k] := fun k h h2 => by
    match k, h, h2 with
    | 0, _, _ => exact qa0
    | 1, _, _ => exact qa1
    | k + 2, h, _ => exact absurd h (by simp only [List.length_cons, List.length_nil]; omega)
  have f1 := Lib.hid fun (Wc : World) (b : Nat) (s u2 : Value) (hbc : Below w0.heap.size w0 Wc) (hs : Wc.ownsRow b 42 1 s 2 [.iface T0 x0, .iface T1 x1]) (hu2 : Wc.ownsRow w0.heap.size 5 1 u2 (l.length + 1) (l.map bv ++ [.int .u8 108])) =>
    appTerms (w0 := w0) (ts := [t0, t1]) (vs := [.iface T0 x0, .iface T1 x1]) (l := l ++ [108]) rfl (two_le t0 t1) HA hbc hs (by simpa [bv] using hu2) (by simp; omega)
  rw [HL.out]
  generalize (l ++ [108]) ++ cat [t0, t1] = out at f1
  have hB0 := hb
  have hK0 := KeepT.refl W
  have hu0 := hu
  have blk0 := blk_below hg hb
  clear qa0 qa1 hb hu HL HA hg
  go_enter Tryz.func170, Tryz.ntmps170
  go_wp2_with fail
  refine wp_region_held_drew (S := fun w' => KeepT W w') (by kernel_rfl) (KeepT.refl W).drew (fun hS0 => ?_)
  have hB1 : Below w0.heap.size w0 W.drew := hB0.drew
  have hu1 := own_drew hu0 1
  have hu1 : W.drew.ownsRow w0.heap.size 5 1 u l.length (l.map bv) := hu0
  generalize W.drew = w1 at hS0 hB1 hu1 ⊢
  clear hB0 hu0
  refine heldT 0 5 (u) rfl rfl (by kernel_rfl) (by kernel_rfl) (by kernel_rfl) (fun _ _ _ h => h) (by rfl) hS0 (fun wz hSW => ?_) ?_
  · skip; (try go_simp) <;> (try omega)
  try simp only [Act.put, List.setIfInBounds_toArray, List.set_cons_zero, List.set_cons_succ]
  refine heldT 3 8 (.pointer (some ⟨g0, 0, none⟩)) rfl rfl (by kernel_rfl) (by kernel_rfl) (by kernel_rfl) (fun _ _ _ h => h) (by rfl) hS0 (fun wz hSW => ?_) ?_
  · skip; (try go_simp) <;> (try omega)
  try simp only [Act.put, List.setIfInBounds_toArray, List.set_cons_zero, List.set_cons_succ]
  refine heldT 4 9 (.pointer (some ⟨g0, 0, none⟩)) rfl rfl (by kernel_rfl) (by kernel_rfl) (by kernel_rfl) (fun _ _ _ h => h) (by rfl) hS0 (fun wz hSW => ?_) ?_
  · skip; (try go_simp) <;> (try omega)
  try simp only [Act.put, List.setIfInBounds_toArray, List.set_cons_zero, List.set_cons_succ]
  refine heldT 5 10 (.pointer (some ⟨g0, 0, none⟩)) rfl rfl (by kernel_rfl) (by kernel_rfl) (by kernel_rfl) (fun _ _ _ h => h) (by rfl) hS0 (fun wz hSW => ?_) ?_
  · skip; (try go_simp) <;> (try omega)
  try simp only [Act.put, List.setIfInBounds_toArray, List.set_cons_zero, List.set_cons_succ]
  refine heldT 6 11 (.iface T0 x0) rfl rfl (by kernel_rfl) (by kernel_rfl) (by kernel_rfl) (fun _ _ _ h => h) (by rfl) hS0 (fun wz hSW => ?_) ?_
  · have y0 : wz.cell? ⟨g0, 0, none⟩ = some (.iface T0 x0) := (by rw [Lib.cell_of_heap (hSW _ _ _ _ (by decide) blk0)]; rfl); (try go_simp) <;> (try omega)
  try simp only [Act.put, List.setIfInBounds_toArray, List.set_cons_zero, List.set_cons_succ]
  refine heldT 7 12 (.pointer (some ⟨g0, 0, none⟩)) rfl rfl (by kernel_rfl) (by kernel_rfl) (by kernel_rfl) (fun _ _ _ h => h) (by rfl) hS0 (fun wz hSW => ?_) ?_
  · skip; (try go_simp) <;> (try omega)
  try simp only [Act.put, List.setIfInBounds_toArray, List.set_cons_zero, List.set_cons_succ]
  refine heldT 8 13 (.pointer (some ⟨g0, 0, none⟩)) rfl rfl (by kernel_rfl) (by kernel_rfl) (by kernel_rfl) (fun _ _ _ h => h) (by rfl) hS0 (fun wz hSW => ?_) ?_
  · skip; (try go_simp) <;> (try omega)
  try simp only [Act.put, List.setIfInBounds_toArray, List.set_cons_zero, List.set_cons_succ]
  refine heldT 9 14 (.pointer (some ⟨g0, 1, none⟩)) rfl rfl (by kernel_rfl) (by kernel_rfl) (by kernel_rfl) (fun _ _ _ h => h) (by rfl) hS0 (fun wz hSW => ?_) ?_
  · skip; (try go_simp) <;> (try omega)
  try simp only [Act.put, List.setIfInBounds_toArray, List.set_cons_zero, List.set_cons_succ]
  refine heldT 10 15 (.iface T1 x1) rfl rfl (by kernel_rfl) (by kernel_rfl) (by kernel_rfl) (fun _ _ _ h => h) (by rfl) hS0 (fun wz hSW => ?_) ?_
  · have y1 : wz.cell? ⟨g0, 1, none⟩ = some (.iface T1 x1) := (by rw [Lib.cell_of_heap (hSW _ _ _ _ (by decide) blk0)]; rfl); (try go_simp) <;> (try omega)
  try simp only [Act.put, List.setIfInBounds_toArray, List.set_cons_zero, List.set_cons_succ]
  refine wpAnyH_ready (rs := [1, 11]) (by kernel_rfl) (by simp) (AllReadyH.cons rfl (fun K hK => ?_) (AllReadyH.cons rfl (fun K hK => ?_) AllReadyH.nil))
  · rw [if_pos (by rfl)]
    go_simp
    refine hK.out _ _ (hS0.alloc _) (fun hSwy1 => ?_)
    clear hK K
    have hBwy1 := hB1.alloc hB1.size (.cells #[.int .u8 108] 5)
    have huwy1 := hu1.alloc (.cells #[.int .u8 108] 5)
    have rb := World.ownsRow_lit (base := 0) (e := 5) (size := 1) w1 #[.int .u8 108] 1 (Nat.zero_le _) (by decide) (by simp)
    obtain ⟨gb, hgb⟩ : ∃ gb, w1.heap.size = gb := ⟨_, rfl⟩
    rw [hgb] at rb ⊢
    generalize w1.alloc (.cells #[.int .u8 108] 5) = wy1 at rb hSwy1 hBwy1 huwy1 ⊢
    try simp only [Act.put, List.setIfInBounds_toArray, List.set_cons_zero, List.set_cons_succ]
    refine wpAnyH_ready (rs := [2, 11]) (by kernel_rfl) (by simp) (AllReadyH.cons rfl (fun K hK => ?_) (AllReadyH.cons rfl (fun K hK => ?_) AllReadyH.nil))
    · rw [if_pos (by rfl)]
      refine wp_append_own _ _ _ 22 rfl w0.heap.size 5 i0 _ 1 1 Tryz.underlying22 hi hz0 hz1 hz2 rfl (by decide) u l.length (l.map bv) rfl huwy1 ⟨gb, 0, none⟩ 1 1 [.int .u8 108] rfl rfl (rb.cells rfl) (by simp [Value.oneCell']) (by unfold maxLen; omega) (by omega) hBwy1.size ?_
      intro u2 wy2 hnwy2 hgwy2 _
      change K (Act.put _ (some 7) u2) wy2
      have hBwy2 := below_row hBwy1 huwy1 hgwy2
      have hKwy2 := keep_row hSwy1 huwy1 hgwy2
      refine hK.out _ _ hKwy2 (fun _ => ?_)
      clear hK K hgwy2
      try dsimp only
      try simp only [Act.put, List.setIfInBounds_toArray, List.set_cons_zero, List.set_cons_succ]
      refine wpAnyH_ready (rs := [11]) (by kernel_rfl) (by simp) (AllReadyH.cons rfl (fun K hK => ?_) AllReadyH.nil)
      rw [if_pos (by rfl)]
      go_simp
      refine hK.out _ _ (hKwy2.alloc _) (fun hSwy3 => ?_)
      clear hK K
      have hBwy3 := hBwy2.alloc hBwy2.size (.cells #[.iface T0 x0, .iface T1 x1] 42)
      have hswy3 := World.ownsRow_lit (base := 0) (e := 42) (size := 1) wy2 #[.iface T0 x0, .iface T1 x1] 2 (Nat.zero_le _) (by decide) (by simp)
      have hnwy3 := hnwy2.alloc (.cells #[.iface T0 x0, .iface T1 x1] 42)
      obtain ⟨gt, hgt⟩ : ∃ gt, wy2.heap.size = gt := ⟨_, rfl⟩
      rw [hgt] at hswy3 ⊢
      generalize wy2.alloc (.cells #[.iface T0 x0, .iface T1 x1] 42) = wy3 at hswy3 hSwy3 hBwy3 hnwy3 ⊢
      try simp only [Act.put, List.setIfInBounds_toArray, List.set_cons_zero, List.set_cons_succ]
      refine wpAnyH_ready (rs := [12]) (by kernel_rfl) (by simp) (AllReadyH.cons rfl (fun K hK => ?_) AllReadyH.nil)
      rw [if_pos (by rfl)]
      go_simp
      (with_reducible refine (f1.out _ _ _ _ hBwy3 hswy3 hnwy3).mono ?_); rintro e w3 ⟨u3, rfl, hu3, hb3, hk3⟩
      refine hK.out _ _ (hSwy3.trans hk3) (fun hS3 => ?_)
      have hKK := (hSwy3).trans hk3
      clear hK K
      try simp only [Act.put, List.setIfInBounds_toArray, List.set_cons_zero, List.set_cons_succ]
      refine heldT 13 4 (u3) rfl rfl (by kernel_rfl) (by kernel_rfl) (by kernel_rfl) (fun _ _ _ h => h) (by rfl) hS3 (fun wz hSW => ?_) ?_
      · skip; (try go_simp) <;> (try omega)
      try simp only [Act.put, List.setIfInBounds_toArray, List.set_cons_zero, List.set_cons_succ]
      refine wpAnyH_done (by kernel_rfl) ?_ _
      go_wp2
      go_ret
      exact ⟨_, rfl, hu3, hb3, hK0.trans hKK⟩
    · rw [if_pos (by rfl)]
      go_simp
      refine hK.out _ _ (hSwy1.alloc _) (fun hSwy4 => ?_)
      clear hK K
      have hBwy4 := hBwy1.alloc hBwy1.size (.cells #[.iface T0 x0, .iface T1 x1] 42)
      have hswy4 := World.ownsRow_lit (base := 0) (e := 42) (size := 1) wy1 #[.iface T0 x0, .iface T1 x1] 2 (Nat.zero_le _) (by decide) (by simp)
      have huwy4 := huwy1.alloc (.cells #[.iface T0 x0, .iface T1 x1] 42)
      have rbwy4 := rb.alloc (.cells #[.iface T0 x0, .iface T1 x1] 42)
      obtain ⟨gt, hgt⟩ : ∃ gt, wy1.heap.size = gt := ⟨_, rfl⟩
      rw [hgt] at hswy4 ⊢
      generalize wy1.alloc (.cells #[.iface T0 x0, .iface T1 x1] 42) = wy4 at hswy4 hSwy4 hBwy4 huwy4 rbwy4 ⊢
      try simp only [Act.put, List.setIfInBounds_toArray, List.set_cons_zero, List.set_cons_succ]
      refine wpAnyH_ready (rs := [2]) (by kernel_rfl) (by simp) (AllReadyH.cons rfl (fun K hK => ?_) AllReadyH.nil)
      rw [if_pos (by rfl)]
      refine wp_append_own _ _ _ 22 rfl w0.heap.size 5 i0 _ 1 1 Tryz.underlying22 hi hz0 hz1 hz2 rfl (by decide) u l.length (l.map bv) rfl huwy4 ⟨gb, 0, none⟩ 1 1 [.int .u8 108] rfl rfl (rbwy4.cells rfl) (by simp [Value.oneCell']) (by unfold maxLen; omega) (by omega) hBwy4.size ?_
      intro u2 wy5 hnwy5 hgwy5 _
      change K (Act.put _ (some 7) u2) wy5
      have hBwy5 := below_row hBwy4 huwy4 hgwy5
      have hKwy5 := keep_row hSwy4 huwy4 hgwy5
      have hswy5 := (keep_row (KeepT.refl _) huwy4 hgwy5).row hswy4 (by decide)
      refine hK.out _ _ hKwy5 (fun _ => ?_)
      clear hK K hgwy5
      try dsimp only
      try simp only [Act.put, List.setIfInBounds_toArray, List.set_cons_zero, List.set_cons_succ]
      refine wpAnyH_ready (rs := [12]) (by kernel_rfl) (by simp) (AllReadyH.cons rfl (fun K hK => ?_) AllReadyH.nil)
      rw [if_pos (by rfl)]
      go_simp
      (with_reducible refine (f1.out _ _ _ _ hBwy5 hswy5 hnwy5).mono ?_); rintro e w3 ⟨u3, rfl, hu3, hb3, hk3⟩
      refine hK.out _ _ (hKwy5.trans hk3) (fun hS3 => ?_)
      have hKK := (hKwy5).trans hk3
      clear hK K
      try simp only [Act.put, List.setIfInBounds_toArray, List.set_cons_zero, List.set_cons_succ]
      refine heldT 13 4 (u3) rfl rfl (by kernel_rfl) (by kernel_rfl) (by kernel_rfl) (fun _ _ _ h => h) (by rfl) hS3 (fun wz hSW => ?_) ?_
      · skip; (try go_simp) <;> (try omega)
      try simp only [Act.put, List.setIfInBounds_toArray, List.set_cons_zero, List.set_cons_succ]
      refine wpAnyH_done (by kernel_rfl) ?_ _
      go_wp2
      go_ret
      exact ⟨_, rfl, hu3, hb3, hK0.trans hKK⟩
  · rw [if_pos (by rfl)]
    go_simp
    refine hK.out _ _ (hS0.alloc _) (fun hSwy6 => ?_)
    clear hK K
    have hBwy6 := hB1.alloc hB1.size (.cells #[.iface T0 x0, .iface T1 x1] 42)
    have hswy6 := World.ownsRow_lit (base := 0) (e := 42) (size := 1) w1 #[.iface T0 x0, .iface T1 x1] 2 (Nat.zero_le _) (by decide) (by simp)
    have huwy6 := hu1.alloc (.cells #[.iface T0 x0, .iface T1 x1] 42)
    obtain ⟨gt, hgt⟩ : ∃ gt, w1.heap.size = gt := ⟨_, rfl⟩
    rw [hgt] at hswy6 ⊢
    generalize w1.alloc (.cells #[.iface T0 x0, .iface T1 x1] 42) = wy6 at hswy6 hSwy6 hBwy6 huwy6 ⊢
    try simp only [Act.put, List.setIfInBounds_toArray, List.set_cons_zero, List.set_cons_succ]
    refine wpAnyH_ready (rs := [1]) (by kernel_rfl) (by simp) (AllReadyH.cons rfl (fun K hK => ?_) AllReadyH.nil)
    rw [if_pos (by rfl)]
    go_simp
    refine hK.out _ _ (hSwy6.alloc _) (fun hSwy7 => ?_)
    clear hK K
    have hBwy7 := hBwy6.alloc hBwy6.size (.cells #[.int .u8 108] 5)
    have huwy7 := huwy6.alloc (.cells #[.int .u8 108] 5)
    have rb := World.ownsRow_lit (base := 0) (e := 5) (size := 1) wy6 #[.int .u8 108] 1 (Nat.zero_le _) (by decide) (by simp)
    have hswy7 := hswy6.alloc (.cells #[.int .u8 108] 5)
    obtain ⟨gb, hgb⟩ : ∃ gb, wy6.heap.size = gb := ⟨_, rfl⟩
    rw [hgb] at rb ⊢
    generalize wy6.alloc (.cells #[.int .u8 108] 5) = wy7 at rb hSwy7 hBwy7 huwy7 hswy7 ⊢
    try simp only [Act.put, List.setIfInBounds_toArray, List.set_cons_zero, List.set_cons_succ]
    refine wpAnyH_ready (rs := [2]) (by kernel_rfl) (by simp) (AllReadyH.cons rfl (fun K hK => ?_) AllReadyH.nil)
    rw [if_pos (by rfl)]
    refine wp_append_own _ _ _ 22 rfl w0.heap.size 5 i0 _ 1 1 Tryz.underlying22 hi hz0 hz1 hz2 rfl (by decide) u l.length (l.map bv) rfl huwy7 ⟨gb, 0, none⟩ 1 1 [.int .u8 108] rfl rfl (rb.cells rfl) (by simp [Value.oneCell']) (by unfold maxLen; omega) (by omega) hBwy7.size ?_
    intro u2 wy8 hnwy8 hgwy8 _
    change K (Act.put _ (some 7) u2) wy8
    have hBwy8 := below_row hBwy7 huwy7 hgwy8
    have hKwy8 := keep_row hSwy7 huwy7 hgwy8
    have hswy8 := (keep_row (KeepT.refl _) huwy7 hgwy8).row hswy7 (by decide)
    refine hK.out _ _ hKwy8 (fun _ => ?_)
    clear hK K hgwy8
    try dsimp only
    try simp only [Act.put, List.setIfInBounds_toArray, List.set_cons_zero, List.set_cons_succ]
    refine wpAnyH_ready (rs := [12]) (by kernel_rfl) (by simp) (AllReadyH.cons rfl (fun K hK => ?_) AllReadyH.nil)
    rw [if_pos (by rfl)]
    go_simp
    (with_reducible refine (f1.out _ _ _ _ hBwy8 hswy8 hnwy8).mono ?_); rintro e w3 ⟨u3, rfl, hu3, hb3, hk3⟩
    refine hK.out _ _ (hKwy8.trans hk3) (fun hS3 => ?_)
    have hKK := (hKwy8).trans hk3
    clear hK K
    try simp only [Act.put, List.setIfInBounds_toArray, List.set_cons_zero, List.set_cons_succ]
    refine heldT 13 4 (u3) rfl rfl (by kernel_rfl) (by kernel_rfl) (by kernel_rfl) (fun _ _ _ h => h) (by rfl) hS3 (fun wz hSW => ?_) ?_
    · skip; (try go_simp) <;> (try omega)
    try simp only [Act.put, List.setIfInBounds_toArray, List.set_cons_zero, List.set_cons_succ]
    refine wpAnyH_done (by kernel_rfl) ?_ _
    go_wp2
    go_ret
    exact ⟨_, rfl, hu3, hb3, hK0.trans hKK⟩

set_option maxHeartbeats 2000000 in
theorem appPi {w0 W : World} {g0 : Nat} {t0 t1 : Tm} {T0 T1 : TypeId} {x0 x1 : Value} {u : Value} {l : List UInt8}
    (hg : w0.heap[g0]? = some (.cells #[.iface T0 x0, .iface T1 x1] 87 (0, 0))) (qa0 : AppOk w0 t0 (.iface T0 x0)) (qa1 : AppOk w0 t1 (.iface T1 x1)) (hb : Below w0.heap.size w0 W) (hu : W.ownsRow w0.heap.size 5 1 u l.length (l.map bv)) (hl : l.length + ((cat [t0, t1]).length + 1) ≤ 100000000) :
    Calls Tryz.prog 166 #[.pointer (some ⟨g0, 0, none⟩), u] W (AppAns w0 W (l ++ 112 :: cat [t0, t1])) := by
  obtain ⟨i0, hi, hz0, hz1, hz2⟩ := info_parts infoByteT
  have HL : Hid (l ++ 112 :: cat [t0, t1] = (l ++ [112]) ++ cat [t0, t1]) := by simp [Hid]
  have HA : ∀ k (h : k < [t0, t1].length) (h2 : k < ([.iface T0 x0, .iface T1 x1] : List Value).length), AppOk w0 [t0, t1][k] ([.iface T0 x0, .iface T1 x1] : List Value)[k] := fun k h h2 => by
    match k, h, h2 with
    | 0, _, _ => exact qa0
    | 1, _, _ => exact qa1
    | k + 2, h, _ => exact absurd h (by simp only [List.length_cons, List.length_nil]; omega)
  have f1 := Lib.hid fun (Wc : World) (b : Nat) (s u2 : Value) (hbc : Below w0.heap.size w0 Wc) (hs : Wc.ownsRow b 42 1 s 2 [.iface T0 x0, .iface T1 x1]) (hu2 : Wc.ownsRow w0.heap.size 5 1 u2 (l.length + 1) (l.map bv ++ [.int .u8 112])) =>
    appTerms (w0 := w0) (ts := [t0, t1]) (vs := [.iface T0 x0, .iface T1 x1]) (l := l ++ [112]) rfl (two_le t0 t1) HA hbc hs (by simpa [bv] using hu2) (by simp; omega)
  rw [HL.out]
  generalize (l ++ [112]) ++ cat [t0, t1] = out at f1
  have hB0 := hb
  have hK0 := KeepT.refl W
  have hu0 := hu
  have blk0 := blk_below hg hb
  clear qa0 qa1 hb hu HL HA hg
  go_enter Tryz.func166, Tryz.ntmps166
  go_wp2_with fail
  refine wp_region_held_drew (S := fun w' => KeepT W w') (by kernel_rfl) (KeepT.refl W).drew (fun hS0 => ?_)
  have hB1 : Below w0.heap.size w0 W.drew := hB0.drew
  have hu1 := own_drew hu0 1
  have hu1 : W.drew.ownsRow w0.heap.size 5 1 u l.length (l.map bv) := hu0
  generalize W.drew = w1 at hS0 hB1 hu1 ⊢
  clear hB0 hu0
  refine heldT 0 5 (u) rfl rfl (by kernel_rfl) (by kernel_rfl) (by kernel_rfl) (fun _ _ _ h => h) (by rfl) hS0 (fun wz hSW => ?_) ?_
  · skip; (try go_simp) <;> (try omega)
  try simp only [Act.put, List.setIfInBounds_toArray, List.set_cons_zero, List.set_cons_succ]
  refine heldT 3 8 (.pointer (some ⟨g0, 0, none⟩)) rfl rfl (by kernel_rfl) (by kernel_rfl) (by kernel_rfl) (fun _ _ _ h => h) (by rfl) hS0 (fun wz hSW => ?_) ?_
  · skip; (try go_simp) <;> (try omega)
  try simp only [Act.put, List.setIfInBounds_toArray, List.set_cons_zero, List.set_cons_succ]
  refine heldT 4 9 (.pointer (some ⟨g0, 0, none⟩)) rfl rfl (by kernel_rfl) (by kernel_rfl) (by kernel_rfl) (fun _ _ _ h => h) (by rfl) hS0 (fun wz hSW => ?_) ?_
  · skip; (try go_simp) <;> (try omega)
  try simp only [Act.put, List.setIfInBounds_toArray, List.set_cons_zero, List.set_cons_succ]
  refine heldT 5 10 (.pointer (some ⟨g0, 0, none⟩)) rfl rfl (by kernel_rfl) (by kernel_rfl) (by kernel_rfl) (fun _ _ _ h => h) (by rfl) hS0 (fun wz hSW => ?_) ?_
  · skip; (try go_simp) <;> (try omega)
  try simp only [Act.put, List.setIfInBounds_toArray, List.set_cons_zero, List.set_cons_succ]
  refine heldT 6 11 (.iface T0 x0) rfl rfl (by kernel_rfl) (by kernel_rfl) (by kernel_rfl) (fun _ _ _ h => h) (by rfl) hS0 (fun wz hSW => ?_) ?_
  · have y0 : wz.cell? ⟨g0, 0, none⟩ = some (.iface T0 x0) := (by rw [Lib.cell_of_heap (hSW _ _ _ _ (by decide) blk0)]; rfl); (try go_simp) <;> (try omega)
  try simp only [Act.put, List.setIfInBounds_toArray, List.set_cons_zero, List.set_cons_succ]
  refine heldT 7 12 (.pointer (some ⟨g0, 0, none⟩)) rfl rfl (by kernel_rfl) (by kernel_rfl) (by kernel_rfl) (fun _ _ _ h => h) (by rfl) hS0 (fun wz hSW => ?_) ?_
  · skip; (try go_simp) <;> (try omega)
  try simp only [Act.put, List.setIfInBounds_toArray, List.set_cons_zero, List.set_cons_succ]
  refine heldT 8 13 (.pointer (some ⟨g0, 0, none⟩)) rfl rfl (by kernel_rfl) (by kernel_rfl) (by kernel_rfl) (fun _ _ _ h => h) (by rfl) hS0 (fun wz hSW => ?_) ?_
  · skip; (try go_simp) <;> (try omega)
  try simp only [Act.put, List.setIfInBounds_toArray, List.set_cons_zero, List.set_cons_succ]
  refine heldT 9 14 (.pointer (some ⟨g0, 1, none⟩)) rfl rfl (by kernel_rfl) (by kernel_rfl) (by kernel_rfl) (fun _ _ _ h => h) (by rfl) hS0 (fun wz hSW => ?_) ?_
  · skip; (try go_simp) <;> (try omega)
  try simp only [Act.put, List.setIfInBounds_toArray, List.set_cons_zero, List.set_cons_succ]
  refine heldT 10 15 (.iface T1 x1) rfl rfl (by kernel_rfl) (by kernel_rfl) (by kernel_rfl) (fun _ _ _ h => h) (by rfl) hS0 (fun wz hSW => ?_) ?_
  · have y1 : wz.cell? ⟨g0, 1, none⟩ = some (.iface T1 x1) := (by rw [Lib.cell_of_heap (hSW _ _ _ _ (by decide) blk0)]; rfl); (try go_simp) <;> (try omega)
  try simp only [Act.put, List.setIfInBounds_toArray, List.set_cons_zero, List.set_cons_succ]
  refine wpAnyH_ready (rs := [1, 11]) (by kernel_rfl) (by simp) (AllReadyH.cons rfl (fun K hK => ?_) (AllReadyH.cons rfl (fun K hK => ?_) AllReadyH.nil))
  · rw [if_pos (by rfl)]
    go_simp
    refine hK.out _ _ (hS0.alloc _) (fun hSwy1 => ?_)
    clear hK K
    have hBwy1 := hB1.alloc hB1.size (.cells #[.int .u8 112] 5)
    have huwy1 := hu1.alloc (.cells #[.int .u8 112] 5)
    have rb := World.ownsRow_lit (base := 0) (e := 5) (size := 1) w1 #[.int .u8 112] 1 (Nat.zero_le _) (by decide) (by simp)
    obtain ⟨gb, hgb⟩ : ∃ gb, w1.heap.size = gb := ⟨_, rfl⟩
    rw [hgb] at rb ⊢
    generalize w1.alloc (.cells #[.int .u8 112] 5) = wy1 at rb hSwy1 hBwy1 huwy1 ⊢
    try simp only [Act.put, List.setIfInBounds_toArray, List.set_cons_zero, List.set_cons_succ]
    refine wpAnyH_ready (rs := [2, 11]) (by kernel_rfl) (by simp) (AllReadyH.cons rfl (fun K hK => ?_) (AllReadyH.cons rfl (fun K hK => ?_) AllReadyH.nil))
    · rw [if_pos (by rfl)]
      refine wp_append_own _ _ _ 22 rfl w0.heap.size 5 i0 _ 1 1 Tryz.underlying22 hi hz0 hz1 hz2 rfl (by decide) u l.length (l.map bv) rfl huwy1 ⟨gb, 0, none⟩ 1 1 [.int .u8 112] rfl rfl (rb.cells rfl) (by simp [Value.oneCell']) (by unfold maxLen; omega) (by omega) hBwy1.size ?_
      intro u2 wy2 hnwy2 hgwy2 _
      change K (Act.put _ (some 7) u2) wy2
      have hBwy2 := below_row hBwy1 huwy1 hgwy2
      have hKwy2 := keep_row hSwy1 huwy1 hgwy2
      refine hK.out _ _ hKwy2 (fun _ => ?_)
      clear hK K hgwy2
      try dsimp only
      try simp only [Act.put, List.setIfInBounds_toArray, List.set_cons_zero, List.set_cons_succ]
      refine wpAnyH_ready (rs := [11]) (by kernel_rfl) (by simp) (AllReadyH.cons rfl (fun K hK => ?_) AllReadyH.nil)
      rw [if_pos (by rfl)]
      go_simp
      refine hK.out _ _ (hKwy2.alloc _) (fun hSwy3 => ?_)
      clear hK K
      have hBwy3 := hBwy2.alloc hBwy2.size (.cells #[.iface T0 x0, .iface T1 x1] 42)
      have hswy3 := World.ownsRow_lit (base := 0) (e := 42) (size := 1) wy2 #[.iface T0 x0, .iface T1 x1] 2 (Nat.zero_le _) (by decide) (by simp)
      have hnwy3 := hnwy2.alloc (.cells #[.iface T0 x0, .iface T1 x1] 42)
      obtain ⟨gt, hgt⟩ : ∃ gt, wy2.heap.size = gt := ⟨_, rfl⟩
      rw [hgt] at hswy3 ⊢
      generalize wy2.alloc (.cells #[.iface T0 x0, .iface T1 x1] 42) = wy3 at hswy3 hSwy3 hBwy3 hnwy3 ⊢
      try simp only [Act.put, List.setIfInBounds_toArray, List.set_cons_zero, List.set_cons_succ]
      refine wpAnyH_ready (rs := [12]) (by kernel_rfl) (by simp) (AllReadyH.cons rfl (fun K hK => ?_) AllReadyH.nil)
      rw [if_pos (by rfl)]
      go_simp
      (with_reducible refine (f1.out _ _ _ _ hBwy3 hswy3 hnwy3).mono ?_); rintro e w3 ⟨u3, rfl, hu3, hb3, hk3⟩
      refine hK.out _ _ (hSwy3.trans hk3) (fun hS3 => ?_)
      have hKK := (hSwy3).trans hk3
      clear hK K
      try simp only [Act.put, List.setIfInBounds_toArray, List.set_cons_zero, List.set_cons_succ]
      refine heldT 13 4 (u3) rfl rfl (by kernel_rfl) (by kernel_rfl) (by kernel_rfl) (fun _ _ _ h => h) (by rfl) hS3 (fun wz hSW => ?_) ?_
      · skip; (try go_simp) <;> (try omega)
      try simp only [Act.put, List.setIfInBounds_toArray, List.set_cons_zero, List.set_cons_succ]
      refine wpAnyH_done (by kernel_rfl) ?_ _
      go_wp2
      go_ret
      exact ⟨_, rfl, hu3, hb3, hK0.trans hKK⟩
    · rw [if_pos (by rfl)]
      go_simp
      refine hK.out _ _ (hSwy1.alloc _) (fun hSwy4 => ?_)
      clear hK K
      have hBwy4 := hBwy1.alloc hBwy1.size (.cells #[.iface T0 x0, .iface T1 x1] 42)
      have hswy4 := World.ownsRow_lit (base := 0) (e := 42) (size := 1) wy1 #[.iface T0 x0, .iface T1 x1] 2 (Nat.zero_le _) (by decide) (by simp)
      have huwy4 := huwy1.alloc (.cells #[.iface T0 x0, .iface T1 x1] 42)
      have rbwy4 := rb.alloc (.cells #[.iface T0 x0, .iface T1 x1] 42)
      obtain ⟨gt, hgt⟩ : ∃ gt, wy1.heap.size = gt := ⟨_, rfl⟩
      rw [hgt] at hswy4 ⊢
      generalize wy1.alloc (.cells #[.iface T0 x0, .iface T1 x1] 42) = wy4 at hswy4 hSwy4 hBwy4 huwy4 rbwy4 ⊢
      try simp only [Act.put, List.setIfInBounds_toArray, List.set_cons_zero, List.set_cons_succ]
      refine wpAnyH_ready (rs := [2]) (by kernel_rfl) (by simp) (AllReadyH.cons rfl (fun K hK => ?_) AllReadyH.nil)
      rw [if_pos (by rfl)]
      refine wp_append_own _ _ _ 22 rfl w0.heap.size 5 i0 _ 1 1 Tryz.underlying22 hi hz0 hz1 hz2 rfl (by decide) u l.length (l.map bv) rfl huwy4 ⟨gb, 0, none⟩ 1 1 [.int .u8 112] rfl rfl (rbwy4.cells rfl) (by simp [Value.oneCell']) (by unfold maxLen; omega) (by omega) hBwy4.size ?_
      intro u2 wy5 hnwy5 hgwy5 _
      change K (Act.put _ (some 7) u2) wy5
      have hBwy5 := below_row hBwy4 huwy4 hgwy5
      have hKwy5 := keep_row hSwy4 huwy4 hgwy5
      have hswy5 := (keep_row (KeepT.refl _) huwy4 hgwy5).row hswy4 (by decide)
      refine hK.out _ _ hKwy5 (fun _ => ?_)
      clear hK K hgwy5
      try dsimp only
      try simp only [Act.put, List.setIfInBounds_toArray, List.set_cons_zero, List.set_cons_succ]
      refine wpAnyH_ready (rs := [12]) (by kernel_rfl) (by simp) (AllReadyH.cons rfl (fun K hK => ?_) AllReadyH.nil)
      rw [if_pos (by rfl)]
      go_simp
      (with_reducible refine (f1.out _ _ _ _ hBwy5 hswy5 hnwy5).mono ?_); rintro e w3 ⟨u3, rfl, hu3, hb3, hk3⟩
      refine hK.out _ _ (hKwy5.trans hk3) (fun hS3 => ?_)
      have hKK := (hKwy5).trans hk3
      clear hK K
      try simp only [Act.put, List.setIfInBounds_toArray, List.set_cons_zero, List.set_cons_succ]
      refine heldT 13 4 (u3) rfl rfl (by kernel_rfl) (by kernel_rfl) (by kernel_rfl) (fun _ _ _ h => h) (by rfl) hS3 (fun wz hSW => ?_) ?_
      · skip; (try go_simp) <;> (try omega)
      try simp only [Act.put, List.setIfInBounds_toArray, List.set_cons_zero, List.set_cons_succ]
      refine wpAnyH_done (by kernel_rfl) ?_ _
      go_wp2
      go_ret
      exact ⟨_, rfl, hu3, hb3, hK0.trans hKK⟩
  · rw [if_pos (by rfl)]
    go_simp
    refine hK.out _ _ (hS0.alloc _) (fun hSwy6 => ?_)
    clear hK K
    have hBwy6 := hB1.alloc hB1.size (.cells #[.iface T0 x0, .iface T1 x1] 42)
    have hswy6 := World.ownsRow_lit (base := 0) (e := 42) (size := 1) w1 #[.iface T0 x0, .iface T1 x1] 2 (Nat.zero_le _) (by decide) (by simp)
    have huwy6 := hu1.alloc (.cells #[.iface T0 x0, .iface T1 x1] 42)
    obtain ⟨gt, hgt⟩ : ∃ gt, w1.heap.size = gt := ⟨_, rfl⟩
    rw [hgt] at hswy6 ⊢
    generalize w1.alloc (.cells #[.iface T0 x0, .iface T1 x1] 42) = wy6 at hswy6 hSwy6 hBwy6 huwy6 ⊢
    try simp only [Act.put, List.setIfInBounds_toArray, List.set_cons_zero, List.set_cons_succ]
    refine wpAnyH_ready (rs := [1]) (by kernel_rfl) (by simp) (AllReadyH.cons rfl (fun K hK => ?_) AllReadyH.nil)
    rw [if_pos (by rfl)]
    go_simp
    refine hK.out _ _ (hSwy6.alloc _) (fun hSwy7 => ?_)
    clear hK K
    have hBwy7 := hBwy6.alloc hBwy6.size (.cells #[.int .u8 112] 5)
    have huwy7 := huwy6.alloc (.cells #[.int .u8 112] 5)
    have rb := World.ownsRow_lit (base := 0) (e := 5) (size := 1) wy6 #[.int .u8 112] 1 (Nat.zero_le _) (by decide) (by simp)
    have hswy7 := hswy6.alloc (.cells #[.int .u8 112] 5)
    obtain ⟨gb, hgb⟩ : ∃ gb, wy6.heap.size = gb := ⟨_, rfl⟩
    rw [hgb] at rb ⊢
    generalize wy6.alloc (.cells #[.int .u8 112] 5) = wy7 at rb hSwy7 hBwy7 huwy7 hswy7 ⊢
    try simp only [Act.put, List.setIfInBounds_toArray, List.set_cons_zero, List.set_cons_succ]
    refine wpAnyH_ready (rs := [2]) (by kernel_rfl) (by simp) (AllReadyH.cons rfl (fun K hK => ?_) AllReadyH.nil)
    rw [if_pos (by rfl)]
    refine wp_append_own _ _ _ 22 rfl w0.heap.size 5 i0 _ 1 1 Tryz.underlying22 hi hz0 hz1 hz2 rfl (by decide) u l.length (l.map bv) rfl huwy7 ⟨gb, 0, none⟩ 1 1 [.int .u8 112] rfl rfl (rb.cells rfl) (by simp [Value.oneCell']) (by unfold maxLen; omega) (by omega) hBwy7.size ?_
    intro u2 wy8 hnwy8 hgwy8 _
    change K (Act.put _ (some 7) u2) wy8
    have hBwy8 := below_row hBwy7 huwy7 hgwy8
    have hKwy8 := keep_row hSwy7 huwy7 hgwy8
    have hswy8 := (keep_row (KeepT.refl _) huwy7 hgwy8).row hswy7 (by decide)
    refine hK.out _ _ hKwy8 (fun _ => ?_)
    clear hK K hgwy8
    try dsimp only
    try simp only [Act.put, List.setIfInBounds_toArray, List.set_cons_zero, List.set_cons_succ]
    refine wpAnyH_ready (rs := [12]) (by kernel_rfl) (by simp) (AllReadyH.cons rfl (fun K hK => ?_) AllReadyH.nil)
    rw [if_pos (by rfl)]
    go_simp
    (with_reducible refine (f1.out _ _ _ _ hBwy8 hswy8 hnwy8).mono ?_); rintro e w3 ⟨u3, rfl, hu3, hb3, hk3⟩
    refine hK.out _ _ (hKwy8.trans hk3) (fun hS3 => ?_)
    have hKK := (hKwy8).trans hk3
    clear hK K
    try simp only [Act.put, List.setIfInBounds_toArray, List.set_cons_zero, List.set_cons_succ]
    refine heldT 13 4 (u3) rfl rfl (by kernel_rfl) (by kernel_rfl) (by kernel_rfl) (fun _ _ _ h => h) (by rfl) hS3 (fun wz hSW => ?_) ?_
    · skip; (try go_simp) <;> (try omega)
    try simp only [Act.put, List.setIfInBounds_toArray, List.set_cons_zero, List.set_cons_succ]
    refine wpAnyH_done (by kernel_rfl) ?_ _
    go_wp2
    go_ret
    exact ⟨_, rfl, hu3, hb3, hK0.trans hKK⟩

set_option maxHeartbeats 2000000 in
theorem appLet {w0 W : World} {g0 : Nat} {t0 t1 t2 : Tm} {T0 T1 T2 : TypeId} {x0 x1 x2 : Value} {u : Value} {l : List UInt8}
    (hg : w0.heap[g0]? = some (.cells #[.iface T0 x0, .iface T1 x1, .iface T2 x2] 112 (0, 0))) (qa0 : AppOk w0 t0 (.iface T0 x0)) (qa1 : AppOk w0 t1 (.iface T1 x1)) (qa2 : AppOk w0 t2 (.iface T2 x2)) (hb : Below w0.heap.size w0 W) (hu : W.ownsRow w0.heap.size 5 1 u l.length (l.map bv)) (hl : l.length + ((cat [t0, t1, t2]).length + 1) ≤ 100000000) :
    Calls Tryz.prog 172 #[.pointer (some ⟨g0, 0, none⟩), u] W (AppAns w0 W (l ++ 116 :: cat [t0, t1, t2])) := by
  obtain ⟨i0, hi, hz0, hz1, hz2⟩ := info_parts infoByteT
  have HL : Hid (l ++ 116 :: cat [t0, t1, t2] = (l ++ [116]) ++ cat [t0, t1, t2]) := by simp [Hid]
  have HA : ∀ k (h : k < [t0, t1, t2].length) (h2 : k < ([.iface T0 x0, .iface T1 x1, .iface T2 x2] : List Value).length), AppOk w0 [t0, t1, t2][k] ([.iface T0 x0, .iface T1 x1, .iface T2 x2] : List Value)[k] := fun k h h2 => by
    match k, h, h2 with
    | 0, _, _ => exact qa0
    | 1, _, _ => exact qa1
    | 2, _, _ => exact qa2
    | k + 3, h, _ => exact absurd h (by simp only [List.length_cons, List.length_nil]; omega)
  have f1 := Lib.hid fun (Wc : World) (b : Nat) (s u2 : Value) (hbc : Below w0.heap.size w0 Wc) (hs : Wc.ownsRow b 42 1 s 3 [.iface T0 x0, .iface T1 x1, .iface T2 x2]) (hu2 : Wc.ownsRow w0.heap.size 5 1 u2 (l.length + 1) (l.map bv ++ [.int .u8 116])) =>
    appTerms (w0 := w0) (ts := [t0, t1, t2]) (vs := [.iface T0 x0, .iface T1 x1, .iface T2 x2]) (l := l ++ [116]) rfl (three_le t0 t1 t2) HA hbc hs (by simpa [bv] using hu2) (by simp; omega)
  rw [HL.out]
  generalize (l ++ [116]) ++ cat [t0, t1, t2] = out at f1
  have hB0 := hb
  have hK0 := KeepT.refl W
  have hu0 := hu
  have blk0 := blk_below hg hb
  clear qa0 qa1 qa2 hb hu HL HA hg
  go_enter Tryz.func172, Tryz.ntmps172
  go_wp2_with fail
  refine wp_region_held_drew (S := fun w' => KeepT W w') (by kernel_rfl) (KeepT.refl W).drew (fun hS0 => ?_)
  have hB1 : Below w0.heap.size w0 W.drew := hB0.drew
  have hu1 := own_drew hu0 1
  have hu1 : W.drew.ownsRow w0.heap.size 5 1 u l.length (l.map bv) := hu0
  generalize W.drew = w1 at hS0 hB1 hu1 ⊢
  clear hB0 hu0
  refine heldT 0 5 (u) rfl rfl (by kernel_rfl) (by kernel_rfl) (by kernel_rfl) (fun _ _ _ h => h) (by rfl) hS0 (fun wz hSW => ?_) ?_
  · skip; (try go_simp) <;> (try omega)
  try simp only [Act.put, List.setIfInBounds_toArray, List.set_cons_zero, List.set_cons_succ]
  refine heldT 3 8 (.pointer (some ⟨g0, 0, none⟩)) rfl rfl (by kernel_rfl) (by kernel_rfl) (by kernel_rfl) (fun _ _ _ h => h) (by rfl) hS0 (fun wz hSW => ?_) ?_
  · skip; (try go_simp) <;> (try omega)
  try simp only [Act.put, List.setIfInBounds_toArray, List.set_cons_zero, List.set_cons_succ]
  refine heldT 4 9 (.pointer (some ⟨g0, 0, none⟩)) rfl rfl (by kernel_rfl) (by kernel_rfl) (by kernel_rfl) (fun _ _ _ h => h) (by rfl) hS0 (fun wz hSW => ?_) ?_
  · skip; (try go_simp) <;> (try omega)
  try simp only [Act.put, List.setIfInBounds_toArray, List.set_cons_zero, List.set_cons_succ]
  refine heldT 5 10 (.pointer (some ⟨g0, 0, none⟩)) rfl rfl (by kernel_rfl) (by kernel_rfl) (by kernel_rfl) (fun _ _ _ h => h) (by rfl) hS0 (fun wz hSW => ?_) ?_
  · skip; (try go_simp) <;> (try omega)
  try simp only [Act.put, List.setIfInBounds_toArray, List.set_cons_zero, List.set_cons_succ]
  refine heldT 6 11 (.iface T0 x0) rfl rfl (by kernel_rfl) (by kernel_rfl) (by kernel_rfl) (fun _ _ _ h => h) (by rfl) hS0 (fun wz hSW => ?_) ?_
  · have y0 : wz.cell? ⟨g0, 0, none⟩ = some (.iface T0 x0) := (by rw [Lib.cell_of_heap (hSW _ _ _ _ (by decide) blk0)]; rfl); (try go_simp) <;> (try omega)
  try simp only [Act.put, List.setIfInBounds_toArray, List.set_cons_zero, List.set_cons_succ]
  refine heldT 7 12 (.pointer (some ⟨g0, 0, none⟩)) rfl rfl (by kernel_rfl) (by kernel_rfl) (by kernel_rfl) (fun _ _ _ h => h) (by rfl) hS0 (fun wz hSW => ?_) ?_
  · skip; (try go_simp) <;> (try omega)
  try simp only [Act.put, List.setIfInBounds_toArray, List.set_cons_zero, List.set_cons_succ]
  refine heldT 8 13 (.pointer (some ⟨g0, 0, none⟩)) rfl rfl (by kernel_rfl) (by kernel_rfl) (by kernel_rfl) (fun _ _ _ h => h) (by rfl) hS0 (fun wz hSW => ?_) ?_
  · skip; (try go_simp) <;> (try omega)
  try simp only [Act.put, List.setIfInBounds_toArray, List.set_cons_zero, List.set_cons_succ]
  refine heldT 9 14 (.pointer (some ⟨g0, 1, none⟩)) rfl rfl (by kernel_rfl) (by kernel_rfl) (by kernel_rfl) (fun _ _ _ h => h) (by rfl) hS0 (fun wz hSW => ?_) ?_
  · skip; (try go_simp) <;> (try omega)
  try simp only [Act.put, List.setIfInBounds_toArray, List.set_cons_zero, List.set_cons_succ]
  refine heldT 10 15 (.iface T1 x1) rfl rfl (by kernel_rfl) (by kernel_rfl) (by kernel_rfl) (fun _ _ _ h => h) (by rfl) hS0 (fun wz hSW => ?_) ?_
  · have y1 : wz.cell? ⟨g0, 1, none⟩ = some (.iface T1 x1) := (by rw [Lib.cell_of_heap (hSW _ _ _ _ (by decide) blk0)]; rfl); (try go_simp) <;> (try omega)
  try simp only [Act.put, List.setIfInBounds_toArray, List.set_cons_zero, List.set_cons_succ]
  refine heldT 11 16 (.pointer (some ⟨g0, 0, none⟩)) rfl rfl (by kernel_rfl) (by kernel_rfl) (by kernel_rfl) (fun _ _ _ h => h) (by rfl) hS0 (fun wz hSW => ?_) ?_
  · skip; (try go_simp) <;> (try omega)
  try simp only [Act.put, List.setIfInBounds_toArray, List.set_cons_zero, List.set_cons_succ]
  refine heldT 12 17 (.pointer (some ⟨g0, 0, none⟩)) rfl rfl (by kernel_rfl) (by kernel_rfl) (by kernel_rfl) (fun _ _ _ h => h) (by rfl) hS0 (fun wz hSW => ?_) ?_
  · skip; (try go_simp) <;> (try omega)
  try simp only [Act.put, List.setIfInBounds_toArray, List.set_cons_zero, List.set_cons_succ]
  refine heldT 13 18 (.pointer (some ⟨g0, 2, none⟩)) rfl rfl (by kernel_rfl) (by kernel_rfl) (by kernel_rfl) (fun _ _ _ h => h) (by rfl) hS0 (fun wz hSW => ?_) ?_
  · skip; (try go_simp) <;> (try omega)
  try simp only [Act.put, List.setIfInBounds_toArray, List.set_cons_zero, List.set_cons_succ]
  refine heldT 14 19 (.iface T2 x2) rfl rfl (by kernel_rfl) (by kernel_rfl) (by kernel_rfl) (fun _ _ _ h => h) (by rfl) hS0 (fun wz hSW => ?_) ?_
  · have y2 : wz.cell? ⟨g0, 2, none⟩ = some (.iface T2 x2) := (by rw [Lib.cell_of_heap (hSW _ _ _ _ (by decide) blk0)]; rfl); (try go_simp) <;> (try omega)
  try simp only [Act.put, List.setIfInBounds_toArray, List.set_cons_zero, List.set_cons_succ]
  refine wpAnyH_ready (rs := [1, 15]) (by kernel_rfl) (by simp) (AllReadyH.cons rfl (fun K hK => ?_) (AllReadyH.cons rfl (fun K hK => ?_) AllReadyH.nil))
  · rw [if_pos (by rfl)]
    go_simp
    refine hK.out _ _ (hS0.alloc _) (fun hSwy1 => ?_)
    clear hK K
    have hBwy1 := hB1.alloc hB1.size (.cells #[.int .u8 116] 5)
    have huwy1 := hu1.alloc (.cells #[.int .u8 116] 5)
    have rb := World.ownsRow_lit (base := 0) (e := 5) (size := 1) w1 #[.int .u8 116] 1 (Nat.zero_le _) (by decide) (by simp)
    obtain ⟨gb, hgb⟩ : ∃ gb, w1.heap.size = gb := ⟨_, rfl⟩
    rw [hgb] at rb ⊢
    generalize w1.alloc (.cells #[.int .u8 116] 5) = wy1 at rb hSwy1 hBwy1 huwy1 ⊢
    try simp only [Act.put, List.setIfInBounds_toArray, List.set_cons_zero, List.set_cons_succ]
    refine wpAnyH_ready (rs := [2, 15]) (by kernel_rfl) (by simp) (AllReadyH.cons rfl (fun K hK => ?_) (AllReadyH.cons rfl (fun K hK => ?_) AllReadyH.nil))
    · rw [if_pos (by rfl)]
      refine wp_append_own _ _ _ 22 rfl w0.heap.size 5 i0 _ 1 1 Tryz.underlying22 hi hz0 hz1 hz2 rfl (by decide) u l.length (l.map bv) rfl huwy1 ⟨gb, 0, none⟩ 1 1 [.int .u8 116] rfl rfl (rb.cells rfl) (by simp [Value.oneCell']) (by unfold maxLen; omega) (by omega) hBwy1.size ?_
      intro u2 wy2 hnwy2 hgwy2 _
      change K (Act.put _ (some 7) u2) wy2
      have hBwy2 := below_row hBwy1 huwy1 hgwy2
      have hKwy2 := keep_row hSwy1 huwy1 hgwy2
      refine hK.out _ _ hKwy2 (fun _ => ?_)
      clear hK K hgwy2
      try dsimp only
      try simp only [Act.put, List.setIfInBounds_toArray, List.set_cons_zero, List.set_cons_succ]
      refine wpAnyH_ready (rs := [15]) (by kernel_rfl) (by simp) (AllReadyH.cons rfl (fun K hK => ?_) AllReadyH.nil)
      rw [if_pos (by rfl)]
      go_simp
      refine hK.out _ _ (hKwy2.alloc _) (fun hSwy3 => ?_)
      clear hK K
      have hBwy3 := hBwy2.alloc hBwy2.size (.cells #[.iface T0 x0, .iface T1 x1, .iface T2 x2] 42)
      have hswy3 := World.ownsRow_lit (base := 0) (e := 42) (size := 1) wy2 #[.iface T0 x0, .iface T1 x1, .iface T2 x2] 3 (Nat.zero_le _) (by decide) (by simp)
      have hnwy3 := hnwy2.alloc (.cells #[.iface T0 x0, .iface T1 x1, .iface T2 x2] 42)
      obtain ⟨gt, hgt⟩ : ∃ gt, wy2.heap.size = gt := ⟨_, rfl⟩
      rw [hgt] at hswy3 ⊢
      generalize wy2.alloc (.cells #[.iface T0 x0, .iface T1 x1, .iface T2 x2] 42) = wy3 at hswy3 hSwy3 hBwy3 hnwy3 ⊢
      try simp only [Act.put, List.setIfInBounds_toArray, List.set_cons_zero, List.set_cons_succ]
      refine wpAnyH_ready (rs := [16]) (by kernel_rfl) (by simp) (AllReadyH.cons rfl (fun K hK => ?_) AllReadyH.nil)
      rw [if_pos (by rfl)]
      go_simp
      (with_reducible refine (f1.out _ _ _ _ hBwy3 hswy3 hnwy3).mono ?_); rintro e w3 ⟨u3, rfl, hu3, hb3, hk3⟩
      refine hK.out _ _ (hSwy3.trans hk3) (fun hS3 => ?_)
      have hKK := (hSwy3).trans hk3
      clear hK K
      try simp only [Act.put, List.setIfInBounds_toArray, List.set_cons_zero, List.set_cons_succ]
      refine heldT 17 4 (u3) rfl rfl (by kernel_rfl) (by kernel_rfl) (by kernel_rfl) (fun _ _ _ h => h) (by rfl) hS3 (fun wz hSW => ?_) ?_
      · skip; (try go_simp) <;> (try omega)
      try simp only [Act.put, List.setIfInBounds_toArray, List.set_cons_zero, List.set_cons_succ]
      refine wpAnyH_done (by kernel_rfl) ?_ _
      go_wp2
      go_ret
      exact ⟨_, rfl, hu3, hb3, hK0.trans hKK⟩
    · rw [if_pos (by rfl)]
      go_simp
      refine hK.out _ _ (hSwy1.alloc _) (fun hSwy4 => ?_)
      clear hK K
      have hBwy4 := hBwy1.alloc hBwy1.size (.cells #[.iface T0 x0, .iface T1 x1, .iface T2 x2] 42)
      have hswy4 := World.ownsRow_lit (base := 0) (e := 42) (size := 1) wy1 #[.iface T0 x0, .iface T1 x1, .iface T2 x2] 3 (Nat.zero_le _) (by decide) (by simp)
      have huwy4 := huwy1.alloc (.cells #[.iface T0 x0, .iface T1 x1, .iface T2 x2] 42)
      have rbwy4 := rb.alloc (.cells #[.iface T0 x0, .iface T1 x1, .iface T2 x2] 42)
      obtain ⟨gt, hgt⟩ : ∃ gt, wy1.heap.size = gt := ⟨_, rfl⟩
      rw [hgt] at hswy4 ⊢
      generalize wy1.alloc (.cells #[.iface T0 x0, .iface T1 x1, .iface T2 x2] 42) = wy4 at hswy4 hSwy4 hBwy4 huwy4 rbwy4 ⊢
      try simp only [Act.put, List.setIfInBounds_toArray, List.set_cons_zero, List.set_cons_succ]
      refine wpAnyH_ready (rs := [2]) (by kernel_rfl) (by simp) (AllReadyH.cons rfl (fun K hK => ?_) AllReadyH.nil)
      rw [if_pos (by rfl)]
      refine wp_append_own _ _ _ 22 rfl w0.heap.size 5 i0 _ 1 1 Tryz.underlying22 hi hz0 hz1 hz2 rfl (by decide) u l.length (l.map bv) rfl huwy4 ⟨gb, 0, none⟩ 1 1 [.int .u8 116] rfl rfl (rbwy4.cells rfl) (by simp [Value.oneCell']) (by unfold maxLen; omega) (by omega) hBwy4.size ?_
      intro u2 wy5 hnwy5 hgwy5 _
      change K (Act.put _ (some 7) u2) wy5
      have hBwy5 := below_row hBwy4 huwy4 hgwy5
      have hKwy5 := keep_row hSwy4 huwy4 hgwy5
      have hswy5 := (keep_row (KeepT.refl _) huwy4 hgwy5).row hswy4 (by decide)
      refine hK.out _ _ hKwy5 (fun _ => ?_)
      clear hK K hgwy5
      try dsimp only
      try simp only [Act.put, List.setIfInBounds_toArray, List.set_cons_zero, List.set_cons_succ]
      refine wpAnyH_ready (rs := [16]) (by kernel_rfl) (by simp) (AllReadyH.cons rfl (fun K hK => ?_) AllReadyH.nil)
      rw [if_pos (by rfl)]
      go_simp
      (with_reducible refine (f1.out _ _ _ _ hBwy5 hswy5 hnwy5).mono ?_); rintro e w3 ⟨u3, rfl, hu3, hb3, hk3⟩
      refine hK.out _ _ (hKwy5.trans hk3) (fun hS3 => ?_)
      have hKK := (hKwy5).trans hk3
      clear hK K
      try simp only [Act.put, List.setIfInBounds_toArray, List.set_cons_zero, List.set_cons_succ]
      refine heldT 17 4 (u3) rfl rfl (by kernel_rfl) (by kernel_rfl) (by kernel_rfl) (fun _ _ _ h => h) (by rfl) hS3 (fun wz hSW => ?_) ?_
      · skip; (try go_simp) <;> (try omega)
      try simp only [Act.put, List.setIfInBounds_toArray, List.set_cons_zero, List.set_cons_succ]
      refine wpAnyH_done (by kernel_rfl) ?_ _
      go_wp2
      go_ret
      exact ⟨_, rfl, hu3, hb3, hK0.trans hKK⟩
  · rw [if_pos (by rfl)]
    go_simp
    refine hK.out _ _ (hS0.alloc _) (fun hSwy6 => ?_)
    clear hK K
    have hBwy6 := hB1.alloc hB1.size (.cells #[.iface T0 x0, .iface T1 x1, .iface T2 x2] 42)
    have hswy6 := World.ownsRow_lit (base := 0) (e := 42) (size := 1) w1 #[.iface T0 x0, .iface T1 x1, .iface T2 x2] 3 (Nat.zero_le _) (by decide) (by simp)
    have huwy6 := hu1.alloc (.cells #[.iface T0 x0, .iface T1 x1, .iface T2 x2] 42)
    obtain ⟨gt, hgt⟩ : ∃ gt, w1.heap.size = gt := ⟨_, rfl⟩
    rw [hgt] at hswy6 ⊢
    generalize w1.alloc (.cells #[.iface T0 x0, .iface T1 x1, .iface T2 x2] 42) = wy6 at hswy6 hSwy6 hBwy6 huwy6 ⊢
    try simp only [Act.put, List.setIfInBounds_toArray, List.set_cons_zero, List.set_cons_succ]
    refine wpAnyH_ready (rs := [1]) (by kernel_rfl) (by simp) (AllReadyH.cons rfl (fun K hK => ?_) AllReadyH.nil)
    rw [if_pos (by rfl)]
    go_simp
    refine hK.out _ _ (hSwy6.alloc _) (fun hSwy7 => ?_)
    clear hK K
    have hBwy7 := hBwy6.alloc hBwy6.size (.cells #[.int .u8 116] 5)
    have huwy7 := huwy6.alloc (.cells #[.int .u8 116] 5)
    have rb := World.ownsRow_lit (base := 0) (e := 5) (size := 1) wy6 #[.int .u8 116] 1 (Nat.zero_le _) (by decide) (by simp)
    have hswy7 := hswy6.alloc (.cells #[.int .u8 116] 5)
    obtain ⟨gb, hgb⟩ : ∃ gb, wy6.heap.size = gb := ⟨_, rfl⟩
    rw [hgb] at rb ⊢
    generalize wy6.alloc (.cells #[.int .u8 116] 5) = wy7 at rb hSwy7 hBwy7 huwy7 hswy7 ⊢
    try simp only [Act.put, List.setIfInBounds_toArray, List.set_cons_zero, List.set_cons_succ]
    refine wpAnyH_ready (rs := [2]) (by kernel_rfl) (by simp) (AllReadyH.cons rfl (fun K hK => ?_) AllReadyH.nil)
    rw [if_pos (by rfl)]
    refine wp_append_own _ _ _ 22 rfl w0.heap.size 5 i0 _ 1 1 Tryz.underlying22 hi hz0 hz1 hz2 rfl (by decide) u l.length (l.map bv) rfl huwy7 ⟨gb, 0, none⟩ 1 1 [.int .u8 116] rfl rfl (rb.cells rfl) (by simp [Value.oneCell']) (by unfold maxLen; omega) (by omega) hBwy7.size ?_
    intro u2 wy8 hnwy8 hgwy8 _
    change K (Act.put _ (some 7) u2) wy8
    have hBwy8 := below_row hBwy7 huwy7 hgwy8
    have hKwy8 := keep_row hSwy7 huwy7 hgwy8
    have hswy8 := (keep_row (KeepT.refl _) huwy7 hgwy8).row hswy7 (by decide)
    refine hK.out _ _ hKwy8 (fun _ => ?_)
    clear hK K hgwy8
    try dsimp only
    try simp only [Act.put, List.setIfInBounds_toArray, List.set_cons_zero, List.set_cons_succ]
    refine wpAnyH_ready (rs := [16]) (by kernel_rfl) (by simp) (AllReadyH.cons rfl (fun K hK => ?_) AllReadyH.nil)
    rw [if_pos (by rfl)]
    go_simp
    (with_reducible refine (f1.out _ _ _ _ hBwy8 hswy8 hnwy8).mono ?_); rintro e w3 ⟨u3, rfl, hu3, hb3, hk3⟩
    refine hK.out _ _ (hKwy8.trans hk3) (fun hS3 => ?_)
    have hKK := (hKwy8).trans hk3
    clear hK K
    try simp only [Act.put, List.setIfInBounds_toArray, List.set_cons_zero, List.set_cons_succ]
    refine heldT 17 4 (u3) rfl rfl (by kernel_rfl) (by kernel_rfl) (by kernel_rfl) (fun _ _ _ h => h) (by rfl) hS3 (fun wz hSW => ?_) ?_
    · skip; (try go_simp) <;> (try omega)
    try simp only [Act.put, List.setIfInBounds_toArray, List.set_cons_zero, List.set_cons_succ]
    refine wpAnyH_done (by kernel_rfl) ?_ _
    go_wp2
    go_ret
    exact ⟨_, rfl, hu3, hb3, hK0.trans hKK⟩
end Go.Proofs.YtgmjbdndffdpoaaGreatDoor

namespace Go.Proofs.YtgmjbdndffdpoaaGreatDoor
set_option maxRecDepth 100000
open Go.ChangeShapes Go.WideShapes Go.ChangeAt Go.RowKit
set_option linter.unusedSimpArgs false

/-- Every value that stands for a term is written by its own method. -/
theorem appOk {w0 : World} (hv : Vars w0) : ∀ (t : Tm) (v : Value), t.Lim 9999 → IRep w0 t v → AppOk w0 t v
  | .var n, _, hok, ⟨g, rfl, hg⟩ => ⟨_, _, _, rfl, methVar, fun _ _ _ hb hu hl => appVar n hok hg hv hb hu hl⟩
  | .sort s, _, _, ⟨g, rfl, hg⟩ => ⟨_, _, _, rfl, methSort, fun _ _ _ hb hu hl => appSort s hg hb hu hl⟩
  | .const s ls, _, _, ⟨g, c, rfl, hg, hc⟩ => ⟨_, _, _, rfl, methConst, fun _ _ _ hb hu hl => appConst s hg hc hb hu hl⟩
  | .app f a, _, hok, ⟨g, x, y, rfl, hg, hx, hy⟩ => by
    have h1 := appOk hv f x hok.1 hx
    have h2 := appOk hv a y hok.2 hy
    obtain ⟨T1, x1, rfl⟩ := hx.iface
    obtain ⟨T2, y1, rfl⟩ := hy.iface
    refine ⟨_, _, _, rfl, methApp, fun W u l hb hu hl => ?_⟩
    have e : (Tm.app f a).bytes = 64 :: cat [f, a] := by rw [cat_two]; rfl
    rw [e] at hl ⊢
    exact appApp hg h1 h2 hb hu (by simpa using hl)
  | .lam f a, _, hok, ⟨g, x, y, rfl, hg, hx, hy⟩ => by
    have h1 := appOk hv f x hok.1 hx
    have h2 := appOk hv a y hok.2 hy
    obtain ⟨T1, x1, rfl⟩ := hx.iface
    obtain ⟨T2, y1, rfl⟩ := hy.iface
    refine ⟨_, _, _, rfl, methLam, fun W u l hb hu hl => ?_⟩
    have e : (Tm.lam f a).bytes = 108 :: cat [f, a] := by rw [cat_two]; rfl
    rw [e] at hl ⊢
    exact appLam hg h1 h2 hb hu (by simpa using hl)
  | .pi f a, _, hok, ⟨g, x, y, rfl, hg, hx, hy⟩ => by
    have h1 := appOk hv f x hok.1 hx
    have h2 := appOk hv a y hok.2 hy
    obtain ⟨T1, x1, rfl⟩ := hx.iface
    obtain ⟨T2, y1, rfl⟩ := hy.iface
    refine ⟨_, _, _, rfl, methPi, fun W u l hb hu hl => ?_⟩
    have e : (Tm.pi f a).bytes = 112 :: cat [f, a] := by rw [cat_two]; rfl
    rw [e] at hl ⊢
    exact appPi hg h1 h2 hb hu (by simpa using hl)
  | .lett f a b, _, hok, ⟨g, x, y, z, rfl, hg, hx, hy, hz⟩ => by
    have h1 := appOk hv f x hok.1 hx
    have h2 := appOk hv a y hok.2.1 hy
    have h3 := appOk hv b z hok.2.2 hz
    obtain ⟨T1, x1, rfl⟩ := hx.iface
    obtain ⟨T2, y1, rfl⟩ := hy.iface
    obtain ⟨T3, z1, rfl⟩ := hz.iface
    refine ⟨_, _, _, rfl, methLet, fun W u l hb hu hl => ?_⟩
    have e : (Tm.lett f a b).bytes = 116 :: cat [f, a, b] := by rw [cat_three]; rfl
    rw [e] at hl ⊢
    exact appLet hg h1 h2 h3 hb hu (by simpa using hl)
theorem implText {w0 : World} (hv : Vars w0) {t : Tm} {v : Value} (hok : t.Lim 9999) (hr : IRep w0 t v) (hl : t.bytes.length ≤ 100000000) :
    Calls Tryz.prog 30 #[v] w0 fun e W' => e = .returned (.string ⟨t.bytes.toArray⟩) ∧ Below w0.heap.size w0 W' := by
  obtain ⟨T, x, fn, rfl, hm, hc⟩ := appOk hv t v hok hr
  exact implTextOf hm (hc w0 (.slice none 0 0) [] (Below.refl _ _) (World.ownsRow_nil _ _ _ _) (by simpa using hl))
end Go.Proofs.YtgmjbdndffdpoaaGreatDoor
