/-
  Contracts of cmp.Or at two numbers and of impl.compareLabels.
-/
import Derived.Test.YtlaoioicefohiaaLOrd
import Derived.Test.YtlaoioicefohiaaShelfA
import Derived.Test.YtlaoioicefohiaaCMath
import Derived.Shelf.SlSortCmp.NoneTotal
import Derived.StillTailTactics
namespace Go.Proofs.Ytlaoioicefohiaa
set_option maxRecDepth 100000
open Go.ChangeShapes Go.WideShapes Go.ChangeAt Go.RowKit
set_option linter.unusedSimpArgs false

def orI (a c : Int) : Int := if a = 0 then c else a
theorem orTwo {w : World} {b : Nat} (a c : Int) (c0 : w.cell? ⟨b, 0, none⟩ = some (.int .i64 a)) (c1 : w.cell? ⟨b, 1, none⟩ = some (.int .i64 c)) :
    Calls Try.prog 67 #[.slice (some ⟨b, 0, none⟩) 2 2] w fun e w' => e = .returned (.int .i64 (orI a c)) ∧ w' = w := by
  by_cases ha : a = 0
  · subst ha
    by_cases hc : c = 0
    · subst hc
      go_enter Try.func67, Try.ntmps67
      go_wp2
      refine wp_loop_rounds 3 ?_
      rw [rounds_succ]
      go_wp2
      rw [rounds_succ]
      go_wp2
      rw [rounds_succ]
      go_wp2
      go_ret
      exact ⟨rfl, rfl⟩
    · have hb : (c == 0) = false := beq_eq_false_iff_ne.2 hc
      have HR := Lib.hid (show orI 0 c = c from if_pos rfl)
      clear hc
      go_enter Try.func67, Try.ntmps67
      go_wp2
      refine wp_loop_rounds 3 ?_
      rw [rounds_succ]
      go_wp2
      rw [rounds_succ]
      go_wp2
      go_ret
      rw [HR.out]
      exact ⟨rfl, rfl⟩
  · have hb : (a == 0) = false := beq_eq_false_iff_ne.2 ha
    have HR := Lib.hid (show orI a c = a from if_neg ha)
    clear ha
    go_enter Try.func67, Try.ntmps67
    go_wp2
    refine wp_loop_rounds 3 ?_
    rw [rounds_succ]
    go_wp2
    go_ret
    rw [HR.out]
    exact ⟨rfl, rfl⟩

def cmpL (x y : Int × List UInt8) : Int := orI (Lib.compareInt x.1 y.1) (Lib.compareBytes x.2 y.2)
set_option maxHeartbeats 1000000 in
theorem compareLabels (k1 k2 : Int) (n1 n2 : List UInt8) (w : World) :
    Calls Try.prog 55 #[.agg #[.int .i64 k1, .string ⟨n1.toArray⟩], .agg #[.int .i64 k2, .string ⟨n2.toArray⟩]] w fun e w' => e = .returned (.int .i64 (cmpL (k1, n1) (k2, n2))) ∧ ∃ q os, w' = Go.Sort.grow (w.drewN q) os := by
  have f1 := Lib.hid fun W => Try.cmp_Compare_int k1 k2 W
  have f2 := Lib.hid fun W => Try.strings_Compare ⟨n1.toArray⟩ ⟨n2.toArray⟩ W
  simp only at f2
  have HR : Hid (cmpL (k1, n1) (k2, n2) = orI (Lib.compareInt k1 k2) (Lib.compareBytes n1 n2)) := rfl
  generalize cmpL (k1, n1) (k2, n2) = res at HR
  generalize Lib.compareInt k1 k2 = r1 at f1 HR
  generalize Lib.compareBytes n1 n2 = r2 at f2 HR
  have f3 := Lib.hid fun W b h0 h1 => orTwo (w := W) (b := b) r1 r2 h0 h1
  rw [← HR.out] at f3
  have x0 : ((w.alloc (.cells #[.int .i64 k1, .string ⟨n1.toArray⟩] 31)).alloc (.cells #[.int .i64 k2, .string ⟨n2.toArray⟩] 31)).cell? ⟨w.heap.size, 0, none⟩ = some (.int .i64 k1) := (((Below.refl (w.alloc (.cells #[.int .i64 k1, .string ⟨n1.toArray⟩] 31)).heap.size _).alloc (Nat.le_refl _) _).cell (p := ⟨w.heap.size, 0, none⟩) (by simp)).trans (World.news_of_block (cs := #[.int .i64 k1, .string ⟨n1.toArray⟩]) (t := 31) (fr := (0, 0)) (heap_alloc_new w _) 0 _ rfl)
  have x1 : ((w.alloc (.cells #[.int .i64 k1, .string ⟨n1.toArray⟩] 31)).alloc (.cells #[.int .i64 k2, .string ⟨n2.toArray⟩] 31)).cell? ⟨w.heap.size, 1, none⟩ = some (.string ⟨n1.toArray⟩) := (((Below.refl (w.alloc (.cells #[.int .i64 k1, .string ⟨n1.toArray⟩] 31)).heap.size _).alloc (Nat.le_refl _) _).cell (p := ⟨w.heap.size, 1, none⟩) (by simp)).trans (World.news_of_block (cs := #[.int .i64 k1, .string ⟨n1.toArray⟩]) (t := 31) (fr := (0, 0)) (heap_alloc_new w _) 1 _ rfl)
  have y0 : ((w.alloc (.cells #[.int .i64 k1, .string ⟨n1.toArray⟩] 31)).alloc (.cells #[.int .i64 k2, .string ⟨n2.toArray⟩] 31)).cell? ⟨w.heap.size + 1, 0, none⟩ = some (.int .i64 k2) := by
    simp
  have y1 : ((w.alloc (.cells #[.int .i64 k1, .string ⟨n1.toArray⟩] 31)).alloc (.cells #[.int .i64 k2, .string ⟨n2.toArray⟩] 31)).cell? ⟨w.heap.size + 1, 1, none⟩ = some (.string ⟨n2.toArray⟩) := by
    simp
  have HW : Hid (∃ os, (w.alloc (.cells #[.int .i64 k1, .string ⟨n1.toArray⟩] 31)).alloc (.cells #[.int .i64 k2, .string ⟨n2.toArray⟩] 31) = Go.Sort.grow w os) := ⟨_, by rw [Go.Sort.alloc_eq_grow, Go.Sort.alloc_eq_grow, Go.Sort.grow_grow]⟩
  go_enter Try.func55, Try.ntmps55
  go_wp2
  generalize (w.alloc (.cells #[.int .i64 k1, .string ⟨n1.toArray⟩] 31)).alloc (.cells #[.int .i64 k2, .string ⟨n2.toArray⟩] 31) = wa at x0 x1 y0 y1 HW
  go_still_tail 10, (by kernel_rfl)
  still_call (f1.out _)
  repeat still_step
  still_call (f2.out _)
  refine wpStill_nil ?_
  change wpList _ _ _ _ _ wa.drew
  clear x0 x1 y0 y1 f1 f2
  generalize hwd : wa.drew = wd
  have n0 : (wd.alloc (.cells #[.int .i64 r1, .int .i64 r2] 3)).cell? ⟨wd.heap.size, 0, none⟩ = some (.int .i64 r1) := World.news_of_block (cs := #[.int .i64 r1, .int .i64 r2]) (t := 3) (fr := (0, 0)) (heap_alloc_new wd _) 0 _ rfl
  have n1 : (wd.alloc (.cells #[.int .i64 r1, .int .i64 r2] 3)).cell? ⟨wd.heap.size, 1, none⟩ = some (.int .i64 r2) := World.news_of_block (cs := #[.int .i64 r1, .int .i64 r2]) (t := 3) (fr := (0, 0)) (heap_alloc_new wd _) 1 _ rfl
  have f4 := Lib.hid (f3.out _ _ n0 n1)
  clear f3 n0 n1
  have HD := Lib.hid hwd
  clear hwd
  go_wp2_with fail
  (with_reducible refine f4.out.mono ?_); rintro e w2 ⟨rfl, rfl⟩
  go_wp2
  go_ret
  obtain ⟨os, hos⟩ := HW.out
  refine ⟨rfl, 1, os ++ #[.cells #[.int .i64 r1, .int .i64 r2] 3], ?_⟩
  rw [← HD.out, hos, Go.Sort.alloc_eq_grow, Go.Sort.drew_grow, Go.Sort.grow_grow]
  rfl

theorem cmpL_lt (x y : Int × List UInt8) : Go.Proofs.ltOf cmpL x y = ordL.lt x y := by
  have h1 := cmpI_lt x.1 y.1
  have h2 := cmpI_zero x.1 y.1
  have h3 := cmpB_lt x.2 y.2
  show decide (orI (Lib.compareInt x.1 y.1) (Lib.compareBytes x.2 y.2) < 0) = lessL x.1 x.2 y.1 y.2
  unfold orI lessL
  by_cases e : Lib.compareInt x.1 y.1 = 0
  · rw [if_pos e, h3]
    have := h2.1 e
    simp [this]
  · rw [if_neg e]
    have hne : (x.1 == y.1) = false := beq_eq_false_iff_ne.2 fun h => e (h2.2 h)
    rw [hne]
    simp [h1]
theorem cmpL_zero (x y : Int × List UInt8) : cmpL x y = 0 ↔ x = y := by
  unfold cmpL orI
  have h2 := cmpI_zero x.1 y.1
  have h3 := cmpB_zero x.2 y.2
  by_cases e : Lib.compareInt x.1 y.1 = 0
  · rw [if_pos e, h3]
    exact ⟨fun h => Prod.ext (h2.1 e) h, fun h => by rw [h]⟩
  · rw [if_neg e]
    exact ⟨fun h => absurd h e, fun h => h2.2 (by rw [h])⟩
theorem cmpL_swo : Go.Sort.SWO (Go.Proofs.ltOf cmpL) where
  irrefl x := by rw [cmpL_lt]; exact ordL.irr x
  trans x y z h1 h2 := by rw [cmpL_lt] at *; exact ordL.tr x y z h1 h2
  ntrans x y z h1 h2 := by
    rw [cmpL_lt] at *
    exact ordL.le_trans (x := z) (y := y) (z := x) h2 h1
theorem cmpL_total (x y : Int × List UInt8) (h1 : Go.Proofs.ltOf cmpL x y = false) (h2 : Go.Proofs.ltOf cmpL y x = false) : x = y := by
  rw [cmpL_lt] at h1 h2
  exact ordL.tot x y h1 h2
end Go.Proofs.Ytlaoioicefohiaa
