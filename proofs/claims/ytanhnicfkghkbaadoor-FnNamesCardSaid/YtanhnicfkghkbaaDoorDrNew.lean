/-
  The contract of spec.l01New; a cursor is kept.
-/
import Derived.Test.YtanhnicfkghkbaaDoorDr1A
namespace Go.Proofs.YtanhnicfkghkbaaDoor
set_option maxRecDepth 100000
open Go.ChangeShapes Go.WideShapes Go.ChangeAt Go.RowKit
set_option linter.unusedSimpArgs false
set_option linter.unusedVariables false

set_option maxHeartbeats 1000000 in
theorem drawNew {w : World} {v : Value} {l : List UInt8} (hl : CameB w v l) (hn : l.length ≤ 2000000) :
    Calls Tryd.prog 14 #[v] w fun e w' => ∃ cb, e = .returned (.pointer (some ⟨cb, 0, none⟩)) ∧ Cur w v l cb w' := by
  obtain ⟨a0, cap, b, off, rfl, h2, h3⟩ := hl
  go_enter Tryd.func14, Tryd.ntmps14
  go_wp2
  go_loopw [3, 4] (fun hh i wr => ∃ (p : Nat) (x : Int), p ≤ l.length ∧ hh = .int .i64 x ∧ i = .int .i64 p ∧ wr = w) (fun _ i _ => l.length - (intOf i).toNat)
  case atStart => exact ⟨0, _, Nat.zero_le _, rfl, rfl, rfl⟩
  case round =>
    obtain ⟨p, x, hp, rfl, rfl, rfl⟩ := hrel
    by_cases hlt : p < l.length
    · by_cases h4 : p < 4000
      · have d1 : decide ((p : Int) < (l.length : Int)) = true := decide_eq_true (by omega)
        have d2 : decide ((p : Int) < 4000) = true := decide_eq_true (by omega)
        obtain ⟨rfl, hb⟩ := h2 (by omega)
        have cc := h3 p hlt
        have hby := l[p].toNat_lt
        generalize l[p].toNat = u at cc hby
        have q1 : (0 : Int) ≤ (p : Int) := by omega
        have q2 : (p : Int) < (l.length : Int) := by omega
        clear h2 h3
        go_wp2
        go_roundw
        case rel => exact ⟨p + 1, _, by omega, rfl, by go_num, trivial⟩
        case measure => simp [intOf]; omega
      · have d1 : decide ((p : Int) < (l.length : Int)) = true := decide_eq_true (by omega)
        have d2 : decide ((p : Int) < 4000) = false := decide_eq_false (by omega)
        clear h2 h3
        go_wp2
        go_ret
        exact ⟨wr.heap.size, rfl, (Below.refl _ _).alloc (Nat.le_refl _) _, Nat.le_refl _, by simp, 0, x, Nat.zero_le _, World.news_of_block (cs := #[.slice a0 l.length cap, .int .i64 0, .int .i64 x]) (t := 44) (fr := (0, 0)) (heap_alloc_new wr _) 0 _ rfl, World.news_of_block (cs := #[.slice a0 l.length cap, .int .i64 0, .int .i64 x]) (t := 44) (fr := (0, 0)) (heap_alloc_new wr _) 1 _ rfl, World.news_of_block (cs := #[.slice a0 l.length cap, .int .i64 0, .int .i64 x]) (t := 44) (fr := (0, 0)) (heap_alloc_new wr _) 2 _ rfl, by simp, by simp⟩
    · have d1 : decide ((p : Int) < (l.length : Int)) = false := decide_eq_false (by omega)
      clear h2 h3
      go_wp2
      go_ret
      exact ⟨wr.heap.size, rfl, (Below.refl _ _).alloc (Nat.le_refl _) _, Nat.le_refl _, by simp, 0, x, Nat.zero_le _, World.news_of_block (cs := #[.slice a0 l.length cap, .int .i64 0, .int .i64 x]) (t := 44) (fr := (0, 0)) (heap_alloc_new wr _) 0 _ rfl, World.news_of_block (cs := #[.slice a0 l.length cap, .int .i64 0, .int .i64 x]) (t := 44) (fr := (0, 0)) (heap_alloc_new wr _) 1 _ rfl, World.news_of_block (cs := #[.slice a0 l.length cap, .int .i64 0, .int .i64 x]) (t := 44) (fr := (0, 0)) (heap_alloc_new wr _) 2 _ rfl, by simp, by simp⟩

theorem Cur.below {w0 w w' : World} {v : Value} {l : List UInt8} {cb : Nat} (h : Cur w0 v l cb w) (hb : Below w.heap.size w w') : Cur w0 v l cb w' := by
  obtain ⟨h1, h2, h3, i, x, h4, c0, c1, c2, z1, z2⟩ := h
  refine ⟨h1.trans (hb.mono h1.size), h2, Nat.lt_of_lt_of_le h3 hb.size, i, x, h4, (hb.cell (p := ⟨cb, 0, none⟩) h3).trans c0, (hb.cell (p := ⟨cb, 1, none⟩) h3).trans c1, (hb.cell (p := ⟨cb, 2, none⟩) h3).trans c2, (hb.frozen (p := ⟨cb, 1, none⟩) h3).trans z1, (hb.frozen (p := ⟨cb, 2, none⟩) h3).trans z2⟩
end Go.Proofs.YtanhnicfkghkbaaDoor
