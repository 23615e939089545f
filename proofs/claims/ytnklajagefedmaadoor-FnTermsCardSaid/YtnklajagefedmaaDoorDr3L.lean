/-
  The contract of spec.DrawLevels.
-/
import Derived.Test.YtnklajagefedmaaDoorDr3
namespace Go.Proofs.YtnklajagefedmaaDoor
set_option maxRecDepth 100000
open Go.ChangeShapes Go.WideShapes Go.ChangeAt Go.RowKit
set_option linter.unusedSimpArgs false

set_option maxHeartbeats 1000000 in
theorem drawLevels {w : World} {v : Value} {l : List UInt8} (hl : CameB w v l) (hn : l.length ≤ 2000000) :
    Calls Tryd.prog 15 #[v] w fun e w' => (∃ a b : List UInt8, LvP a ∧ LvP b ∧ a.length ≤ 23 ∧ b.length ≤ 23 ∧ e = .returned (.tuple #[.string ⟨a.toArray⟩, .string ⟨b.toArray⟩])) ∧ Below w.heap.size w w' := by
  have f1 := Lib.hid (drawNew hl hn)
  have f2 : Hid (∀ cb W, Cur w v l cb W → Calls Tryd.prog 44 #[.pointer (some ⟨cb, 0, none⟩), .int .i64 3, .int .i64 3] W (LvPost w v l cb 3 W)) := fun cb W hW => drawLevel hl hn 3 (by decide) (by decide) 3 (by decide) W hW
  obtain ⟨a0, cap, _, _, rfl, _⟩ := hl
  go_enter Tryd.func15, Tryd.ntmps15
  go_wp2_with fail
  (with_reducible refine f1.out.mono ?_); rintro e w1 ⟨cb, rfl, hc1⟩
  go_wp2_with fail
  (with_reducible refine (f2.out _ _ hc1).mono ?_); rintro e w2 ⟨⟨a, ha, hla, rfl⟩, hc2, _⟩
  go_wp2_with fail
  (with_reducible refine (f2.out _ _ hc2).mono ?_); rintro e w3 ⟨⟨b, hb, hlb, rfl⟩, hc3, _⟩
  go_wp2
  go_ret2
  exact ⟨⟨a, b, ha, hb, hla, hlb, rfl⟩, hc3.1⟩
end Go.Proofs.YtnklajagefedmaaDoor
