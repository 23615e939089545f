/-
  laws.FnExactNameOk returns true for every string, by the contracts of spec.NameOk and impl.NameOk.
-/
import Derived.Test.YtabgibmdkfebhaaNWalks2
namespace Go.Proofs.Ytabgibmdkfebhaa
open Go.ChangeShapes Go.WideShapes Go.ChangeAt Go.RowKit
theorem lawNameOk (s : ByteArray) (w : World) (hm : s.size ≤ maxLen) :
    Calls Try.prog 3 #[.string s] w fun e w' => e = .returned (.bool true) ∧ Below w.heap.size w w' := by
  have f1 := Lib.hid fun W => specNameOk s W hm
  have f2 := Lib.hid fun W => implNameOk s W hm
  generalize nameOk s.data.toList = b at f1 f2
  unfold maxLen at hm
  by_cases h1 : 1048576 < s.size
  · go_enter Try.func3, Try.ntmps3
    go_wp2
    go_ret
    exact ⟨rfl, Below.refl _ _⟩
  · go_enter Try.func3, Try.ntmps3
    go_wp2_with fail
    (with_reducible refine (f1.out _).mono ?_); rintro e w1 ⟨rfl, hb1⟩
    go_wp2_with fail
    (with_reducible refine (f2.out _).mono ?_); rintro e w2 ⟨rfl, hb2⟩
    cases b
    all_goals
      go_wp2
      go_ret
      exact ⟨rfl, hb1.trans (hb2.mono hb1.size)⟩
end Go.Proofs.Ytabgibmdkfebhaa
