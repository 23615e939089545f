/-
  The laws of chapter 4 (LevelOk, LevelEnd, LevelParams, LevelUps, LevelPut, Levels), walked.
-/
import Derived.Test.YtfmbipocbnhnbaaVGen
import Derived.Test.YtfmbipocbnhnbaaVLaws
import Derived.Test.YtfmbipocbnhnbaaVI3
import Derived.Test.YtfmbipocbnhnbaaOpenB
namespace Go.Proofs.Ytfmbipocbnhnbaa
set_option maxRecDepth 100000
open Go.ChangeShapes Go.WideShapes Go.ChangeAt Go.RowKit

theorem still {P : Program} {f : FuncId} {args : Array Value} {W : World} {r : Ending} (h : Calls P f args W fun e w' => e = r ∧ w' = W) : Calls P f args W fun e w' => e = r ∧ Below W.heap.size W w' :=
  h.mono fun _ _ hh => ⟨hh.1, hh.2 ▸ Below.refl _ _⟩
theorem small {n : Nat} (h : n ≤ 1048576) : n ≤ maxLen := by unfold maxLen; omega

theorem walkLevelOk (s : ByteArray) (w : World) (hm : s.size ≤ maxLen) :
    Calls Try.prog 4 #[.string s] w fun e w' => e = .returned (.bool true) ∧ Below w.heap.size w w' :=
  lawLevelOk s w hm fun _ W => still (implLevelOk s W hm)
theorem walkLevelEnd {p : Prop} (s : ByteArray) (x : Int) (w : World) (hm : s.size ≤ maxLen) (_ : p) :
    Calls Try.prog 5 #[.string s, .int .i64 x] w fun e w' => e = .returned (.bool true) ∧ Below w.heap.size w w' :=
  lawLevelEnd s x w hm fun _ W => still (implLevelEnd s x W hm)
theorem walkLevelParams (s : ByteArray) (w : World) (hm : s.size ≤ maxLen) :
    Calls Try.prog 6 #[.string s] w fun e w' => e = .returned (.bool true) ∧ Below w.heap.size w w' :=
  lawLevelParams s w hm fun _ W => still (implLevelParams s W hm)
theorem walkLevelUps (s : ByteArray) (w : World) (hm : s.size ≤ maxLen) :
    Calls Try.prog 7 #[.string s] w fun e w' => e = .returned (.bool true) ∧ Below w.heap.size w w' :=
  lawLevelUps s w hm fun _ W => still (implLevelUps s W hm)
theorem walkLevelPut (s : ByteArray) {v : Value} {args : List (List UInt8)} (w : World) (hm : s.size ≤ maxLen) (h : Came w v args) :
    Calls Try.prog 8 #[.string s, v] w fun e w' => e = .returned (.bool true) ∧ Below w.heap.size w w' :=
  lawLevelPut s w hm h fun _ hn hx W b u hu => implLevelPut s hu hm (fun x hxm => small (hx x hxm)) (by omega)
theorem walkLevels {v : Value} {l : List UInt8} (w : World) (hl : CameB w v l) (hm : l.length ≤ maxLen) :
    Calls Try.prog 3 #[v] w fun e w' => e = .returned (.bool true) ∧ Below w.heap.size w w' :=
  lawLevels w hl hm (fun s hs W => still (implLevelOk s W (small hs))) (fun s x hs W => still (implLevelEnd s x W (small hs))) (fun s hs W => still (implLevelParams s W (small hs))) (fun s hs W => still (implLevelUps s W (small hs)))
    (fun s _ hs hn hx W b u hu => implLevelPut s hu (small hs) (fun x hxm => small (hx x hxm)) (by omega))
end Go.Proofs.Ytfmbipocbnhnbaa
