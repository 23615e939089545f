/-
  The laws of chapter 5 (LevelAt, LevelLe, LevelSame, LevelZero, LevelAbove, LevelWitness, LevelValues, LevelOrder), walked.
-/
import Derived.Test.YtdeophmdpbgkdaaULaws
import Derived.Test.YtdeophmdpbgkdaaUGenA
import Derived.Test.YtdeophmdpbgkdaaUGenB
import Derived.Test.YtdeophmdpbgkdaaUI4
import Derived.Test.YtdeophmdpbgkdaaVI3
import Derived.Test.YtdeophmdpbgkdaaOpenB
namespace Go.Proofs.Ytdeophmdpbgkdaa
set_option maxRecDepth 100000
open Go.ChangeShapes Go.WideShapes Go.ChangeAt Go.RowKit

theorem still {P : Program} {f : FuncId} {args : Array Value} {W : World} {r : Ending} (h : Calls P f args W fun e w' => e = r ∧ w' = W) : Calls P f args W fun e w' => e = r ∧ Below W.heap.size W w' :=
  h.mono fun _ _ hh => ⟨hh.1, hh.2 ▸ Below.refl _ _⟩
theorem small {n : Nat} (h : n ≤ 1048576) : n ≤ maxLen := by unfold maxLen; omega

theorem walkLevelAt (s : ByteArray) {v : Value} {vs : List Int} (w : World) (hm : s.size ≤ maxLen) (h : CameI w v vs) :
    Calls Try.prog 5 #[.string s, v] w fun e w' => e = .returned (.bool true) ∧ Below w.heap.size w w' :=
  lawLevelAt s w hm h fun _ hn W b u hu => still (implLevelAt s hu hm (by omega))
theorem walkLevelLe (a b : ByteArray) (w : World) (ha : a.size ≤ maxLen) (hb : b.size ≤ maxLen) :
    Calls Try.prog 6 #[.string a, .string b] w fun e w' => e = .returned (.bool true) ∧ Below w.heap.size w w' :=
  lawLevelLe a b w ha hb fun _ _ W => implLevelLe a b W ha hb
theorem walkLevelSame (a b : ByteArray) (w : World) (ha : a.size ≤ maxLen) (hb : b.size ≤ maxLen) :
    Calls Try.prog 7 #[.string a, .string b] w fun e w' => e = .returned (.bool true) ∧ Below w.heap.size w w' :=
  lawLevelSame a b w ha hb fun _ _ W => implLevelSame a b W ha hb
theorem walkLevelZero (s : ByteArray) (w : World) (hm : s.size ≤ maxLen) :
    Calls Try.prog 8 #[.string s] w fun e w' => e = .returned (.bool true) ∧ Below w.heap.size w w' :=
  lawLevelZero s w hm fun _ W => implLevelZero s W hm
theorem walkLevelAbove (s : ByteArray) (w : World) (hm : s.size ≤ maxLen) :
    Calls Try.prog 9 #[.string s] w fun e w' => e = .returned (.bool true) ∧ Below w.heap.size w w' :=
  lawLevelAbove s w hm fun _ W => implLevelAbove s W hm
theorem walkLevelWitness (a b : ByteArray) (w : World) (ha : a.size ≤ maxLen) (hb : b.size ≤ maxLen) :
    Calls Try.prog 10 #[.string a, .string b] w fun e w' => e = .returned (.bool true) ∧ Below w.heap.size w w' :=
  lawLevelWitness a b w ha hb fun _ _ W => implLevelWitness a b W ha hb
theorem walkLevelValues {v : Value} {l : List UInt8} (w : World) (hl : CameB w v l) (hm : l.length ≤ maxLen) (hnil : NilB v) :
    Calls Try.prog 3 #[v] w fun e w' => e = .returned (.bool true) ∧ Below w.heap.size w w' :=
  lawLevelValues w hl hm hnil (fun s _ hs hn hx W b u hu => implLevelPut s hu (small hs) (fun x hxm => small (hx x hxm)) (by omega)) (fun s hs W => still (implLevelUps s W (small hs)))
    (fun s _ hs hn W b u hu => still (implLevelAt s hu (small hs) (by omega)))
theorem walkLevelOrder {v : Value} {l : List UInt8} (w : World) (hl : CameB w v l) (hm : l.length ≤ maxLen) :
    Calls Try.prog 4 #[v] w fun e w' => e = .returned (.bool true) ∧ Below w.heap.size w w' :=
  lawLevelOrder w hl hm (fun s _ hs hn W b u hu => still (implLevelAt s hu (small hs) (by omega))) (fun a b ha hb W => implLevelLe a b W (small ha) (small hb)) (fun a b ha hb W => implLevelSame a b W (small ha) (small hb))
    (fun s hs W => implLevelZero s W (small hs)) (fun s hs W => implLevelAbove s W (small hs)) (fun a b ha hb W => implLevelWitness a b W (small ha) (small hb))
end Go.Proofs.Ytdeophmdpbgkdaa
