/-
  laws.FnExactConstText, walked.
-/
import Derived.Test.YtnklajagefedmaaTConT
import Derived.Test.YtnklajagefedmaaTID
namespace Go.Proofs.Ytnklajagefedmaa
set_option maxRecDepth 100000
open Go.ChangeShapes Go.WideShapes Go.ChangeAt Go.RowKit

theorem walkConstText (s : ByteArray) {v : Value} {args : List (List UInt8)} (w : World) (hm : s.size ≤ maxLen) (h : Came w v args) :
    Calls Try.prog 3 #[.string s, v] w fun e w' => e = .returned (.bool true) ∧ Below w.heap.size w w' :=
  lawConstText s w hm h fun _ h2 h3 _ _ _ _ hu => implConstText s hu hm (fun x hx => by have := h3 x hx; unfold maxLen; omega) (by omega)
end Go.Proofs.Ytnklajagefedmaa
