/-
  No cell of these rows narrows 'for every input' (looked for: loops, veiled, ifaces, maps, wideKeys, modest, calm, conditions, laid).
  DERIVED. THE GIVEN ROWS OF THIS SEAT. 6 by the template 'for every input the law returns true; each argument reads behind the call as it read before'; 0 by the template 'total and deterministic' (their statements: YtabgibmdkfebhaaTotals.lean).
  GIVEN WITH THE SEED: the statements are not yours to turn. If you find one false, say at which input.
  Laid BY PROGRAM, IN A SANDBOX (cutbox-rows.mjs): the forced cells as the released guide's own fill.sh prints them over the translation f23c60d60e2abc3c… (all of the seat's roots in one cut). By AI agents, Wed Nov 11 2026. No macro, syntax, notation, axiom, sorry.
-/
import Derived.Test.YtabgibmdkfebhaaChecked
import GoSem.Claim
import GoSem.ClaimJoined
import GoSem.ClaimMapViews
import Derived.JoinedTies
import Derived.KernelRfl
namespace Go.Proofs.Ytabgibmdkfebhaa
/- THE CELL 'sum', in the pinned program and in every row, IS THE sha256 OF THE DUMP (.gsa) THAT YtabgibmdkfebhaaProg.lean LOADS. Nothing in Lean hashes anything: it is a label: what it is worth is what the hold of that sum in a sandbox is worth. -/
noncomputable def Try.pinned : Pinned := { name := "ytabgibmdkfebhaa", sum := "f23c60d60e2abc3c8f5db4b5d162985e89c4f62fbb2eae83a46f31ab59d4ae33", checked := Try.checked }
namespace Rows
def none {H : Type} : Left H := { results := [], args := [] }

/-- 'laws.FnExactNameOk': WHATEVER THE INPUT: true; the input reads as it did. -/
def fnExactNameOkSpec : ChangeSpec := { name := "fnExactNameOk", fn := fun _ => fun
  | [d] => { results := [.lit (.bool true)], args := [d] }
  | _ => none }
def fnExactNameOkRow : OpenClaim := { program := "ytabgibmdkfebhaa", sum := "f23c60d60e2abc3c8f5db4b5d162985e89c4f62fbb2eae83a46f31ab59d4ae33", func := "loop.example/g00963/laws.FnExactNameOk", spec := "fnExactNameOk", apart := false }
def FnExactNameOkSaid : Prop := fnExactNameOkRow.holds Try.pinned (OpenSpec.ofChange fnExactNameOkSpec)

/-- ITS FALSE NEIGHBOUR: 'it returns false'. Refute it at one input. -/
def fnExactNameOkWrong : ChangeSpec := { name := "fnExactNameOk", fn := fun _ => fun
  | [d] => { results := [.lit (.bool false)], args := [d] }
  | _ => none }
def FnExactNameOkWrongFalsely : Prop := fnExactNameOkRow.holds Try.pinned (OpenSpec.ofChange fnExactNameOkWrong)

/-- 'laws.FnExactUnder': WHATEVER THE INPUT: true; the input reads as it did. -/
def fnExactUnderSpec : ChangeSpec := { name := "fnExactUnder", fn := fun _ => fun
  | [d1, d2] => { results := [.lit (.bool true)], args := [d1, d2] }
  | _ => none }
def fnExactUnderRow : OpenClaim := { program := "ytabgibmdkfebhaa", sum := "f23c60d60e2abc3c8f5db4b5d162985e89c4f62fbb2eae83a46f31ab59d4ae33", func := "loop.example/g00963/laws.FnExactUnder", spec := "fnExactUnder", apart := false }
def FnExactUnderSaid : Prop := fnExactUnderRow.holds Try.pinned (OpenSpec.ofChange fnExactUnderSpec)

/-- ITS FALSE NEIGHBOUR: 'it returns false'. Refute it at one input. -/
def fnExactUnderWrong : ChangeSpec := { name := "fnExactUnder", fn := fun _ => fun
  | [d1, d2] => { results := [.lit (.bool false)], args := [d1, d2] }
  | _ => none }
def FnExactUnderWrongFalsely : Prop := fnExactUnderRow.holds Try.pinned (OpenSpec.ofChange fnExactUnderWrong)

/-- 'laws.FnExactNameAdd': WHATEVER THE INPUT: true; the input reads as it did. -/
def fnExactNameAddSpec : ChangeSpec := { name := "fnExactNameAdd", fn := fun _ => fun
  | [d1, d2] => { results := [.lit (.bool true)], args := [d1, d2] }
  | _ => none }
def fnExactNameAddRow : OpenClaim := { program := "ytabgibmdkfebhaa", sum := "f23c60d60e2abc3c8f5db4b5d162985e89c4f62fbb2eae83a46f31ab59d4ae33", func := "loop.example/g00963/laws.FnExactNameAdd", spec := "fnExactNameAdd", apart := false }
def FnExactNameAddSaid : Prop := fnExactNameAddRow.holds Try.pinned (OpenSpec.ofChange fnExactNameAddSpec)

/-- ITS FALSE NEIGHBOUR: 'it returns false'. Refute it at one input. -/
def fnExactNameAddWrong : ChangeSpec := { name := "fnExactNameAdd", fn := fun _ => fun
  | [d1, d2] => { results := [.lit (.bool false)], args := [d1, d2] }
  | _ => none }
def FnExactNameAddWrongFalsely : Prop := fnExactNameAddRow.holds Try.pinned (OpenSpec.ofChange fnExactNameAddWrong)

/-- 'laws.FnExactNamesOk': WHATEVER THE INPUT: true; the input reads as it did. -/
def fnExactNamesOkSpec : ChangeSpec := { name := "fnExactNamesOk", fn := fun _ => fun
  | [d] => { results := [.lit (.bool true)], args := [d] }
  | _ => none }
def fnExactNamesOkRow : OpenClaim := { program := "ytabgibmdkfebhaa", sum := "f23c60d60e2abc3c8f5db4b5d162985e89c4f62fbb2eae83a46f31ab59d4ae33", func := "loop.example/g00963/laws.FnExactNamesOk", spec := "fnExactNamesOk", apart := false }
def FnExactNamesOkSaid : Prop := fnExactNamesOkRow.holds Try.pinned (OpenSpec.ofChange fnExactNamesOkSpec)

/-- ITS FALSE NEIGHBOUR: 'it returns false'. Refute it at one input. -/
def fnExactNamesOkWrong : ChangeSpec := { name := "fnExactNamesOk", fn := fun _ => fun
  | [d] => { results := [.lit (.bool false)], args := [d] }
  | _ => none }
def FnExactNamesOkWrongFalsely : Prop := fnExactNamesOkRow.holds Try.pinned (OpenSpec.ofChange fnExactNamesOkWrong)

/-- 'laws.FnExactNamesBoth': WHATEVER THE INPUT: true; the input reads as it did. -/
def fnExactNamesBothSpec : ChangeSpec := { name := "fnExactNamesBoth", fn := fun _ => fun
  | [d1, d2] => { results := [.lit (.bool true)], args := [d1, d2] }
  | _ => none }
def fnExactNamesBothRow : OpenClaim := { program := "ytabgibmdkfebhaa", sum := "f23c60d60e2abc3c8f5db4b5d162985e89c4f62fbb2eae83a46f31ab59d4ae33", func := "loop.example/g00963/laws.FnExactNamesBoth", spec := "fnExactNamesBoth", recurses := true, apart := false }
def FnExactNamesBothSaid : Prop := fnExactNamesBothRow.holds Try.pinned (OpenSpec.ofChange fnExactNamesBothSpec)

/-- ITS FALSE NEIGHBOUR: 'it returns false'. Refute it at one input. -/
def fnExactNamesBothWrong : ChangeSpec := { name := "fnExactNamesBoth", fn := fun _ => fun
  | [d1, d2] => { results := [.lit (.bool false)], args := [d1, d2] }
  | _ => none }
def FnExactNamesBothWrongFalsely : Prop := fnExactNamesBothRow.holds Try.pinned (OpenSpec.ofChange fnExactNamesBothWrong)

/-- 'laws.FnExactNameIn': WHATEVER THE INPUT: true; the input reads as it did. -/
def fnExactNameInSpec : ChangeSpec := { name := "fnExactNameIn", fn := fun _ => fun
  | [d1, d2] => { results := [.lit (.bool true)], args := [d1, d2] }
  | _ => none }
def fnExactNameInRow : OpenClaim := { program := "ytabgibmdkfebhaa", sum := "f23c60d60e2abc3c8f5db4b5d162985e89c4f62fbb2eae83a46f31ab59d4ae33", func := "loop.example/g00963/laws.FnExactNameIn", spec := "fnExactNameIn", apart := false }
def FnExactNameInSaid : Prop := fnExactNameInRow.holds Try.pinned (OpenSpec.ofChange fnExactNameInSpec)

/-- ITS FALSE NEIGHBOUR: 'it returns false'. Refute it at one input. -/
def fnExactNameInWrong : ChangeSpec := { name := "fnExactNameIn", fn := fun _ => fun
  | [d1, d2] => { results := [.lit (.bool false)], args := [d1, d2] }
  | _ => none }
def FnExactNameInWrongFalsely : Prop := fnExactNameInRow.holds Try.pinned (OpenSpec.ofChange fnExactNameInWrong)

/- THE SECOND FORM. 'bulk': how many values and letters a reading holds, each counted each time it is reached (what is shared counts as often as it is met; a slice's spare places count too). A statement '..UptoSaid' is the law's where the arguments, and the package variables that the reading takes, are together of bulk at most 1048576: NARROWER than '..Said'. Prove '..Said' where nothing that the law and all that it calls make is longer than what came in: it says more and counts as full. Else prove '..UptoSaid'. A law counts once. -/
mutual
def uptoBulk {H : Type} : DataW H → Nat
  | .lit (.string bytes) => bytes.length + 1
  | .lit _ => 1
  | .nil => 1
  | .ptr d => uptoBulk d + 1
  | .slice elems spare => uptoBulkAll elems + uptoBulkAll spare + 1
  | .agg parts => uptoBulkAll parts + 1
  | .iface _ d => uptoBulk d + 1
  | .map entries => uptoBulkEntries entries + 1
  | .held _ => 1
def uptoBulkAll {H : Type} : List (DataW H) → Nat
  | [] => 0
  | d :: r => uptoBulk d + uptoBulkAll r
def uptoBulkEntries {H : Type} : List (Lit × DataW H) → Nat
  | [] => 0
  | x :: r => uptoBulkEntry x + uptoBulkEntries r
def uptoBulkEntry {H : Type} : Lit × DataW H → Nat
  | (.string bytes, d) => bytes.length + uptoBulk d + 1
  | (_, d) => uptoBulk d + 1
 end
def uptoSmall : (H : Type) → List (DataW H) → Bool := fun _ ds => decide (uptoBulkAll ds ≤ 1048576)
def OpenSpec.upto (s : _root_.Go.ChangeSpec) : _root_.Go.OpenSpec := { _root_.Go.OpenSpec.ofChange s with cond := some uptoSmall }

/-- 'laws.FnExactNameOk', WHERE WHAT IT READS IS OF BULK AT MOST 1048576: true; the input reads as it did. -/
def fnExactNameOkUptoRow : OpenClaim := { program := "ytabgibmdkfebhaa", sum := "f23c60d60e2abc3c8f5db4b5d162985e89c4f62fbb2eae83a46f31ab59d4ae33", func := "loop.example/g00963/laws.FnExactNameOk", spec := "fnExactNameOk", apart := false, narrowed := true }
def FnExactNameOkUptoSaid : Prop := fnExactNameOkUptoRow.holds Try.pinned (OpenSpec.upto fnExactNameOkSpec)

/-- 'laws.FnExactUnder', WHERE WHAT IT READS IS OF BULK AT MOST 1048576: true; the input reads as it did. -/
def fnExactUnderUptoRow : OpenClaim := { program := "ytabgibmdkfebhaa", sum := "f23c60d60e2abc3c8f5db4b5d162985e89c4f62fbb2eae83a46f31ab59d4ae33", func := "loop.example/g00963/laws.FnExactUnder", spec := "fnExactUnder", apart := false, narrowed := true }
def FnExactUnderUptoSaid : Prop := fnExactUnderUptoRow.holds Try.pinned (OpenSpec.upto fnExactUnderSpec)

/-- 'laws.FnExactNameAdd', WHERE WHAT IT READS IS OF BULK AT MOST 1048576: true; the input reads as it did. -/
def fnExactNameAddUptoRow : OpenClaim := { program := "ytabgibmdkfebhaa", sum := "f23c60d60e2abc3c8f5db4b5d162985e89c4f62fbb2eae83a46f31ab59d4ae33", func := "loop.example/g00963/laws.FnExactNameAdd", spec := "fnExactNameAdd", apart := false, narrowed := true }
def FnExactNameAddUptoSaid : Prop := fnExactNameAddUptoRow.holds Try.pinned (OpenSpec.upto fnExactNameAddSpec)

/-- 'laws.FnExactNamesOk', WHERE WHAT IT READS IS OF BULK AT MOST 1048576: true; the input reads as it did. -/
def fnExactNamesOkUptoRow : OpenClaim := { program := "ytabgibmdkfebhaa", sum := "f23c60d60e2abc3c8f5db4b5d162985e89c4f62fbb2eae83a46f31ab59d4ae33", func := "loop.example/g00963/laws.FnExactNamesOk", spec := "fnExactNamesOk", apart := false, narrowed := true }
def FnExactNamesOkUptoSaid : Prop := fnExactNamesOkUptoRow.holds Try.pinned (OpenSpec.upto fnExactNamesOkSpec)

/-- 'laws.FnExactNamesBoth', WHERE WHAT IT READS IS OF BULK AT MOST 1048576: true; the input reads as it did. -/
def fnExactNamesBothUptoRow : OpenClaim := { program := "ytabgibmdkfebhaa", sum := "f23c60d60e2abc3c8f5db4b5d162985e89c4f62fbb2eae83a46f31ab59d4ae33", func := "loop.example/g00963/laws.FnExactNamesBoth", spec := "fnExactNamesBoth", recurses := true, apart := false, narrowed := true }
def FnExactNamesBothUptoSaid : Prop := fnExactNamesBothUptoRow.holds Try.pinned (OpenSpec.upto fnExactNamesBothSpec)

/-- 'laws.FnExactNameIn', WHERE WHAT IT READS IS OF BULK AT MOST 1048576: true; the input reads as it did. -/
def fnExactNameInUptoRow : OpenClaim := { program := "ytabgibmdkfebhaa", sum := "f23c60d60e2abc3c8f5db4b5d162985e89c4f62fbb2eae83a46f31ab59d4ae33", func := "loop.example/g00963/laws.FnExactNameIn", spec := "fnExactNameIn", apart := false, narrowed := true }
def FnExactNameInUptoSaid : Prop := fnExactNameInUptoRow.holds Try.pinned (OpenSpec.upto fnExactNameInSpec)

end Rows
end Go.Proofs.Ytabgibmdkfebhaa
