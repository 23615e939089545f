/-
  No cell of these rows narrows 'for every input' (looked for: loops, veiled, ifaces, maps, wideKeys, modest, calm, conditions, laid).
  DERIVED. THE GIVEN ROWS OF THIS SEAT. 8 by the template 'for every input the law returns true; each argument reads behind the call as it read before'; 0 by the template 'total and deterministic' (their statements: YtlaoioicefohiaaTotals.lean).
  GIVEN WITH THE SEED: the statements are not yours to turn. If you find one false, say at which input.
  Laid BY PROGRAM, IN A SANDBOX (cutbox-rows.mjs): the forced cells as the released guide's own fill.sh prints them over the translation 90d2f4f5f987c062… (all of the seat's roots in one cut). By AI agents, Wed Nov 11 2026. No macro, syntax, notation, axiom, sorry.
-/
import Derived.Test.YtlaoioicefohiaaChecked
import GoSem.Claim
import GoSem.ClaimJoined
import GoSem.ClaimMapViews
import Derived.JoinedTies
import Derived.KernelRfl
namespace Go.Proofs.Ytlaoioicefohiaa
/- THE CELL 'sum', in the pinned program and in every row, IS THE sha256 OF THE DUMP (.gsa) THAT YtlaoioicefohiaaProg.lean LOADS. Nothing in Lean hashes anything: it is a label: what it is worth is what the hold of that sum in a sandbox is worth. -/
noncomputable def Try.pinned : Pinned := { name := "ytlaoioicefohiaa", sum := "90d2f4f5f987c06217c1b6bd86d1bacc320f31882971acf851a9933897413aec", checked := Try.checked }
namespace Rows
def none {H : Type} : Left H := { results := [], args := [] }

/-- 'laws.FnExactNamesBoth': WHATEVER THE INPUT: true; the input reads as it did. -/
def fnExactNamesBothSpec : ChangeSpec := { name := "fnExactNamesBoth", fn := fun _ => fun
  | [d1, d2] => { results := [.lit (.bool true)], args := [d1, d2] }
  | _ => none }
def fnExactNamesBothRow : OpenClaim := { program := "ytlaoioicefohiaa", sum := "90d2f4f5f987c06217c1b6bd86d1bacc320f31882971acf851a9933897413aec", func := "loop.example/g00963/laws.FnExactNamesBoth", spec := "fnExactNamesBoth", inPlace := ["internal/bytealg.abigen_runtime_cmpstring"], unfollowed := true, recurses := true, apart := false }
def FnExactNamesBothSaid : Prop := fnExactNamesBothRow.holds Try.pinned (OpenSpec.ofChange fnExactNamesBothSpec)

/-- ITS FALSE NEIGHBOUR: 'it returns false'. Refute it at one input. -/
def fnExactNamesBothWrong : ChangeSpec := { name := "fnExactNamesBoth", fn := fun _ => fun
  | [d1, d2] => { results := [.lit (.bool false)], args := [d1, d2] }
  | _ => none }
def FnExactNamesBothWrongFalsely : Prop := fnExactNamesBothRow.holds Try.pinned (OpenSpec.ofChange fnExactNamesBothWrong)

/-- 'laws.FnExactLabelOk': WHATEVER THE INPUT: true; the input reads as it did. -/
def fnExactLabelOkSpec : ChangeSpec := { name := "fnExactLabelOk", fn := fun _ => fun
  | [d] => { results := [.lit (.bool true)], args := [d] }
  | _ => none }
def fnExactLabelOkRow : OpenClaim := { program := "ytlaoioicefohiaa", sum := "90d2f4f5f987c06217c1b6bd86d1bacc320f31882971acf851a9933897413aec", func := "loop.example/g00963/laws.FnExactLabelOk", spec := "fnExactLabelOk", apart := false }
def FnExactLabelOkSaid : Prop := fnExactLabelOkRow.holds Try.pinned (OpenSpec.ofChange fnExactLabelOkSpec)

/-- ITS FALSE NEIGHBOUR: 'it returns false'. Refute it at one input. -/
def fnExactLabelOkWrong : ChangeSpec := { name := "fnExactLabelOk", fn := fun _ => fun
  | [d] => { results := [.lit (.bool false)], args := [d] }
  | _ => none }
def FnExactLabelOkWrongFalsely : Prop := fnExactLabelOkRow.holds Try.pinned (OpenSpec.ofChange fnExactLabelOkWrong)

/-- 'laws.FnExactLabelText': WHATEVER THE INPUT: true; the input reads as it did. -/
def fnExactLabelTextSpec : ChangeSpec := { name := "fnExactLabelText", fn := fun _ => fun
  | [d] => { results := [.lit (.bool true)], args := [d] }
  | _ => none }
def fnExactLabelTextRow : OpenClaim := { program := "ytlaoioicefohiaa", sum := "90d2f4f5f987c06217c1b6bd86d1bacc320f31882971acf851a9933897413aec", func := "loop.example/g00963/laws.FnExactLabelText", spec := "fnExactLabelText", apart := false }
def FnExactLabelTextSaid : Prop := fnExactLabelTextRow.holds Try.pinned (OpenSpec.ofChange fnExactLabelTextSpec)

/-- ITS FALSE NEIGHBOUR: 'it returns false'. Refute it at one input. -/
def fnExactLabelTextWrong : ChangeSpec := { name := "fnExactLabelText", fn := fun _ => fun
  | [d] => { results := [.lit (.bool false)], args := [d] }
  | _ => none }
def FnExactLabelTextWrongFalsely : Prop := fnExactLabelTextRow.holds Try.pinned (OpenSpec.ofChange fnExactLabelTextWrong)

/-- 'laws.FnExactReadLabel': WHATEVER THE INPUT: true; the input reads as it did. -/
def fnExactReadLabelSpec : ChangeSpec := { name := "fnExactReadLabel", fn := fun _ => fun
  | [d] => { results := [.lit (.bool true)], args := [d] }
  | _ => none }
def fnExactReadLabelRow : OpenClaim := { program := "ytlaoioicefohiaa", sum := "90d2f4f5f987c06217c1b6bd86d1bacc320f31882971acf851a9933897413aec", func := "loop.example/g00963/laws.FnExactReadLabel", spec := "fnExactReadLabel", inPlace := ["internal/bytealg.IndexByteString", "internal/bytealg.IndexString"], named := ["internal/bytealg.MaxLen"], apart := false }
def FnExactReadLabelSaid : Prop := fnExactReadLabelRow.holds Try.pinned (OpenSpec.ofChange fnExactReadLabelSpec)

/-- ITS FALSE NEIGHBOUR: 'it returns false'. Refute it at one input. -/
def fnExactReadLabelWrong : ChangeSpec := { name := "fnExactReadLabel", fn := fun _ => fun
  | [d] => { results := [.lit (.bool false)], args := [d] }
  | _ => none }
def FnExactReadLabelWrongFalsely : Prop := fnExactReadLabelRow.holds Try.pinned (OpenSpec.ofChange fnExactReadLabelWrong)

/-- 'laws.FnExactLabelsOk': WHATEVER THE INPUT: true; the input reads as it did. -/
def fnExactLabelsOkSpec : ChangeSpec := { name := "fnExactLabelsOk", fn := fun _ => fun
  | [d] => { results := [.lit (.bool true)], args := [d] }
  | _ => none }
def fnExactLabelsOkRow : OpenClaim := { program := "ytlaoioicefohiaa", sum := "90d2f4f5f987c06217c1b6bd86d1bacc320f31882971acf851a9933897413aec", func := "loop.example/g00963/laws.FnExactLabelsOk", spec := "fnExactLabelsOk", inPlace := ["internal/bytealg.abigen_runtime_cmpstring"], apart := false }
def FnExactLabelsOkSaid : Prop := fnExactLabelsOkRow.holds Try.pinned (OpenSpec.ofChange fnExactLabelsOkSpec)

/-- ITS FALSE NEIGHBOUR: 'it returns false'. Refute it at one input. -/
def fnExactLabelsOkWrong : ChangeSpec := { name := "fnExactLabelsOk", fn := fun _ => fun
  | [d] => { results := [.lit (.bool false)], args := [d] }
  | _ => none }
def FnExactLabelsOkWrongFalsely : Prop := fnExactLabelsOkRow.holds Try.pinned (OpenSpec.ofChange fnExactLabelsOkWrong)

/-- 'laws.FnExactLabelsBoth': WHATEVER THE INPUT: true; the input reads as it did. -/
def fnExactLabelsBothSpec : ChangeSpec := { name := "fnExactLabelsBoth", fn := fun _ => fun
  | [d1, d2] => { results := [.lit (.bool true)], args := [d1, d2] }
  | _ => none }
def fnExactLabelsBothRow : OpenClaim := { program := "ytlaoioicefohiaa", sum := "90d2f4f5f987c06217c1b6bd86d1bacc320f31882971acf851a9933897413aec", func := "loop.example/g00963/laws.FnExactLabelsBoth", spec := "fnExactLabelsBoth", inPlace := ["internal/bytealg.abigen_runtime_cmpstring"], unfollowed := true, recurses := true, apart := false }
def FnExactLabelsBothSaid : Prop := fnExactLabelsBothRow.holds Try.pinned (OpenSpec.ofChange fnExactLabelsBothSpec)

/-- ITS FALSE NEIGHBOUR: 'it returns false'. Refute it at one input. -/
def fnExactLabelsBothWrong : ChangeSpec := { name := "fnExactLabelsBoth", fn := fun _ => fun
  | [d1, d2] => { results := [.lit (.bool false)], args := [d1, d2] }
  | _ => none }
def FnExactLabelsBothWrongFalsely : Prop := fnExactLabelsBothRow.holds Try.pinned (OpenSpec.ofChange fnExactLabelsBothWrong)

/-- 'laws.FnExactLabelsWithin': WHATEVER THE INPUT: true; the input reads as it did. -/
def fnExactLabelsWithinSpec : ChangeSpec := { name := "fnExactLabelsWithin", fn := fun _ => fun
  | [d1, d2] => { results := [.lit (.bool true)], args := [d1, d2] }
  | _ => none }
def fnExactLabelsWithinRow : OpenClaim := { program := "ytlaoioicefohiaa", sum := "90d2f4f5f987c06217c1b6bd86d1bacc320f31882971acf851a9933897413aec", func := "loop.example/g00963/laws.FnExactLabelsWithin", spec := "fnExactLabelsWithin", recurses := true, apart := false }
def FnExactLabelsWithinSaid : Prop := fnExactLabelsWithinRow.holds Try.pinned (OpenSpec.ofChange fnExactLabelsWithinSpec)

/-- ITS FALSE NEIGHBOUR: 'it returns false'. Refute it at one input. -/
def fnExactLabelsWithinWrong : ChangeSpec := { name := "fnExactLabelsWithin", fn := fun _ => fun
  | [d1, d2] => { results := [.lit (.bool false)], args := [d1, d2] }
  | _ => none }
def FnExactLabelsWithinWrongFalsely : Prop := fnExactLabelsWithinRow.holds Try.pinned (OpenSpec.ofChange fnExactLabelsWithinWrong)

/-- 'laws.FnExactLabelIn': WHATEVER THE INPUT: true; the input reads as it did. -/
def fnExactLabelInSpec : ChangeSpec := { name := "fnExactLabelIn", fn := fun _ => fun
  | [d1, d2] => { results := [.lit (.bool true)], args := [d1, d2] }
  | _ => none }
def fnExactLabelInRow : OpenClaim := { program := "ytlaoioicefohiaa", sum := "90d2f4f5f987c06217c1b6bd86d1bacc320f31882971acf851a9933897413aec", func := "loop.example/g00963/laws.FnExactLabelIn", spec := "fnExactLabelIn", apart := false }
def FnExactLabelInSaid : Prop := fnExactLabelInRow.holds Try.pinned (OpenSpec.ofChange fnExactLabelInSpec)

/-- ITS FALSE NEIGHBOUR: 'it returns false'. Refute it at one input. -/
def fnExactLabelInWrong : ChangeSpec := { name := "fnExactLabelIn", fn := fun _ => fun
  | [d1, d2] => { results := [.lit (.bool false)], args := [d1, d2] }
  | _ => none }
def FnExactLabelInWrongFalsely : Prop := fnExactLabelInRow.holds Try.pinned (OpenSpec.ofChange fnExactLabelInWrong)

/- THE SECOND FORM. 'bulk': how many values and letters a reading holds, each counted each time it is reached (what is shared counts as often as it is met; a slice's spare places count too). A statement '..UptoSaid' is the law's where the arguments, and the package variables that the reading takes, are together of bulk at most 1048576: NARROWER than '..Said'. Prove '..Said' where nothing that the law and all that it calls make is longer than what came in: it says more and counts as full. Else prove '..UptoSaid'. A law counts once. -/
mutual
def uptoBulk {H : Type} : DataW H → Nat
  | .lit (.string bytes) => bytes.length + 1
  | .lit _ => 1
  | .nil => 1
  | .ptr d => uptoBulk d + 1
  | .slice elems spare => uptoBulkAll elems + uptoBulkAll spare + 1
  | .agg parts => uptoBulkAll parts + 1
  | .iface _ d => uptoBulk d + 1
  | .map entries => uptoBulkEntries entries + 1
  | .held _ => 1
def uptoBulkAll {H : Type} : List (DataW H) → Nat
  | [] => 0
  | d :: r => uptoBulk d + uptoBulkAll r
def uptoBulkEntries {H : Type} : List (Lit × DataW H) → Nat
  | [] => 0
  | x :: r => uptoBulkEntry x + uptoBulkEntries r
def uptoBulkEntry {H : Type} : Lit × DataW H → Nat
  | (.string bytes, d) => bytes.length + uptoBulk d + 1
  | (_, d) => uptoBulk d + 1
 end
def uptoSmall : (H : Type) → List (DataW H) → Bool := fun _ ds => decide (uptoBulkAll ds ≤ 1048576)
def OpenSpec.upto (s : _root_.Go.ChangeSpec) : _root_.Go.OpenSpec := { _root_.Go.OpenSpec.ofChange s with cond := some uptoSmall }

/-- 'laws.FnExactNamesBoth', WHERE WHAT IT READS IS OF BULK AT MOST 1048576: true; the input reads as it did. -/
def fnExactNamesBothUptoRow : OpenClaim := { program := "ytlaoioicefohiaa", sum := "90d2f4f5f987c06217c1b6bd86d1bacc320f31882971acf851a9933897413aec", func := "loop.example/g00963/laws.FnExactNamesBoth", spec := "fnExactNamesBoth", inPlace := ["internal/bytealg.abigen_runtime_cmpstring"], unfollowed := true, recurses := true, apart := false, narrowed := true }
def FnExactNamesBothUptoSaid : Prop := fnExactNamesBothUptoRow.holds Try.pinned (OpenSpec.upto fnExactNamesBothSpec)

/-- 'laws.FnExactLabelOk', WHERE WHAT IT READS IS OF BULK AT MOST 1048576: true; the input reads as it did. -/
def fnExactLabelOkUptoRow : OpenClaim := { program := "ytlaoioicefohiaa", sum := "90d2f4f5f987c06217c1b6bd86d1bacc320f31882971acf851a9933897413aec", func := "loop.example/g00963/laws.FnExactLabelOk", spec := "fnExactLabelOk", apart := false, narrowed := true }
def FnExactLabelOkUptoSaid : Prop := fnExactLabelOkUptoRow.holds Try.pinned (OpenSpec.upto fnExactLabelOkSpec)

/-- 'laws.FnExactLabelText', WHERE WHAT IT READS IS OF BULK AT MOST 1048576: true; the input reads as it did. -/
def fnExactLabelTextUptoRow : OpenClaim := { program := "ytlaoioicefohiaa", sum := "90d2f4f5f987c06217c1b6bd86d1bacc320f31882971acf851a9933897413aec", func := "loop.example/g00963/laws.FnExactLabelText", spec := "fnExactLabelText", apart := false, narrowed := true }
def FnExactLabelTextUptoSaid : Prop := fnExactLabelTextUptoRow.holds Try.pinned (OpenSpec.upto fnExactLabelTextSpec)

/-- 'laws.FnExactReadLabel', WHERE WHAT IT READS IS OF BULK AT MOST 1048576: true; the input reads as it did. -/
def fnExactReadLabelUptoRow : OpenClaim := { program := "ytlaoioicefohiaa", sum := "90d2f4f5f987c06217c1b6bd86d1bacc320f31882971acf851a9933897413aec", func := "loop.example/g00963/laws.FnExactReadLabel", spec := "fnExactReadLabel", inPlace := ["internal/bytealg.IndexByteString", "internal/bytealg.IndexString"], named := ["internal/bytealg.MaxLen"], apart := false, narrowed := true }
def FnExactReadLabelUptoSaid : Prop := fnExactReadLabelUptoRow.holds Try.pinned (OpenSpec.upto fnExactReadLabelSpec)

/-- 'laws.FnExactLabelsOk', WHERE WHAT IT READS IS OF BULK AT MOST 1048576: true; the input reads as it did. -/
def fnExactLabelsOkUptoRow : OpenClaim := { program := "ytlaoioicefohiaa", sum := "90d2f4f5f987c06217c1b6bd86d1bacc320f31882971acf851a9933897413aec", func := "loop.example/g00963/laws.FnExactLabelsOk", spec := "fnExactLabelsOk", inPlace := ["internal/bytealg.abigen_runtime_cmpstring"], apart := false, narrowed := true }
def FnExactLabelsOkUptoSaid : Prop := fnExactLabelsOkUptoRow.holds Try.pinned (OpenSpec.upto fnExactLabelsOkSpec)

/-- 'laws.FnExactLabelsBoth', WHERE WHAT IT READS IS OF BULK AT MOST 1048576: true; the input reads as it did. -/
def fnExactLabelsBothUptoRow : OpenClaim := { program := "ytlaoioicefohiaa", sum := "90d2f4f5f987c06217c1b6bd86d1bacc320f31882971acf851a9933897413aec", func := "loop.example/g00963/laws.FnExactLabelsBoth", spec := "fnExactLabelsBoth", inPlace := ["internal/bytealg.abigen_runtime_cmpstring"], unfollowed := true, recurses := true, apart := false, narrowed := true }
def FnExactLabelsBothUptoSaid : Prop := fnExactLabelsBothUptoRow.holds Try.pinned (OpenSpec.upto fnExactLabelsBothSpec)

/-- 'laws.FnExactLabelsWithin', WHERE WHAT IT READS IS OF BULK AT MOST 1048576: true; the input reads as it did. -/
def fnExactLabelsWithinUptoRow : OpenClaim := { program := "ytlaoioicefohiaa", sum := "90d2f4f5f987c06217c1b6bd86d1bacc320f31882971acf851a9933897413aec", func := "loop.example/g00963/laws.FnExactLabelsWithin", spec := "fnExactLabelsWithin", recurses := true, apart := false, narrowed := true }
def FnExactLabelsWithinUptoSaid : Prop := fnExactLabelsWithinUptoRow.holds Try.pinned (OpenSpec.upto fnExactLabelsWithinSpec)

/-- 'laws.FnExactLabelIn', WHERE WHAT IT READS IS OF BULK AT MOST 1048576: true; the input reads as it did. -/
def fnExactLabelInUptoRow : OpenClaim := { program := "ytlaoioicefohiaa", sum := "90d2f4f5f987c06217c1b6bd86d1bacc320f31882971acf851a9933897413aec", func := "loop.example/g00963/laws.FnExactLabelIn", spec := "fnExactLabelIn", apart := false, narrowed := true }
def FnExactLabelInUptoSaid : Prop := fnExactLabelInUptoRow.holds Try.pinned (OpenSpec.upto fnExactLabelInSpec)

end Rows
end Go.Proofs.Ytlaoioicefohiaa
