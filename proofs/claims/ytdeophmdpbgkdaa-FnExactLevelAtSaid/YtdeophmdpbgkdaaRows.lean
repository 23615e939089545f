/-
  No cell of these rows narrows 'for every input' (looked for: loops, veiled, ifaces, maps, wideKeys, modest, calm, conditions, laid).
  DERIVED. THE GIVEN ROWS OF THIS SEAT. 8 by the template 'for every input the law returns true; each argument reads behind the call as it read before'; 0 by the template 'total and deterministic' (their statements: YtdeophmdpbgkdaaTotals.lean).
  GIVEN WITH THE SEED: the statements are not yours to turn. If you find one false, say at which input.
  Laid BY PROGRAM, IN A SANDBOX (cutbox-rows.mjs): the forced cells as the released guide's own fill.sh prints them over the translation 7c265985d11a8746… (all of the seat's roots in one cut). By AI agents, Wed Nov 11 2026. No macro, syntax, notation, axiom, sorry.
-/
import Derived.Test.YtdeophmdpbgkdaaChecked
import GoSem.Claim
import GoSem.ClaimJoined
import GoSem.ClaimMapViews
import Derived.JoinedTies
import Derived.KernelRfl
namespace Go.Proofs.Ytdeophmdpbgkdaa
/- THE CELL 'sum', in the pinned program and in every row, IS THE sha256 OF THE DUMP (.gsa) THAT YtdeophmdpbgkdaaProg.lean LOADS. Nothing in Lean hashes anything: it is a label: what it is worth is what the hold of that sum in a sandbox is worth. -/
noncomputable def Try.pinned : Pinned := { name := "ytdeophmdpbgkdaa", sum := "7c265985d11a8746f80a21aa623c108f346fce988bc30203c7f73eeb9d5354f0", checked := Try.checked }
namespace Rows
def none {H : Type} : Left H := { results := [], args := [] }

/-- 'laws.FnLevelValues': WHATEVER THE INPUT: true; the input reads as it did. -/
def fnLevelValuesSpec : ChangeSpec := { name := "fnLevelValues", fn := fun _ => fun
  | [d] => { results := [.lit (.bool true)], args := [d] }
  | _ => none }
def fnLevelValuesRow : OpenClaim := { program := "ytdeophmdpbgkdaa", sum := "7c265985d11a8746f80a21aa623c108f346fce988bc30203c7f73eeb9d5354f0", func := "loop.example/g00963/laws.FnLevelValues", spec := "fnLevelValues", inPlace := ["internal/abi.NoEscape", "internal/bytealg.CountString", "internal/bytealg.IndexByteString", "internal/bytealg.IndexString"], recurses := true, named := ["internal/bytealg.MaxLen"], apart := false }
def FnLevelValuesSaid : Prop := fnLevelValuesRow.holds Try.pinned (OpenSpec.ofChange fnLevelValuesSpec)

/-- ITS FALSE NEIGHBOUR: 'it returns false'. Refute it at one input. -/
def fnLevelValuesWrong : ChangeSpec := { name := "fnLevelValues", fn := fun _ => fun
  | [d] => { results := [.lit (.bool false)], args := [d] }
  | _ => none }
def FnLevelValuesWrongFalsely : Prop := fnLevelValuesRow.holds Try.pinned (OpenSpec.ofChange fnLevelValuesWrong)

/-- 'laws.FnLevelOrder': WHATEVER THE INPUT: true; the input reads as it did. -/
def fnLevelOrderSpec : ChangeSpec := { name := "fnLevelOrder", fn := fun _ => fun
  | [d] => { results := [.lit (.bool true)], args := [d] }
  | _ => none }
def fnLevelOrderRow : OpenClaim := { program := "ytdeophmdpbgkdaa", sum := "7c265985d11a8746f80a21aa623c108f346fce988bc30203c7f73eeb9d5354f0", func := "loop.example/g00963/laws.FnLevelOrder", spec := "fnLevelOrder", inPlace := ["internal/bytealg.CountString", "internal/bytealg.IndexByteString", "internal/bytealg.IndexString"], unfollowed := true, recurses := true, named := ["internal/bytealg.MaxLen"], apart := false }
def FnLevelOrderSaid : Prop := fnLevelOrderRow.holds Try.pinned (OpenSpec.ofChange fnLevelOrderSpec)

/-- ITS FALSE NEIGHBOUR: 'it returns false'. Refute it at one input. -/
def fnLevelOrderWrong : ChangeSpec := { name := "fnLevelOrder", fn := fun _ => fun
  | [d] => { results := [.lit (.bool false)], args := [d] }
  | _ => none }
def FnLevelOrderWrongFalsely : Prop := fnLevelOrderRow.holds Try.pinned (OpenSpec.ofChange fnLevelOrderWrong)

/-- 'laws.FnExactLevelAt': WHATEVER THE INPUT: true; the input reads as it did. -/
def fnExactLevelAtSpec : ChangeSpec := { name := "fnExactLevelAt", fn := fun _ => fun
  | [d1, d2] => { results := [.lit (.bool true)], args := [d1, d2] }
  | _ => none }
def fnExactLevelAtRow : OpenClaim := { program := "ytdeophmdpbgkdaa", sum := "7c265985d11a8746f80a21aa623c108f346fce988bc30203c7f73eeb9d5354f0", func := "loop.example/g00963/laws.FnExactLevelAt", spec := "fnExactLevelAt", recurses := true, apart := false }
def FnExactLevelAtSaid : Prop := fnExactLevelAtRow.holds Try.pinned (OpenSpec.ofChange fnExactLevelAtSpec)

/-- ITS FALSE NEIGHBOUR: 'it returns false'. Refute it at one input. -/
def fnExactLevelAtWrong : ChangeSpec := { name := "fnExactLevelAt", fn := fun _ => fun
  | [d1, d2] => { results := [.lit (.bool false)], args := [d1, d2] }
  | _ => none }
def FnExactLevelAtWrongFalsely : Prop := fnExactLevelAtRow.holds Try.pinned (OpenSpec.ofChange fnExactLevelAtWrong)

/-- 'laws.FnExactLevelLe': WHATEVER THE INPUT: true; the input reads as it did. -/
def fnExactLevelLeSpec : ChangeSpec := { name := "fnExactLevelLe", fn := fun _ => fun
  | [d1, d2] => { results := [.lit (.bool true)], args := [d1, d2] }
  | _ => none }
def fnExactLevelLeRow : OpenClaim := { program := "ytdeophmdpbgkdaa", sum := "7c265985d11a8746f80a21aa623c108f346fce988bc30203c7f73eeb9d5354f0", func := "loop.example/g00963/laws.FnExactLevelLe", spec := "fnExactLevelLe", inPlace := ["internal/bytealg.CountString", "internal/bytealg.IndexByteString", "internal/bytealg.IndexString"], unfollowed := true, recurses := true, named := ["internal/bytealg.MaxLen"], apart := false }
def FnExactLevelLeSaid : Prop := fnExactLevelLeRow.holds Try.pinned (OpenSpec.ofChange fnExactLevelLeSpec)

/-- ITS FALSE NEIGHBOUR: 'it returns false'. Refute it at one input. -/
def fnExactLevelLeWrong : ChangeSpec := { name := "fnExactLevelLe", fn := fun _ => fun
  | [d1, d2] => { results := [.lit (.bool false)], args := [d1, d2] }
  | _ => none }
def FnExactLevelLeWrongFalsely : Prop := fnExactLevelLeRow.holds Try.pinned (OpenSpec.ofChange fnExactLevelLeWrong)

/-- 'laws.FnExactLevelSame': WHATEVER THE INPUT: true; the input reads as it did. -/
def fnExactLevelSameSpec : ChangeSpec := { name := "fnExactLevelSame", fn := fun _ => fun
  | [d1, d2] => { results := [.lit (.bool true)], args := [d1, d2] }
  | _ => none }
def fnExactLevelSameRow : OpenClaim := { program := "ytdeophmdpbgkdaa", sum := "7c265985d11a8746f80a21aa623c108f346fce988bc30203c7f73eeb9d5354f0", func := "loop.example/g00963/laws.FnExactLevelSame", spec := "fnExactLevelSame", inPlace := ["internal/bytealg.CountString", "internal/bytealg.IndexByteString", "internal/bytealg.IndexString"], unfollowed := true, recurses := true, named := ["internal/bytealg.MaxLen"], apart := false }
def FnExactLevelSameSaid : Prop := fnExactLevelSameRow.holds Try.pinned (OpenSpec.ofChange fnExactLevelSameSpec)

/-- ITS FALSE NEIGHBOUR: 'it returns false'. Refute it at one input. -/
def fnExactLevelSameWrong : ChangeSpec := { name := "fnExactLevelSame", fn := fun _ => fun
  | [d1, d2] => { results := [.lit (.bool false)], args := [d1, d2] }
  | _ => none }
def FnExactLevelSameWrongFalsely : Prop := fnExactLevelSameRow.holds Try.pinned (OpenSpec.ofChange fnExactLevelSameWrong)

/-- 'laws.FnExactLevelZero': WHATEVER THE INPUT: true; the input reads as it did. -/
def fnExactLevelZeroSpec : ChangeSpec := { name := "fnExactLevelZero", fn := fun _ => fun
  | [d] => { results := [.lit (.bool true)], args := [d] }
  | _ => none }
def fnExactLevelZeroRow : OpenClaim := { program := "ytdeophmdpbgkdaa", sum := "7c265985d11a8746f80a21aa623c108f346fce988bc30203c7f73eeb9d5354f0", func := "loop.example/g00963/laws.FnExactLevelZero", spec := "fnExactLevelZero", inPlace := ["internal/bytealg.CountString", "internal/bytealg.IndexByteString", "internal/bytealg.IndexString"], unfollowed := true, recurses := true, named := ["internal/bytealg.MaxLen"], apart := false }
def FnExactLevelZeroSaid : Prop := fnExactLevelZeroRow.holds Try.pinned (OpenSpec.ofChange fnExactLevelZeroSpec)

/-- ITS FALSE NEIGHBOUR: 'it returns false'. Refute it at one input. -/
def fnExactLevelZeroWrong : ChangeSpec := { name := "fnExactLevelZero", fn := fun _ => fun
  | [d] => { results := [.lit (.bool false)], args := [d] }
  | _ => none }
def FnExactLevelZeroWrongFalsely : Prop := fnExactLevelZeroRow.holds Try.pinned (OpenSpec.ofChange fnExactLevelZeroWrong)

/-- 'laws.FnExactLevelAbove': WHATEVER THE INPUT: true; the input reads as it did. -/
def fnExactLevelAboveSpec : ChangeSpec := { name := "fnExactLevelAbove", fn := fun _ => fun
  | [d] => { results := [.lit (.bool true)], args := [d] }
  | _ => none }
def fnExactLevelAboveRow : OpenClaim := { program := "ytdeophmdpbgkdaa", sum := "7c265985d11a8746f80a21aa623c108f346fce988bc30203c7f73eeb9d5354f0", func := "loop.example/g00963/laws.FnExactLevelAbove", spec := "fnExactLevelAbove", inPlace := ["internal/bytealg.CountString", "internal/bytealg.IndexByteString", "internal/bytealg.IndexString"], unfollowed := true, recurses := true, named := ["internal/bytealg.MaxLen"], apart := false }
def FnExactLevelAboveSaid : Prop := fnExactLevelAboveRow.holds Try.pinned (OpenSpec.ofChange fnExactLevelAboveSpec)

/-- ITS FALSE NEIGHBOUR: 'it returns false'. Refute it at one input. -/
def fnExactLevelAboveWrong : ChangeSpec := { name := "fnExactLevelAbove", fn := fun _ => fun
  | [d] => { results := [.lit (.bool false)], args := [d] }
  | _ => none }
def FnExactLevelAboveWrongFalsely : Prop := fnExactLevelAboveRow.holds Try.pinned (OpenSpec.ofChange fnExactLevelAboveWrong)

/-- 'laws.FnExactLevelWitness': WHATEVER THE INPUT: true; the input reads as it did. -/
def fnExactLevelWitnessSpec : ChangeSpec := { name := "fnExactLevelWitness", fn := fun _ => fun
  | [d1, d2] => { results := [.lit (.bool true)], args := [d1, d2] }
  | _ => none }
def fnExactLevelWitnessRow : OpenClaim := { program := "ytdeophmdpbgkdaa", sum := "7c265985d11a8746f80a21aa623c108f346fce988bc30203c7f73eeb9d5354f0", func := "loop.example/g00963/laws.FnExactLevelWitness", spec := "fnExactLevelWitness", inPlace := ["internal/bytealg.CountString", "internal/bytealg.IndexByteString", "internal/bytealg.IndexString"], unfollowed := true, recurses := true, named := ["internal/bytealg.MaxLen"], apart := false }
def FnExactLevelWitnessSaid : Prop := fnExactLevelWitnessRow.holds Try.pinned (OpenSpec.ofChange fnExactLevelWitnessSpec)

/-- ITS FALSE NEIGHBOUR: 'it returns false'. Refute it at one input. -/
def fnExactLevelWitnessWrong : ChangeSpec := { name := "fnExactLevelWitness", fn := fun _ => fun
  | [d1, d2] => { results := [.lit (.bool false)], args := [d1, d2] }
  | _ => none }
def FnExactLevelWitnessWrongFalsely : Prop := fnExactLevelWitnessRow.holds Try.pinned (OpenSpec.ofChange fnExactLevelWitnessWrong)

/- THE SECOND FORM. 'bulk': how many values and letters a reading holds, each counted each time it is reached (what is shared counts as often as it is met; a slice's spare places count too). A statement '..UptoSaid' is the law's where the arguments, and the package variables that the reading takes, are together of bulk at most 1048576: NARROWER than '..Said'. Prove '..Said' where nothing that the law and all that it calls make is longer than what came in: it says more and counts as full. Else prove '..UptoSaid'. A law counts once. -/
mutual
def uptoBulk {H : Type} : DataW H → Nat
  | .lit (.string bytes) => bytes.length + 1
  | .lit _ => 1
  | .nil => 1
  | .ptr d => uptoBulk d + 1
  | .slice elems spare => uptoBulkAll elems + uptoBulkAll spare + 1
  | .agg parts => uptoBulkAll parts + 1
  | .iface _ d => uptoBulk d + 1
  | .map entries => uptoBulkEntries entries + 1
  | .held _ => 1
def uptoBulkAll {H : Type} : List (DataW H) → Nat
  | [] => 0
  | d :: r => uptoBulk d + uptoBulkAll r
def uptoBulkEntries {H : Type} : List (Lit × DataW H) → Nat
  | [] => 0
  | x :: r => uptoBulkEntry x + uptoBulkEntries r
def uptoBulkEntry {H : Type} : Lit × DataW H → Nat
  | (.string bytes, d) => bytes.length + uptoBulk d + 1
  | (_, d) => uptoBulk d + 1
 end
def uptoSmall : (H : Type) → List (DataW H) → Bool := fun _ ds => decide (uptoBulkAll ds ≤ 1048576)
def OpenSpec.upto (s : _root_.Go.ChangeSpec) : _root_.Go.OpenSpec := { _root_.Go.OpenSpec.ofChange s with cond := some uptoSmall }

/-- 'laws.FnLevelValues', WHERE WHAT IT READS IS OF BULK AT MOST 1048576: true; the input reads as it did. -/
def fnLevelValuesUptoRow : OpenClaim := { program := "ytdeophmdpbgkdaa", sum := "7c265985d11a8746f80a21aa623c108f346fce988bc30203c7f73eeb9d5354f0", func := "loop.example/g00963/laws.FnLevelValues", spec := "fnLevelValues", inPlace := ["internal/abi.NoEscape", "internal/bytealg.CountString", "internal/bytealg.IndexByteString", "internal/bytealg.IndexString"], recurses := true, named := ["internal/bytealg.MaxLen"], apart := false, narrowed := true }
def FnLevelValuesUptoSaid : Prop := fnLevelValuesUptoRow.holds Try.pinned (OpenSpec.upto fnLevelValuesSpec)

/-- 'laws.FnLevelOrder', WHERE WHAT IT READS IS OF BULK AT MOST 1048576: true; the input reads as it did. -/
def fnLevelOrderUptoRow : OpenClaim := { program := "ytdeophmdpbgkdaa", sum := "7c265985d11a8746f80a21aa623c108f346fce988bc30203c7f73eeb9d5354f0", func := "loop.example/g00963/laws.FnLevelOrder", spec := "fnLevelOrder", inPlace := ["internal/bytealg.CountString", "internal/bytealg.IndexByteString", "internal/bytealg.IndexString"], unfollowed := true, recurses := true, named := ["internal/bytealg.MaxLen"], apart := false, narrowed := true }
def FnLevelOrderUptoSaid : Prop := fnLevelOrderUptoRow.holds Try.pinned (OpenSpec.upto fnLevelOrderSpec)

/-- 'laws.FnExactLevelAt', WHERE WHAT IT READS IS OF BULK AT MOST 1048576: true; the input reads as it did. -/
def fnExactLevelAtUptoRow : OpenClaim := { program := "ytdeophmdpbgkdaa", sum := "7c265985d11a8746f80a21aa623c108f346fce988bc30203c7f73eeb9d5354f0", func := "loop.example/g00963/laws.FnExactLevelAt", spec := "fnExactLevelAt", recurses := true, apart := false, narrowed := true }
def FnExactLevelAtUptoSaid : Prop := fnExactLevelAtUptoRow.holds Try.pinned (OpenSpec.upto fnExactLevelAtSpec)

/-- 'laws.FnExactLevelLe', WHERE WHAT IT READS IS OF BULK AT MOST 1048576: true; the input reads as it did. -/
def fnExactLevelLeUptoRow : OpenClaim := { program := "ytdeophmdpbgkdaa", sum := "7c265985d11a8746f80a21aa623c108f346fce988bc30203c7f73eeb9d5354f0", func := "loop.example/g00963/laws.FnExactLevelLe", spec := "fnExactLevelLe", inPlace := ["internal/bytealg.CountString", "internal/bytealg.IndexByteString", "internal/bytealg.IndexString"], unfollowed := true, recurses := true, named := ["internal/bytealg.MaxLen"], apart := false, narrowed := true }
def FnExactLevelLeUptoSaid : Prop := fnExactLevelLeUptoRow.holds Try.pinned (OpenSpec.upto fnExactLevelLeSpec)

/-- 'laws.FnExactLevelSame', WHERE WHAT IT READS IS OF BULK AT MOST 1048576: true; the input reads as it did. -/
def fnExactLevelSameUptoRow : OpenClaim := { program := "ytdeophmdpbgkdaa", sum := "7c265985d11a8746f80a21aa623c108f346fce988bc30203c7f73eeb9d5354f0", func := "loop.example/g00963/laws.FnExactLevelSame", spec := "fnExactLevelSame", inPlace := ["internal/bytealg.CountString", "internal/bytealg.IndexByteString", "internal/bytealg.IndexString"], unfollowed := true, recurses := true, named := ["internal/bytealg.MaxLen"], apart := false, narrowed := true }
def FnExactLevelSameUptoSaid : Prop := fnExactLevelSameUptoRow.holds Try.pinned (OpenSpec.upto fnExactLevelSameSpec)

/-- 'laws.FnExactLevelZero', WHERE WHAT IT READS IS OF BULK AT MOST 1048576: true; the input reads as it did. -/
def fnExactLevelZeroUptoRow : OpenClaim := { program := "ytdeophmdpbgkdaa", sum := "7c265985d11a8746f80a21aa623c108f346fce988bc30203c7f73eeb9d5354f0", func := "loop.example/g00963/laws.FnExactLevelZero", spec := "fnExactLevelZero", inPlace := ["internal/bytealg.CountString", "internal/bytealg.IndexByteString", "internal/bytealg.IndexString"], unfollowed := true, recurses := true, named := ["internal/bytealg.MaxLen"], apart := false, narrowed := true }
def FnExactLevelZeroUptoSaid : Prop := fnExactLevelZeroUptoRow.holds Try.pinned (OpenSpec.upto fnExactLevelZeroSpec)

/-- 'laws.FnExactLevelAbove', WHERE WHAT IT READS IS OF BULK AT MOST 1048576: true; the input reads as it did. -/
def fnExactLevelAboveUptoRow : OpenClaim := { program := "ytdeophmdpbgkdaa", sum := "7c265985d11a8746f80a21aa623c108f346fce988bc30203c7f73eeb9d5354f0", func := "loop.example/g00963/laws.FnExactLevelAbove", spec := "fnExactLevelAbove", inPlace := ["internal/bytealg.CountString", "internal/bytealg.IndexByteString", "internal/bytealg.IndexString"], unfollowed := true, recurses := true, named := ["internal/bytealg.MaxLen"], apart := false, narrowed := true }
def FnExactLevelAboveUptoSaid : Prop := fnExactLevelAboveUptoRow.holds Try.pinned (OpenSpec.upto fnExactLevelAboveSpec)

/-- 'laws.FnExactLevelWitness', WHERE WHAT IT READS IS OF BULK AT MOST 1048576: true; the input reads as it did. -/
def fnExactLevelWitnessUptoRow : OpenClaim := { program := "ytdeophmdpbgkdaa", sum := "7c265985d11a8746f80a21aa623c108f346fce988bc30203c7f73eeb9d5354f0", func := "loop.example/g00963/laws.FnExactLevelWitness", spec := "fnExactLevelWitness", inPlace := ["internal/bytealg.CountString", "internal/bytealg.IndexByteString", "internal/bytealg.IndexString"], unfollowed := true, recurses := true, named := ["internal/bytealg.MaxLen"], apart := false, narrowed := true }
def FnExactLevelWitnessUptoSaid : Prop := fnExactLevelWitnessUptoRow.holds Try.pinned (OpenSpec.upto fnExactLevelWitnessSpec)

end Rows
end Go.Proofs.Ytdeophmdpbgkdaa
