/-
  No cell of these rows narrows 'for every input' (looked for: loops, veiled, ifaces, maps, wideKeys, modest, calm, conditions, laid).
  DERIVED. THE GIVEN ROWS OF THIS SEAT. 6 by the template 'for every input the law returns true; each argument reads behind the call as it read before'; 0 by the template 'total and deterministic' (their statements: YtfmbipocbnhnbaaTotals.lean).
  GIVEN WITH THE SEED: the statements are not yours to turn. If you find one false, say at which input.
  Laid BY PROGRAM, IN A SANDBOX (cutbox-rows.mjs): the forced cells as the released guide's own fill.sh prints them over the translation ca62ad259d2d6dd1… (all of the seat's roots in one cut). By AI agents, Wed Nov 11 2026. No macro, syntax, notation, axiom, sorry.
-/
import Derived.Test.YtfmbipocbnhnbaaChecked
import GoSem.Claim
import GoSem.ClaimJoined
import GoSem.ClaimMapViews
import Derived.JoinedTies
import Derived.KernelRfl
namespace Go.Proofs.Ytfmbipocbnhnbaa
/- THE CELL 'sum', in the pinned program and in every row, IS THE sha256 OF THE DUMP (.gsa) THAT YtfmbipocbnhnbaaProg.lean LOADS. Nothing in Lean hashes anything: it is a label: what it is worth is what the hold of that sum in a sandbox is worth. -/
noncomputable def Try.pinned : Pinned := { name := "ytfmbipocbnhnbaa", sum := "ca62ad259d2d6dd1abc93c90c32c06ca469ce8a82b30fc819a02d09df08dba32", checked := Try.checked }
namespace Rows
def none {H : Type} : Left H := { results := [], args := [] }

/-- 'laws.FnLevels': WHATEVER THE INPUT: true; the input reads as it did. -/
def fnLevelsSpec : ChangeSpec := { name := "fnLevels", fn := fun _ => fun
  | [d] => { results := [.lit (.bool true)], args := [d] }
  | _ => none }
def fnLevelsRow : OpenClaim := { program := "ytfmbipocbnhnbaa", sum := "ca62ad259d2d6dd1abc93c90c32c06ca469ce8a82b30fc819a02d09df08dba32", func := "loop.example/g00963/laws.FnLevels", spec := "fnLevels", inPlace := ["internal/abi.NoEscape", "internal/bytealg.CountString", "internal/bytealg.IndexByteString", "internal/bytealg.IndexString"], recurses := true, named := ["internal/bytealg.MaxLen"], apart := false }
def FnLevelsSaid : Prop := fnLevelsRow.holds Try.pinned (OpenSpec.ofChange fnLevelsSpec)

/-- ITS FALSE NEIGHBOUR: 'it returns false'. Refute it at one input. -/
def fnLevelsWrong : ChangeSpec := { name := "fnLevels", fn := fun _ => fun
  | [d] => { results := [.lit (.bool false)], args := [d] }
  | _ => none }
def FnLevelsWrongFalsely : Prop := fnLevelsRow.holds Try.pinned (OpenSpec.ofChange fnLevelsWrong)

/-- 'laws.FnExactLevelOk': WHATEVER THE INPUT: true; the input reads as it did. -/
def fnExactLevelOkSpec : ChangeSpec := { name := "fnExactLevelOk", fn := fun _ => fun
  | [d] => { results := [.lit (.bool true)], args := [d] }
  | _ => none }
def fnExactLevelOkRow : OpenClaim := { program := "ytfmbipocbnhnbaa", sum := "ca62ad259d2d6dd1abc93c90c32c06ca469ce8a82b30fc819a02d09df08dba32", func := "loop.example/g00963/laws.FnExactLevelOk", spec := "fnExactLevelOk", apart := false }
def FnExactLevelOkSaid : Prop := fnExactLevelOkRow.holds Try.pinned (OpenSpec.ofChange fnExactLevelOkSpec)

/-- ITS FALSE NEIGHBOUR: 'it returns false'. Refute it at one input. -/
def fnExactLevelOkWrong : ChangeSpec := { name := "fnExactLevelOk", fn := fun _ => fun
  | [d] => { results := [.lit (.bool false)], args := [d] }
  | _ => none }
def FnExactLevelOkWrongFalsely : Prop := fnExactLevelOkRow.holds Try.pinned (OpenSpec.ofChange fnExactLevelOkWrong)

/-- 'laws.FnExactLevelEnd': WHATEVER THE INPUT: true; the input reads as it did. -/
def fnExactLevelEndSpec : ChangeSpec := { name := "fnExactLevelEnd", fn := fun _ => fun
  | [d1, d2] => { results := [.lit (.bool true)], args := [d1, d2] }
  | _ => none }
def fnExactLevelEndRow : OpenClaim := { program := "ytfmbipocbnhnbaa", sum := "ca62ad259d2d6dd1abc93c90c32c06ca469ce8a82b30fc819a02d09df08dba32", func := "loop.example/g00963/laws.FnExactLevelEnd", spec := "fnExactLevelEnd", apart := false }
def FnExactLevelEndSaid : Prop := fnExactLevelEndRow.holds Try.pinned (OpenSpec.ofChange fnExactLevelEndSpec)

/-- ITS FALSE NEIGHBOUR: 'it returns false'. Refute it at one input. -/
def fnExactLevelEndWrong : ChangeSpec := { name := "fnExactLevelEnd", fn := fun _ => fun
  | [d1, d2] => { results := [.lit (.bool false)], args := [d1, d2] }
  | _ => none }
def FnExactLevelEndWrongFalsely : Prop := fnExactLevelEndRow.holds Try.pinned (OpenSpec.ofChange fnExactLevelEndWrong)

/-- 'laws.FnExactLevelParams': WHATEVER THE INPUT: true; the input reads as it did. -/
def fnExactLevelParamsSpec : ChangeSpec := { name := "fnExactLevelParams", fn := fun _ => fun
  | [d] => { results := [.lit (.bool true)], args := [d] }
  | _ => none }
def fnExactLevelParamsRow : OpenClaim := { program := "ytfmbipocbnhnbaa", sum := "ca62ad259d2d6dd1abc93c90c32c06ca469ce8a82b30fc819a02d09df08dba32", func := "loop.example/g00963/laws.FnExactLevelParams", spec := "fnExactLevelParams", apart := false }
def FnExactLevelParamsSaid : Prop := fnExactLevelParamsRow.holds Try.pinned (OpenSpec.ofChange fnExactLevelParamsSpec)

/-- ITS FALSE NEIGHBOUR: 'it returns false'. Refute it at one input. -/
def fnExactLevelParamsWrong : ChangeSpec := { name := "fnExactLevelParams", fn := fun _ => fun
  | [d] => { results := [.lit (.bool false)], args := [d] }
  | _ => none }
def FnExactLevelParamsWrongFalsely : Prop := fnExactLevelParamsRow.holds Try.pinned (OpenSpec.ofChange fnExactLevelParamsWrong)

/-- 'laws.FnExactLevelUps': WHATEVER THE INPUT: true; the input reads as it did. -/
def fnExactLevelUpsSpec : ChangeSpec := { name := "fnExactLevelUps", fn := fun _ => fun
  | [d] => { results := [.lit (.bool true)], args := [d] }
  | _ => none }
def fnExactLevelUpsRow : OpenClaim := { program := "ytfmbipocbnhnbaa", sum := "ca62ad259d2d6dd1abc93c90c32c06ca469ce8a82b30fc819a02d09df08dba32", func := "loop.example/g00963/laws.FnExactLevelUps", spec := "fnExactLevelUps", inPlace := ["internal/bytealg.CountString", "internal/bytealg.IndexByteString", "internal/bytealg.IndexString"], named := ["internal/bytealg.MaxLen"], apart := false }
def FnExactLevelUpsSaid : Prop := fnExactLevelUpsRow.holds Try.pinned (OpenSpec.ofChange fnExactLevelUpsSpec)

/-- ITS FALSE NEIGHBOUR: 'it returns false'. Refute it at one input. -/
def fnExactLevelUpsWrong : ChangeSpec := { name := "fnExactLevelUps", fn := fun _ => fun
  | [d] => { results := [.lit (.bool false)], args := [d] }
  | _ => none }
def FnExactLevelUpsWrongFalsely : Prop := fnExactLevelUpsRow.holds Try.pinned (OpenSpec.ofChange fnExactLevelUpsWrong)

/-- 'laws.FnExactLevelPut': WHATEVER THE INPUT: true; the input reads as it did. -/
def fnExactLevelPutSpec : ChangeSpec := { name := "fnExactLevelPut", fn := fun _ => fun
  | [d1, d2] => { results := [.lit (.bool true)], args := [d1, d2] }
  | _ => none }
def fnExactLevelPutRow : OpenClaim := { program := "ytfmbipocbnhnbaa", sum := "ca62ad259d2d6dd1abc93c90c32c06ca469ce8a82b30fc819a02d09df08dba32", func := "loop.example/g00963/laws.FnExactLevelPut", spec := "fnExactLevelPut", inPlace := ["internal/abi.NoEscape"], apart := false }
def FnExactLevelPutSaid : Prop := fnExactLevelPutRow.holds Try.pinned (OpenSpec.ofChange fnExactLevelPutSpec)

/-- ITS FALSE NEIGHBOUR: 'it returns false'. Refute it at one input. -/
def fnExactLevelPutWrong : ChangeSpec := { name := "fnExactLevelPut", fn := fun _ => fun
  | [d1, d2] => { results := [.lit (.bool false)], args := [d1, d2] }
  | _ => none }
def FnExactLevelPutWrongFalsely : Prop := fnExactLevelPutRow.holds Try.pinned (OpenSpec.ofChange fnExactLevelPutWrong)

/- THE SECOND FORM. 'bulk': how many values and letters a reading holds, each counted each time it is reached (what is shared counts as often as it is met; a slice's spare places count too). A statement '..UptoSaid' is the law's where the arguments, and the package variables that the reading takes, are together of bulk at most 1048576: NARROWER than '..Said'. Prove '..Said' where nothing that the law and all that it calls make is longer than what came in: it says more and counts as full. Else prove '..UptoSaid'. A law counts once. -/
mutual
def uptoBulk {H : Type} : DataW H → Nat
  | .lit (.string bytes) => bytes.length + 1
  | .lit _ => 1
  | .nil => 1
  | .ptr d => uptoBulk d + 1
  | .slice elems spare => uptoBulkAll elems + uptoBulkAll spare + 1
  | .agg parts => uptoBulkAll parts + 1
  | .iface _ d => uptoBulk d + 1
  | .map entries => uptoBulkEntries entries + 1
  | .held _ => 1
def uptoBulkAll {H : Type} : List (DataW H) → Nat
  | [] => 0
  | d :: r => uptoBulk d + uptoBulkAll r
def uptoBulkEntries {H : Type} : List (Lit × DataW H) → Nat
  | [] => 0
  | x :: r => uptoBulkEntry x + uptoBulkEntries r
def uptoBulkEntry {H : Type} : Lit × DataW H → Nat
  | (.string bytes, d) => bytes.length + uptoBulk d + 1
  | (_, d) => uptoBulk d + 1
 end
def uptoSmall : (H : Type) → List (DataW H) → Bool := fun _ ds => decide (uptoBulkAll ds ≤ 1048576)
def OpenSpec.upto (s : _root_.Go.ChangeSpec) : _root_.Go.OpenSpec := { _root_.Go.OpenSpec.ofChange s with cond := some uptoSmall }

/-- 'laws.FnLevels', WHERE WHAT IT READS IS OF BULK AT MOST 1048576: true; the input reads as it did. -/
def fnLevelsUptoRow : OpenClaim := { program := "ytfmbipocbnhnbaa", sum := "ca62ad259d2d6dd1abc93c90c32c06ca469ce8a82b30fc819a02d09df08dba32", func := "loop.example/g00963/laws.FnLevels", spec := "fnLevels", inPlace := ["internal/abi.NoEscape", "internal/bytealg.CountString", "internal/bytealg.IndexByteString", "internal/bytealg.IndexString"], recurses := true, named := ["internal/bytealg.MaxLen"], apart := false, narrowed := true }
def FnLevelsUptoSaid : Prop := fnLevelsUptoRow.holds Try.pinned (OpenSpec.upto fnLevelsSpec)

/-- 'laws.FnExactLevelOk', WHERE WHAT IT READS IS OF BULK AT MOST 1048576: true; the input reads as it did. -/
def fnExactLevelOkUptoRow : OpenClaim := { program := "ytfmbipocbnhnbaa", sum := "ca62ad259d2d6dd1abc93c90c32c06ca469ce8a82b30fc819a02d09df08dba32", func := "loop.example/g00963/laws.FnExactLevelOk", spec := "fnExactLevelOk", apart := false, narrowed := true }
def FnExactLevelOkUptoSaid : Prop := fnExactLevelOkUptoRow.holds Try.pinned (OpenSpec.upto fnExactLevelOkSpec)

/-- 'laws.FnExactLevelEnd', WHERE WHAT IT READS IS OF BULK AT MOST 1048576: true; the input reads as it did. -/
def fnExactLevelEndUptoRow : OpenClaim := { program := "ytfmbipocbnhnbaa", sum := "ca62ad259d2d6dd1abc93c90c32c06ca469ce8a82b30fc819a02d09df08dba32", func := "loop.example/g00963/laws.FnExactLevelEnd", spec := "fnExactLevelEnd", apart := false, narrowed := true }
def FnExactLevelEndUptoSaid : Prop := fnExactLevelEndUptoRow.holds Try.pinned (OpenSpec.upto fnExactLevelEndSpec)

/-- 'laws.FnExactLevelParams', WHERE WHAT IT READS IS OF BULK AT MOST 1048576: true; the input reads as it did. -/
def fnExactLevelParamsUptoRow : OpenClaim := { program := "ytfmbipocbnhnbaa", sum := "ca62ad259d2d6dd1abc93c90c32c06ca469ce8a82b30fc819a02d09df08dba32", func := "loop.example/g00963/laws.FnExactLevelParams", spec := "fnExactLevelParams", apart := false, narrowed := true }
def FnExactLevelParamsUptoSaid : Prop := fnExactLevelParamsUptoRow.holds Try.pinned (OpenSpec.upto fnExactLevelParamsSpec)

/-- 'laws.FnExactLevelUps', WHERE WHAT IT READS IS OF BULK AT MOST 1048576: true; the input reads as it did. -/
def fnExactLevelUpsUptoRow : OpenClaim := { program := "ytfmbipocbnhnbaa", sum := "ca62ad259d2d6dd1abc93c90c32c06ca469ce8a82b30fc819a02d09df08dba32", func := "loop.example/g00963/laws.FnExactLevelUps", spec := "fnExactLevelUps", inPlace := ["internal/bytealg.CountString", "internal/bytealg.IndexByteString", "internal/bytealg.IndexString"], named := ["internal/bytealg.MaxLen"], apart := false, narrowed := true }
def FnExactLevelUpsUptoSaid : Prop := fnExactLevelUpsUptoRow.holds Try.pinned (OpenSpec.upto fnExactLevelUpsSpec)

/-- 'laws.FnExactLevelPut', WHERE WHAT IT READS IS OF BULK AT MOST 1048576: true; the input reads as it did. -/
def fnExactLevelPutUptoRow : OpenClaim := { program := "ytfmbipocbnhnbaa", sum := "ca62ad259d2d6dd1abc93c90c32c06ca469ce8a82b30fc819a02d09df08dba32", func := "loop.example/g00963/laws.FnExactLevelPut", spec := "fnExactLevelPut", inPlace := ["internal/abi.NoEscape"], apart := false, narrowed := true }
def FnExactLevelPutUptoSaid : Prop := fnExactLevelPutUptoRow.holds Try.pinned (OpenSpec.upto fnExactLevelPutSpec)

end Rows
end Go.Proofs.Ytfmbipocbnhnbaa
