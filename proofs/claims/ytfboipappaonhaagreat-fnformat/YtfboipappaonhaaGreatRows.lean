/-
  No cell of these rows narrows 'for every input' (looked for: loops, veiled, ifaces, maps, wideKeys, modest, calm, conditions, laid).
  DERIVED. THE GIVEN ROWS OF THIS SEAT. 5 by the template 'for every input the law returns true; each argument reads behind the call as it read before'; 0 by the template 'total and deterministic' (their statements: YtfboipappaonhaaGreatTotals.lean).
  GIVEN WITH THE SEED: the statements are not yours to turn. If you find one false, say at which input.
  Laid BY PROGRAM, IN A SANDBOX (cutbox-rows.mjs): the forced cells as the released guide's own fill.sh prints them over the translation 7c00c387a20df778… (all of the seat's roots in one cut). By AI agents, Wed Nov 11 2026. No macro, syntax, notation, axiom, sorry.
-/
import Derived.Test.YtfboipappaonhaaGreatChecked
import GoSem.Claim
import GoSem.ClaimJoined
import GoSem.ClaimMapViews
import Derived.JoinedTies
import Derived.KernelRfl
namespace Go.Proofs.YtfboipappaonhaaGreat
/- THE CELL 'sum', in the pinned program and in every row, IS THE sha256 OF THE DUMP (.gsa) THAT YtfboipappaonhaaGreatProg.lean LOADS. Nothing in Lean hashes anything: it is a label: what it is worth is what the hold of that sum in a sandbox is worth. -/
noncomputable def Tryz.pinned : Pinned := { name := "ytfboipappaonhaagreat", sum := "7c00c387a20df7786eaa567a9a57d4991efcc69a5a2913259e1a8441f3dca632", checked := Tryz.checked }
namespace Rows
def none {H : Type} : Left H := { results := [], args := [] }

/-- 'laws.FnPrinted': WHATEVER THE INPUT: true; the input reads as it did. -/
def fnPrintedSpec : ChangeSpec := { name := "fnPrinted", fn := fun _ => fun
  | [d] => { results := [.lit (.bool true)], args := [d] }
  | _ => none }
def fnPrintedRow : OpenClaim := { program := "ytfboipappaonhaagreat", sum := "7c00c387a20df7786eaa567a9a57d4991efcc69a5a2913259e1a8441f3dca632", func := "loop.example/s0059/laws.FnPrinted", spec := "fnPrinted", inPlace := ["internal/bytealg.IndexByteString", "internal/abi.NoEscape", "internal/bytealg.MakeNoZero"], unfollowed := true, recurses := true, plainKeys := false, apart := false }
def FnPrintedSaid : Prop := fnPrintedRow.holds Tryz.pinned (OpenSpec.ofChange fnPrintedSpec)

/-- ITS FALSE NEIGHBOUR: 'it returns false'. Refute it at one input. -/
def fnPrintedWrong : ChangeSpec := { name := "fnPrinted", fn := fun _ => fun
  | [d] => { results := [.lit (.bool false)], args := [d] }
  | _ => none }
def FnPrintedWrongFalsely : Prop := fnPrintedRow.holds Tryz.pinned (OpenSpec.ofChange fnPrintedWrong)

/-- 'laws.FnMinimal': WHATEVER THE INPUT: true; the input reads as it did. -/
def fnMinimalSpec : ChangeSpec := { name := "fnMinimal", fn := fun _ => fun
  | [d1, d2] => { results := [.lit (.bool true)], args := [d1, d2] }
  | _ => none }
def fnMinimalRow : OpenClaim := { program := "ytfboipappaonhaagreat", sum := "7c00c387a20df7786eaa567a9a57d4991efcc69a5a2913259e1a8441f3dca632", func := "loop.example/s0059/laws.FnMinimal", spec := "fnMinimal", inPlace := ["internal/bytealg.IndexByteString", "internal/abi.NoEscape"], unfollowed := true, recurses := true, plainKeys := false, apart := false }
def FnMinimalSaid : Prop := fnMinimalRow.holds Tryz.pinned (OpenSpec.ofChange fnMinimalSpec)

/-- ITS FALSE NEIGHBOUR: 'it returns false'. Refute it at one input. -/
def fnMinimalWrong : ChangeSpec := { name := "fnMinimal", fn := fun _ => fun
  | [d1, d2] => { results := [.lit (.bool false)], args := [d1, d2] }
  | _ => none }
def FnMinimalWrongFalsely : Prop := fnMinimalRow.holds Tryz.pinned (OpenSpec.ofChange fnMinimalWrong)

/-- 'laws.FnUnique': WHATEVER THE INPUT: true; the input reads as it did. -/
def fnUniqueSpec : ChangeSpec := { name := "fnUnique", fn := fun _ => fun
  | [d] => { results := [.lit (.bool true)], args := [d] }
  | _ => none }
def fnUniqueRow : OpenClaim := { program := "ytfboipappaonhaagreat", sum := "7c00c387a20df7786eaa567a9a57d4991efcc69a5a2913259e1a8441f3dca632", func := "loop.example/s0059/laws.FnUnique", spec := "fnUnique", inPlace := ["internal/bytealg.IndexByteString", "internal/abi.NoEscape"], unfollowed := true, recurses := true, plainKeys := false, apart := false }
def FnUniqueSaid : Prop := fnUniqueRow.holds Tryz.pinned (OpenSpec.ofChange fnUniqueSpec)

/-- ITS FALSE NEIGHBOUR: 'it returns false'. Refute it at one input. -/
def fnUniqueWrong : ChangeSpec := { name := "fnUnique", fn := fun _ => fun
  | [d] => { results := [.lit (.bool false)], args := [d] }
  | _ => none }
def FnUniqueWrongFalsely : Prop := fnUniqueRow.holds Tryz.pinned (OpenSpec.ofChange fnUniqueWrong)

/-- 'laws.FnFormat': WHATEVER THE INPUT: true; the input reads as it did. -/
def fnFormatSpec : ChangeSpec := { name := "fnFormat", fn := fun _ => fun
  | [d] => { results := [.lit (.bool true)], args := [d] }
  | _ => none }
def fnFormatRow : OpenClaim := { program := "ytfboipappaonhaagreat", sum := "7c00c387a20df7786eaa567a9a57d4991efcc69a5a2913259e1a8441f3dca632", func := "loop.example/s0059/laws.FnFormat", spec := "fnFormat", inPlace := ["internal/bytealg.IndexByteString", "internal/abi.NoEscape", "internal/bytealg.MakeNoZero"], unfollowed := true, recurses := true, plainKeys := false, apart := false }
def FnFormatSaid : Prop := fnFormatRow.holds Tryz.pinned (OpenSpec.ofChange fnFormatSpec)

/-- ITS FALSE NEIGHBOUR: 'it returns false'. Refute it at one input. -/
def fnFormatWrong : ChangeSpec := { name := "fnFormat", fn := fun _ => fun
  | [d] => { results := [.lit (.bool false)], args := [d] }
  | _ => none }
def FnFormatWrongFalsely : Prop := fnFormatRow.holds Tryz.pinned (OpenSpec.ofChange fnFormatWrong)

/-- 'laws.FnParsed': WHATEVER THE INPUT: true; the input reads as it did. -/
def fnParsedSpec : ChangeSpec := { name := "fnParsed", fn := fun _ => fun
  | [d1, d2] => { results := [.lit (.bool true)], args := [d1, d2] }
  | _ => none }
def fnParsedRow : OpenClaim := { program := "ytfboipappaonhaagreat", sum := "7c00c387a20df7786eaa567a9a57d4991efcc69a5a2913259e1a8441f3dca632", func := "loop.example/s0059/laws.FnParsed", spec := "fnParsed", inPlace := ["internal/bytealg.IndexByteString", "internal/abi.NoEscape"], unfollowed := true, recurses := true, plainKeys := false, apart := false }
def FnParsedSaid : Prop := fnParsedRow.holds Tryz.pinned (OpenSpec.ofChange fnParsedSpec)

/-- ITS FALSE NEIGHBOUR: 'it returns false'. Refute it at one input. -/
def fnParsedWrong : ChangeSpec := { name := "fnParsed", fn := fun _ => fun
  | [d1, d2] => { results := [.lit (.bool false)], args := [d1, d2] }
  | _ => none }
def FnParsedWrongFalsely : Prop := fnParsedRow.holds Tryz.pinned (OpenSpec.ofChange fnParsedWrong)

/- THE SECOND FORM. 'bulk': how many values and letters a reading holds, each counted each time it is reached (what is shared counts as often as it is met; a slice's spare places count too). A statement '..UptoSaid' is the law's where the arguments, and the package variables that the reading takes, are together of bulk at most 1048576: NARROWER than '..Said'. Prove '..Said' where nothing that the law and all that it calls make is longer than what came in: it says more and counts as full. Else prove '..UptoSaid'. A law counts once. -/
mutual
def uptoBulk {H : Type} : DataW H → Nat
  | .lit (.string bytes) => bytes.length + 1
  | .lit _ => 1
  | .nil => 1
  | .ptr d => uptoBulk d + 1
  | .slice elems spare => uptoBulkAll elems + uptoBulkAll spare + 1
  | .agg parts => uptoBulkAll parts + 1
  | .iface _ d => uptoBulk d + 1
  | .map entries => uptoBulkEntries entries + 1
  | .held _ => 1
def uptoBulkAll {H : Type} : List (DataW H) → Nat
  | [] => 0
  | d :: r => uptoBulk d + uptoBulkAll r
def uptoBulkEntries {H : Type} : List (Lit × DataW H) → Nat
  | [] => 0
  | x :: r => uptoBulkEntry x + uptoBulkEntries r
def uptoBulkEntry {H : Type} : Lit × DataW H → Nat
  | (.string bytes, d) => bytes.length + uptoBulk d + 1
  | (_, d) => uptoBulk d + 1
 end
def uptoSmall : (H : Type) → List (DataW H) → Bool := fun _ ds => decide (uptoBulkAll ds ≤ 1048576)
def OpenSpec.upto (s : _root_.Go.ChangeSpec) : _root_.Go.OpenSpec := { _root_.Go.OpenSpec.ofChange s with cond := some uptoSmall }

/-- 'laws.FnPrinted', WHERE WHAT IT READS IS OF BULK AT MOST 1048576: true; the input reads as it did. -/
def fnPrintedUptoRow : OpenClaim := { program := "ytfboipappaonhaagreat", sum := "7c00c387a20df7786eaa567a9a57d4991efcc69a5a2913259e1a8441f3dca632", func := "loop.example/s0059/laws.FnPrinted", spec := "fnPrinted", inPlace := ["internal/bytealg.IndexByteString", "internal/abi.NoEscape", "internal/bytealg.MakeNoZero"], unfollowed := true, recurses := true, plainKeys := false, apart := false, narrowed := true }
def FnPrintedUptoSaid : Prop := fnPrintedUptoRow.holds Tryz.pinned (OpenSpec.upto fnPrintedSpec)

/-- 'laws.FnMinimal', WHERE WHAT IT READS IS OF BULK AT MOST 1048576: true; the input reads as it did. -/
def fnMinimalUptoRow : OpenClaim := { program := "ytfboipappaonhaagreat", sum := "7c00c387a20df7786eaa567a9a57d4991efcc69a5a2913259e1a8441f3dca632", func := "loop.example/s0059/laws.FnMinimal", spec := "fnMinimal", inPlace := ["internal/bytealg.IndexByteString", "internal/abi.NoEscape"], unfollowed := true, recurses := true, plainKeys := false, apart := false, narrowed := true }
def FnMinimalUptoSaid : Prop := fnMinimalUptoRow.holds Tryz.pinned (OpenSpec.upto fnMinimalSpec)

/-- 'laws.FnUnique', WHERE WHAT IT READS IS OF BULK AT MOST 1048576: true; the input reads as it did. -/
def fnUniqueUptoRow : OpenClaim := { program := "ytfboipappaonhaagreat", sum := "7c00c387a20df7786eaa567a9a57d4991efcc69a5a2913259e1a8441f3dca632", func := "loop.example/s0059/laws.FnUnique", spec := "fnUnique", inPlace := ["internal/bytealg.IndexByteString", "internal/abi.NoEscape"], unfollowed := true, recurses := true, plainKeys := false, apart := false, narrowed := true }
def FnUniqueUptoSaid : Prop := fnUniqueUptoRow.holds Tryz.pinned (OpenSpec.upto fnUniqueSpec)

/-- 'laws.FnFormat', WHERE WHAT IT READS IS OF BULK AT MOST 1048576: true; the input reads as it did. -/
def fnFormatUptoRow : OpenClaim := { program := "ytfboipappaonhaagreat", sum := "7c00c387a20df7786eaa567a9a57d4991efcc69a5a2913259e1a8441f3dca632", func := "loop.example/s0059/laws.FnFormat", spec := "fnFormat", inPlace := ["internal/bytealg.IndexByteString", "internal/abi.NoEscape", "internal/bytealg.MakeNoZero"], unfollowed := true, recurses := true, plainKeys := false, apart := false, narrowed := true }
def FnFormatUptoSaid : Prop := fnFormatUptoRow.holds Tryz.pinned (OpenSpec.upto fnFormatSpec)

/-- 'laws.FnParsed', WHERE WHAT IT READS IS OF BULK AT MOST 1048576: true; the input reads as it did. -/
def fnParsedUptoRow : OpenClaim := { program := "ytfboipappaonhaagreat", sum := "7c00c387a20df7786eaa567a9a57d4991efcc69a5a2913259e1a8441f3dca632", func := "loop.example/s0059/laws.FnParsed", spec := "fnParsed", inPlace := ["internal/bytealg.IndexByteString", "internal/abi.NoEscape"], unfollowed := true, recurses := true, plainKeys := false, apart := false, narrowed := true }
def FnParsedUptoSaid : Prop := fnParsedUptoRow.holds Tryz.pinned (OpenSpec.upto fnParsedSpec)

end Rows
end Go.Proofs.YtfboipappaonhaaGreat
