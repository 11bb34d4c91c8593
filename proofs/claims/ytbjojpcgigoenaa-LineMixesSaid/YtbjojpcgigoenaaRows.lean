/-
  No cell of these rows narrows 'for every input' (looked for: loops, veiled, ifaces, maps, wideKeys, modest, calm, conditions, laid).
  DERIVED. THE GIVEN ROWS OF THIS SEAT. 12 by the template 'for every input the law returns true; each argument reads behind the call as it read before'; 0 by the template 'total and deterministic' (their statements: YtbjojpcgigoenaaTotals.lean).
  GIVEN WITH THE SEED: the statements are not yours to turn. If you find one false, say at which input.
  Laid BY PROGRAM, IN A SANDBOX (cutbox-rows.mjs): the forced cells as the released guide's own fill.sh prints them over the translation 64cb96b795cfb080… (all of the seat's roots in one cut). By AI agents, Wed Nov 11 2026. No macro, syntax, notation, axiom, sorry.
-/
import Derived.Test.YtbjojpcgigoenaaChecked
import GoSem.Claim
import GoSem.ClaimJoined
import GoSem.ClaimMapViews
import Derived.JoinedTies
import Derived.KernelRfl
namespace Go.Proofs.Ytbjojpcgigoenaa
/- THE CELL 'sum', in the pinned program and in every row, IS THE sha256 OF THE DUMP (.gsa) THAT YtbjojpcgigoenaaProg.lean LOADS. Nothing in Lean hashes anything: it is a label: what it is worth is what the hold of that sum in a sandbox is worth. -/
noncomputable def Try.pinned : Pinned := { name := "ytbjojpcgigoenaa", sum := "64cb96b795cfb0803c10cceca8f412f43393ea5c5cc6a131a01f37d6e3e440a3", checked := Try.checked }
namespace Rows
def none {H : Type} : Left H := { results := [], args := [] }

/-- 'matronlaw1.LineMixes': WHATEVER THE INPUT: true; the input reads as it did. -/
def lineMixesSpec : ChangeSpec := { name := "lineMixes", fn := fun _ => fun
  | [d1, d2, d3, d4, d5] => { results := [.lit (.bool true)], args := [d1, d2, d3, d4, d5] }
  | _ => none }
def lineMixesRow : OpenClaim := { program := "ytbjojpcgigoenaa", sum := "64cb96b795cfb0803c10cceca8f412f43393ea5c5cc6a131a01f37d6e3e440a3", func := "matron/matronlaw1.LineMixes", spec := "lineMixes", apart := false }
def LineMixesSaid : Prop := lineMixesRow.holds Try.pinned (OpenSpec.ofChange lineMixesSpec)

/-- ITS FALSE NEIGHBOUR: 'it returns false'. Refute it at one input. -/
def lineMixesWrong : ChangeSpec := { name := "lineMixes", fn := fun _ => fun
  | [d1, d2, d3, d4, d5] => { results := [.lit (.bool false)], args := [d1, d2, d3, d4, d5] }
  | _ => none }
def LineMixesWrongFalsely : Prop := lineMixesRow.holds Try.pinned (OpenSpec.ofChange lineMixesWrong)

/-- 'matronlaw1.LineReads': WHATEVER THE INPUT: true; the input reads as it did. -/
def lineReadsSpec : ChangeSpec := { name := "lineReads", fn := fun _ => fun
  | [d] => { results := [.lit (.bool true)], args := [d] }
  | _ => none }
def lineReadsRow : OpenClaim := { program := "ytbjojpcgigoenaa", sum := "64cb96b795cfb0803c10cceca8f412f43393ea5c5cc6a131a01f37d6e3e440a3", func := "matron/matronlaw1.LineReads", spec := "lineReads", apart := false }
def LineReadsSaid : Prop := lineReadsRow.holds Try.pinned (OpenSpec.ofChange lineReadsSpec)

/-- ITS FALSE NEIGHBOUR: 'it returns false'. Refute it at one input. -/
def lineReadsWrong : ChangeSpec := { name := "lineReads", fn := fun _ => fun
  | [d] => { results := [.lit (.bool false)], args := [d] }
  | _ => none }
def LineReadsWrongFalsely : Prop := lineReadsRow.holds Try.pinned (OpenSpec.ofChange lineReadsWrong)

/-- 'matronlaw2.CrcSums': WHATEVER THE INPUT: true; the input reads as it did. -/
def crcSumsSpec : ChangeSpec := { name := "crcSums", fn := fun _ => fun
  | [d1, d2] => { results := [.lit (.bool true)], args := [d1, d2] }
  | _ => none }
def crcSumsRow : OpenClaim := { program := "ytbjojpcgigoenaa", sum := "64cb96b795cfb0803c10cceca8f412f43393ea5c5cc6a131a01f37d6e3e440a3", func := "matron/matronlaw2.CrcSums", spec := "crcSums", apart := false }
def CrcSumsSaid : Prop := crcSumsRow.holds Try.pinned (OpenSpec.ofChange crcSumsSpec)

/-- ITS FALSE NEIGHBOUR: 'it returns false'. Refute it at one input. -/
def crcSumsWrong : ChangeSpec := { name := "crcSums", fn := fun _ => fun
  | [d1, d2] => { results := [.lit (.bool false)], args := [d1, d2] }
  | _ => none }
def CrcSumsWrongFalsely : Prop := crcSumsRow.holds Try.pinned (OpenSpec.ofChange crcSumsWrong)

/-- 'matronlaw2.CrcRows': WHATEVER THE INPUT: true; the input reads as it did. -/
def crcRowsSpec : ChangeSpec := { name := "crcRows", fn := fun _ => fun
  | [d1, d2] => { results := [.lit (.bool true)], args := [d1, d2] }
  | _ => none }
def crcRowsRow : OpenClaim := { program := "ytbjojpcgigoenaa", sum := "64cb96b795cfb0803c10cceca8f412f43393ea5c5cc6a131a01f37d6e3e440a3", func := "matron/matronlaw2.CrcRows", spec := "crcRows", apart := false }
def CrcRowsSaid : Prop := crcRowsRow.holds Try.pinned (OpenSpec.ofChange crcRowsSpec)

/-- ITS FALSE NEIGHBOUR: 'it returns false'. Refute it at one input. -/
def crcRowsWrong : ChangeSpec := { name := "crcRows", fn := fun _ => fun
  | [d1, d2] => { results := [.lit (.bool false)], args := [d1, d2] }
  | _ => none }
def CrcRowsWrongFalsely : Prop := crcRowsRow.holds Try.pinned (OpenSpec.ofChange crcRowsWrong)

/-- 'matronlaw2.CrcTurned': WHATEVER THE INPUT: true; the input reads as it did. -/
def crcTurnedSpec : ChangeSpec := { name := "crcTurned", fn := fun _ => fun
  | [d1, d2, d3, d4] => { results := [.lit (.bool true)], args := [d1, d2, d3, d4] }
  | _ => none }
def crcTurnedRow : OpenClaim := { program := "ytbjojpcgigoenaa", sum := "64cb96b795cfb0803c10cceca8f412f43393ea5c5cc6a131a01f37d6e3e440a3", func := "matron/matronlaw2.CrcTurned", spec := "crcTurned", apart := false }
def CrcTurnedSaid : Prop := crcTurnedRow.holds Try.pinned (OpenSpec.ofChange crcTurnedSpec)

/-- ITS FALSE NEIGHBOUR: 'it returns false'. Refute it at one input. -/
def crcTurnedWrong : ChangeSpec := { name := "crcTurned", fn := fun _ => fun
  | [d1, d2, d3, d4] => { results := [.lit (.bool false)], args := [d1, d2, d3, d4] }
  | _ => none }
def CrcTurnedWrongFalsely : Prop := crcTurnedRow.holds Try.pinned (OpenSpec.ofChange crcTurnedWrong)

/-- 'matronlaw2.CrcSeeds': WHATEVER THE INPUT: true; the input reads as it did. -/
def crcSeedsSpec : ChangeSpec := { name := "crcSeeds", fn := fun _ => fun
  | [d1, d2, d3] => { results := [.lit (.bool true)], args := [d1, d2, d3] }
  | _ => none }
def crcSeedsRow : OpenClaim := { program := "ytbjojpcgigoenaa", sum := "64cb96b795cfb0803c10cceca8f412f43393ea5c5cc6a131a01f37d6e3e440a3", func := "matron/matronlaw2.CrcSeeds", spec := "crcSeeds", apart := false }
def CrcSeedsSaid : Prop := crcSeedsRow.holds Try.pinned (OpenSpec.ofChange crcSeedsSpec)

/-- ITS FALSE NEIGHBOUR: 'it returns false'. Refute it at one input. -/
def crcSeedsWrong : ChangeSpec := { name := "crcSeeds", fn := fun _ => fun
  | [d1, d2, d3] => { results := [.lit (.bool false)], args := [d1, d2, d3] }
  | _ => none }
def CrcSeedsWrongFalsely : Prop := crcSeedsRow.holds Try.pinned (OpenSpec.ofChange crcSeedsWrong)

/-- 'matronlaw2.CrcLinear': WHATEVER THE INPUT: true; the input reads as it did. -/
def crcLinearSpec : ChangeSpec := { name := "crcLinear", fn := fun _ => fun
  | [d1, d2, d3, d4] => { results := [.lit (.bool true)], args := [d1, d2, d3, d4] }
  | _ => none }
def crcLinearRow : OpenClaim := { program := "ytbjojpcgigoenaa", sum := "64cb96b795cfb0803c10cceca8f412f43393ea5c5cc6a131a01f37d6e3e440a3", func := "matron/matronlaw2.CrcLinear", spec := "crcLinear", apart := false }
def CrcLinearSaid : Prop := crcLinearRow.holds Try.pinned (OpenSpec.ofChange crcLinearSpec)

/-- ITS FALSE NEIGHBOUR: 'it returns false'. Refute it at one input. -/
def crcLinearWrong : ChangeSpec := { name := "crcLinear", fn := fun _ => fun
  | [d1, d2, d3, d4] => { results := [.lit (.bool false)], args := [d1, d2, d3, d4] }
  | _ => none }
def CrcLinearWrongFalsely : Prop := crcLinearRow.holds Try.pinned (OpenSpec.ofChange crcLinearWrong)

/-- 'matronlaw2.CrcNought': WHATEVER THE INPUT: true; the input reads as it did. -/
def crcNoughtSpec : ChangeSpec := { name := "crcNought", fn := fun _ => fun
  | [d1, d2] => { results := [.lit (.bool true)], args := [d1, d2] }
  | _ => none }
def crcNoughtRow : OpenClaim := { program := "ytbjojpcgigoenaa", sum := "64cb96b795cfb0803c10cceca8f412f43393ea5c5cc6a131a01f37d6e3e440a3", func := "matron/matronlaw2.CrcNought", spec := "crcNought", apart := false }
def CrcNoughtSaid : Prop := crcNoughtRow.holds Try.pinned (OpenSpec.ofChange crcNoughtSpec)

/-- ITS FALSE NEIGHBOUR: 'it returns false'. Refute it at one input. -/
def crcNoughtWrong : ChangeSpec := { name := "crcNought", fn := fun _ => fun
  | [d1, d2] => { results := [.lit (.bool false)], args := [d1, d2] }
  | _ => none }
def CrcNoughtWrongFalsely : Prop := crcNoughtRow.holds Try.pinned (OpenSpec.ofChange crcNoughtWrong)

/-- 'matronlaw2.CrcOwn': WHATEVER THE INPUT: true; the input reads as it did. -/
def crcOwnSpec : ChangeSpec := { name := "crcOwn", fn := fun _ => fun
  | [d1, d2] => { results := [.lit (.bool true)], args := [d1, d2] }
  | _ => none }
def crcOwnRow : OpenClaim := { program := "ytbjojpcgigoenaa", sum := "64cb96b795cfb0803c10cceca8f412f43393ea5c5cc6a131a01f37d6e3e440a3", func := "matron/matronlaw2.CrcOwn", spec := "crcOwn", apart := false }
def CrcOwnSaid : Prop := crcOwnRow.holds Try.pinned (OpenSpec.ofChange crcOwnSpec)

/-- ITS FALSE NEIGHBOUR: 'it returns false'. Refute it at one input. -/
def crcOwnWrong : ChangeSpec := { name := "crcOwn", fn := fun _ => fun
  | [d1, d2] => { results := [.lit (.bool false)], args := [d1, d2] }
  | _ => none }
def CrcOwnWrongFalsely : Prop := crcOwnRow.holds Try.pinned (OpenSpec.ofChange crcOwnWrong)

/-- 'matronlaw2.CrcMore': WHATEVER THE INPUT: true; the input reads as it did. -/
def crcMoreSpec : ChangeSpec := { name := "crcMore", fn := fun _ => fun
  | [d1, d2, d3] => { results := [.lit (.bool true)], args := [d1, d2, d3] }
  | _ => none }
def crcMoreRow : OpenClaim := { program := "ytbjojpcgigoenaa", sum := "64cb96b795cfb0803c10cceca8f412f43393ea5c5cc6a131a01f37d6e3e440a3", func := "matron/matronlaw2.CrcMore", spec := "crcMore", apart := false }
def CrcMoreSaid : Prop := crcMoreRow.holds Try.pinned (OpenSpec.ofChange crcMoreSpec)

/-- ITS FALSE NEIGHBOUR: 'it returns false'. Refute it at one input. -/
def crcMoreWrong : ChangeSpec := { name := "crcMore", fn := fun _ => fun
  | [d1, d2, d3] => { results := [.lit (.bool false)], args := [d1, d2, d3] }
  | _ => none }
def CrcMoreWrongFalsely : Prop := crcMoreRow.holds Try.pinned (OpenSpec.ofChange crcMoreWrong)

/-- 'matronlaw2.CrcBit': WHATEVER THE INPUT: true; the input reads as it did. -/
def crcBitSpec : ChangeSpec := { name := "crcBit", fn := fun _ => fun
  | [d1, d2] => { results := [.lit (.bool true)], args := [d1, d2] }
  | _ => none }
def crcBitRow : OpenClaim := { program := "ytbjojpcgigoenaa", sum := "64cb96b795cfb0803c10cceca8f412f43393ea5c5cc6a131a01f37d6e3e440a3", func := "matron/matronlaw2.CrcBit", spec := "crcBit", apart := false }
def CrcBitSaid : Prop := crcBitRow.holds Try.pinned (OpenSpec.ofChange crcBitSpec)

/-- ITS FALSE NEIGHBOUR: 'it returns false'. Refute it at one input. -/
def crcBitWrong : ChangeSpec := { name := "crcBit", fn := fun _ => fun
  | [d1, d2] => { results := [.lit (.bool false)], args := [d1, d2] }
  | _ => none }
def CrcBitWrongFalsely : Prop := crcBitRow.holds Try.pinned (OpenSpec.ofChange crcBitWrong)

/-- 'matronlaw2.CrcSeedBits': WHATEVER THE INPUT: true; the input reads as it did. -/
def crcSeedBitsSpec : ChangeSpec := { name := "crcSeedBits", fn := fun _ => fun
  | [d1, d2, d3] => { results := [.lit (.bool true)], args := [d1, d2, d3] }
  | _ => none }
def crcSeedBitsRow : OpenClaim := { program := "ytbjojpcgigoenaa", sum := "64cb96b795cfb0803c10cceca8f412f43393ea5c5cc6a131a01f37d6e3e440a3", func := "matron/matronlaw2.CrcSeedBits", spec := "crcSeedBits", apart := false }
def CrcSeedBitsSaid : Prop := crcSeedBitsRow.holds Try.pinned (OpenSpec.ofChange crcSeedBitsSpec)

/-- ITS FALSE NEIGHBOUR: 'it returns false'. Refute it at one input. -/
def crcSeedBitsWrong : ChangeSpec := { name := "crcSeedBits", fn := fun _ => fun
  | [d1, d2, d3] => { results := [.lit (.bool false)], args := [d1, d2, d3] }
  | _ => none }
def CrcSeedBitsWrongFalsely : Prop := crcSeedBitsRow.holds Try.pinned (OpenSpec.ofChange crcSeedBitsWrong)

/- THE SECOND FORM. 'bulk': how many values and letters a reading holds, each counted each time it is reached (what is shared counts as often as it is met; a slice's spare places count too). A statement '..UptoSaid' is the law's where the arguments, and the package variables that the reading takes, are together of bulk at most 1048576: NARROWER than '..Said'. Prove '..Said' where nothing that the law and all that it calls make is longer than what came in: it says more and counts as full. Else prove '..UptoSaid'. A law counts once. -/
mutual
def uptoBulk {H : Type} : DataW H → Nat
  | .lit (.string bytes) => bytes.length + 1
  | .lit _ => 1
  | .nil => 1
  | .ptr d => uptoBulk d + 1
  | .slice elems spare => uptoBulkAll elems + uptoBulkAll spare + 1
  | .agg parts => uptoBulkAll parts + 1
  | .iface _ d => uptoBulk d + 1
  | .map entries => uptoBulkEntries entries + 1
  | .held _ => 1
def uptoBulkAll {H : Type} : List (DataW H) → Nat
  | [] => 0
  | d :: r => uptoBulk d + uptoBulkAll r
def uptoBulkEntries {H : Type} : List (Lit × DataW H) → Nat
  | [] => 0
  | x :: r => uptoBulkEntry x + uptoBulkEntries r
def uptoBulkEntry {H : Type} : Lit × DataW H → Nat
  | (.string bytes, d) => bytes.length + uptoBulk d + 1
  | (_, d) => uptoBulk d + 1
 end
def uptoSmall : (H : Type) → List (DataW H) → Bool := fun _ ds => decide (uptoBulkAll ds ≤ 1048576)
def OpenSpec.upto (s : _root_.Go.ChangeSpec) : _root_.Go.OpenSpec := { _root_.Go.OpenSpec.ofChange s with cond := some uptoSmall }

/-- 'matronlaw1.LineMixes', WHERE WHAT IT READS IS OF BULK AT MOST 1048576: true; the input reads as it did. -/
def lineMixesUptoRow : OpenClaim := { program := "ytbjojpcgigoenaa", sum := "64cb96b795cfb0803c10cceca8f412f43393ea5c5cc6a131a01f37d6e3e440a3", func := "matron/matronlaw1.LineMixes", spec := "lineMixes", apart := false, narrowed := true }
def LineMixesUptoSaid : Prop := lineMixesUptoRow.holds Try.pinned (OpenSpec.upto lineMixesSpec)

/-- 'matronlaw1.LineReads', WHERE WHAT IT READS IS OF BULK AT MOST 1048576: true; the input reads as it did. -/
def lineReadsUptoRow : OpenClaim := { program := "ytbjojpcgigoenaa", sum := "64cb96b795cfb0803c10cceca8f412f43393ea5c5cc6a131a01f37d6e3e440a3", func := "matron/matronlaw1.LineReads", spec := "lineReads", apart := false, narrowed := true }
def LineReadsUptoSaid : Prop := lineReadsUptoRow.holds Try.pinned (OpenSpec.upto lineReadsSpec)

/-- 'matronlaw2.CrcSums', WHERE WHAT IT READS IS OF BULK AT MOST 1048576: true; the input reads as it did. -/
def crcSumsUptoRow : OpenClaim := { program := "ytbjojpcgigoenaa", sum := "64cb96b795cfb0803c10cceca8f412f43393ea5c5cc6a131a01f37d6e3e440a3", func := "matron/matronlaw2.CrcSums", spec := "crcSums", apart := false, narrowed := true }
def CrcSumsUptoSaid : Prop := crcSumsUptoRow.holds Try.pinned (OpenSpec.upto crcSumsSpec)

/-- 'matronlaw2.CrcRows', WHERE WHAT IT READS IS OF BULK AT MOST 1048576: true; the input reads as it did. -/
def crcRowsUptoRow : OpenClaim := { program := "ytbjojpcgigoenaa", sum := "64cb96b795cfb0803c10cceca8f412f43393ea5c5cc6a131a01f37d6e3e440a3", func := "matron/matronlaw2.CrcRows", spec := "crcRows", apart := false, narrowed := true }
def CrcRowsUptoSaid : Prop := crcRowsUptoRow.holds Try.pinned (OpenSpec.upto crcRowsSpec)

/-- 'matronlaw2.CrcTurned', WHERE WHAT IT READS IS OF BULK AT MOST 1048576: true; the input reads as it did. -/
def crcTurnedUptoRow : OpenClaim := { program := "ytbjojpcgigoenaa", sum := "64cb96b795cfb0803c10cceca8f412f43393ea5c5cc6a131a01f37d6e3e440a3", func := "matron/matronlaw2.CrcTurned", spec := "crcTurned", apart := false, narrowed := true }
def CrcTurnedUptoSaid : Prop := crcTurnedUptoRow.holds Try.pinned (OpenSpec.upto crcTurnedSpec)

/-- 'matronlaw2.CrcSeeds', WHERE WHAT IT READS IS OF BULK AT MOST 1048576: true; the input reads as it did. -/
def crcSeedsUptoRow : OpenClaim := { program := "ytbjojpcgigoenaa", sum := "64cb96b795cfb0803c10cceca8f412f43393ea5c5cc6a131a01f37d6e3e440a3", func := "matron/matronlaw2.CrcSeeds", spec := "crcSeeds", apart := false, narrowed := true }
def CrcSeedsUptoSaid : Prop := crcSeedsUptoRow.holds Try.pinned (OpenSpec.upto crcSeedsSpec)

/-- 'matronlaw2.CrcLinear', WHERE WHAT IT READS IS OF BULK AT MOST 1048576: true; the input reads as it did. -/
def crcLinearUptoRow : OpenClaim := { program := "ytbjojpcgigoenaa", sum := "64cb96b795cfb0803c10cceca8f412f43393ea5c5cc6a131a01f37d6e3e440a3", func := "matron/matronlaw2.CrcLinear", spec := "crcLinear", apart := false, narrowed := true }
def CrcLinearUptoSaid : Prop := crcLinearUptoRow.holds Try.pinned (OpenSpec.upto crcLinearSpec)

/-- 'matronlaw2.CrcNought', WHERE WHAT IT READS IS OF BULK AT MOST 1048576: true; the input reads as it did. -/
def crcNoughtUptoRow : OpenClaim := { program := "ytbjojpcgigoenaa", sum := "64cb96b795cfb0803c10cceca8f412f43393ea5c5cc6a131a01f37d6e3e440a3", func := "matron/matronlaw2.CrcNought", spec := "crcNought", apart := false, narrowed := true }
def CrcNoughtUptoSaid : Prop := crcNoughtUptoRow.holds Try.pinned (OpenSpec.upto crcNoughtSpec)

/-- 'matronlaw2.CrcOwn', WHERE WHAT IT READS IS OF BULK AT MOST 1048576: true; the input reads as it did. -/
def crcOwnUptoRow : OpenClaim := { program := "ytbjojpcgigoenaa", sum := "64cb96b795cfb0803c10cceca8f412f43393ea5c5cc6a131a01f37d6e3e440a3", func := "matron/matronlaw2.CrcOwn", spec := "crcOwn", apart := false, narrowed := true }
def CrcOwnUptoSaid : Prop := crcOwnUptoRow.holds Try.pinned (OpenSpec.upto crcOwnSpec)

/-- 'matronlaw2.CrcMore', WHERE WHAT IT READS IS OF BULK AT MOST 1048576: true; the input reads as it did. -/
def crcMoreUptoRow : OpenClaim := { program := "ytbjojpcgigoenaa", sum := "64cb96b795cfb0803c10cceca8f412f43393ea5c5cc6a131a01f37d6e3e440a3", func := "matron/matronlaw2.CrcMore", spec := "crcMore", apart := false, narrowed := true }
def CrcMoreUptoSaid : Prop := crcMoreUptoRow.holds Try.pinned (OpenSpec.upto crcMoreSpec)

/-- 'matronlaw2.CrcBit', WHERE WHAT IT READS IS OF BULK AT MOST 1048576: true; the input reads as it did. -/
def crcBitUptoRow : OpenClaim := { program := "ytbjojpcgigoenaa", sum := "64cb96b795cfb0803c10cceca8f412f43393ea5c5cc6a131a01f37d6e3e440a3", func := "matron/matronlaw2.CrcBit", spec := "crcBit", apart := false, narrowed := true }
def CrcBitUptoSaid : Prop := crcBitUptoRow.holds Try.pinned (OpenSpec.upto crcBitSpec)

/-- 'matronlaw2.CrcSeedBits', WHERE WHAT IT READS IS OF BULK AT MOST 1048576: true; the input reads as it did. -/
def crcSeedBitsUptoRow : OpenClaim := { program := "ytbjojpcgigoenaa", sum := "64cb96b795cfb0803c10cceca8f412f43393ea5c5cc6a131a01f37d6e3e440a3", func := "matron/matronlaw2.CrcSeedBits", spec := "crcSeedBits", apart := false, narrowed := true }
def CrcSeedBitsUptoSaid : Prop := crcSeedBitsUptoRow.holds Try.pinned (OpenSpec.upto crcSeedBitsSpec)

end Rows
end Go.Proofs.Ytbjojpcgigoenaa
