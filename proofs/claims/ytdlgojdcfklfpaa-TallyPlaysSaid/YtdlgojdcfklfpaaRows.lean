/-
  No cell of these rows narrows 'for every input' (looked for: loops, veiled, ifaces, maps, wideKeys, modest, calm, conditions, laid).
  DERIVED. THE GIVEN ROWS OF THIS SEAT. 7 by the template 'for every input the law returns true; each argument reads behind the call as it read before'; 0 by the template 'total and deterministic' (their statements: YtdlgojdcfklfpaaTotals.lean).
  GIVEN WITH THE SEED: the statements are not yours to turn. If you find one false, say at which input.
  Laid BY PROGRAM, IN A SANDBOX (cutbox-rows.mjs): the forced cells as the released guide's own fill.sh prints them over the translation 49a40910b5e4cf7b… (all of the seat's roots in one cut). By AI agents, Wed Nov 11 2026. No macro, syntax, notation, axiom, sorry.
-/
import Derived.Test.YtdlgojdcfklfpaaChecked
import GoSem.Claim
import GoSem.ClaimJoined
import GoSem.ClaimMapViews
import Derived.JoinedTies
import Derived.KernelRfl
namespace Go.Proofs.Ytdlgojdcfklfpaa
/- THE CELL 'sum', in the pinned program and in every row, IS THE sha256 OF THE DUMP (.gsa) THAT YtdlgojdcfklfpaaProg.lean LOADS. Nothing in Lean hashes anything: it is a label: what it is worth is what the hold of that sum in a sandbox is worth. -/
noncomputable def Try.pinned : Pinned := { name := "ytdlgojdcfklfpaa", sum := "49a40910b5e4cf7b20176735cf84ef50a63ea381bde1a3b464fca75161520456", checked := Try.checked }
namespace Rows
def none {H : Type} : Left H := { results := [], args := [] }

/-- 'matronlaw7.TallyPlays': WHATEVER THE INPUT: true; the input reads as it did. -/
def tallyPlaysSpec : ChangeSpec := { name := "tallyPlays", fn := fun _ => fun
  | [d1, d2] => { results := [.lit (.bool true)], args := [d1, d2] }
  | _ => none }
def tallyPlaysRow : OpenClaim := { program := "ytdlgojdcfklfpaa", sum := "49a40910b5e4cf7b20176735cf84ef50a63ea381bde1a3b464fca75161520456", func := "matron/matronlaw7.TallyPlays", spec := "tallyPlays", apart := false }
def TallyPlaysSaid : Prop := tallyPlaysRow.holds Try.pinned (OpenSpec.ofChange tallyPlaysSpec)

/-- ITS FALSE NEIGHBOUR: 'it returns false'. Refute it at one input. -/
def tallyPlaysWrong : ChangeSpec := { name := "tallyPlays", fn := fun _ => fun
  | [d1, d2] => { results := [.lit (.bool false)], args := [d1, d2] }
  | _ => none }
def TallyPlaysWrongFalsely : Prop := tallyPlaysRow.holds Try.pinned (OpenSpec.ofChange tallyPlaysWrong)

/-- 'matronlaw7.TallyOne': WHATEVER THE INPUT: true; the input reads as it did. -/
def tallyOneSpec : ChangeSpec := { name := "tallyOne", fn := fun _ => fun
  | [d1, d2, d3] => { results := [.lit (.bool true)], args := [d1, d2, d3] }
  | _ => none }
def tallyOneRow : OpenClaim := { program := "ytdlgojdcfklfpaa", sum := "49a40910b5e4cf7b20176735cf84ef50a63ea381bde1a3b464fca75161520456", func := "matron/matronlaw7.TallyOne", spec := "tallyOne", apart := false }
def TallyOneSaid : Prop := tallyOneRow.holds Try.pinned (OpenSpec.ofChange tallyOneSpec)

/-- ITS FALSE NEIGHBOUR: 'it returns false'. Refute it at one input. -/
def tallyOneWrong : ChangeSpec := { name := "tallyOne", fn := fun _ => fun
  | [d1, d2, d3] => { results := [.lit (.bool false)], args := [d1, d2, d3] }
  | _ => none }
def TallyOneWrongFalsely : Prop := tallyOneRow.holds Try.pinned (OpenSpec.ofChange tallyOneWrong)

/-- 'matronlaw7.TallyClique': WHATEVER THE INPUT: true; the input reads as it did. -/
def tallyCliqueSpec : ChangeSpec := { name := "tallyClique", fn := fun _ => fun
  | [d1, d2] => { results := [.lit (.bool true)], args := [d1, d2] }
  | _ => none }
def tallyCliqueRow : OpenClaim := { program := "ytdlgojdcfklfpaa", sum := "49a40910b5e4cf7b20176735cf84ef50a63ea381bde1a3b464fca75161520456", func := "matron/matronlaw7.TallyClique", spec := "tallyClique", apart := false }
def TallyCliqueSaid : Prop := tallyCliqueRow.holds Try.pinned (OpenSpec.ofChange tallyCliqueSpec)

/-- ITS FALSE NEIGHBOUR: 'it returns false'. Refute it at one input. -/
def tallyCliqueWrong : ChangeSpec := { name := "tallyClique", fn := fun _ => fun
  | [d1, d2] => { results := [.lit (.bool false)], args := [d1, d2] }
  | _ => none }
def TallyCliqueWrongFalsely : Prop := tallyCliqueRow.holds Try.pinned (OpenSpec.ofChange tallyCliqueWrong)

/-- 'matronlaw7.TallyOdd': WHATEVER THE INPUT: true; the input reads as it did. -/
def tallyOddSpec : ChangeSpec := { name := "tallyOdd", fn := fun _ => fun
  | [d1, d2, d3] => { results := [.lit (.bool true)], args := [d1, d2, d3] }
  | _ => none }
def tallyOddRow : OpenClaim := { program := "ytdlgojdcfklfpaa", sum := "49a40910b5e4cf7b20176735cf84ef50a63ea381bde1a3b464fca75161520456", func := "matron/matronlaw7.TallyOdd", spec := "tallyOdd", apart := false }
def TallyOddSaid : Prop := tallyOddRow.holds Try.pinned (OpenSpec.ofChange tallyOddSpec)

/-- ITS FALSE NEIGHBOUR: 'it returns false'. Refute it at one input. -/
def tallyOddWrong : ChangeSpec := { name := "tallyOdd", fn := fun _ => fun
  | [d1, d2, d3] => { results := [.lit (.bool false)], args := [d1, d2, d3] }
  | _ => none }
def TallyOddWrongFalsely : Prop := tallyOddRow.holds Try.pinned (OpenSpec.ofChange tallyOddWrong)

/-- 'matronlaw7.TallyOfNothing': WHATEVER THE INPUT: true; the input reads as it did. -/
def tallyOfNothingSpec : ChangeSpec := { name := "tallyOfNothing", fn := fun _ => fun
  | [d] => { results := [.lit (.bool true)], args := [d] }
  | _ => none }
def tallyOfNothingRow : OpenClaim := { program := "ytdlgojdcfklfpaa", sum := "49a40910b5e4cf7b20176735cf84ef50a63ea381bde1a3b464fca75161520456", func := "matron/matronlaw7.TallyOfNothing", spec := "tallyOfNothing", apart := false }
def TallyOfNothingSaid : Prop := tallyOfNothingRow.holds Try.pinned (OpenSpec.ofChange tallyOfNothingSpec)

/-- ITS FALSE NEIGHBOUR: 'it returns false'. Refute it at one input. -/
def tallyOfNothingWrong : ChangeSpec := { name := "tallyOfNothing", fn := fun _ => fun
  | [d] => { results := [.lit (.bool false)], args := [d] }
  | _ => none }
def TallyOfNothingWrongFalsely : Prop := tallyOfNothingRow.holds Try.pinned (OpenSpec.ofChange tallyOfNothingWrong)

/-- 'matronlaw7.TallyCounts': WHATEVER THE INPUT: true; the input reads as it did. -/
def tallyCountsSpec : ChangeSpec := { name := "tallyCounts", fn := fun _ => fun
  | [d1, d2] => { results := [.lit (.bool true)], args := [d1, d2] }
  | _ => none }
def tallyCountsRow : OpenClaim := { program := "ytdlgojdcfklfpaa", sum := "49a40910b5e4cf7b20176735cf84ef50a63ea381bde1a3b464fca75161520456", func := "matron/matronlaw7.TallyCounts", spec := "tallyCounts", apart := false }
def TallyCountsSaid : Prop := tallyCountsRow.holds Try.pinned (OpenSpec.ofChange tallyCountsSpec)

/-- ITS FALSE NEIGHBOUR: 'it returns false'. Refute it at one input. -/
def tallyCountsWrong : ChangeSpec := { name := "tallyCounts", fn := fun _ => fun
  | [d1, d2] => { results := [.lit (.bool false)], args := [d1, d2] }
  | _ => none }
def TallyCountsWrongFalsely : Prop := tallyCountsRow.holds Try.pinned (OpenSpec.ofChange tallyCountsWrong)

/-- 'matronlaw7.TallyBack': WHATEVER THE INPUT: true; the input reads as it did. -/
def tallyBackSpec : ChangeSpec := { name := "tallyBack", fn := fun _ => fun
  | [d1, d2, d3] => { results := [.lit (.bool true)], args := [d1, d2, d3] }
  | _ => none }
def tallyBackRow : OpenClaim := { program := "ytdlgojdcfklfpaa", sum := "49a40910b5e4cf7b20176735cf84ef50a63ea381bde1a3b464fca75161520456", func := "matron/matronlaw7.TallyBack", spec := "tallyBack", apart := false }
def TallyBackSaid : Prop := tallyBackRow.holds Try.pinned (OpenSpec.ofChange tallyBackSpec)

/-- ITS FALSE NEIGHBOUR: 'it returns false'. Refute it at one input. -/
def tallyBackWrong : ChangeSpec := { name := "tallyBack", fn := fun _ => fun
  | [d1, d2, d3] => { results := [.lit (.bool false)], args := [d1, d2, d3] }
  | _ => none }
def TallyBackWrongFalsely : Prop := tallyBackRow.holds Try.pinned (OpenSpec.ofChange tallyBackWrong)

/- THE SECOND FORM. 'bulk': how many values and letters a reading holds, each counted each time it is reached (what is shared counts as often as it is met; a slice's spare places count too). A statement '..UptoSaid' is the law's where the arguments, and the package variables that the reading takes, are together of bulk at most 1048576: NARROWER than '..Said'. Prove '..Said' where nothing that the law and all that it calls make is longer than what came in: it says more and counts as full. Else prove '..UptoSaid'. A law counts once. -/
mutual
def uptoBulk {H : Type} : DataW H → Nat
  | .lit (.string bytes) => bytes.length + 1
  | .lit _ => 1
  | .nil => 1
  | .ptr d => uptoBulk d + 1
  | .slice elems spare => uptoBulkAll elems + uptoBulkAll spare + 1
  | .agg parts => uptoBulkAll parts + 1
  | .iface _ d => uptoBulk d + 1
  | .map entries => uptoBulkEntries entries + 1
  | .held _ => 1
def uptoBulkAll {H : Type} : List (DataW H) → Nat
  | [] => 0
  | d :: r => uptoBulk d + uptoBulkAll r
def uptoBulkEntries {H : Type} : List (Lit × DataW H) → Nat
  | [] => 0
  | x :: r => uptoBulkEntry x + uptoBulkEntries r
def uptoBulkEntry {H : Type} : Lit × DataW H → Nat
  | (.string bytes, d) => bytes.length + uptoBulk d + 1
  | (_, d) => uptoBulk d + 1
 end
def uptoSmall : (H : Type) → List (DataW H) → Bool := fun _ ds => decide (uptoBulkAll ds ≤ 1048576)
def OpenSpec.upto (s : _root_.Go.ChangeSpec) : _root_.Go.OpenSpec := { _root_.Go.OpenSpec.ofChange s with cond := some uptoSmall }

/-- 'matronlaw7.TallyPlays', WHERE WHAT IT READS IS OF BULK AT MOST 1048576: true; the input reads as it did. -/
def tallyPlaysUptoRow : OpenClaim := { program := "ytdlgojdcfklfpaa", sum := "49a40910b5e4cf7b20176735cf84ef50a63ea381bde1a3b464fca75161520456", func := "matron/matronlaw7.TallyPlays", spec := "tallyPlays", apart := false, narrowed := true }
def TallyPlaysUptoSaid : Prop := tallyPlaysUptoRow.holds Try.pinned (OpenSpec.upto tallyPlaysSpec)

/-- 'matronlaw7.TallyOne', WHERE WHAT IT READS IS OF BULK AT MOST 1048576: true; the input reads as it did. -/
def tallyOneUptoRow : OpenClaim := { program := "ytdlgojdcfklfpaa", sum := "49a40910b5e4cf7b20176735cf84ef50a63ea381bde1a3b464fca75161520456", func := "matron/matronlaw7.TallyOne", spec := "tallyOne", apart := false, narrowed := true }
def TallyOneUptoSaid : Prop := tallyOneUptoRow.holds Try.pinned (OpenSpec.upto tallyOneSpec)

/-- 'matronlaw7.TallyClique', WHERE WHAT IT READS IS OF BULK AT MOST 1048576: true; the input reads as it did. -/
def tallyCliqueUptoRow : OpenClaim := { program := "ytdlgojdcfklfpaa", sum := "49a40910b5e4cf7b20176735cf84ef50a63ea381bde1a3b464fca75161520456", func := "matron/matronlaw7.TallyClique", spec := "tallyClique", apart := false, narrowed := true }
def TallyCliqueUptoSaid : Prop := tallyCliqueUptoRow.holds Try.pinned (OpenSpec.upto tallyCliqueSpec)

/-- 'matronlaw7.TallyOdd', WHERE WHAT IT READS IS OF BULK AT MOST 1048576: true; the input reads as it did. -/
def tallyOddUptoRow : OpenClaim := { program := "ytdlgojdcfklfpaa", sum := "49a40910b5e4cf7b20176735cf84ef50a63ea381bde1a3b464fca75161520456", func := "matron/matronlaw7.TallyOdd", spec := "tallyOdd", apart := false, narrowed := true }
def TallyOddUptoSaid : Prop := tallyOddUptoRow.holds Try.pinned (OpenSpec.upto tallyOddSpec)

/-- 'matronlaw7.TallyOfNothing', WHERE WHAT IT READS IS OF BULK AT MOST 1048576: true; the input reads as it did. -/
def tallyOfNothingUptoRow : OpenClaim := { program := "ytdlgojdcfklfpaa", sum := "49a40910b5e4cf7b20176735cf84ef50a63ea381bde1a3b464fca75161520456", func := "matron/matronlaw7.TallyOfNothing", spec := "tallyOfNothing", apart := false, narrowed := true }
def TallyOfNothingUptoSaid : Prop := tallyOfNothingUptoRow.holds Try.pinned (OpenSpec.upto tallyOfNothingSpec)

/-- 'matronlaw7.TallyCounts', WHERE WHAT IT READS IS OF BULK AT MOST 1048576: true; the input reads as it did. -/
def tallyCountsUptoRow : OpenClaim := { program := "ytdlgojdcfklfpaa", sum := "49a40910b5e4cf7b20176735cf84ef50a63ea381bde1a3b464fca75161520456", func := "matron/matronlaw7.TallyCounts", spec := "tallyCounts", apart := false, narrowed := true }
def TallyCountsUptoSaid : Prop := tallyCountsUptoRow.holds Try.pinned (OpenSpec.upto tallyCountsSpec)

/-- 'matronlaw7.TallyBack', WHERE WHAT IT READS IS OF BULK AT MOST 1048576: true; the input reads as it did. -/
def tallyBackUptoRow : OpenClaim := { program := "ytdlgojdcfklfpaa", sum := "49a40910b5e4cf7b20176735cf84ef50a63ea381bde1a3b464fca75161520456", func := "matron/matronlaw7.TallyBack", spec := "tallyBack", apart := false, narrowed := true }
def TallyBackUptoSaid : Prop := tallyBackUptoRow.holds Try.pinned (OpenSpec.upto tallyBackSpec)

end Rows
end Go.Proofs.Ytdlgojdcfklfpaa
