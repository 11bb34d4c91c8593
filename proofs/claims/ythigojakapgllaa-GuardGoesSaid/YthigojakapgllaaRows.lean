/-
  No cell of these rows narrows 'for every input' (looked for: loops, veiled, ifaces, maps, wideKeys, modest, calm, conditions, laid).
  DERIVED. THE GIVEN ROWS OF THIS SEAT. 8 by the template 'for every input the law returns true; each argument reads behind the call as it read before'; 0 by the template 'total and deterministic' (their statements: YthigojakapgllaaTotals.lean).
  GIVEN WITH THE SEED: the statements are not yours to turn. If you find one false, say at which input.
  Laid BY PROGRAM, IN A SANDBOX (cutbox-rows.mjs): the forced cells as the released guide's own fill.sh prints them over the translation 7135d095da1eb42b… (all of the seat's roots in one cut). By AI agents, Wed Nov 11 2026. No macro, syntax, notation, axiom, sorry.
-/
import Derived.Test.YthigojakapgllaaChecked
import GoSem.Claim
import GoSem.ClaimJoined
import GoSem.ClaimMapViews
import Derived.JoinedTies
import Derived.KernelRfl
namespace Go.Proofs.Ythigojakapgllaa
/- THE CELL 'sum', in the pinned program and in every row, IS THE sha256 OF THE DUMP (.gsa) THAT YthigojakapgllaaProg.lean LOADS. Nothing in Lean hashes anything: it is a label: what it is worth is what the hold of that sum in a sandbox is worth. -/
noncomputable def Try.pinned : Pinned := { name := "ythigojakapgllaa", sum := "7135d095da1eb42b6849a73ddba3e3279b6063fd8f377cd5b3dd29bc139a5e9e", checked := Try.checked }
namespace Rows
def none {H : Type} : Left H := { results := [], args := [] }

/-- 'matronlaw6.GuardOwn': WHATEVER THE INPUT: true; the input reads as it did. -/
def guardOwnSpec : ChangeSpec := { name := "guardOwn", fn := fun _ => fun
  | [d1, d2, d3, d4] => { results := [.lit (.bool true)], args := [d1, d2, d3, d4] }
  | _ => none }
def guardOwnRow : OpenClaim := { program := "ythigojakapgllaa", sum := "7135d095da1eb42b6849a73ddba3e3279b6063fd8f377cd5b3dd29bc139a5e9e", func := "matron/matronlaw6.GuardOwn", spec := "guardOwn", unfollowed := true, recurses := true, apart := false }
def GuardOwnSaid : Prop := guardOwnRow.holds Try.pinned (OpenSpec.ofChange guardOwnSpec)

/-- ITS FALSE NEIGHBOUR: 'it returns false'. Refute it at one input. -/
def guardOwnWrong : ChangeSpec := { name := "guardOwn", fn := fun _ => fun
  | [d1, d2, d3, d4] => { results := [.lit (.bool false)], args := [d1, d2, d3, d4] }
  | _ => none }
def GuardOwnWrongFalsely : Prop := guardOwnRow.holds Try.pinned (OpenSpec.ofChange guardOwnWrong)

/-- 'matronlaw6.GuardWindow': WHATEVER THE INPUT: true; the input reads as it did. -/
def guardWindowSpec : ChangeSpec := { name := "guardWindow", fn := fun _ => fun
  | [d1, d2, d3, d4] => { results := [.lit (.bool true)], args := [d1, d2, d3, d4] }
  | _ => none }
def guardWindowRow : OpenClaim := { program := "ythigojakapgllaa", sum := "7135d095da1eb42b6849a73ddba3e3279b6063fd8f377cd5b3dd29bc139a5e9e", func := "matron/matronlaw6.GuardWindow", spec := "guardWindow", unfollowed := true, recurses := true, apart := false }
def GuardWindowSaid : Prop := guardWindowRow.holds Try.pinned (OpenSpec.ofChange guardWindowSpec)

/-- ITS FALSE NEIGHBOUR: 'it returns false'. Refute it at one input. -/
def guardWindowWrong : ChangeSpec := { name := "guardWindow", fn := fun _ => fun
  | [d1, d2, d3, d4] => { results := [.lit (.bool false)], args := [d1, d2, d3, d4] }
  | _ => none }
def GuardWindowWrongFalsely : Prop := guardWindowRow.holds Try.pinned (OpenSpec.ofChange guardWindowWrong)

/-- 'matronlaw6.GuardSilence': WHATEVER THE INPUT: true; the input reads as it did. -/
def guardSilenceSpec : ChangeSpec := { name := "guardSilence", fn := fun _ => fun
  | [d1, d2] => { results := [.lit (.bool true)], args := [d1, d2] }
  | _ => none }
def guardSilenceRow : OpenClaim := { program := "ythigojakapgllaa", sum := "7135d095da1eb42b6849a73ddba3e3279b6063fd8f377cd5b3dd29bc139a5e9e", func := "matron/matronlaw6.GuardSilence", spec := "guardSilence", unfollowed := true, recurses := true, apart := false }
def GuardSilenceSaid : Prop := guardSilenceRow.holds Try.pinned (OpenSpec.ofChange guardSilenceSpec)

/-- ITS FALSE NEIGHBOUR: 'it returns false'. Refute it at one input. -/
def guardSilenceWrong : ChangeSpec := { name := "guardSilence", fn := fun _ => fun
  | [d1, d2] => { results := [.lit (.bool false)], args := [d1, d2] }
  | _ => none }
def GuardSilenceWrongFalsely : Prop := guardSilenceRow.holds Try.pinned (OpenSpec.ofChange guardSilenceWrong)

/-- 'matronlaw6.GuardLearns': WHATEVER THE INPUT: true; the input reads as it did. -/
def guardLearnsSpec : ChangeSpec := { name := "guardLearns", fn := fun _ => fun
  | [d1, d2, d3, d4] => { results := [.lit (.bool true)], args := [d1, d2, d3, d4] }
  | _ => none }
def guardLearnsRow : OpenClaim := { program := "ythigojakapgllaa", sum := "7135d095da1eb42b6849a73ddba3e3279b6063fd8f377cd5b3dd29bc139a5e9e", func := "matron/matronlaw6.GuardLearns", spec := "guardLearns", unfollowed := true, recurses := true, apart := false }
def GuardLearnsSaid : Prop := guardLearnsRow.holds Try.pinned (OpenSpec.ofChange guardLearnsSpec)

/-- ITS FALSE NEIGHBOUR: 'it returns false'. Refute it at one input. -/
def guardLearnsWrong : ChangeSpec := { name := "guardLearns", fn := fun _ => fun
  | [d1, d2, d3, d4] => { results := [.lit (.bool false)], args := [d1, d2, d3, d4] }
  | _ => none }
def GuardLearnsWrongFalsely : Prop := guardLearnsRow.holds Try.pinned (OpenSpec.ofChange guardLearnsWrong)

/-- 'matronlaw6.GuardOfNothing': WHATEVER THE INPUT: true; the input reads as it did. -/
def guardOfNothingSpec : ChangeSpec := { name := "guardOfNothing", fn := fun _ => fun
  | [d1, d2] => { results := [.lit (.bool true)], args := [d1, d2] }
  | _ => none }
def guardOfNothingRow : OpenClaim := { program := "ythigojakapgllaa", sum := "7135d095da1eb42b6849a73ddba3e3279b6063fd8f377cd5b3dd29bc139a5e9e", func := "matron/matronlaw6.GuardOfNothing", spec := "guardOfNothing", unfollowed := true, recurses := true, apart := false }
def GuardOfNothingSaid : Prop := guardOfNothingRow.holds Try.pinned (OpenSpec.ofChange guardOfNothingSpec)

/-- ITS FALSE NEIGHBOUR: 'it returns false'. Refute it at one input. -/
def guardOfNothingWrong : ChangeSpec := { name := "guardOfNothing", fn := fun _ => fun
  | [d1, d2] => { results := [.lit (.bool false)], args := [d1, d2] }
  | _ => none }
def GuardOfNothingWrongFalsely : Prop := guardOfNothingRow.holds Try.pinned (OpenSpec.ofChange guardOfNothingWrong)

/-- 'matronlaw6.GuardGoes': WHATEVER THE INPUT: true; the input reads as it did. -/
def guardGoesSpec : ChangeSpec := { name := "guardGoes", fn := fun _ => fun
  | [d1, d2] => { results := [.lit (.bool true)], args := [d1, d2] }
  | _ => none }
def guardGoesRow : OpenClaim := { program := "ythigojakapgllaa", sum := "7135d095da1eb42b6849a73ddba3e3279b6063fd8f377cd5b3dd29bc139a5e9e", func := "matron/matronlaw6.GuardGoes", spec := "guardGoes", unfollowed := true, recurses := true, apart := false }
def GuardGoesSaid : Prop := guardGoesRow.holds Try.pinned (OpenSpec.ofChange guardGoesSpec)

/-- ITS FALSE NEIGHBOUR: 'it returns false'. Refute it at one input. -/
def guardGoesWrong : ChangeSpec := { name := "guardGoes", fn := fun _ => fun
  | [d1, d2] => { results := [.lit (.bool false)], args := [d1, d2] }
  | _ => none }
def GuardGoesWrongFalsely : Prop := guardGoesRow.holds Try.pinned (OpenSpec.ofChange guardGoesWrong)

/-- 'matronlaw6.GuardTurns': WHATEVER THE INPUT: true; the input reads as it did. -/
def guardTurnsSpec : ChangeSpec := { name := "guardTurns", fn := fun _ => fun
  | [d1, d2, d3, d4] => { results := [.lit (.bool true)], args := [d1, d2, d3, d4] }
  | _ => none }
def guardTurnsRow : OpenClaim := { program := "ythigojakapgllaa", sum := "7135d095da1eb42b6849a73ddba3e3279b6063fd8f377cd5b3dd29bc139a5e9e", func := "matron/matronlaw6.GuardTurns", spec := "guardTurns", unfollowed := true, recurses := true, apart := false }
def GuardTurnsSaid : Prop := guardTurnsRow.holds Try.pinned (OpenSpec.ofChange guardTurnsSpec)

/-- ITS FALSE NEIGHBOUR: 'it returns false'. Refute it at one input. -/
def guardTurnsWrong : ChangeSpec := { name := "guardTurns", fn := fun _ => fun
  | [d1, d2, d3, d4] => { results := [.lit (.bool false)], args := [d1, d2, d3, d4] }
  | _ => none }
def GuardTurnsWrongFalsely : Prop := guardTurnsRow.holds Try.pinned (OpenSpec.ofChange guardTurnsWrong)

/-- 'matronlaw6.GuardNew': WHATEVER THE INPUT: true; the input reads as it did. -/
def guardNewSpec : ChangeSpec := { name := "guardNew", fn := fun _ => fun
  | [d1, d2] => { results := [.lit (.bool true)], args := [d1, d2] }
  | _ => none }
def guardNewRow : OpenClaim := { program := "ythigojakapgllaa", sum := "7135d095da1eb42b6849a73ddba3e3279b6063fd8f377cd5b3dd29bc139a5e9e", func := "matron/matronlaw6.GuardNew", spec := "guardNew", unfollowed := true, recurses := true, apart := false }
def GuardNewSaid : Prop := guardNewRow.holds Try.pinned (OpenSpec.ofChange guardNewSpec)

/-- ITS FALSE NEIGHBOUR: 'it returns false'. Refute it at one input. -/
def guardNewWrong : ChangeSpec := { name := "guardNew", fn := fun _ => fun
  | [d1, d2] => { results := [.lit (.bool false)], args := [d1, d2] }
  | _ => none }
def GuardNewWrongFalsely : Prop := guardNewRow.holds Try.pinned (OpenSpec.ofChange guardNewWrong)

/- THE SECOND FORM. 'bulk': how many values and letters a reading holds, each counted each time it is reached (what is shared counts as often as it is met; a slice's spare places count too). A statement '..UptoSaid' is the law's where the arguments, and the package variables that the reading takes, are together of bulk at most 1048576: NARROWER than '..Said'. Prove '..Said' where nothing that the law and all that it calls make is longer than what came in: it says more and counts as full. Else prove '..UptoSaid'. A law counts once. -/
mutual
def uptoBulk {H : Type} : DataW H → Nat
  | .lit (.string bytes) => bytes.length + 1
  | .lit _ => 1
  | .nil => 1
  | .ptr d => uptoBulk d + 1
  | .slice elems spare => uptoBulkAll elems + uptoBulkAll spare + 1
  | .agg parts => uptoBulkAll parts + 1
  | .iface _ d => uptoBulk d + 1
  | .map entries => uptoBulkEntries entries + 1
  | .held _ => 1
def uptoBulkAll {H : Type} : List (DataW H) → Nat
  | [] => 0
  | d :: r => uptoBulk d + uptoBulkAll r
def uptoBulkEntries {H : Type} : List (Lit × DataW H) → Nat
  | [] => 0
  | x :: r => uptoBulkEntry x + uptoBulkEntries r
def uptoBulkEntry {H : Type} : Lit × DataW H → Nat
  | (.string bytes, d) => bytes.length + uptoBulk d + 1
  | (_, d) => uptoBulk d + 1
 end
def uptoSmall : (H : Type) → List (DataW H) → Bool := fun _ ds => decide (uptoBulkAll ds ≤ 1048576)
def OpenSpec.upto (s : _root_.Go.ChangeSpec) : _root_.Go.OpenSpec := { _root_.Go.OpenSpec.ofChange s with cond := some uptoSmall }

/-- 'matronlaw6.GuardOwn', WHERE WHAT IT READS IS OF BULK AT MOST 1048576: true; the input reads as it did. -/
def guardOwnUptoRow : OpenClaim := { program := "ythigojakapgllaa", sum := "7135d095da1eb42b6849a73ddba3e3279b6063fd8f377cd5b3dd29bc139a5e9e", func := "matron/matronlaw6.GuardOwn", spec := "guardOwn", unfollowed := true, recurses := true, apart := false, narrowed := true }
def GuardOwnUptoSaid : Prop := guardOwnUptoRow.holds Try.pinned (OpenSpec.upto guardOwnSpec)

/-- 'matronlaw6.GuardWindow', WHERE WHAT IT READS IS OF BULK AT MOST 1048576: true; the input reads as it did. -/
def guardWindowUptoRow : OpenClaim := { program := "ythigojakapgllaa", sum := "7135d095da1eb42b6849a73ddba3e3279b6063fd8f377cd5b3dd29bc139a5e9e", func := "matron/matronlaw6.GuardWindow", spec := "guardWindow", unfollowed := true, recurses := true, apart := false, narrowed := true }
def GuardWindowUptoSaid : Prop := guardWindowUptoRow.holds Try.pinned (OpenSpec.upto guardWindowSpec)

/-- 'matronlaw6.GuardSilence', WHERE WHAT IT READS IS OF BULK AT MOST 1048576: true; the input reads as it did. -/
def guardSilenceUptoRow : OpenClaim := { program := "ythigojakapgllaa", sum := "7135d095da1eb42b6849a73ddba3e3279b6063fd8f377cd5b3dd29bc139a5e9e", func := "matron/matronlaw6.GuardSilence", spec := "guardSilence", unfollowed := true, recurses := true, apart := false, narrowed := true }
def GuardSilenceUptoSaid : Prop := guardSilenceUptoRow.holds Try.pinned (OpenSpec.upto guardSilenceSpec)

/-- 'matronlaw6.GuardLearns', WHERE WHAT IT READS IS OF BULK AT MOST 1048576: true; the input reads as it did. -/
def guardLearnsUptoRow : OpenClaim := { program := "ythigojakapgllaa", sum := "7135d095da1eb42b6849a73ddba3e3279b6063fd8f377cd5b3dd29bc139a5e9e", func := "matron/matronlaw6.GuardLearns", spec := "guardLearns", unfollowed := true, recurses := true, apart := false, narrowed := true }
def GuardLearnsUptoSaid : Prop := guardLearnsUptoRow.holds Try.pinned (OpenSpec.upto guardLearnsSpec)

/-- 'matronlaw6.GuardOfNothing', WHERE WHAT IT READS IS OF BULK AT MOST 1048576: true; the input reads as it did. -/
def guardOfNothingUptoRow : OpenClaim := { program := "ythigojakapgllaa", sum := "7135d095da1eb42b6849a73ddba3e3279b6063fd8f377cd5b3dd29bc139a5e9e", func := "matron/matronlaw6.GuardOfNothing", spec := "guardOfNothing", unfollowed := true, recurses := true, apart := false, narrowed := true }
def GuardOfNothingUptoSaid : Prop := guardOfNothingUptoRow.holds Try.pinned (OpenSpec.upto guardOfNothingSpec)

/-- 'matronlaw6.GuardGoes', WHERE WHAT IT READS IS OF BULK AT MOST 1048576: true; the input reads as it did. -/
def guardGoesUptoRow : OpenClaim := { program := "ythigojakapgllaa", sum := "7135d095da1eb42b6849a73ddba3e3279b6063fd8f377cd5b3dd29bc139a5e9e", func := "matron/matronlaw6.GuardGoes", spec := "guardGoes", unfollowed := true, recurses := true, apart := false, narrowed := true }
def GuardGoesUptoSaid : Prop := guardGoesUptoRow.holds Try.pinned (OpenSpec.upto guardGoesSpec)

/-- 'matronlaw6.GuardTurns', WHERE WHAT IT READS IS OF BULK AT MOST 1048576: true; the input reads as it did. -/
def guardTurnsUptoRow : OpenClaim := { program := "ythigojakapgllaa", sum := "7135d095da1eb42b6849a73ddba3e3279b6063fd8f377cd5b3dd29bc139a5e9e", func := "matron/matronlaw6.GuardTurns", spec := "guardTurns", unfollowed := true, recurses := true, apart := false, narrowed := true }
def GuardTurnsUptoSaid : Prop := guardTurnsUptoRow.holds Try.pinned (OpenSpec.upto guardTurnsSpec)

/-- 'matronlaw6.GuardNew', WHERE WHAT IT READS IS OF BULK AT MOST 1048576: true; the input reads as it did. -/
def guardNewUptoRow : OpenClaim := { program := "ythigojakapgllaa", sum := "7135d095da1eb42b6849a73ddba3e3279b6063fd8f377cd5b3dd29bc139a5e9e", func := "matron/matronlaw6.GuardNew", spec := "guardNew", unfollowed := true, recurses := true, apart := false, narrowed := true }
def GuardNewUptoSaid : Prop := guardNewUptoRow.holds Try.pinned (OpenSpec.upto guardNewSpec)

end Rows
end Go.Proofs.Ythigojakapgllaa
