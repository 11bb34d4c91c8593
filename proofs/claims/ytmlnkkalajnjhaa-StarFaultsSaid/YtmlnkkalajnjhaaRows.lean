/-
  No cell of these rows narrows 'for every input' (looked for: loops, veiled, ifaces, maps, wideKeys, modest, calm, conditions, laid).
  DERIVED. THE GIVEN ROWS OF THIS SEAT. 11 by the template 'for every input the law returns true; each argument reads behind the call as it read before'; 0 by the template 'total and deterministic' (their statements: YtmlnkkalajnjhaaTotals.lean).
  GIVEN WITH THE SEED: the statements are not yours to turn. If you find one false, say at which input.
  Laid BY PROGRAM, IN A SANDBOX (cutbox-rows.mjs): the forced cells as the released guide's own fill.sh prints them over the translation e7b09ebd29ae4865… (all of the seat's roots in one cut). By AI agents, Wed Nov 11 2026. No macro, syntax, notation, axiom, sorry.
-/
import Derived.Test.YtmlnkkalajnjhaaChecked
import GoSem.Claim
import GoSem.ClaimJoined
import GoSem.ClaimMapViews
import Derived.JoinedTies
import Derived.KernelRfl
namespace Go.Proofs.Ytmlnkkalajnjhaa
/- THE CELL 'sum', in the pinned program and in every row, IS THE sha256 OF THE DUMP (.gsa) THAT YtmlnkkalajnjhaaProg.lean LOADS. Nothing in Lean hashes anything: it is a label: what it is worth is what the hold of that sum in a sandbox is worth. -/
noncomputable def Try.pinned : Pinned := { name := "ytmlnkkalajnjhaa", sum := "e7b09ebd29ae48651f006e5a324fd689b0e0fc3c9da47ce31f149727ae93e938", checked := Try.checked }
namespace Rows
def none {H : Type} : Left H := { results := [], args := [] }

/-- 'matronlaw11.StarBabble': WHATEVER THE INPUT: true; the input reads as it did. -/
def starBabbleSpec : ChangeSpec := { name := "starBabble", fn := fun _ => fun
  | [d1, d2, d3, d4] => { results := [.lit (.bool true)], args := [d1, d2, d3, d4] }
  | _ => none }
def starBabbleRow : OpenClaim := { program := "ytmlnkkalajnjhaa", sum := "e7b09ebd29ae48651f006e5a324fd689b0e0fc3c9da47ce31f149727ae93e938", func := "matron/matronlaw11.StarBabble", spec := "starBabble", unfollowed := true, recurses := true, apart := false }
def StarBabbleSaid : Prop := starBabbleRow.holds Try.pinned (OpenSpec.ofChange starBabbleSpec)

/-- ITS FALSE NEIGHBOUR: 'it returns false'. Refute it at one input. -/
def starBabbleWrong : ChangeSpec := { name := "starBabble", fn := fun _ => fun
  | [d1, d2, d3, d4] => { results := [.lit (.bool false)], args := [d1, d2, d3, d4] }
  | _ => none }
def StarBabbleWrongFalsely : Prop := starBabbleRow.holds Try.pinned (OpenSpec.ofChange starBabbleWrong)

/-- 'matronlaw11.StarQuiet': WHATEVER THE INPUT: true; the input reads as it did. -/
def starQuietSpec : ChangeSpec := { name := "starQuiet", fn := fun _ => fun
  | [d1, d2, d3] => { results := [.lit (.bool true)], args := [d1, d2, d3] }
  | _ => none }
def starQuietRow : OpenClaim := { program := "ytmlnkkalajnjhaa", sum := "e7b09ebd29ae48651f006e5a324fd689b0e0fc3c9da47ce31f149727ae93e938", func := "matron/matronlaw11.StarQuiet", spec := "starQuiet", unfollowed := true, recurses := true, apart := false }
def StarQuietSaid : Prop := starQuietRow.holds Try.pinned (OpenSpec.ofChange starQuietSpec)

/-- ITS FALSE NEIGHBOUR: 'it returns false'. Refute it at one input. -/
def starQuietWrong : ChangeSpec := { name := "starQuiet", fn := fun _ => fun
  | [d1, d2, d3] => { results := [.lit (.bool false)], args := [d1, d2, d3] }
  | _ => none }
def StarQuietWrongFalsely : Prop := starQuietRow.holds Try.pinned (OpenSpec.ofChange starQuietWrong)

/-- 'matronlaw11.StarLate': WHATEVER THE INPUT: true; the input reads as it did. -/
def starLateSpec : ChangeSpec := { name := "starLate", fn := fun _ => fun
  | [d1, d2, d3] => { results := [.lit (.bool true)], args := [d1, d2, d3] }
  | _ => none }
def starLateRow : OpenClaim := { program := "ytmlnkkalajnjhaa", sum := "e7b09ebd29ae48651f006e5a324fd689b0e0fc3c9da47ce31f149727ae93e938", func := "matron/matronlaw11.StarLate", spec := "starLate", unfollowed := true, recurses := true, apart := false }
def StarLateSaid : Prop := starLateRow.holds Try.pinned (OpenSpec.ofChange starLateSpec)

/-- ITS FALSE NEIGHBOUR: 'it returns false'. Refute it at one input. -/
def starLateWrong : ChangeSpec := { name := "starLate", fn := fun _ => fun
  | [d1, d2, d3] => { results := [.lit (.bool false)], args := [d1, d2, d3] }
  | _ => none }
def StarLateWrongFalsely : Prop := starLateRow.holds Try.pinned (OpenSpec.ofChange starLateWrong)

/-- 'matronlaw11.StarDeaf': WHATEVER THE INPUT: true; the input reads as it did. -/
def starDeafSpec : ChangeSpec := { name := "starDeaf", fn := fun _ => fun
  | [d1, d2, d3] => { results := [.lit (.bool true)], args := [d1, d2, d3] }
  | _ => none }
def starDeafRow : OpenClaim := { program := "ytmlnkkalajnjhaa", sum := "e7b09ebd29ae48651f006e5a324fd689b0e0fc3c9da47ce31f149727ae93e938", func := "matron/matronlaw11.StarDeaf", spec := "starDeaf", unfollowed := true, recurses := true, apart := false }
def StarDeafSaid : Prop := starDeafRow.holds Try.pinned (OpenSpec.ofChange starDeafSpec)

/-- ITS FALSE NEIGHBOUR: 'it returns false'. Refute it at one input. -/
def starDeafWrong : ChangeSpec := { name := "starDeaf", fn := fun _ => fun
  | [d1, d2, d3] => { results := [.lit (.bool false)], args := [d1, d2, d3] }
  | _ => none }
def StarDeafWrongFalsely : Prop := starDeafRow.holds Try.pinned (OpenSpec.ofChange starDeafWrong)

/-- 'matronlaw11.StarFaults': WHATEVER THE INPUT: true; the input reads as it did. -/
def starFaultsSpec : ChangeSpec := { name := "starFaults", fn := fun _ => fun
  | [d1, d2] => { results := [.lit (.bool true)], args := [d1, d2] }
  | _ => none }
def starFaultsRow : OpenClaim := { program := "ytmlnkkalajnjhaa", sum := "e7b09ebd29ae48651f006e5a324fd689b0e0fc3c9da47ce31f149727ae93e938", func := "matron/matronlaw11.StarFaults", spec := "starFaults", unfollowed := true, recurses := true, apart := false }
def StarFaultsSaid : Prop := starFaultsRow.holds Try.pinned (OpenSpec.ofChange starFaultsSpec)

/-- ITS FALSE NEIGHBOUR: 'it returns false'. Refute it at one input. -/
def starFaultsWrong : ChangeSpec := { name := "starFaults", fn := fun _ => fun
  | [d1, d2] => { results := [.lit (.bool false)], args := [d1, d2] }
  | _ => none }
def StarFaultsWrongFalsely : Prop := starFaultsRow.holds Try.pinned (OpenSpec.ofChange starFaultsWrong)

/-- 'matronlaw11.StarOfNothing': WHATEVER THE INPUT: true; the input reads as it did. -/
def starOfNothingSpec : ChangeSpec := { name := "starOfNothing", fn := fun _ => fun
  | [d] => { results := [.lit (.bool true)], args := [d] }
  | _ => none }
def starOfNothingRow : OpenClaim := { program := "ytmlnkkalajnjhaa", sum := "e7b09ebd29ae48651f006e5a324fd689b0e0fc3c9da47ce31f149727ae93e938", func := "matron/matronlaw11.StarOfNothing", spec := "starOfNothing", unfollowed := true, recurses := true, apart := false }
def StarOfNothingSaid : Prop := starOfNothingRow.holds Try.pinned (OpenSpec.ofChange starOfNothingSpec)

/-- ITS FALSE NEIGHBOUR: 'it returns false'. Refute it at one input. -/
def starOfNothingWrong : ChangeSpec := { name := "starOfNothing", fn := fun _ => fun
  | [d] => { results := [.lit (.bool false)], args := [d] }
  | _ => none }
def StarOfNothingWrongFalsely : Prop := starOfNothingRow.holds Try.pinned (OpenSpec.ofChange starOfNothingWrong)

/-- 'matronlaw11.StarGarble': WHATEVER THE INPUT: true; the input reads as it did. -/
def starGarbleSpec : ChangeSpec := { name := "starGarble", fn := fun _ => fun
  | [d1, d2, d3] => { results := [.lit (.bool true)], args := [d1, d2, d3] }
  | _ => none }
def starGarbleRow : OpenClaim := { program := "ytmlnkkalajnjhaa", sum := "e7b09ebd29ae48651f006e5a324fd689b0e0fc3c9da47ce31f149727ae93e938", func := "matron/matronlaw11.StarGarble", spec := "starGarble", unfollowed := true, recurses := true, apart := false }
def StarGarbleSaid : Prop := starGarbleRow.holds Try.pinned (OpenSpec.ofChange starGarbleSpec)

/-- ITS FALSE NEIGHBOUR: 'it returns false'. Refute it at one input. -/
def starGarbleWrong : ChangeSpec := { name := "starGarble", fn := fun _ => fun
  | [d1, d2, d3] => { results := [.lit (.bool false)], args := [d1, d2, d3] }
  | _ => none }
def StarGarbleWrongFalsely : Prop := starGarbleRow.holds Try.pinned (OpenSpec.ofChange starGarbleWrong)

/-- 'matronlaw11.StarBegins': WHATEVER THE INPUT: true; the input reads as it did. -/
def starBeginsSpec : ChangeSpec := { name := "starBegins", fn := fun _ => fun
  | [d1, d2] => { results := [.lit (.bool true)], args := [d1, d2] }
  | _ => none }
def starBeginsRow : OpenClaim := { program := "ytmlnkkalajnjhaa", sum := "e7b09ebd29ae48651f006e5a324fd689b0e0fc3c9da47ce31f149727ae93e938", func := "matron/matronlaw11.StarBegins", spec := "starBegins", unfollowed := true, recurses := true, apart := false }
def StarBeginsSaid : Prop := starBeginsRow.holds Try.pinned (OpenSpec.ofChange starBeginsSpec)

/-- ITS FALSE NEIGHBOUR: 'it returns false'. Refute it at one input. -/
def starBeginsWrong : ChangeSpec := { name := "starBegins", fn := fun _ => fun
  | [d1, d2] => { results := [.lit (.bool false)], args := [d1, d2] }
  | _ => none }
def StarBeginsWrongFalsely : Prop := starBeginsRow.holds Try.pinned (OpenSpec.ofChange starBeginsWrong)

/-- 'matronlaw11.StarBoth': WHATEVER THE INPUT: true; the input reads as it did. -/
def starBothSpec : ChangeSpec := { name := "starBoth", fn := fun _ => fun
  | [d1, d2] => { results := [.lit (.bool true)], args := [d1, d2] }
  | _ => none }
def starBothRow : OpenClaim := { program := "ytmlnkkalajnjhaa", sum := "e7b09ebd29ae48651f006e5a324fd689b0e0fc3c9da47ce31f149727ae93e938", func := "matron/matronlaw11.StarBoth", spec := "starBoth", unfollowed := true, recurses := true, apart := false }
def StarBothSaid : Prop := starBothRow.holds Try.pinned (OpenSpec.ofChange starBothSpec)

/-- ITS FALSE NEIGHBOUR: 'it returns false'. Refute it at one input. -/
def starBothWrong : ChangeSpec := { name := "starBoth", fn := fun _ => fun
  | [d1, d2] => { results := [.lit (.bool false)], args := [d1, d2] }
  | _ => none }
def StarBothWrongFalsely : Prop := starBothRow.holds Try.pinned (OpenSpec.ofChange starBothWrong)

/-- 'matronlaw11.StarOmit': WHATEVER THE INPUT: true; the input reads as it did. -/
def starOmitSpec : ChangeSpec := { name := "starOmit", fn := fun _ => fun
  | [d1, d2, d3] => { results := [.lit (.bool true)], args := [d1, d2, d3] }
  | _ => none }
def starOmitRow : OpenClaim := { program := "ytmlnkkalajnjhaa", sum := "e7b09ebd29ae48651f006e5a324fd689b0e0fc3c9da47ce31f149727ae93e938", func := "matron/matronlaw11.StarOmit", spec := "starOmit", unfollowed := true, recurses := true, apart := false }
def StarOmitSaid : Prop := starOmitRow.holds Try.pinned (OpenSpec.ofChange starOmitSpec)

/-- ITS FALSE NEIGHBOUR: 'it returns false'. Refute it at one input. -/
def starOmitWrong : ChangeSpec := { name := "starOmit", fn := fun _ => fun
  | [d1, d2, d3] => { results := [.lit (.bool false)], args := [d1, d2, d3] }
  | _ => none }
def StarOmitWrongFalsely : Prop := starOmitRow.holds Try.pinned (OpenSpec.ofChange starOmitWrong)

/-- 'matronlaw11.StarOwn': WHATEVER THE INPUT: true; the input reads as it did. -/
def starOwnSpec : ChangeSpec := { name := "starOwn", fn := fun _ => fun
  | [d1, d2, d3] => { results := [.lit (.bool true)], args := [d1, d2, d3] }
  | _ => none }
def starOwnRow : OpenClaim := { program := "ytmlnkkalajnjhaa", sum := "e7b09ebd29ae48651f006e5a324fd689b0e0fc3c9da47ce31f149727ae93e938", func := "matron/matronlaw11.StarOwn", spec := "starOwn", unfollowed := true, recurses := true, apart := false }
def StarOwnSaid : Prop := starOwnRow.holds Try.pinned (OpenSpec.ofChange starOwnSpec)

/-- ITS FALSE NEIGHBOUR: 'it returns false'. Refute it at one input. -/
def starOwnWrong : ChangeSpec := { name := "starOwn", fn := fun _ => fun
  | [d1, d2, d3] => { results := [.lit (.bool false)], args := [d1, d2, d3] }
  | _ => none }
def StarOwnWrongFalsely : Prop := starOwnRow.holds Try.pinned (OpenSpec.ofChange starOwnWrong)

/- THE SECOND FORM. 'bulk': how many values and letters a reading holds, each counted each time it is reached (what is shared counts as often as it is met; a slice's spare places count too). A statement '..UptoSaid' is the law's where the arguments, and the package variables that the reading takes, are together of bulk at most 1048576: NARROWER than '..Said'. Prove '..Said' where nothing that the law and all that it calls make is longer than what came in: it says more and counts as full. Else prove '..UptoSaid'. A law counts once. -/
mutual
def uptoBulk {H : Type} : DataW H → Nat
  | .lit (.string bytes) => bytes.length + 1
  | .lit _ => 1
  | .nil => 1
  | .ptr d => uptoBulk d + 1
  | .slice elems spare => uptoBulkAll elems + uptoBulkAll spare + 1
  | .agg parts => uptoBulkAll parts + 1
  | .iface _ d => uptoBulk d + 1
  | .map entries => uptoBulkEntries entries + 1
  | .held _ => 1
def uptoBulkAll {H : Type} : List (DataW H) → Nat
  | [] => 0
  | d :: r => uptoBulk d + uptoBulkAll r
def uptoBulkEntries {H : Type} : List (Lit × DataW H) → Nat
  | [] => 0
  | x :: r => uptoBulkEntry x + uptoBulkEntries r
def uptoBulkEntry {H : Type} : Lit × DataW H → Nat
  | (.string bytes, d) => bytes.length + uptoBulk d + 1
  | (_, d) => uptoBulk d + 1
 end
def uptoSmall : (H : Type) → List (DataW H) → Bool := fun _ ds => decide (uptoBulkAll ds ≤ 1048576)
def OpenSpec.upto (s : _root_.Go.ChangeSpec) : _root_.Go.OpenSpec := { _root_.Go.OpenSpec.ofChange s with cond := some uptoSmall }

/-- 'matronlaw11.StarBabble', WHERE WHAT IT READS IS OF BULK AT MOST 1048576: true; the input reads as it did. -/
def starBabbleUptoRow : OpenClaim := { program := "ytmlnkkalajnjhaa", sum := "e7b09ebd29ae48651f006e5a324fd689b0e0fc3c9da47ce31f149727ae93e938", func := "matron/matronlaw11.StarBabble", spec := "starBabble", unfollowed := true, recurses := true, apart := false, narrowed := true }
def StarBabbleUptoSaid : Prop := starBabbleUptoRow.holds Try.pinned (OpenSpec.upto starBabbleSpec)

/-- 'matronlaw11.StarQuiet', WHERE WHAT IT READS IS OF BULK AT MOST 1048576: true; the input reads as it did. -/
def starQuietUptoRow : OpenClaim := { program := "ytmlnkkalajnjhaa", sum := "e7b09ebd29ae48651f006e5a324fd689b0e0fc3c9da47ce31f149727ae93e938", func := "matron/matronlaw11.StarQuiet", spec := "starQuiet", unfollowed := true, recurses := true, apart := false, narrowed := true }
def StarQuietUptoSaid : Prop := starQuietUptoRow.holds Try.pinned (OpenSpec.upto starQuietSpec)

/-- 'matronlaw11.StarLate', WHERE WHAT IT READS IS OF BULK AT MOST 1048576: true; the input reads as it did. -/
def starLateUptoRow : OpenClaim := { program := "ytmlnkkalajnjhaa", sum := "e7b09ebd29ae48651f006e5a324fd689b0e0fc3c9da47ce31f149727ae93e938", func := "matron/matronlaw11.StarLate", spec := "starLate", unfollowed := true, recurses := true, apart := false, narrowed := true }
def StarLateUptoSaid : Prop := starLateUptoRow.holds Try.pinned (OpenSpec.upto starLateSpec)

/-- 'matronlaw11.StarDeaf', WHERE WHAT IT READS IS OF BULK AT MOST 1048576: true; the input reads as it did. -/
def starDeafUptoRow : OpenClaim := { program := "ytmlnkkalajnjhaa", sum := "e7b09ebd29ae48651f006e5a324fd689b0e0fc3c9da47ce31f149727ae93e938", func := "matron/matronlaw11.StarDeaf", spec := "starDeaf", unfollowed := true, recurses := true, apart := false, narrowed := true }
def StarDeafUptoSaid : Prop := starDeafUptoRow.holds Try.pinned (OpenSpec.upto starDeafSpec)

/-- 'matronlaw11.StarFaults', WHERE WHAT IT READS IS OF BULK AT MOST 1048576: true; the input reads as it did. -/
def starFaultsUptoRow : OpenClaim := { program := "ytmlnkkalajnjhaa", sum := "e7b09ebd29ae48651f006e5a324fd689b0e0fc3c9da47ce31f149727ae93e938", func := "matron/matronlaw11.StarFaults", spec := "starFaults", unfollowed := true, recurses := true, apart := false, narrowed := true }
def StarFaultsUptoSaid : Prop := starFaultsUptoRow.holds Try.pinned (OpenSpec.upto starFaultsSpec)

/-- 'matronlaw11.StarOfNothing', WHERE WHAT IT READS IS OF BULK AT MOST 1048576: true; the input reads as it did. -/
def starOfNothingUptoRow : OpenClaim := { program := "ytmlnkkalajnjhaa", sum := "e7b09ebd29ae48651f006e5a324fd689b0e0fc3c9da47ce31f149727ae93e938", func := "matron/matronlaw11.StarOfNothing", spec := "starOfNothing", unfollowed := true, recurses := true, apart := false, narrowed := true }
def StarOfNothingUptoSaid : Prop := starOfNothingUptoRow.holds Try.pinned (OpenSpec.upto starOfNothingSpec)

/-- 'matronlaw11.StarGarble', WHERE WHAT IT READS IS OF BULK AT MOST 1048576: true; the input reads as it did. -/
def starGarbleUptoRow : OpenClaim := { program := "ytmlnkkalajnjhaa", sum := "e7b09ebd29ae48651f006e5a324fd689b0e0fc3c9da47ce31f149727ae93e938", func := "matron/matronlaw11.StarGarble", spec := "starGarble", unfollowed := true, recurses := true, apart := false, narrowed := true }
def StarGarbleUptoSaid : Prop := starGarbleUptoRow.holds Try.pinned (OpenSpec.upto starGarbleSpec)

/-- 'matronlaw11.StarBegins', WHERE WHAT IT READS IS OF BULK AT MOST 1048576: true; the input reads as it did. -/
def starBeginsUptoRow : OpenClaim := { program := "ytmlnkkalajnjhaa", sum := "e7b09ebd29ae48651f006e5a324fd689b0e0fc3c9da47ce31f149727ae93e938", func := "matron/matronlaw11.StarBegins", spec := "starBegins", unfollowed := true, recurses := true, apart := false, narrowed := true }
def StarBeginsUptoSaid : Prop := starBeginsUptoRow.holds Try.pinned (OpenSpec.upto starBeginsSpec)

/-- 'matronlaw11.StarBoth', WHERE WHAT IT READS IS OF BULK AT MOST 1048576: true; the input reads as it did. -/
def starBothUptoRow : OpenClaim := { program := "ytmlnkkalajnjhaa", sum := "e7b09ebd29ae48651f006e5a324fd689b0e0fc3c9da47ce31f149727ae93e938", func := "matron/matronlaw11.StarBoth", spec := "starBoth", unfollowed := true, recurses := true, apart := false, narrowed := true }
def StarBothUptoSaid : Prop := starBothUptoRow.holds Try.pinned (OpenSpec.upto starBothSpec)

/-- 'matronlaw11.StarOmit', WHERE WHAT IT READS IS OF BULK AT MOST 1048576: true; the input reads as it did. -/
def starOmitUptoRow : OpenClaim := { program := "ytmlnkkalajnjhaa", sum := "e7b09ebd29ae48651f006e5a324fd689b0e0fc3c9da47ce31f149727ae93e938", func := "matron/matronlaw11.StarOmit", spec := "starOmit", unfollowed := true, recurses := true, apart := false, narrowed := true }
def StarOmitUptoSaid : Prop := starOmitUptoRow.holds Try.pinned (OpenSpec.upto starOmitSpec)

/-- 'matronlaw11.StarOwn', WHERE WHAT IT READS IS OF BULK AT MOST 1048576: true; the input reads as it did. -/
def starOwnUptoRow : OpenClaim := { program := "ytmlnkkalajnjhaa", sum := "e7b09ebd29ae48651f006e5a324fd689b0e0fc3c9da47ce31f149727ae93e938", func := "matron/matronlaw11.StarOwn", spec := "starOwn", unfollowed := true, recurses := true, apart := false, narrowed := true }
def StarOwnUptoSaid : Prop := starOwnUptoRow.holds Try.pinned (OpenSpec.upto starOwnSpec)

end Rows
end Go.Proofs.Ytmlnkkalajnjhaa
