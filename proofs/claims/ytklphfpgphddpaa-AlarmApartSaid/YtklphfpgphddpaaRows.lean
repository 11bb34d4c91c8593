/-
  No cell of these rows narrows 'for every input' (looked for: loops, veiled, ifaces, maps, wideKeys, modest, calm, conditions, laid).
  DERIVED. THE GIVEN ROWS OF THIS SEAT. 8 by the template 'for every input the law returns true; each argument reads behind the call as it read before'; 0 by the template 'total and deterministic' (their statements: YtklphfpgphddpaaTotals.lean).
  GIVEN WITH THE SEED: the statements are not yours to turn. If you find one false, say at which input.
  Laid BY PROGRAM, IN A SANDBOX (cutbox-rows.mjs): the forced cells as the released guide's own fill.sh prints them over the translation cd097fee5691dfb9… (all of the seat's roots in one cut). By AI agents, Wed Nov 11 2026. No macro, syntax, notation, axiom, sorry.
-/
import Derived.Test.YtklphfpgphddpaaChecked
import GoSem.Claim
import GoSem.ClaimJoined
import GoSem.ClaimMapViews
import Derived.JoinedTies
import Derived.KernelRfl
namespace Go.Proofs.Ytklphfpgphddpaa
/- THE CELL 'sum', in the pinned program and in every row, IS THE sha256 OF THE DUMP (.gsa) THAT YtklphfpgphddpaaProg.lean LOADS. Nothing in Lean hashes anything: it is a label: what it is worth is what the hold of that sum in a sandbox is worth. -/
noncomputable def Try.pinned : Pinned := { name := "ytklphfpgphddpaa", sum := "cd097fee5691dfb9b35063096da3e0c0b9f897eb7587ec226ac5366a848fa096", checked := Try.checked }
namespace Rows
def none {H : Type} : Left H := { results := [], args := [] }

/-- 'matronlaw9.AlarmWhy': WHATEVER THE INPUT: true; the input reads as it did. -/
def alarmWhySpec : ChangeSpec := { name := "alarmWhy", fn := fun _ => fun
  | [d1, d2] => { results := [.lit (.bool true)], args := [d1, d2] }
  | _ => none }
def alarmWhyRow : OpenClaim := { program := "ytklphfpgphddpaa", sum := "cd097fee5691dfb9b35063096da3e0c0b9f897eb7587ec226ac5366a848fa096", func := "matron/matronlaw9.AlarmWhy", spec := "alarmWhy", apart := false }
def AlarmWhySaid : Prop := alarmWhyRow.holds Try.pinned (OpenSpec.ofChange alarmWhySpec)

/-- ITS FALSE NEIGHBOUR: 'it returns false'. Refute it at one input. -/
def alarmWhyWrong : ChangeSpec := { name := "alarmWhy", fn := fun _ => fun
  | [d1, d2] => { results := [.lit (.bool false)], args := [d1, d2] }
  | _ => none }
def AlarmWhyWrongFalsely : Prop := alarmWhyRow.holds Try.pinned (OpenSpec.ofChange alarmWhyWrong)

/-- 'matronlaw9.AlarmLatches': WHATEVER THE INPUT: true; the input reads as it did. -/
def alarmLatchesSpec : ChangeSpec := { name := "alarmLatches", fn := fun _ => fun
  | [d1, d2, d3, d4] => { results := [.lit (.bool true)], args := [d1, d2, d3, d4] }
  | _ => none }
def alarmLatchesRow : OpenClaim := { program := "ytklphfpgphddpaa", sum := "cd097fee5691dfb9b35063096da3e0c0b9f897eb7587ec226ac5366a848fa096", func := "matron/matronlaw9.AlarmLatches", spec := "alarmLatches", unfollowed := true, recurses := true, apart := false }
def AlarmLatchesSaid : Prop := alarmLatchesRow.holds Try.pinned (OpenSpec.ofChange alarmLatchesSpec)

/-- ITS FALSE NEIGHBOUR: 'it returns false'. Refute it at one input. -/
def alarmLatchesWrong : ChangeSpec := { name := "alarmLatches", fn := fun _ => fun
  | [d1, d2, d3, d4] => { results := [.lit (.bool false)], args := [d1, d2, d3, d4] }
  | _ => none }
def AlarmLatchesWrongFalsely : Prop := alarmLatchesRow.holds Try.pinned (OpenSpec.ofChange alarmLatchesWrong)

/-- 'matronlaw9.AlarmStays': WHATEVER THE INPUT: true; the input reads as it did. -/
def alarmStaysSpec : ChangeSpec := { name := "alarmStays", fn := fun _ => fun
  | [d1, d2] => { results := [.lit (.bool true)], args := [d1, d2] }
  | _ => none }
def alarmStaysRow : OpenClaim := { program := "ytklphfpgphddpaa", sum := "cd097fee5691dfb9b35063096da3e0c0b9f897eb7587ec226ac5366a848fa096", func := "matron/matronlaw9.AlarmStays", spec := "alarmStays", unfollowed := true, recurses := true, apart := false }
def AlarmStaysSaid : Prop := alarmStaysRow.holds Try.pinned (OpenSpec.ofChange alarmStaysSpec)

/-- ITS FALSE NEIGHBOUR: 'it returns false'. Refute it at one input. -/
def alarmStaysWrong : ChangeSpec := { name := "alarmStays", fn := fun _ => fun
  | [d1, d2] => { results := [.lit (.bool false)], args := [d1, d2] }
  | _ => none }
def AlarmStaysWrongFalsely : Prop := alarmStaysRow.holds Try.pinned (OpenSpec.ofChange alarmStaysWrong)

/-- 'matronlaw9.AlarmOfNothing': WHATEVER THE INPUT: true; the input reads as it did. -/
def alarmOfNothingSpec : ChangeSpec := { name := "alarmOfNothing", fn := fun _ => fun
  | [d] => { results := [.lit (.bool true)], args := [d] }
  | _ => none }
def alarmOfNothingRow : OpenClaim := { program := "ytklphfpgphddpaa", sum := "cd097fee5691dfb9b35063096da3e0c0b9f897eb7587ec226ac5366a848fa096", func := "matron/matronlaw9.AlarmOfNothing", spec := "alarmOfNothing", unfollowed := true, recurses := true, apart := false }
def AlarmOfNothingSaid : Prop := alarmOfNothingRow.holds Try.pinned (OpenSpec.ofChange alarmOfNothingSpec)

/-- ITS FALSE NEIGHBOUR: 'it returns false'. Refute it at one input. -/
def alarmOfNothingWrong : ChangeSpec := { name := "alarmOfNothing", fn := fun _ => fun
  | [d] => { results := [.lit (.bool false)], args := [d] }
  | _ => none }
def AlarmOfNothingWrongFalsely : Prop := alarmOfNothingRow.holds Try.pinned (OpenSpec.ofChange alarmOfNothingWrong)

/-- 'matronlaw9.AlarmBounds': WHATEVER THE INPUT: true; the input reads as it did. -/
def alarmBoundsSpec : ChangeSpec := { name := "alarmBounds", fn := fun _ => fun
  | [d1, d2, d3, d4] => { results := [.lit (.bool true)], args := [d1, d2, d3, d4] }
  | _ => none }
def alarmBoundsRow : OpenClaim := { program := "ytklphfpgphddpaa", sum := "cd097fee5691dfb9b35063096da3e0c0b9f897eb7587ec226ac5366a848fa096", func := "matron/matronlaw9.AlarmBounds", spec := "alarmBounds", apart := false }
def AlarmBoundsSaid : Prop := alarmBoundsRow.holds Try.pinned (OpenSpec.ofChange alarmBoundsSpec)

/-- ITS FALSE NEIGHBOUR: 'it returns false'. Refute it at one input. -/
def alarmBoundsWrong : ChangeSpec := { name := "alarmBounds", fn := fun _ => fun
  | [d1, d2, d3, d4] => { results := [.lit (.bool false)], args := [d1, d2, d3, d4] }
  | _ => none }
def AlarmBoundsWrongFalsely : Prop := alarmBoundsRow.holds Try.pinned (OpenSpec.ofChange alarmBoundsWrong)

/-- 'matronlaw9.AlarmEmpty': WHATEVER THE INPUT: true; the input reads as it did. -/
def alarmEmptySpec : ChangeSpec := { name := "alarmEmpty", fn := fun _ => fun
  | [d1, d2, d3] => { results := [.lit (.bool true)], args := [d1, d2, d3] }
  | _ => none }
def alarmEmptyRow : OpenClaim := { program := "ytklphfpgphddpaa", sum := "cd097fee5691dfb9b35063096da3e0c0b9f897eb7587ec226ac5366a848fa096", func := "matron/matronlaw9.AlarmEmpty", spec := "alarmEmpty", apart := false }
def AlarmEmptySaid : Prop := alarmEmptyRow.holds Try.pinned (OpenSpec.ofChange alarmEmptySpec)

/-- ITS FALSE NEIGHBOUR: 'it returns false'. Refute it at one input. -/
def alarmEmptyWrong : ChangeSpec := { name := "alarmEmpty", fn := fun _ => fun
  | [d1, d2, d3] => { results := [.lit (.bool false)], args := [d1, d2, d3] }
  | _ => none }
def AlarmEmptyWrongFalsely : Prop := alarmEmptyRow.holds Try.pinned (OpenSpec.ofChange alarmEmptyWrong)

/-- 'matronlaw9.AlarmApart': WHATEVER THE INPUT: true; the input reads as it did. -/
def alarmApartSpec : ChangeSpec := { name := "alarmApart", fn := fun _ => fun
  | [d1, d2, d3] => { results := [.lit (.bool true)], args := [d1, d2, d3] }
  | _ => none }
def alarmApartRow : OpenClaim := { program := "ytklphfpgphddpaa", sum := "cd097fee5691dfb9b35063096da3e0c0b9f897eb7587ec226ac5366a848fa096", func := "matron/matronlaw9.AlarmApart", spec := "alarmApart", unfollowed := true, recurses := true, apart := false }
def AlarmApartSaid : Prop := alarmApartRow.holds Try.pinned (OpenSpec.ofChange alarmApartSpec)

/-- ITS FALSE NEIGHBOUR: 'it returns false'. Refute it at one input. -/
def alarmApartWrong : ChangeSpec := { name := "alarmApart", fn := fun _ => fun
  | [d1, d2, d3] => { results := [.lit (.bool false)], args := [d1, d2, d3] }
  | _ => none }
def AlarmApartWrongFalsely : Prop := alarmApartRow.holds Try.pinned (OpenSpec.ofChange alarmApartWrong)

/-- 'matronlaw9.AlarmAgain': WHATEVER THE INPUT: true; the input reads as it did. -/
def alarmAgainSpec : ChangeSpec := { name := "alarmAgain", fn := fun _ => fun
  | [d] => { results := [.lit (.bool true)], args := [d] }
  | _ => none }
def alarmAgainRow : OpenClaim := { program := "ytklphfpgphddpaa", sum := "cd097fee5691dfb9b35063096da3e0c0b9f897eb7587ec226ac5366a848fa096", func := "matron/matronlaw9.AlarmAgain", spec := "alarmAgain", unfollowed := true, recurses := true, apart := false }
def AlarmAgainSaid : Prop := alarmAgainRow.holds Try.pinned (OpenSpec.ofChange alarmAgainSpec)

/-- ITS FALSE NEIGHBOUR: 'it returns false'. Refute it at one input. -/
def alarmAgainWrong : ChangeSpec := { name := "alarmAgain", fn := fun _ => fun
  | [d] => { results := [.lit (.bool false)], args := [d] }
  | _ => none }
def AlarmAgainWrongFalsely : Prop := alarmAgainRow.holds Try.pinned (OpenSpec.ofChange alarmAgainWrong)

/- THE SECOND FORM. 'bulk': how many values and letters a reading holds, each counted each time it is reached (what is shared counts as often as it is met; a slice's spare places count too). A statement '..UptoSaid' is the law's where the arguments, and the package variables that the reading takes, are together of bulk at most 1048576: NARROWER than '..Said'. Prove '..Said' where nothing that the law and all that it calls make is longer than what came in: it says more and counts as full. Else prove '..UptoSaid'. A law counts once. -/
mutual
def uptoBulk {H : Type} : DataW H → Nat
  | .lit (.string bytes) => bytes.length + 1
  | .lit _ => 1
  | .nil => 1
  | .ptr d => uptoBulk d + 1
  | .slice elems spare => uptoBulkAll elems + uptoBulkAll spare + 1
  | .agg parts => uptoBulkAll parts + 1
  | .iface _ d => uptoBulk d + 1
  | .map entries => uptoBulkEntries entries + 1
  | .held _ => 1
def uptoBulkAll {H : Type} : List (DataW H) → Nat
  | [] => 0
  | d :: r => uptoBulk d + uptoBulkAll r
def uptoBulkEntries {H : Type} : List (Lit × DataW H) → Nat
  | [] => 0
  | x :: r => uptoBulkEntry x + uptoBulkEntries r
def uptoBulkEntry {H : Type} : Lit × DataW H → Nat
  | (.string bytes, d) => bytes.length + uptoBulk d + 1
  | (_, d) => uptoBulk d + 1
 end
def uptoSmall : (H : Type) → List (DataW H) → Bool := fun _ ds => decide (uptoBulkAll ds ≤ 1048576)
def OpenSpec.upto (s : _root_.Go.ChangeSpec) : _root_.Go.OpenSpec := { _root_.Go.OpenSpec.ofChange s with cond := some uptoSmall }

/-- 'matronlaw9.AlarmWhy', WHERE WHAT IT READS IS OF BULK AT MOST 1048576: true; the input reads as it did. -/
def alarmWhyUptoRow : OpenClaim := { program := "ytklphfpgphddpaa", sum := "cd097fee5691dfb9b35063096da3e0c0b9f897eb7587ec226ac5366a848fa096", func := "matron/matronlaw9.AlarmWhy", spec := "alarmWhy", apart := false, narrowed := true }
def AlarmWhyUptoSaid : Prop := alarmWhyUptoRow.holds Try.pinned (OpenSpec.upto alarmWhySpec)

/-- 'matronlaw9.AlarmLatches', WHERE WHAT IT READS IS OF BULK AT MOST 1048576: true; the input reads as it did. -/
def alarmLatchesUptoRow : OpenClaim := { program := "ytklphfpgphddpaa", sum := "cd097fee5691dfb9b35063096da3e0c0b9f897eb7587ec226ac5366a848fa096", func := "matron/matronlaw9.AlarmLatches", spec := "alarmLatches", unfollowed := true, recurses := true, apart := false, narrowed := true }
def AlarmLatchesUptoSaid : Prop := alarmLatchesUptoRow.holds Try.pinned (OpenSpec.upto alarmLatchesSpec)

/-- 'matronlaw9.AlarmStays', WHERE WHAT IT READS IS OF BULK AT MOST 1048576: true; the input reads as it did. -/
def alarmStaysUptoRow : OpenClaim := { program := "ytklphfpgphddpaa", sum := "cd097fee5691dfb9b35063096da3e0c0b9f897eb7587ec226ac5366a848fa096", func := "matron/matronlaw9.AlarmStays", spec := "alarmStays", unfollowed := true, recurses := true, apart := false, narrowed := true }
def AlarmStaysUptoSaid : Prop := alarmStaysUptoRow.holds Try.pinned (OpenSpec.upto alarmStaysSpec)

/-- 'matronlaw9.AlarmOfNothing', WHERE WHAT IT READS IS OF BULK AT MOST 1048576: true; the input reads as it did. -/
def alarmOfNothingUptoRow : OpenClaim := { program := "ytklphfpgphddpaa", sum := "cd097fee5691dfb9b35063096da3e0c0b9f897eb7587ec226ac5366a848fa096", func := "matron/matronlaw9.AlarmOfNothing", spec := "alarmOfNothing", unfollowed := true, recurses := true, apart := false, narrowed := true }
def AlarmOfNothingUptoSaid : Prop := alarmOfNothingUptoRow.holds Try.pinned (OpenSpec.upto alarmOfNothingSpec)

/-- 'matronlaw9.AlarmBounds', WHERE WHAT IT READS IS OF BULK AT MOST 1048576: true; the input reads as it did. -/
def alarmBoundsUptoRow : OpenClaim := { program := "ytklphfpgphddpaa", sum := "cd097fee5691dfb9b35063096da3e0c0b9f897eb7587ec226ac5366a848fa096", func := "matron/matronlaw9.AlarmBounds", spec := "alarmBounds", apart := false, narrowed := true }
def AlarmBoundsUptoSaid : Prop := alarmBoundsUptoRow.holds Try.pinned (OpenSpec.upto alarmBoundsSpec)

/-- 'matronlaw9.AlarmEmpty', WHERE WHAT IT READS IS OF BULK AT MOST 1048576: true; the input reads as it did. -/
def alarmEmptyUptoRow : OpenClaim := { program := "ytklphfpgphddpaa", sum := "cd097fee5691dfb9b35063096da3e0c0b9f897eb7587ec226ac5366a848fa096", func := "matron/matronlaw9.AlarmEmpty", spec := "alarmEmpty", apart := false, narrowed := true }
def AlarmEmptyUptoSaid : Prop := alarmEmptyUptoRow.holds Try.pinned (OpenSpec.upto alarmEmptySpec)

/-- 'matronlaw9.AlarmApart', WHERE WHAT IT READS IS OF BULK AT MOST 1048576: true; the input reads as it did. -/
def alarmApartUptoRow : OpenClaim := { program := "ytklphfpgphddpaa", sum := "cd097fee5691dfb9b35063096da3e0c0b9f897eb7587ec226ac5366a848fa096", func := "matron/matronlaw9.AlarmApart", spec := "alarmApart", unfollowed := true, recurses := true, apart := false, narrowed := true }
def AlarmApartUptoSaid : Prop := alarmApartUptoRow.holds Try.pinned (OpenSpec.upto alarmApartSpec)

/-- 'matronlaw9.AlarmAgain', WHERE WHAT IT READS IS OF BULK AT MOST 1048576: true; the input reads as it did. -/
def alarmAgainUptoRow : OpenClaim := { program := "ytklphfpgphddpaa", sum := "cd097fee5691dfb9b35063096da3e0c0b9f897eb7587ec226ac5366a848fa096", func := "matron/matronlaw9.AlarmAgain", spec := "alarmAgain", unfollowed := true, recurses := true, apart := false, narrowed := true }
def AlarmAgainUptoSaid : Prop := alarmAgainUptoRow.holds Try.pinned (OpenSpec.upto alarmAgainSpec)

end Rows
end Go.Proofs.Ytklphfpgphddpaa
