/-
  No cell of these rows narrows 'for every input' (looked for: loops, veiled, ifaces, maps, wideKeys, modest, calm, conditions, laid).
  DERIVED. THE GIVEN ROWS OF THIS SEAT. 10 by the template 'for every input the law returns true; each argument reads behind the call as it read before'; 0 by the template 'total and deterministic' (their statements: YtjoioojckekfhaaGreatTotals.lean).
  GIVEN WITH THE SEED: the statements are not yours to turn. If you find one false, say at which input.
  Laid BY PROGRAM, IN A SANDBOX (cutbox-rows.mjs): the forced cells as the released guide's own fill.sh prints them over the translation 02e67742f5dcb214… (all of the seat's roots in one cut). By AI agents, Wed Nov 11 2026. No macro, syntax, notation, axiom, sorry.
-/
import Derived.Test.YtjoioojckekfhaaGreatChecked
import GoSem.Claim
import GoSem.ClaimJoined
import GoSem.ClaimMapViews
import Derived.JoinedTies
import Derived.KernelRfl
namespace Go.Proofs.YtjoioojckekfhaaGreat
/- THE CELL 'sum', in the pinned program and in every row, IS THE sha256 OF THE DUMP (.gsa) THAT YtjoioojckekfhaaGreatProg.lean LOADS. Nothing in Lean hashes anything: it is a label: what it is worth is what the hold of that sum in a sandbox is worth. -/
noncomputable def Tryz.pinned : Pinned := { name := "ytjoioojckekfhaagreat", sum := "02e67742f5dcb2143b9068b51e391a10c6c250b177b56ebf9117861c9cf390f1", checked := Tryz.checked }
namespace Rows
def none {H : Type} : Left H := { results := [], args := [] }

/-- 'matronlaw12.WardBegins': WHATEVER THE INPUT: true; the input reads as it did. -/
def wardBeginsSpec : ChangeSpec := { name := "wardBegins", fn := fun _ => fun
  | [d1, d2, d3] => { results := [.lit (.bool true)], args := [d1, d2, d3] }
  | _ => none }
def wardBeginsRow : OpenClaim := { program := "ytjoioojckekfhaagreat", sum := "02e67742f5dcb2143b9068b51e391a10c6c250b177b56ebf9117861c9cf390f1", func := "matron/matronlaw12.WardBegins", spec := "wardBegins", unfollowed := true, recurses := true, apart := false }
def WardBeginsSaid : Prop := wardBeginsRow.holds Tryz.pinned (OpenSpec.ofChange wardBeginsSpec)

/-- ITS FALSE NEIGHBOUR: 'it returns false'. Refute it at one input. -/
def wardBeginsWrong : ChangeSpec := { name := "wardBegins", fn := fun _ => fun
  | [d1, d2, d3] => { results := [.lit (.bool false)], args := [d1, d2, d3] }
  | _ => none }
def WardBeginsWrongFalsely : Prop := wardBeginsRow.holds Tryz.pinned (OpenSpec.ofChange wardBeginsWrong)

/-- 'matronlaw12.WardSays': WHATEVER THE INPUT: true; the input reads as it did. -/
def wardSaysSpec : ChangeSpec := { name := "wardSays", fn := fun _ => fun
  | [d1, d2, d3] => { results := [.lit (.bool true)], args := [d1, d2, d3] }
  | _ => none }
def wardSaysRow : OpenClaim := { program := "ytjoioojckekfhaagreat", sum := "02e67742f5dcb2143b9068b51e391a10c6c250b177b56ebf9117861c9cf390f1", func := "matron/matronlaw12.WardSays", spec := "wardSays", unfollowed := true, recurses := true, apart := false }
def WardSaysSaid : Prop := wardSaysRow.holds Tryz.pinned (OpenSpec.ofChange wardSaysSpec)

/-- ITS FALSE NEIGHBOUR: 'it returns false'. Refute it at one input. -/
def wardSaysWrong : ChangeSpec := { name := "wardSays", fn := fun _ => fun
  | [d1, d2, d3] => { results := [.lit (.bool false)], args := [d1, d2, d3] }
  | _ => none }
def WardSaysWrongFalsely : Prop := wardSaysRow.holds Tryz.pinned (OpenSpec.ofChange wardSaysWrong)

/-- 'matronlaw12.WardLeaves': WHATEVER THE INPUT: true; the input reads as it did. -/
def wardLeavesSpec : ChangeSpec := { name := "wardLeaves", fn := fun _ => fun
  | [d1, d2] => { results := [.lit (.bool true)], args := [d1, d2] }
  | _ => none }
def wardLeavesRow : OpenClaim := { program := "ytjoioojckekfhaagreat", sum := "02e67742f5dcb2143b9068b51e391a10c6c250b177b56ebf9117861c9cf390f1", func := "matron/matronlaw12.WardLeaves", spec := "wardLeaves", unfollowed := true, recurses := true, apart := false }
def WardLeavesSaid : Prop := wardLeavesRow.holds Tryz.pinned (OpenSpec.ofChange wardLeavesSpec)

/-- ITS FALSE NEIGHBOUR: 'it returns false'. Refute it at one input. -/
def wardLeavesWrong : ChangeSpec := { name := "wardLeaves", fn := fun _ => fun
  | [d1, d2] => { results := [.lit (.bool false)], args := [d1, d2] }
  | _ => none }
def WardLeavesWrongFalsely : Prop := wardLeavesRow.holds Tryz.pinned (OpenSpec.ofChange wardLeavesWrong)

/-- 'matronlaw12.WardOfNothing': WHATEVER THE INPUT: true; the input reads as it did. -/
def wardOfNothingSpec : ChangeSpec := { name := "wardOfNothing", fn := fun _ => fun
  | [d1, d2] => { results := [.lit (.bool true)], args := [d1, d2] }
  | _ => none }
def wardOfNothingRow : OpenClaim := { program := "ytjoioojckekfhaagreat", sum := "02e67742f5dcb2143b9068b51e391a10c6c250b177b56ebf9117861c9cf390f1", func := "matron/matronlaw12.WardOfNothing", spec := "wardOfNothing", unfollowed := true, recurses := true, apart := false }
def WardOfNothingSaid : Prop := wardOfNothingRow.holds Tryz.pinned (OpenSpec.ofChange wardOfNothingSpec)

/-- ITS FALSE NEIGHBOUR: 'it returns false'. Refute it at one input. -/
def wardOfNothingWrong : ChangeSpec := { name := "wardOfNothing", fn := fun _ => fun
  | [d1, d2] => { results := [.lit (.bool false)], args := [d1, d2] }
  | _ => none }
def WardOfNothingWrongFalsely : Prop := wardOfNothingRow.holds Tryz.pinned (OpenSpec.ofChange wardOfNothingWrong)

/-- 'matronlaw12.WardNone': WHATEVER THE INPUT: true; the input reads as it did. -/
def wardNoneSpec : ChangeSpec := { name := "wardNone", fn := fun _ => fun
  | [d1, d2] => { results := [.lit (.bool true)], args := [d1, d2] }
  | _ => none }
def wardNoneRow : OpenClaim := { program := "ytjoioojckekfhaagreat", sum := "02e67742f5dcb2143b9068b51e391a10c6c250b177b56ebf9117861c9cf390f1", func := "matron/matronlaw12.WardNone", spec := "wardNone", unfollowed := true, recurses := true, apart := false }
def WardNoneSaid : Prop := wardNoneRow.holds Tryz.pinned (OpenSpec.ofChange wardNoneSpec)

/-- ITS FALSE NEIGHBOUR: 'it returns false'. Refute it at one input. -/
def wardNoneWrong : ChangeSpec := { name := "wardNone", fn := fun _ => fun
  | [d1, d2] => { results := [.lit (.bool false)], args := [d1, d2] }
  | _ => none }
def WardNoneWrongFalsely : Prop := wardNoneRow.holds Tryz.pinned (OpenSpec.ofChange wardNoneWrong)

/-- 'matronlaw12.WardSilent': WHATEVER THE INPUT: true; the input reads as it did. -/
def wardSilentSpec : ChangeSpec := { name := "wardSilent", fn := fun _ => fun
  | [d1, d2] => { results := [.lit (.bool true)], args := [d1, d2] }
  | _ => none }
def wardSilentRow : OpenClaim := { program := "ytjoioojckekfhaagreat", sum := "02e67742f5dcb2143b9068b51e391a10c6c250b177b56ebf9117861c9cf390f1", func := "matron/matronlaw12.WardSilent", spec := "wardSilent", unfollowed := true, recurses := true, apart := false }
def WardSilentSaid : Prop := wardSilentRow.holds Tryz.pinned (OpenSpec.ofChange wardSilentSpec)

/-- ITS FALSE NEIGHBOUR: 'it returns false'. Refute it at one input. -/
def wardSilentWrong : ChangeSpec := { name := "wardSilent", fn := fun _ => fun
  | [d1, d2] => { results := [.lit (.bool false)], args := [d1, d2] }
  | _ => none }
def WardSilentWrongFalsely : Prop := wardSilentRow.holds Tryz.pinned (OpenSpec.ofChange wardSilentWrong)

/-- 'matronlaw12.WardAlone': WHATEVER THE INPUT: true; the input reads as it did. -/
def wardAloneSpec : ChangeSpec := { name := "wardAlone", fn := fun _ => fun
  | [d1, d2] => { results := [.lit (.bool true)], args := [d1, d2] }
  | _ => none }
def wardAloneRow : OpenClaim := { program := "ytjoioojckekfhaagreat", sum := "02e67742f5dcb2143b9068b51e391a10c6c250b177b56ebf9117861c9cf390f1", func := "matron/matronlaw12.WardAlone", spec := "wardAlone", unfollowed := true, recurses := true, apart := false }
def WardAloneSaid : Prop := wardAloneRow.holds Tryz.pinned (OpenSpec.ofChange wardAloneSpec)

/-- ITS FALSE NEIGHBOUR: 'it returns false'. Refute it at one input. -/
def wardAloneWrong : ChangeSpec := { name := "wardAlone", fn := fun _ => fun
  | [d1, d2] => { results := [.lit (.bool false)], args := [d1, d2] }
  | _ => none }
def WardAloneWrongFalsely : Prop := wardAloneRow.holds Tryz.pinned (OpenSpec.ofChange wardAloneWrong)

/-- 'matronlaw12.WardLong': WHATEVER THE INPUT: true; the input reads as it did. -/
def wardLongSpec : ChangeSpec := { name := "wardLong", fn := fun _ => fun
  | [d1, d2, d3] => { results := [.lit (.bool true)], args := [d1, d2, d3] }
  | _ => none }
def wardLongRow : OpenClaim := { program := "ytjoioojckekfhaagreat", sum := "02e67742f5dcb2143b9068b51e391a10c6c250b177b56ebf9117861c9cf390f1", func := "matron/matronlaw12.WardLong", spec := "wardLong", unfollowed := true, recurses := true, apart := false }
def WardLongSaid : Prop := wardLongRow.holds Tryz.pinned (OpenSpec.ofChange wardLongSpec)

/-- ITS FALSE NEIGHBOUR: 'it returns false'. Refute it at one input. -/
def wardLongWrong : ChangeSpec := { name := "wardLong", fn := fun _ => fun
  | [d1, d2, d3] => { results := [.lit (.bool false)], args := [d1, d2, d3] }
  | _ => none }
def WardLongWrongFalsely : Prop := wardLongRow.holds Tryz.pinned (OpenSpec.ofChange wardLongWrong)

/-- 'matronlaw13.AuditAlone': WHATEVER THE INPUT: true; the input reads as it did. -/
def auditAloneSpec : ChangeSpec := { name := "auditAlone", fn := fun _ => fun
  | [d1, d2] => { results := [.lit (.bool true)], args := [d1, d2] }
  | _ => none }
def auditAloneRow : OpenClaim := { program := "ytjoioojckekfhaagreat", sum := "02e67742f5dcb2143b9068b51e391a10c6c250b177b56ebf9117861c9cf390f1", func := "matron/matronlaw13.AuditAlone", spec := "auditAlone", unfollowed := true, recurses := true, apart := false }
def AuditAloneSaid : Prop := auditAloneRow.holds Tryz.pinned (OpenSpec.ofChange auditAloneSpec)

/-- ITS FALSE NEIGHBOUR: 'it returns false'. Refute it at one input. -/
def auditAloneWrong : ChangeSpec := { name := "auditAlone", fn := fun _ => fun
  | [d1, d2] => { results := [.lit (.bool false)], args := [d1, d2] }
  | _ => none }
def AuditAloneWrongFalsely : Prop := auditAloneRow.holds Tryz.pinned (OpenSpec.ofChange auditAloneWrong)

/-- 'matronlaw13.AuditUp': WHATEVER THE INPUT: true; the input reads as it did. -/
def auditUpSpec : ChangeSpec := { name := "auditUp", fn := fun _ => fun
  | [d1, d2, d3] => { results := [.lit (.bool true)], args := [d1, d2, d3] }
  | _ => none }
def auditUpRow : OpenClaim := { program := "ytjoioojckekfhaagreat", sum := "02e67742f5dcb2143b9068b51e391a10c6c250b177b56ebf9117861c9cf390f1", func := "matron/matronlaw13.AuditUp", spec := "auditUp", unfollowed := true, recurses := true, apart := false }
def AuditUpSaid : Prop := auditUpRow.holds Tryz.pinned (OpenSpec.ofChange auditUpSpec)

/-- ITS FALSE NEIGHBOUR: 'it returns false'. Refute it at one input. -/
def auditUpWrong : ChangeSpec := { name := "auditUp", fn := fun _ => fun
  | [d1, d2, d3] => { results := [.lit (.bool false)], args := [d1, d2, d3] }
  | _ => none }
def AuditUpWrongFalsely : Prop := auditUpRow.holds Tryz.pinned (OpenSpec.ofChange auditUpWrong)

/- THE SECOND FORM. 'bulk': how many values and letters a reading holds, each counted each time it is reached (what is shared counts as often as it is met; a slice's spare places count too). A statement '..UptoSaid' is the law's where the arguments, and the package variables that the reading takes, are together of bulk at most 1048576: NARROWER than '..Said'. Prove '..Said' where nothing that the law and all that it calls make is longer than what came in: it says more and counts as full. Else prove '..UptoSaid'. A law counts once. -/
mutual
def uptoBulk {H : Type} : DataW H → Nat
  | .lit (.string bytes) => bytes.length + 1
  | .lit _ => 1
  | .nil => 1
  | .ptr d => uptoBulk d + 1
  | .slice elems spare => uptoBulkAll elems + uptoBulkAll spare + 1
  | .agg parts => uptoBulkAll parts + 1
  | .iface _ d => uptoBulk d + 1
  | .map entries => uptoBulkEntries entries + 1
  | .held _ => 1
def uptoBulkAll {H : Type} : List (DataW H) → Nat
  | [] => 0
  | d :: r => uptoBulk d + uptoBulkAll r
def uptoBulkEntries {H : Type} : List (Lit × DataW H) → Nat
  | [] => 0
  | x :: r => uptoBulkEntry x + uptoBulkEntries r
def uptoBulkEntry {H : Type} : Lit × DataW H → Nat
  | (.string bytes, d) => bytes.length + uptoBulk d + 1
  | (_, d) => uptoBulk d + 1
 end
def uptoSmall : (H : Type) → List (DataW H) → Bool := fun _ ds => decide (uptoBulkAll ds ≤ 1048576)
def OpenSpec.upto (s : _root_.Go.ChangeSpec) : _root_.Go.OpenSpec := { _root_.Go.OpenSpec.ofChange s with cond := some uptoSmall }

/-- 'matronlaw12.WardBegins', WHERE WHAT IT READS IS OF BULK AT MOST 1048576: true; the input reads as it did. -/
def wardBeginsUptoRow : OpenClaim := { program := "ytjoioojckekfhaagreat", sum := "02e67742f5dcb2143b9068b51e391a10c6c250b177b56ebf9117861c9cf390f1", func := "matron/matronlaw12.WardBegins", spec := "wardBegins", unfollowed := true, recurses := true, apart := false, narrowed := true }
def WardBeginsUptoSaid : Prop := wardBeginsUptoRow.holds Tryz.pinned (OpenSpec.upto wardBeginsSpec)

/-- 'matronlaw12.WardSays', WHERE WHAT IT READS IS OF BULK AT MOST 1048576: true; the input reads as it did. -/
def wardSaysUptoRow : OpenClaim := { program := "ytjoioojckekfhaagreat", sum := "02e67742f5dcb2143b9068b51e391a10c6c250b177b56ebf9117861c9cf390f1", func := "matron/matronlaw12.WardSays", spec := "wardSays", unfollowed := true, recurses := true, apart := false, narrowed := true }
def WardSaysUptoSaid : Prop := wardSaysUptoRow.holds Tryz.pinned (OpenSpec.upto wardSaysSpec)

/-- 'matronlaw12.WardLeaves', WHERE WHAT IT READS IS OF BULK AT MOST 1048576: true; the input reads as it did. -/
def wardLeavesUptoRow : OpenClaim := { program := "ytjoioojckekfhaagreat", sum := "02e67742f5dcb2143b9068b51e391a10c6c250b177b56ebf9117861c9cf390f1", func := "matron/matronlaw12.WardLeaves", spec := "wardLeaves", unfollowed := true, recurses := true, apart := false, narrowed := true }
def WardLeavesUptoSaid : Prop := wardLeavesUptoRow.holds Tryz.pinned (OpenSpec.upto wardLeavesSpec)

/-- 'matronlaw12.WardOfNothing', WHERE WHAT IT READS IS OF BULK AT MOST 1048576: true; the input reads as it did. -/
def wardOfNothingUptoRow : OpenClaim := { program := "ytjoioojckekfhaagreat", sum := "02e67742f5dcb2143b9068b51e391a10c6c250b177b56ebf9117861c9cf390f1", func := "matron/matronlaw12.WardOfNothing", spec := "wardOfNothing", unfollowed := true, recurses := true, apart := false, narrowed := true }
def WardOfNothingUptoSaid : Prop := wardOfNothingUptoRow.holds Tryz.pinned (OpenSpec.upto wardOfNothingSpec)

/-- 'matronlaw12.WardNone', WHERE WHAT IT READS IS OF BULK AT MOST 1048576: true; the input reads as it did. -/
def wardNoneUptoRow : OpenClaim := { program := "ytjoioojckekfhaagreat", sum := "02e67742f5dcb2143b9068b51e391a10c6c250b177b56ebf9117861c9cf390f1", func := "matron/matronlaw12.WardNone", spec := "wardNone", unfollowed := true, recurses := true, apart := false, narrowed := true }
def WardNoneUptoSaid : Prop := wardNoneUptoRow.holds Tryz.pinned (OpenSpec.upto wardNoneSpec)

/-- 'matronlaw12.WardSilent', WHERE WHAT IT READS IS OF BULK AT MOST 1048576: true; the input reads as it did. -/
def wardSilentUptoRow : OpenClaim := { program := "ytjoioojckekfhaagreat", sum := "02e67742f5dcb2143b9068b51e391a10c6c250b177b56ebf9117861c9cf390f1", func := "matron/matronlaw12.WardSilent", spec := "wardSilent", unfollowed := true, recurses := true, apart := false, narrowed := true }
def WardSilentUptoSaid : Prop := wardSilentUptoRow.holds Tryz.pinned (OpenSpec.upto wardSilentSpec)

/-- 'matronlaw12.WardAlone', WHERE WHAT IT READS IS OF BULK AT MOST 1048576: true; the input reads as it did. -/
def wardAloneUptoRow : OpenClaim := { program := "ytjoioojckekfhaagreat", sum := "02e67742f5dcb2143b9068b51e391a10c6c250b177b56ebf9117861c9cf390f1", func := "matron/matronlaw12.WardAlone", spec := "wardAlone", unfollowed := true, recurses := true, apart := false, narrowed := true }
def WardAloneUptoSaid : Prop := wardAloneUptoRow.holds Tryz.pinned (OpenSpec.upto wardAloneSpec)

/-- 'matronlaw12.WardLong', WHERE WHAT IT READS IS OF BULK AT MOST 1048576: true; the input reads as it did. -/
def wardLongUptoRow : OpenClaim := { program := "ytjoioojckekfhaagreat", sum := "02e67742f5dcb2143b9068b51e391a10c6c250b177b56ebf9117861c9cf390f1", func := "matron/matronlaw12.WardLong", spec := "wardLong", unfollowed := true, recurses := true, apart := false, narrowed := true }
def WardLongUptoSaid : Prop := wardLongUptoRow.holds Tryz.pinned (OpenSpec.upto wardLongSpec)

/-- 'matronlaw13.AuditAlone', WHERE WHAT IT READS IS OF BULK AT MOST 1048576: true; the input reads as it did. -/
def auditAloneUptoRow : OpenClaim := { program := "ytjoioojckekfhaagreat", sum := "02e67742f5dcb2143b9068b51e391a10c6c250b177b56ebf9117861c9cf390f1", func := "matron/matronlaw13.AuditAlone", spec := "auditAlone", unfollowed := true, recurses := true, apart := false, narrowed := true }
def AuditAloneUptoSaid : Prop := auditAloneUptoRow.holds Tryz.pinned (OpenSpec.upto auditAloneSpec)

/-- 'matronlaw13.AuditUp', WHERE WHAT IT READS IS OF BULK AT MOST 1048576: true; the input reads as it did. -/
def auditUpUptoRow : OpenClaim := { program := "ytjoioojckekfhaagreat", sum := "02e67742f5dcb2143b9068b51e391a10c6c250b177b56ebf9117861c9cf390f1", func := "matron/matronlaw13.AuditUp", spec := "auditUp", unfollowed := true, recurses := true, apart := false, narrowed := true }
def AuditUpUptoSaid : Prop := auditUpUptoRow.holds Tryz.pinned (OpenSpec.upto auditUpSpec)

end Rows
end Go.Proofs.YtjoioojckekfhaaGreat
