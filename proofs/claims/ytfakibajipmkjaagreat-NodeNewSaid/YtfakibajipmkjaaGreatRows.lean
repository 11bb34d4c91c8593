/-
  No cell of these rows narrows 'for every input' (looked for: loops, veiled, ifaces, maps, wideKeys, modest, calm, conditions, laid).
  DERIVED. THE GIVEN ROWS OF THIS SEAT. 12 by the template 'for every input the law returns true; each argument reads behind the call as it read before'; 0 by the template 'total and deterministic' (their statements: YtfakibajipmkjaaGreatTotals.lean).
  GIVEN WITH THE SEED: the statements are not yours to turn. If you find one false, say at which input.
  Laid BY PROGRAM, IN A SANDBOX (cutbox-rows.mjs): the forced cells as the released guide's own fill.sh prints them over the translation 083d640462534fcb… (all of the seat's roots in one cut). By AI agents, Wed Nov 11 2026. No macro, syntax, notation, axiom, sorry.
-/
import Derived.Test.YtfakibajipmkjaaGreatChecked
import GoSem.Claim
import GoSem.ClaimJoined
import GoSem.ClaimMapViews
import Derived.JoinedTies
import Derived.KernelRfl
namespace Go.Proofs.YtfakibajipmkjaaGreat
/- THE CELL 'sum', in the pinned program and in every row, IS THE sha256 OF THE DUMP (.gsa) THAT YtfakibajipmkjaaGreatProg.lean LOADS. Nothing in Lean hashes anything: it is a label: what it is worth is what the hold of that sum in a sandbox is worth. -/
noncomputable def Tryz.pinned : Pinned := { name := "ytfakibajipmkjaagreat", sum := "083d640462534fcb7d448edd1020396181c96f618db4771fab7f1f588c338841", checked := Tryz.checked }
namespace Rows
def none {H : Type} : Left H := { results := [], args := [] }

/-- 'matronlaw10.NodePlays': WHATEVER THE INPUT: true; the input reads as it did. -/
def nodePlaysSpec : ChangeSpec := { name := "nodePlays", fn := fun _ => fun
  | [d1, d2, d3, d4] => { results := [.lit (.bool true)], args := [d1, d2, d3, d4] }
  | _ => none }
def nodePlaysRow : OpenClaim := { program := "ytfakibajipmkjaagreat", sum := "083d640462534fcb7d448edd1020396181c96f618db4771fab7f1f588c338841", func := "matron/matronlaw10.NodePlays", spec := "nodePlays", unfollowed := true, recurses := true, apart := false }
def NodePlaysSaid : Prop := nodePlaysRow.holds Tryz.pinned (OpenSpec.ofChange nodePlaysSpec)

/-- ITS FALSE NEIGHBOUR: 'it returns false'. Refute it at one input. -/
def nodePlaysWrong : ChangeSpec := { name := "nodePlays", fn := fun _ => fun
  | [d1, d2, d3, d4] => { results := [.lit (.bool false)], args := [d1, d2, d3, d4] }
  | _ => none }
def NodePlaysWrongFalsely : Prop := nodePlaysRow.holds Tryz.pinned (OpenSpec.ofChange nodePlaysWrong)

/-- 'matronlaw10.NodeNew': WHATEVER THE INPUT: true; the input reads as it did. -/
def nodeNewSpec : ChangeSpec := { name := "nodeNew", fn := fun _ => fun
  | [d1, d2, d3, d4] => { results := [.lit (.bool true)], args := [d1, d2, d3, d4] }
  | _ => none }
def nodeNewRow : OpenClaim := { program := "ytfakibajipmkjaagreat", sum := "083d640462534fcb7d448edd1020396181c96f618db4771fab7f1f588c338841", func := "matron/matronlaw10.NodeNew", spec := "nodeNew", unfollowed := true, recurses := true, apart := false }
def NodeNewSaid : Prop := nodeNewRow.holds Tryz.pinned (OpenSpec.ofChange nodeNewSpec)

/-- ITS FALSE NEIGHBOUR: 'it returns false'. Refute it at one input. -/
def nodeNewWrong : ChangeSpec := { name := "nodeNew", fn := fun _ => fun
  | [d1, d2, d3, d4] => { results := [.lit (.bool false)], args := [d1, d2, d3, d4] }
  | _ => none }
def NodeNewWrongFalsely : Prop := nodeNewRow.holds Tryz.pinned (OpenSpec.ofChange nodeNewWrong)

/-- 'matronlaw10.NodeOn': WHATEVER THE INPUT: true; the input reads as it did. -/
def nodeOnSpec : ChangeSpec := { name := "nodeOn", fn := fun _ => fun
  | [d1, d2] => { results := [.lit (.bool true)], args := [d1, d2] }
  | _ => none }
def nodeOnRow : OpenClaim := { program := "ytfakibajipmkjaagreat", sum := "083d640462534fcb7d448edd1020396181c96f618db4771fab7f1f588c338841", func := "matron/matronlaw10.NodeOn", spec := "nodeOn", unfollowed := true, recurses := true, apart := false }
def NodeOnSaid : Prop := nodeOnRow.holds Tryz.pinned (OpenSpec.ofChange nodeOnSpec)

/-- ITS FALSE NEIGHBOUR: 'it returns false'. Refute it at one input. -/
def nodeOnWrong : ChangeSpec := { name := "nodeOn", fn := fun _ => fun
  | [d1, d2] => { results := [.lit (.bool false)], args := [d1, d2] }
  | _ => none }
def NodeOnWrongFalsely : Prop := nodeOnRow.holds Tryz.pinned (OpenSpec.ofChange nodeOnWrong)

/-- 'matronlaw10.NodeListens': WHATEVER THE INPUT: true; the input reads as it did. -/
def nodeListensSpec : ChangeSpec := { name := "nodeListens", fn := fun _ => fun
  | [d1, d2, d3] => { results := [.lit (.bool true)], args := [d1, d2, d3] }
  | _ => none }
def nodeListensRow : OpenClaim := { program := "ytfakibajipmkjaagreat", sum := "083d640462534fcb7d448edd1020396181c96f618db4771fab7f1f588c338841", func := "matron/matronlaw10.NodeListens", spec := "nodeListens", unfollowed := true, recurses := true, apart := false }
def NodeListensSaid : Prop := nodeListensRow.holds Tryz.pinned (OpenSpec.ofChange nodeListensSpec)

/-- ITS FALSE NEIGHBOUR: 'it returns false'. Refute it at one input. -/
def nodeListensWrong : ChangeSpec := { name := "nodeListens", fn := fun _ => fun
  | [d1, d2, d3] => { results := [.lit (.bool false)], args := [d1, d2, d3] }
  | _ => none }
def NodeListensWrongFalsely : Prop := nodeListensRow.holds Tryz.pinned (OpenSpec.ofChange nodeListensWrong)

/-- 'matronlaw10.NodeJoins': WHATEVER THE INPUT: true; the input reads as it did. -/
def nodeJoinsSpec : ChangeSpec := { name := "nodeJoins", fn := fun _ => fun
  | [d1, d2, d3, d4, d5, d6] => { results := [.lit (.bool true)], args := [d1, d2, d3, d4, d5, d6] }
  | _ => none }
def nodeJoinsRow : OpenClaim := { program := "ytfakibajipmkjaagreat", sum := "083d640462534fcb7d448edd1020396181c96f618db4771fab7f1f588c338841", func := "matron/matronlaw10.NodeJoins", spec := "nodeJoins", unfollowed := true, recurses := true, apart := false }
def NodeJoinsSaid : Prop := nodeJoinsRow.holds Tryz.pinned (OpenSpec.ofChange nodeJoinsSpec)

/-- ITS FALSE NEIGHBOUR: 'it returns false'. Refute it at one input. -/
def nodeJoinsWrong : ChangeSpec := { name := "nodeJoins", fn := fun _ => fun
  | [d1, d2, d3, d4, d5, d6] => { results := [.lit (.bool false)], args := [d1, d2, d3, d4, d5, d6] }
  | _ => none }
def NodeJoinsWrongFalsely : Prop := nodeJoinsRow.holds Tryz.pinned (OpenSpec.ofChange nodeJoinsWrong)

/-- 'matronlaw10.NodeFreezes': WHATEVER THE INPUT: true; the input reads as it did. -/
def nodeFreezesSpec : ChangeSpec := { name := "nodeFreezes", fn := fun _ => fun
  | [d] => { results := [.lit (.bool true)], args := [d] }
  | _ => none }
def nodeFreezesRow : OpenClaim := { program := "ytfakibajipmkjaagreat", sum := "083d640462534fcb7d448edd1020396181c96f618db4771fab7f1f588c338841", func := "matron/matronlaw10.NodeFreezes", spec := "nodeFreezes", unfollowed := true, recurses := true, apart := false }
def NodeFreezesSaid : Prop := nodeFreezesRow.holds Tryz.pinned (OpenSpec.ofChange nodeFreezesSpec)

/-- ITS FALSE NEIGHBOUR: 'it returns false'. Refute it at one input. -/
def nodeFreezesWrong : ChangeSpec := { name := "nodeFreezes", fn := fun _ => fun
  | [d] => { results := [.lit (.bool false)], args := [d] }
  | _ => none }
def NodeFreezesWrongFalsely : Prop := nodeFreezesRow.holds Tryz.pinned (OpenSpec.ofChange nodeFreezesWrong)

/-- 'matronlaw10.NodeData': WHATEVER THE INPUT: true; the input reads as it did. -/
def nodeDataSpec : ChangeSpec := { name := "nodeData", fn := fun _ => fun
  | [d1, d2] => { results := [.lit (.bool true)], args := [d1, d2] }
  | _ => none }
def nodeDataRow : OpenClaim := { program := "ytfakibajipmkjaagreat", sum := "083d640462534fcb7d448edd1020396181c96f618db4771fab7f1f588c338841", func := "matron/matronlaw10.NodeData", spec := "nodeData", unfollowed := true, recurses := true, apart := false }
def NodeDataSaid : Prop := nodeDataRow.holds Tryz.pinned (OpenSpec.ofChange nodeDataSpec)

/-- ITS FALSE NEIGHBOUR: 'it returns false'. Refute it at one input. -/
def nodeDataWrong : ChangeSpec := { name := "nodeData", fn := fun _ => fun
  | [d1, d2] => { results := [.lit (.bool false)], args := [d1, d2] }
  | _ => none }
def NodeDataWrongFalsely : Prop := nodeDataRow.holds Tryz.pinned (OpenSpec.ofChange nodeDataWrong)

/-- 'matronlaw10.NodeOfNothing': WHATEVER THE INPUT: true; the input reads as it did. -/
def nodeOfNothingSpec : ChangeSpec := { name := "nodeOfNothing", fn := fun _ => fun
  | [d1, d2] => { results := [.lit (.bool true)], args := [d1, d2] }
  | _ => none }
def nodeOfNothingRow : OpenClaim := { program := "ytfakibajipmkjaagreat", sum := "083d640462534fcb7d448edd1020396181c96f618db4771fab7f1f588c338841", func := "matron/matronlaw10.NodeOfNothing", spec := "nodeOfNothing", unfollowed := true, recurses := true, apart := false }
def NodeOfNothingSaid : Prop := nodeOfNothingRow.holds Tryz.pinned (OpenSpec.ofChange nodeOfNothingSpec)

/-- ITS FALSE NEIGHBOUR: 'it returns false'. Refute it at one input. -/
def nodeOfNothingWrong : ChangeSpec := { name := "nodeOfNothing", fn := fun _ => fun
  | [d1, d2] => { results := [.lit (.bool false)], args := [d1, d2] }
  | _ => none }
def NodeOfNothingWrongFalsely : Prop := nodeOfNothingRow.holds Tryz.pinned (OpenSpec.ofChange nodeOfNothingWrong)

/-- 'matronlaw10.NodeActive': WHATEVER THE INPUT: true; the input reads as it did. -/
def nodeActiveSpec : ChangeSpec := { name := "nodeActive", fn := fun _ => fun
  | [d] => { results := [.lit (.bool true)], args := [d] }
  | _ => none }
def nodeActiveRow : OpenClaim := { program := "ytfakibajipmkjaagreat", sum := "083d640462534fcb7d448edd1020396181c96f618db4771fab7f1f588c338841", func := "matron/matronlaw10.NodeActive", spec := "nodeActive", unfollowed := true, recurses := true, apart := false }
def NodeActiveSaid : Prop := nodeActiveRow.holds Tryz.pinned (OpenSpec.ofChange nodeActiveSpec)

/-- ITS FALSE NEIGHBOUR: 'it returns false'. Refute it at one input. -/
def nodeActiveWrong : ChangeSpec := { name := "nodeActive", fn := fun _ => fun
  | [d] => { results := [.lit (.bool false)], args := [d] }
  | _ => none }
def NodeActiveWrongFalsely : Prop := nodeActiveRow.holds Tryz.pinned (OpenSpec.ofChange nodeActiveWrong)

/-- 'matronlaw10.NodeHears': WHATEVER THE INPUT: true; the input reads as it did. -/
def nodeHearsSpec : ChangeSpec := { name := "nodeHears", fn := fun _ => fun
  | [d1, d2, d3] => { results := [.lit (.bool true)], args := [d1, d2, d3] }
  | _ => none }
def nodeHearsRow : OpenClaim := { program := "ytfakibajipmkjaagreat", sum := "083d640462534fcb7d448edd1020396181c96f618db4771fab7f1f588c338841", func := "matron/matronlaw10.NodeHears", spec := "nodeHears", unfollowed := true, recurses := true, apart := false }
def NodeHearsSaid : Prop := nodeHearsRow.holds Tryz.pinned (OpenSpec.ofChange nodeHearsSpec)

/-- ITS FALSE NEIGHBOUR: 'it returns false'. Refute it at one input. -/
def nodeHearsWrong : ChangeSpec := { name := "nodeHears", fn := fun _ => fun
  | [d1, d2, d3] => { results := [.lit (.bool false)], args := [d1, d2, d3] }
  | _ => none }
def NodeHearsWrongFalsely : Prop := nodeHearsRow.holds Tryz.pinned (OpenSpec.ofChange nodeHearsWrong)

/-- 'matronlaw10.NodeState': WHATEVER THE INPUT: true; the input reads as it did. -/
def nodeStateSpec : ChangeSpec := { name := "nodeState", fn := fun _ => fun
  | [d1, d2] => { results := [.lit (.bool true)], args := [d1, d2] }
  | _ => none }
def nodeStateRow : OpenClaim := { program := "ytfakibajipmkjaagreat", sum := "083d640462534fcb7d448edd1020396181c96f618db4771fab7f1f588c338841", func := "matron/matronlaw10.NodeState", spec := "nodeState", unfollowed := true, recurses := true, apart := false }
def NodeStateSaid : Prop := nodeStateRow.holds Tryz.pinned (OpenSpec.ofChange nodeStateSpec)

/-- ITS FALSE NEIGHBOUR: 'it returns false'. Refute it at one input. -/
def nodeStateWrong : ChangeSpec := { name := "nodeState", fn := fun _ => fun
  | [d1, d2] => { results := [.lit (.bool false)], args := [d1, d2] }
  | _ => none }
def NodeStateWrongFalsely : Prop := nodeStateRow.holds Tryz.pinned (OpenSpec.ofChange nodeStateWrong)

/-- 'matronlaw10.NodeOff': WHATEVER THE INPUT: true; the input reads as it did. -/
def nodeOffSpec : ChangeSpec := { name := "nodeOff", fn := fun _ => fun
  | [d1, d2] => { results := [.lit (.bool true)], args := [d1, d2] }
  | _ => none }
def nodeOffRow : OpenClaim := { program := "ytfakibajipmkjaagreat", sum := "083d640462534fcb7d448edd1020396181c96f618db4771fab7f1f588c338841", func := "matron/matronlaw10.NodeOff", spec := "nodeOff", unfollowed := true, recurses := true, apart := false }
def NodeOffSaid : Prop := nodeOffRow.holds Tryz.pinned (OpenSpec.ofChange nodeOffSpec)

/-- ITS FALSE NEIGHBOUR: 'it returns false'. Refute it at one input. -/
def nodeOffWrong : ChangeSpec := { name := "nodeOff", fn := fun _ => fun
  | [d1, d2] => { results := [.lit (.bool false)], args := [d1, d2] }
  | _ => none }
def NodeOffWrongFalsely : Prop := nodeOffRow.holds Tryz.pinned (OpenSpec.ofChange nodeOffWrong)

/- THE SECOND FORM. 'bulk': how many values and letters a reading holds, each counted each time it is reached (what is shared counts as often as it is met; a slice's spare places count too). A statement '..UptoSaid' is the law's where the arguments, and the package variables that the reading takes, are together of bulk at most 1048576: NARROWER than '..Said'. Prove '..Said' where nothing that the law and all that it calls make is longer than what came in: it says more and counts as full. Else prove '..UptoSaid'. A law counts once. -/
mutual
def uptoBulk {H : Type} : DataW H → Nat
  | .lit (.string bytes) => bytes.length + 1
  | .lit _ => 1
  | .nil => 1
  | .ptr d => uptoBulk d + 1
  | .slice elems spare => uptoBulkAll elems + uptoBulkAll spare + 1
  | .agg parts => uptoBulkAll parts + 1
  | .iface _ d => uptoBulk d + 1
  | .map entries => uptoBulkEntries entries + 1
  | .held _ => 1
def uptoBulkAll {H : Type} : List (DataW H) → Nat
  | [] => 0
  | d :: r => uptoBulk d + uptoBulkAll r
def uptoBulkEntries {H : Type} : List (Lit × DataW H) → Nat
  | [] => 0
  | x :: r => uptoBulkEntry x + uptoBulkEntries r
def uptoBulkEntry {H : Type} : Lit × DataW H → Nat
  | (.string bytes, d) => bytes.length + uptoBulk d + 1
  | (_, d) => uptoBulk d + 1
 end
def uptoSmall : (H : Type) → List (DataW H) → Bool := fun _ ds => decide (uptoBulkAll ds ≤ 1048576)
def OpenSpec.upto (s : _root_.Go.ChangeSpec) : _root_.Go.OpenSpec := { _root_.Go.OpenSpec.ofChange s with cond := some uptoSmall }

/-- 'matronlaw10.NodePlays', WHERE WHAT IT READS IS OF BULK AT MOST 1048576: true; the input reads as it did. -/
def nodePlaysUptoRow : OpenClaim := { program := "ytfakibajipmkjaagreat", sum := "083d640462534fcb7d448edd1020396181c96f618db4771fab7f1f588c338841", func := "matron/matronlaw10.NodePlays", spec := "nodePlays", unfollowed := true, recurses := true, apart := false, narrowed := true }
def NodePlaysUptoSaid : Prop := nodePlaysUptoRow.holds Tryz.pinned (OpenSpec.upto nodePlaysSpec)

/-- 'matronlaw10.NodeNew', WHERE WHAT IT READS IS OF BULK AT MOST 1048576: true; the input reads as it did. -/
def nodeNewUptoRow : OpenClaim := { program := "ytfakibajipmkjaagreat", sum := "083d640462534fcb7d448edd1020396181c96f618db4771fab7f1f588c338841", func := "matron/matronlaw10.NodeNew", spec := "nodeNew", unfollowed := true, recurses := true, apart := false, narrowed := true }
def NodeNewUptoSaid : Prop := nodeNewUptoRow.holds Tryz.pinned (OpenSpec.upto nodeNewSpec)

/-- 'matronlaw10.NodeOn', WHERE WHAT IT READS IS OF BULK AT MOST 1048576: true; the input reads as it did. -/
def nodeOnUptoRow : OpenClaim := { program := "ytfakibajipmkjaagreat", sum := "083d640462534fcb7d448edd1020396181c96f618db4771fab7f1f588c338841", func := "matron/matronlaw10.NodeOn", spec := "nodeOn", unfollowed := true, recurses := true, apart := false, narrowed := true }
def NodeOnUptoSaid : Prop := nodeOnUptoRow.holds Tryz.pinned (OpenSpec.upto nodeOnSpec)

/-- 'matronlaw10.NodeListens', WHERE WHAT IT READS IS OF BULK AT MOST 1048576: true; the input reads as it did. -/
def nodeListensUptoRow : OpenClaim := { program := "ytfakibajipmkjaagreat", sum := "083d640462534fcb7d448edd1020396181c96f618db4771fab7f1f588c338841", func := "matron/matronlaw10.NodeListens", spec := "nodeListens", unfollowed := true, recurses := true, apart := false, narrowed := true }
def NodeListensUptoSaid : Prop := nodeListensUptoRow.holds Tryz.pinned (OpenSpec.upto nodeListensSpec)

/-- 'matronlaw10.NodeJoins', WHERE WHAT IT READS IS OF BULK AT MOST 1048576: true; the input reads as it did. -/
def nodeJoinsUptoRow : OpenClaim := { program := "ytfakibajipmkjaagreat", sum := "083d640462534fcb7d448edd1020396181c96f618db4771fab7f1f588c338841", func := "matron/matronlaw10.NodeJoins", spec := "nodeJoins", unfollowed := true, recurses := true, apart := false, narrowed := true }
def NodeJoinsUptoSaid : Prop := nodeJoinsUptoRow.holds Tryz.pinned (OpenSpec.upto nodeJoinsSpec)

/-- 'matronlaw10.NodeFreezes', WHERE WHAT IT READS IS OF BULK AT MOST 1048576: true; the input reads as it did. -/
def nodeFreezesUptoRow : OpenClaim := { program := "ytfakibajipmkjaagreat", sum := "083d640462534fcb7d448edd1020396181c96f618db4771fab7f1f588c338841", func := "matron/matronlaw10.NodeFreezes", spec := "nodeFreezes", unfollowed := true, recurses := true, apart := false, narrowed := true }
def NodeFreezesUptoSaid : Prop := nodeFreezesUptoRow.holds Tryz.pinned (OpenSpec.upto nodeFreezesSpec)

/-- 'matronlaw10.NodeData', WHERE WHAT IT READS IS OF BULK AT MOST 1048576: true; the input reads as it did. -/
def nodeDataUptoRow : OpenClaim := { program := "ytfakibajipmkjaagreat", sum := "083d640462534fcb7d448edd1020396181c96f618db4771fab7f1f588c338841", func := "matron/matronlaw10.NodeData", spec := "nodeData", unfollowed := true, recurses := true, apart := false, narrowed := true }
def NodeDataUptoSaid : Prop := nodeDataUptoRow.holds Tryz.pinned (OpenSpec.upto nodeDataSpec)

/-- 'matronlaw10.NodeOfNothing', WHERE WHAT IT READS IS OF BULK AT MOST 1048576: true; the input reads as it did. -/
def nodeOfNothingUptoRow : OpenClaim := { program := "ytfakibajipmkjaagreat", sum := "083d640462534fcb7d448edd1020396181c96f618db4771fab7f1f588c338841", func := "matron/matronlaw10.NodeOfNothing", spec := "nodeOfNothing", unfollowed := true, recurses := true, apart := false, narrowed := true }
def NodeOfNothingUptoSaid : Prop := nodeOfNothingUptoRow.holds Tryz.pinned (OpenSpec.upto nodeOfNothingSpec)

/-- 'matronlaw10.NodeActive', WHERE WHAT IT READS IS OF BULK AT MOST 1048576: true; the input reads as it did. -/
def nodeActiveUptoRow : OpenClaim := { program := "ytfakibajipmkjaagreat", sum := "083d640462534fcb7d448edd1020396181c96f618db4771fab7f1f588c338841", func := "matron/matronlaw10.NodeActive", spec := "nodeActive", unfollowed := true, recurses := true, apart := false, narrowed := true }
def NodeActiveUptoSaid : Prop := nodeActiveUptoRow.holds Tryz.pinned (OpenSpec.upto nodeActiveSpec)

/-- 'matronlaw10.NodeHears', WHERE WHAT IT READS IS OF BULK AT MOST 1048576: true; the input reads as it did. -/
def nodeHearsUptoRow : OpenClaim := { program := "ytfakibajipmkjaagreat", sum := "083d640462534fcb7d448edd1020396181c96f618db4771fab7f1f588c338841", func := "matron/matronlaw10.NodeHears", spec := "nodeHears", unfollowed := true, recurses := true, apart := false, narrowed := true }
def NodeHearsUptoSaid : Prop := nodeHearsUptoRow.holds Tryz.pinned (OpenSpec.upto nodeHearsSpec)

/-- 'matronlaw10.NodeState', WHERE WHAT IT READS IS OF BULK AT MOST 1048576: true; the input reads as it did. -/
def nodeStateUptoRow : OpenClaim := { program := "ytfakibajipmkjaagreat", sum := "083d640462534fcb7d448edd1020396181c96f618db4771fab7f1f588c338841", func := "matron/matronlaw10.NodeState", spec := "nodeState", unfollowed := true, recurses := true, apart := false, narrowed := true }
def NodeStateUptoSaid : Prop := nodeStateUptoRow.holds Tryz.pinned (OpenSpec.upto nodeStateSpec)

/-- 'matronlaw10.NodeOff', WHERE WHAT IT READS IS OF BULK AT MOST 1048576: true; the input reads as it did. -/
def nodeOffUptoRow : OpenClaim := { program := "ytfakibajipmkjaagreat", sum := "083d640462534fcb7d448edd1020396181c96f618db4771fab7f1f588c338841", func := "matron/matronlaw10.NodeOff", spec := "nodeOff", unfollowed := true, recurses := true, apart := false, narrowed := true }
def NodeOffUptoSaid : Prop := nodeOffUptoRow.holds Tryz.pinned (OpenSpec.upto nodeOffSpec)

end Rows
end Go.Proofs.YtfakibajipmkjaaGreat
