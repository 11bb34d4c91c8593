/-
  No cell of these rows narrows 'for every input' (looked for: loops, veiled, ifaces, maps, wideKeys, modest, calm, conditions, laid).
  DERIVED. THE GIVEN ROWS OF THIS SEAT. 3 by the template 'for every input the law returns true; each argument reads behind the call as it read before'; 0 by the template 'total and deterministic' (their statements: YteadkhigkmijiaaGreatTotals.lean).
  GIVEN WITH THE SEED: the statements are not yours to turn. If you find one false, say at which input.
  Laid BY PROGRAM, IN A SANDBOX (cutbox-rows.mjs): the forced cells as the released guide's own fill.sh prints them over the translation 1dd9f5db2c00c557… (all of the seat's roots in one cut). By AI agents, Wed Nov 11 2026. No macro, syntax, notation, axiom, sorry.
-/
import Derived.Test.YteadkhigkmijiaaGreatChecked
import GoSem.Claim
import GoSem.ClaimJoined
import GoSem.ClaimMapViews
import Derived.JoinedTies
import Derived.KernelRfl
namespace Go.Proofs.YteadkhigkmijiaaGreat
/- THE CELL 'sum', in the pinned program and in every row, IS THE sha256 OF THE DUMP (.gsa) THAT YteadkhigkmijiaaGreatProg.lean LOADS. Nothing in Lean hashes anything: it is a label: what it is worth is what the hold of that sum in a sandbox is worth. -/
noncomputable def Tryz.pinned : Pinned := { name := "yteadkhigkmijiaagreat", sum := "1dd9f5db2c00c557f69ad853c7749caf2b9061ea659632f96784bf0ea88e6842", checked := Tryz.checked }
namespace Rows
def none {H : Type} : Left H := { results := [], args := [] }

/-- 'matronlaw12.WardPlays': WHATEVER THE INPUT: true; the input reads as it did. -/
def wardPlaysSpec : ChangeSpec := { name := "wardPlays", fn := fun _ => fun
  | [d1, d2, d3] => { results := [.lit (.bool true)], args := [d1, d2, d3] }
  | _ => none }
def wardPlaysRow : OpenClaim := { program := "yteadkhigkmijiaagreat", sum := "1dd9f5db2c00c557f69ad853c7749caf2b9061ea659632f96784bf0ea88e6842", func := "matron/matronlaw12.WardPlays", spec := "wardPlays", unfollowed := true, recurses := true, apart := false }
def WardPlaysSaid : Prop := wardPlaysRow.holds Tryz.pinned (OpenSpec.ofChange wardPlaysSpec)

/-- ITS FALSE NEIGHBOUR: 'it returns false'. Refute it at one input. -/
def wardPlaysWrong : ChangeSpec := { name := "wardPlays", fn := fun _ => fun
  | [d1, d2, d3] => { results := [.lit (.bool false)], args := [d1, d2, d3] }
  | _ => none }
def WardPlaysWrongFalsely : Prop := wardPlaysRow.holds Tryz.pinned (OpenSpec.ofChange wardPlaysWrong)

/-- 'matronlaw12.WardErrs': WHATEVER THE INPUT: true; the input reads as it did. -/
def wardErrsSpec : ChangeSpec := { name := "wardErrs", fn := fun _ => fun
  | [d1, d2, d3] => { results := [.lit (.bool true)], args := [d1, d2, d3] }
  | _ => none }
def wardErrsRow : OpenClaim := { program := "yteadkhigkmijiaagreat", sum := "1dd9f5db2c00c557f69ad853c7749caf2b9061ea659632f96784bf0ea88e6842", func := "matron/matronlaw12.WardErrs", spec := "wardErrs", unfollowed := true, recurses := true, apart := false }
def WardErrsSaid : Prop := wardErrsRow.holds Tryz.pinned (OpenSpec.ofChange wardErrsSpec)

/-- ITS FALSE NEIGHBOUR: 'it returns false'. Refute it at one input. -/
def wardErrsWrong : ChangeSpec := { name := "wardErrs", fn := fun _ => fun
  | [d1, d2, d3] => { results := [.lit (.bool false)], args := [d1, d2, d3] }
  | _ => none }
def WardErrsWrongFalsely : Prop := wardErrsRow.holds Tryz.pinned (OpenSpec.ofChange wardErrsWrong)

/-- 'matronlaw13.AuditTells': WHATEVER THE INPUT: true; the input reads as it did. -/
def auditTellsSpec : ChangeSpec := { name := "auditTells", fn := fun _ => fun
  | [d1, d2, d3, d4] => { results := [.lit (.bool true)], args := [d1, d2, d3, d4] }
  | _ => none }
def auditTellsRow : OpenClaim := { program := "yteadkhigkmijiaagreat", sum := "1dd9f5db2c00c557f69ad853c7749caf2b9061ea659632f96784bf0ea88e6842", func := "matron/matronlaw13.AuditTells", spec := "auditTells", unfollowed := true, recurses := true, apart := false }
def AuditTellsSaid : Prop := auditTellsRow.holds Tryz.pinned (OpenSpec.ofChange auditTellsSpec)

/-- ITS FALSE NEIGHBOUR: 'it returns false'. Refute it at one input. -/
def auditTellsWrong : ChangeSpec := { name := "auditTells", fn := fun _ => fun
  | [d1, d2, d3, d4] => { results := [.lit (.bool false)], args := [d1, d2, d3, d4] }
  | _ => none }
def AuditTellsWrongFalsely : Prop := auditTellsRow.holds Tryz.pinned (OpenSpec.ofChange auditTellsWrong)

/- THE SECOND FORM. 'bulk': how many values and letters a reading holds, each counted each time it is reached (what is shared counts as often as it is met; a slice's spare places count too). A statement '..UptoSaid' is the law's where the arguments, and the package variables that the reading takes, are together of bulk at most 1048576: NARROWER than '..Said'. Prove '..Said' where nothing that the law and all that it calls make is longer than what came in: it says more and counts as full. Else prove '..UptoSaid'. A law counts once. -/
mutual
def uptoBulk {H : Type} : DataW H → Nat
  | .lit (.string bytes) => bytes.length + 1
  | .lit _ => 1
  | .nil => 1
  | .ptr d => uptoBulk d + 1
  | .slice elems spare => uptoBulkAll elems + uptoBulkAll spare + 1
  | .agg parts => uptoBulkAll parts + 1
  | .iface _ d => uptoBulk d + 1
  | .map entries => uptoBulkEntries entries + 1
  | .held _ => 1
def uptoBulkAll {H : Type} : List (DataW H) → Nat
  | [] => 0
  | d :: r => uptoBulk d + uptoBulkAll r
def uptoBulkEntries {H : Type} : List (Lit × DataW H) → Nat
  | [] => 0
  | x :: r => uptoBulkEntry x + uptoBulkEntries r
def uptoBulkEntry {H : Type} : Lit × DataW H → Nat
  | (.string bytes, d) => bytes.length + uptoBulk d + 1
  | (_, d) => uptoBulk d + 1
 end
def uptoSmall : (H : Type) → List (DataW H) → Bool := fun _ ds => decide (uptoBulkAll ds ≤ 1048576)
def OpenSpec.upto (s : _root_.Go.ChangeSpec) : _root_.Go.OpenSpec := { _root_.Go.OpenSpec.ofChange s with cond := some uptoSmall }

/-- 'matronlaw12.WardPlays', WHERE WHAT IT READS IS OF BULK AT MOST 1048576: true; the input reads as it did. -/
def wardPlaysUptoRow : OpenClaim := { program := "yteadkhigkmijiaagreat", sum := "1dd9f5db2c00c557f69ad853c7749caf2b9061ea659632f96784bf0ea88e6842", func := "matron/matronlaw12.WardPlays", spec := "wardPlays", unfollowed := true, recurses := true, apart := false, narrowed := true }
def WardPlaysUptoSaid : Prop := wardPlaysUptoRow.holds Tryz.pinned (OpenSpec.upto wardPlaysSpec)

/-- 'matronlaw12.WardErrs', WHERE WHAT IT READS IS OF BULK AT MOST 1048576: true; the input reads as it did. -/
def wardErrsUptoRow : OpenClaim := { program := "yteadkhigkmijiaagreat", sum := "1dd9f5db2c00c557f69ad853c7749caf2b9061ea659632f96784bf0ea88e6842", func := "matron/matronlaw12.WardErrs", spec := "wardErrs", unfollowed := true, recurses := true, apart := false, narrowed := true }
def WardErrsUptoSaid : Prop := wardErrsUptoRow.holds Tryz.pinned (OpenSpec.upto wardErrsSpec)

/-- 'matronlaw13.AuditTells', WHERE WHAT IT READS IS OF BULK AT MOST 1048576: true; the input reads as it did. -/
def auditTellsUptoRow : OpenClaim := { program := "yteadkhigkmijiaagreat", sum := "1dd9f5db2c00c557f69ad853c7749caf2b9061ea659632f96784bf0ea88e6842", func := "matron/matronlaw13.AuditTells", spec := "auditTells", unfollowed := true, recurses := true, apart := false, narrowed := true }
def AuditTellsUptoSaid : Prop := auditTellsUptoRow.holds Tryz.pinned (OpenSpec.upto auditTellsSpec)

end Rows
end Go.Proofs.YteadkhigkmijiaaGreat
