/-
  No cell of these rows narrows 'for every input' (looked for: loops, veiled, ifaces, maps, wideKeys, modest, calm, conditions, laid).
  DERIVED. THE GIVEN ROWS OF THIS SEAT. 7 by the template 'for every input the law returns true; each argument reads behind the call as it read before'; 0 by the template 'total and deterministic' (their statements: YtkaeikjfegjpjaaTotals.lean).
  GIVEN WITH THE SEED: the statements are not yours to turn. If you find one false, say at which input.
  Laid BY PROGRAM, IN A SANDBOX (cutbox-rows.mjs): the forced cells as the released guide's own fill.sh prints them over the translation b1f0701945e9dd91… (all of the seat's roots in one cut). By AI agents, Wed Nov 11 2026. No macro, syntax, notation, axiom, sorry.
-/
import Derived.Test.YtkaeikjfegjpjaaChecked
import GoSem.Claim
import GoSem.ClaimJoined
import GoSem.ClaimMapViews
import Derived.JoinedTies
import Derived.KernelRfl
namespace Go.Proofs.Ytkaeikjfegjpjaa
/- THE CELL 'sum', in the pinned program and in every row, IS THE sha256 OF THE DUMP (.gsa) THAT YtkaeikjfegjpjaaProg.lean LOADS. Nothing in Lean hashes anything: it is a label: what it is worth is what the hold of that sum in a sandbox is worth. -/
noncomputable def Try.pinned : Pinned := { name := "ytkaeikjfegjpjaa", sum := "b1f0701945e9dd917aa4cef3ddb4eb0dc48ed536f448593fd6e30da5c21154df", checked := Try.checked }
namespace Rows
def none {H : Type} : Left H := { results := [], args := [] }

/-- 'matronlaw13.AuditFair': WHATEVER THE INPUT: true; the input reads as it did. -/
def auditFairSpec : ChangeSpec := { name := "auditFair", fn := fun _ => fun
  | [d1, d2] => { results := [.lit (.bool true)], args := [d1, d2] }
  | _ => none }
def auditFairRow : OpenClaim := { program := "ytkaeikjfegjpjaa", sum := "b1f0701945e9dd917aa4cef3ddb4eb0dc48ed536f448593fd6e30da5c21154df", func := "matron/matronlaw13.AuditFair", spec := "auditFair", unfollowed := true, recurses := true, apart := false }
def AuditFairSaid : Prop := auditFairRow.holds Try.pinned (OpenSpec.ofChange auditFairSpec)

/-- ITS FALSE NEIGHBOUR: 'it returns false'. Refute it at one input. -/
def auditFairWrong : ChangeSpec := { name := "auditFair", fn := fun _ => fun
  | [d1, d2] => { results := [.lit (.bool false)], args := [d1, d2] }
  | _ => none }
def AuditFairWrongFalsely : Prop := auditFairRow.holds Try.pinned (OpenSpec.ofChange auditFairWrong)

/-- 'matronlaw13.AuditFew': WHATEVER THE INPUT: true; the input reads as it did. -/
def auditFewSpec : ChangeSpec := { name := "auditFew", fn := fun _ => fun
  | [d1, d2, d3] => { results := [.lit (.bool true)], args := [d1, d2, d3] }
  | _ => none }
def auditFewRow : OpenClaim := { program := "ytkaeikjfegjpjaa", sum := "b1f0701945e9dd917aa4cef3ddb4eb0dc48ed536f448593fd6e30da5c21154df", func := "matron/matronlaw13.AuditFew", spec := "auditFew", unfollowed := true, recurses := true, apart := false }
def AuditFewSaid : Prop := auditFewRow.holds Try.pinned (OpenSpec.ofChange auditFewSpec)

/-- ITS FALSE NEIGHBOUR: 'it returns false'. Refute it at one input. -/
def auditFewWrong : ChangeSpec := { name := "auditFew", fn := fun _ => fun
  | [d1, d2, d3] => { results := [.lit (.bool false)], args := [d1, d2, d3] }
  | _ => none }
def AuditFewWrongFalsely : Prop := auditFewRow.holds Try.pinned (OpenSpec.ofChange auditFewWrong)

/-- 'matronlaw13.AuditFaults': WHATEVER THE INPUT: true; the input reads as it did. -/
def auditFaultsSpec : ChangeSpec := { name := "auditFaults", fn := fun _ => fun
  | [d1, d2] => { results := [.lit (.bool true)], args := [d1, d2] }
  | _ => none }
def auditFaultsRow : OpenClaim := { program := "ytkaeikjfegjpjaa", sum := "b1f0701945e9dd917aa4cef3ddb4eb0dc48ed536f448593fd6e30da5c21154df", func := "matron/matronlaw13.AuditFaults", spec := "auditFaults", unfollowed := true, recurses := true, apart := false }
def AuditFaultsSaid : Prop := auditFaultsRow.holds Try.pinned (OpenSpec.ofChange auditFaultsSpec)

/-- ITS FALSE NEIGHBOUR: 'it returns false'. Refute it at one input. -/
def auditFaultsWrong : ChangeSpec := { name := "auditFaults", fn := fun _ => fun
  | [d1, d2] => { results := [.lit (.bool false)], args := [d1, d2] }
  | _ => none }
def AuditFaultsWrongFalsely : Prop := auditFaultsRow.holds Try.pinned (OpenSpec.ofChange auditFaultsWrong)

/-- 'matronlaw13.AuditLead': WHATEVER THE INPUT: true; the input reads as it did. -/
def auditLeadSpec : ChangeSpec := { name := "auditLead", fn := fun _ => fun
  | [d] => { results := [.lit (.bool true)], args := [d] }
  | _ => none }
def auditLeadRow : OpenClaim := { program := "ytkaeikjfegjpjaa", sum := "b1f0701945e9dd917aa4cef3ddb4eb0dc48ed536f448593fd6e30da5c21154df", func := "matron/matronlaw13.AuditLead", spec := "auditLead", unfollowed := true, recurses := true, apart := false }
def AuditLeadSaid : Prop := auditLeadRow.holds Try.pinned (OpenSpec.ofChange auditLeadSpec)

/-- ITS FALSE NEIGHBOUR: 'it returns false'. Refute it at one input. -/
def auditLeadWrong : ChangeSpec := { name := "auditLead", fn := fun _ => fun
  | [d] => { results := [.lit (.bool false)], args := [d] }
  | _ => none }
def AuditLeadWrongFalsely : Prop := auditLeadRow.holds Try.pinned (OpenSpec.ofChange auditLeadWrong)

/-- 'matronlaw13.AuditHit': WHATEVER THE INPUT: true; the input reads as it did. -/
def auditHitSpec : ChangeSpec := { name := "auditHit", fn := fun _ => fun
  | [d1, d2, d3] => { results := [.lit (.bool true)], args := [d1, d2, d3] }
  | _ => none }
def auditHitRow : OpenClaim := { program := "ytkaeikjfegjpjaa", sum := "b1f0701945e9dd917aa4cef3ddb4eb0dc48ed536f448593fd6e30da5c21154df", func := "matron/matronlaw13.AuditHit", spec := "auditHit", unfollowed := true, recurses := true, apart := false }
def AuditHitSaid : Prop := auditHitRow.holds Try.pinned (OpenSpec.ofChange auditHitSpec)

/-- ITS FALSE NEIGHBOUR: 'it returns false'. Refute it at one input. -/
def auditHitWrong : ChangeSpec := { name := "auditHit", fn := fun _ => fun
  | [d1, d2, d3] => { results := [.lit (.bool false)], args := [d1, d2, d3] }
  | _ => none }
def AuditHitWrongFalsely : Prop := auditHitRow.holds Try.pinned (OpenSpec.ofChange auditHitWrong)

/-- 'matronlaw13.AuditActs': WHATEVER THE INPUT: true; the input reads as it did. -/
def auditActsSpec : ChangeSpec := { name := "auditActs", fn := fun _ => fun
  | [d1, d2, d3] => { results := [.lit (.bool true)], args := [d1, d2, d3] }
  | _ => none }
def auditActsRow : OpenClaim := { program := "ytkaeikjfegjpjaa", sum := "b1f0701945e9dd917aa4cef3ddb4eb0dc48ed536f448593fd6e30da5c21154df", func := "matron/matronlaw13.AuditActs", spec := "auditActs", unfollowed := true, recurses := true, apart := false }
def AuditActsSaid : Prop := auditActsRow.holds Try.pinned (OpenSpec.ofChange auditActsSpec)

/-- ITS FALSE NEIGHBOUR: 'it returns false'. Refute it at one input. -/
def auditActsWrong : ChangeSpec := { name := "auditActs", fn := fun _ => fun
  | [d1, d2, d3] => { results := [.lit (.bool false)], args := [d1, d2, d3] }
  | _ => none }
def AuditActsWrongFalsely : Prop := auditActsRow.holds Try.pinned (OpenSpec.ofChange auditActsWrong)

/-- 'matronlaw13.AuditLate': WHATEVER THE INPUT: true; the input reads as it did. -/
def auditLateSpec : ChangeSpec := { name := "auditLate", fn := fun _ => fun
  | [d1, d2] => { results := [.lit (.bool true)], args := [d1, d2] }
  | _ => none }
def auditLateRow : OpenClaim := { program := "ytkaeikjfegjpjaa", sum := "b1f0701945e9dd917aa4cef3ddb4eb0dc48ed536f448593fd6e30da5c21154df", func := "matron/matronlaw13.AuditLate", spec := "auditLate", unfollowed := true, recurses := true, apart := false }
def AuditLateSaid : Prop := auditLateRow.holds Try.pinned (OpenSpec.ofChange auditLateSpec)

/-- ITS FALSE NEIGHBOUR: 'it returns false'. Refute it at one input. -/
def auditLateWrong : ChangeSpec := { name := "auditLate", fn := fun _ => fun
  | [d1, d2] => { results := [.lit (.bool false)], args := [d1, d2] }
  | _ => none }
def AuditLateWrongFalsely : Prop := auditLateRow.holds Try.pinned (OpenSpec.ofChange auditLateWrong)

/- THE SECOND FORM. 'bulk': how many values and letters a reading holds, each counted each time it is reached (what is shared counts as often as it is met; a slice's spare places count too). A statement '..UptoSaid' is the law's where the arguments, and the package variables that the reading takes, are together of bulk at most 1048576: NARROWER than '..Said'. Prove '..Said' where nothing that the law and all that it calls make is longer than what came in: it says more and counts as full. Else prove '..UptoSaid'. A law counts once. -/
mutual
def uptoBulk {H : Type} : DataW H → Nat
  | .lit (.string bytes) => bytes.length + 1
  | .lit _ => 1
  | .nil => 1
  | .ptr d => uptoBulk d + 1
  | .slice elems spare => uptoBulkAll elems + uptoBulkAll spare + 1
  | .agg parts => uptoBulkAll parts + 1
  | .iface _ d => uptoBulk d + 1
  | .map entries => uptoBulkEntries entries + 1
  | .held _ => 1
def uptoBulkAll {H : Type} : List (DataW H) → Nat
  | [] => 0
  | d :: r => uptoBulk d + uptoBulkAll r
def uptoBulkEntries {H : Type} : List (Lit × DataW H) → Nat
  | [] => 0
  | x :: r => uptoBulkEntry x + uptoBulkEntries r
def uptoBulkEntry {H : Type} : Lit × DataW H → Nat
  | (.string bytes, d) => bytes.length + uptoBulk d + 1
  | (_, d) => uptoBulk d + 1
 end
def uptoSmall : (H : Type) → List (DataW H) → Bool := fun _ ds => decide (uptoBulkAll ds ≤ 1048576)
def OpenSpec.upto (s : _root_.Go.ChangeSpec) : _root_.Go.OpenSpec := { _root_.Go.OpenSpec.ofChange s with cond := some uptoSmall }

/-- 'matronlaw13.AuditFair', WHERE WHAT IT READS IS OF BULK AT MOST 1048576: true; the input reads as it did. -/
def auditFairUptoRow : OpenClaim := { program := "ytkaeikjfegjpjaa", sum := "b1f0701945e9dd917aa4cef3ddb4eb0dc48ed536f448593fd6e30da5c21154df", func := "matron/matronlaw13.AuditFair", spec := "auditFair", unfollowed := true, recurses := true, apart := false, narrowed := true }
def AuditFairUptoSaid : Prop := auditFairUptoRow.holds Try.pinned (OpenSpec.upto auditFairSpec)

/-- 'matronlaw13.AuditFew', WHERE WHAT IT READS IS OF BULK AT MOST 1048576: true; the input reads as it did. -/
def auditFewUptoRow : OpenClaim := { program := "ytkaeikjfegjpjaa", sum := "b1f0701945e9dd917aa4cef3ddb4eb0dc48ed536f448593fd6e30da5c21154df", func := "matron/matronlaw13.AuditFew", spec := "auditFew", unfollowed := true, recurses := true, apart := false, narrowed := true }
def AuditFewUptoSaid : Prop := auditFewUptoRow.holds Try.pinned (OpenSpec.upto auditFewSpec)

/-- 'matronlaw13.AuditFaults', WHERE WHAT IT READS IS OF BULK AT MOST 1048576: true; the input reads as it did. -/
def auditFaultsUptoRow : OpenClaim := { program := "ytkaeikjfegjpjaa", sum := "b1f0701945e9dd917aa4cef3ddb4eb0dc48ed536f448593fd6e30da5c21154df", func := "matron/matronlaw13.AuditFaults", spec := "auditFaults", unfollowed := true, recurses := true, apart := false, narrowed := true }
def AuditFaultsUptoSaid : Prop := auditFaultsUptoRow.holds Try.pinned (OpenSpec.upto auditFaultsSpec)

/-- 'matronlaw13.AuditLead', WHERE WHAT IT READS IS OF BULK AT MOST 1048576: true; the input reads as it did. -/
def auditLeadUptoRow : OpenClaim := { program := "ytkaeikjfegjpjaa", sum := "b1f0701945e9dd917aa4cef3ddb4eb0dc48ed536f448593fd6e30da5c21154df", func := "matron/matronlaw13.AuditLead", spec := "auditLead", unfollowed := true, recurses := true, apart := false, narrowed := true }
def AuditLeadUptoSaid : Prop := auditLeadUptoRow.holds Try.pinned (OpenSpec.upto auditLeadSpec)

/-- 'matronlaw13.AuditHit', WHERE WHAT IT READS IS OF BULK AT MOST 1048576: true; the input reads as it did. -/
def auditHitUptoRow : OpenClaim := { program := "ytkaeikjfegjpjaa", sum := "b1f0701945e9dd917aa4cef3ddb4eb0dc48ed536f448593fd6e30da5c21154df", func := "matron/matronlaw13.AuditHit", spec := "auditHit", unfollowed := true, recurses := true, apart := false, narrowed := true }
def AuditHitUptoSaid : Prop := auditHitUptoRow.holds Try.pinned (OpenSpec.upto auditHitSpec)

/-- 'matronlaw13.AuditActs', WHERE WHAT IT READS IS OF BULK AT MOST 1048576: true; the input reads as it did. -/
def auditActsUptoRow : OpenClaim := { program := "ytkaeikjfegjpjaa", sum := "b1f0701945e9dd917aa4cef3ddb4eb0dc48ed536f448593fd6e30da5c21154df", func := "matron/matronlaw13.AuditActs", spec := "auditActs", unfollowed := true, recurses := true, apart := false, narrowed := true }
def AuditActsUptoSaid : Prop := auditActsUptoRow.holds Try.pinned (OpenSpec.upto auditActsSpec)

/-- 'matronlaw13.AuditLate', WHERE WHAT IT READS IS OF BULK AT MOST 1048576: true; the input reads as it did. -/
def auditLateUptoRow : OpenClaim := { program := "ytkaeikjfegjpjaa", sum := "b1f0701945e9dd917aa4cef3ddb4eb0dc48ed536f448593fd6e30da5c21154df", func := "matron/matronlaw13.AuditLate", spec := "auditLate", unfollowed := true, recurses := true, apart := false, narrowed := true }
def AuditLateUptoSaid : Prop := auditLateUptoRow.holds Try.pinned (OpenSpec.upto auditLateSpec)

end Rows
end Go.Proofs.Ytkaeikjfegjpjaa
