/-
  No cell of these rows narrows 'for every input' (looked for: loops, veiled, ifaces, maps, wideKeys, modest, calm, conditions, laid).
  DERIVED. THE GIVEN ROWS OF THIS SEAT. 9 by the template 'for every input the law returns true; each argument reads behind the call as it read before'; 0 by the template 'total and deterministic' (their statements: YtiaidachigiajaaTotals.lean).
  GIVEN WITH THE SEED: the statements are not yours to turn. If you find one false, say at which input.
  Laid BY PROGRAM, IN A SANDBOX (cutbox-rows.mjs): the forced cells as the released guide's own fill.sh prints them over the translation 7cc85aa12740ee82… (all of the seat's roots in one cut). By AI agents, Wed Nov 11 2026. No macro, syntax, notation, axiom, sorry.
-/
import Derived.Test.YtiaidachigiajaaChecked
import GoSem.Claim
import GoSem.ClaimJoined
import GoSem.ClaimMapViews
import Derived.JoinedTies
import Derived.KernelRfl
namespace Go.Proofs.Ytiaidachigiajaa
/- THE CELL 'sum', in the pinned program and in every row, IS THE sha256 OF THE DUMP (.gsa) THAT YtiaidachigiajaaProg.lean LOADS. Nothing in Lean hashes anything: it is a label: what it is worth is what the hold of that sum in a sandbox is worth. -/
noncomputable def Try.pinned : Pinned := { name := "ytiaidachigiajaa", sum := "7cc85aa12740ee821fc02e075aa40059465d6807bf3f58d5131022e265329958", checked := Try.checked }
namespace Rows
def none {H : Type} : Left H := { results := [], args := [] }

/-- 'matronlaw5.ClockAverages': WHATEVER THE INPUT: true; the input reads as it did. -/
def clockAveragesSpec : ChangeSpec := { name := "clockAverages", fn := fun _ => fun
  | [d] => { results := [.lit (.bool true)], args := [d] }
  | _ => none }
def clockAveragesRow : OpenClaim := { program := "ytiaidachigiajaa", sum := "7cc85aa12740ee821fc02e075aa40059465d6807bf3f58d5131022e265329958", func := "matron/matronlaw5.ClockAverages", spec := "clockAverages", recurses := true, apart := false }
def ClockAveragesSaid : Prop := clockAveragesRow.holds Try.pinned (OpenSpec.ofChange clockAveragesSpec)

/-- ITS FALSE NEIGHBOUR: 'it returns false'. Refute it at one input. -/
def clockAveragesWrong : ChangeSpec := { name := "clockAverages", fn := fun _ => fun
  | [d] => { results := [.lit (.bool false)], args := [d] }
  | _ => none }
def ClockAveragesWrongFalsely : Prop := clockAveragesRow.holds Try.pinned (OpenSpec.ofChange clockAveragesWrong)

/-- 'matronlaw5.ClockPlays': WHATEVER THE INPUT: true; the input reads as it did. -/
def clockPlaysSpec : ChangeSpec := { name := "clockPlays", fn := fun _ => fun
  | [d1, d2, d3] => { results := [.lit (.bool true)], args := [d1, d2, d3] }
  | _ => none }
def clockPlaysRow : OpenClaim := { program := "ytiaidachigiajaa", sum := "7cc85aa12740ee821fc02e075aa40059465d6807bf3f58d5131022e265329958", func := "matron/matronlaw5.ClockPlays", spec := "clockPlays", recurses := true, apart := false }
def ClockPlaysSaid : Prop := clockPlaysRow.holds Try.pinned (OpenSpec.ofChange clockPlaysSpec)

/-- ITS FALSE NEIGHBOUR: 'it returns false'. Refute it at one input. -/
def clockPlaysWrong : ChangeSpec := { name := "clockPlays", fn := fun _ => fun
  | [d1, d2, d3] => { results := [.lit (.bool false)], args := [d1, d2, d3] }
  | _ => none }
def ClockPlaysWrongFalsely : Prop := clockPlaysRow.holds Try.pinned (OpenSpec.ofChange clockPlaysWrong)

/-- 'matronlaw5.ClockMoves': WHATEVER THE INPUT: true; the input reads as it did. -/
def clockMovesSpec : ChangeSpec := { name := "clockMoves", fn := fun _ => fun
  | [d1, d2] => { results := [.lit (.bool true)], args := [d1, d2] }
  | _ => none }
def clockMovesRow : OpenClaim := { program := "ytiaidachigiajaa", sum := "7cc85aa12740ee821fc02e075aa40059465d6807bf3f58d5131022e265329958", func := "matron/matronlaw5.ClockMoves", spec := "clockMoves", recurses := true, apart := false }
def ClockMovesSaid : Prop := clockMovesRow.holds Try.pinned (OpenSpec.ofChange clockMovesSpec)

/-- ITS FALSE NEIGHBOUR: 'it returns false'. Refute it at one input. -/
def clockMovesWrong : ChangeSpec := { name := "clockMoves", fn := fun _ => fun
  | [d1, d2] => { results := [.lit (.bool false)], args := [d1, d2] }
  | _ => none }
def ClockMovesWrongFalsely : Prop := clockMovesRow.holds Try.pinned (OpenSpec.ofChange clockMovesWrong)

/-- 'matronlaw5.ClockBetween': WHATEVER THE INPUT: true; the input reads as it did. -/
def clockBetweenSpec : ChangeSpec := { name := "clockBetween", fn := fun _ => fun
  | [d1, d2] => { results := [.lit (.bool true)], args := [d1, d2] }
  | _ => none }
def clockBetweenRow : OpenClaim := { program := "ytiaidachigiajaa", sum := "7cc85aa12740ee821fc02e075aa40059465d6807bf3f58d5131022e265329958", func := "matron/matronlaw5.ClockBetween", spec := "clockBetween", recurses := true, apart := false }
def ClockBetweenSaid : Prop := clockBetweenRow.holds Try.pinned (OpenSpec.ofChange clockBetweenSpec)

/-- ITS FALSE NEIGHBOUR: 'it returns false'. Refute it at one input. -/
def clockBetweenWrong : ChangeSpec := { name := "clockBetween", fn := fun _ => fun
  | [d1, d2] => { results := [.lit (.bool false)], args := [d1, d2] }
  | _ => none }
def ClockBetweenWrongFalsely : Prop := clockBetweenRow.holds Try.pinned (OpenSpec.ofChange clockBetweenWrong)

/-- 'matronlaw5.ClockMeets': WHATEVER THE INPUT: true; the input reads as it did. -/
def clockMeetsSpec : ChangeSpec := { name := "clockMeets", fn := fun _ => fun
  | [d1, d2] => { results := [.lit (.bool true)], args := [d1, d2] }
  | _ => none }
def clockMeetsRow : OpenClaim := { program := "ytiaidachigiajaa", sum := "7cc85aa12740ee821fc02e075aa40059465d6807bf3f58d5131022e265329958", func := "matron/matronlaw5.ClockMeets", spec := "clockMeets", recurses := true, apart := false }
def ClockMeetsSaid : Prop := clockMeetsRow.holds Try.pinned (OpenSpec.ofChange clockMeetsSpec)

/-- ITS FALSE NEIGHBOUR: 'it returns false'. Refute it at one input. -/
def clockMeetsWrong : ChangeSpec := { name := "clockMeets", fn := fun _ => fun
  | [d1, d2] => { results := [.lit (.bool false)], args := [d1, d2] }
  | _ => none }
def ClockMeetsWrongFalsely : Prop := clockMeetsRow.holds Try.pinned (OpenSpec.ofChange clockMeetsWrong)

/-- 'matronlaw5.ClockOrder': WHATEVER THE INPUT: true; the input reads as it did. -/
def clockOrderSpec : ChangeSpec := { name := "clockOrder", fn := fun _ => fun
  | [d] => { results := [.lit (.bool true)], args := [d] }
  | _ => none }
def clockOrderRow : OpenClaim := { program := "ytiaidachigiajaa", sum := "7cc85aa12740ee821fc02e075aa40059465d6807bf3f58d5131022e265329958", func := "matron/matronlaw5.ClockOrder", spec := "clockOrder", recurses := true, apart := false }
def ClockOrderSaid : Prop := clockOrderRow.holds Try.pinned (OpenSpec.ofChange clockOrderSpec)

/-- ITS FALSE NEIGHBOUR: 'it returns false'. Refute it at one input. -/
def clockOrderWrong : ChangeSpec := { name := "clockOrder", fn := fun _ => fun
  | [d] => { results := [.lit (.bool false)], args := [d] }
  | _ => none }
def ClockOrderWrongFalsely : Prop := clockOrderRow.holds Try.pinned (OpenSpec.ofChange clockOrderWrong)

/-- 'matronlaw5.ClockLast': WHATEVER THE INPUT: true; the input reads as it did. -/
def clockLastSpec : ChangeSpec := { name := "clockLast", fn := fun _ => fun
  | [d1, d2] => { results := [.lit (.bool true)], args := [d1, d2] }
  | _ => none }
def clockLastRow : OpenClaim := { program := "ytiaidachigiajaa", sum := "7cc85aa12740ee821fc02e075aa40059465d6807bf3f58d5131022e265329958", func := "matron/matronlaw5.ClockLast", spec := "clockLast", recurses := true, apart := false }
def ClockLastSaid : Prop := clockLastRow.holds Try.pinned (OpenSpec.ofChange clockLastSpec)

/-- ITS FALSE NEIGHBOUR: 'it returns false'. Refute it at one input. -/
def clockLastWrong : ChangeSpec := { name := "clockLast", fn := fun _ => fun
  | [d1, d2] => { results := [.lit (.bool false)], args := [d1, d2] }
  | _ => none }
def ClockLastWrongFalsely : Prop := clockLastRow.holds Try.pinned (OpenSpec.ofChange clockLastWrong)

/-- 'matronlaw5.ClockLimit': WHATEVER THE INPUT: true; the input reads as it did. -/
def clockLimitSpec : ChangeSpec := { name := "clockLimit", fn := fun _ => fun
  | [d1, d2] => { results := [.lit (.bool true)], args := [d1, d2] }
  | _ => none }
def clockLimitRow : OpenClaim := { program := "ytiaidachigiajaa", sum := "7cc85aa12740ee821fc02e075aa40059465d6807bf3f58d5131022e265329958", func := "matron/matronlaw5.ClockLimit", spec := "clockLimit", recurses := true, apart := false }
def ClockLimitSaid : Prop := clockLimitRow.holds Try.pinned (OpenSpec.ofChange clockLimitSpec)

/-- ITS FALSE NEIGHBOUR: 'it returns false'. Refute it at one input. -/
def clockLimitWrong : ChangeSpec := { name := "clockLimit", fn := fun _ => fun
  | [d1, d2] => { results := [.lit (.bool false)], args := [d1, d2] }
  | _ => none }
def ClockLimitWrongFalsely : Prop := clockLimitRow.holds Try.pinned (OpenSpec.ofChange clockLimitWrong)

/-- 'matronlaw5.ClockHalf': WHATEVER THE INPUT: true; the input reads as it did. -/
def clockHalfSpec : ChangeSpec := { name := "clockHalf", fn := fun _ => fun
  | [d1, d2] => { results := [.lit (.bool true)], args := [d1, d2] }
  | _ => none }
def clockHalfRow : OpenClaim := { program := "ytiaidachigiajaa", sum := "7cc85aa12740ee821fc02e075aa40059465d6807bf3f58d5131022e265329958", func := "matron/matronlaw5.ClockHalf", spec := "clockHalf", recurses := true, apart := false }
def ClockHalfSaid : Prop := clockHalfRow.holds Try.pinned (OpenSpec.ofChange clockHalfSpec)

/-- ITS FALSE NEIGHBOUR: 'it returns false'. Refute it at one input. -/
def clockHalfWrong : ChangeSpec := { name := "clockHalf", fn := fun _ => fun
  | [d1, d2] => { results := [.lit (.bool false)], args := [d1, d2] }
  | _ => none }
def ClockHalfWrongFalsely : Prop := clockHalfRow.holds Try.pinned (OpenSpec.ofChange clockHalfWrong)

/- THE SECOND FORM. 'bulk': how many values and letters a reading holds, each counted each time it is reached (what is shared counts as often as it is met; a slice's spare places count too). A statement '..UptoSaid' is the law's where the arguments, and the package variables that the reading takes, are together of bulk at most 1048576: NARROWER than '..Said'. Prove '..Said' where nothing that the law and all that it calls make is longer than what came in: it says more and counts as full. Else prove '..UptoSaid'. A law counts once. -/
mutual
def uptoBulk {H : Type} : DataW H → Nat
  | .lit (.string bytes) => bytes.length + 1
  | .lit _ => 1
  | .nil => 1
  | .ptr d => uptoBulk d + 1
  | .slice elems spare => uptoBulkAll elems + uptoBulkAll spare + 1
  | .agg parts => uptoBulkAll parts + 1
  | .iface _ d => uptoBulk d + 1
  | .map entries => uptoBulkEntries entries + 1
  | .held _ => 1
def uptoBulkAll {H : Type} : List (DataW H) → Nat
  | [] => 0
  | d :: r => uptoBulk d + uptoBulkAll r
def uptoBulkEntries {H : Type} : List (Lit × DataW H) → Nat
  | [] => 0
  | x :: r => uptoBulkEntry x + uptoBulkEntries r
def uptoBulkEntry {H : Type} : Lit × DataW H → Nat
  | (.string bytes, d) => bytes.length + uptoBulk d + 1
  | (_, d) => uptoBulk d + 1
 end
def uptoSmall : (H : Type) → List (DataW H) → Bool := fun _ ds => decide (uptoBulkAll ds ≤ 1048576)
def OpenSpec.upto (s : _root_.Go.ChangeSpec) : _root_.Go.OpenSpec := { _root_.Go.OpenSpec.ofChange s with cond := some uptoSmall }

/-- 'matronlaw5.ClockAverages', WHERE WHAT IT READS IS OF BULK AT MOST 1048576: true; the input reads as it did. -/
def clockAveragesUptoRow : OpenClaim := { program := "ytiaidachigiajaa", sum := "7cc85aa12740ee821fc02e075aa40059465d6807bf3f58d5131022e265329958", func := "matron/matronlaw5.ClockAverages", spec := "clockAverages", recurses := true, apart := false, narrowed := true }
def ClockAveragesUptoSaid : Prop := clockAveragesUptoRow.holds Try.pinned (OpenSpec.upto clockAveragesSpec)

/-- 'matronlaw5.ClockPlays', WHERE WHAT IT READS IS OF BULK AT MOST 1048576: true; the input reads as it did. -/
def clockPlaysUptoRow : OpenClaim := { program := "ytiaidachigiajaa", sum := "7cc85aa12740ee821fc02e075aa40059465d6807bf3f58d5131022e265329958", func := "matron/matronlaw5.ClockPlays", spec := "clockPlays", recurses := true, apart := false, narrowed := true }
def ClockPlaysUptoSaid : Prop := clockPlaysUptoRow.holds Try.pinned (OpenSpec.upto clockPlaysSpec)

/-- 'matronlaw5.ClockMoves', WHERE WHAT IT READS IS OF BULK AT MOST 1048576: true; the input reads as it did. -/
def clockMovesUptoRow : OpenClaim := { program := "ytiaidachigiajaa", sum := "7cc85aa12740ee821fc02e075aa40059465d6807bf3f58d5131022e265329958", func := "matron/matronlaw5.ClockMoves", spec := "clockMoves", recurses := true, apart := false, narrowed := true }
def ClockMovesUptoSaid : Prop := clockMovesUptoRow.holds Try.pinned (OpenSpec.upto clockMovesSpec)

/-- 'matronlaw5.ClockBetween', WHERE WHAT IT READS IS OF BULK AT MOST 1048576: true; the input reads as it did. -/
def clockBetweenUptoRow : OpenClaim := { program := "ytiaidachigiajaa", sum := "7cc85aa12740ee821fc02e075aa40059465d6807bf3f58d5131022e265329958", func := "matron/matronlaw5.ClockBetween", spec := "clockBetween", recurses := true, apart := false, narrowed := true }
def ClockBetweenUptoSaid : Prop := clockBetweenUptoRow.holds Try.pinned (OpenSpec.upto clockBetweenSpec)

/-- 'matronlaw5.ClockMeets', WHERE WHAT IT READS IS OF BULK AT MOST 1048576: true; the input reads as it did. -/
def clockMeetsUptoRow : OpenClaim := { program := "ytiaidachigiajaa", sum := "7cc85aa12740ee821fc02e075aa40059465d6807bf3f58d5131022e265329958", func := "matron/matronlaw5.ClockMeets", spec := "clockMeets", recurses := true, apart := false, narrowed := true }
def ClockMeetsUptoSaid : Prop := clockMeetsUptoRow.holds Try.pinned (OpenSpec.upto clockMeetsSpec)

/-- 'matronlaw5.ClockOrder', WHERE WHAT IT READS IS OF BULK AT MOST 1048576: true; the input reads as it did. -/
def clockOrderUptoRow : OpenClaim := { program := "ytiaidachigiajaa", sum := "7cc85aa12740ee821fc02e075aa40059465d6807bf3f58d5131022e265329958", func := "matron/matronlaw5.ClockOrder", spec := "clockOrder", recurses := true, apart := false, narrowed := true }
def ClockOrderUptoSaid : Prop := clockOrderUptoRow.holds Try.pinned (OpenSpec.upto clockOrderSpec)

/-- 'matronlaw5.ClockLast', WHERE WHAT IT READS IS OF BULK AT MOST 1048576: true; the input reads as it did. -/
def clockLastUptoRow : OpenClaim := { program := "ytiaidachigiajaa", sum := "7cc85aa12740ee821fc02e075aa40059465d6807bf3f58d5131022e265329958", func := "matron/matronlaw5.ClockLast", spec := "clockLast", recurses := true, apart := false, narrowed := true }
def ClockLastUptoSaid : Prop := clockLastUptoRow.holds Try.pinned (OpenSpec.upto clockLastSpec)

/-- 'matronlaw5.ClockLimit', WHERE WHAT IT READS IS OF BULK AT MOST 1048576: true; the input reads as it did. -/
def clockLimitUptoRow : OpenClaim := { program := "ytiaidachigiajaa", sum := "7cc85aa12740ee821fc02e075aa40059465d6807bf3f58d5131022e265329958", func := "matron/matronlaw5.ClockLimit", spec := "clockLimit", recurses := true, apart := false, narrowed := true }
def ClockLimitUptoSaid : Prop := clockLimitUptoRow.holds Try.pinned (OpenSpec.upto clockLimitSpec)

/-- 'matronlaw5.ClockHalf', WHERE WHAT IT READS IS OF BULK AT MOST 1048576: true; the input reads as it did. -/
def clockHalfUptoRow : OpenClaim := { program := "ytiaidachigiajaa", sum := "7cc85aa12740ee821fc02e075aa40059465d6807bf3f58d5131022e265329958", func := "matron/matronlaw5.ClockHalf", spec := "clockHalf", recurses := true, apart := false, narrowed := true }
def ClockHalfUptoSaid : Prop := clockHalfUptoRow.holds Try.pinned (OpenSpec.upto clockHalfSpec)

end Rows
end Go.Proofs.Ytiaidachigiajaa
