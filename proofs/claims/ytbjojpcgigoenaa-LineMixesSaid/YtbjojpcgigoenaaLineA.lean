/- The contracts of line.keep and line.level: which parts of a sample are kept or told. No condition. -/
import Derived.Test.YtbjojpcgigoenaaRows
import Derived.WalkKit
import Derived.WalkSpells
import Derived.WalkLawsBesides
import Derived.Below
namespace Go.Proofs.Ytbjojpcgigoenaa
open Go.RowKit

/-- A part that is asked for, or nothing. -/
def part (f : Bool) (a : Nat) : Nat := if f then a else 0
def parts (s : Bool) (a b : Nat) : Nat := if s then b else a

theorem keep_any (a b : Nat) (f s : Bool) (w : World) :
    Calls Try.prog 33 #[.complex .f64 a b, .bool f, .bool s] w fun e w' =>
      e = .returned (.complex .f64 (part f a) (part s b)) ∧ w = w' := by
  cases f <;> cases s
  all_goals
    go_enter Try.func33, Try.ntmps33
    go_wp2
    go_ret
    exact ⟨by simp [part], rfl⟩

theorem level_any (a b : Nat) (s : Bool) (w : World) :
    Calls Try.prog 38 #[.complex .f64 a b, .bool s] w fun e w' =>
      e = .returned (.float .f64 (parts s a b)) ∧ w = w' := by
  cases s
  all_goals
    go_enter Try.func38, Try.ntmps38
    go_wp2
    go_ret
    exact ⟨by simp [parts], rfl⟩
end Go.Proofs.Ytbjojpcgigoenaa
