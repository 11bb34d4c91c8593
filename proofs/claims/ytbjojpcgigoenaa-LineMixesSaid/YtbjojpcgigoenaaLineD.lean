/- The contract of line.tell: what a channel of a row of whole numbers tells. The numbers are of less than 53 digits. -/
import Derived.Test.YtbjojpcgigoenaaLineC
import Derived.Test.YtbjojpcgigoenaaFloat
namespace Go.Proofs.Ytbjojpcgigoenaa
open Go.RowKit

/-- A sample of two whole numbers. -/
def cx (a b : Int) : Value := .complex .f64 (floatOfInt .f64 a) (floatOfInt .f64 b)
def pt (s : Bool) (a b : Int) : Int := if s then b else a

theorem level_cx (a b : Int) (s : Bool) (w : World) :
    Calls Try.prog 38 #[cx a b, .bool s] w fun e w' => e = .returned (.float .f64 (floatOfInt .f64 (pt s a b))) ∧ w = w' := by
  have h := level_any (floatOfInt .f64 a) (floatOfInt .f64 b) s w
  cases s
  · simp only [parts, Bool.false_eq_true, if_false] at h
    simp only [pt, Bool.false_eq_true, if_false, cx]
    exact h
  · simp only [parts, if_true] at h
    simp only [pt, if_true, cx]
    exact h

theorem fl_one : floatOfInt .f64 1 = 4607182418800017408 := by decide +kernel
theorem fl_minus : floatOfInt .f64 (-1) = 13830554455654793216 := by decide +kernel

theorem is_zero (q : Int) (h : q.natAbs < 2 ^ 53) : (FloatKind.f64.format.order (floatOfInt .f64 q) 0 == some .eq) = decide (q = 0) := by
  have := order_eq q 0 h (by decide)
  rwa [fl_zero] at this
theorem is_one (q : Int) (h : q.natAbs < 2 ^ 53) : (FloatKind.f64.format.order (floatOfInt .f64 q) 4607182418800017408 == some .eq) = decide (q = 1) := by
  have := order_eq q 1 h (by decide)
  rwa [fl, fl, fl_one] at this
theorem is_minus (q : Int) (h : q.natAbs < 2 ^ 53) : (FloatKind.f64.format.order (floatOfInt .f64 q) 13830554455654793216 == some .eq) = decide (q = -1) := by
  have := order_eq q (-1) h (by decide)
  rwa [fl, fl, fl_minus] at this

def allZ (q : Nat → Int) (k : Nat) : Bool := (List.range k).all fun i => q i == 0
def allU (q : Nat → Int) (k : Nat) : Bool := (List.range k).all fun i => q i == 1 || q i == -1
theorem allZ_succ (q : Nat → Int) (k : Nat) : allZ q (k + 1) = (allZ q k && q k == 0) := by simp [allZ, List.range_succ]
theorem allU_succ (q : Nat → Int) (k : Nat) : allU q (k + 1) = (allU q k && (q k == 1 || q k == -1)) := by simp [allU, List.range_succ]

/-- A byte out of eight levels, the highest first: of the i lowest of the places. -/
def packTo (q : Nat → Int) (j i : Nat) : Nat := (List.range i).foldl (fun x k => x ||| (if q (8 * j + k) = 1 then 128 / 2 ^ k else 0)) 0
def packed (q : Nat → Int) (j : Nat) : Int := (packTo q j 8 : Nat)
end Go.Proofs.Ytbjojpcgigoenaa
