/- What a law's walk is told of a table that came in by value. -/
import Derived.Test.YtdbbmikandeocaaTbA
import Derived.ProofKit
import Derived.OpenShut
import Derived.Deep.Slices
import Derived.Lib.SmallJoins
namespace Go.Proofs.Ytdbbmikandeocaa
open Go.ChangeShapes Go.WideShapes Go.ChangeAt Go.RowKit Go.Joins Go.Deep
open Tb (D T)
end Go.Proofs.Ytdbbmikandeocaa
