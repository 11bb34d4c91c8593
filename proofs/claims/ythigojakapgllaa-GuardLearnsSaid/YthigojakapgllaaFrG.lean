/- The contract of frame.Encode. -/
import Derived.Test.YthigojakapgllaaFrF
import Derived.Deep.CutBlock
namespace Go.Proofs.Ythigojakapgllaa
open Go.RowKit
open Fr (St F)

end Go.Proofs.Ythigojakapgllaa
