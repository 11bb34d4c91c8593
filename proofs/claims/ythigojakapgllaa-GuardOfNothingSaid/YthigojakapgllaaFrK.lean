/- The contract of the laws' own 'known' (matronlaw3). -/
import Derived.Test.YthigojakapgllaaFrH
namespace Go.Proofs.Ythigojakapgllaa
open Go.RowKit
open Fr (St F)

end Go.Proofs.Ythigojakapgllaa
