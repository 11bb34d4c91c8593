/- Texts NdBaseI in one. For what each says in front of its theorems. -/
import Derived.Test.YtfakibajipmkjaaGreatNB37
/-! ### NdBaseI -/
namespace Go.Proofs.YtfakibajipmkjaaGreat
theorem ndBaseI : True := trivial
end Go.Proofs.YtfakibajipmkjaaGreat
