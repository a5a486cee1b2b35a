/- What every row's proof of this seat needs of the program. -/
import Derived.Test.YtolhkpgpcbebiaaRows
import Derived.ProofKit
import Derived.OpenShut
import Derived.Below
import Derived.Carry
import Derived.SizedLaws
namespace Go.Proofs.Ytolhkpgpcbebiaa
theorem Try.own : ownKnob Try.prog.godebug = none := by kernel_rfl
end Go.Proofs.Ytolhkpgpcbebiaa
