/- What every row's proof of this seat needs of the program. -/
import Derived.Test.YtojpddbdibkojaaRows
import Derived.ProofKit
import Derived.OpenShut
import Derived.Below
import Derived.Carry
import Derived.SizedLaws
namespace Go.Proofs.Ytojpddbdibkojaa
theorem Try.own : ownKnob Try.prog.godebug = none := by kernel_rfl
end Go.Proofs.Ytojpddbdibkojaa
