/- Field.Modulus, Neg, Pow, Encode, Decode: what they answer. -/
import Derived.Test.YtgmfecncfekjfaaDoorFieldH
namespace Go.Proofs.YtgmfecncfekjfaaDoor
open Go.RowKit
attribute [local go_sem] run_eq4

end Go.Proofs.YtgmfecncfekjfaaDoor
