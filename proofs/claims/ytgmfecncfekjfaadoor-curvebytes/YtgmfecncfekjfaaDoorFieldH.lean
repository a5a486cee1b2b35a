/- What every statement of layer 2 asks besides: the inverse of 2, and a root of 4. -/
import Derived.Test.YtgmfecncfekjfaaDoorFdB
namespace Go.Proofs.YtgmfecncfekjfaaDoor
open Go.RowKit
attribute [local go_sem] run_eq4

end Go.Proofs.YtgmfecncfekjfaaDoor
