/- The reference's Mul of a field. -/
import Derived.Test.YtcdiehnkknmbeabDoorRef2G
import Derived.Test.YtcdiehnkknmbeabDoorHeldN
namespace Go.Proofs.YtcdiehnkknmbeabDoor
open Go.RowKit

end Go.Proofs.YtcdiehnkknmbeabDoor
