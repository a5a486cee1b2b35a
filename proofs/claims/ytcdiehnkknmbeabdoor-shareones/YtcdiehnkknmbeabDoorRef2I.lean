/- The reference's Zero, Inv and Invert. -/
import Derived.Test.YtcdiehnkknmbeabDoorRef2P
import Derived.Test.YtcdiehnkknmbeabDoorFieldV
import Derived.Test.YtcdiehnkknmbeabDoorWalk
namespace Go.Proofs.YtcdiehnkknmbeabDoor
open Go.RowKit

end Go.Proofs.YtcdiehnkknmbeabDoor
