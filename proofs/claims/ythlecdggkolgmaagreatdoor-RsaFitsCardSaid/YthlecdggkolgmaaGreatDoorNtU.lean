/- without, difference. -/
import Derived.Test.YthlecdggkolgmaaGreatDoorNtQ
import Derived.Test.YthlecdggkolgmaaGreatDoorNtR
namespace Go.Proofs.YthlecdggkolgmaaGreatDoor
open Go.RowKit

end Go.Proofs.YthlecdggkolgmaaGreatDoor
