/- What the document's own CommandFault answers, for every command. -/
import Derived.Test.YtfkmaiiainbcbaaGreatDoorCFaultA
import Derived.Test.YtfkmaiiainbcbaaGreatDoorCFaultB
import Derived.Test.YtfkmaiiainbcbaaGreatDoorCFaultC
namespace Go.Proofs.YtfkmaiiainbcbaaGreatDoor.K
open Go.ChangeShapes Go.WideShapes Go.ChangeAt Go.RowKit Go.Maps

end Go.Proofs.YtfkmaiiainbcbaaGreatDoor.K
