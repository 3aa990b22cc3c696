/- What the document's own CommandFault answers, for the commands 4, 5, 6. -/
import Derived.Test.YtfkmaiiainbcbaaGreatDoorCChk
namespace Go.Proofs.YtfkmaiiainbcbaaGreatDoor.K
open Go.ChangeShapes Go.WideShapes Go.ChangeAt Go.RowKit Go.Maps

theorem ret_intB {a b : Int} (h : a = b) : Ending.returned (.int .i64 a) = .returned (.int .i64 b) := by rw [h]

end Go.Proofs.YtfkmaiiainbcbaaGreatDoor.K
