/- What code.opOf answers. -/
import Derived.Test.YtfkmaiiainbcbaaGreatDoorCText
namespace Go.Proofs.YtfkmaiiainbcbaaGreatDoor.K
open Go.ChangeShapes Go.WideShapes Go.ChangeAt Go.RowKit Go.Maps

/-- The command of a word; 0: none. -/
def OpIs (s : ByteArray) (o : Int) : Prop := (1 ≤ o ∧ o ≤ 9 ∧ ((wordOf o).toList == s.toList) = true) ∨ (o = 0 ∧ ∀ j : Int, 1 ≤ j → j ≤ 9 → ((wordOf j).toList == s.toList) = false)

end Go.Proofs.YtfkmaiiainbcbaaGreatDoor.K
