/- What code.Text answers where the command may not be. -/
import Derived.Test.YtfkmaiiainbcbaaGreatDoorCDec
import Derived.Test.YtfkmaiiainbcbaaGreatDoorCWord
namespace Go.Proofs.YtfkmaiiainbcbaaGreatDoor.K
open Go.ChangeShapes Go.WideShapes Go.ChangeAt Go.RowKit Go.Maps

theorem below_al (w : World) (a : Obj) {w1 : World} (h : Below (w.alloc a).heap.size (w.alloc a) w1) : Below w.heap.size w w1 := by
  have h0 : Below w.heap.size w (w.alloc a) := (Below.refl _ _).alloc (Nat.le_refl _) _
  exact h0.trans (h.mono h0.size)

end Go.Proofs.YtfkmaiiainbcbaaGreatDoor.K
