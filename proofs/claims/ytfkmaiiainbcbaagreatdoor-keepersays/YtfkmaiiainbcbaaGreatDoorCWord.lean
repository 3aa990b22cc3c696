/- What the small functions of package code, and the document's own beside them, answer of words. -/
import Derived.Test.YtfkmaiiainbcbaaGreatDoorCLeaf
namespace Go.Proofs.YtfkmaiiainbcbaaGreatDoor.K
open Go.ChangeShapes Go.WideShapes Go.ChangeAt Go.RowKit Go.Maps

theorem staysText_any (b : Bool) (w : World) : Calls Tryz.prog 66 #[.bool b] w fun e w' => e = .returned (.string (if b then ⟨#[115, 116, 97, 121, 115]⟩ else ⟨#[103, 111, 101, 115]⟩)) ∧ w' = w := by
  cases b <;>
  · go_enter Tryz.func66, Tryz.ntmps66
    go_wp2
    go_ret
    exact ⟨rfl, rfl⟩
/-- A command's data as a word; and back. -/
def dataW (s : ByteArray) : ByteArray := if s.toList.isEmpty then ⟨#[45]⟩ else s
def undataW (s : ByteArray) : ByteArray := if s.toList == [45] then ⟨#[]⟩ else s
end Go.Proofs.YtfkmaiiainbcbaaGreatDoor.K
