/- What the small functions of package code, and the document's own beside them, answer of words. -/
import Derived.Test.YthkckogbjdbnnaaDoorCLeaf
namespace Go.Proofs.YthkckogbjdbnnaaDoor.K
open Go.ChangeShapes Go.WideShapes Go.ChangeAt Go.RowKit Go.Maps

theorem staysText_any (b : Bool) (w : World) : Calls Tryd.prog 33 #[.bool b] w fun e w' => e = .returned (.string (if b then ⟨#[115, 116, 97, 121, 115]⟩ else ⟨#[103, 111, 101, 115]⟩)) ∧ w' = w := by
  cases b <;>
  · go_enter Tryd.func33, Tryd.ntmps33
    go_wp2
    go_ret
    exact ⟨rfl, rfl⟩
theorem staysWord_any (b : Bool) (w : World) : Calls Tryd.prog 37 #[.bool b] w fun e w' => e = .returned (.string (if b then ⟨#[115, 116, 97, 121, 115]⟩ else ⟨#[103, 111, 101, 115]⟩)) ∧ w' = w := by
  cases b <;>
  · go_enter Tryd.func37, Tryd.ntmps37
    go_wp2
    go_ret
    exact ⟨rfl, rfl⟩

/-- A command's data as a word; and back. -/
def dataW (s : ByteArray) : ByteArray := if s.toList.isEmpty then ⟨#[45]⟩ else s
def undataW (s : ByteArray) : ByteArray := if s.toList == [45] then ⟨#[]⟩ else s
theorem dataText_any (s : ByteArray) (w : World) : Calls Tryd.prog 34 #[.string s] w fun e w' => e = .returned (.string (dataW s)) ∧ w' = w := by
  cases h : s.toList.isEmpty
  · have HF : Hid (dataW s = s) := by show _ = _; simp only [dataW, h]; rfl
    go_enter Tryd.func34, Tryd.ntmps34
    go_wp2
    go_ret
    exact ⟨by rw [HF.out]; rfl, rfl⟩
  · have HF : Hid (dataW s = ⟨#[45]⟩) := by show _ = _; simp only [dataW, h]; rfl
    go_enter Tryd.func34, Tryd.ntmps34
    go_wp2
    go_ret
    exact ⟨by rw [HF.out]; rfl, rfl⟩
theorem dataWord_any (s : ByteArray) (w : World) : Calls Tryd.prog 38 #[.string s] w fun e w' => e = .returned (.string (dataW s)) ∧ w' = w := by
  cases h : s.toList.isEmpty
  · have HF : Hid (dataW s = s) := by show _ = _; simp only [dataW, h]; rfl
    go_enter Tryd.func38, Tryd.ntmps38
    go_wp2
    go_ret
    exact ⟨by rw [HF.out]; rfl, rfl⟩
  · have HF : Hid (dataW s = ⟨#[45]⟩) := by show _ = _; simp only [dataW, h]; rfl
    go_enter Tryd.func38, Tryd.ntmps38
    go_wp2
    go_ret
    exact ⟨by rw [HF.out]; rfl, rfl⟩
theorem data_any (s : ByteArray) (w : World) : Calls Tryd.prog 61 #[.string s] w fun e w' => e = .returned (.string (undataW s)) ∧ w' = w := by
  cases h : (s.toList == [45])
  · have HF : Hid (undataW s = s) := by show _ = _; simp only [undataW, h]; rfl
    go_enter Tryd.func61, Tryd.ntmps61
    go_wp2
    go_ret
    exact ⟨by rw [HF.out]; rfl, rfl⟩
  · have HF : Hid (undataW s = ⟨#[]⟩) := by show _ = _; simp only [undataW, h]; rfl
    go_enter Tryd.func61, Tryd.ntmps61
    go_wp2
    go_ret
    exact ⟨by rw [HF.out]; rfl, rfl⟩
theorem undata_any (s : ByteArray) (w : World) : Calls Tryd.prog 43 #[.string s] w fun e w' => e = .returned (.string (undataW s)) ∧ w' = w := by
  cases h : (s.toList == [45])
  · have HF : Hid (undataW s = s) := by show _ = _; simp only [undataW, h]; rfl
    go_enter Tryd.func43, Tryd.ntmps43
    go_wp2
    go_ret
    exact ⟨by rw [HF.out]; rfl, rfl⟩
  · have HF : Hid (undataW s = ⟨#[]⟩) := by show _ = _; simp only [undataW, h]; rfl
    go_enter Tryd.func43, Tryd.ntmps43
    go_wp2
    go_ret
    exact ⟨by rw [HF.out]; rfl, rfl⟩
end Go.Proofs.YthkckogbjdbnnaaDoor.K
