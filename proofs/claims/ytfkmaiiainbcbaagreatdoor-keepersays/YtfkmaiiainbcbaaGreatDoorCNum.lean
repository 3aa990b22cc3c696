/- What code.Number answers. (Over the library's contracts at this seat: <Name>Shelf, laid by the guide's own two commands.) -/
import Derived.Test.YtfkmaiiainbcbaaGreatDoorCOp
import Derived.Test.YtfkmaiiainbcbaaGreatDoorShelf
namespace Go.Proofs.YtfkmaiiainbcbaaGreatDoor.K
open Go.ChangeShapes Go.WideShapes Go.ChangeAt Go.RowKit Go.Maps

/-- The number of a word; -1: none. -/
def numOf (s : ByteArray) : Int := match Lib.atoiAll s.data.toList with
  | .ok v => v
  | _ => -1

set_option maxHeartbeats 4000000 in
set_option maxRecDepth 100000 in
theorem number_any (s : ByteArray) (hs : s.size ≤ 281474976710656) (w : World) (t1 t2 : TypeId) (p1 p2 : Value) (hS : w.var? Tryz.prog "strconv.ErrSyntax" = some #[.iface t1 p1]) (hR : w.var? Tryz.prog "strconv.ErrRange" = some #[.iface t2 p2]) :
    Calls Tryz.prog 37 #[.string s] w fun e w' => e = .returned (.int .i64 (numOf s)) ∧ Below w.heap.size w w' := by
  cases h : Lib.atoiAll s.data.toList with
  | ok v =>
    have HN : Hid (numOf s = v) := by show _ = _; unfold numOf; rw [h]
    have c := Tryz.strconv_Atoi_ok s (by omega) v h w
    clear h
    go_enter Tryz.func37, Tryz.ntmps37
    go_wp2_with (go_at_call 52; refine c.mono ?_; rintro e w1 ⟨rfl, hb1⟩)
    go_ret
    exact ⟨by rw [HN.out]; rfl, by rcases hb1 with rfl | ⟨t, rfl⟩; exact Below.refl _ _; exact Lib.bytesWorld_below _ _ _⟩
  | «syntax» =>
    have HN : Hid (numOf s = -1) := by show _ = _; unfold numOf; rw [h]
    have c := Tryz.strconv_Atoi_syntax_var s hs h t1 p1 w hS
    clear h
    go_enter Tryz.func37, Tryz.ntmps37
    go_wp2_with (go_at_call 52; refine c.mono ?_; rintro e w1 ⟨N, rfl, _, _, hb1⟩)
    go_ret
    exact ⟨by rw [HN.out]; rfl, hb1⟩
  | range =>
    have HN : Hid (numOf s = -1) := by show _ = _; unfold numOf; rw [h]
    have c := Tryz.strconv_Atoi_range_var s hs h t2 p2 w hR
    clear h
    go_enter Tryz.func37, Tryz.ntmps37
    go_wp2_with (go_at_call 52; refine c.mono ?_; rintro e w1 ⟨N, rfl, _, _, hb1⟩)
    go_ret
    exact ⟨by rw [HN.out]; rfl, hb1⟩
end Go.Proofs.YtfkmaiiainbcbaaGreatDoor.K
