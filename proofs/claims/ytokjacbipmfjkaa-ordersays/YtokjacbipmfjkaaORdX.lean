/- What the document's own Ordered answers: to a command of another layer. No statement of the seat is proved here. -/
import Derived.Test.YtokjacbipmfjkaaORd
namespace Go.Proofs.Ytokjacbipmfjkaa
open Go.ChangeShapes Go.WideShapes Go.ChangeAt Go.RowKit Go.Deep

set_option maxRecDepth 100000 in
set_option maxHeartbeats 8000000 in
theorem rord_x (g t h : Int) (a : Option Addr) (n c : Nat) (y : Bool) (l : List (Int × Int)) (op who key new kind at' : Int) (st : Bool) (da wa : ByteArray) (w : World) (hr : Row w a n l) (hf : fault g t h l = 0) (h7 : 6 < op) :
    Calls Try.prog 14 #[stV g a n c t h y, cmV op who key new kind at' st da wa] w fun e w' => ROut (doF g t h y l op who key new kind st) e w' ∧ Below w.heap.size w w' := by
  obtain ⟨X, hX, bX, sX, S0, C0, R0⟩ := laidThree w g a n c t h y op who key new kind at' st da wa
  obtain ⟨⟨c0, c1, c2, c3, c4⟩, _⟩ := S0.cells
  obtain ⟨d0, d1, d2, d3, d4, d5, d6, d7, d8⟩ := C0.cells
  go_enter Try.func14, Try.ntmps14
  go_wp2_with fail
  rw [← hX]
  clear hX c0 c1 c2 c3 c4 d0 d1 d2 d3 d4 d5 d6 d7 d8
  refine (keyOf_any g t h a n c y l who X (hr.later bX)).mono ?_
  rintro e w1 ⟨rfl, hbn⟩
  have bw := bX.trans (hbn.mono bX.size)
  have hsn := hbn.size
  have S := S0.later hbn (by omega)
  have C := C0.later hbn (by omega)
  have R := R0.later hbn (by omega)
  clear S0 C0 R0 hbn bX
  obtain ⟨⟨c0, c1, c2, c3, c4⟩, _⟩ := S.cells
  obtain ⟨d0, d1, d2, d3, d4, d5, d6, d7, d8⟩ := C.cells
  go_wp2_with fail
  clear c0 c1 c2 c3 c4 d0 d1 d2 d3 d4 d5 d6 d7 d8
  refine (rholds_any g t h a n c y l who w1 (hr.later bw)).mono ?_
  rintro e w2 ⟨rfl, hbn⟩
  rw [← holds_same hf]
  have bw := bw.trans (hbn.mono bw.size)
  have hsn := hbn.size
  have S := S.later hbn S.lt
  have C := C.later hbn (by omega)
  have R := R.later hbn (by omega)
  clear hbn
  have h7' : decide (6 < op) = true := by simpa using h7
  have HS : Hid (doF g t h y l op who key new kind st = refused 2) := by show _ = _; unfold doF; rw [if_neg (by omega), if_neg (by omega), if_neg (by omega), if_neg (by omega), if_neg (by omega)]
  obtain ⟨⟨c0, c1, c2, c3, c4⟩, _⟩ := S.cells
  obtain ⟨d0, d1, d2, d3, d4, d5, d6, d7, d8⟩ := C.cells
  obtain ⟨⟨e0, e1, e2, e3, e4⟩, ⟨q0, q1, q2, q3, q4⟩⟩ := R.cells
  clear S C h7
  go_wp2
  obtain ⟨Z, hZ, z0, z1, z2, z3, z4⟩ := Z5.cells (X := w2) (v0 := .int .i64 0) (v1 := .slice Option.none 0 0) (v2 := .int .i64 0) (v3 := .int .i64 0) (v4 := .bool false) R
  have bZ : Below w.heap.size w Z := by rw [hZ]; exact Z5.below bw (by omega)
  unfold Z5 at hZ
  rw [← hZ]
  clear hZ
  exact bodyPost_ret (v := .tuple #[.agg #[.int .i64 0, .slice Option.none 0 0, .int .i64 0, .int .i64 0, .bool false], .slice Option.none 0 0, .int .i64 2]) (by simp [results, Try.results14, go_sem, z0, z1, z2, z3, z4]) rfl (And.intro (by rw [HS.out]; exact ⟨_, _, _, _, _, _, rfl, row_nil _, row_nil _⟩) bZ)
end Go.Proofs.Ytokjacbipmfjkaa
