/- What order.reserve answers, for every state and command. No statement of the seat is proved here. -/
import Derived.Test.YtokjacbipmfjkaaOOut
import Derived.Deep.RegionHeld3
import Derived.Deep.DeepCutAuto
namespace Go.Proofs.Ytokjacbipmfjkaa
open Go.ChangeShapes Go.WideShapes Go.ChangeAt Go.RowKit Go.Deep

set_option maxHeartbeats 4000000 in
theorem reserve_any (g t h : Int) (a : Option Addr) (n c : Nat) (y : Bool) (l : List (Int × Int)) (op who key new kind at' : Int) (st : Bool) (da wa : ByteArray) (w : World) (hr : Row w a n l) :
    Calls Try.prog 32 #[stV g a n c t h y, cmV op who key new kind at' st da wa] w fun e w' => OutIs (reserveF g t h y l who key kind) w.heap.size a n e w' ∧ Below w.heap.size w w' := by
  obtain ⟨X, hX, bX, sX, S0, C0, R0⟩ := laidThree w g a n c t h y op who key new kind at' st da wa
  obtain ⟨⟨c0, c1, c2, c3, c4⟩, _⟩ := S0.cells
  obtain ⟨d0, d1, d2, d3, d4, d5, d6, d7, d8⟩ := C0.cells
  go_enter Try.func32, Try.ntmps32
  go_wp2_with fail
  rw [← hX]
  clear hX c0 c1 c2 c3 c4 d0 d1 d2 d3 d4 d5 d6 d7 d8
  refine (proven_any g t h a n c y l op who key new kind at' st da wa X (hr.later bX)).mono ?_
  rintro e w1 ⟨rfl, hb1⟩
  have bw := bX.trans (hb1.mono bX.size)
  have hs1 := hb1.size
  have S := S0.later hb1 (by omega)
  have C := C0.later hb1 (by omega)
  have R := R0.later hb1 (by omega)
  clear S0 C0 R0 hb1 bX
  cases hP : provenB l who key with
  | false =>
    have HS : Hid (reserveF g t h y l who key kind = refused 4) := by show _ = _; unfold reserveF; rw [if_pos hP]
    clear hP S C
    go_wp2_with fail
    refine (refuse_any 4 w1).mono ?_
    rintro e wz ⟨rfl, hbz⟩
    have Rz := R.later hbz (by omega)
    have bz := bw.trans (hbz.mono bw.size)
    clear R bw
    obtain ⟨⟨e0, e1, e2, e3, e4⟩, ⟨q0, q1, q2, q3, q4⟩⟩ := Rz.cells
    go_wp2
    obtain ⟨Z, hZ, z0, z1, z2, z3, z4⟩ := Z5.cells (X := wz) (v0 := .int .i64 0) (v1 := .slice Option.none 0 0) (v2 := .int .i64 0) (v3 := .int .i64 0) (v4 := .bool false) Rz
    have bZ : Below w.heap.size w Z := by rw [hZ]; exact Z5.below bz (by omega)
    unfold Z5 at hZ
    rw [← hZ]
    clear hZ
    exact bodyPost_ret (v := .tuple #[.agg #[.int .i64 0, .slice Option.none 0 0, .int .i64 0, .int .i64 0, .bool false], .slice Option.none 0 0, .iface 57 (.int .i64 4)]) (by simp [results, Try.results32, go_sem, z0, z1, z2, z3, z4]) rfl (And.intro (by rw [HS.out]; exact ⟨_, _, _, _, _, _, rfl, row_nil _, row_nil _, newOr_nil, newOr_nil⟩) bZ)
  | true =>
    have HP : Hid (¬ provenB l who key = false) := by show ¬ _; rw [hP]; decide
    clear hP
    by_cases h0 : t = 0
    · have HS : Hid (reserveF g t h y l who key kind = ⟨g, l, kind, heldH kind who, y, [], 0⟩) := by show _ = _; unfold reserveF; rw [if_neg HP.out, if_pos h0]
      have h0' : (t == 0) = true := by simpa using h0
      clear h0
      obtain ⟨⟨c0, c1, c2, c3, c4⟩, _⟩ := S.cells
      obtain ⟨d0, d1, d2, d3, d4, d5, d6, d7, d8⟩ := C.cells
      go_wp2_with fail
      clear c0 c1 c2 c3 c4 d0 d1 d2 d3 d4 d5 d6 d7 d8
      refine (heldBy_any g t h a n c y op who key new kind at' st da wa w1).mono ?_
      rintro e w2 ⟨rfl, hb2⟩
      have bw2 := bw.trans (hb2.mono bw.size)
      have R2 := R.later hb2 (by omega)
      clear S C R
      have hrow := hr.later bw2
      obtain ⟨⟨e0, e1, e2, e3, e4⟩, ⟨q0, q1, q2, q3, q4⟩⟩ := R2.cells
      have HR : Hid (Row w a n l) := hr
      go_wp2
      obtain ⟨Z, hZ, z0, z1, z2, z3, z4⟩ := Z5.cells (X := w2) (v0 := .int .i64 g) (v1 := .slice a n c) (v2 := .int .i64 kind) (v3 := .int .i64 (heldH kind who)) (v4 := .bool y) R2
      have bZ : Below w.heap.size w Z := by rw [hZ]; exact Z5.below bw2 (by omega)
      unfold Z5 at hZ
      rw [← hZ]
      clear hZ
      exact bodyPost_ret (v := .tuple #[.agg #[.int .i64 g, .slice a n c, .int .i64 kind, .int .i64 (heldH kind who), .bool y], .slice Option.none 0 0, .nilIface]) (by simp [results, Try.results32, go_sem, z0, z1, z2, z3, z4]) rfl (And.intro (by rw [HS.out]; exact ⟨a, n, c, _, _, _, rfl, HR.out.later bZ, row_nil _, newOr_same, newOr_nil⟩) bZ)
    · have h0' : (t == 0) = false := by simpa using h0
      obtain ⟨⟨c0, c1, c2, c3, c4⟩, _⟩ := S.cells
      obtain ⟨d0, d1, d2, d3, d4, d5, d6, d7, d8⟩ := C.cells
      go_wp2_with fail
      clear c0 c1 c2 c3 c4 d0 d1 d2 d3 d4 d5 d6 d7 d8
      refine (holds_any g t h a n c y l who w1 (hr.later bw)).mono ?_
      rintro e w2 ⟨rfl, hbn⟩
      have bw := bw.trans (hbn.mono bw.size)
      have hsn := hbn.size
      have S := S.later hbn (by omega)
      have C := C.later hbn (by omega)
      have R := R.later hbn (by omega)
      clear hbn
      cases hH : holdsB t h l who with
      | false =>
        have HS : Hid (reserveF g t h y l who key kind = refused 4) := by show _ = _; unfold reserveF; rw [if_neg HP.out, if_neg h0, if_pos (.inl hH)]
        clear hH h0
        obtain ⟨⟨c0, c1, c2, c3, c4⟩, _⟩ := S.cells
        obtain ⟨d0, d1, d2, d3, d4, d5, d6, d7, d8⟩ := C.cells
        go_wp2_with fail
        clear c0 c1 c2 c3 c4 d0 d1 d2 d3 d4 d5 d6 d7 d8
        refine (refuse_any 4 w2).mono ?_
        rintro e wz ⟨rfl, hbz⟩
        have Rz := R.later hbz (by omega)
        have bz := bw.trans (hbz.mono bw.size)
        clear R bw
        obtain ⟨⟨e0, e1, e2, e3, e4⟩, ⟨q0, q1, q2, q3, q4⟩⟩ := Rz.cells
        go_wp2
        obtain ⟨Z, hZ, z0, z1, z2, z3, z4⟩ := Z5.cells (X := wz) (v0 := .int .i64 0) (v1 := .slice Option.none 0 0) (v2 := .int .i64 0) (v3 := .int .i64 0) (v4 := .bool false) Rz
        have bZ : Below w.heap.size w Z := by rw [hZ]; exact Z5.below bz (by omega)
        unfold Z5 at hZ
        rw [← hZ]
        clear hZ
        exact bodyPost_ret (v := .tuple #[.agg #[.int .i64 0, .slice Option.none 0 0, .int .i64 0, .int .i64 0, .bool false], .slice Option.none 0 0, .iface 57 (.int .i64 4)]) (by simp [results, Try.results32, go_sem, z0, z1, z2, z3, z4]) rfl (And.intro (by rw [HS.out]; exact ⟨_, _, _, _, _, _, rfl, row_nil _, row_nil _, newOr_nil, newOr_nil⟩) bZ)
      | true =>
        by_cases hk : t = kind
        · have HS : Hid (reserveF g t h y l who key kind = ⟨g, l, t, h, y, [], 0⟩) := by show _ = _; unfold reserveF; rw [if_neg HP.out, if_neg h0, if_neg (by rw [hH]; simp [hk])]
          have hk' : (t != kind) = false := by simpa using hk
          clear hH h0 hk
          obtain ⟨⟨c0, c1, c2, c3, c4⟩, _⟩ := S.cells
          obtain ⟨d0, d1, d2, d3, d4, d5, d6, d7, d8⟩ := C.cells
          obtain ⟨⟨e0, e1, e2, e3, e4⟩, ⟨q0, q1, q2, q3, q4⟩⟩ := R.cells
          have HR : Hid (Row w a n l) := hr
          go_wp2
          obtain ⟨Z, hZ, z0, z1, z2, z3, z4⟩ := Z5.cells (X := w2) (v0 := .int .i64 g) (v1 := .slice a n c) (v2 := .int .i64 t) (v3 := .int .i64 h) (v4 := .bool y) R
          have bZ : Below w.heap.size w Z := by rw [hZ]; exact Z5.below bw (by omega)
          unfold Z5 at hZ
          rw [← hZ]
          clear hZ
          exact bodyPost_ret (v := .tuple #[.agg #[.int .i64 g, .slice a n c, .int .i64 t, .int .i64 h, .bool y], .slice Option.none 0 0, .nilIface]) (by simp [results, Try.results32, go_sem, z0, z1, z2, z3, z4]) rfl (And.intro (by rw [HS.out]; exact ⟨a, n, c, _, _, _, rfl, HR.out.later bZ, row_nil _, newOr_same, newOr_nil⟩) bZ)
        · have HS : Hid (reserveF g t h y l who key kind = refused 4) := by show _ = _; unfold reserveF; rw [if_neg HP.out, if_neg h0, if_pos (.inr hk)]
          have hk' : (t != kind) = true := by simpa using hk
          clear hH h0 hk
          obtain ⟨⟨c0, c1, c2, c3, c4⟩, _⟩ := S.cells
          obtain ⟨d0, d1, d2, d3, d4, d5, d6, d7, d8⟩ := C.cells
          go_wp2_with fail
          clear c0 c1 c2 c3 c4 d0 d1 d2 d3 d4 d5 d6 d7 d8
          refine (refuse_any 4 w2).mono ?_
          rintro e wz ⟨rfl, hbz⟩
          have Rz := R.later hbz (by omega)
          have bz := bw.trans (hbz.mono bw.size)
          clear R bw
          obtain ⟨⟨e0, e1, e2, e3, e4⟩, ⟨q0, q1, q2, q3, q4⟩⟩ := Rz.cells
          go_wp2
          obtain ⟨Z, hZ, z0, z1, z2, z3, z4⟩ := Z5.cells (X := wz) (v0 := .int .i64 0) (v1 := .slice Option.none 0 0) (v2 := .int .i64 0) (v3 := .int .i64 0) (v4 := .bool false) Rz
          have bZ : Below w.heap.size w Z := by rw [hZ]; exact Z5.below bz (by omega)
          unfold Z5 at hZ
          rw [← hZ]
          clear hZ
          exact bodyPost_ret (v := .tuple #[.agg #[.int .i64 0, .slice Option.none 0 0, .int .i64 0, .int .i64 0, .bool false], .slice Option.none 0 0, .iface 57 (.int .i64 4)]) (by simp [results, Try.results32, go_sem, z0, z1, z2, z3, z4]) rfl (And.intro (by rw [HS.out]; exact ⟨_, _, _, _, _, _, rfl, row_nil _, row_nil _, newOr_nil, newOr_nil⟩) bZ)
end Go.Proofs.Ytokjacbipmfjkaa
