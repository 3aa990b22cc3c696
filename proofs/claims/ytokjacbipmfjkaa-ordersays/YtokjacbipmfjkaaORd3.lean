/- What the document's own Ordered answers: to who takes what is held. No statement of the seat is proved here. -/
import Derived.Test.YtokjacbipmfjkaaORd
namespace Go.Proofs.Ytokjacbipmfjkaa
open Go.ChangeShapes Go.WideShapes Go.ChangeAt Go.RowKit Go.Deep

set_option maxRecDepth 100000 in
set_option maxHeartbeats 8000000 in
theorem rord_3 (g t h : Int) (a : Option Addr) (n c : Nat) (y : Bool) (l : List (Int × Int)) (who key new kind at' : Int) (st : Bool) (da wa : ByteArray) (w : World) (hr : Row w a n l) (hf : fault g t h l = 0) (hc : CmdOk 3 who key new kind) :
    Calls Try.prog 14 #[stV g a n c t h y, cmV 3 who key new kind at' st da wa] w fun e w' => ROut (doF g t h y l 3 who key new kind st) e w' ∧ Below w.heap.size w w' := by
  obtain ⟨X, hX, bX, sX, S0, C0, R0⟩ := laidThree w g a n c t h y 3 who key new kind at' st da wa
  obtain ⟨⟨c0, c1, c2, c3, c4⟩, _⟩ := S0.cells
  obtain ⟨d0, d1, d2, d3, d4, d5, d6, d7, d8⟩ := C0.cells
  obtain ⟨hrf, htf⟩ := fault_rf hf
  have hg := fault_g hf
  go_enter Try.func14, Try.ntmps14
  go_wp2_with fail
  rw [← hX]
  clear hX c0 c1 c2 c3 c4 d0 d1 d2 d3 d4 d5 d6 d7 d8
  refine (keyOf_any g t h a n c y l who X (hr.later bX)).mono ?_
  rintro e w1 ⟨rfl, hbn⟩
  have bw := bX.trans (hbn.mono bX.size)
  have hsn := hbn.size
  have S := S0.later hbn (by omega)
  have C := C0.later hbn (by omega)
  have R := R0.later hbn (by omega)
  clear S0 C0 R0 hbn bX
  obtain ⟨⟨c0, c1, c2, c3, c4⟩, _⟩ := S.cells
  obtain ⟨d0, d1, d2, d3, d4, d5, d6, d7, d8⟩ := C.cells
  go_wp2_with fail
  clear c0 c1 c2 c3 c4 d0 d1 d2 d3 d4 d5 d6 d7 d8
  refine (rholds_any g t h a n c y l who w1 (hr.later bw)).mono ?_
  rintro e w2 ⟨rfl, hbn⟩
  rw [← holds_same hf]
  have bw := bw.trans (hbn.mono bw.size)
  have hsn := hbn.size
  have S := S.later hbn S.lt
  have C := C.later hbn (by omega)
  have R := R.later hbn (by omega)
  clear hbn
  by_cases hP : key = 0
  · have hP' : (key == 0) = true := by simpa using hP
    have HS : Hid (doF g t h y l 3 who key new kind st = refused 4) := by show _ = _; unfold doF; rw [if_neg (by decide), if_pos rfl]; unfold reserveF; rw [if_pos (by unfold provenB; simp [hP])]
    obtain ⟨⟨c0, c1, c2, c3, c4⟩, _⟩ := S.cells
    obtain ⟨d0, d1, d2, d3, d4, d5, d6, d7, d8⟩ := C.cells
    obtain ⟨⟨e0, e1, e2, e3, e4⟩, ⟨q0, q1, q2, q3, q4⟩⟩ := R.cells
    clear S C hP
    go_wp2
    obtain ⟨Z, hZ, z0, z1, z2, z3, z4⟩ := Z5.cells (X := w2) (v0 := .int .i64 0) (v1 := .slice Option.none 0 0) (v2 := .int .i64 0) (v3 := .int .i64 0) (v4 := .bool false) R
    have bZ : Below w.heap.size w Z := by rw [hZ]; exact Z5.below bw (by omega)
    unfold Z5 at hZ
    rw [← hZ]
    clear hZ
    exact bodyPost_ret (v := .tuple #[.agg #[.int .i64 0, .slice Option.none 0 0, .int .i64 0, .int .i64 0, .bool false], .slice Option.none 0 0, .int .i64 4]) (by simp [results, Try.results14, go_sem, z0, z1, z2, z3, z4]) rfl (And.intro (by rw [HS.out]; exact ⟨_, _, _, _, _, _, rfl, row_nil _, row_nil _⟩) bZ)
  have hP' : (key == 0) = false := by simpa using hP
  by_cases hQ : keyOf l who = key
  case neg =>
    have hQ' : (keyOf l who != key) = true := by simpa using hQ
    have HS : Hid (doF g t h y l 3 who key new kind st = refused 4) := by show _ = _; unfold doF; rw [if_neg (by decide), if_pos rfl]; unfold reserveF; rw [if_pos (by unfold provenB; simp [hQ])]
    obtain ⟨⟨c0, c1, c2, c3, c4⟩, _⟩ := S.cells
    obtain ⟨d0, d1, d2, d3, d4, d5, d6, d7, d8⟩ := C.cells
    obtain ⟨⟨e0, e1, e2, e3, e4⟩, ⟨q0, q1, q2, q3, q4⟩⟩ := R.cells
    clear S C hQ hP
    go_wp2
    obtain ⟨Z, hZ, z0, z1, z2, z3, z4⟩ := Z5.cells (X := w2) (v0 := .int .i64 0) (v1 := .slice Option.none 0 0) (v2 := .int .i64 0) (v3 := .int .i64 0) (v4 := .bool false) R
    have bZ : Below w.heap.size w Z := by rw [hZ]; exact Z5.below bw (by omega)
    unfold Z5 at hZ
    rw [← hZ]
    clear hZ
    exact bodyPost_ret (v := .tuple #[.agg #[.int .i64 0, .slice Option.none 0 0, .int .i64 0, .int .i64 0, .bool false], .slice Option.none 0 0, .int .i64 4]) (by simp [results, Try.results14, go_sem, z0, z1, z2, z3, z4]) rfl (And.intro (by rw [HS.out]; exact ⟨_, _, _, _, _, _, rfl, row_nil _, row_nil _⟩) bZ)
  have hQ' : (keyOf l who != key) = false := by simpa using hQ
  have HP : Hid (provenB l who key = true) := by show _ = _; simp [provenB, hP, hQ]
  clear hP hQ
  obtain ⟨V, hV⟩ : ∃ V, V = w2.alloc (.cells #[.int .i64 g, .slice a n c, .int .i64 t, .int .i64 h, .bool y] 24) := ⟨_, rfl⟩
  have T : StB V w2.heap.size g a n c t h y := by rw [hV]; exact heap_alloc_new w2 _
  have hbn : Below w2.heap.size w2 V := by rw [hV]; exact (Below.refl _ _).alloc (Nat.le_refl _) _
  obtain ⟨⟨c0, c1, c2, c3, c4⟩, _⟩ := S.cells
  obtain ⟨d0, d1, d2, d3, d4, d5, d6, d7, d8⟩ := C.cells
  go_upto_region 8 with fail
  rw [← hV]
  clear hV
  clear c0 c1 c2 c3 c4 d0 d1 d2 d3 d4 d5 d6 d7 d8
  have bw := bw.trans (hbn.mono bw.size)
  have hsn := hbn.size
  have S := S.later hbn S.lt
  have C := C.later hbn (by omega)
  have R := R.later hbn (by omega)
  clear hbn
  have hKl : w.heap.size + 3 ≤ w2.heap.size := by omega
  have hKa : Off w2.heap.size a n := fun hn0 ad e => by have := hr.lt hn0 ad e; omega
  have hRa : Off (w.heap.size + 1 + 1) a n := fun hn0 ad e => by have := hr.lt hn0 ad e; omega
  generalize w2.heap.size = K at *
  have hrt := hr.later bw
  by_cases h0 : t = 0
  · have h0' : (t == 0) = true := by simpa using h0
    have HS : Hid (doF g t h y l 3 who key new kind st = ⟨g, l, kind, heldH kind who, y, [], 0⟩) := by show _ = _; unfold doF; rw [if_neg (by decide), if_pos rfl]; unfold reserveF; rw [if_neg (by rw [HP.out]; decide), if_pos h0]
    clear h0
    obtain ⟨⟨c0, c1, c2, c3, c4⟩, _⟩ := S.cells
    obtain ⟨d0, d1, d2, d3, d4, d5, d6, d7, d8⟩ := C.cells
    go_wp2_with fail
    clear c0 c1 c2 c3 c4 d0 d1 d2 d3 d4 d5 d6 d7 d8
    refine (taken_any g t h a n c y kind who V).mono ?_
    rintro e w3 ⟨rfl, hbn⟩
    have HH : Hid ((if 7 ≤ kind then (0 : Int) else who) = heldH kind who) := by
      show _ = _
      have := hc.ty (by decide)
      simp only [typeB, Bool.or_eq_true, beq_iff_eq] at this
      unfold heldH
      by_cases h7 : kind = 7 ∨ kind = 8
      · rw [if_pos (by omega), if_pos h7]
      · rw [if_neg (by omega), if_neg h7]
    rw [HH.out]
    have bw := bw.trans (hbn.mono bw.size)
    have hsn := hbn.size
    have S := S.later hbn S.lt
    have C := C.later hbn (by omega)
    have R := R.later hbn (by omega)
    have T := T.later hbn T.lt
    have hrt := hrt.later hbn
    clear hbn
    obtain ⟨V3, hV3⟩ : ∃ V, V = Z5 w3 K (.int .i64 g) (.slice a n c) (.int .i64 kind) (.int .i64 (heldH kind who)) (.bool y) := ⟨_, rfl⟩
    obtain ⟨⟨c0, c1, c2, c3, c4⟩, _⟩ := S.cells
    obtain ⟨d0, d1, d2, d3, d4, d5, d6, d7, d8⟩ := C.cells
    obtain ⟨⟨m0, m1, m2, m3, m4⟩, ⟨p0, p1, p2, p3, p4⟩⟩ := T.cells
    go_upto_region 62 with fail
    have hV3' := hV3
    unfold Z5 at hV3'
    rw [← hV3']
    clear hV3'
    have bV3 : Below (w.heap.size + 3) w3 V3 := by rw [hV3]; exact Z5.below (Below.refl _ _) hKl
    have T3 : StB V3 K g a n c kind (heldH kind who) y := by rw [hV3]; exact T.over
    have hrt3 : Row V3 a n l := hrt.off hKa (fun b hb _ => by rw [hV3]; exact z5_other _ _ _ _ _ _ _ b hb)
    clear hV3
    clear c0 c1 c2 c3 c4 d0 d1 d2 d3 d4 d5 d6 d7 d8
    clear m0 m1 m2 m3 m4 p0 p1 p2 p3 p4
    have bw := bw.trans (bV3.mono (by omega))
    have hsn := bV3.size
    have S := S.later bV3 (by omega)
    have C := C.later bV3 (by omega)
    have R := R.later bV3 (by omega)
    clear T
    have T := T3
    clear T3 bV3
    have HRT : Hid (Row V3 a n l) := hrt3
    have HRL : Hid (Row V3 Option.none 0 []) := row_nil _
    obtain ⟨⟨c0, c1, c2, c3, c4⟩, _⟩ := S.cells
    obtain ⟨d0, d1, d2, d3, d4, d5, d6, d7, d8⟩ := C.cells
    obtain ⟨⟨m0, m1, m2, m3, m4⟩, ⟨p0, p1, p2, p3, p4⟩⟩ := T.cells
    obtain ⟨⟨e0, e1, e2, e3, e4⟩, ⟨q0, q1, q2, q3, q4⟩⟩ := R.cells
    clear S C T
    go_wp2
    obtain ⟨Z, hZ, z0, z1, z2, z3, z4⟩ := Z5.cells (X := V3) (v0 := .int .i64 g) (v1 := .slice a n c) (v2 := .int .i64 kind) (v3 := .int .i64 (heldH kind who)) (v4 := .bool y) R
    have bZ : Below w.heap.size w Z := by rw [hZ]; exact Z5.below bw (by omega)
    have hrT : Row Z a n l := by rw [hZ]; exact HRT.out.off hRa (fun b hb _ => z5_other _ _ _ _ _ _ _ b hb)
    have hrL : Row Z Option.none 0 [] := by rw [hZ]; exact HRL.out.off (fun h0 => absurd rfl h0) (fun b hb _ => z5_other _ _ _ _ _ _ _ b hb)
    unfold Z5 at hZ
    rw [← hZ]
    clear hZ
    exact bodyPost_ret (v := .tuple #[.agg #[.int .i64 g, .slice a n c, .int .i64 kind, .int .i64 (heldH kind who), .bool y], .slice Option.none 0 0, .int .i64 0]) (by simp [results, Try.results14, go_sem, z0, z1, z2, z3, z4]) rfl (And.intro (by rw [HS.out]; exact ⟨_, _, _, _, _, _, rfl, hrT, hrL⟩) bZ)
  have h0' : (t == 0) = false := by simpa using h0
  cases hH : holdsB t h l who with
  | false =>
    have HS : Hid (doF g t h y l 3 who key new kind st = refused 4) := by show _ = _; unfold doF; rw [if_neg (by decide), if_pos rfl]; unfold reserveF; rw [if_neg (by rw [HP.out]; decide), if_neg h0, if_pos (.inl hH)]
    obtain ⟨⟨c0, c1, c2, c3, c4⟩, _⟩ := S.cells
    obtain ⟨d0, d1, d2, d3, d4, d5, d6, d7, d8⟩ := C.cells
    obtain ⟨⟨e0, e1, e2, e3, e4⟩, ⟨q0, q1, q2, q3, q4⟩⟩ := R.cells
    clear S C T h0 hH
    go_wp2
    obtain ⟨Z, hZ, z0, z1, z2, z3, z4⟩ := Z5.cells (X := V) (v0 := .int .i64 0) (v1 := .slice Option.none 0 0) (v2 := .int .i64 0) (v3 := .int .i64 0) (v4 := .bool false) R
    have bZ : Below w.heap.size w Z := by rw [hZ]; exact Z5.below bw (by omega)
    unfold Z5 at hZ
    rw [← hZ]
    clear hZ
    exact bodyPost_ret (v := .tuple #[.agg #[.int .i64 0, .slice Option.none 0 0, .int .i64 0, .int .i64 0, .bool false], .slice Option.none 0 0, .int .i64 4]) (by simp [results, Try.results14, go_sem, z0, z1, z2, z3, z4]) rfl (And.intro (by rw [HS.out]; exact ⟨_, _, _, _, _, _, rfl, row_nil _, row_nil _⟩) bZ)
  | true =>
    by_cases hk : t = kind
    · have HS : Hid (doF g t h y l 3 who key new kind st = ⟨g, l, t, h, y, [], 0⟩) := by show _ = _; unfold doF; rw [if_neg (by decide), if_pos rfl]; unfold reserveF; rw [if_neg (by rw [HP.out]; decide), if_neg h0, if_neg (by rw [hH]; simp [hk])]
      have hk' : (t != kind) = false := by simpa using hk
      clear hk hH h0
      have HRT : Hid (Row V a n l) := hrt
      have HRL : Hid (Row V Option.none 0 []) := row_nil _
      obtain ⟨⟨c0, c1, c2, c3, c4⟩, _⟩ := S.cells
      obtain ⟨d0, d1, d2, d3, d4, d5, d6, d7, d8⟩ := C.cells
      obtain ⟨⟨m0, m1, m2, m3, m4⟩, ⟨p0, p1, p2, p3, p4⟩⟩ := T.cells
      obtain ⟨⟨e0, e1, e2, e3, e4⟩, ⟨q0, q1, q2, q3, q4⟩⟩ := R.cells
      clear S C T
      go_wp2
      obtain ⟨Z, hZ, z0, z1, z2, z3, z4⟩ := Z5.cells (X := V) (v0 := .int .i64 g) (v1 := .slice a n c) (v2 := .int .i64 t) (v3 := .int .i64 h) (v4 := .bool y) R
      have bZ : Below w.heap.size w Z := by rw [hZ]; exact Z5.below bw (by omega)
      have hrT : Row Z a n l := by rw [hZ]; exact HRT.out.off hRa (fun b hb _ => z5_other _ _ _ _ _ _ _ b hb)
      have hrL : Row Z Option.none 0 [] := by rw [hZ]; exact HRL.out.off (fun h0 => absurd rfl h0) (fun b hb _ => z5_other _ _ _ _ _ _ _ b hb)
      unfold Z5 at hZ
      rw [← hZ]
      clear hZ
      exact bodyPost_ret (v := .tuple #[.agg #[.int .i64 g, .slice a n c, .int .i64 t, .int .i64 h, .bool y], .slice Option.none 0 0, .int .i64 0]) (by simp [results, Try.results14, go_sem, z0, z1, z2, z3, z4]) rfl (And.intro (by rw [HS.out]; exact ⟨_, _, _, _, _, _, rfl, hrT, hrL⟩) bZ)
    · have hk' : (t != kind) = true := by simpa using hk
      have HS : Hid (doF g t h y l 3 who key new kind st = refused 4) := by show _ = _; unfold doF; rw [if_neg (by decide), if_pos rfl]; unfold reserveF; rw [if_neg (by rw [HP.out]; decide), if_neg h0, if_pos (.inr hk)]
      obtain ⟨⟨c0, c1, c2, c3, c4⟩, _⟩ := S.cells
      obtain ⟨d0, d1, d2, d3, d4, d5, d6, d7, d8⟩ := C.cells
      obtain ⟨⟨e0, e1, e2, e3, e4⟩, ⟨q0, q1, q2, q3, q4⟩⟩ := R.cells
      clear S C T h0 hH hk
      go_wp2
      obtain ⟨Z, hZ, z0, z1, z2, z3, z4⟩ := Z5.cells (X := V) (v0 := .int .i64 0) (v1 := .slice Option.none 0 0) (v2 := .int .i64 0) (v3 := .int .i64 0) (v4 := .bool false) R
      have bZ : Below w.heap.size w Z := by rw [hZ]; exact Z5.below bw (by omega)
      unfold Z5 at hZ
      rw [← hZ]
      clear hZ
      exact bodyPost_ret (v := .tuple #[.agg #[.int .i64 0, .slice Option.none 0 0, .int .i64 0, .int .i64 0, .bool false], .slice Option.none 0 0, .int .i64 4]) (by simp [results, Try.results14, go_sem, z0, z1, z2, z3, z4]) rfl (And.intro (by rw [HS.out]; exact ⟨_, _, _, _, _, _, rfl, row_nil _, row_nil _⟩) bZ)
end Go.Proofs.Ytokjacbipmfjkaa
