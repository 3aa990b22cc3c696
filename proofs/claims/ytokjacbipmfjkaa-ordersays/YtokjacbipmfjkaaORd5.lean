/- What the document's own Ordered answers: to who lets nobody be known. No statement of the seat is proved here. -/
import Derived.Test.YtokjacbipmfjkaaORd
namespace Go.Proofs.Ytokjacbipmfjkaa
open Go.ChangeShapes Go.WideShapes Go.ChangeAt Go.RowKit Go.Deep

set_option maxRecDepth 100000 in
set_option maxHeartbeats 8000000 in
theorem rord_5 (g t h : Int) (a : Option Addr) (n c : Nat) (y : Bool) (l : List (Int × Int)) (who key new kind at' : Int) (st : Bool) (da wa : ByteArray) (w : World) (hr : Row w a n l) (hn : n ≤ 900) (hf : fault g t h l = 0)  :
    Calls Try.prog 14 #[stV g a n c t h y, cmV 5 who key new kind at' st da wa] w fun e w' => ROut (doF g t h y l 5 who key new kind st) e w' ∧ Below w.heap.size w w' := by
  obtain ⟨X, hX, bX, sX, S0, C0, R0⟩ := laidThree w g a n c t h y 5 who key new kind at' st da wa
  obtain ⟨⟨c0, c1, c2, c3, c4⟩, _⟩ := S0.cells
  obtain ⟨d0, d1, d2, d3, d4, d5, d6, d7, d8⟩ := C0.cells
  have hg := fault_g hf
  go_enter Try.func14, Try.ntmps14
  go_wp2_with fail
  rw [← hX]
  clear hX c0 c1 c2 c3 c4 d0 d1 d2 d3 d4 d5 d6 d7 d8
  refine (keyOf_any g t h a n c y l who X (hr.later bX)).mono ?_
  rintro e w1 ⟨rfl, hbn⟩
  have bw := bX.trans (hbn.mono bX.size)
  have hsn := hbn.size
  have S := S0.later hbn (by omega)
  have C := C0.later hbn (by omega)
  have R := R0.later hbn (by omega)
  clear S0 C0 R0 hbn bX
  obtain ⟨⟨c0, c1, c2, c3, c4⟩, _⟩ := S.cells
  obtain ⟨d0, d1, d2, d3, d4, d5, d6, d7, d8⟩ := C.cells
  go_wp2_with fail
  clear c0 c1 c2 c3 c4 d0 d1 d2 d3 d4 d5 d6 d7 d8
  refine (rholds_any g t h a n c y l who w1 (hr.later bw)).mono ?_
  rintro e w2 ⟨rfl, hbn⟩
  rw [← holds_same hf]
  have bw := bw.trans (hbn.mono bw.size)
  have hsn := hbn.size
  have S := S.later hbn S.lt
  have C := C.later hbn (by omega)
  have R := R.later hbn (by omega)
  clear hbn
  by_cases hP : key = 0
  · have hP' : (key == 0) = true := by simpa using hP
    have HS : Hid (doF g t h y l 5 who key new kind st = refused 4) := by show _ = _; unfold doF; rw [if_neg (by decide), if_neg (by decide), if_neg (by decide), if_pos rfl]; unfold clearF; rw [if_pos (by unfold provenB; simp [hP])]
    obtain ⟨⟨c0, c1, c2, c3, c4⟩, _⟩ := S.cells
    obtain ⟨d0, d1, d2, d3, d4, d5, d6, d7, d8⟩ := C.cells
    obtain ⟨⟨e0, e1, e2, e3, e4⟩, ⟨q0, q1, q2, q3, q4⟩⟩ := R.cells
    clear S C hP
    go_wp2
    obtain ⟨Z, hZ, z0, z1, z2, z3, z4⟩ := Z5.cells (X := w2) (v0 := .int .i64 0) (v1 := .slice Option.none 0 0) (v2 := .int .i64 0) (v3 := .int .i64 0) (v4 := .bool false) R
    have bZ : Below w.heap.size w Z := by rw [hZ]; exact Z5.below bw (by omega)
    unfold Z5 at hZ
    rw [← hZ]
    clear hZ
    exact bodyPost_ret (v := .tuple #[.agg #[.int .i64 0, .slice Option.none 0 0, .int .i64 0, .int .i64 0, .bool false], .slice Option.none 0 0, .int .i64 4]) (by simp [results, Try.results14, go_sem, z0, z1, z2, z3, z4]) rfl (And.intro (by rw [HS.out]; exact ⟨_, _, _, _, _, _, rfl, row_nil _, row_nil _⟩) bZ)
  have hP' : (key == 0) = false := by simpa using hP
  by_cases hQ : keyOf l who = key
  case neg =>
    have hQ' : (keyOf l who != key) = true := by simpa using hQ
    have HS : Hid (doF g t h y l 5 who key new kind st = refused 4) := by show _ = _; unfold doF; rw [if_neg (by decide), if_neg (by decide), if_neg (by decide), if_pos rfl]; unfold clearF; rw [if_pos (by unfold provenB; simp [hQ])]
    obtain ⟨⟨c0, c1, c2, c3, c4⟩, _⟩ := S.cells
    obtain ⟨d0, d1, d2, d3, d4, d5, d6, d7, d8⟩ := C.cells
    obtain ⟨⟨e0, e1, e2, e3, e4⟩, ⟨q0, q1, q2, q3, q4⟩⟩ := R.cells
    clear S C hQ hP
    go_wp2
    obtain ⟨Z, hZ, z0, z1, z2, z3, z4⟩ := Z5.cells (X := w2) (v0 := .int .i64 0) (v1 := .slice Option.none 0 0) (v2 := .int .i64 0) (v3 := .int .i64 0) (v4 := .bool false) R
    have bZ : Below w.heap.size w Z := by rw [hZ]; exact Z5.below bw (by omega)
    unfold Z5 at hZ
    rw [← hZ]
    clear hZ
    exact bodyPost_ret (v := .tuple #[.agg #[.int .i64 0, .slice Option.none 0 0, .int .i64 0, .int .i64 0, .bool false], .slice Option.none 0 0, .int .i64 4]) (by simp [results, Try.results14, go_sem, z0, z1, z2, z3, z4]) rfl (And.intro (by rw [HS.out]; exact ⟨_, _, _, _, _, _, rfl, row_nil _, row_nil _⟩) bZ)
  have hQ' : (keyOf l who != key) = false := by simpa using hQ
  have HP : Hid (provenB l who key = true) := by show _ = _; simp [provenB, hP, hQ]
  clear hP hQ
  obtain ⟨V, hV⟩ : ∃ V, V = w2.alloc (.cells #[.int .i64 g, .slice a n c, .int .i64 t, .int .i64 h, .bool y] 24) := ⟨_, rfl⟩
  have T : StB V w2.heap.size g a n c t h y := by rw [hV]; exact heap_alloc_new w2 _
  have hbn : Below w2.heap.size w2 V := by rw [hV]; exact (Below.refl _ _).alloc (Nat.le_refl _) _
  obtain ⟨⟨c0, c1, c2, c3, c4⟩, _⟩ := S.cells
  obtain ⟨d0, d1, d2, d3, d4, d5, d6, d7, d8⟩ := C.cells
  go_upto_region 8 with fail
  rw [← hV]
  clear hV
  clear c0 c1 c2 c3 c4 d0 d1 d2 d3 d4 d5 d6 d7 d8
  have bw := bw.trans (hbn.mono bw.size)
  have hsn := hbn.size
  have S := S.later hbn S.lt
  have C := C.later hbn (by omega)
  have R := R.later hbn (by omega)
  clear hbn
  have hKl : w.heap.size + 3 ≤ w2.heap.size := by omega
  have hKa : Off w2.heap.size a n := fun hn0 ad e => by have := hr.lt hn0 ad e; omega
  have hRa : Off (w.heap.size + 1 + 1) a n := fun hn0 ad e => by have := hr.lt hn0 ad e; omega
  have hKV : w2.heap.size < V.heap.size := T.lt
  generalize w2.heap.size = K at *
  have hrt := hr.later bw
  have HS : Hid (doF g t h y l 5 who key new kind st = ⟨cnt g, [], 0, 0, y, tellL (othersL l who) 3, 0⟩) := by show _ = _; unfold doF; rw [if_neg (by decide), if_neg (by decide), if_neg (by decide), if_pos rfl]; unfold clearF; rw [if_neg (by rw [HP.out]; decide)]
  have hlo : (othersL l who).length ≤ 1000 := by have h1 := others_len l who (l).length; rw [List.take_length] at h1; have := hr.1; omega
  obtain ⟨⟨c0, c1, c2, c3, c4⟩, _⟩ := S.cells
  obtain ⟨d0, d1, d2, d3, d4, d5, d6, d7, d8⟩ := C.cells
  obtain ⟨⟨m0, m1, m2, m3, m4⟩, ⟨p0, p1, p2, p3, p4⟩⟩ := T.cells
  go_wp2_with fail
  clear c0 c1 c2 c3 c4 d0 d1 d2 d3 d4 d5 d6 d7 d8
  clear m0 m1 m2 m3 m4 p0 p1 p2 p3 p4
  refine (rothers_any g t h a n c y l who _ hrt (by omega)).mono ?_
  rintro e w4 ⟨ao, no, co, rfl, hno, hbn⟩
  have HNO : Hid (Nums w4 ao no (othersL l who)) := hno
  have hnb : no ≤ 1000000 := by have := hno.1; omega
  clear hno
  have bw := bw.trans (hbn.mono bw.size)
  have hsn := hbn.size
  have S := S.later hbn S.lt
  have C := C.later hbn (by omega)
  have R := R.later hbn (by omega)
  have T := T.later hbn T.lt
  have hrt := hrt.later hbn
  clear hbn
  go_wp2_with fail
  refine (tellAll_any ao no co (othersL l who) 3 _ HNO.out hnb).mono ?_
  rintro e w5 ⟨a5, n5, c5, rfl, hrl, hbn, hfl⟩
  have bw := bw.trans (hbn.mono bw.size)
  have hsn := hbn.size
  have S := S.later hbn S.lt
  have C := C.later hbn (by omega)
  have R := R.later hbn (by omega)
  have T := T.later hbn T.lt
  have hrt := hrt.later hbn
  clear hbn
  obtain ⟨⟨c0, c1, c2, c3, c4⟩, _⟩ := S.cells
  obtain ⟨d0, d1, d2, d3, d4, d5, d6, d7, d8⟩ := C.cells
  go_wp2_with fail
  clear c0 c1 c2 c3 c4 d0 d1 d2 d3 d4 d5 d6 d7 d8
  refine (rfreed_any g t h a n c y w5).mono ?_
  rintro e w6 ⟨rfl, hbn⟩
  have T := T.later hbn T.lt
  have hrt := hrt.later hbn
  have hrl := hrl.later hbn
  have bw := bw.trans (hbn.mono bw.size)
  have hsn := hbn.size
  have S := S.later hbn S.lt
  have C := C.later hbn (by omega)
  have R := R.later hbn (by omega)
  clear hbn
  have hnil : Row w6 Option.none 0 [] := row_nil _
  clear hrt
  have hrt := hnil
  obtain ⟨V3, hV9⟩ : ∃ V, V = (Z5 w6 K (.int .i64 g) (.slice a n c) (.int .i64 0) (.int .i64 0) (.bool y)).setCell ⟨K, 1, Option.none⟩ (.slice Option.none 0 0) := ⟨_, rfl⟩
  obtain ⟨⟨c0, c1, c2, c3, c4⟩, _⟩ := S.cells
  obtain ⟨d0, d1, d2, d3, d4, d5, d6, d7, d8⟩ := C.cells
  obtain ⟨⟨m0, m1, m2, m3, m4⟩, ⟨p0, p1, p2, p3, p4⟩⟩ := T.cells
  go_upto_region 62 with fail
  have hV9' := hV9
  unfold Z5 at hV9'
  rw [← hV9']
  clear hV9'
  have bV9 : Below (w.heap.size + 3) w6 V3 := by rw [hV9]; exact (Z5.below (Below.refl _ _) hKl).setCell (by exact hKl) _
  have T9 : StB V3 K g Option.none 0 0 0 0 y := by rw [hV9]; exact T.over.set1
  have hrt : Row V3 Option.none 0 [] := row_nil _
  have hrl : Row V3 a5 n5 (tellL (othersL l who) 3) := Row.off (K := K) hrl (fun _ ad e => by have := hfl ad e; omega) (fun b hb _ => by rw [hV9]; exact (set_other _ K 1 _ b hb).trans (z5_other _ _ _ _ _ _ _ b hb))
  clear hV9
  clear c0 c1 c2 c3 c4 d0 d1 d2 d3 d4 d5 d6 d7 d8
  clear m0 m1 m2 m3 m4 p0 p1 p2 p3 p4
  have bw := bw.trans (bV9.mono (by omega))
  have hsn := bV9.size
  have S := S.later bV9 (by omega)
  have C := C.later bV9 (by omega)
  have R := R.later bV9 (by omega)
  clear T
  have T := T9
  clear T9 bV9
  have hgb : -9223372036854775808 ≤ g + 1 ∧ g + 1 ≤ 9223372036854775807 := by omega
  obtain ⟨hgb1, hgb2⟩ := hgb
  obtain ⟨V7, hV7⟩ : ∃ V, V = V3.setCell ⟨K, 0, Option.none⟩ (.int .i64 (g + 1)) := ⟨_, rfl⟩
  obtain ⟨⟨c0, c1, c2, c3, c4⟩, _⟩ := S.cells
  obtain ⟨d0, d1, d2, d3, d4, d5, d6, d7, d8⟩ := C.cells
  obtain ⟨⟨m0, m1, m2, m3, m4⟩, ⟨p0, p1, p2, p3, p4⟩⟩ := T.cells
  go_upto_region 64 with fail
  rw [← hV7]
  have bV7 : Below (w.heap.size + 3) V3 V7 := by rw [hV7]; exact (Below.refl _ _).setCell (by exact hKl) _
  have T3 : StB V7 K (g + 1) Option.none 0 0 0 0 y := by rw [hV7]; exact T.set0
  have hrt3 : Row V7 Option.none 0 [] := Row.off (K := K) (hrt) (fun h0 => absurd rfl h0) (fun b hb _ => by rw [hV7]; exact set_other _ K 0 _ b hb)
  have hrl3 : Row V7 a5 n5 (tellL (othersL l who) 3) := Row.off (K := K) hrl (fun _ ad e => by have := hfl ad e; omega) (fun b hb _ => by rw [hV7]; exact set_other _ K 0 _ b hb)
  clear hV7
  clear c0 c1 c2 c3 c4 d0 d1 d2 d3 d4 d5 d6 d7 d8
  clear m0 m1 m2 m3 m4 p0 p1 p2 p3 p4
  have bw := bw.trans (bV7.mono (by omega))
  have hsn := bV7.size
  have S := S.later bV7 (by omega)
  have C := C.later bV7 (by omega)
  have R := R.later bV7 (by omega)
  clear T
  have T := T3
  clear T3 bV7
  by_cases hgg : 1000000000 < g + 1
  · have hgg' : decide (1000000000 < g + 1) = true := by simpa using hgg
    have HG : Hid (cnt g = 0) := cnt_hi hgg
    clear hgg
    obtain ⟨V8, hV8⟩ : ∃ V, V = V7.setCell ⟨K, 0, Option.none⟩ (.int .i64 0) := ⟨_, rfl⟩
    obtain ⟨⟨c0, c1, c2, c3, c4⟩, _⟩ := S.cells
    obtain ⟨d0, d1, d2, d3, d4, d5, d6, d7, d8⟩ := C.cells
    obtain ⟨⟨m0, m1, m2, m3, m4⟩, ⟨p0, p1, p2, p3, p4⟩⟩ := T.cells
    go_upto_region 66 with fail
    rw [← hV8]
    have bV8 : Below (w.heap.size + 3) V7 V8 := by rw [hV8]; exact (Below.refl _ _).setCell (by exact hKl) _
    have T4 : StB V8 K 0 Option.none 0 0 0 0 y := by rw [hV8]; exact T.set0
    have hrt4 : Row V8 Option.none 0 [] := Row.off (K := K) hrt3 (fun h0 => absurd rfl h0) (fun b hb _ => by rw [hV8]; exact set_other _ K 0 _ b hb)
    have hrl4 : Row V8 a5 n5 (tellL (othersL l who) 3) := Row.off (K := K) hrl3 (fun _ ad e => by have := hfl ad e; omega) (fun b hb _ => by rw [hV8]; exact set_other _ K 0 _ b hb)
    clear hV8
    clear c0 c1 c2 c3 c4 d0 d1 d2 d3 d4 d5 d6 d7 d8
    clear m0 m1 m2 m3 m4 p0 p1 p2 p3 p4
    have bw := bw.trans (bV8.mono (by omega))
    have hsn := bV8.size
    have S := S.later bV8 (by omega)
    have C := C.later bV8 (by omega)
    have R := R.later bV8 (by omega)
    clear T
    have T := T4
    clear T4 bV8
    have HRT : Hid (Row V8 Option.none 0 []) := hrt4
    have HRL : Hid (Row V8 a5 n5 (tellL (othersL l who) 3)) := hrl4
    obtain ⟨⟨c0, c1, c2, c3, c4⟩, _⟩ := S.cells
    obtain ⟨d0, d1, d2, d3, d4, d5, d6, d7, d8⟩ := C.cells
    obtain ⟨⟨m0, m1, m2, m3, m4⟩, ⟨p0, p1, p2, p3, p4⟩⟩ := T.cells
    obtain ⟨⟨e0, e1, e2, e3, e4⟩, ⟨q0, q1, q2, q3, q4⟩⟩ := R.cells
    clear S C T
    go_wp2
    obtain ⟨Z, hZ, z0, z1, z2, z3, z4⟩ := Z5.cells (X := V8) (v0 := .int .i64 0) (v1 := .slice Option.none 0 0) (v2 := .int .i64 0) (v3 := .int .i64 0) (v4 := .bool y) R
    have bZ : Below w.heap.size w Z := by rw [hZ]; exact Z5.below bw (by omega)
    have hrT : Row Z Option.none 0 [] := by rw [hZ]; exact HRT.out.off (fun h0 => absurd rfl h0) (fun b hb _ => z5_other _ _ _ _ _ _ _ b hb)
    have hrL : Row Z a5 n5 (tellL (othersL l who) 3) := by rw [hZ]; exact HRL.out.off (fun _ ad e => by have := hfl ad e; omega) (fun b hb _ => z5_other _ _ _ _ _ _ _ b hb)
    unfold Z5 at hZ
    rw [← hZ]
    clear hZ
    exact bodyPost_ret (v := .tuple #[.agg #[.int .i64 0, .slice Option.none 0 0, .int .i64 0, .int .i64 0, .bool y], .slice a5 n5 c5, .int .i64 0]) (by simp [results, Try.results14, go_sem, z0, z1, z2, z3, z4]) rfl (And.intro (by rw [HS.out, HG.out]; exact ⟨_, _, _, _, _, _, rfl, hrT, hrL⟩) bZ)
  · have hgg' : decide (1000000000 < g + 1) = false := by simpa using hgg
    have HG : Hid (cnt g = g + 1) := cnt_lo hgg
    clear hgg
    have HRT : Hid (Row V7 Option.none 0 []) := hrt3
    have HRL : Hid (Row V7 a5 n5 (tellL (othersL l who) 3)) := hrl3
    obtain ⟨⟨c0, c1, c2, c3, c4⟩, _⟩ := S.cells
    obtain ⟨d0, d1, d2, d3, d4, d5, d6, d7, d8⟩ := C.cells
    obtain ⟨⟨m0, m1, m2, m3, m4⟩, ⟨p0, p1, p2, p3, p4⟩⟩ := T.cells
    obtain ⟨⟨e0, e1, e2, e3, e4⟩, ⟨q0, q1, q2, q3, q4⟩⟩ := R.cells
    clear S C T
    go_wp2
    obtain ⟨Z, hZ, z0, z1, z2, z3, z4⟩ := Z5.cells (X := V7) (v0 := .int .i64 (g + 1)) (v1 := .slice Option.none 0 0) (v2 := .int .i64 0) (v3 := .int .i64 0) (v4 := .bool y) R
    have bZ : Below w.heap.size w Z := by rw [hZ]; exact Z5.below bw (by omega)
    have hrT : Row Z Option.none 0 [] := by rw [hZ]; exact HRT.out.off (fun h0 => absurd rfl h0) (fun b hb _ => z5_other _ _ _ _ _ _ _ b hb)
    have hrL : Row Z a5 n5 (tellL (othersL l who) 3) := by rw [hZ]; exact HRL.out.off (fun _ ad e => by have := hfl ad e; omega) (fun b hb _ => z5_other _ _ _ _ _ _ _ b hb)
    unfold Z5 at hZ
    rw [← hZ]
    clear hZ
    exact bodyPost_ret (v := .tuple #[.agg #[.int .i64 (g + 1), .slice Option.none 0 0, .int .i64 0, .int .i64 0, .bool y], .slice a5 n5 c5, .int .i64 0]) (by simp [results, Try.results14, go_sem, z0, z1, z2, z3, z4]) rfl (And.intro (by rw [HS.out, HG.out]; exact ⟨_, _, _, _, _, _, rfl, hrT, hrL⟩) bZ)
end Go.Proofs.Ytokjacbipmfjkaa
