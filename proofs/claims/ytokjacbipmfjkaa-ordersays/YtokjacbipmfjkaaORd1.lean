/- What the document's own Ordered answers: to who is to be known by a key. No statement of the seat is proved here. -/
import Derived.Test.YtokjacbipmfjkaaORd
namespace Go.Proofs.Ytokjacbipmfjkaa
open Go.ChangeShapes Go.WideShapes Go.ChangeAt Go.RowKit Go.Deep

set_option maxRecDepth 100000 in
set_option maxHeartbeats 8000000 in
theorem rord_1 (g t h : Int) (a : Option Addr) (n c : Nat) (y : Bool) (l : List (Int × Int)) (who key new kind at' : Int) (st : Bool) (da wa : ByteArray) (w : World) (hr : Row w a n l) (hn : n ≤ 900) (hf : fault g t h l = 0) :
    Calls Try.prog 14 #[stV g a n c t h y, cmV 1 who key new kind at' st da wa] w fun e w' => ROut (doF g t h y l 1 who key new kind st) e w' ∧ Below w.heap.size w w' := by
  obtain ⟨X, hX, bX, sX, S0, C0, R0⟩ := laidThree w g a n c t h y 1 who key new kind at' st da wa
  obtain ⟨⟨c0, c1, c2, c3, c4⟩, _⟩ := S0.cells
  obtain ⟨d0, d1, d2, d3, d4, d5, d6, d7, d8⟩ := C0.cells
  obtain ⟨hrf, htf⟩ := fault_rf hf
  have hg := fault_g hf
  go_enter Try.func14, Try.ntmps14
  go_wp2_with fail
  rw [← hX]
  clear hX c0 c1 c2 c3 c4 d0 d1 d2 d3 d4 d5 d6 d7 d8
  refine (keyOf_any g t h a n c y l who X (hr.later bX)).mono ?_
  rintro e w1 ⟨rfl, hbn⟩
  have bw := bX.trans (hbn.mono bX.size)
  have hsn := hbn.size
  have S := S0.later hbn (by omega)
  have C := C0.later hbn (by omega)
  have R := R0.later hbn (by omega)
  clear S0 C0 R0 hbn bX
  obtain ⟨⟨c0, c1, c2, c3, c4⟩, _⟩ := S.cells
  obtain ⟨d0, d1, d2, d3, d4, d5, d6, d7, d8⟩ := C.cells
  go_wp2_with fail
  clear c0 c1 c2 c3 c4 d0 d1 d2 d3 d4 d5 d6 d7 d8
  refine (rholds_any g t h a n c y l who w1 (hr.later bw)).mono ?_
  rintro e w2 ⟨rfl, hbn⟩
  rw [← holds_same hf]
  have bw := bw.trans (hbn.mono bw.size)
  have hsn := hbn.size
  have S := S.later hbn S.lt
  have C := C.later hbn (by omega)
  have R := R.later hbn (by omega)
  clear hbn
  by_cases hQ : keyOf l who = key
  case neg =>
    have hQ' : (keyOf l who != key) = true := by simpa using hQ
    have HS : Hid (doF g t h y l 1 who key new kind st = refused 4) := by show _ = _; unfold doF; rw [if_pos (by decide)]; unfold registerF; rw [if_pos (by simp [regBad, hQ])]
    obtain ⟨⟨c0, c1, c2, c3, c4⟩, _⟩ := S.cells
    obtain ⟨d0, d1, d2, d3, d4, d5, d6, d7, d8⟩ := C.cells
    obtain ⟨⟨e0, e1, e2, e3, e4⟩, ⟨q0, q1, q2, q3, q4⟩⟩ := R.cells
    clear S C hQ
    go_wp2
    obtain ⟨Z, hZ, z0, z1, z2, z3, z4⟩ := Z5.cells (X := w2) (v0 := .int .i64 0) (v1 := .slice Option.none 0 0) (v2 := .int .i64 0) (v3 := .int .i64 0) (v4 := .bool false) R
    have bZ : Below w.heap.size w Z := by rw [hZ]; exact Z5.below bw (by omega)
    unfold Z5 at hZ
    rw [← hZ]
    clear hZ
    exact bodyPost_ret (v := .tuple #[.agg #[.int .i64 0, .slice Option.none 0 0, .int .i64 0, .int .i64 0, .bool false], .slice Option.none 0 0, .int .i64 4]) (by simp [results, Try.results14, go_sem, z0, z1, z2, z3, z4]) rfl (And.intro (by rw [HS.out]; exact ⟨_, _, _, _, _, _, rfl, row_nil _, row_nil _⟩) bZ)
  have hQ' : (keyOf l who != key) = false := by simpa using hQ
  have HP : Hid (¬ regBad l 1 who key = true) := by show ¬ _; simp [regBad, hQ]
  clear hQ
  obtain ⟨V, hV⟩ : ∃ V, V = w2.alloc (.cells #[.int .i64 g, .slice a n c, .int .i64 t, .int .i64 h, .bool y] 24) := ⟨_, rfl⟩
  have T : StB V w2.heap.size g a n c t h y := by rw [hV]; exact heap_alloc_new w2 _
  have hbn : Below w2.heap.size w2 V := by rw [hV]; exact (Below.refl _ _).alloc (Nat.le_refl _) _
  obtain ⟨⟨c0, c1, c2, c3, c4⟩, _⟩ := S.cells
  obtain ⟨d0, d1, d2, d3, d4, d5, d6, d7, d8⟩ := C.cells
  go_upto_region 8 with fail
  rw [← hV]
  clear hV
  clear c0 c1 c2 c3 c4 d0 d1 d2 d3 d4 d5 d6 d7 d8
  have bw := bw.trans (hbn.mono bw.size)
  have hsn := hbn.size
  have S := S.later hbn S.lt
  have C := C.later hbn (by omega)
  have R := R.later hbn (by omega)
  clear hbn
  have hKl : w.heap.size + 3 ≤ w2.heap.size := by omega
  have hKa : Off w2.heap.size a n := fun hn0 ad e => by have := hr.lt hn0 ad e; omega
  have hRa : Off (w.heap.size + 1 + 1) a n := fun hn0 ad e => by have := hr.lt hn0 ad e; omega
  have hKV : w2.heap.size < V.heap.size := T.lt
  generalize w2.heap.size = K at *
  have hrt := hr.later bw
  obtain ⟨⟨c0, c1, c2, c3, c4⟩, _⟩ := S.cells
  obtain ⟨d0, d1, d2, d3, d4, d5, d6, d7, d8⟩ := C.cells
  go_wp2_with fail
  clear c0 c1 c2 c3 c4 d0 d1 d2 d3 d4 d5 d6 d7 d8
  refine (rwith_far g t h a n c y l who new V hrt (by omega)).mono ?_
  rintro e w3 ⟨a2, n2, k2, rfl, hr2, hbn, hf2⟩
  rw [← withL_eq hrf] at hr2
  have T := T.later hbn T.lt
  have bw := bw.trans (hbn.mono bw.size)
  have hsn := hbn.size
  have S := S.later hbn S.lt
  have C := C.later hbn (by omega)
  have R := R.later hbn (by omega)
  clear hbn
  clear hrt
  have hrt := hr2
  clear hr2
  have hof : ∀ b, b ≤ K → Off b a2 n2 := fun b hb _ ad e => by have := hf2 ad e; have := T.lt; omega
  have hn2 : n2 ≤ 901 := by have := withL_len l who new; have := hrt.1; have := hr.1; omega
  have HN2 : Hid (n2 = (withL l who new).length) := hrt.1.symm
  obtain ⟨V1, hV9⟩ : ∃ V, V = (Z5 w3 K (.int .i64 g) (.slice a2 n2 k2) (.int .i64 t) (.int .i64 h) (.bool y)).setCell ⟨K, 4, Option.none⟩ (.bool st) := ⟨_, rfl⟩
  obtain ⟨⟨c0, c1, c2, c3, c4⟩, _⟩ := S.cells
  obtain ⟨d0, d1, d2, d3, d4, d5, d6, d7, d8⟩ := C.cells
  obtain ⟨⟨m0, m1, m2, m3, m4⟩, ⟨p0, p1, p2, p3, p4⟩⟩ := T.cells
  go_upto_region 14 with fail
  have hV9' := hV9
  unfold Z5 at hV9'
  rw [← hV9']
  clear hV9'
  have bV9 : Below (w.heap.size + 3) w3 V1 := by rw [hV9]; exact (Z5.below (Below.refl _ _) hKl).setCell (by exact hKl) _
  have T9 : StB V1 K g a2 n2 k2 t h st := by rw [hV9]; exact T.over.set4
  have hrt : Row V1 a2 n2 (withL l who new) := hrt.off (hof _ (Nat.le_refl _)) (fun b hb _ => by rw [hV9]; exact (set_other _ K 4 _ b hb).trans (z5_other _ _ _ _ _ _ _ b hb))
  clear hV9
  clear c0 c1 c2 c3 c4 d0 d1 d2 d3 d4 d5 d6 d7 d8
  clear m0 m1 m2 m3 m4 p0 p1 p2 p3 p4
  have bw := bw.trans (bV9.mono (by omega))
  have hsn := bV9.size
  have S := S.later bV9 (by omega)
  have C := C.later bV9 (by omega)
  have R := R.later bV9 (by omega)
  clear T
  have T := T9
  clear T9 bV9
  by_cases hz : new = 0
  case neg =>
    have hz' : (new == 0) = false := by simpa using hz
    have HS : Hid (doF g t h y l 1 who key new kind st = ⟨cnt g, withL l who new, t, h, st, [], 0⟩) := by show _ = _; unfold doF; rw [if_pos (by decide)]; unfold registerF; rw [if_neg HP.out, if_pos (.inl hz)]
    clear hz
    have hgb : -9223372036854775808 ≤ g + 1 ∧ g + 1 ≤ 9223372036854775807 := by omega
    obtain ⟨hgb1, hgb2⟩ := hgb
    obtain ⟨V7, hV7⟩ : ∃ V, V = V1.setCell ⟨K, 0, Option.none⟩ (.int .i64 (g + 1)) := ⟨_, rfl⟩
    obtain ⟨⟨c0, c1, c2, c3, c4⟩, _⟩ := S.cells
    obtain ⟨d0, d1, d2, d3, d4, d5, d6, d7, d8⟩ := C.cells
    obtain ⟨⟨m0, m1, m2, m3, m4⟩, ⟨p0, p1, p2, p3, p4⟩⟩ := T.cells
    go_upto_region 64 with fail
    rw [← hV7]
    have bV7 : Below (w.heap.size + 3) V1 V7 := by rw [hV7]; exact (Below.refl _ _).setCell (by exact hKl) _
    have T3 : StB V7 K (g + 1) a2 n2 k2 t h st := by rw [hV7]; exact T.set0
    have hrt3 : Row V7 a2 n2 (withL l who new) := Row.off (K := K) (hrt) (hof _ (Nat.le_refl _)) (fun b hb _ => by rw [hV7]; exact set_other _ K 0 _ b hb)
    have hrl3 : Row V7 Option.none 0 [] := row_nil _
    clear hV7
    clear c0 c1 c2 c3 c4 d0 d1 d2 d3 d4 d5 d6 d7 d8
    clear m0 m1 m2 m3 m4 p0 p1 p2 p3 p4
    have bw := bw.trans (bV7.mono (by omega))
    have hsn := bV7.size
    have S := S.later bV7 (by omega)
    have C := C.later bV7 (by omega)
    have R := R.later bV7 (by omega)
    clear T
    have T := T3
    clear T3 bV7
    by_cases hgg : 1000000000 < g + 1
    · have hgg' : decide (1000000000 < g + 1) = true := by simpa using hgg
      have HG : Hid (cnt g = 0) := cnt_hi hgg
      clear hgg
      obtain ⟨V8, hV8⟩ : ∃ V, V = V7.setCell ⟨K, 0, Option.none⟩ (.int .i64 0) := ⟨_, rfl⟩
      obtain ⟨⟨c0, c1, c2, c3, c4⟩, _⟩ := S.cells
      obtain ⟨d0, d1, d2, d3, d4, d5, d6, d7, d8⟩ := C.cells
      obtain ⟨⟨m0, m1, m2, m3, m4⟩, ⟨p0, p1, p2, p3, p4⟩⟩ := T.cells
      go_upto_region 66 with fail
      rw [← hV8]
      have bV8 : Below (w.heap.size + 3) V7 V8 := by rw [hV8]; exact (Below.refl _ _).setCell (by exact hKl) _
      have T4 : StB V8 K 0 a2 n2 k2 t h st := by rw [hV8]; exact T.set0
      have hrt4 : Row V8 a2 n2 (withL l who new) := Row.off (K := K) hrt3 (hof _ (Nat.le_refl _)) (fun b hb _ => by rw [hV8]; exact set_other _ K 0 _ b hb)
      have hrl4 : Row V8 Option.none 0 [] := row_nil _
      clear hV8
      clear c0 c1 c2 c3 c4 d0 d1 d2 d3 d4 d5 d6 d7 d8
      clear m0 m1 m2 m3 m4 p0 p1 p2 p3 p4
      have bw := bw.trans (bV8.mono (by omega))
      have hsn := bV8.size
      have S := S.later bV8 (by omega)
      have C := C.later bV8 (by omega)
      have R := R.later bV8 (by omega)
      clear T
      have T := T4
      clear T4 bV8
      have HRT : Hid (Row V8 a2 n2 (withL l who new)) := hrt4
      have HRL : Hid (Row V8 Option.none 0 []) := hrl4
      obtain ⟨⟨c0, c1, c2, c3, c4⟩, _⟩ := S.cells
      obtain ⟨d0, d1, d2, d3, d4, d5, d6, d7, d8⟩ := C.cells
      obtain ⟨⟨m0, m1, m2, m3, m4⟩, ⟨p0, p1, p2, p3, p4⟩⟩ := T.cells
      obtain ⟨⟨e0, e1, e2, e3, e4⟩, ⟨q0, q1, q2, q3, q4⟩⟩ := R.cells
      clear S C T
      go_wp2
      obtain ⟨Z, hZ, z0, z1, z2, z3, z4⟩ := Z5.cells (X := V8) (v0 := .int .i64 0) (v1 := .slice a2 n2 k2) (v2 := .int .i64 t) (v3 := .int .i64 h) (v4 := .bool st) R
      have bZ : Below w.heap.size w Z := by rw [hZ]; exact Z5.below bw (by omega)
      have hrT : Row Z a2 n2 (withL l who new) := by rw [hZ]; exact HRT.out.off (hof _ (by omega)) (fun b hb _ => z5_other _ _ _ _ _ _ _ b hb)
      have hrL : Row Z Option.none 0 [] := by rw [hZ]; exact HRL.out.off (fun h0 => absurd rfl h0) (fun b hb _ => z5_other _ _ _ _ _ _ _ b hb)
      unfold Z5 at hZ
      rw [← hZ]
      clear hZ
      exact bodyPost_ret (v := .tuple #[.agg #[.int .i64 0, .slice a2 n2 k2, .int .i64 t, .int .i64 h, .bool st], .slice Option.none 0 0, .int .i64 0]) (by simp [results, Try.results14, go_sem, z0, z1, z2, z3, z4]) rfl (And.intro (by rw [HS.out, HG.out]; exact ⟨_, _, _, _, _, _, rfl, hrT, hrL⟩) bZ)
    · have hgg' : decide (1000000000 < g + 1) = false := by simpa using hgg
      have HG : Hid (cnt g = g + 1) := cnt_lo hgg
      clear hgg
      have HRT : Hid (Row V7 a2 n2 (withL l who new)) := hrt3
      have HRL : Hid (Row V7 Option.none 0 []) := hrl3
      obtain ⟨⟨c0, c1, c2, c3, c4⟩, _⟩ := S.cells
      obtain ⟨d0, d1, d2, d3, d4, d5, d6, d7, d8⟩ := C.cells
      obtain ⟨⟨m0, m1, m2, m3, m4⟩, ⟨p0, p1, p2, p3, p4⟩⟩ := T.cells
      obtain ⟨⟨e0, e1, e2, e3, e4⟩, ⟨q0, q1, q2, q3, q4⟩⟩ := R.cells
      clear S C T
      go_wp2
      obtain ⟨Z, hZ, z0, z1, z2, z3, z4⟩ := Z5.cells (X := V7) (v0 := .int .i64 (g + 1)) (v1 := .slice a2 n2 k2) (v2 := .int .i64 t) (v3 := .int .i64 h) (v4 := .bool st) R
      have bZ : Below w.heap.size w Z := by rw [hZ]; exact Z5.below bw (by omega)
      have hrT : Row Z a2 n2 (withL l who new) := by rw [hZ]; exact HRT.out.off (hof _ (by omega)) (fun b hb _ => z5_other _ _ _ _ _ _ _ b hb)
      have hrL : Row Z Option.none 0 [] := by rw [hZ]; exact HRL.out.off (fun h0 => absurd rfl h0) (fun b hb _ => z5_other _ _ _ _ _ _ _ b hb)
      unfold Z5 at hZ
      rw [← hZ]
      clear hZ
      exact bodyPost_ret (v := .tuple #[.agg #[.int .i64 (g + 1), .slice a2 n2 k2, .int .i64 t, .int .i64 h, .bool st], .slice Option.none 0 0, .int .i64 0]) (by simp [results, Try.results14, go_sem, z0, z1, z2, z3, z4]) rfl (And.intro (by rw [HS.out, HG.out]; exact ⟨_, _, _, _, _, _, rfl, hrT, hrL⟩) bZ)
  have hz' : (new == 0) = true := by simpa using hz
  cases hH : holdsB t h l who with
  | false =>
    have HS : Hid (doF g t h y l 1 who key new kind st = ⟨cnt g, withL l who new, t, h, st, [], 0⟩) := by show _ = _; unfold doF; rw [if_pos (by decide)]; unfold registerF; rw [if_neg HP.out, if_pos (.inr hH)]
    clear hz hH
    have hgb : -9223372036854775808 ≤ g + 1 ∧ g + 1 ≤ 9223372036854775807 := by omega
    obtain ⟨hgb1, hgb2⟩ := hgb
    obtain ⟨V7, hV7⟩ : ∃ V, V = V1.setCell ⟨K, 0, Option.none⟩ (.int .i64 (g + 1)) := ⟨_, rfl⟩
    obtain ⟨⟨c0, c1, c2, c3, c4⟩, _⟩ := S.cells
    obtain ⟨d0, d1, d2, d3, d4, d5, d6, d7, d8⟩ := C.cells
    obtain ⟨⟨m0, m1, m2, m3, m4⟩, ⟨p0, p1, p2, p3, p4⟩⟩ := T.cells
    go_upto_region 64 with fail
    rw [← hV7]
    have bV7 : Below (w.heap.size + 3) V1 V7 := by rw [hV7]; exact (Below.refl _ _).setCell (by exact hKl) _
    have T3 : StB V7 K (g + 1) a2 n2 k2 t h st := by rw [hV7]; exact T.set0
    have hrt3 : Row V7 a2 n2 (withL l who new) := Row.off (K := K) (hrt) (hof _ (Nat.le_refl _)) (fun b hb _ => by rw [hV7]; exact set_other _ K 0 _ b hb)
    have hrl3 : Row V7 Option.none 0 [] := row_nil _
    clear hV7
    clear c0 c1 c2 c3 c4 d0 d1 d2 d3 d4 d5 d6 d7 d8
    clear m0 m1 m2 m3 m4 p0 p1 p2 p3 p4
    have bw := bw.trans (bV7.mono (by omega))
    have hsn := bV7.size
    have S := S.later bV7 (by omega)
    have C := C.later bV7 (by omega)
    have R := R.later bV7 (by omega)
    clear T
    have T := T3
    clear T3 bV7
    by_cases hgg : 1000000000 < g + 1
    · have hgg' : decide (1000000000 < g + 1) = true := by simpa using hgg
      have HG : Hid (cnt g = 0) := cnt_hi hgg
      clear hgg
      obtain ⟨V8, hV8⟩ : ∃ V, V = V7.setCell ⟨K, 0, Option.none⟩ (.int .i64 0) := ⟨_, rfl⟩
      obtain ⟨⟨c0, c1, c2, c3, c4⟩, _⟩ := S.cells
      obtain ⟨d0, d1, d2, d3, d4, d5, d6, d7, d8⟩ := C.cells
      obtain ⟨⟨m0, m1, m2, m3, m4⟩, ⟨p0, p1, p2, p3, p4⟩⟩ := T.cells
      go_upto_region 66 with fail
      rw [← hV8]
      have bV8 : Below (w.heap.size + 3) V7 V8 := by rw [hV8]; exact (Below.refl _ _).setCell (by exact hKl) _
      have T4 : StB V8 K 0 a2 n2 k2 t h st := by rw [hV8]; exact T.set0
      have hrt4 : Row V8 a2 n2 (withL l who new) := Row.off (K := K) hrt3 (hof _ (Nat.le_refl _)) (fun b hb _ => by rw [hV8]; exact set_other _ K 0 _ b hb)
      have hrl4 : Row V8 Option.none 0 [] := row_nil _
      clear hV8
      clear c0 c1 c2 c3 c4 d0 d1 d2 d3 d4 d5 d6 d7 d8
      clear m0 m1 m2 m3 m4 p0 p1 p2 p3 p4
      have bw := bw.trans (bV8.mono (by omega))
      have hsn := bV8.size
      have S := S.later bV8 (by omega)
      have C := C.later bV8 (by omega)
      have R := R.later bV8 (by omega)
      clear T
      have T := T4
      clear T4 bV8
      have HRT : Hid (Row V8 a2 n2 (withL l who new)) := hrt4
      have HRL : Hid (Row V8 Option.none 0 []) := hrl4
      obtain ⟨⟨c0, c1, c2, c3, c4⟩, _⟩ := S.cells
      obtain ⟨d0, d1, d2, d3, d4, d5, d6, d7, d8⟩ := C.cells
      obtain ⟨⟨m0, m1, m2, m3, m4⟩, ⟨p0, p1, p2, p3, p4⟩⟩ := T.cells
      obtain ⟨⟨e0, e1, e2, e3, e4⟩, ⟨q0, q1, q2, q3, q4⟩⟩ := R.cells
      clear S C T
      go_wp2
      obtain ⟨Z, hZ, z0, z1, z2, z3, z4⟩ := Z5.cells (X := V8) (v0 := .int .i64 0) (v1 := .slice a2 n2 k2) (v2 := .int .i64 t) (v3 := .int .i64 h) (v4 := .bool st) R
      have bZ : Below w.heap.size w Z := by rw [hZ]; exact Z5.below bw (by omega)
      have hrT : Row Z a2 n2 (withL l who new) := by rw [hZ]; exact HRT.out.off (hof _ (by omega)) (fun b hb _ => z5_other _ _ _ _ _ _ _ b hb)
      have hrL : Row Z Option.none 0 [] := by rw [hZ]; exact HRL.out.off (fun h0 => absurd rfl h0) (fun b hb _ => z5_other _ _ _ _ _ _ _ b hb)
      unfold Z5 at hZ
      rw [← hZ]
      clear hZ
      exact bodyPost_ret (v := .tuple #[.agg #[.int .i64 0, .slice a2 n2 k2, .int .i64 t, .int .i64 h, .bool st], .slice Option.none 0 0, .int .i64 0]) (by simp [results, Try.results14, go_sem, z0, z1, z2, z3, z4]) rfl (And.intro (by rw [HS.out, HG.out]; exact ⟨_, _, _, _, _, _, rfl, hrT, hrL⟩) bZ)
    · have hgg' : decide (1000000000 < g + 1) = false := by simpa using hgg
      have HG : Hid (cnt g = g + 1) := cnt_lo hgg
      clear hgg
      have HRT : Hid (Row V7 a2 n2 (withL l who new)) := hrt3
      have HRL : Hid (Row V7 Option.none 0 []) := hrl3
      obtain ⟨⟨c0, c1, c2, c3, c4⟩, _⟩ := S.cells
      obtain ⟨d0, d1, d2, d3, d4, d5, d6, d7, d8⟩ := C.cells
      obtain ⟨⟨m0, m1, m2, m3, m4⟩, ⟨p0, p1, p2, p3, p4⟩⟩ := T.cells
      obtain ⟨⟨e0, e1, e2, e3, e4⟩, ⟨q0, q1, q2, q3, q4⟩⟩ := R.cells
      clear S C T
      go_wp2
      obtain ⟨Z, hZ, z0, z1, z2, z3, z4⟩ := Z5.cells (X := V7) (v0 := .int .i64 (g + 1)) (v1 := .slice a2 n2 k2) (v2 := .int .i64 t) (v3 := .int .i64 h) (v4 := .bool st) R
      have bZ : Below w.heap.size w Z := by rw [hZ]; exact Z5.below bw (by omega)
      have hrT : Row Z a2 n2 (withL l who new) := by rw [hZ]; exact HRT.out.off (hof _ (by omega)) (fun b hb _ => z5_other _ _ _ _ _ _ _ b hb)
      have hrL : Row Z Option.none 0 [] := by rw [hZ]; exact HRL.out.off (fun h0 => absurd rfl h0) (fun b hb _ => z5_other _ _ _ _ _ _ _ b hb)
      unfold Z5 at hZ
      rw [← hZ]
      clear hZ
      exact bodyPost_ret (v := .tuple #[.agg #[.int .i64 (g + 1), .slice a2 n2 k2, .int .i64 t, .int .i64 h, .bool st], .slice Option.none 0 0, .int .i64 0]) (by simp [results, Try.results14, go_sem, z0, z1, z2, z3, z4]) rfl (And.intro (by rw [HS.out, HG.out]; exact ⟨_, _, _, _, _, _, rfl, hrT, hrL⟩) bZ)
  | true =>
    have hkd := kind_of htf hH
    have HH : Hid (¬ (new ≠ 0 ∨ holdsB t h l who = false)) := by show ¬ _; rw [hH]; simp [hz]
    clear hz hH
    by_cases h7 : t < 7
    case neg =>
      have h7' : decide (t < 7) = false := by simpa using h7
      have hA : allB t = true := by have h78 : t = 7 ∨ t = 8 := by omega
                                    rcases h78 with e | e <;> simp [allB, e]
      by_cases hn0 : n2 = 0
      · subst hn0
        have HS : Hid (doF g t h y l 1 who key new kind st = ⟨cnt g, withL l who new, 0, 0, st, [], 0⟩) := by show _ = _; unfold doF; rw [if_pos (by decide)]; unfold registerF; rw [if_neg HP.out, if_neg HH.out, if_neg (by have := HN2.out; omega), if_neg (by omega)]
        clear h7 hA
        obtain ⟨⟨c0, c1, c2, c3, c4⟩, _⟩ := S.cells
        obtain ⟨d0, d1, d2, d3, d4, d5, d6, d7, d8⟩ := C.cells
        obtain ⟨⟨m0, m1, m2, m3, m4⟩, ⟨p0, p1, p2, p3, p4⟩⟩ := T.cells
        go_wp2_with fail
        clear c0 c1 c2 c3 c4 d0 d1 d2 d3 d4 d5 d6 d7 d8
        clear m0 m1 m2 m3 m4 p0 p1 p2 p3 p4
        refine (rfreed_any g t h a2 0 k2 st V1).mono ?_
        rintro e w4 ⟨rfl, hbn⟩
        have bw := bw.trans (hbn.mono bw.size)
        have hsn := hbn.size
        have S := S.later hbn S.lt
        have C := C.later hbn (by omega)
        have R := R.later hbn (by omega)
        have T := T.later hbn T.lt
        have hrt := hrt.later hbn
        clear hbn
        obtain ⟨V3, hV9⟩ : ∃ V, V = Z5 w4 K (.int .i64 g) (.slice a2 0 k2) (.int .i64 0) (.int .i64 0) (.bool st) := ⟨_, rfl⟩
        obtain ⟨⟨c0, c1, c2, c3, c4⟩, _⟩ := S.cells
        obtain ⟨d0, d1, d2, d3, d4, d5, d6, d7, d8⟩ := C.cells
        obtain ⟨⟨m0, m1, m2, m3, m4⟩, ⟨p0, p1, p2, p3, p4⟩⟩ := T.cells
        go_upto_region 62 with fail
        have hV9' := hV9
        unfold Z5 at hV9'
        rw [← hV9']
        clear hV9'
        have bV9 : Below (w.heap.size + 3) w4 V3 := by rw [hV9]; exact Z5.below (Below.refl _ _) hKl
        have T9 : StB V3 K g a2 0 k2 0 0 st := by rw [hV9]; exact T.over
        have hrt : Row V3 a2 0 (withL l who new) := Row.off (K := K) hrt (hof _ (Nat.le_refl _)) (fun b hb _ => by rw [hV9]; exact z5_other _ _ _ _ _ _ _ b hb)
        clear hV9
        clear c0 c1 c2 c3 c4 d0 d1 d2 d3 d4 d5 d6 d7 d8
        clear m0 m1 m2 m3 m4 p0 p1 p2 p3 p4
        have bw := bw.trans (bV9.mono (by omega))
        have hsn := bV9.size
        have S := S.later bV9 (by omega)
        have C := C.later bV9 (by omega)
        have R := R.later bV9 (by omega)
        clear T
        have T := T9
        clear T9 bV9
        have hgb : -9223372036854775808 ≤ g + 1 ∧ g + 1 ≤ 9223372036854775807 := by omega
        obtain ⟨hgb1, hgb2⟩ := hgb
        obtain ⟨V7, hV7⟩ : ∃ V, V = V3.setCell ⟨K, 0, Option.none⟩ (.int .i64 (g + 1)) := ⟨_, rfl⟩
        obtain ⟨⟨c0, c1, c2, c3, c4⟩, _⟩ := S.cells
        obtain ⟨d0, d1, d2, d3, d4, d5, d6, d7, d8⟩ := C.cells
        obtain ⟨⟨m0, m1, m2, m3, m4⟩, ⟨p0, p1, p2, p3, p4⟩⟩ := T.cells
        go_upto_region 64 with fail
        rw [← hV7]
        have bV7 : Below (w.heap.size + 3) V3 V7 := by rw [hV7]; exact (Below.refl _ _).setCell (by exact hKl) _
        have T3 : StB V7 K (g + 1) a2 0 k2 0 0 st := by rw [hV7]; exact T.set0
        have hrt3 : Row V7 a2 0 (withL l who new) := Row.off (K := K) (hrt) (hof _ (Nat.le_refl _)) (fun b hb _ => by rw [hV7]; exact set_other _ K 0 _ b hb)
        have hrl3 : Row V7 Option.none 0 [] := row_nil _
        clear hV7
        clear c0 c1 c2 c3 c4 d0 d1 d2 d3 d4 d5 d6 d7 d8
        clear m0 m1 m2 m3 m4 p0 p1 p2 p3 p4
        have bw := bw.trans (bV7.mono (by omega))
        have hsn := bV7.size
        have S := S.later bV7 (by omega)
        have C := C.later bV7 (by omega)
        have R := R.later bV7 (by omega)
        clear T
        have T := T3
        clear T3 bV7
        by_cases hgg : 1000000000 < g + 1
        · have hgg' : decide (1000000000 < g + 1) = true := by simpa using hgg
          have HG : Hid (cnt g = 0) := cnt_hi hgg
          clear hgg
          obtain ⟨V8, hV8⟩ : ∃ V, V = V7.setCell ⟨K, 0, Option.none⟩ (.int .i64 0) := ⟨_, rfl⟩
          obtain ⟨⟨c0, c1, c2, c3, c4⟩, _⟩ := S.cells
          obtain ⟨d0, d1, d2, d3, d4, d5, d6, d7, d8⟩ := C.cells
          obtain ⟨⟨m0, m1, m2, m3, m4⟩, ⟨p0, p1, p2, p3, p4⟩⟩ := T.cells
          go_upto_region 66 with fail
          rw [← hV8]
          have bV8 : Below (w.heap.size + 3) V7 V8 := by rw [hV8]; exact (Below.refl _ _).setCell (by exact hKl) _
          have T4 : StB V8 K 0 a2 0 k2 0 0 st := by rw [hV8]; exact T.set0
          have hrt4 : Row V8 a2 0 (withL l who new) := Row.off (K := K) hrt3 (hof _ (Nat.le_refl _)) (fun b hb _ => by rw [hV8]; exact set_other _ K 0 _ b hb)
          have hrl4 : Row V8 Option.none 0 [] := row_nil _
          clear hV8
          clear c0 c1 c2 c3 c4 d0 d1 d2 d3 d4 d5 d6 d7 d8
          clear m0 m1 m2 m3 m4 p0 p1 p2 p3 p4
          have bw := bw.trans (bV8.mono (by omega))
          have hsn := bV8.size
          have S := S.later bV8 (by omega)
          have C := C.later bV8 (by omega)
          have R := R.later bV8 (by omega)
          clear T
          have T := T4
          clear T4 bV8
          have HRT : Hid (Row V8 a2 0 (withL l who new)) := hrt4
          have HRL : Hid (Row V8 Option.none 0 []) := hrl4
          obtain ⟨⟨c0, c1, c2, c3, c4⟩, _⟩ := S.cells
          obtain ⟨d0, d1, d2, d3, d4, d5, d6, d7, d8⟩ := C.cells
          obtain ⟨⟨m0, m1, m2, m3, m4⟩, ⟨p0, p1, p2, p3, p4⟩⟩ := T.cells
          obtain ⟨⟨e0, e1, e2, e3, e4⟩, ⟨q0, q1, q2, q3, q4⟩⟩ := R.cells
          clear S C T
          go_wp2
          obtain ⟨Z, hZ, z0, z1, z2, z3, z4⟩ := Z5.cells (X := V8) (v0 := .int .i64 0) (v1 := .slice a2 0 k2) (v2 := .int .i64 0) (v3 := .int .i64 0) (v4 := .bool st) R
          have bZ : Below w.heap.size w Z := by rw [hZ]; exact Z5.below bw (by omega)
          have hrT : Row Z a2 0 (withL l who new) := by rw [hZ]; exact HRT.out.off (hof _ (by omega)) (fun b hb _ => z5_other _ _ _ _ _ _ _ b hb)
          have hrL : Row Z Option.none 0 [] := by rw [hZ]; exact HRL.out.off (fun h0 => absurd rfl h0) (fun b hb _ => z5_other _ _ _ _ _ _ _ b hb)
          unfold Z5 at hZ
          rw [← hZ]
          clear hZ
          exact bodyPost_ret (v := .tuple #[.agg #[.int .i64 0, .slice a2 0 k2, .int .i64 0, .int .i64 0, .bool st], .slice Option.none 0 0, .int .i64 0]) (by simp [results, Try.results14, go_sem, z0, z1, z2, z3, z4]) rfl (And.intro (by rw [HS.out, HG.out]; exact ⟨_, _, _, _, _, _, rfl, hrT, hrL⟩) bZ)
        · have hgg' : decide (1000000000 < g + 1) = false := by simpa using hgg
          have HG : Hid (cnt g = g + 1) := cnt_lo hgg
          clear hgg
          have HRT : Hid (Row V7 a2 0 (withL l who new)) := hrt3
          have HRL : Hid (Row V7 Option.none 0 []) := hrl3
          obtain ⟨⟨c0, c1, c2, c3, c4⟩, _⟩ := S.cells
          obtain ⟨d0, d1, d2, d3, d4, d5, d6, d7, d8⟩ := C.cells
          obtain ⟨⟨m0, m1, m2, m3, m4⟩, ⟨p0, p1, p2, p3, p4⟩⟩ := T.cells
          obtain ⟨⟨e0, e1, e2, e3, e4⟩, ⟨q0, q1, q2, q3, q4⟩⟩ := R.cells
          clear S C T
          go_wp2
          obtain ⟨Z, hZ, z0, z1, z2, z3, z4⟩ := Z5.cells (X := V7) (v0 := .int .i64 (g + 1)) (v1 := .slice a2 0 k2) (v2 := .int .i64 0) (v3 := .int .i64 0) (v4 := .bool st) R
          have bZ : Below w.heap.size w Z := by rw [hZ]; exact Z5.below bw (by omega)
          have hrT : Row Z a2 0 (withL l who new) := by rw [hZ]; exact HRT.out.off (hof _ (by omega)) (fun b hb _ => z5_other _ _ _ _ _ _ _ b hb)
          have hrL : Row Z Option.none 0 [] := by rw [hZ]; exact HRL.out.off (fun h0 => absurd rfl h0) (fun b hb _ => z5_other _ _ _ _ _ _ _ b hb)
          unfold Z5 at hZ
          rw [← hZ]
          clear hZ
          exact bodyPost_ret (v := .tuple #[.agg #[.int .i64 (g + 1), .slice a2 0 k2, .int .i64 0, .int .i64 0, .bool st], .slice Option.none 0 0, .int .i64 0]) (by simp [results, Try.results14, go_sem, z0, z1, z2, z3, z4]) rfl (And.intro (by rw [HS.out, HG.out]; exact ⟨_, _, _, _, _, _, rfl, hrT, hrL⟩) bZ)
      · have hn0' : ((n2 : Int) == 0) = false := by rw [beq_eq_false_iff_ne]; omega
        have HS : Hid (doF g t h y l 1 who key new kind st = ⟨cnt g, withL l who new, t, h, st, [], 0⟩) := by show _ = _; unfold doF; rw [if_pos (by decide)]; unfold registerF; rw [if_neg HP.out, if_neg HH.out, if_pos ⟨hA, by have := HN2.out; omega⟩]
        clear h7 hA hn0
        have hgb : -9223372036854775808 ≤ g + 1 ∧ g + 1 ≤ 9223372036854775807 := by omega
        obtain ⟨hgb1, hgb2⟩ := hgb
        obtain ⟨V7, hV7⟩ : ∃ V, V = V1.setCell ⟨K, 0, Option.none⟩ (.int .i64 (g + 1)) := ⟨_, rfl⟩
        obtain ⟨⟨c0, c1, c2, c3, c4⟩, _⟩ := S.cells
        obtain ⟨d0, d1, d2, d3, d4, d5, d6, d7, d8⟩ := C.cells
        obtain ⟨⟨m0, m1, m2, m3, m4⟩, ⟨p0, p1, p2, p3, p4⟩⟩ := T.cells
        go_upto_region 64 with fail
        rw [← hV7]
        have bV7 : Below (w.heap.size + 3) V1 V7 := by rw [hV7]; exact (Below.refl _ _).setCell (by exact hKl) _
        have T3 : StB V7 K (g + 1) a2 n2 k2 t h st := by rw [hV7]; exact T.set0
        have hrt3 : Row V7 a2 n2 (withL l who new) := Row.off (K := K) (hrt) (hof _ (Nat.le_refl _)) (fun b hb _ => by rw [hV7]; exact set_other _ K 0 _ b hb)
        have hrl3 : Row V7 Option.none 0 [] := row_nil _
        clear hV7
        clear c0 c1 c2 c3 c4 d0 d1 d2 d3 d4 d5 d6 d7 d8
        clear m0 m1 m2 m3 m4 p0 p1 p2 p3 p4
        have bw := bw.trans (bV7.mono (by omega))
        have hsn := bV7.size
        have S := S.later bV7 (by omega)
        have C := C.later bV7 (by omega)
        have R := R.later bV7 (by omega)
        clear T
        have T := T3
        clear T3 bV7
        by_cases hgg : 1000000000 < g + 1
        · have hgg' : decide (1000000000 < g + 1) = true := by simpa using hgg
          have HG : Hid (cnt g = 0) := cnt_hi hgg
          clear hgg
          obtain ⟨V8, hV8⟩ : ∃ V, V = V7.setCell ⟨K, 0, Option.none⟩ (.int .i64 0) := ⟨_, rfl⟩
          obtain ⟨⟨c0, c1, c2, c3, c4⟩, _⟩ := S.cells
          obtain ⟨d0, d1, d2, d3, d4, d5, d6, d7, d8⟩ := C.cells
          obtain ⟨⟨m0, m1, m2, m3, m4⟩, ⟨p0, p1, p2, p3, p4⟩⟩ := T.cells
          go_upto_region 66 with fail
          rw [← hV8]
          have bV8 : Below (w.heap.size + 3) V7 V8 := by rw [hV8]; exact (Below.refl _ _).setCell (by exact hKl) _
          have T4 : StB V8 K 0 a2 n2 k2 t h st := by rw [hV8]; exact T.set0
          have hrt4 : Row V8 a2 n2 (withL l who new) := Row.off (K := K) hrt3 (hof _ (Nat.le_refl _)) (fun b hb _ => by rw [hV8]; exact set_other _ K 0 _ b hb)
          have hrl4 : Row V8 Option.none 0 [] := row_nil _
          clear hV8
          clear c0 c1 c2 c3 c4 d0 d1 d2 d3 d4 d5 d6 d7 d8
          clear m0 m1 m2 m3 m4 p0 p1 p2 p3 p4
          have bw := bw.trans (bV8.mono (by omega))
          have hsn := bV8.size
          have S := S.later bV8 (by omega)
          have C := C.later bV8 (by omega)
          have R := R.later bV8 (by omega)
          clear T
          have T := T4
          clear T4 bV8
          have HRT : Hid (Row V8 a2 n2 (withL l who new)) := hrt4
          have HRL : Hid (Row V8 Option.none 0 []) := hrl4
          obtain ⟨⟨c0, c1, c2, c3, c4⟩, _⟩ := S.cells
          obtain ⟨d0, d1, d2, d3, d4, d5, d6, d7, d8⟩ := C.cells
          obtain ⟨⟨m0, m1, m2, m3, m4⟩, ⟨p0, p1, p2, p3, p4⟩⟩ := T.cells
          obtain ⟨⟨e0, e1, e2, e3, e4⟩, ⟨q0, q1, q2, q3, q4⟩⟩ := R.cells
          clear S C T
          go_wp2
          obtain ⟨Z, hZ, z0, z1, z2, z3, z4⟩ := Z5.cells (X := V8) (v0 := .int .i64 0) (v1 := .slice a2 n2 k2) (v2 := .int .i64 t) (v3 := .int .i64 h) (v4 := .bool st) R
          have bZ : Below w.heap.size w Z := by rw [hZ]; exact Z5.below bw (by omega)
          have hrT : Row Z a2 n2 (withL l who new) := by rw [hZ]; exact HRT.out.off (hof _ (by omega)) (fun b hb _ => z5_other _ _ _ _ _ _ _ b hb)
          have hrL : Row Z Option.none 0 [] := by rw [hZ]; exact HRL.out.off (fun h0 => absurd rfl h0) (fun b hb _ => z5_other _ _ _ _ _ _ _ b hb)
          unfold Z5 at hZ
          rw [← hZ]
          clear hZ
          exact bodyPost_ret (v := .tuple #[.agg #[.int .i64 0, .slice a2 n2 k2, .int .i64 t, .int .i64 h, .bool st], .slice Option.none 0 0, .int .i64 0]) (by simp [results, Try.results14, go_sem, z0, z1, z2, z3, z4]) rfl (And.intro (by rw [HS.out, HG.out]; exact ⟨_, _, _, _, _, _, rfl, hrT, hrL⟩) bZ)
        · have hgg' : decide (1000000000 < g + 1) = false := by simpa using hgg
          have HG : Hid (cnt g = g + 1) := cnt_lo hgg
          clear hgg
          have HRT : Hid (Row V7 a2 n2 (withL l who new)) := hrt3
          have HRL : Hid (Row V7 Option.none 0 []) := hrl3
          obtain ⟨⟨c0, c1, c2, c3, c4⟩, _⟩ := S.cells
          obtain ⟨d0, d1, d2, d3, d4, d5, d6, d7, d8⟩ := C.cells
          obtain ⟨⟨m0, m1, m2, m3, m4⟩, ⟨p0, p1, p2, p3, p4⟩⟩ := T.cells
          obtain ⟨⟨e0, e1, e2, e3, e4⟩, ⟨q0, q1, q2, q3, q4⟩⟩ := R.cells
          clear S C T
          go_wp2
          obtain ⟨Z, hZ, z0, z1, z2, z3, z4⟩ := Z5.cells (X := V7) (v0 := .int .i64 (g + 1)) (v1 := .slice a2 n2 k2) (v2 := .int .i64 t) (v3 := .int .i64 h) (v4 := .bool st) R
          have bZ : Below w.heap.size w Z := by rw [hZ]; exact Z5.below bw (by omega)
          have hrT : Row Z a2 n2 (withL l who new) := by rw [hZ]; exact HRT.out.off (hof _ (by omega)) (fun b hb _ => z5_other _ _ _ _ _ _ _ b hb)
          have hrL : Row Z Option.none 0 [] := by rw [hZ]; exact HRL.out.off (fun h0 => absurd rfl h0) (fun b hb _ => z5_other _ _ _ _ _ _ _ b hb)
          unfold Z5 at hZ
          rw [← hZ]
          clear hZ
          exact bodyPost_ret (v := .tuple #[.agg #[.int .i64 (g + 1), .slice a2 n2 k2, .int .i64 t, .int .i64 h, .bool st], .slice Option.none 0 0, .int .i64 0]) (by simp [results, Try.results14, go_sem, z0, z1, z2, z3, z4]) rfl (And.intro (by rw [HS.out, HG.out]; exact ⟨_, _, _, _, _, _, rfl, hrT, hrL⟩) bZ)
    have h7' : decide (t < 7) = true := by simpa using h7
    have hA : ¬ (allB t = true ∧ 0 < (withL l who new).length) := by
      rintro ⟨e, _⟩
      simp only [allB, Bool.or_eq_true, beq_iff_eq] at e
      omega
    obtain ⟨⟨c0, c1, c2, c3, c4⟩, _⟩ := S.cells
    obtain ⟨d0, d1, d2, d3, d4, d5, d6, d7, d8⟩ := C.cells
    obtain ⟨⟨m0, m1, m2, m3, m4⟩, ⟨p0, p1, p2, p3, p4⟩⟩ := T.cells
    go_wp2_with fail
    clear c0 c1 c2 c3 c4 d0 d1 d2 d3 d4 d5 d6 d7 d8
    clear m0 m1 m2 m3 m4 p0 p1 p2 p3 p4
    refine (rfreed_any g t h a2 n2 k2 st V1).mono ?_
    rintro e w4 ⟨rfl, hbn⟩
    have bw := bw.trans (hbn.mono bw.size)
    have hsn := hbn.size
    have S := S.later hbn S.lt
    have C := C.later hbn (by omega)
    have R := R.later hbn (by omega)
    have T := T.later hbn T.lt
    have hrt := hrt.later hbn
    clear hbn
    obtain ⟨V3, hV9⟩ : ∃ V, V = Z5 w4 K (.int .i64 g) (.slice a2 n2 k2) (.int .i64 0) (.int .i64 0) (.bool st) := ⟨_, rfl⟩
    obtain ⟨⟨c0, c1, c2, c3, c4⟩, _⟩ := S.cells
    obtain ⟨d0, d1, d2, d3, d4, d5, d6, d7, d8⟩ := C.cells
    obtain ⟨⟨m0, m1, m2, m3, m4⟩, ⟨p0, p1, p2, p3, p4⟩⟩ := T.cells
    go_upto_region 17 with fail
    have hV9' := hV9
    unfold Z5 at hV9'
    rw [← hV9']
    clear hV9'
    have bV9 : Below (w.heap.size + 3) w4 V3 := by rw [hV9]; exact Z5.below (Below.refl _ _) hKl
    have T9 : StB V3 K g a2 n2 k2 0 0 st := by rw [hV9]; exact T.over
    have hrt : Row V3 a2 n2 (withL l who new) := Row.off (K := K) hrt (hof _ (Nat.le_refl _)) (fun b hb _ => by rw [hV9]; exact z5_other _ _ _ _ _ _ _ b hb)
    clear hV9
    clear c0 c1 c2 c3 c4 d0 d1 d2 d3 d4 d5 d6 d7 d8
    clear m0 m1 m2 m3 m4 p0 p1 p2 p3 p4
    have bw := bw.trans (bV9.mono (by omega))
    have hsn := bV9.size
    have S := S.later bV9 (by omega)
    have C := C.later bV9 (by omega)
    have R := R.later bV9 (by omega)
    clear T
    have T := T9
    clear T9 bV9
    by_cases h4 : 4 < t
    · have h4' : decide (4 < t) = true := by simpa using h4
      have HS : Hid (doF g t h y l 1 who key new kind st = ⟨cnt g, withL l who new, 0, 0, st, tellL (othersL (withL l who new) who) 2, 0⟩) := by show _ = _; unfold doF; rw [if_pos (by decide)]; unfold registerF; rw [if_neg HP.out, if_neg HH.out, if_neg hA, if_pos (by omega)]
      clear h4 h7 hA
      have hlo : (othersL (withL l who new) who).length ≤ 1000 := by have h1 := others_len (withL l who new) who (withL l who new).length; rw [List.take_length] at h1; have := HN2.out; omega
      obtain ⟨⟨c0, c1, c2, c3, c4⟩, _⟩ := S.cells
      obtain ⟨d0, d1, d2, d3, d4, d5, d6, d7, d8⟩ := C.cells
      obtain ⟨⟨m0, m1, m2, m3, m4⟩, ⟨p0, p1, p2, p3, p4⟩⟩ := T.cells
      go_wp2_with fail
      clear c0 c1 c2 c3 c4 d0 d1 d2 d3 d4 d5 d6 d7 d8
      clear m0 m1 m2 m3 m4 p0 p1 p2 p3 p4
      refine (rothers_any g 0 0 a2 n2 k2 st (withL l who new) who _ hrt (by omega)).mono ?_
      rintro e w5 ⟨ao, no, co, rfl, hno, hbn⟩
      have HNO : Hid (Nums w5 ao no (othersL (withL l who new) who)) := hno
      have hnb : no ≤ 1000000 := by have := hno.1; omega
      clear hno
      have bw := bw.trans (hbn.mono bw.size)
      have hsn := hbn.size
      have S := S.later hbn S.lt
      have C := C.later hbn (by omega)
      have R := R.later hbn (by omega)
      have T := T.later hbn T.lt
      have hrt := hrt.later hbn
      clear hbn
      go_wp2_with fail
      refine (tellAll_any ao no co (othersL (withL l who new) who) 2 _ HNO.out hnb).mono ?_
      rintro e w6 ⟨a5, n5, c5, rfl, hrl, hbn, hfl⟩
      have bw := bw.trans (hbn.mono bw.size)
      have hsn := hbn.size
      have S := S.later hbn S.lt
      have C := C.later hbn (by omega)
      have R := R.later hbn (by omega)
      have T := T.later hbn T.lt
      have hrt := hrt.later hbn
      clear hbn
      have hgb : -9223372036854775808 ≤ g + 1 ∧ g + 1 ≤ 9223372036854775807 := by omega
      obtain ⟨hgb1, hgb2⟩ := hgb
      obtain ⟨V7, hV7⟩ : ∃ V, V = w6.setCell ⟨K, 0, Option.none⟩ (.int .i64 (g + 1)) := ⟨_, rfl⟩
      obtain ⟨⟨c0, c1, c2, c3, c4⟩, _⟩ := S.cells
      obtain ⟨d0, d1, d2, d3, d4, d5, d6, d7, d8⟩ := C.cells
      obtain ⟨⟨m0, m1, m2, m3, m4⟩, ⟨p0, p1, p2, p3, p4⟩⟩ := T.cells
      go_upto_region 64 with fail
      rw [← hV7]
      have bV7 : Below (w.heap.size + 3) w6 V7 := by rw [hV7]; exact (Below.refl _ _).setCell (by exact hKl) _
      have T3 : StB V7 K (g + 1) a2 n2 k2 0 0 st := by rw [hV7]; exact T.set0
      have hrt3 : Row V7 a2 n2 (withL l who new) := Row.off (K := K) (hrt) (hof _ (Nat.le_refl _)) (fun b hb _ => by rw [hV7]; exact set_other _ K 0 _ b hb)
      have hrl3 : Row V7 a5 n5 (tellL (othersL (withL l who new) who) 2) := Row.off (K := K) hrl (fun _ ad e => by have := hfl ad e; have := T.lt; omega) (fun b hb _ => by rw [hV7]; exact set_other _ K 0 _ b hb)
      clear hV7
      clear c0 c1 c2 c3 c4 d0 d1 d2 d3 d4 d5 d6 d7 d8
      clear m0 m1 m2 m3 m4 p0 p1 p2 p3 p4
      have bw := bw.trans (bV7.mono (by omega))
      have hsn := bV7.size
      have S := S.later bV7 (by omega)
      have C := C.later bV7 (by omega)
      have R := R.later bV7 (by omega)
      clear T
      have T := T3
      clear T3 bV7
      by_cases hgg : 1000000000 < g + 1
      · have hgg' : decide (1000000000 < g + 1) = true := by simpa using hgg
        have HG : Hid (cnt g = 0) := cnt_hi hgg
        clear hgg
        obtain ⟨V8, hV8⟩ : ∃ V, V = V7.setCell ⟨K, 0, Option.none⟩ (.int .i64 0) := ⟨_, rfl⟩
        obtain ⟨⟨c0, c1, c2, c3, c4⟩, _⟩ := S.cells
        obtain ⟨d0, d1, d2, d3, d4, d5, d6, d7, d8⟩ := C.cells
        obtain ⟨⟨m0, m1, m2, m3, m4⟩, ⟨p0, p1, p2, p3, p4⟩⟩ := T.cells
        go_upto_region 66 with fail
        rw [← hV8]
        have bV8 : Below (w.heap.size + 3) V7 V8 := by rw [hV8]; exact (Below.refl _ _).setCell (by exact hKl) _
        have T4 : StB V8 K 0 a2 n2 k2 0 0 st := by rw [hV8]; exact T.set0
        have hrt4 : Row V8 a2 n2 (withL l who new) := Row.off (K := K) hrt3 (hof _ (Nat.le_refl _)) (fun b hb _ => by rw [hV8]; exact set_other _ K 0 _ b hb)
        have hrl4 : Row V8 a5 n5 (tellL (othersL (withL l who new) who) 2) := Row.off (K := K) hrl3 (fun _ ad e => by have := hfl ad e; have := T.lt; omega) (fun b hb _ => by rw [hV8]; exact set_other _ K 0 _ b hb)
        clear hV8
        clear c0 c1 c2 c3 c4 d0 d1 d2 d3 d4 d5 d6 d7 d8
        clear m0 m1 m2 m3 m4 p0 p1 p2 p3 p4
        have bw := bw.trans (bV8.mono (by omega))
        have hsn := bV8.size
        have S := S.later bV8 (by omega)
        have C := C.later bV8 (by omega)
        have R := R.later bV8 (by omega)
        clear T
        have T := T4
        clear T4 bV8
        have HRT : Hid (Row V8 a2 n2 (withL l who new)) := hrt4
        have HRL : Hid (Row V8 a5 n5 (tellL (othersL (withL l who new) who) 2)) := hrl4
        obtain ⟨⟨c0, c1, c2, c3, c4⟩, _⟩ := S.cells
        obtain ⟨d0, d1, d2, d3, d4, d5, d6, d7, d8⟩ := C.cells
        obtain ⟨⟨m0, m1, m2, m3, m4⟩, ⟨p0, p1, p2, p3, p4⟩⟩ := T.cells
        obtain ⟨⟨e0, e1, e2, e3, e4⟩, ⟨q0, q1, q2, q3, q4⟩⟩ := R.cells
        clear S C T
        go_wp2
        obtain ⟨Z, hZ, z0, z1, z2, z3, z4⟩ := Z5.cells (X := V8) (v0 := .int .i64 0) (v1 := .slice a2 n2 k2) (v2 := .int .i64 0) (v3 := .int .i64 0) (v4 := .bool st) R
        have bZ : Below w.heap.size w Z := by rw [hZ]; exact Z5.below bw (by omega)
        have hrT : Row Z a2 n2 (withL l who new) := by rw [hZ]; exact HRT.out.off (hof _ (by omega)) (fun b hb _ => z5_other _ _ _ _ _ _ _ b hb)
        have hrL : Row Z a5 n5 (tellL (othersL (withL l who new) who) 2) := by rw [hZ]; exact HRL.out.off (fun _ ad e => by have := hfl ad e; omega) (fun b hb _ => z5_other _ _ _ _ _ _ _ b hb)
        unfold Z5 at hZ
        rw [← hZ]
        clear hZ
        exact bodyPost_ret (v := .tuple #[.agg #[.int .i64 0, .slice a2 n2 k2, .int .i64 0, .int .i64 0, .bool st], .slice a5 n5 c5, .int .i64 0]) (by simp [results, Try.results14, go_sem, z0, z1, z2, z3, z4]) rfl (And.intro (by rw [HS.out, HG.out]; exact ⟨_, _, _, _, _, _, rfl, hrT, hrL⟩) bZ)
      · have hgg' : decide (1000000000 < g + 1) = false := by simpa using hgg
        have HG : Hid (cnt g = g + 1) := cnt_lo hgg
        clear hgg
        have HRT : Hid (Row V7 a2 n2 (withL l who new)) := hrt3
        have HRL : Hid (Row V7 a5 n5 (tellL (othersL (withL l who new) who) 2)) := hrl3
        obtain ⟨⟨c0, c1, c2, c3, c4⟩, _⟩ := S.cells
        obtain ⟨d0, d1, d2, d3, d4, d5, d6, d7, d8⟩ := C.cells
        obtain ⟨⟨m0, m1, m2, m3, m4⟩, ⟨p0, p1, p2, p3, p4⟩⟩ := T.cells
        obtain ⟨⟨e0, e1, e2, e3, e4⟩, ⟨q0, q1, q2, q3, q4⟩⟩ := R.cells
        clear S C T
        go_wp2
        obtain ⟨Z, hZ, z0, z1, z2, z3, z4⟩ := Z5.cells (X := V7) (v0 := .int .i64 (g + 1)) (v1 := .slice a2 n2 k2) (v2 := .int .i64 0) (v3 := .int .i64 0) (v4 := .bool st) R
        have bZ : Below w.heap.size w Z := by rw [hZ]; exact Z5.below bw (by omega)
        have hrT : Row Z a2 n2 (withL l who new) := by rw [hZ]; exact HRT.out.off (hof _ (by omega)) (fun b hb _ => z5_other _ _ _ _ _ _ _ b hb)
        have hrL : Row Z a5 n5 (tellL (othersL (withL l who new) who) 2) := by rw [hZ]; exact HRL.out.off (fun _ ad e => by have := hfl ad e; omega) (fun b hb _ => z5_other _ _ _ _ _ _ _ b hb)
        unfold Z5 at hZ
        rw [← hZ]
        clear hZ
        exact bodyPost_ret (v := .tuple #[.agg #[.int .i64 (g + 1), .slice a2 n2 k2, .int .i64 0, .int .i64 0, .bool st], .slice a5 n5 c5, .int .i64 0]) (by simp [results, Try.results14, go_sem, z0, z1, z2, z3, z4]) rfl (And.intro (by rw [HS.out, HG.out]; exact ⟨_, _, _, _, _, _, rfl, hrT, hrL⟩) bZ)
    · have h4' : decide (4 < t) = false := by simpa using h4
      have HS : Hid (doF g t h y l 1 who key new kind st = ⟨cnt g, withL l who new, 0, 0, st, [], 0⟩) := by show _ = _; unfold doF; rw [if_pos (by decide)]; unfold registerF; rw [if_neg HP.out, if_neg HH.out, if_neg hA, if_neg (by omega)]
      clear h4 h7 hA
      have hgb : -9223372036854775808 ≤ g + 1 ∧ g + 1 ≤ 9223372036854775807 := by omega
      obtain ⟨hgb1, hgb2⟩ := hgb
      obtain ⟨V7, hV7⟩ : ∃ V, V = V3.setCell ⟨K, 0, Option.none⟩ (.int .i64 (g + 1)) := ⟨_, rfl⟩
      obtain ⟨⟨c0, c1, c2, c3, c4⟩, _⟩ := S.cells
      obtain ⟨d0, d1, d2, d3, d4, d5, d6, d7, d8⟩ := C.cells
      obtain ⟨⟨m0, m1, m2, m3, m4⟩, ⟨p0, p1, p2, p3, p4⟩⟩ := T.cells
      go_upto_region 64 with fail
      rw [← hV7]
      have bV7 : Below (w.heap.size + 3) V3 V7 := by rw [hV7]; exact (Below.refl _ _).setCell (by exact hKl) _
      have T3 : StB V7 K (g + 1) a2 n2 k2 0 0 st := by rw [hV7]; exact T.set0
      have hrt3 : Row V7 a2 n2 (withL l who new) := Row.off (K := K) (hrt) (hof _ (Nat.le_refl _)) (fun b hb _ => by rw [hV7]; exact set_other _ K 0 _ b hb)
      have hrl3 : Row V7 Option.none 0 [] := row_nil _
      clear hV7
      clear c0 c1 c2 c3 c4 d0 d1 d2 d3 d4 d5 d6 d7 d8
      clear m0 m1 m2 m3 m4 p0 p1 p2 p3 p4
      have bw := bw.trans (bV7.mono (by omega))
      have hsn := bV7.size
      have S := S.later bV7 (by omega)
      have C := C.later bV7 (by omega)
      have R := R.later bV7 (by omega)
      clear T
      have T := T3
      clear T3 bV7
      by_cases hgg : 1000000000 < g + 1
      · have hgg' : decide (1000000000 < g + 1) = true := by simpa using hgg
        have HG : Hid (cnt g = 0) := cnt_hi hgg
        clear hgg
        obtain ⟨V8, hV8⟩ : ∃ V, V = V7.setCell ⟨K, 0, Option.none⟩ (.int .i64 0) := ⟨_, rfl⟩
        obtain ⟨⟨c0, c1, c2, c3, c4⟩, _⟩ := S.cells
        obtain ⟨d0, d1, d2, d3, d4, d5, d6, d7, d8⟩ := C.cells
        obtain ⟨⟨m0, m1, m2, m3, m4⟩, ⟨p0, p1, p2, p3, p4⟩⟩ := T.cells
        go_upto_region 66 with fail
        rw [← hV8]
        have bV8 : Below (w.heap.size + 3) V7 V8 := by rw [hV8]; exact (Below.refl _ _).setCell (by exact hKl) _
        have T4 : StB V8 K 0 a2 n2 k2 0 0 st := by rw [hV8]; exact T.set0
        have hrt4 : Row V8 a2 n2 (withL l who new) := Row.off (K := K) hrt3 (hof _ (Nat.le_refl _)) (fun b hb _ => by rw [hV8]; exact set_other _ K 0 _ b hb)
        have hrl4 : Row V8 Option.none 0 [] := row_nil _
        clear hV8
        clear c0 c1 c2 c3 c4 d0 d1 d2 d3 d4 d5 d6 d7 d8
        clear m0 m1 m2 m3 m4 p0 p1 p2 p3 p4
        have bw := bw.trans (bV8.mono (by omega))
        have hsn := bV8.size
        have S := S.later bV8 (by omega)
        have C := C.later bV8 (by omega)
        have R := R.later bV8 (by omega)
        clear T
        have T := T4
        clear T4 bV8
        have HRT : Hid (Row V8 a2 n2 (withL l who new)) := hrt4
        have HRL : Hid (Row V8 Option.none 0 []) := hrl4
        obtain ⟨⟨c0, c1, c2, c3, c4⟩, _⟩ := S.cells
        obtain ⟨d0, d1, d2, d3, d4, d5, d6, d7, d8⟩ := C.cells
        obtain ⟨⟨m0, m1, m2, m3, m4⟩, ⟨p0, p1, p2, p3, p4⟩⟩ := T.cells
        obtain ⟨⟨e0, e1, e2, e3, e4⟩, ⟨q0, q1, q2, q3, q4⟩⟩ := R.cells
        clear S C T
        go_wp2
        obtain ⟨Z, hZ, z0, z1, z2, z3, z4⟩ := Z5.cells (X := V8) (v0 := .int .i64 0) (v1 := .slice a2 n2 k2) (v2 := .int .i64 0) (v3 := .int .i64 0) (v4 := .bool st) R
        have bZ : Below w.heap.size w Z := by rw [hZ]; exact Z5.below bw (by omega)
        have hrT : Row Z a2 n2 (withL l who new) := by rw [hZ]; exact HRT.out.off (hof _ (by omega)) (fun b hb _ => z5_other _ _ _ _ _ _ _ b hb)
        have hrL : Row Z Option.none 0 [] := by rw [hZ]; exact HRL.out.off (fun h0 => absurd rfl h0) (fun b hb _ => z5_other _ _ _ _ _ _ _ b hb)
        unfold Z5 at hZ
        rw [← hZ]
        clear hZ
        exact bodyPost_ret (v := .tuple #[.agg #[.int .i64 0, .slice a2 n2 k2, .int .i64 0, .int .i64 0, .bool st], .slice Option.none 0 0, .int .i64 0]) (by simp [results, Try.results14, go_sem, z0, z1, z2, z3, z4]) rfl (And.intro (by rw [HS.out, HG.out]; exact ⟨_, _, _, _, _, _, rfl, hrT, hrL⟩) bZ)
      · have hgg' : decide (1000000000 < g + 1) = false := by simpa using hgg
        have HG : Hid (cnt g = g + 1) := cnt_lo hgg
        clear hgg
        have HRT : Hid (Row V7 a2 n2 (withL l who new)) := hrt3
        have HRL : Hid (Row V7 Option.none 0 []) := hrl3
        obtain ⟨⟨c0, c1, c2, c3, c4⟩, _⟩ := S.cells
        obtain ⟨d0, d1, d2, d3, d4, d5, d6, d7, d8⟩ := C.cells
        obtain ⟨⟨m0, m1, m2, m3, m4⟩, ⟨p0, p1, p2, p3, p4⟩⟩ := T.cells
        obtain ⟨⟨e0, e1, e2, e3, e4⟩, ⟨q0, q1, q2, q3, q4⟩⟩ := R.cells
        clear S C T
        go_wp2
        obtain ⟨Z, hZ, z0, z1, z2, z3, z4⟩ := Z5.cells (X := V7) (v0 := .int .i64 (g + 1)) (v1 := .slice a2 n2 k2) (v2 := .int .i64 0) (v3 := .int .i64 0) (v4 := .bool st) R
        have bZ : Below w.heap.size w Z := by rw [hZ]; exact Z5.below bw (by omega)
        have hrT : Row Z a2 n2 (withL l who new) := by rw [hZ]; exact HRT.out.off (hof _ (by omega)) (fun b hb _ => z5_other _ _ _ _ _ _ _ b hb)
        have hrL : Row Z Option.none 0 [] := by rw [hZ]; exact HRL.out.off (fun h0 => absurd rfl h0) (fun b hb _ => z5_other _ _ _ _ _ _ _ b hb)
        unfold Z5 at hZ
        rw [← hZ]
        clear hZ
        exact bodyPost_ret (v := .tuple #[.agg #[.int .i64 (g + 1), .slice a2 n2 k2, .int .i64 0, .int .i64 0, .bool st], .slice Option.none 0 0, .int .i64 0]) (by simp [results, Try.results14, go_sem, z0, z1, z2, z3, z4]) rfl (And.intro (by rw [HS.out, HG.out]; exact ⟨_, _, _, _, _, _, rfl, hrT, hrL⟩) bZ)
end Go.Proofs.Ytokjacbipmfjkaa
