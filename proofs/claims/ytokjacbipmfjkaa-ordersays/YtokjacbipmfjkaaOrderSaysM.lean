/- Proved: for any two states and every command, the law OrderSays returns true and leaves its arguments as they were; no condition beyond the row's own. -/
import Derived.Test.YtokjacbipmfjkaaORd
import Derived.Test.YtokjacbipmfjkaaORd1
import Derived.Test.YtokjacbipmfjkaaORd2
import Derived.Test.YtokjacbipmfjkaaORd6
import Derived.Test.YtokjacbipmfjkaaODo
import Derived.Test.YtokjacbipmfjkaaFacts
import Derived.Test.YtokjacbipmfjkaaOTop
import Derived.Test.YtokjacbipmfjkaaCFault
namespace Go.Proofs.Ytokjacbipmfjkaa
open Go.ChangeShapes Go.WideShapes Go.ChangeAt Go.RowKit Go.Deep

set_option maxRecDepth 100000 in
set_option maxHeartbeats 8000000 in
theorem rord_3 (g t h : Int) (a : Option Addr) (n c : Nat) (y : Bool) (l : List (Int × Int)) (who key new kind at' : Int) (st : Bool) (da wa : ByteArray) (w : World) (hr : Row w a n l) (hf : fault g t h l = 0) (hc : CmdOk 3 who key new kind) :
    Calls Try.prog 14 #[stV g a n c t h y, cmV 3 who key new kind at' st da wa] w fun e w' => ROut (doF g t h y l 3 who key new kind st) e w' ∧ Below w.heap.size w w' := by
  obtain ⟨X, hX, bX, sX, S0, C0, R0⟩ := laidThree w g a n c t h y 3 who key new kind at' st da wa
  obtain ⟨⟨c0, c1, c2, c3, c4⟩, _⟩ := S0.cells
  obtain ⟨d0, d1, d2, d3, d4, d5, d6, d7, d8⟩ := C0.cells
  obtain ⟨hrf, htf⟩ := fault_rf hf
  have hg := fault_g hf
  go_enter Try.func14, Try.ntmps14
  go_wp2_with fail
  rw [← hX]
  clear hX c0 c1 c2 c3 c4 d0 d1 d2 d3 d4 d5 d6 d7 d8
  refine (keyOf_any g t h a n c y l who X (hr.later bX)).mono ?_
  rintro e w1 ⟨rfl, hbn⟩
  have bw := bX.trans (hbn.mono bX.size)
  have hsn := hbn.size
  have S := S0.later hbn (by omega)
  have C := C0.later hbn (by omega)
  have R := R0.later hbn (by omega)
  clear S0 C0 R0 hbn bX
  obtain ⟨⟨c0, c1, c2, c3, c4⟩, _⟩ := S.cells
  obtain ⟨d0, d1, d2, d3, d4, d5, d6, d7, d8⟩ := C.cells
  go_wp2_with fail
  clear c0 c1 c2 c3 c4 d0 d1 d2 d3 d4 d5 d6 d7 d8
  refine (rholds_any g t h a n c y l who w1 (hr.later bw)).mono ?_
  rintro e w2 ⟨rfl, hbn⟩
  rw [← holds_same hf]
  have bw := bw.trans (hbn.mono bw.size)
  have hsn := hbn.size
  have S := S.later hbn S.lt
  have C := C.later hbn (by omega)
  have R := R.later hbn (by omega)
  clear hbn
  by_cases hP : key = 0
  · have hP' : (key == 0) = true := by simpa using hP
    have HS : Hid (doF g t h y l 3 who key new kind st = refused 4) := by show _ = _; unfold doF; rw [if_neg (by decide), if_pos rfl]; unfold reserveF; rw [if_pos (by unfold provenB; simp [hP])]
    obtain ⟨⟨c0, c1, c2, c3, c4⟩, _⟩ := S.cells
    obtain ⟨d0, d1, d2, d3, d4, d5, d6, d7, d8⟩ := C.cells
    obtain ⟨⟨e0, e1, e2, e3, e4⟩, ⟨q0, q1, q2, q3, q4⟩⟩ := R.cells
    clear S C hP
    go_wp2
    obtain ⟨Z, hZ, z0, z1, z2, z3, z4⟩ := Z5.cells (X := w2) (v0 := .int .i64 0) (v1 := .slice Option.none 0 0) (v2 := .int .i64 0) (v3 := .int .i64 0) (v4 := .bool false) R
    have bZ : Below w.heap.size w Z := by rw [hZ]; exact Z5.below bw (by omega)
    unfold Z5 at hZ
    rw [← hZ]
    clear hZ
    exact bodyPost_ret (v := .tuple #[.agg #[.int .i64 0, .slice Option.none 0 0, .int .i64 0, .int .i64 0, .bool false], .slice Option.none 0 0, .int .i64 4]) (by simp [results, Try.results14, go_sem, z0, z1, z2, z3, z4]) rfl (And.intro (by rw [HS.out]; exact ⟨_, _, _, _, _, _, rfl, row_nil _, row_nil _⟩) bZ)
  have hP' : (key == 0) = false := by simpa using hP
  by_cases hQ : keyOf l who = key
  case neg =>
    have hQ' : (keyOf l who != key) = true := by simpa using hQ
    have HS : Hid (doF g t h y l 3 who key new kind st = refused 4) := by show _ = _; unfold doF; rw [if_neg (by decide), if_pos rfl]; unfold reserveF; rw [if_pos (by unfold provenB; simp [hQ])]
    obtain ⟨⟨c0, c1, c2, c3, c4⟩, _⟩ := S.cells
    obtain ⟨d0, d1, d2, d3, d4, d5, d6, d7, d8⟩ := C.cells
    obtain ⟨⟨e0, e1, e2, e3, e4⟩, ⟨q0, q1, q2, q3, q4⟩⟩ := R.cells
    clear S C hQ hP
    go_wp2
    obtain ⟨Z, hZ, z0, z1, z2, z3, z4⟩ := Z5.cells (X := w2) (v0 := .int .i64 0) (v1 := .slice Option.none 0 0) (v2 := .int .i64 0) (v3 := .int .i64 0) (v4 := .bool false) R
    have bZ : Below w.heap.size w Z := by rw [hZ]; exact Z5.below bw (by omega)
    unfold Z5 at hZ
    rw [← hZ]
    clear hZ
    exact bodyPost_ret (v := .tuple #[.agg #[.int .i64 0, .slice Option.none 0 0, .int .i64 0, .int .i64 0, .bool false], .slice Option.none 0 0, .int .i64 4]) (by simp [results, Try.results14, go_sem, z0, z1, z2, z3, z4]) rfl (And.intro (by rw [HS.out]; exact ⟨_, _, _, _, _, _, rfl, row_nil _, row_nil _⟩) bZ)
  have hQ' : (keyOf l who != key) = false := by simpa using hQ
  have HP : Hid (provenB l who key = true) := by show _ = _; simp [provenB, hP, hQ]
  clear hP hQ
  obtain ⟨V, hV⟩ : ∃ V, V = w2.alloc (.cells #[.int .i64 g, .slice a n c, .int .i64 t, .int .i64 h, .bool y] 24) := ⟨_, rfl⟩
  have T : StB V w2.heap.size g a n c t h y := by rw [hV]; exact heap_alloc_new w2 _
  have hbn : Below w2.heap.size w2 V := by rw [hV]; exact (Below.refl _ _).alloc (Nat.le_refl _) _
  obtain ⟨⟨c0, c1, c2, c3, c4⟩, _⟩ := S.cells
  obtain ⟨d0, d1, d2, d3, d4, d5, d6, d7, d8⟩ := C.cells
  go_upto_region 8 with fail
  rw [← hV]
  clear hV
  clear c0 c1 c2 c3 c4 d0 d1 d2 d3 d4 d5 d6 d7 d8
  have bw := bw.trans (hbn.mono bw.size)
  have hsn := hbn.size
  have S := S.later hbn S.lt
  have C := C.later hbn (by omega)
  have R := R.later hbn (by omega)
  clear hbn
  have hKl : w.heap.size + 3 ≤ w2.heap.size := by omega
  have hKa : Off w2.heap.size a n := fun hn0 ad e => by have := hr.lt hn0 ad e; omega
  have hRa : Off (w.heap.size + 1 + 1) a n := fun hn0 ad e => by have := hr.lt hn0 ad e; omega
  have hKV : w2.heap.size < V.heap.size := T.lt
  generalize w2.heap.size = K at *
  have hrt := hr.later bw
  by_cases h0 : t = 0
  · have h0' : (t == 0) = true := by simpa using h0
    have HS : Hid (doF g t h y l 3 who key new kind st = ⟨g, l, kind, heldH kind who, y, [], 0⟩) := by show _ = _; unfold doF; rw [if_neg (by decide), if_pos rfl]; unfold reserveF; rw [if_neg (by rw [HP.out]; decide), if_pos h0]
    clear h0
    obtain ⟨⟨c0, c1, c2, c3, c4⟩, _⟩ := S.cells
    obtain ⟨d0, d1, d2, d3, d4, d5, d6, d7, d8⟩ := C.cells
    go_wp2_with fail
    clear c0 c1 c2 c3 c4 d0 d1 d2 d3 d4 d5 d6 d7 d8
    refine (taken_any g t h a n c y kind who V).mono ?_
    rintro e w3 ⟨rfl, hbn⟩
    have HH : Hid ((if 7 ≤ kind then (0 : Int) else who) = heldH kind who) := by
      show _ = _
      have := hc.ty (by decide)
      simp only [typeB, Bool.or_eq_true, beq_iff_eq] at this
      unfold heldH
      by_cases h7 : kind = 7 ∨ kind = 8
      · rw [if_pos (by omega), if_pos h7]
      · rw [if_neg (by omega), if_neg h7]
    rw [HH.out]
    have bw := bw.trans (hbn.mono bw.size)
    have hsn := hbn.size
    have S := S.later hbn S.lt
    have C := C.later hbn (by omega)
    have R := R.later hbn (by omega)
    have T := T.later hbn T.lt
    have hrt := hrt.later hbn
    clear hbn
    obtain ⟨V3, hV3⟩ : ∃ V, V = Z5 w3 K (.int .i64 g) (.slice a n c) (.int .i64 kind) (.int .i64 (heldH kind who)) (.bool y) := ⟨_, rfl⟩
    obtain ⟨⟨c0, c1, c2, c3, c4⟩, _⟩ := S.cells
    obtain ⟨d0, d1, d2, d3, d4, d5, d6, d7, d8⟩ := C.cells
    obtain ⟨⟨m0, m1, m2, m3, m4⟩, ⟨p0, p1, p2, p3, p4⟩⟩ := T.cells
    go_upto_region 62 with fail
    have hV3' := hV3
    unfold Z5 at hV3'
    rw [← hV3']
    clear hV3'
    have bV3 : Below (w.heap.size + 3) w3 V3 := by rw [hV3]; exact Z5.below (Below.refl _ _) hKl
    have T3 : StB V3 K g a n c kind (heldH kind who) y := by rw [hV3]; exact T.over
    have hrt3 : Row V3 a n l := hrt.off hKa (fun b hb _ => by rw [hV3]; exact z5_other _ _ _ _ _ _ _ b hb)
    clear hV3
    clear c0 c1 c2 c3 c4 d0 d1 d2 d3 d4 d5 d6 d7 d8
    clear m0 m1 m2 m3 m4 p0 p1 p2 p3 p4
    have bw := bw.trans (bV3.mono (by omega))
    have hsn := bV3.size
    have S := S.later bV3 (by omega)
    have C := C.later bV3 (by omega)
    have R := R.later bV3 (by omega)
    clear T
    have T := T3
    clear T3 bV3
    have HRT : Hid (Row V3 a n l) := hrt3
    have HRL : Hid (Row V3 Option.none 0 []) := row_nil _
    obtain ⟨⟨c0, c1, c2, c3, c4⟩, _⟩ := S.cells
    obtain ⟨d0, d1, d2, d3, d4, d5, d6, d7, d8⟩ := C.cells
    obtain ⟨⟨m0, m1, m2, m3, m4⟩, ⟨p0, p1, p2, p3, p4⟩⟩ := T.cells
    obtain ⟨⟨e0, e1, e2, e3, e4⟩, ⟨q0, q1, q2, q3, q4⟩⟩ := R.cells
    clear S C T
    go_wp2
    obtain ⟨Z, hZ, z0, z1, z2, z3, z4⟩ := Z5.cells (X := V3) (v0 := .int .i64 g) (v1 := .slice a n c) (v2 := .int .i64 kind) (v3 := .int .i64 (heldH kind who)) (v4 := .bool y) R
    have bZ : Below w.heap.size w Z := by rw [hZ]; exact Z5.below bw (by omega)
    have hrT : Row Z a n l := by rw [hZ]; exact HRT.out.off hRa (fun b hb _ => z5_other _ _ _ _ _ _ _ b hb)
    have hrL : Row Z Option.none 0 [] := by rw [hZ]; exact HRL.out.off (fun h0 => absurd rfl h0) (fun b hb _ => z5_other _ _ _ _ _ _ _ b hb)
    unfold Z5 at hZ
    rw [← hZ]
    clear hZ
    exact bodyPost_ret (v := .tuple #[.agg #[.int .i64 g, .slice a n c, .int .i64 kind, .int .i64 (heldH kind who), .bool y], .slice Option.none 0 0, .int .i64 0]) (by simp [results, Try.results14, go_sem, z0, z1, z2, z3, z4]) rfl (And.intro (by rw [HS.out]; exact ⟨_, _, _, _, _, _, rfl, hrT, hrL⟩) bZ)
  have h0' : (t == 0) = false := by simpa using h0
  cases hH : holdsB t h l who with
  | false =>
    have HS : Hid (doF g t h y l 3 who key new kind st = refused 4) := by show _ = _; unfold doF; rw [if_neg (by decide), if_pos rfl]; unfold reserveF; rw [if_neg (by rw [HP.out]; decide), if_neg h0, if_pos (.inl hH)]
    obtain ⟨⟨c0, c1, c2, c3, c4⟩, _⟩ := S.cells
    obtain ⟨d0, d1, d2, d3, d4, d5, d6, d7, d8⟩ := C.cells
    obtain ⟨⟨e0, e1, e2, e3, e4⟩, ⟨q0, q1, q2, q3, q4⟩⟩ := R.cells
    clear S C T h0 hH
    go_wp2
    obtain ⟨Z, hZ, z0, z1, z2, z3, z4⟩ := Z5.cells (X := V) (v0 := .int .i64 0) (v1 := .slice Option.none 0 0) (v2 := .int .i64 0) (v3 := .int .i64 0) (v4 := .bool false) R
    have bZ : Below w.heap.size w Z := by rw [hZ]; exact Z5.below bw (by omega)
    unfold Z5 at hZ
    rw [← hZ]
    clear hZ
    exact bodyPost_ret (v := .tuple #[.agg #[.int .i64 0, .slice Option.none 0 0, .int .i64 0, .int .i64 0, .bool false], .slice Option.none 0 0, .int .i64 4]) (by simp [results, Try.results14, go_sem, z0, z1, z2, z3, z4]) rfl (And.intro (by rw [HS.out]; exact ⟨_, _, _, _, _, _, rfl, row_nil _, row_nil _⟩) bZ)
  | true =>
    by_cases hk : t = kind
    · have HS : Hid (doF g t h y l 3 who key new kind st = ⟨g, l, t, h, y, [], 0⟩) := by show _ = _; unfold doF; rw [if_neg (by decide), if_pos rfl]; unfold reserveF; rw [if_neg (by rw [HP.out]; decide), if_neg h0, if_neg (by rw [hH]; simp [hk])]
      have hk' : (t != kind) = false := by simpa using hk
      clear hk hH h0
      have HRT : Hid (Row V a n l) := hrt
      have HRL : Hid (Row V Option.none 0 []) := row_nil _
      obtain ⟨⟨c0, c1, c2, c3, c4⟩, _⟩ := S.cells
      obtain ⟨d0, d1, d2, d3, d4, d5, d6, d7, d8⟩ := C.cells
      obtain ⟨⟨m0, m1, m2, m3, m4⟩, ⟨p0, p1, p2, p3, p4⟩⟩ := T.cells
      obtain ⟨⟨e0, e1, e2, e3, e4⟩, ⟨q0, q1, q2, q3, q4⟩⟩ := R.cells
      clear S C T
      go_wp2
      obtain ⟨Z, hZ, z0, z1, z2, z3, z4⟩ := Z5.cells (X := V) (v0 := .int .i64 g) (v1 := .slice a n c) (v2 := .int .i64 t) (v3 := .int .i64 h) (v4 := .bool y) R
      have bZ : Below w.heap.size w Z := by rw [hZ]; exact Z5.below bw (by omega)
      have hrT : Row Z a n l := by rw [hZ]; exact HRT.out.off hRa (fun b hb _ => z5_other _ _ _ _ _ _ _ b hb)
      have hrL : Row Z Option.none 0 [] := by rw [hZ]; exact HRL.out.off (fun h0 => absurd rfl h0) (fun b hb _ => z5_other _ _ _ _ _ _ _ b hb)
      unfold Z5 at hZ
      rw [← hZ]
      clear hZ
      exact bodyPost_ret (v := .tuple #[.agg #[.int .i64 g, .slice a n c, .int .i64 t, .int .i64 h, .bool y], .slice Option.none 0 0, .int .i64 0]) (by simp [results, Try.results14, go_sem, z0, z1, z2, z3, z4]) rfl (And.intro (by rw [HS.out]; exact ⟨_, _, _, _, _, _, rfl, hrT, hrL⟩) bZ)
    · have hk' : (t != kind) = true := by simpa using hk
      have HS : Hid (doF g t h y l 3 who key new kind st = refused 4) := by show _ = _; unfold doF; rw [if_neg (by decide), if_pos rfl]; unfold reserveF; rw [if_neg (by rw [HP.out]; decide), if_neg h0, if_pos (.inr hk)]
      obtain ⟨⟨c0, c1, c2, c3, c4⟩, _⟩ := S.cells
      obtain ⟨d0, d1, d2, d3, d4, d5, d6, d7, d8⟩ := C.cells
      obtain ⟨⟨e0, e1, e2, e3, e4⟩, ⟨q0, q1, q2, q3, q4⟩⟩ := R.cells
      clear S C T h0 hH hk
      go_wp2
      obtain ⟨Z, hZ, z0, z1, z2, z3, z4⟩ := Z5.cells (X := V) (v0 := .int .i64 0) (v1 := .slice Option.none 0 0) (v2 := .int .i64 0) (v3 := .int .i64 0) (v4 := .bool false) R
      have bZ : Below w.heap.size w Z := by rw [hZ]; exact Z5.below bw (by omega)
      unfold Z5 at hZ
      rw [← hZ]
      clear hZ
      exact bodyPost_ret (v := .tuple #[.agg #[.int .i64 0, .slice Option.none 0 0, .int .i64 0, .int .i64 0, .bool false], .slice Option.none 0 0, .int .i64 4]) (by simp [results, Try.results14, go_sem, z0, z1, z2, z3, z4]) rfl (And.intro (by rw [HS.out]; exact ⟨_, _, _, _, _, _, rfl, row_nil _, row_nil _⟩) bZ)
end Go.Proofs.Ytokjacbipmfjkaa

namespace Go.Proofs.Ytokjacbipmfjkaa
open Go.ChangeShapes Go.WideShapes Go.ChangeAt Go.RowKit Go.Deep

set_option maxRecDepth 100000 in
set_option maxHeartbeats 8000000 in
theorem rord_4 (g t h : Int) (a : Option Addr) (n c : Nat) (y : Bool) (l : List (Int × Int)) (who key new kind at' : Int) (st : Bool) (da wa : ByteArray) (w : World) (hr : Row w a n l) (hn : n ≤ 900) (hf : fault g t h l = 0)  :
    Calls Try.prog 14 #[stV g a n c t h y, cmV 4 who key new kind at' st da wa] w fun e w' => ROut (doF g t h y l 4 who key new kind st) e w' ∧ Below w.heap.size w w' := by
  obtain ⟨X, hX, bX, sX, S0, C0, R0⟩ := laidThree w g a n c t h y 4 who key new kind at' st da wa
  obtain ⟨⟨c0, c1, c2, c3, c4⟩, _⟩ := S0.cells
  obtain ⟨d0, d1, d2, d3, d4, d5, d6, d7, d8⟩ := C0.cells
  obtain ⟨hrf, htf⟩ := fault_rf hf
  go_enter Try.func14, Try.ntmps14
  go_wp2_with fail
  rw [← hX]
  clear hX c0 c1 c2 c3 c4 d0 d1 d2 d3 d4 d5 d6 d7 d8
  refine (keyOf_any g t h a n c y l who X (hr.later bX)).mono ?_
  rintro e w1 ⟨rfl, hbn⟩
  have bw := bX.trans (hbn.mono bX.size)
  have hsn := hbn.size
  have S := S0.later hbn (by omega)
  have C := C0.later hbn (by omega)
  have R := R0.later hbn (by omega)
  clear S0 C0 R0 hbn bX
  obtain ⟨⟨c0, c1, c2, c3, c4⟩, _⟩ := S.cells
  obtain ⟨d0, d1, d2, d3, d4, d5, d6, d7, d8⟩ := C.cells
  go_wp2_with fail
  clear c0 c1 c2 c3 c4 d0 d1 d2 d3 d4 d5 d6 d7 d8
  refine (rholds_any g t h a n c y l who w1 (hr.later bw)).mono ?_
  rintro e w2 ⟨rfl, hbn⟩
  rw [← holds_same hf]
  have bw := bw.trans (hbn.mono bw.size)
  have hsn := hbn.size
  have S := S.later hbn S.lt
  have C := C.later hbn (by omega)
  have R := R.later hbn (by omega)
  clear hbn
  by_cases hP : key = 0
  · have hP' : (key == 0) = true := by simpa using hP
    have HS : Hid (doF g t h y l 4 who key new kind st = refused 4) := by show _ = _; unfold doF; rw [if_neg (by decide), if_neg (by decide), if_pos rfl]; unfold releaseF; rw [if_pos (by unfold provenB; simp [hP])]
    obtain ⟨⟨c0, c1, c2, c3, c4⟩, _⟩ := S.cells
    obtain ⟨d0, d1, d2, d3, d4, d5, d6, d7, d8⟩ := C.cells
    obtain ⟨⟨e0, e1, e2, e3, e4⟩, ⟨q0, q1, q2, q3, q4⟩⟩ := R.cells
    clear S C hP
    go_wp2
    obtain ⟨Z, hZ, z0, z1, z2, z3, z4⟩ := Z5.cells (X := w2) (v0 := .int .i64 0) (v1 := .slice Option.none 0 0) (v2 := .int .i64 0) (v3 := .int .i64 0) (v4 := .bool false) R
    have bZ : Below w.heap.size w Z := by rw [hZ]; exact Z5.below bw (by omega)
    unfold Z5 at hZ
    rw [← hZ]
    clear hZ
    exact bodyPost_ret (v := .tuple #[.agg #[.int .i64 0, .slice Option.none 0 0, .int .i64 0, .int .i64 0, .bool false], .slice Option.none 0 0, .int .i64 4]) (by simp [results, Try.results14, go_sem, z0, z1, z2, z3, z4]) rfl (And.intro (by rw [HS.out]; exact ⟨_, _, _, _, _, _, rfl, row_nil _, row_nil _⟩) bZ)
  have hP' : (key == 0) = false := by simpa using hP
  by_cases hQ : keyOf l who = key
  case neg =>
    have hQ' : (keyOf l who != key) = true := by simpa using hQ
    have HS : Hid (doF g t h y l 4 who key new kind st = refused 4) := by show _ = _; unfold doF; rw [if_neg (by decide), if_neg (by decide), if_pos rfl]; unfold releaseF; rw [if_pos (by unfold provenB; simp [hQ])]
    obtain ⟨⟨c0, c1, c2, c3, c4⟩, _⟩ := S.cells
    obtain ⟨d0, d1, d2, d3, d4, d5, d6, d7, d8⟩ := C.cells
    obtain ⟨⟨e0, e1, e2, e3, e4⟩, ⟨q0, q1, q2, q3, q4⟩⟩ := R.cells
    clear S C hQ hP
    go_wp2
    obtain ⟨Z, hZ, z0, z1, z2, z3, z4⟩ := Z5.cells (X := w2) (v0 := .int .i64 0) (v1 := .slice Option.none 0 0) (v2 := .int .i64 0) (v3 := .int .i64 0) (v4 := .bool false) R
    have bZ : Below w.heap.size w Z := by rw [hZ]; exact Z5.below bw (by omega)
    unfold Z5 at hZ
    rw [← hZ]
    clear hZ
    exact bodyPost_ret (v := .tuple #[.agg #[.int .i64 0, .slice Option.none 0 0, .int .i64 0, .int .i64 0, .bool false], .slice Option.none 0 0, .int .i64 4]) (by simp [results, Try.results14, go_sem, z0, z1, z2, z3, z4]) rfl (And.intro (by rw [HS.out]; exact ⟨_, _, _, _, _, _, rfl, row_nil _, row_nil _⟩) bZ)
  have hQ' : (keyOf l who != key) = false := by simpa using hQ
  have HP : Hid (provenB l who key = true) := by show _ = _; simp [provenB, hP, hQ]
  clear hP hQ
  obtain ⟨V, hV⟩ : ∃ V, V = w2.alloc (.cells #[.int .i64 g, .slice a n c, .int .i64 t, .int .i64 h, .bool y] 24) := ⟨_, rfl⟩
  have T : StB V w2.heap.size g a n c t h y := by rw [hV]; exact heap_alloc_new w2 _
  have hbn : Below w2.heap.size w2 V := by rw [hV]; exact (Below.refl _ _).alloc (Nat.le_refl _) _
  obtain ⟨⟨c0, c1, c2, c3, c4⟩, _⟩ := S.cells
  obtain ⟨d0, d1, d2, d3, d4, d5, d6, d7, d8⟩ := C.cells
  go_upto_region 8 with fail
  rw [← hV]
  clear hV
  clear c0 c1 c2 c3 c4 d0 d1 d2 d3 d4 d5 d6 d7 d8
  have bw := bw.trans (hbn.mono bw.size)
  have hsn := hbn.size
  have S := S.later hbn S.lt
  have C := C.later hbn (by omega)
  have R := R.later hbn (by omega)
  clear hbn
  have hKl : w.heap.size + 3 ≤ w2.heap.size := by omega
  have hKa : Off w2.heap.size a n := fun hn0 ad e => by have := hr.lt hn0 ad e; omega
  have hRa : Off (w.heap.size + 1 + 1) a n := fun hn0 ad e => by have := hr.lt hn0 ad e; omega
  have hKV : w2.heap.size < V.heap.size := T.lt
  generalize w2.heap.size = K at *
  have hrt := hr.later bw
  cases hH : holdsB t h l who with
  | false =>
    have HS : Hid (doF g t h y l 4 who key new kind st = ⟨g, l, t, h, y, [], 0⟩) := by show _ = _; unfold doF; rw [if_neg (by decide), if_neg (by decide), if_pos rfl]; unfold releaseF; rw [if_neg (by rw [HP.out]; decide), if_pos hH]
    clear hH
    have HRT : Hid (Row V a n l) := hrt
    have HRL : Hid (Row V Option.none 0 []) := row_nil _
    obtain ⟨⟨c0, c1, c2, c3, c4⟩, _⟩ := S.cells
    obtain ⟨d0, d1, d2, d3, d4, d5, d6, d7, d8⟩ := C.cells
    obtain ⟨⟨m0, m1, m2, m3, m4⟩, ⟨p0, p1, p2, p3, p4⟩⟩ := T.cells
    obtain ⟨⟨e0, e1, e2, e3, e4⟩, ⟨q0, q1, q2, q3, q4⟩⟩ := R.cells
    clear S C T
    go_wp2
    obtain ⟨Z, hZ, z0, z1, z2, z3, z4⟩ := Z5.cells (X := V) (v0 := .int .i64 g) (v1 := .slice a n c) (v2 := .int .i64 t) (v3 := .int .i64 h) (v4 := .bool y) R
    have bZ : Below w.heap.size w Z := by rw [hZ]; exact Z5.below bw (by omega)
    have hrT : Row Z a n l := by rw [hZ]; exact HRT.out.off hRa (fun b hb _ => z5_other _ _ _ _ _ _ _ b hb)
    have hrL : Row Z Option.none 0 [] := by rw [hZ]; exact HRL.out.off (fun h0 => absurd rfl h0) (fun b hb _ => z5_other _ _ _ _ _ _ _ b hb)
    unfold Z5 at hZ
    rw [← hZ]
    clear hZ
    exact bodyPost_ret (v := .tuple #[.agg #[.int .i64 g, .slice a n c, .int .i64 t, .int .i64 h, .bool y], .slice Option.none 0 0, .int .i64 0]) (by simp [results, Try.results14, go_sem, z0, z1, z2, z3, z4]) rfl (And.intro (by rw [HS.out]; exact ⟨_, _, _, _, _, _, rfl, hrT, hrL⟩) bZ)
  | true =>
    have hkd := kind_of htf hH
    by_cases hk : t = kind
    case neg =>
      have hk' : (t != kind) = true := by simpa using hk
      have HS : Hid (doF g t h y l 4 who key new kind st = refused 5) := by show _ = _; unfold doF; rw [if_neg (by decide), if_neg (by decide), if_pos rfl]; unfold releaseF; rw [if_neg (by rw [HP.out]; decide), if_neg (by rw [hH]; decide), if_pos hk]
      obtain ⟨⟨c0, c1, c2, c3, c4⟩, _⟩ := S.cells
      obtain ⟨d0, d1, d2, d3, d4, d5, d6, d7, d8⟩ := C.cells
      obtain ⟨⟨e0, e1, e2, e3, e4⟩, ⟨q0, q1, q2, q3, q4⟩⟩ := R.cells
      clear S C T hk hH
      go_wp2
      obtain ⟨Z, hZ, z0, z1, z2, z3, z4⟩ := Z5.cells (X := V) (v0 := .int .i64 0) (v1 := .slice Option.none 0 0) (v2 := .int .i64 0) (v3 := .int .i64 0) (v4 := .bool false) R
      have bZ : Below w.heap.size w Z := by rw [hZ]; exact Z5.below bw (by omega)
      unfold Z5 at hZ
      rw [← hZ]
      clear hZ
      exact bodyPost_ret (v := .tuple #[.agg #[.int .i64 0, .slice Option.none 0 0, .int .i64 0, .int .i64 0, .bool false], .slice Option.none 0 0, .int .i64 5]) (by simp [results, Try.results14, go_sem, z0, z1, z2, z3, z4]) rfl (And.intro (by rw [HS.out]; exact ⟨_, _, _, _, _, _, rfl, row_nil _, row_nil _⟩) bZ)
    have hk' : (t != kind) = false := by simpa using hk
    have HH : Hid (¬ holdsB t h l who = false) := by show ¬ _; rw [hH]; decide
    have HKK : Hid (¬ t ≠ kind) := fun e => e hk
    clear hH hk
    obtain ⟨⟨c0, c1, c2, c3, c4⟩, _⟩ := S.cells
    obtain ⟨d0, d1, d2, d3, d4, d5, d6, d7, d8⟩ := C.cells
    go_wp2_with fail
    clear c0 c1 c2 c3 c4 d0 d1 d2 d3 d4 d5 d6 d7 d8
    refine (rfreed_any g t h a n c y V).mono ?_
    rintro e w3 ⟨rfl, hbn⟩
    have T := T.later hbn T.lt
    have hrt := hrt.later hbn
    have bw := bw.trans (hbn.mono bw.size)
    have hsn := hbn.size
    have S := S.later hbn S.lt
    have C := C.later hbn (by omega)
    have R := R.later hbn (by omega)
    clear hbn
    obtain ⟨V3, hV9⟩ : ∃ V, V = Z5 w3 K (.int .i64 g) (.slice a n c) (.int .i64 0) (.int .i64 0) (.bool y) := ⟨_, rfl⟩
    obtain ⟨⟨c0, c1, c2, c3, c4⟩, _⟩ := S.cells
    obtain ⟨d0, d1, d2, d3, d4, d5, d6, d7, d8⟩ := C.cells
    obtain ⟨⟨m0, m1, m2, m3, m4⟩, ⟨p0, p1, p2, p3, p4⟩⟩ := T.cells
    go_upto_region 31 with fail
    have hV9' := hV9
    unfold Z5 at hV9'
    rw [← hV9']
    clear hV9'
    have bV9 : Below (w.heap.size + 3) w3 V3 := by rw [hV9]; exact Z5.below (Below.refl _ _) hKl
    have T9 : StB V3 K g a n c 0 0 y := by rw [hV9]; exact T.over
    have hrt : Row V3 a n l := Row.off (K := K) hrt hKa (fun b hb _ => by rw [hV9]; exact z5_other _ _ _ _ _ _ _ b hb)
    clear hV9
    clear c0 c1 c2 c3 c4 d0 d1 d2 d3 d4 d5 d6 d7 d8
    clear m0 m1 m2 m3 m4 p0 p1 p2 p3 p4
    have bw := bw.trans (bV9.mono (by omega))
    have hsn := bV9.size
    have S := S.later bV9 (by omega)
    have C := C.later bV9 (by omega)
    have R := R.later bV9 (by omega)
    clear T
    have T := T9
    clear T9 bV9
    by_cases h4 : 4 < t
    · have h4' : decide (4 < t) = true := by simpa using h4
      have HS : Hid (doF g t h y l 4 who key new kind st = ⟨g, l, 0, 0, y, tellL (othersL l who) 2, 0⟩) := by show _ = _; unfold doF; rw [if_neg (by decide), if_neg (by decide), if_pos rfl]; unfold releaseF; rw [if_neg (by rw [HP.out]; decide), if_neg HH.out, if_neg HKK.out, if_neg (by omega)]
      clear h4
      have hlo : (othersL l who).length ≤ 1000 := by have h1 := others_len l who (l).length; rw [List.take_length] at h1; have := hr.1; omega
      obtain ⟨⟨c0, c1, c2, c3, c4⟩, _⟩ := S.cells
      obtain ⟨d0, d1, d2, d3, d4, d5, d6, d7, d8⟩ := C.cells
      obtain ⟨⟨m0, m1, m2, m3, m4⟩, ⟨p0, p1, p2, p3, p4⟩⟩ := T.cells
      go_wp2_with fail
      clear c0 c1 c2 c3 c4 d0 d1 d2 d3 d4 d5 d6 d7 d8
      clear m0 m1 m2 m3 m4 p0 p1 p2 p3 p4
      refine (rothers_any g t h a n c y l who _ hrt (by omega)).mono ?_
      rintro e w4 ⟨ao, no, co, rfl, hno, hbn⟩
      have HNO : Hid (Nums w4 ao no (othersL l who)) := hno
      have hnb : no ≤ 1000000 := by have := hno.1; omega
      clear hno
      have bw := bw.trans (hbn.mono bw.size)
      have hsn := hbn.size
      have S := S.later hbn S.lt
      have C := C.later hbn (by omega)
      have R := R.later hbn (by omega)
      have T := T.later hbn T.lt
      have hrt := hrt.later hbn
      clear hbn
      go_wp2_with fail
      refine (tellAll_any ao no co (othersL l who) 2 _ HNO.out hnb).mono ?_
      rintro e w5 ⟨a5, n5, c5, rfl, hrl, hbn, hfl⟩
      have bw := bw.trans (hbn.mono bw.size)
      have hsn := hbn.size
      have S := S.later hbn S.lt
      have C := C.later hbn (by omega)
      have R := R.later hbn (by omega)
      have T := T.later hbn T.lt
      have hrt := hrt.later hbn
      clear hbn
      have HRT : Hid (Row w5 a n l) := hrt
      have HRL : Hid (Row w5 a5 n5 (tellL (othersL l who) 2)) := hrl
      obtain ⟨⟨c0, c1, c2, c3, c4⟩, _⟩ := S.cells
      obtain ⟨d0, d1, d2, d3, d4, d5, d6, d7, d8⟩ := C.cells
      obtain ⟨⟨m0, m1, m2, m3, m4⟩, ⟨p0, p1, p2, p3, p4⟩⟩ := T.cells
      obtain ⟨⟨e0, e1, e2, e3, e4⟩, ⟨q0, q1, q2, q3, q4⟩⟩ := R.cells
      clear S C T
      go_wp2
      obtain ⟨Z, hZ, z0, z1, z2, z3, z4⟩ := Z5.cells (X := w5) (v0 := .int .i64 g) (v1 := .slice a n c) (v2 := .int .i64 0) (v3 := .int .i64 0) (v4 := .bool y) R
      have bZ : Below w.heap.size w Z := by rw [hZ]; exact Z5.below bw (by omega)
      have hrT : Row Z a n l := by rw [hZ]; exact HRT.out.off hRa (fun b hb _ => z5_other _ _ _ _ _ _ _ b hb)
      have hrL : Row Z a5 n5 (tellL (othersL l who) 2) := by rw [hZ]; exact HRL.out.off (fun _ ad e => by have := hfl ad e; omega) (fun b hb _ => z5_other _ _ _ _ _ _ _ b hb)
      unfold Z5 at hZ
      rw [← hZ]
      clear hZ
      exact bodyPost_ret (v := .tuple #[.agg #[.int .i64 g, .slice a n c, .int .i64 0, .int .i64 0, .bool y], .slice a5 n5 c5, .int .i64 0]) (by simp [results, Try.results14, go_sem, z0, z1, z2, z3, z4]) rfl (And.intro (by rw [HS.out]; exact ⟨_, _, _, _, _, _, rfl, hrT, hrL⟩) bZ)
    · have h4' : decide (4 < t) = false := by simpa using h4
      have HS : Hid (doF g t h y l 4 who key new kind st = ⟨g, l, 0, 0, y, [], 0⟩) := by show _ = _; unfold doF; rw [if_neg (by decide), if_neg (by decide), if_pos rfl]; unfold releaseF; rw [if_neg (by rw [HP.out]; decide), if_neg HH.out, if_neg HKK.out, if_pos (by omega)]
      clear h4
      have HRT : Hid (Row V3 a n l) := hrt
      have HRL : Hid (Row V3 Option.none 0 []) := row_nil _
      obtain ⟨⟨c0, c1, c2, c3, c4⟩, _⟩ := S.cells
      obtain ⟨d0, d1, d2, d3, d4, d5, d6, d7, d8⟩ := C.cells
      obtain ⟨⟨m0, m1, m2, m3, m4⟩, ⟨p0, p1, p2, p3, p4⟩⟩ := T.cells
      obtain ⟨⟨e0, e1, e2, e3, e4⟩, ⟨q0, q1, q2, q3, q4⟩⟩ := R.cells
      clear S C T
      go_wp2
      obtain ⟨Z, hZ, z0, z1, z2, z3, z4⟩ := Z5.cells (X := V3) (v0 := .int .i64 g) (v1 := .slice a n c) (v2 := .int .i64 0) (v3 := .int .i64 0) (v4 := .bool y) R
      have bZ : Below w.heap.size w Z := by rw [hZ]; exact Z5.below bw (by omega)
      have hrT : Row Z a n l := by rw [hZ]; exact HRT.out.off hRa (fun b hb _ => z5_other _ _ _ _ _ _ _ b hb)
      have hrL : Row Z Option.none 0 [] := by rw [hZ]; exact HRL.out.off (fun h0 => absurd rfl h0) (fun b hb _ => z5_other _ _ _ _ _ _ _ b hb)
      unfold Z5 at hZ
      rw [← hZ]
      clear hZ
      exact bodyPost_ret (v := .tuple #[.agg #[.int .i64 g, .slice a n c, .int .i64 0, .int .i64 0, .bool y], .slice Option.none 0 0, .int .i64 0]) (by simp [results, Try.results14, go_sem, z0, z1, z2, z3, z4]) rfl (And.intro (by rw [HS.out]; exact ⟨_, _, _, _, _, _, rfl, hrT, hrL⟩) bZ)
end Go.Proofs.Ytokjacbipmfjkaa

namespace Go.Proofs.Ytokjacbipmfjkaa
open Go.ChangeShapes Go.WideShapes Go.ChangeAt Go.RowKit Go.Deep

set_option maxRecDepth 100000 in
set_option maxHeartbeats 8000000 in
theorem rord_5 (g t h : Int) (a : Option Addr) (n c : Nat) (y : Bool) (l : List (Int × Int)) (who key new kind at' : Int) (st : Bool) (da wa : ByteArray) (w : World) (hr : Row w a n l) (hn : n ≤ 900) (hf : fault g t h l = 0)  :
    Calls Try.prog 14 #[stV g a n c t h y, cmV 5 who key new kind at' st da wa] w fun e w' => ROut (doF g t h y l 5 who key new kind st) e w' ∧ Below w.heap.size w w' := by
  obtain ⟨X, hX, bX, sX, S0, C0, R0⟩ := laidThree w g a n c t h y 5 who key new kind at' st da wa
  obtain ⟨⟨c0, c1, c2, c3, c4⟩, _⟩ := S0.cells
  obtain ⟨d0, d1, d2, d3, d4, d5, d6, d7, d8⟩ := C0.cells
  have hg := fault_g hf
  go_enter Try.func14, Try.ntmps14
  go_wp2_with fail
  rw [← hX]
  clear hX c0 c1 c2 c3 c4 d0 d1 d2 d3 d4 d5 d6 d7 d8
  refine (keyOf_any g t h a n c y l who X (hr.later bX)).mono ?_
  rintro e w1 ⟨rfl, hbn⟩
  have bw := bX.trans (hbn.mono bX.size)
  have hsn := hbn.size
  have S := S0.later hbn (by omega)
  have C := C0.later hbn (by omega)
  have R := R0.later hbn (by omega)
  clear S0 C0 R0 hbn bX
  obtain ⟨⟨c0, c1, c2, c3, c4⟩, _⟩ := S.cells
  obtain ⟨d0, d1, d2, d3, d4, d5, d6, d7, d8⟩ := C.cells
  go_wp2_with fail
  clear c0 c1 c2 c3 c4 d0 d1 d2 d3 d4 d5 d6 d7 d8
  refine (rholds_any g t h a n c y l who w1 (hr.later bw)).mono ?_
  rintro e w2 ⟨rfl, hbn⟩
  rw [← holds_same hf]
  have bw := bw.trans (hbn.mono bw.size)
  have hsn := hbn.size
  have S := S.later hbn S.lt
  have C := C.later hbn (by omega)
  have R := R.later hbn (by omega)
  clear hbn
  by_cases hP : key = 0
  · have hP' : (key == 0) = true := by simpa using hP
    have HS : Hid (doF g t h y l 5 who key new kind st = refused 4) := by show _ = _; unfold doF; rw [if_neg (by decide), if_neg (by decide), if_neg (by decide), if_pos rfl]; unfold clearF; rw [if_pos (by unfold provenB; simp [hP])]
    obtain ⟨⟨c0, c1, c2, c3, c4⟩, _⟩ := S.cells
    obtain ⟨d0, d1, d2, d3, d4, d5, d6, d7, d8⟩ := C.cells
    obtain ⟨⟨e0, e1, e2, e3, e4⟩, ⟨q0, q1, q2, q3, q4⟩⟩ := R.cells
    clear S C hP
    go_wp2
    obtain ⟨Z, hZ, z0, z1, z2, z3, z4⟩ := Z5.cells (X := w2) (v0 := .int .i64 0) (v1 := .slice Option.none 0 0) (v2 := .int .i64 0) (v3 := .int .i64 0) (v4 := .bool false) R
    have bZ : Below w.heap.size w Z := by rw [hZ]; exact Z5.below bw (by omega)
    unfold Z5 at hZ
    rw [← hZ]
    clear hZ
    exact bodyPost_ret (v := .tuple #[.agg #[.int .i64 0, .slice Option.none 0 0, .int .i64 0, .int .i64 0, .bool false], .slice Option.none 0 0, .int .i64 4]) (by simp [results, Try.results14, go_sem, z0, z1, z2, z3, z4]) rfl (And.intro (by rw [HS.out]; exact ⟨_, _, _, _, _, _, rfl, row_nil _, row_nil _⟩) bZ)
  have hP' : (key == 0) = false := by simpa using hP
  by_cases hQ : keyOf l who = key
  case neg =>
    have hQ' : (keyOf l who != key) = true := by simpa using hQ
    have HS : Hid (doF g t h y l 5 who key new kind st = refused 4) := by show _ = _; unfold doF; rw [if_neg (by decide), if_neg (by decide), if_neg (by decide), if_pos rfl]; unfold clearF; rw [if_pos (by unfold provenB; simp [hQ])]
    obtain ⟨⟨c0, c1, c2, c3, c4⟩, _⟩ := S.cells
    obtain ⟨d0, d1, d2, d3, d4, d5, d6, d7, d8⟩ := C.cells
    obtain ⟨⟨e0, e1, e2, e3, e4⟩, ⟨q0, q1, q2, q3, q4⟩⟩ := R.cells
    clear S C hQ hP
    go_wp2
    obtain ⟨Z, hZ, z0, z1, z2, z3, z4⟩ := Z5.cells (X := w2) (v0 := .int .i64 0) (v1 := .slice Option.none 0 0) (v2 := .int .i64 0) (v3 := .int .i64 0) (v4 := .bool false) R
    have bZ : Below w.heap.size w Z := by rw [hZ]; exact Z5.below bw (by omega)
    unfold Z5 at hZ
    rw [← hZ]
    clear hZ
    exact bodyPost_ret (v := .tuple #[.agg #[.int .i64 0, .slice Option.none 0 0, .int .i64 0, .int .i64 0, .bool false], .slice Option.none 0 0, .int .i64 4]) (by simp [results, Try.results14, go_sem, z0, z1, z2, z3, z4]) rfl (And.intro (by rw [HS.out]; exact ⟨_, _, _, _, _, _, rfl, row_nil _, row_nil _⟩) bZ)
  have hQ' : (keyOf l who != key) = false := by simpa using hQ
  have HP : Hid (provenB l who key = true) := by show _ = _; simp [provenB, hP, hQ]
  clear hP hQ
  obtain ⟨V, hV⟩ : ∃ V, V = w2.alloc (.cells #[.int .i64 g, .slice a n c, .int .i64 t, .int .i64 h, .bool y] 24) := ⟨_, rfl⟩
  have T : StB V w2.heap.size g a n c t h y := by rw [hV]; exact heap_alloc_new w2 _
  have hbn : Below w2.heap.size w2 V := by rw [hV]; exact (Below.refl _ _).alloc (Nat.le_refl _) _
  obtain ⟨⟨c0, c1, c2, c3, c4⟩, _⟩ := S.cells
  obtain ⟨d0, d1, d2, d3, d4, d5, d6, d7, d8⟩ := C.cells
  go_upto_region 8 with fail
  rw [← hV]
  clear hV
  clear c0 c1 c2 c3 c4 d0 d1 d2 d3 d4 d5 d6 d7 d8
  have bw := bw.trans (hbn.mono bw.size)
  have hsn := hbn.size
  have S := S.later hbn S.lt
  have C := C.later hbn (by omega)
  have R := R.later hbn (by omega)
  clear hbn
  have hKl : w.heap.size + 3 ≤ w2.heap.size := by omega
  have hKa : Off w2.heap.size a n := fun hn0 ad e => by have := hr.lt hn0 ad e; omega
  have hRa : Off (w.heap.size + 1 + 1) a n := fun hn0 ad e => by have := hr.lt hn0 ad e; omega
  have hKV : w2.heap.size < V.heap.size := T.lt
  generalize w2.heap.size = K at *
  have hrt := hr.later bw
  have HS : Hid (doF g t h y l 5 who key new kind st = ⟨cnt g, [], 0, 0, y, tellL (othersL l who) 3, 0⟩) := by show _ = _; unfold doF; rw [if_neg (by decide), if_neg (by decide), if_neg (by decide), if_pos rfl]; unfold clearF; rw [if_neg (by rw [HP.out]; decide)]
  have hlo : (othersL l who).length ≤ 1000 := by have h1 := others_len l who (l).length; rw [List.take_length] at h1; have := hr.1; omega
  obtain ⟨⟨c0, c1, c2, c3, c4⟩, _⟩ := S.cells
  obtain ⟨d0, d1, d2, d3, d4, d5, d6, d7, d8⟩ := C.cells
  obtain ⟨⟨m0, m1, m2, m3, m4⟩, ⟨p0, p1, p2, p3, p4⟩⟩ := T.cells
  go_wp2_with fail
  clear c0 c1 c2 c3 c4 d0 d1 d2 d3 d4 d5 d6 d7 d8
  clear m0 m1 m2 m3 m4 p0 p1 p2 p3 p4
  refine (rothers_any g t h a n c y l who _ hrt (by omega)).mono ?_
  rintro e w4 ⟨ao, no, co, rfl, hno, hbn⟩
  have HNO : Hid (Nums w4 ao no (othersL l who)) := hno
  have hnb : no ≤ 1000000 := by have := hno.1; omega
  clear hno
  have bw := bw.trans (hbn.mono bw.size)
  have hsn := hbn.size
  have S := S.later hbn S.lt
  have C := C.later hbn (by omega)
  have R := R.later hbn (by omega)
  have T := T.later hbn T.lt
  have hrt := hrt.later hbn
  clear hbn
  go_wp2_with fail
  refine (tellAll_any ao no co (othersL l who) 3 _ HNO.out hnb).mono ?_
  rintro e w5 ⟨a5, n5, c5, rfl, hrl, hbn, hfl⟩
  have bw := bw.trans (hbn.mono bw.size)
  have hsn := hbn.size
  have S := S.later hbn S.lt
  have C := C.later hbn (by omega)
  have R := R.later hbn (by omega)
  have T := T.later hbn T.lt
  have hrt := hrt.later hbn
  clear hbn
  obtain ⟨⟨c0, c1, c2, c3, c4⟩, _⟩ := S.cells
  obtain ⟨d0, d1, d2, d3, d4, d5, d6, d7, d8⟩ := C.cells
  go_wp2_with fail
  clear c0 c1 c2 c3 c4 d0 d1 d2 d3 d4 d5 d6 d7 d8
  refine (rfreed_any g t h a n c y w5).mono ?_
  rintro e w6 ⟨rfl, hbn⟩
  have T := T.later hbn T.lt
  have hrt := hrt.later hbn
  have hrl := hrl.later hbn
  have bw := bw.trans (hbn.mono bw.size)
  have hsn := hbn.size
  have S := S.later hbn S.lt
  have C := C.later hbn (by omega)
  have R := R.later hbn (by omega)
  clear hbn
  have hnil : Row w6 Option.none 0 [] := row_nil _
  clear hrt
  have hrt := hnil
  obtain ⟨V3, hV9⟩ : ∃ V, V = (Z5 w6 K (.int .i64 g) (.slice a n c) (.int .i64 0) (.int .i64 0) (.bool y)).setCell ⟨K, 1, Option.none⟩ (.slice Option.none 0 0) := ⟨_, rfl⟩
  obtain ⟨⟨c0, c1, c2, c3, c4⟩, _⟩ := S.cells
  obtain ⟨d0, d1, d2, d3, d4, d5, d6, d7, d8⟩ := C.cells
  obtain ⟨⟨m0, m1, m2, m3, m4⟩, ⟨p0, p1, p2, p3, p4⟩⟩ := T.cells
  go_upto_region 62 with fail
  have hV9' := hV9
  unfold Z5 at hV9'
  rw [← hV9']
  clear hV9'
  have bV9 : Below (w.heap.size + 3) w6 V3 := by rw [hV9]; exact (Z5.below (Below.refl _ _) hKl).setCell (by exact hKl) _
  have T9 : StB V3 K g Option.none 0 0 0 0 y := by rw [hV9]; exact T.over.set1
  have hrt : Row V3 Option.none 0 [] := row_nil _
  have hrl : Row V3 a5 n5 (tellL (othersL l who) 3) := Row.off (K := K) hrl (fun _ ad e => by have := hfl ad e; omega) (fun b hb _ => by rw [hV9]; exact (set_other _ K 1 _ b hb).trans (z5_other _ _ _ _ _ _ _ b hb))
  clear hV9
  clear c0 c1 c2 c3 c4 d0 d1 d2 d3 d4 d5 d6 d7 d8
  clear m0 m1 m2 m3 m4 p0 p1 p2 p3 p4
  have bw := bw.trans (bV9.mono (by omega))
  have hsn := bV9.size
  have S := S.later bV9 (by omega)
  have C := C.later bV9 (by omega)
  have R := R.later bV9 (by omega)
  clear T
  have T := T9
  clear T9 bV9
  have hgb : -9223372036854775808 ≤ g + 1 ∧ g + 1 ≤ 9223372036854775807 := by omega
  obtain ⟨hgb1, hgb2⟩ := hgb
  obtain ⟨V7, hV7⟩ : ∃ V, V = V3.setCell ⟨K, 0, Option.none⟩ (.int .i64 (g + 1)) := ⟨_, rfl⟩
  obtain ⟨⟨c0, c1, c2, c3, c4⟩, _⟩ := S.cells
  obtain ⟨d0, d1, d2, d3, d4, d5, d6, d7, d8⟩ := C.cells
  obtain ⟨⟨m0, m1, m2, m3, m4⟩, ⟨p0, p1, p2, p3, p4⟩⟩ := T.cells
  go_upto_region 64 with fail
  rw [← hV7]
  have bV7 : Below (w.heap.size + 3) V3 V7 := by rw [hV7]; exact (Below.refl _ _).setCell (by exact hKl) _
  have T3 : StB V7 K (g + 1) Option.none 0 0 0 0 y := by rw [hV7]; exact T.set0
  have hrt3 : Row V7 Option.none 0 [] := Row.off (K := K) (hrt) (fun h0 => absurd rfl h0) (fun b hb _ => by rw [hV7]; exact set_other _ K 0 _ b hb)
  have hrl3 : Row V7 a5 n5 (tellL (othersL l who) 3) := Row.off (K := K) hrl (fun _ ad e => by have := hfl ad e; omega) (fun b hb _ => by rw [hV7]; exact set_other _ K 0 _ b hb)
  clear hV7
  clear c0 c1 c2 c3 c4 d0 d1 d2 d3 d4 d5 d6 d7 d8
  clear m0 m1 m2 m3 m4 p0 p1 p2 p3 p4
  have bw := bw.trans (bV7.mono (by omega))
  have hsn := bV7.size
  have S := S.later bV7 (by omega)
  have C := C.later bV7 (by omega)
  have R := R.later bV7 (by omega)
  clear T
  have T := T3
  clear T3 bV7
  by_cases hgg : 1000000000 < g + 1
  · have hgg' : decide (1000000000 < g + 1) = true := by simpa using hgg
    have HG : Hid (cnt g = 0) := cnt_hi hgg
    clear hgg
    obtain ⟨V8, hV8⟩ : ∃ V, V = V7.setCell ⟨K, 0, Option.none⟩ (.int .i64 0) := ⟨_, rfl⟩
    obtain ⟨⟨c0, c1, c2, c3, c4⟩, _⟩ := S.cells
    obtain ⟨d0, d1, d2, d3, d4, d5, d6, d7, d8⟩ := C.cells
    obtain ⟨⟨m0, m1, m2, m3, m4⟩, ⟨p0, p1, p2, p3, p4⟩⟩ := T.cells
    go_upto_region 66 with fail
    rw [← hV8]
    have bV8 : Below (w.heap.size + 3) V7 V8 := by rw [hV8]; exact (Below.refl _ _).setCell (by exact hKl) _
    have T4 : StB V8 K 0 Option.none 0 0 0 0 y := by rw [hV8]; exact T.set0
    have hrt4 : Row V8 Option.none 0 [] := Row.off (K := K) hrt3 (fun h0 => absurd rfl h0) (fun b hb _ => by rw [hV8]; exact set_other _ K 0 _ b hb)
    have hrl4 : Row V8 a5 n5 (tellL (othersL l who) 3) := Row.off (K := K) hrl3 (fun _ ad e => by have := hfl ad e; omega) (fun b hb _ => by rw [hV8]; exact set_other _ K 0 _ b hb)
    clear hV8
    clear c0 c1 c2 c3 c4 d0 d1 d2 d3 d4 d5 d6 d7 d8
    clear m0 m1 m2 m3 m4 p0 p1 p2 p3 p4
    have bw := bw.trans (bV8.mono (by omega))
    have hsn := bV8.size
    have S := S.later bV8 (by omega)
    have C := C.later bV8 (by omega)
    have R := R.later bV8 (by omega)
    clear T
    have T := T4
    clear T4 bV8
    have HRT : Hid (Row V8 Option.none 0 []) := hrt4
    have HRL : Hid (Row V8 a5 n5 (tellL (othersL l who) 3)) := hrl4
    obtain ⟨⟨c0, c1, c2, c3, c4⟩, _⟩ := S.cells
    obtain ⟨d0, d1, d2, d3, d4, d5, d6, d7, d8⟩ := C.cells
    obtain ⟨⟨m0, m1, m2, m3, m4⟩, ⟨p0, p1, p2, p3, p4⟩⟩ := T.cells
    obtain ⟨⟨e0, e1, e2, e3, e4⟩, ⟨q0, q1, q2, q3, q4⟩⟩ := R.cells
    clear S C T
    go_wp2
    obtain ⟨Z, hZ, z0, z1, z2, z3, z4⟩ := Z5.cells (X := V8) (v0 := .int .i64 0) (v1 := .slice Option.none 0 0) (v2 := .int .i64 0) (v3 := .int .i64 0) (v4 := .bool y) R
    have bZ : Below w.heap.size w Z := by rw [hZ]; exact Z5.below bw (by omega)
    have hrT : Row Z Option.none 0 [] := by rw [hZ]; exact HRT.out.off (fun h0 => absurd rfl h0) (fun b hb _ => z5_other _ _ _ _ _ _ _ b hb)
    have hrL : Row Z a5 n5 (tellL (othersL l who) 3) := by rw [hZ]; exact HRL.out.off (fun _ ad e => by have := hfl ad e; omega) (fun b hb _ => z5_other _ _ _ _ _ _ _ b hb)
    unfold Z5 at hZ
    rw [← hZ]
    clear hZ
    exact bodyPost_ret (v := .tuple #[.agg #[.int .i64 0, .slice Option.none 0 0, .int .i64 0, .int .i64 0, .bool y], .slice a5 n5 c5, .int .i64 0]) (by simp [results, Try.results14, go_sem, z0, z1, z2, z3, z4]) rfl (And.intro (by rw [HS.out, HG.out]; exact ⟨_, _, _, _, _, _, rfl, hrT, hrL⟩) bZ)
  · have hgg' : decide (1000000000 < g + 1) = false := by simpa using hgg
    have HG : Hid (cnt g = g + 1) := cnt_lo hgg
    clear hgg
    have HRT : Hid (Row V7 Option.none 0 []) := hrt3
    have HRL : Hid (Row V7 a5 n5 (tellL (othersL l who) 3)) := hrl3
    obtain ⟨⟨c0, c1, c2, c3, c4⟩, _⟩ := S.cells
    obtain ⟨d0, d1, d2, d3, d4, d5, d6, d7, d8⟩ := C.cells
    obtain ⟨⟨m0, m1, m2, m3, m4⟩, ⟨p0, p1, p2, p3, p4⟩⟩ := T.cells
    obtain ⟨⟨e0, e1, e2, e3, e4⟩, ⟨q0, q1, q2, q3, q4⟩⟩ := R.cells
    clear S C T
    go_wp2
    obtain ⟨Z, hZ, z0, z1, z2, z3, z4⟩ := Z5.cells (X := V7) (v0 := .int .i64 (g + 1)) (v1 := .slice Option.none 0 0) (v2 := .int .i64 0) (v3 := .int .i64 0) (v4 := .bool y) R
    have bZ : Below w.heap.size w Z := by rw [hZ]; exact Z5.below bw (by omega)
    have hrT : Row Z Option.none 0 [] := by rw [hZ]; exact HRT.out.off (fun h0 => absurd rfl h0) (fun b hb _ => z5_other _ _ _ _ _ _ _ b hb)
    have hrL : Row Z a5 n5 (tellL (othersL l who) 3) := by rw [hZ]; exact HRL.out.off (fun _ ad e => by have := hfl ad e; omega) (fun b hb _ => z5_other _ _ _ _ _ _ _ b hb)
    unfold Z5 at hZ
    rw [← hZ]
    clear hZ
    exact bodyPost_ret (v := .tuple #[.agg #[.int .i64 (g + 1), .slice Option.none 0 0, .int .i64 0, .int .i64 0, .bool y], .slice a5 n5 c5, .int .i64 0]) (by simp [results, Try.results14, go_sem, z0, z1, z2, z3, z4]) rfl (And.intro (by rw [HS.out, HG.out]; exact ⟨_, _, _, _, _, _, rfl, hrT, hrL⟩) bZ)
end Go.Proofs.Ytokjacbipmfjkaa

namespace Go.Proofs.Ytokjacbipmfjkaa
open Go.ChangeShapes Go.WideShapes Go.ChangeAt Go.RowKit Go.Deep

set_option maxRecDepth 100000 in
set_option maxHeartbeats 8000000 in
theorem rord_x (g t h : Int) (a : Option Addr) (n c : Nat) (y : Bool) (l : List (Int × Int)) (op who key new kind at' : Int) (st : Bool) (da wa : ByteArray) (w : World) (hr : Row w a n l) (hf : fault g t h l = 0) (h7 : 6 < op) :
    Calls Try.prog 14 #[stV g a n c t h y, cmV op who key new kind at' st da wa] w fun e w' => ROut (doF g t h y l op who key new kind st) e w' ∧ Below w.heap.size w w' := by
  obtain ⟨X, hX, bX, sX, S0, C0, R0⟩ := laidThree w g a n c t h y op who key new kind at' st da wa
  obtain ⟨⟨c0, c1, c2, c3, c4⟩, _⟩ := S0.cells
  obtain ⟨d0, d1, d2, d3, d4, d5, d6, d7, d8⟩ := C0.cells
  go_enter Try.func14, Try.ntmps14
  go_wp2_with fail
  rw [← hX]
  clear hX c0 c1 c2 c3 c4 d0 d1 d2 d3 d4 d5 d6 d7 d8
  refine (keyOf_any g t h a n c y l who X (hr.later bX)).mono ?_
  rintro e w1 ⟨rfl, hbn⟩
  have bw := bX.trans (hbn.mono bX.size)
  have hsn := hbn.size
  have S := S0.later hbn (by omega)
  have C := C0.later hbn (by omega)
  have R := R0.later hbn (by omega)
  clear S0 C0 R0 hbn bX
  obtain ⟨⟨c0, c1, c2, c3, c4⟩, _⟩ := S.cells
  obtain ⟨d0, d1, d2, d3, d4, d5, d6, d7, d8⟩ := C.cells
  go_wp2_with fail
  clear c0 c1 c2 c3 c4 d0 d1 d2 d3 d4 d5 d6 d7 d8
  refine (rholds_any g t h a n c y l who w1 (hr.later bw)).mono ?_
  rintro e w2 ⟨rfl, hbn⟩
  rw [← holds_same hf]
  have bw := bw.trans (hbn.mono bw.size)
  have hsn := hbn.size
  have S := S.later hbn S.lt
  have C := C.later hbn (by omega)
  have R := R.later hbn (by omega)
  clear hbn
  have h7' : decide (6 < op) = true := by simpa using h7
  have HS : Hid (doF g t h y l op who key new kind st = refused 2) := by show _ = _; unfold doF; rw [if_neg (by omega), if_neg (by omega), if_neg (by omega), if_neg (by omega), if_neg (by omega)]
  obtain ⟨⟨c0, c1, c2, c3, c4⟩, _⟩ := S.cells
  obtain ⟨d0, d1, d2, d3, d4, d5, d6, d7, d8⟩ := C.cells
  obtain ⟨⟨e0, e1, e2, e3, e4⟩, ⟨q0, q1, q2, q3, q4⟩⟩ := R.cells
  clear S C h7
  go_wp2
  obtain ⟨Z, hZ, z0, z1, z2, z3, z4⟩ := Z5.cells (X := w2) (v0 := .int .i64 0) (v1 := .slice Option.none 0 0) (v2 := .int .i64 0) (v3 := .int .i64 0) (v4 := .bool false) R
  have bZ : Below w.heap.size w Z := by rw [hZ]; exact Z5.below bw (by omega)
  unfold Z5 at hZ
  rw [← hZ]
  clear hZ
  exact bodyPost_ret (v := .tuple #[.agg #[.int .i64 0, .slice Option.none 0 0, .int .i64 0, .int .i64 0, .bool false], .slice Option.none 0 0, .int .i64 2]) (by simp [results, Try.results14, go_sem, z0, z1, z2, z3, z4]) rfl (And.intro (by rw [HS.out]; exact ⟨_, _, _, _, _, _, rfl, row_nil _, row_nil _⟩) bZ)
end Go.Proofs.Ytokjacbipmfjkaa

namespace Go.Proofs.Ytokjacbipmfjkaa
open Go.ChangeShapes Go.WideShapes Go.ChangeAt Go.RowKit Go.Deep

theorem rordered_any (g t h : Int) (a : Option Addr) (n c : Nat) (y : Bool) (l : List (Int × Int)) (op who key new kind at' : Int) (st : Bool) (da wa : ByteArray) (w : World) (hr : Row w a n l) (hn : n ≤ 900) (hf : fault g t h l = 0) (hc : CmdOk op who key new kind) :
    Calls Try.prog 14 #[stV g a n c t h y, cmV op who key new kind at' st da wa] w fun e w' => ROut (doF g t h y l op who key new kind st) e w' ∧ Below w.heap.size w w' := by
  have h1 := hc.op1
  by_cases e1 : op = 1
  · subst e1; exact rord_1 g t h a n c y l who key new kind at' st da wa w hr hn hf
  by_cases e2 : op = 2
  · subst e2; exact rord_2 g t h a n c y l who key new kind at' st da wa w hr hn hf
  by_cases e3 : op = 3
  · subst e3; exact rord_3 g t h a n c y l who key new kind at' st da wa w hr hf hc
  by_cases e4 : op = 4
  · subst e4; exact rord_4 g t h a n c y l who key new kind at' st da wa w hr hn hf
  by_cases e5 : op = 5
  · subst e5; exact rord_5 g t h a n c y l who key new kind at' st da wa w hr hn hf
  by_cases e6 : op = 6
  · subst e6; exact rord_6 g t h a n c y l who key new kind at' st da wa w hr hn hf hc
  · exact rord_x g t h a n c y l op who key new kind at' st da wa w hr hf (by omega)
end Go.Proofs.Ytokjacbipmfjkaa

namespace Go.Proofs.Ytokjacbipmfjkaa
open Go.ChangeShapes Go.WideShapes Go.ChangeAt Go.RowKit Go.Deep

/-- May somebody do less? -/
def less1 (t h : Int) (l : List (Int × Int)) (t' h' : Int) (l' : List (Int × Int)) (who : Int) : Bool :=
  (mayB t h l who false && !mayB t' h' l' who false) || (mayB t h l who true && !mayB t' h' l' who true)
/-- May anybody do less? -/
def LessP (t h : Int) (l : List (Int × Int)) (t' h' : Int) (l' : List (Int × Int)) : Prop := ∃ k : Nat, k < 4 ∧ less1 t h l t' h' l' (k + 1) = true
instance (t h : Int) (l : List (Int × Int)) (t' h' : Int) (l' : List (Int × Int)) : Decidable (LessP t h l t' h' l') := by unfold LessP; infer_instance
/-- The two blocks that a function of two states lays first. -/
theorem laidStates (w : World) (g : Int) (a : Option Addr) (n c : Nat) (t h : Int) (y : Bool) (g' : Int) (a' : Option Addr) (n' c' : Nat) (t' h' : Int) (y' : Bool) :
    ∃ X, X = (w.alloc (.cells #[.int .i64 g, .slice a n c, .int .i64 t, .int .i64 h, .bool y] 24)).alloc (.cells #[.int .i64 g', .slice a' n' c', .int .i64 t', .int .i64 h', .bool y'] 24) ∧
      Below w.heap.size w X ∧ X.heap.size = w.heap.size + 2 ∧ StB X w.heap.size g a n c t h y ∧ StB X (w.heap.size + 1) g' a' n' c' t' h' y' := by
  refine ⟨_, rfl, ((Below.refl _ _).alloc (Nat.le_refl _) _).alloc (by simp) _, by simp, ?_, ?_⟩
  · unfold StB; rw [Below.heap_alloc _ _ _ (by simp)]; exact heap_alloc_new w _
  · unfold StB; simpa using heap_alloc_new (w.alloc (.cells #[.int .i64 g, .slice a n c, .int .i64 t, .int .i64 h, .bool y] 24)) (.cells #[.int .i64 g', .slice a' n' c', .int .i64 t', .int .i64 h', .bool y'] 24)

set_option maxRecDepth 100000 in
set_option maxHeartbeats 8000000 in
theorem less_any (g t h : Int) (a : Option Addr) (n c : Nat) (y : Bool) (l : List (Int × Int)) (g' t' h' : Int) (a' : Option Addr) (n' c' : Nat) (y' : Bool) (l' : List (Int × Int)) (w : World) (hr : Row w a n l) (hr' : Row w a' n' l') :
    Calls Try.prog 18 #[stV g a n c t h y, stV g' a' n' c' t' h' y', .func (.func 19) #[] #[]] w fun e w' => e = .returned (.bool (decide (LessP t h l t' h' l'))) ∧ Below w.heap.size w w' := by
  obtain ⟨X, hX, bX, sX, S0, T0⟩ := laidStates w g a n c t h y g' a' n' c' t' h' y'
  have qf : ∀ W : World, (binOp .eql 43 (.func (.func 19) #[] #[]) .nilFunc).run Try.prog W = .ok (.bool false) W := fun W => by kernel_rfl
  go_enter Try.func18, Try.ntmps18
  go_wp2_with fail
  rw [← hX]
  clear hX
  go_loopw [11] (fun i wr => ∃ k : Nat, k ≤ 4 ∧ i = .int .i64 k ∧ Below X.heap.size X wr ∧ Hid (∀ j : Nat, j < k → less1 t h l t' h' l' ((j : Int) + 1) = false)) (fun i _ => 4 - (intOf i).toNat)
  case atStart => exact ⟨0, by omega, rfl, Below.refl _ _, fun j hj => absurd hj (Nat.not_lt_zero _)⟩
  case round =>
    obtain ⟨k, hk, rfl, hb, hall⟩ := hrel
    have bw := bX.trans (hb.mono bX.size)
    have S := S0.later hb (by omega)
    have T := T0.later hb (by omega)
    have hsb := hb.size
    have bx : Hid (Below X.heap.size X wr) := hb
    clear hb
    by_cases hlt : k < 4
    · have hki : (k : Int) < 4 := by omega
      clear S0 T0
      obtain ⟨⟨c0, c1, c2, c3, c4⟩, _⟩ := S.cells
      obtain ⟨⟨d0, d1, d2, d3, d4⟩, _⟩ := T.cells
      go_wp2_with fail
      clear c0 c1 c2 c3 c4 d0 d1 d2 d3 d4
      refine (may_any g t h a n c y l ((k : Int) + 1) false _ (hr.later bw)).mono ?_
      rintro e w1 ⟨rfl, hbn⟩
      have bw := bw.trans (hbn.mono bw.size)
      have bx : Hid (Below X.heap.size X w1) := bx.out.trans (hbn.mono bx.out.size)
      have hsn := hbn.size
      have S := S.later hbn S.lt
      have T := T.later hbn T.lt
      clear hbn
      cases b1 : mayB t h l ((k : Int) + 1) false with
      | false =>
        obtain ⟨⟨c0, c1, c2, c3, c4⟩, _⟩ := S.cells
        obtain ⟨⟨d0, d1, d2, d3, d4⟩, _⟩ := T.cells
        go_wp2_with fail
        clear c0 c1 c2 c3 c4 d0 d1 d2 d3 d4
        refine (may_any g t h a n c y l ((k : Int) + 1) true _ (hr.later bw)).mono ?_
        rintro e w3 ⟨rfl, hbn⟩
        have bw := bw.trans (hbn.mono bw.size)
        have bx : Hid (Below X.heap.size X w3) := bx.out.trans (hbn.mono bx.out.size)
        have hsn := hbn.size
        have S := S.later hbn S.lt
        have T := T.later hbn T.lt
        clear hbn
        cases b3 : mayB t h l ((k : Int) + 1) true with
        | false =>
          have HN : Hid (less1 t h l t' h' l' ((k : Int) + 1) = false) := by show _ = _; unfold less1; rw [b1, b3]; simp
          clear S T
          go_wp2
          go_roundw
          case rel => exact ⟨k + 1, by omega, by go_num, bx.out, fun j hj => by
            rcases Nat.lt_or_ge j k with h0 | h0
            · exact hall.out j h0
            · have : j = k := by omega
              subst this
              exact HN.out⟩
          case measure => simp [intOf]; omega
        | true =>
          obtain ⟨⟨c0, c1, c2, c3, c4⟩, _⟩ := S.cells
          obtain ⟨⟨d0, d1, d2, d3, d4⟩, _⟩ := T.cells
          go_wp2_with fail
          clear c0 c1 c2 c3 c4 d0 d1 d2 d3 d4
          refine (may_any g' t' h' a' n' c' y' l' ((k : Int) + 1) true _ (hr'.later bw)).mono ?_
          rintro e w4 ⟨rfl, hbn⟩
          have bw := bw.trans (hbn.mono bw.size)
          have bx : Hid (Below X.heap.size X w4) := bx.out.trans (hbn.mono bx.out.size)
          have hsn := hbn.size
          have S := S.later hbn S.lt
          have T := T.later hbn T.lt
          clear hbn
          cases b4 : mayB t' h' l' ((k : Int) + 1) true with
          | true =>
            have HN : Hid (less1 t h l t' h' l' ((k : Int) + 1) = false) := by show _ = _; unfold less1; rw [b1, b3, b4]; simp
            clear S T
            go_wp2
            go_roundw
            case rel => exact ⟨k + 1, by omega, by go_num, bx.out, fun j hj => by
              rcases Nat.lt_or_ge j k with h0 | h0
              · exact hall.out j h0
              · have : j = k := by omega
                subst this
                exact HN.out⟩
            case measure => simp [intOf]; omega
          | false =>
            have HL : Hid (LessP t h l t' h' l') := ⟨k, by omega, by unfold less1; rw [b1, b3, b4]; simp⟩
            clear S T
            go_wp2
            go_ret
            exact ⟨ret_bool (by simpa using HL.out), bw⟩
      | true =>
        obtain ⟨⟨c0, c1, c2, c3, c4⟩, _⟩ := S.cells
        obtain ⟨⟨d0, d1, d2, d3, d4⟩, _⟩ := T.cells
        go_wp2_with fail
        clear c0 c1 c2 c3 c4 d0 d1 d2 d3 d4
        refine (may_any g' t' h' a' n' c' y' l' ((k : Int) + 1) false _ (hr'.later bw)).mono ?_
        rintro e w2 ⟨rfl, hbn⟩
        have bw := bw.trans (hbn.mono bw.size)
        have bx : Hid (Below X.heap.size X w2) := bx.out.trans (hbn.mono bx.out.size)
        have hsn := hbn.size
        have S := S.later hbn S.lt
        have T := T.later hbn T.lt
        clear hbn
        cases b2 : mayB t' h' l' ((k : Int) + 1) false with
        | false =>
          have HL : Hid (LessP t h l t' h' l') := ⟨k, by omega, by unfold less1; rw [b1, b2]; simp⟩
          clear S T
          go_wp2
          go_ret
          exact ⟨ret_bool (by simpa using HL.out), bw⟩
        | true =>
          obtain ⟨⟨c0, c1, c2, c3, c4⟩, _⟩ := S.cells
          obtain ⟨⟨d0, d1, d2, d3, d4⟩, _⟩ := T.cells
          go_wp2_with fail
          clear c0 c1 c2 c3 c4 d0 d1 d2 d3 d4
          refine (may_any g t h a n c y l ((k : Int) + 1) true _ (hr.later bw)).mono ?_
          rintro e w3 ⟨rfl, hbn⟩
          have bw := bw.trans (hbn.mono bw.size)
          have bx : Hid (Below X.heap.size X w3) := bx.out.trans (hbn.mono bx.out.size)
          have hsn := hbn.size
          have S := S.later hbn S.lt
          have T := T.later hbn T.lt
          clear hbn
          cases b3 : mayB t h l ((k : Int) + 1) true with
          | false =>
            have HN : Hid (less1 t h l t' h' l' ((k : Int) + 1) = false) := by show _ = _; unfold less1; rw [b1, b2, b3]; simp
            clear S T
            go_wp2
            go_roundw
            case rel => exact ⟨k + 1, by omega, by go_num, bx.out, fun j hj => by
              rcases Nat.lt_or_ge j k with h0 | h0
              · exact hall.out j h0
              · have : j = k := by omega
                subst this
                exact HN.out⟩
            case measure => simp [intOf]; omega
          | true =>
            obtain ⟨⟨c0, c1, c2, c3, c4⟩, _⟩ := S.cells
            obtain ⟨⟨d0, d1, d2, d3, d4⟩, _⟩ := T.cells
            go_wp2_with fail
            clear c0 c1 c2 c3 c4 d0 d1 d2 d3 d4
            refine (may_any g' t' h' a' n' c' y' l' ((k : Int) + 1) true _ (hr'.later bw)).mono ?_
            rintro e w4 ⟨rfl, hbn⟩
            have bw := bw.trans (hbn.mono bw.size)
            have bx : Hid (Below X.heap.size X w4) := bx.out.trans (hbn.mono bx.out.size)
            have hsn := hbn.size
            have S := S.later hbn S.lt
            have T := T.later hbn T.lt
            clear hbn
            cases b4 : mayB t' h' l' ((k : Int) + 1) true with
            | true =>
              have HN : Hid (less1 t h l t' h' l' ((k : Int) + 1) = false) := by show _ = _; unfold less1; rw [b1, b2, b3, b4]; simp
              clear S T
              go_wp2
              go_roundw
              case rel => exact ⟨k + 1, by omega, by go_num, bx.out, fun j hj => by
                rcases Nat.lt_or_ge j k with h0 | h0
                · exact hall.out j h0
                · have : j = k := by omega
                  subst this
                  exact HN.out⟩
              case measure => simp [intOf]; omega
            | false =>
              have HL : Hid (LessP t h l t' h' l') := ⟨k, by omega, by unfold less1; rw [b1, b2, b3, b4]; simp⟩
              clear S T
              go_wp2
              go_ret
              exact ⟨ret_bool (by simpa using HL.out), bw⟩
    · have hk4 : k = 4 := by omega
      subst hk4
      have HL : Hid (¬ LessP t h l t' h' l') := by
        rintro ⟨j, hj, e⟩
        rw [hall.out j hj] at e
        cases e
      clear S T S0 T0
      go_wp2
      go_ret
      exact ⟨ret_bool (by simpa using HL.out), bw⟩
end Go.Proofs.Ytokjacbipmfjkaa

namespace Go.Proofs.Ytokjacbipmfjkaa
open Go.ChangeShapes Go.WideShapes Go.ChangeAt Go.RowKit Go.Deep

/-- May somebody do less, by the document? -/
def rl (t h : Int) (l : List (Int × Int)) (t' h' : Int) (l' : List (Int × Int)) (who : Int) (wr : Bool) : Bool := rmayB t h l who wr && !rmayB t' h' l' who wr
def RLessP (t h : Int) (l : List (Int × Int)) (t' h' : Int) (l' : List (Int × Int)) : Prop := ∃ k : Nat, k < 4 ∧ ∃ m : Nat, m < 2 ∧ rl t h l t' h' l' ((k : Int) + 1) ((m : Int) == 1) = true
instance (t h : Int) (l : List (Int × Int)) (t' h' : Int) (l' : List (Int × Int)) : Decidable (RLessP t h l t' h' l') := by unfold RLessP; infer_instance
theorem less_iff {g t h : Int} {l : List (Int × Int)} {g' t' h' : Int} {l' : List (Int × Int)} (hf : fault g t h l = 0) (hf' : fault g' t' h' l' = 0) : LessP t h l t' h' l' ↔ RLessP t h l t' h' l' := by
  constructor
  · rintro ⟨k, hk, e⟩
    unfold less1 at e
    rw [may_same hf, may_same hf', may_same hf, may_same hf'] at e
    rcases Bool.or_eq_true_iff.1 e with e | e
    · exact ⟨k, hk, 0, by decide, e⟩
    · exact ⟨k, hk, 1, by decide, e⟩
  · rintro ⟨k, hk, m, hm, e⟩
    refine ⟨k, hk, ?_⟩
    unfold less1
    rw [may_same hf, may_same hf', may_same hf, may_same hf']
    have h01 : m = 0 ∨ m = 1 := by omega
    rcases h01 with rfl | rfl
    · exact Bool.or_eq_true_iff.2 (.inl e)
    · exact Bool.or_eq_true_iff.2 (.inr e)

set_option maxRecDepth 100000 in
set_option maxHeartbeats 8000000 in
theorem lessened_any (g t h : Int) (a : Option Addr) (n c : Nat) (y : Bool) (l : List (Int × Int)) (g' t' h' : Int) (a' : Option Addr) (n' c' : Nat) (y' : Bool) (l' : List (Int × Int)) (w : World) (hr : Row w a n l) (hr' : Row w a' n' l') :
    Calls Try.prog 20 #[stV g a n c t h y, stV g' a' n' c' t' h' y'] w fun e w' => e = .returned (.bool (decide (RLessP t h l t' h' l'))) ∧ Below w.heap.size w w' := by
  obtain ⟨X, hX, bX, sX, S0, T0⟩ := laidStates w g a n c t h y g' a' n' c' t' h' y'
  go_enter Try.func20, Try.ntmps20
  go_wp2_with fail
  rw [← hX]
  clear hX
  go_loopw [5] (fun i wr => ∃ k : Nat, k ≤ 4 ∧ i = .int .i64 ((k : Int) + 1) ∧ Below X.heap.size X wr ∧ Hid (∀ j : Nat, j < k → ∀ m : Nat, m < 2 → rl t h l t' h' l' ((j : Int) + 1) ((m : Int) == 1) = false)) (fun i _ => 5 - (intOf i).toNat)
  case atStart => exact ⟨0, by omega, rfl, Below.refl _ _, fun j hj => absurd hj (Nat.not_lt_zero _)⟩
  case round =>
    obtain ⟨k, hk, rfl, hb, hall⟩ := hrel
    by_cases hlt : k < 4
    · have hki : decide ((k : Int) + 1 ≤ 4) = true := by simp; omega
      go_wp2_with fail
      go_loopw [6] (fun j wj => ∃ m : Nat, m ≤ 2 ∧ j = .int .i64 m ∧ Below X.heap.size X wj ∧ Hid (∀ i : Nat, i < m → rl t h l t' h' l' ((k : Int) + 1) ((i : Int) == 1) = false)) (fun j _ => 2 - (intOf j).toNat)
      case atStart => exact ⟨0, by omega, rfl, hb, fun i hi => absurd hi (Nat.not_lt_zero _)⟩
      case round =>
        clear hb
        obtain ⟨m, hm, rfl, hb, hin⟩ := hrel
        have bw := bX.trans (hb.mono bX.size)
        have S := S0.later hb (by omega)
        have T := T0.later hb (by omega)
        have bx : Hid (Below X.heap.size X wr) := hb
        have hsb := hb.size
        clear hb
        by_cases hm2 : m < 2
        · have hmi : (m : Int) < 2 := by omega
          clear S0 T0
          obtain ⟨⟨c0, c1, c2, c3, c4⟩, _⟩ := S.cells
          obtain ⟨⟨d0, d1, d2, d3, d4⟩, _⟩ := T.cells
          go_wp2_with fail
          clear c0 c1 c2 c3 c4 d0 d1 d2 d3 d4
          refine (rmay_any g t h a n c y l ((k : Int) + 1) ((m : Int) == 1) _ (hr.later bw)).mono ?_
          rintro e w1 ⟨rfl, hbn⟩
          have bw := bw.trans (hbn.mono bw.size)
          have bx : Hid (Below X.heap.size X w1) := bx.out.trans (hbn.mono bx.out.size)
          have hsn := hbn.size
          have S := S.later hbn S.lt
          have T := T.later hbn T.lt
          clear hbn
          cases b1 : rmayB t h l ((k : Int) + 1) ((m : Int) == 1) with
          | false =>
            obtain ⟨⟨c0, c1, c2, c3, c4⟩, _⟩ := S.cells
            obtain ⟨⟨d0, d1, d2, d3, d4⟩, _⟩ := T.cells
            go_wp2_with fail
            clear c0 c1 c2 c3 c4 d0 d1 d2 d3 d4
            refine (rmay_any g' t' h' a' n' c' y' l' ((k : Int) + 1) ((m : Int) == 1) _ (hr'.later bw)).mono ?_
            rintro e w2 ⟨rfl, hbn⟩
            have bw := bw.trans (hbn.mono bw.size)
            have bx : Hid (Below X.heap.size X w2) := bx.out.trans (hbn.mono bx.out.size)
            have hsn := hbn.size
            have S := S.later hbn S.lt
            have T := T.later hbn T.lt
            clear hbn
            have HN : Hid (rl t h l t' h' l' ((k : Int) + 1) ((m : Int) == 1) = false) := by show _ = _; unfold rl; rw [b1]; rfl
            clear S T
            go_wp2
            go_roundw
            case rel => exact ⟨m + 1, by omega, by go_num, bx.out, fun i hi => by
              rcases Nat.lt_or_ge i m with h0 | h0
              · exact hin.out i h0
              · have : i = m := by omega
                subst this
                exact HN.out⟩
            case measure => simp [intOf]; omega
          | true =>
            obtain ⟨⟨c0, c1, c2, c3, c4⟩, _⟩ := S.cells
            obtain ⟨⟨d0, d1, d2, d3, d4⟩, _⟩ := T.cells
            go_wp2_with fail
            clear c0 c1 c2 c3 c4 d0 d1 d2 d3 d4
            refine (rmay_any g' t' h' a' n' c' y' l' ((k : Int) + 1) ((m : Int) == 1) _ (hr'.later bw)).mono ?_
            rintro e w2 ⟨rfl, hbn⟩
            have bw := bw.trans (hbn.mono bw.size)
            have bx : Hid (Below X.heap.size X w2) := bx.out.trans (hbn.mono bx.out.size)
            have hsn := hbn.size
            have S := S.later hbn S.lt
            have T := T.later hbn T.lt
            clear hbn
            cases b2 : rmayB t' h' l' ((k : Int) + 1) ((m : Int) == 1) with
            | true =>
              have HN : Hid (rl t h l t' h' l' ((k : Int) + 1) ((m : Int) == 1) = false) := by show _ = _; unfold rl; rw [b1, b2]; rfl
              clear S T
              go_wp2
              go_roundw
              case rel => exact ⟨m + 1, by omega, by go_num, bx.out, fun i hi => by
                rcases Nat.lt_or_ge i m with h0 | h0
                · exact hin.out i h0
                · have : i = m := by omega
                  subst this
                  exact HN.out⟩
              case measure => simp [intOf]; omega
            | false =>
              have HL : Hid (RLessP t h l t' h' l') := ⟨k, hlt, m, hm2, by unfold rl; rw [b1, b2]; rfl⟩
              clear S T
              go_wp2
              go_ret
              exact ⟨ret_bool (decide_eq_true HL.out).symm, bw⟩
        · have hm' : m = 2 := by omega
          subst hm'
          clear S T S0 T0
          go_wp2
          go_roundw
          case rel => exact ⟨k + 1, by omega, by go_num, bx.out, fun j hj => by
            rcases Nat.lt_or_ge j k with h0 | h0
            · exact hall.out j h0
            · have : j = k := by omega
              subst this
              exact hin.out⟩
          case measure => simp [intOf]; omega
    · have hk4 : k = 4 := by omega
      subst hk4
      have HL : Hid (¬ RLessP t h l t' h' l') := by
        rintro ⟨j, hj, m, hm, e⟩
        rw [hall.out j hj m hm] at e
        cases e
      have bw := bX.trans (hb.mono bX.size)
      clear S0 T0
      go_wp2
      go_ret
      exact ⟨ret_bool (decide_eq_false HL.out).symm, bw⟩
end Go.Proofs.Ytokjacbipmfjkaa

namespace Go.Proofs.Ytokjacbipmfjkaa
open Go.ChangeShapes Go.WideShapes Go.ChangeAt Go.RowKit Go.Deep

theorem chk_nonneg (n : Int) (has : Bool) (most : Int) : 0 ≤ K.chkN n has most := by unfold K.chkN; repeat' split; all_goals omega
theorem cmdF_nonneg (op who key new kind at' : Int) (st : Bool) (da wa : ByteArray) : 0 ≤ K.cmdF op who key new kind at' st da wa := by
  have hn : 0 ≤ K.numsF (K.hasKey op) (K.hasNew op) (K.hasAt op) key new at' := by
    unfold K.numsF
    split
    · exact chk_nonneg _ _ _
    · split
      · exact chk_nonneg _ _ _
      · exact chk_nonneg _ _ _
  unfold K.cmdF
  repeat' split
  all_goals first | exact hn | omega
theorem do_f (g t h : Int) (y : Bool) (l : List (Int × Int)) (op who key new kind : Int) (st : Bool) : 0 ≤ (doF g t h y l op who key new kind st).f := by
  unfold doF registerF reserveF releaseF clearF preemptF
  repeat' split
  all_goals first | exact Int.le_refl 0 | (show (0 : Int) ≤ 4; decide) | (show (0 : Int) ≤ 5; decide) | (show (0 : Int) ≤ 2; decide)

set_option maxHeartbeats 4000000 in
theorem orders_any (w : World) : Calls Try.prog 8 #[] w fun e w' => e = .returned (.bool true) ∧ Below w.heap.size w w' := by
  go_enter Try.func8, Try.ntmps8
  go_wp2_with fail
  refine (do_any 0 0 0 Option.none 0 0 false [] 1 1 0 5 0 0 false _ _ w (row_nil _) (by decide) (by decide)).mono ?_
  rintro e w1 ⟨⟨a2, n2, k2, a3, n3, k3, rfl, hrx, hry, hnx, hny⟩, hb1⟩
  rw [do_one] at hrx hry ⊢
  obtain rfl : n2 = 1 := hrx.1.symm
  obtain rfl : n3 = 0 := hry.1.symm
  clear hrx hry hnx hny
  go_wp2_with fail
  refine (same_any 0 (by decide) _).mono ?_
  rintro e w2 ⟨rfl, rfl⟩
  go_wp2
  go_ret
  exact ⟨rfl, hb1.alloc hb1.size _⟩

/-- The three blocks that a function of two states and a command lays first. -/
theorem laidSTC (w : World) (g : Int) (a : Option Addr) (n c : Nat) (t h : Int) (y : Bool) (g' : Int) (a' : Option Addr) (n' c' : Nat) (t' h' : Int) (y' : Bool) (op who key new kind at' : Int) (st : Bool) (da wa : ByteArray) :
    ∃ X, X = ((w.alloc (.cells #[.int .i64 g, .slice a n c, .int .i64 t, .int .i64 h, .bool y] 24)).alloc (.cells #[.int .i64 g', .slice a' n' c', .int .i64 t', .int .i64 h', .bool y'] 24)).alloc (.cells #[.int .i64 op, .int .i64 who, .int .i64 key, .int .i64 new, .int .i64 kind, .int .i64 at', .bool st, .string da, .string wa] 26) ∧
      Below w.heap.size w X ∧ X.heap.size = w.heap.size + 3 ∧ StB X w.heap.size g a n c t h y ∧ StB X (w.heap.size + 1) g' a' n' c' t' h' y' ∧ CmB X (w.heap.size + 2) op who key new kind at' st da wa := by
  obtain ⟨X, hX, bX, sX, S0, T0⟩ := laidStates w g a n c t h y g' a' n' c' t' h' y'
  have hb : Below X.heap.size X (X.alloc (.cells #[.int .i64 op, .int .i64 who, .int .i64 key, .int .i64 new, .int .i64 kind, .int .i64 at', .bool st, .string da, .string wa] 26)) := (Below.refl _ _).alloc (Nat.le_refl _) _
  refine ⟨_, by rw [← hX], bX.trans (hb.mono bX.size), by simp; omega, S0.later hb (by omega), T0.later hb (by omega), ?_⟩
  unfold CmB
  rw [← sX]
  exact heap_alloc_new X _

theorem Calls.eq_lw {P : Program} {f : FuncId} {args : Array Value} {wr : World} {p : LW wr} {v : Value} (h : Calls P f args p.val fun e w' => e = .returned v ∧ p.val = w') : Calls P f args p.val fun e w'' => e = .returned v ∧ ∃ q : LW wr, w'' = q.val :=
  Calls.quiet_lw (h.mono fun _ _ ⟨h1, h2⟩ => ⟨h1, h2 ▸ Below.refl _ _⟩)

set_option maxRecDepth 100000 in
set_option maxHeartbeats 8000000 in
theorem orderSays_walk (g t h : Int) (a : Option Addr) (n c : Nat) (y : Bool) (l : List (Int × Int)) (g' t' h' : Int) (a' : Option Addr) (n' c' : Nat) (y' : Bool) (l' : List (Int × Int)) (op who key new kind at' : Int) (st : Bool) (da wa : ByteArray) (w : World) (hr : Row w a n l) (hr' : Row w a' n' l') (hd : da.size ≤ 9223372036854775807) (hw : wa.size ≤ 9223372036854775807) :
    Calls Try.prog 3 #[stV g a n c t h y, stV g' a' n' c' t' h' y', cmV op who key new kind at' st da wa] w fun e w' => e = .returned (.bool true) ∧ Below w.heap.size w w' := by
  obtain ⟨X, hX, bX, sX, S0, T0, C0⟩ := laidSTC w g a n c t h y g' a' n' c' t' h' y' op who key new kind at' st da wa
  go_enter Try.func3, Try.ntmps3
  go_wp2_with fail
  rw [← hX]
  clear hX
  refine (orders_any X).mono ?_
  rintro e w1 ⟨rfl, hb1⟩
  have bw := bX.trans (hb1.mono bX.size)
  have S := S0.later hb1 (by omega)
  have T := T0.later hb1 (by omega)
  have C := C0.later hb1 (by omega)
  have hs1 := hb1.size
  have hn := hr.2.1
  have hn' := hr'.2.1
  clear S0 T0 C0 hb1 bX
  obtain ⟨⟨c0, c1, c2, c3, c4⟩, _⟩ := S.cells
  obtain ⟨⟨b0, b1, b2, b3, b4⟩, _⟩ := T.cells
  obtain ⟨d0, d1, d2, d3, d4, d5, d6, d7, d8⟩ := C.cells
  go_wp2_with fail
  clear c0 c1 c2 c3 c4 b0 b1 b2 b3 b4 d0 d1 d2 d3 d4 d5 d6 d7 d8
  refine (light_any g t h a n c y _ hn).mono ?_
  rintro e w2 ⟨rfl, hbn⟩
  have bw := bw.trans (hbn.mono bw.size)
  have hsn := hbn.size
  have S := S.later hbn S.lt
  have T := T.later hbn T.lt
  have C := C.later hbn (by omega)
  clear hbn
  by_cases hk : n ≤ 6
  case neg =>
    have hk1 : decide (n ≤ 6) = false := by simpa using hk
    clear hk
    go_wp2
    go_ret
    exact ⟨rfl, bw⟩
  have hk1 : decide (n ≤ 6) = true := by simpa using hk
  have H6 : Hid (n ≤ 6) := hk
  clear hk
  obtain ⟨⟨c0, c1, c2, c3, c4⟩, _⟩ := S.cells
  obtain ⟨⟨b0, b1, b2, b3, b4⟩, _⟩ := T.cells
  obtain ⟨d0, d1, d2, d3, d4, d5, d6, d7, d8⟩ := C.cells
  go_wp2_with fail
  clear c0 c1 c2 c3 c4 b0 b1 b2 b3 b4 d0 d1 d2 d3 d4 d5 d6 d7 d8
  refine (light_any g' t' h' a' n' c' y' _ hn').mono ?_
  rintro e w3 ⟨rfl, hbn⟩
  have bw := bw.trans (hbn.mono bw.size)
  have hsn := hbn.size
  have S := S.later hbn S.lt
  have T := T.later hbn T.lt
  have C := C.later hbn (by omega)
  clear hbn
  by_cases hk : n' ≤ 6
  case neg =>
    have hk2 : decide (n' ≤ 6) = false := by simpa using hk
    clear hk
    go_wp2
    go_ret
    exact ⟨rfl, bw⟩
  have hk2 : decide (n' ≤ 6) = true := by simpa using hk
  clear hk
  obtain ⟨⟨c0, c1, c2, c3, c4⟩, _⟩ := S.cells
  obtain ⟨⟨b0, b1, b2, b3, b4⟩, _⟩ := T.cells
  obtain ⟨d0, d1, d2, d3, d4, d5, d6, d7, d8⟩ := C.cells
  go_wp2_with fail
  clear c0 c1 c2 c3 c4 b0 b1 b2 b3 b4 d0 d1 d2 d3 d4 d5 d6 d7 d8
  refine (lightCmd_any op who key new kind at' st da wa _ hd hw).mono ?_
  rintro e w4 ⟨rfl, hbn⟩
  have bw := bw.trans (hbn.mono bw.size)
  have hsn := hbn.size
  have S := S.later hbn S.lt
  have T := T.later hbn T.lt
  have C := C.later hbn (by omega)
  clear hbn
  by_cases hk : da.size ≤ 20 ∧ wa.size ≤ 20
  case neg =>
    rw [decide_eq_false hk]
    clear hk
    go_wp2
    go_ret
    exact ⟨rfl, bw⟩
  rw [decide_eq_true hk]
  clear hk
  obtain ⟨⟨c0, c1, c2, c3, c4⟩, _⟩ := S.cells
  obtain ⟨⟨b0, b1, b2, b3, b4⟩, _⟩ := T.cells
  obtain ⟨d0, d1, d2, d3, d4, d5, d6, d7, d8⟩ := C.cells
  go_wp2_with fail
  clear c0 c1 c2 c3 c4 b0 b1 b2 b3 b4 d0 d1 d2 d3 d4 d5 d6 d7 d8
  refine (stateFault_any g t h a n c y l _ (hr.later bw)).mono ?_
  rintro e w5 ⟨rfl, hbn⟩
  have bw := bw.trans (hbn.mono bw.size)
  have hsn := hbn.size
  have S := S.later hbn S.lt
  have T := T.later hbn T.lt
  have C := C.later hbn (by omega)
  clear hbn
  by_cases hk : fault g t h l = 0
  case neg =>
    have hk3 : decide (0 < fault g t h l) = true := by have := fault_nonneg g t h l; simp; omega
    clear hk
    go_wp2
    go_ret
    exact ⟨rfl, bw⟩
  rw [hk]
  have HF : Hid (fault g t h l = 0) := hk
  clear hk
  obtain ⟨⟨c0, c1, c2, c3, c4⟩, _⟩ := S.cells
  obtain ⟨⟨b0, b1, b2, b3, b4⟩, _⟩ := T.cells
  obtain ⟨d0, d1, d2, d3, d4, d5, d6, d7, d8⟩ := C.cells
  go_wp2_with fail
  clear c0 c1 c2 c3 c4 b0 b1 b2 b3 b4 d0 d1 d2 d3 d4 d5 d6 d7 d8
  refine (stateFault_any g' t' h' a' n' c' y' l' _ (hr'.later bw)).mono ?_
  rintro e w6 ⟨rfl, hbn⟩
  have bw := bw.trans (hbn.mono bw.size)
  have hsn := hbn.size
  have S := S.later hbn S.lt
  have T := T.later hbn T.lt
  have C := C.later hbn (by omega)
  clear hbn
  by_cases hk : fault g' t' h' l' = 0
  case neg =>
    have hk3 : decide (0 < fault g' t' h' l') = true := by have := fault_nonneg g' t' h' l'; simp; omega
    clear hk
    go_wp2
    go_ret
    exact ⟨rfl, bw⟩
  rw [hk]
  have HF' : Hid (fault g' t' h' l' = 0) := hk
  clear hk
  obtain ⟨⟨c0, c1, c2, c3, c4⟩, _⟩ := S.cells
  obtain ⟨⟨b0, b1, b2, b3, b4⟩, _⟩ := T.cells
  obtain ⟨d0, d1, d2, d3, d4, d5, d6, d7, d8⟩ := C.cells
  go_wp2_with fail
  clear c0 c1 c2 c3 c4 b0 b1 b2 b3 b4 d0 d1 d2 d3 d4 d5 d6 d7 d8
  refine (K.fault_any op who key new kind at' st da wa hd hw _).mono ?_
  rintro e w7 ⟨rfl, hbn⟩
  have bw := bw.trans (hbn.mono bw.size)
  have hsn := hbn.size
  have S := S.later hbn S.lt
  have T := T.later hbn T.lt
  have C := C.later hbn (by omega)
  clear hbn
  by_cases hk : K.cmdF op who key new kind at' st da wa = 0
  case neg =>
    have hk3 : decide (0 < K.cmdF op who key new kind at' st da wa) = true := by have := cmdF_nonneg op who key new kind at' st da wa; simp; omega
    clear hk
    go_wp2
    go_ret
    exact ⟨rfl, bw⟩
  rw [hk]
  have HC : Hid (CmdOk op who key new kind) := cmd_ok hk
  clear hk
  have hn9 : n ≤ 900 := by have := H6.out; omega
  obtain ⟨⟨c0, c1, c2, c3, c4⟩, _⟩ := S.cells
  obtain ⟨⟨b0, b1, b2, b3, b4⟩, _⟩ := T.cells
  obtain ⟨d0, d1, d2, d3, d4, d5, d6, d7, d8⟩ := C.cells
  go_wp2_with fail
  clear c0 c1 c2 c3 c4 b0 b1 b2 b3 b4 d0 d1 d2 d3 d4 d5 d6 d7 d8
  refine (do_any g t h a n c y l op who key new kind at' st da wa _ (hr.later bw) hn9 (fault_g HF.out)).mono ?_
  rintro e w8 ⟨⟨a2, n2, k2, a3, n3, k3, rfl, hrx, hry, _, _⟩, hbn⟩
  have bw := bw.trans (hbn.mono bw.size)
  have hsn := hbn.size
  have S := S.later hbn S.lt
  have T := T.later hbn T.lt
  have C := C.later hbn (by omega)
  clear hbn
  obtain ⟨oo, hoo⟩ : ∃ oo, oo = doF g t h y l op who key new kind st := ⟨_, rfl⟩
  rw [← hoo] at hrx hry ⊢
  have HOO : Hid (oo = doF g t h y l op who key new kind st) := hoo
  have HOF : Hid (0 ≤ oo.f) := by show 0 ≤ _; rw [hoo]; exact do_f _ _ _ _ _ _ _ _ _ _ _
  clear hoo
  obtain ⟨V, hV⟩ : ∃ V, V = w8.alloc (.cells #[.int .i64 oo.g, .slice a2 n2 k2, .int .i64 oo.t, .int .i64 oo.h, .bool oo.y] 24) := ⟨_, rfl⟩
  have P : StB V w8.heap.size oo.g a2 n2 k2 oo.t oo.h oo.y := by rw [hV]; exact heap_alloc_new w8 _
  have hbn : Below w8.heap.size w8 V := by rw [hV]; exact (Below.refl _ _).alloc (Nat.le_refl _) _
  have hrx := hrx.later hbn
  have hry := hry.later hbn
  go_upto_region 5 with fail
  rw [← hV]
  clear hV
  have bw := bw.trans (hbn.mono bw.size)
  have hsn := hbn.size
  have S := S.later hbn S.lt
  have T := T.later hbn T.lt
  have C := C.later hbn (by omega)
  clear hbn
  obtain ⟨⟨c0, c1, c2, c3, c4⟩, _⟩ := S.cells
  obtain ⟨⟨b0, b1, b2, b3, b4⟩, _⟩ := T.cells
  obtain ⟨d0, d1, d2, d3, d4, d5, d6, d7, d8⟩ := C.cells
  go_wp2_with fail
  clear c0 c1 c2 c3 c4 b0 b1 b2 b3 b4 d0 d1 d2 d3 d4 d5 d6 d7 d8
  refine (rordered_any g t h a n c y l op who key new kind at' st da wa _ (hr.later bw) hn9 HF.out HC.out).mono ?_
  rintro e w9 ⟨⟨a4, n4, k4, a5, n5, k5, rfl, hrz, hrw⟩, hbn⟩
  rw [← HOO.out] at hrz hrw ⊢
  have hrx := hrx.later hbn
  have hry := hry.later hbn
  have P := P.later hbn P.lt
  have bw := bw.trans (hbn.mono bw.size)
  have hsn := hbn.size
  have S := S.later hbn S.lt
  have T := T.later hbn T.lt
  have C := C.later hbn (by omega)
  clear hbn
  obtain ⟨V2, hV⟩ : ∃ V, V = w9.alloc (.cells #[.int .i64 oo.g, .slice a4 n4 k4, .int .i64 oo.t, .int .i64 oo.h, .bool oo.y] 24) := ⟨_, rfl⟩
  have Q : StB V2 w9.heap.size oo.g a4 n4 k4 oo.t oo.h oo.y := by rw [hV]; exact heap_alloc_new w9 _
  have hbn : Below w9.heap.size w9 V2 := by rw [hV]; exact (Below.refl _ _).alloc (Nat.le_refl _) _
  go_upto_region 6 with fail
  rw [← hV]
  clear hV
  have hrx := hrx.later hbn
  have hry := hry.later hbn
  have hrz := hrz.later hbn
  have hrw := hrw.later hbn
  have P := P.later hbn P.lt
  have bw := bw.trans (hbn.mono bw.size)
  have hsn := hbn.size
  have S := S.later hbn S.lt
  have T := T.later hbn T.lt
  have C := C.later hbn (by omega)
  clear hbn
  obtain ⟨bb, hbb⟩ : ∃ bb, bb = decide (LessP t h l t' h' l') := ⟨_, rfl⟩
  have hbr : decide (RLessP t h l t' h' l') = bb := by rw [hbb]; exact (decide_eq_decide.2 (less_iff HF.out HF'.out)).symm
  have HBB : Hid (decide (LessP t h l t' h' l') = bb) := hbb.symm
  have HBR : Hid (decide (RLessP t h l t' h' l') = bb) := hbr
  clear hbb hbr
  obtain ⟨⟨c0, c1, c2, c3, c4⟩, _⟩ := S.cells
  obtain ⟨⟨b0, b1, b2, b3, b4⟩, _⟩ := T.cells
  obtain ⟨d0, d1, d2, d3, d4, d5, d6, d7, d8⟩ := C.cells
  obtain ⟨⟨e0, e1, e2, e3, e4⟩, _⟩ := P.cells
  obtain ⟨⟨f0, f1, f2, f3, f4⟩, _⟩ := Q.cells
  have q0 : ∀ p : LW V2, p.val.cell? ⟨w.heap.size, 0, Option.none⟩ = some (.int .i64 g) := fun p => cell_later p.ok c0
  have q1 : ∀ p : LW V2, p.val.cell? ⟨w.heap.size, 1, Option.none⟩ = some (.slice a n c) := fun p => cell_later p.ok c1
  have q2 : ∀ p : LW V2, p.val.cell? ⟨w.heap.size, 2, Option.none⟩ = some (.int .i64 t) := fun p => cell_later p.ok c2
  have q3 : ∀ p : LW V2, p.val.cell? ⟨w.heap.size, 3, Option.none⟩ = some (.int .i64 h) := fun p => cell_later p.ok c3
  have q4 : ∀ p : LW V2, p.val.cell? ⟨w.heap.size, 4, Option.none⟩ = some (.bool y) := fun p => cell_later p.ok c4
  have q5 : ∀ p : LW V2, p.val.cell? ⟨w.heap.size + 1, 0, Option.none⟩ = some (.int .i64 g') := fun p => cell_later p.ok b0
  have q6 : ∀ p : LW V2, p.val.cell? ⟨w.heap.size + 1, 1, Option.none⟩ = some (.slice a' n' c') := fun p => cell_later p.ok b1
  have q7 : ∀ p : LW V2, p.val.cell? ⟨w.heap.size + 1, 2, Option.none⟩ = some (.int .i64 t') := fun p => cell_later p.ok b2
  have q8 : ∀ p : LW V2, p.val.cell? ⟨w.heap.size + 1, 3, Option.none⟩ = some (.int .i64 h') := fun p => cell_later p.ok b3
  have q9 : ∀ p : LW V2, p.val.cell? ⟨w.heap.size + 1, 4, Option.none⟩ = some (.bool y') := fun p => cell_later p.ok b4
  have q10 : ∀ p : LW V2, p.val.cell? ⟨w8.heap.size, 0, Option.none⟩ = some (.int .i64 oo.g) := fun p => cell_later p.ok e0
  have q11 : ∀ p : LW V2, p.val.cell? ⟨w8.heap.size, 1, Option.none⟩ = some (.slice a2 n2 k2) := fun p => cell_later p.ok e1
  have q12 : ∀ p : LW V2, p.val.cell? ⟨w8.heap.size, 2, Option.none⟩ = some (.int .i64 oo.t) := fun p => cell_later p.ok e2
  have q13 : ∀ p : LW V2, p.val.cell? ⟨w8.heap.size, 3, Option.none⟩ = some (.int .i64 oo.h) := fun p => cell_later p.ok e3
  have q14 : ∀ p : LW V2, p.val.cell? ⟨w8.heap.size, 4, Option.none⟩ = some (.bool oo.y) := fun p => cell_later p.ok e4
  have q15 : ∀ p : LW V2, p.val.cell? ⟨w9.heap.size, 0, Option.none⟩ = some (.int .i64 oo.g) := fun p => cell_later p.ok f0
  have q16 : ∀ p : LW V2, p.val.cell? ⟨w9.heap.size, 1, Option.none⟩ = some (.slice a4 n4 k4) := fun p => cell_later p.ok f1
  have q17 : ∀ p : LW V2, p.val.cell? ⟨w9.heap.size, 2, Option.none⟩ = some (.int .i64 oo.t) := fun p => cell_later p.ok f2
  have q18 : ∀ p : LW V2, p.val.cell? ⟨w9.heap.size, 3, Option.none⟩ = some (.int .i64 oo.h) := fun p => cell_later p.ok f3
  have q19 : ∀ p : LW V2, p.val.cell? ⟨w9.heap.size, 4, Option.none⟩ = some (.bool oo.y) := fun p => cell_later p.ok f4
  have hinh : Nonempty (LW V2) := ⟨⟨V2, Below.refl _ _⟩⟩
  have C1 : Hid (∀ p : LW V2, Calls Try.prog 15 #[errV oo.f, .int .i64 oo.f] p.val fun e w'' => e = .returned (.bool true) ∧ ∃ q : LW V2, w'' = q.val) := fun p => Calls.eq_lw (same_any oo.f HOF.out p.val)
  have C2 : Hid (∀ p : LW V2, Calls Try.prog 16 #[stV oo.g a2 n2 k2 oo.t oo.h oo.y, stV oo.g a4 n4 k4 oo.t oo.h oo.y] p.val fun e w'' => e = .returned (.bool true) ∧ ∃ q : LW V2, w'' = q.val) := fun p => Calls.quiet_lw (sameState_any oo.g oo.t oo.h a2 a4 n2 n4 k2 k4 oo.y oo.l p.val (hrx.later p.ok) (hrz.later p.ok))
  have C3 : Hid (∀ p : LW V2, Calls Try.prog 17 #[.slice a3 n3 k3, .slice a5 n5 k5] p.val fun e w'' => e = .returned (.bool true) ∧ ∃ q : LW V2, w'' = q.val) := fun p => Calls.quiet_lw (sameTells_any a3 a5 n3 n5 k3 k5 oo.tl p.val (hry.later p.ok) (hrw.later p.ok))
  have C4 : Hid (∀ p : LW V2, Calls Try.prog 18 #[stV g a n c t h y, stV g' a' n' c' t' h' y', .func (.func 19) #[] #[]] p.val fun e w'' => e = .returned (.bool bb) ∧ ∃ q : LW V2, w'' = q.val) := fun p => by
    have := less_any g t h a n c y l g' t' h' a' n' c' y' l' p.val (hr.later (bw.trans (p.ok.mono bw.size))) (hr'.later (bw.trans (p.ok.mono bw.size)))
    rw [HBB.out] at this
    exact Calls.quiet_lw this
  have C5 : Hid (∀ p : LW V2, Calls Try.prog 20 #[stV g a n c t h y, stV g' a' n' c' t' h' y'] p.val fun e w'' => e = .returned (.bool bb) ∧ ∃ q : LW V2, w'' = q.val) := fun p => by
    have := lessened_any g t h a n c y l g' t' h' a' n' c' y' l' p.val (hr.later (bw.trans (p.ok.mono bw.size))) (hr'.later (bw.trans (p.ok.mono bw.size)))
    rw [HBR.out] at this
    exact Calls.quiet_lw this
  clear c0 c1 c2 c3 c4 b0 b1 b2 b3 b4 d0 d1 d2 d3 d4 d5 d6 d7 d8 e0 e1 e2 e3 e4 f0 f1 f2 f3 f4 S T C P Q hrx hry hrz hrw HBB HBR
  have hbeq : (bb == bb) = true := by simp
  refine wp_region_lw (by kernel_rfl) (by kernel_rfl) ?_
  repeat (go_big_quiet_step ((first | (go_at_call 15; exact C1.out _) | (go_at_call 16; exact C2.out _) | (go_at_call 17; exact C3.out _) | (go_at_call 18; exact C4.out _) | (go_at_call 20; exact C5.out _))))
  refine wpQuiet_nil ?_
  rintro w10 ⟨⟨_, hbq⟩, rfl⟩
  go_wp2
  go_ret
  exact ⟨ret_bool (by simp), bw.trans (hbq.mono bw.size)⟩

set_option maxRecDepth 100000 in
theorem orderSays_lifted (os : Os) (started : os.Started) (H : Type) (enc : TypeId × Value → H) :
    ReturnsInHanded {} Try.checked os 3 .any (Rows.orderSaysSpec.pre6 enc Try.prog Try.f3 Rows.orderSaysRow.domain false) (Rows.orderSaysSpec.post enc Try.prog Try.f3 false true false false) := by
  refine returnsInHanded_of_change (C := Try.checked) own started (by kernel_rfl) Try.func3
    (ChangeSpec.witness6 (enc := enc) (C := Try.checked) false ⟨#[], #[stV 0 Option.none 0 0 0 0 false, stV 0 Option.none 0 0 0 0 false, cmV 0 0 0 0 0 0 false ⟨#[]⟩ ⟨#[]⟩], []⟩ 8 (by kernel_rfl) (by kernel_rfl) (by kernel_rfl) (by kernel_rfl)) ?_
  intro W base args ds gs before hval0 hW hcnd _
  have hval : ∀ (j : Nat) t v, Try.f3.params[j]? = some t → args[j]? = some v → Value.okWide Try.prog W .any base t v := hval0
  have hW' := hW
  obtain ⟨p, q, hA0, hV, rfl, hfz, hnd⟩ := hW
  have hA : DataW.TrodAll enc Try.prog W 0 (fun _ => true) true Try.f3.params.toList args.toList ds p := hA0
  rw [Try.params3] at hA hval
  obtain ⟨v0, v1, v2, d0, d1, d2, p0, p1, p2, rfl, rfl, rfl, h0, h1, h2⟩ := trodAll_three hA
  obtain ⟨rfl, rfl⟩ := trodVars_none hV
  have k0 := h0
  have k1 := h1
  have k2 := h2
  have lt0 : ∀ x ∈ p0, x.block < W.heap.size := by obtain ⟨m, hm⟩ := k0; exact DataW.trod_lt m _ _ _ hm
  have lt1 : ∀ x ∈ p1, x.block < W.heap.size := by obtain ⟨m, hm⟩ := k1; exact DataW.trod_lt m _ _ _ hm
  have lt2 : ∀ x ∈ p2, x.block < W.heap.size := by obtain ⟨m, hm⟩ := k2; exact DataW.trod_lt m _ _ _ hm
  obtain ⟨g0, a0, n0, c0, t0, hd0, y0, l0, rfl, row0⟩ := open_state (hval 0 24 v0 rfl rfl) h0
  obtain ⟨g1, a1, n1, c1, t1, hd1, y1, l1, rfl, row1⟩ := open_state (hval 1 24 v1 rfl rfl) h1
  obtain ⟨op, who, key, new, kind, at', st, da, wa, rfl, _, hd, hw⟩ := open_command (hval 2 26 v2 rfl rfl) h2
  clear hA0 hval0
  refine (orderSays_walk g0 t0 hd0 a0 n0 c0 y0 l0 g1 t1 hd1 a1 n1 c1 y1 l1 op who key new kind at' st da wa W row0 row1 hd hw).mono fun e W' ⟨he, bel⟩ => ?_
  subst he
  exact ⟨_, rfl, _, _, _, [], _, [], hW', trodAll_mk1 (shut_bool Try.underlying4 _), (trodAll_cons_mk (Below.trod laidOut (by kernel_rfl) (of_decide_eq_true (by kernel_rfl)) k0 bel lt0) (trodAll_cons_mk (Below.trod laidOut (by kernel_rfl) (of_decide_eq_true (by kernel_rfl)) k1 bel lt1) (trodAll_cons_mk (Below.trod laidOut (by kernel_rfl) (of_decide_eq_true (by kernel_rfl)) k2 bel lt2) trodAll_mk0))), rfl, bel.frame _, fun h => by cases h⟩

theorem orderSays_holds : Rows.OrderSaysSaid :=
  OpenClaim.holds_of_wide 3 Try.f3 rfl rfl rfl rfl rfl rfl rfl ⟨rfl, rfl, rfl, rfl, rfl⟩ rfl rfl rfl rfl rfl (by kernel_rfl) Try.func3 (by kernel_rfl)
    (of_decide_eq_true (by kernel_rfl)) (by unfold Func.isWrapper; first | (rw [if_pos (by decide +kernel)]; kernel_rfl) | (rw [if_neg (by decide +kernel)]; exact ⟨rfl, rfl⟩))
    (fun os started H enc _ => orderSays_lifted os started H enc)
#print axioms orderSays_holds
end Go.Proofs.Ytokjacbipmfjkaa
