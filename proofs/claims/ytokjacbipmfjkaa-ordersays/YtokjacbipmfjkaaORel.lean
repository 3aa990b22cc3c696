/- What order.release answers, for every state and command. No statement of the seat is proved here. -/
import Derived.Test.YtokjacbipmfjkaaOOut
import Derived.Deep.RegionHeld3
import Derived.Deep.DeepCutAuto
namespace Go.Proofs.Ytokjacbipmfjkaa
open Go.ChangeShapes Go.WideShapes Go.ChangeAt Go.RowKit Go.Deep

set_option maxHeartbeats 4000000 in
theorem release_any (g t h : Int) (a : Option Addr) (n c : Nat) (y : Bool) (l : List (Int × Int)) (op who key new kind at' : Int) (st : Bool) (da wa : ByteArray) (w : World) (hr : Row w a n l) (hn : n ≤ 1000) :
    Calls Try.prog 33 #[stV g a n c t h y, cmV op who key new kind at' st da wa] w fun e w' => OutIs (releaseF g t h y l who key kind) w.heap.size a n e w' ∧ Below w.heap.size w w' := by
  obtain ⟨X, hX, bX, sX, S0, C0, R0⟩ := laidThree w g a n c t h y op who key new kind at' st da wa
  obtain ⟨⟨c0, c1, c2, c3, c4⟩, _⟩ := S0.cells
  obtain ⟨d0, d1, d2, d3, d4, d5, d6, d7, d8⟩ := C0.cells
  go_enter Try.func33, Try.ntmps33
  go_wp2_with fail
  rw [← hX]
  clear hX c0 c1 c2 c3 c4 d0 d1 d2 d3 d4 d5 d6 d7 d8
  refine (proven_any g t h a n c y l op who key new kind at' st da wa X (hr.later bX)).mono ?_
  rintro e w1 ⟨rfl, hb1⟩
  have bw := bX.trans (hb1.mono bX.size)
  have hs1 := hb1.size
  have S := S0.later hb1 (by omega)
  have C := C0.later hb1 (by omega)
  have R := R0.later hb1 (by omega)
  clear S0 C0 R0 hb1 bX
  cases hP : provenB l who key with
  | false =>
    have HS : Hid (releaseF g t h y l who key kind = refused 4) := by show _ = _; unfold releaseF; rw [if_pos hP]
    clear hP S C
    go_wp2_with fail
    refine (refuse_any 4 w1).mono ?_
    rintro e wz ⟨rfl, hbz⟩
    have Rz := R.later hbz (by omega)
    have bz := bw.trans (hbz.mono bw.size)
    clear R bw
    obtain ⟨⟨e0, e1, e2, e3, e4⟩, ⟨q0, q1, q2, q3, q4⟩⟩ := Rz.cells
    go_wp2
    obtain ⟨Z, hZ, z0, z1, z2, z3, z4⟩ := Z5.cells (X := wz) (v0 := .int .i64 0) (v1 := .slice Option.none 0 0) (v2 := .int .i64 0) (v3 := .int .i64 0) (v4 := .bool false) Rz
    have bZ : Below w.heap.size w Z := by rw [hZ]; exact Z5.below bz (by omega)
    unfold Z5 at hZ
    rw [← hZ]
    clear hZ
    exact bodyPost_ret (v := .tuple #[.agg #[.int .i64 0, .slice Option.none 0 0, .int .i64 0, .int .i64 0, .bool false], .slice Option.none 0 0, .iface 57 (.int .i64 4)]) (by simp [results, Try.results33, go_sem, z0, z1, z2, z3, z4]) rfl (And.intro (by rw [HS.out]; exact ⟨_, _, _, _, _, _, rfl, row_nil _, row_nil _, newOr_nil, newOr_nil⟩) bZ)
  | true =>
    have HP : Hid (¬ provenB l who key = false) := by show ¬ _; rw [hP]; decide
    clear hP
    obtain ⟨⟨c0, c1, c2, c3, c4⟩, _⟩ := S.cells
    obtain ⟨d0, d1, d2, d3, d4, d5, d6, d7, d8⟩ := C.cells
    go_wp2_with fail
    clear c0 c1 c2 c3 c4 d0 d1 d2 d3 d4 d5 d6 d7 d8
    refine (holds_any g t h a n c y l who w1 (hr.later bw)).mono ?_
    rintro e w2 ⟨rfl, hbn⟩
    have bw := bw.trans (hbn.mono bw.size)
    have hsn := hbn.size
    have S := S.later hbn (by omega)
    have C := C.later hbn (by omega)
    have R := R.later hbn (by omega)
    clear hbn
    cases hH : holdsB t h l who with
    | false =>
      have HS : Hid (releaseF g t h y l who key kind = ⟨g, l, t, h, y, [], 0⟩) := by show _ = _; unfold releaseF; rw [if_neg HP.out, if_pos hH]
      clear hH
      obtain ⟨⟨c0, c1, c2, c3, c4⟩, _⟩ := S.cells
      obtain ⟨d0, d1, d2, d3, d4, d5, d6, d7, d8⟩ := C.cells
      obtain ⟨⟨e0, e1, e2, e3, e4⟩, ⟨q0, q1, q2, q3, q4⟩⟩ := R.cells
      have HR : Hid (Row w a n l) := hr
      go_wp2
      obtain ⟨Z, hZ, z0, z1, z2, z3, z4⟩ := Z5.cells (X := w2) (v0 := .int .i64 g) (v1 := .slice a n c) (v2 := .int .i64 t) (v3 := .int .i64 h) (v4 := .bool y) R
      have bZ : Below w.heap.size w Z := by rw [hZ]; exact Z5.below bw (by omega)
      unfold Z5 at hZ
      rw [← hZ]
      clear hZ
      exact bodyPost_ret (v := .tuple #[.agg #[.int .i64 g, .slice a n c, .int .i64 t, .int .i64 h, .bool y], .slice Option.none 0 0, .nilIface]) (by simp [results, Try.results33, go_sem, z0, z1, z2, z3, z4]) rfl (And.intro (by rw [HS.out]; exact ⟨a, n, c, _, _, _, rfl, HR.out.later bZ, row_nil _, newOr_same, newOr_nil⟩) bZ)
    | true =>
      have HH : Hid (¬ holdsB t h l who = false) := by show ¬ _; rw [hH]; decide
      clear hH
      by_cases hk : t = kind
      · have hk' : (t != kind) = false := by simpa using hk
        by_cases h13 : t = 1 ∨ t = 3
        · have HS : Hid (releaseF g t h y l who key kind = ⟨g, l, 0, 0, y, [], 0⟩) := by show _ = _; unfold releaseF; rw [if_neg HP.out, if_neg HH.out, if_neg (fun e => e hk), if_pos h13]
          have HQ : ((t == 1) = true) ∨ ((t == 1) = false ∧ (t == 3) = true) := by rcases h13 with e | e <;> simp [e]
          clear hk h13
          rcases HQ with k1 | ⟨k1, k3⟩
          all_goals
            obtain ⟨⟨c0, c1, c2, c3, c4⟩, _⟩ := S.cells
            obtain ⟨d0, d1, d2, d3, d4, d5, d6, d7, d8⟩ := C.cells
            go_wp2_with fail
            clear c0 c1 c2 c3 c4 d0 d1 d2 d3 d4 d5 d6 d7 d8
            refine (freed_any g t h a n c y w2).mono ?_
            rintro e w3 ⟨rfl, hb3⟩
            have bw3 := bw.trans (hb3.mono bw.size)
            have R3 := R.later hb3 (by omega)
            clear S C R
            obtain ⟨⟨e0, e1, e2, e3, e4⟩, ⟨q0, q1, q2, q3, q4⟩⟩ := R3.cells
            have HR : Hid (Row w a n l) := hr
            go_wp2
            obtain ⟨Z, hZ, z0, z1, z2, z3, z4⟩ := Z5.cells (X := w3) (v0 := .int .i64 g) (v1 := .slice a n c) (v2 := .int .i64 0) (v3 := .int .i64 0) (v4 := .bool y) R3
            have bZ : Below w.heap.size w Z := by rw [hZ]; exact Z5.below bw3 (by omega)
            unfold Z5 at hZ
            rw [← hZ]
            clear hZ
            exact bodyPost_ret (v := .tuple #[.agg #[.int .i64 g, .slice a n c, .int .i64 0, .int .i64 0, .bool y], .slice Option.none 0 0, .nilIface]) (by simp [results, Try.results33, go_sem, z0, z1, z2, z3, z4]) rfl (And.intro (by rw [HS.out]; exact ⟨a, n, c, _, _, _, rfl, HR.out.later bZ, row_nil _, newOr_same, newOr_nil⟩) bZ)
        · have HS : Hid (releaseF g t h y l who key kind = ⟨g, l, 0, 0, y, tellL (othersL l who) 2, 0⟩) := by show _ = _; unfold releaseF; rw [if_neg HP.out, if_neg HH.out, if_neg (fun e => e hk), if_neg h13]
          have k1 : (t == 1) = false := by rw [beq_eq_false_iff_ne]; exact fun e => h13 (.inl e)
          have k3 : (t == 3) = false := by rw [beq_eq_false_iff_ne]; exact fun e => h13 (.inr e)
          clear hk h13
          have hlo : (othersL l who).length ≤ 1000 := by have := others_len l who l.length; rw [List.take_length] at this; have := hr.1; omega
          have hs2 : w.heap.size + 3 ≤ w2.heap.size := by omega
          obtain ⟨⟨c0, c1, c2, c3, c4⟩, _⟩ := S.cells
          obtain ⟨d0, d1, d2, d3, d4, d5, d6, d7, d8⟩ := C.cells
          obtain ⟨⟨e0, e1, e2, e3, e4⟩, ⟨q0, q1, q2, q3, q4⟩⟩ := R.cells
          have HR : Hid (Row w a n l) := hr
          go_upto_region 9 with fail
          clear S C
          go_region_held3 (fun w' => w'.cell? ⟨w.heap.size, 0, Option.none⟩ = some (.int .i64 g) ∧ w'.cell? ⟨w.heap.size, 1, Option.none⟩ = some (.slice a n c) ∧ w'.cell? ⟨w.heap.size, 2, Option.none⟩ = some (.int .i64 t) ∧ w'.cell? ⟨w.heap.size, 3, Option.none⟩ = some (.int .i64 h) ∧ w'.cell? ⟨w.heap.size, 4, Option.none⟩ = some (.bool y) ∧ w'.cell? ⟨w.heap.size + 1, 1, Option.none⟩ = some (.int .i64 who) ∧ Below (w.heap.size + 2) w2 w' ∧ w.heap.size + 3 ≤ w'.heap.size)
            ((first | with_reducible exact startS ⟨c0, c1, c2, c3, c4, d1, hs2⟩ | with_reducible exact keepS (by assumption) (by assumption) | with_reducible exact keepZ (by assumption)))
            (first
              | (go_at_call 48; with_reducible refine (freed_any g t h a n c y _).mono ?_; rintro e wf ⟨rfl, hbf⟩; (first | with_reducible have Rf := StB.dl R hbf | with_reducible have Rf := StB.nl Ro hbf | with_reducible have Rf := StB.nl Rf hbf | with_reducible have Rf := StB.nl Rt hbf); obtain ⟨⟨e0, e1, e2, e3, e4⟩, ⟨q0, q1, q2, q3, q4⟩⟩ := Rf.cells)
              | (go_at_call 50; with_reducible refine (others_any g t h a n c y l who _ (rowS HR.out bw (by assumption)) (by omega)).mono ?_; rintro e wo ⟨ao, no, co, rfl, hno, hbo⟩; have hnb := nums_le hno hlo; (first | with_reducible have Ro := StB.dl R hbo | with_reducible have Ro := StB.nl Ro hbo | with_reducible have Ro := StB.nl Rf hbo | with_reducible have Ro := StB.nl Rt hbo); obtain ⟨⟨e0, e1, e2, e3, e4⟩, ⟨q0, q1, q2, q3, q4⟩⟩ := Ro.cells)
              | (go_at_call 49; with_reducible refine (tells_any ao no co (othersL l who) 2 _ (by first | with_reducible exact hno | with_reducible exact hno.later hbf) hnb).mono ?_; rintro e wt ⟨at2, nt, ct, rfl, hrt, hbt, hft⟩; (first | with_reducible have Rt := StB.dl R hbt | with_reducible have Rt := StB.nl Ro hbt | with_reducible have Rt := StB.nl Rf hbt | with_reducible have Rt := StB.nl Rt hbt); obtain ⟨⟨e0, e1, e2, e3, e4⟩, ⟨q0, q1, q2, q3, q4⟩⟩ := Rt.cells))
          all_goals
            have hft3 : Far (w.heap.size + 3) at2 := hft.mono (by first | (have := Ro.lt; omega) | (have := Rf.lt; omega))
            have HT : Hid (Row wt at2 nt (tellL (othersL l who) 2)) := hrt
            have HF3 : Hid (Far (w.heap.size + 3) at2) := hft3
            clear hft hft3 hrt hno
            go_wp2
            first
              | (obtain ⟨Z, hZ, z0, z1, z2, z3, z4⟩ := Z5.cells (X := wt) (v0 := .int .i64 g) (v1 := .slice a n c) (v2 := .int .i64 0) (v3 := .int .i64 0) (v4 := .bool y) Rt
                 have hrt : Row Z at2 nt (tellL (othersL l who) 2) := by rw [hZ]; exact HT.out.z5 HF3.out (by omega)
                 unfold Z5 at hZ
                 have bZ : Below w.heap.size w Z := by rw [hZ]; exact bw.trans (Below.mono (belowS (by with_reducible assumption)) (by omega))
                 rw [← hZ]
                 clear hZ
                 exact bodyPost_ret (v := .tuple #[.agg #[.int .i64 g, .slice a n c, .int .i64 0, .int .i64 0, .bool y], .slice at2 nt ct, .nilIface]) (by simp [results, Try.results33, go_sem, z0, z1, z2, z3, z4]) rfl (And.intro (by rw [HS.out]; exact ⟨a, n, c, at2, nt, ct, rfl, HR.out.later bZ, hrt, newOr_same, newOr_far HF3.out (by omega)⟩) bZ))
              | (obtain ⟨Z, hZ, z0, z1, z2, z3, z4⟩ := Z5.cells (X := wf) (v0 := .int .i64 g) (v1 := .slice a n c) (v2 := .int .i64 0) (v3 := .int .i64 0) (v4 := .bool y) Rf
                 have hrt : Row Z at2 nt (tellL (othersL l who) 2) := by rw [hZ]; exact (HT.out.later (by with_reducible assumption)).z5 HF3.out (by omega)
                 unfold Z5 at hZ
                 have bZ : Below w.heap.size w Z := by rw [hZ]; exact bw.trans (Below.mono (belowS (by with_reducible assumption)) (by omega))
                 rw [← hZ]
                 clear hZ
                 exact bodyPost_ret (v := .tuple #[.agg #[.int .i64 g, .slice a n c, .int .i64 0, .int .i64 0, .bool y], .slice at2 nt ct, .nilIface]) (by simp [results, Try.results33, go_sem, z0, z1, z2, z3, z4]) rfl (And.intro (by rw [HS.out]; exact ⟨a, n, c, at2, nt, ct, rfl, HR.out.later bZ, hrt, newOr_same, newOr_far HF3.out (by omega)⟩) bZ))
      · have HS : Hid (releaseF g t h y l who key kind = refused 5) := by show _ = _; unfold releaseF; rw [if_neg HP.out, if_neg HH.out, if_pos hk]
        have hk' : (t != kind) = true := by simpa using hk
        clear hk
        obtain ⟨⟨c0, c1, c2, c3, c4⟩, _⟩ := S.cells
        obtain ⟨d0, d1, d2, d3, d4, d5, d6, d7, d8⟩ := C.cells
        go_wp2_with fail
        clear c0 c1 c2 c3 c4 d0 d1 d2 d3 d4 d5 d6 d7 d8
        refine (refuse_any 5 w2).mono ?_
        rintro e wz ⟨rfl, hbz⟩
        have Rz := R.later hbz (by omega)
        have bz := bw.trans (hbz.mono bw.size)
        clear R bw
        obtain ⟨⟨e0, e1, e2, e3, e4⟩, ⟨q0, q1, q2, q3, q4⟩⟩ := Rz.cells
        go_wp2
        obtain ⟨Z, hZ, z0, z1, z2, z3, z4⟩ := Z5.cells (X := wz) (v0 := .int .i64 0) (v1 := .slice Option.none 0 0) (v2 := .int .i64 0) (v3 := .int .i64 0) (v4 := .bool false) Rz
        have bZ : Below w.heap.size w Z := by rw [hZ]; exact Z5.below bz (by omega)
        unfold Z5 at hZ
        rw [← hZ]
        clear hZ
        exact bodyPost_ret (v := .tuple #[.agg #[.int .i64 0, .slice Option.none 0 0, .int .i64 0, .int .i64 0, .bool false], .slice Option.none 0 0, .iface 57 (.int .i64 5)]) (by simp [results, Try.results33, go_sem, z0, z1, z2, z3, z4]) rfl (And.intro (by rw [HS.out]; exact ⟨_, _, _, _, _, _, rfl, row_nil _, row_nil _, newOr_nil, newOr_nil⟩) bZ)
end Go.Proofs.Ytokjacbipmfjkaa
