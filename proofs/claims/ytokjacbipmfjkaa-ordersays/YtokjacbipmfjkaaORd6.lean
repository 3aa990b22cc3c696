/- What the document's own Ordered answers: to who puts others out. No statement of the seat is proved here. -/
import Derived.Test.YtokjacbipmfjkaaORd6a
namespace Go.Proofs.Ytokjacbipmfjkaa
open Go.ChangeShapes Go.WideShapes Go.ChangeAt Go.RowKit Go.Deep

set_option maxRecDepth 100000 in
set_option maxHeartbeats 8000000 in
theorem rord_6 (g t h : Int) (a : Option Addr) (n c : Nat) (y : Bool) (l : List (Int × Int)) (who key new kind at' : Int) (st : Bool) (da wa : ByteArray) (w : World) (hr : Row w a n l) (hn : n ≤ 900) (hf : fault g t h l = 0) (hc : CmdOk 6 who key new kind) :
    Calls Try.prog 14 #[stV g a n c t h y, cmV 6 who key new kind at' st da wa] w fun e w' => ROut (doF g t h y l 6 who key new kind st) e w' ∧ Below w.heap.size w w' := by
  obtain ⟨X, hX, bX, sX, S0, C0, R0⟩ := laidThree w g a n c t h y 6 who key new kind at' st da wa
  obtain ⟨⟨c0, c1, c2, c3, c4⟩, _⟩ := S0.cells
  obtain ⟨d0, d1, d2, d3, d4, d5, d6, d7, d8⟩ := C0.cells
  obtain ⟨hrf, htf⟩ := fault_rf hf
  have hg := fault_g hf
  go_enter Try.func14, Try.ntmps14
  go_wp2_with fail
  rw [← hX]
  clear hX c0 c1 c2 c3 c4 d0 d1 d2 d3 d4 d5 d6 d7 d8
  refine (keyOf_any g t h a n c y l who X (hr.later bX)).mono ?_
  rintro e w1 ⟨rfl, hbn⟩
  have bw := bX.trans (hbn.mono bX.size)
  have hsn := hbn.size
  have S := S0.later hbn (by omega)
  have C := C0.later hbn (by omega)
  have R := R0.later hbn (by omega)
  clear S0 C0 R0 hbn bX
  obtain ⟨⟨c0, c1, c2, c3, c4⟩, _⟩ := S.cells
  obtain ⟨d0, d1, d2, d3, d4, d5, d6, d7, d8⟩ := C.cells
  go_wp2_with fail
  clear c0 c1 c2 c3 c4 d0 d1 d2 d3 d4 d5 d6 d7 d8
  refine (rholds_any g t h a n c y l who w1 (hr.later bw)).mono ?_
  rintro e w2 ⟨rfl, hbn⟩
  rw [← holds_same hf]
  have bw := bw.trans (hbn.mono bw.size)
  have hsn := hbn.size
  have S := S.later hbn S.lt
  have C := C.later hbn (by omega)
  have R := R.later hbn (by omega)
  clear hbn
  by_cases hP : key = 0
  · have hP' : (key == 0) = true := by simpa using hP
    have HS : Hid (doF g t h y l 6 who key new kind st = refused 4) := by show _ = _; unfold doF; rw [if_neg (by decide), if_neg (by decide), if_neg (by decide), if_neg (by decide), if_pos rfl]; unfold preemptF; rw [if_pos (by unfold provenB; simp [hP])]
    obtain ⟨⟨c0, c1, c2, c3, c4⟩, _⟩ := S.cells
    obtain ⟨d0, d1, d2, d3, d4, d5, d6, d7, d8⟩ := C.cells
    obtain ⟨⟨e0, e1, e2, e3, e4⟩, ⟨q0, q1, q2, q3, q4⟩⟩ := R.cells
    clear S C hP
    go_wp2
    obtain ⟨Z, hZ, z0, z1, z2, z3, z4⟩ := Z5.cells (X := w2) (v0 := .int .i64 0) (v1 := .slice Option.none 0 0) (v2 := .int .i64 0) (v3 := .int .i64 0) (v4 := .bool false) R
    have bZ : Below w.heap.size w Z := by rw [hZ]; exact Z5.below bw (by omega)
    unfold Z5 at hZ
    rw [← hZ]
    clear hZ
    exact bodyPost_ret (v := .tuple #[.agg #[.int .i64 0, .slice Option.none 0 0, .int .i64 0, .int .i64 0, .bool false], .slice Option.none 0 0, .int .i64 4]) (by simp [results, Try.results14, go_sem, z0, z1, z2, z3, z4]) rfl (And.intro (by rw [HS.out]; exact ⟨_, _, _, _, _, _, rfl, row_nil _, row_nil _⟩) bZ)
  have hP' : (key == 0) = false := by simpa using hP
  by_cases hQ : keyOf l who = key
  case neg =>
    have hQ' : (keyOf l who != key) = true := by simpa using hQ
    have HS : Hid (doF g t h y l 6 who key new kind st = refused 4) := by show _ = _; unfold doF; rw [if_neg (by decide), if_neg (by decide), if_neg (by decide), if_neg (by decide), if_pos rfl]; unfold preemptF; rw [if_pos (by unfold provenB; simp [hQ])]
    obtain ⟨⟨c0, c1, c2, c3, c4⟩, _⟩ := S.cells
    obtain ⟨d0, d1, d2, d3, d4, d5, d6, d7, d8⟩ := C.cells
    obtain ⟨⟨e0, e1, e2, e3, e4⟩, ⟨q0, q1, q2, q3, q4⟩⟩ := R.cells
    clear S C hQ hP
    go_wp2
    obtain ⟨Z, hZ, z0, z1, z2, z3, z4⟩ := Z5.cells (X := w2) (v0 := .int .i64 0) (v1 := .slice Option.none 0 0) (v2 := .int .i64 0) (v3 := .int .i64 0) (v4 := .bool false) R
    have bZ : Below w.heap.size w Z := by rw [hZ]; exact Z5.below bw (by omega)
    unfold Z5 at hZ
    rw [← hZ]
    clear hZ
    exact bodyPost_ret (v := .tuple #[.agg #[.int .i64 0, .slice Option.none 0 0, .int .i64 0, .int .i64 0, .bool false], .slice Option.none 0 0, .int .i64 4]) (by simp [results, Try.results14, go_sem, z0, z1, z2, z3, z4]) rfl (And.intro (by rw [HS.out]; exact ⟨_, _, _, _, _, _, rfl, row_nil _, row_nil _⟩) bZ)
  have hQ' : (keyOf l who != key) = false := by simpa using hQ
  have HP : Hid (provenB l who key = true) := by show _ = _; simp [provenB, hP, hQ]
  clear hP hQ
  obtain ⟨V, hV⟩ : ∃ V, V = w2.alloc (.cells #[.int .i64 g, .slice a n c, .int .i64 t, .int .i64 h, .bool y] 24) := ⟨_, rfl⟩
  have T : StB V w2.heap.size g a n c t h y := by rw [hV]; exact heap_alloc_new w2 _
  have hbn : Below w2.heap.size w2 V := by rw [hV]; exact (Below.refl _ _).alloc (Nat.le_refl _) _
  obtain ⟨⟨c0, c1, c2, c3, c4⟩, _⟩ := S.cells
  obtain ⟨d0, d1, d2, d3, d4, d5, d6, d7, d8⟩ := C.cells
  go_upto_region 8 with fail
  rw [← hV]
  clear hV
  clear c0 c1 c2 c3 c4 d0 d1 d2 d3 d4 d5 d6 d7 d8
  have bw := bw.trans (hbn.mono bw.size)
  have hsn := hbn.size
  have S := S.later hbn S.lt
  have C := C.later hbn (by omega)
  have R := R.later hbn (by omega)
  clear hbn
  have hKl : w.heap.size + 3 ≤ w2.heap.size := by omega
  have hKa : Off w2.heap.size a n := fun hn0 ad e => by have := hr.lt hn0 ad e; omega
  have hRa : Off (w.heap.size + 1 + 1) a n := fun hn0 ad e => by have := hr.lt hn0 ad e; omega
  have hKV : w2.heap.size < V.heap.size := T.lt
  generalize w2.heap.size = K at *
  have hrt := hr.later bw
  have HRS : Hid (Row w a n l) := hr
  obtain ⟨⟨c0, c1, c2, c3, c4⟩, _⟩ := S.cells
  obtain ⟨d0, d1, d2, d3, d4, d5, d6, d7, d8⟩ := C.cells
  go_upto_if 151 with fail
  go_cut [11] (fun b wx => b = .bool (takesB t h l new) ∧ Below V.heap.size V wx)
  case first => as_aux_lemma =>
    by_cases h7 : 7 ≤ t
    · have h7' : decide (7 ≤ t) = true := by simpa using h7
      have HT : Hid (takesB t h l new = (new == 0)) := takes_hi htf h7
      rw [h7']
      clear h7
      go_wp2
      go_meet
      case rel => exact ⟨by rw [HT.out], Below.refl _ _⟩
    · have h7' : decide (7 ≤ t) = false := by simpa using h7
      rw [h7']
      by_cases h0 : 0 < t
      · have h0' : decide (0 < t) = true := by simpa using h0
        have HT : Hid (takesB t h l new = (keyOf l h == new)) := takes_lo h7 h0
        clear h7 h0
        go_wp2_with fail
        have q0 : ∀ p : LW V, p.val.cell? ⟨w.heap.size, 0, Option.none⟩ = some (.int .i64 g) := fun p => cell_later p.ok c0
        have q1 : ∀ p : LW V, p.val.cell? ⟨w.heap.size, 1, Option.none⟩ = some (.slice a n c) := fun p => cell_later p.ok c1
        have q2 : ∀ p : LW V, p.val.cell? ⟨w.heap.size, 2, Option.none⟩ = some (.int .i64 t) := fun p => cell_later p.ok c2
        have q3 : ∀ p : LW V, p.val.cell? ⟨w.heap.size, 3, Option.none⟩ = some (.int .i64 h) := fun p => cell_later p.ok c3
        have q4 : ∀ p : LW V, p.val.cell? ⟨w.heap.size, 4, Option.none⟩ = some (.bool y) := fun p => cell_later p.ok c4
        have r3 : ∀ p : LW V, p.val.cell? ⟨w.heap.size + 1, 3, Option.none⟩ = some (.int .i64 new) := fun p => cell_later p.ok d3
        have hinh : Nonempty (LW V) := ⟨⟨V, Below.refl _ _⟩⟩
        have HKr : Hid (∀ p : LW V, Row p.val a n l) := fun p => hrt.later p.ok
        clear c0 c1 c2 c3 c4 d0 d1 d2 d3 d4 d5 d6 d7 d8 S C R T hrt
        refine wp_region_lw (by kernel_rfl) (by kernel_rfl) ?_
        repeat (go_big_quiet_step ((go_at_call 28; exact Calls.quiet_lw (keyOf_any g t h a n c y l h _ (HKr.out _)))))
        refine wpQuiet_nil ?_
        rintro w5 ⟨⟨_, hb5⟩, rfl⟩
        go_wp2
        go_meet
        case rel => exact ⟨by rw [HT.out], hb5⟩
      · have h0' : decide (0 < t) = false := by simpa using h0
        have HT : Hid (takesB t h l new = false) := takes_no htf h7 h0
        clear h7 h0
        go_wp2
        go_meet
        case rel => exact ⟨by rw [HT.out], Below.refl _ _⟩
  case rest =>
    obtain ⟨rfl, hbn⟩ := hcut
    obtain ⟨w3, rfl⟩ : ∃ W, W = wc := ⟨_, rfl⟩
    clear c0 c1 c2 c3 c4 d0 d1 d2 d3 d4 d5 d6 d7 d8
    have bw := bw.trans (hbn.mono bw.size)
    have hsn := hbn.size
    have S := S.later hbn S.lt
    have C := C.later hbn (by omega)
    have R := R.later hbn (by omega)
    have T := T.later hbn T.lt
    have hrt := hrt.later hbn
    clear hbn
    have hKV : K < w3.heap.size := T.lt
    obtain ⟨tb, hTB⟩ : ∃ tb, tb = takesB t h l new := ⟨_, rfl⟩
    rw [← hTB]
    have HTB : Hid (tb = takesB t h l new) := hTB
    clear hTB
    obtain ⟨⟨c0, c1, c2, c3, c4⟩, _⟩ := S.cells
    obtain ⟨d0, d1, d2, d3, d4, d5, d6, d7, d8⟩ := C.cells
    go_upto_region 43 with fail
    go_cut [171] (fun b wx => b = .bool (new == 0 && !tb) ∧ w3 = wx)
    case first =>
      cases hn0 : (new == 0) with
      | true =>
        go_wp2
        go_meet
        case rel => exact ⟨by rw [hn0, Bool.true_and], rfl⟩
      | false =>
        go_wp2
        go_meet
        case rel => exact ⟨by rw [hn0, Bool.false_and], rfl⟩
    case rest =>
      obtain ⟨rfl, rfl⟩ := hcut
      clear c0 c1 c2 c3 c4 d0 d1 d2 d3 d4 d5 d6 d7 d8
      cases hB4 : (new == 0 && !tb) with
      | true =>
        have HS : Hid (doF g t h y l 6 who key new kind st = refused 5) := by show _ = _; simp only [Bool.and_eq_true, beq_iff_eq, Bool.not_eq_true'] at hB4; unfold doF; rw [if_neg (by decide), if_neg (by decide), if_neg (by decide), if_neg (by decide), if_pos rfl]; unfold preemptF; rw [if_neg (by rw [HP.out]; decide), if_pos ⟨hB4.1, by rw [← HTB.out]; exact hB4.2⟩]
        obtain ⟨⟨c0, c1, c2, c3, c4⟩, _⟩ := S.cells
        obtain ⟨d0, d1, d2, d3, d4, d5, d6, d7, d8⟩ := C.cells
        obtain ⟨⟨e0, e1, e2, e3, e4⟩, ⟨q0, q1, q2, q3, q4⟩⟩ := R.cells
        clear S C T hB4
        go_wp2
        obtain ⟨Z, hZ, z0, z1, z2, z3, z4⟩ := Z5.cells (X := w3) (v0 := .int .i64 0) (v1 := .slice Option.none 0 0) (v2 := .int .i64 0) (v3 := .int .i64 0) (v4 := .bool false) R
        have bZ : Below w.heap.size w Z := by rw [hZ]; exact Z5.below bw (by omega)
        unfold Z5 at hZ
        rw [← hZ]
        clear hZ
        exact bodyPost_ret (v := .tuple #[.agg #[.int .i64 0, .slice Option.none 0 0, .int .i64 0, .int .i64 0, .bool false], .slice Option.none 0 0, .int .i64 5]) (by simp [results, Try.results14, go_sem, z0, z1, z2, z3, z4]) rfl (And.intro (by rw [HS.out]; exact ⟨_, _, _, _, _, _, rfl, row_nil _, row_nil _⟩) bZ)
      | false =>
        have HB4 : Hid (¬ (new = 0 ∧ takesB t h l new = false)) := by
          show ¬ _
          rintro ⟨h1, h2⟩
          rw [← HTB.out] at h2
          rw [h2, h1] at hB4
          simp at hB4
        clear hB4
        have H0 : L6 w3 w.heap.size K g t h y w3 [] [] l Option.none 0 0 Option.none 0 0 a n c := ⟨T, hrt, ⟨rfl, .inl ⟨rfl, rfl⟩⟩, ⟨rfl, .inl ⟨rfl, rfl⟩⟩, (fun b e => by cases e), (fun b e => by cases e), (fun b e => by cases e), hKa, hRa, Below.refl _ _⟩
        obtain ⟨⟨c0, c1, c2, c3, c4⟩, _⟩ := S.cells
        obtain ⟨d0, d1, d2, d3, d4, d5, d6, d7, d8⟩ := C.cells
        obtain ⟨⟨m0, m1, m2, m3, m4⟩, ⟨p0, p1, p2, p3, p4⟩⟩ := T.cells
        go_wp2_with fail
        clear c0 c1 c2 c3 c4 d0 d1 d2 d3 d4 d5 d6 d7 d8
        clear m0 m1 m2 m3 m4 p0 p1 p2 p3 p4
        go_loopw [12, 13, 14] (fun ug ul i wr => ∃ (k : Nat) (ag : Option Addr) (ng cg : Nat) (al : Option Addr) (nl cl : Nat) (a2 : Option Addr) (n2 k2 : Nat), k ≤ n ∧ ug = .slice ag ng cg ∧ ul = .slice al nl cl ∧ i = .int .i64 k ∧ L6 w3 w.heap.size K g t h y wr (gR who new (l.take k)) (lR who new (l.take k)) (outL l (gR who new (l.take k))) ag ng cg al nl cl a2 n2 k2) (fun _ _ i _ => n - (intOf i).toNat)
        case atStart => exact ⟨0, Option.none, 0, 0, Option.none, 0, 0, a, n, c, Nat.zero_le _, rfl, rfl, rfl, H0⟩
        case round =>
          clear H0 T hrt
          obtain ⟨k, ag, ng, cg, al, nl, cl, a2, n2, k2, hk, rfl, rfl, rfl, H⟩ := hrel
          have hbs := H.bel
          have hTl := H.T.lt
          have S1 := S.later hbs (by omega)
          have C1 := C.later hbs (by omega)
          have hlen := hr.1
          by_cases hlt : k < n
          · as_aux_lemma =>
            have HG1 : Hid (gR who new (l.take (k + 1)) = gR who new (l.take k) ++ (if outP who new l[k] = true then [l[k].1] else [])) := gR_succ who new l k (by omega)
            have HL1 : Hid (lR who new (l.take (k + 1)) = lR who new (l.take k) ++ (if leftP who new l[k] = true then [l[k].1] else [])) := lR_succ who new l k (by omega)
            have hgl := gR_len who new l k
            have hll := lR_len who new l k
            have hol := outL_len l (gR who new (l.take k))
            obtain ⟨b, off, hao, hcc⟩ := (hr.later (bw.trans (hbs.mono (by omega)))).2.2 (by omega)
            obtain ⟨hc0, hc1⟩ := hcc k (by omega)
            clear hcc
            have hki : (k : Int) < (n : Int) := by omega
            generalize hG : gR who new (l.take k) = G at *
            generalize hL : lR who new (l.take k) = Lf at *
            have hn2 : n2 ≤ 900 := by have := H.row.1; omega
            generalize hrk : l[k] = r at *
            obtain ⟨Y, hY⟩ : ∃ Y, Y = wr.alloc (.cells #[.int .i64 r.1, .int .i64 r.2] 49) := ⟨_, rfl⟩
            have hbY : Below wr.heap.size wr Y := by rw [hY]; exact (Below.refl _ _).alloc (Nat.le_refl _) _
            have hYs : Y.heap.size = wr.heap.size + 1 := by rw [hY]; simp
            have g0 : Y.cell? ⟨wr.heap.size, 0, Option.none⟩ = some (.int .i64 r.1) := by rw [hY]; simp [go_sem]
            have g1 : Y.cell? ⟨wr.heap.size, 1, Option.none⟩ = some (.int .i64 r.2) := by rw [hY]; simp [go_sem]
            obtain ⟨⟨c0, c1, c2, c3, c4⟩, _⟩ := S1.cells
            obtain ⟨d0, d1, d2, d3, d4, d5, d6, d7, d8⟩ := C1.cells
            have HRB : Hid (ownB ag ≠ some wr.heap.size) := fun e => by have := (H.og.lt _ e).2; omega
            have HH : Hid (L6 w3 w.heap.size K g t h y Y G Lf (outL l G) ag ng cg al nl cl a2 n2 k2) := H.later hKl hbY
            have hsYl := hbs.size
            subst hao
            go_upto_region 50 with fail
            rw [← hY]
            have S2 := S1.later hbY S1.lt
            have C2 := C1.later hbY (by omega)
            clear hY c0 c1 c2 c3 c4 d0 d1 d2 d3 d4 d5 d6 d7 d8 hc0 hc1 S1 C1 H hbs
            obtain ⟨⟨c0, c1, c2, c3, c4⟩, _⟩ := S2.cells
            obtain ⟨d0, d1, d2, d3, d4, d5, d6, d7, d8⟩ := C2.cells
            by_cases hw : r.1 = who
            · as_aux_lemma =>
              have hw' : (r.1 == who) = true := by simpa using hw
              have e1 : outP who new r = false := by simp [outP, hw]
              have e2 : leftP who new r = false := by simp [leftP, hw]
              have HG2 : Hid (gR who new (l.take (k + 1)) = G) := by show _ = _; rw [HG1.out, e1]; simp
              have HL2 : Hid (lR who new (l.take (k + 1)) = Lf) := by show _ = _; rw [HL1.out, e2]; simp
              clear hw e1 e2 S2 C2
              go_wp2
              go_roundw
              case rel => exact ⟨k + 1, ag, ng, cg, al, nl, cl, a2, n2, k2, by omega, rfl, rfl, by go_num, by rw [HG2.out, HL2.out]; exact HH.out⟩
              case measure => simp [intOf]; omega
            · have hw' : (r.1 == who) = false := by simpa using hw
              by_cases hq : new = 0 ∨ r.2 = new
              · as_aux_lemma =>
                have e1 : outP who new r = true := by rcases hq with e | e <;> simp [outP, hw, e]
                have e2 : leftP who new r = false := by rcases hq with e | e <;> simp [leftP, e]
                have HG2 : Hid (gR who new (l.take (k + 1)) = G ++ [r.1]) := by show _ = _; rw [HG1.out, e1]; simp
                have HL2 : Hid (lR who new (l.take (k + 1)) = Lf) := by show _ = _; rw [HL1.out, e2]; simp
                have HQ : ((new == 0) = true) ∨ ((new == 0) = false ∧ (r.2 == new) = true) := by
                  by_cases e0 : new = 0
                  · exact .inl (by simpa using e0)
                  · exact .inr ⟨by simpa using e0, by simpa using hq.resolve_left e0⟩
                have HOU : Hid (outL l (G ++ [r.1]) = withL (outL l G) r.1 0) := by show _ = _; rw [outL_append]; rfl
                clear hq e1 e2 hw
                rcases HQ with k1 | ⟨k1, k2'⟩
                all_goals as_aux_lemma =>
                  go_wp2_with (at_builtin; refine wpList_appI3 rfl _ _ rfl (K + 1) (.slice ag ng cg) G r.1 Y (by simp [Act.eval]) (by simp [Act.eval]) HH.out.og (by omega) (by omega) ?_)
                  intro a4 n4 c4' w6 ho6 hg6 hat6
                  rw [ownB_slice] at hg6 hat6
                  have hbt : Below Y.heap.size Y (Y.alloc (.cells #[.int .i64 r.1] 3)) := (Below.refl _ _).alloc (Nat.le_refl _) _
                  have HA : Hid (L6 w3 w.heap.size K g t h y w6 (G ++ [r.1]) Lf (outL l G) a4 n4 c4' al nl cl a2 n2 k2) := (HH.out.later hKl hbt).appG hKl ho6 hg6 (by simpa [hYs] using hat6)
                  have hne : ∀ bb, ownB ag = some bb → bb < wr.heap.size + 1 := fun bb hbb => by have := (HH.out.og.lt bb hbb).2; omega
                  have g0' : w6.cell? ⟨wr.heap.size, 0, Option.none⟩ = some (.int .i64 r.1) := hg6.cell (cell_later hbt g0) (fun e => HRB.out e.symm)
                  have T6 := HA.out.T
                  clear c0 c1 c2 c3 c4 d0 d1 d2 d3 d4 d5 d6 d7 d8 g0 g1 hne ho6 hg6 hat6
                  obtain ⟨⟨m0, m1, m2, m3, m4⟩, ⟨p0, p1, p2, p3, p4⟩⟩ := T6.cells
                  go_wp2_with fail
                  refine (rwith_far g t h a2 n2 k2 y (outL l G) r.1 0 w6 HA.out.row (by omega)).mono ?_
                  rintro e w7 ⟨a3, n3, k3, rfl, hr3, hb3, hf3⟩
                  have T7 := T6.later hb3 T6.lt
                  have HP7 : Hid (L6 w3 w.heap.size K g t h y (Z5 w7 K (.int .i64 g) (.slice a3 n3 k3) (.int .i64 t) (.int .i64 h) (.bool y)) (G ++ [r.1]) Lf (outL l (G ++ [r.1])) a4 n4 c4' al nl cl a3 n3 k3) := by
                    refine HA.out.put hKl ?_ hb3 hf3
                    rw [HOU.out]
                    rw [rwith_eq, if_pos rfl] at hr3
                    simpa [withL] using hr3
                  clear m0 m1 m2 m3 m4 p0 p1 p2 p3 p4 hr3 hf3 hb3 T6
                  obtain ⟨⟨m0, m1, m2, m3, m4⟩, ⟨p0, p1, p2, p3, p4⟩⟩ := T7.cells
                  go_wp2
                  go_roundw
                  case rel => exact ⟨k + 1, a4, n4, c4', al, nl, cl, a3, n3, k3, by omega, rfl, rfl, by go_num, by rw [HG2.out, HL2.out]; exact HP7.out⟩
                  case measure => simp [intOf]; omega
              · as_aux_lemma =>
                have e1 : outP who new r = false := by simp only [not_or] at hq; simp [outP, hq.1, hq.2]
                have e2 : leftP who new r = true := by simp only [not_or] at hq; simp [leftP, hw, hq.1, hq.2]
                have HG2 : Hid (gR who new (l.take (k + 1)) = G) := by show _ = _; rw [HG1.out, e1]; simp
                have HL2 : Hid (lR who new (l.take (k + 1)) = Lf ++ [r.1]) := by show _ = _; rw [HL1.out, e2]; simp
                have k1 : (new == 0) = false := by simp only [not_or] at hq; simpa using hq.1
                have k2' : (r.2 == new) = false := by simp only [not_or] at hq; simpa using hq.2
                clear hq e1 e2 hw
                go_wp2_with (at_builtin; refine wpList_appI3 rfl _ _ rfl (K + 1) (.slice al nl cl) Lf r.1 Y (by simp [Act.eval]) (by simp [Act.eval]) HH.out.ol (by omega) (by omega) ?_)
                intro a4 n4 c4' w6 ho6 hg6 hat6
                rw [ownB_slice] at hg6 hat6
                have hbt : Below Y.heap.size Y (Y.alloc (.cells #[.int .i64 r.1] 3)) := (Below.refl _ _).alloc (Nat.le_refl _) _
                have HA : Hid (L6 w3 w.heap.size K g t h y w6 G (Lf ++ [r.1]) (outL l G) ag ng cg a4 n4 c4' a2 n2 k2) := (HH.out.later hKl hbt).appL hKl ho6 hg6 (by simpa [hYs] using hat6)
                clear c0 c1 c2 c3 c4 d0 d1 d2 d3 d4 d5 d6 d7 d8 g0 g1 ho6 hg6 hat6
                go_wp2
                go_roundw
                case rel => exact ⟨k + 1, ag, ng, cg, a4, n4, c4', a2, n2, k2, by omega, rfl, rfl, by go_num, by rw [HG2.out, HL2.out]; exact HA.out⟩
                case measure => simp [intOf]; omega
          · as_aux_lemma =>
            have hkn : k = n := by omega
            subst hkn
            have hlt' : decide ((k : Int) < (k : Int)) = false := by simp
            have hGe : gR who new (l.take k) = goneL l who new := by rw [List.take_of_length_le (by omega)]; exact gR_gone hrf who new
            have hLe : lR who new (l.take k) = othersL (outL l (goneL l who new)) who := by rw [List.take_of_length_le (by omega)]; exact lR_left hrf who new
            rw [hGe, hLe] at H
            have hgl : (goneL l who new).length ≤ 900 := by have := gR_len who new l k; rw [hGe] at this; omega
            have hll : (othersL (outL l (goneL l who new)) who).length ≤ 900 := by have := lR_len who new l k; rw [hLe] at this; omega
            have HNG : Hid (ng = (goneL l who new).length) := by obtain ⟨a', n', c', e, hm⟩ := H.og.form; simp only [Value.slice.injEq] at e; obtain ⟨rfl, rfl, rfl⟩ := e; exact hm.1.symm
            have hng : ng ≤ 900 := by have := HNG.out; omega
            have bw := bw.trans (hbs.mono (by omega))
            have hsn := hbs.size
            have S := S1
            have C := C1
            have R := R.later hbs (by omega)
            have T := H.T
            have HRB : Hid (ownB ag ≠ some wr.heap.size) := fun e => by have := (H.og.lt _ e).2; omega
            have HH : Hid (L6 w3 w.heap.size K g t h y wr (goneL l who new) (othersL (outL l (goneL l who new)) who) (outL l (goneL l who new)) ag ng cg al nl cl a2 n2 k2) := H
            clear S1 C1 hbs H hGe hLe
            obtain ⟨⟨c0, c1, c2, c3, c4⟩, _⟩ := S.cells
            obtain ⟨d0, d1, d2, d3, d4, d5, d6, d7, d8⟩ := C.cells
            go_upto_region 55 with fail
            go_cut [226] (fun b wx => b = .bool (preBad l who new tb ng) ∧ wr = wx)
            case first =>
              have HBd : Hid (preBad l who new tb ng = (!tb && ng == 0 && keyOf l who != new)) := rfl
              cases tb with
              | true =>
                go_wp2
                go_meet
                case rel => exact ⟨by rw [HBd.out]; rfl, rfl⟩
              | false =>
                cases hz : ((ng : Int) == 0) with
                | true =>
                  have HZ : Hid ((ng == 0) = true) := by show _ = _; simpa using hz
                  go_wp2
                  go_meet
                  case rel => exact ⟨by rw [HBd.out, HZ.out]; simp, rfl⟩
                | false =>
                  have HZ : Hid ((ng == 0) = false) := by show _ = _; simpa using hz
                  go_wp2
                  go_meet
                  case rel => exact ⟨by rw [HBd.out, HZ.out]; simp, rfl⟩
            case rest =>
              obtain ⟨rfl, rfl⟩ := hcut
              clear c0 c1 c2 c3 c4 d0 d1 d2 d3 d4 d5 d6 d7 d8
              cases hB6 : preBad l who new tb ng with
              | true =>
                have HS : Hid (doF g t h y l 6 who key new kind st = refused 4) := by show _ = _; rw [HTB.out, HNG.out] at hB6; unfold doF; rw [if_neg (by decide), if_neg (by decide), if_neg (by decide), if_neg (by decide), if_pos rfl]; unfold preemptF; rw [if_neg (by rw [HP.out]; decide), if_neg HB4.out, if_pos hB6]
                obtain ⟨⟨c0, c1, c2, c3, c4⟩, _⟩ := S.cells
                obtain ⟨d0, d1, d2, d3, d4, d5, d6, d7, d8⟩ := C.cells
                obtain ⟨⟨e0, e1, e2, e3, e4⟩, ⟨q0, q1, q2, q3, q4⟩⟩ := R.cells
                clear S C T hB6
                go_wp2
                obtain ⟨Z, hZ, z0, z1, z2, z3, z4⟩ := Z5.cells (X := wr) (v0 := .int .i64 0) (v1 := .slice Option.none 0 0) (v2 := .int .i64 0) (v3 := .int .i64 0) (v4 := .bool false) R
                have bZ : Below w.heap.size w Z := by rw [hZ]; exact Z5.below bw (by omega)
                unfold Z5 at hZ
                rw [← hZ]
                clear hZ
                exact bodyPost_ret (v := .tuple #[.agg #[.int .i64 0, .slice Option.none 0 0, .int .i64 0, .int .i64 0, .bool false], .slice Option.none 0 0, .int .i64 4]) (by simp [results, Try.results14, go_sem, z0, z1, z2, z3, z4]) rfl (And.intro (by rw [HS.out]; exact ⟨_, _, _, _, _, _, rfl, row_nil _, row_nil _⟩) bZ)
              | false =>
                have HB6 : Hid (¬ preBad l who new (takesB t h l new) (goneL l who new).length = true) := by
                  show ¬ _
                  rw [HTB.out, HNG.out] at hB6
                  rw [hB6]; decide
                clear hB6
                have hrt := HH.out.row
                obtain ⟨⟨c0, c1, c2, c3, c4⟩, _⟩ := S.cells
                obtain ⟨d0, d1, d2, d3, d4, d5, d6, d7, d8⟩ := C.cells
                obtain ⟨⟨m0, m1, m2, m3, m4⟩, ⟨p0, p1, p2, p3, p4⟩⟩ := T.cells
                go_wp2_with fail
                clear c0 c1 c2 c3 c4 d0 d1 d2 d3 d4 d5 d6 d7 d8
                clear m0 m1 m2 m3 m4 p0 p1 p2 p3 p4
                refine (tellAll_own ag ng cg (goneL l who new) 1 wr (nums_of HH.out.og) (by omega)).mono ?_
                rintro e w7 ⟨a4, n4, c4', rfl, ho4, hbn⟩
                have HO4 : Hid (OwnT w7 wr.heap.size (.slice a4 n4 c4') (tellL (goneL l who new) 1)) := ho4
                have hol := HH.out.ol.later hbn (Nat.le_refl _)
                have hbz : Below wr.heap.size wr w7 := hbn
                clear ho4
                have bw := bw.trans (hbn.mono bw.size)
                have hsn := hbn.size
                have S := S.later hbn S.lt
                have C := C.later hbn (by omega)
                have R := R.later hbn (by omega)
                have T := T.later hbn T.lt
                have hrt := hrt.later hbn
                clear hbn
                cases tb with
                | false => as_aux_lemma =>
                  have HS : Hid (doF g t h y l 6 who key new kind st = ⟨cnt g, (outL l (goneL l who new)), t, h, y, tellL (goneL l who new) 1, 0⟩) := by show _ = _; unfold doF; rw [if_neg (by decide), if_neg (by decide), if_neg (by decide), if_neg (by decide), if_pos rfl]; unfold preemptF; rw [if_neg (by rw [HP.out]; decide), if_neg HB4.out, if_neg HB6.out, if_pos HTB.out.symm]
                  have hgb : -9223372036854775808 ≤ g + 1 ∧ g + 1 ≤ 9223372036854775807 := by omega
                  obtain ⟨hgb1, hgb2⟩ := hgb
                  obtain ⟨V7, hV7⟩ : ∃ V, V = w7.setCell ⟨K, 0, Option.none⟩ (.int .i64 (g + 1)) := ⟨_, rfl⟩
                  obtain ⟨⟨c0, c1, c2, c3, c4⟩, _⟩ := S.cells
                  obtain ⟨d0, d1, d2, d3, d4, d5, d6, d7, d8⟩ := C.cells
                  obtain ⟨⟨m0, m1, m2, m3, m4⟩, ⟨p0, p1, p2, p3, p4⟩⟩ := T.cells
                  go_upto_region 64 with fail
                  rw [← hV7]
                  have bV7 : Below (w.heap.size + 3) w7 V7 := by rw [hV7]; exact (Below.refl _ _).setCell (by exact hKl) _
                  have T3 : StB V7 K (g + 1) a2 n2 k2 t h y := by rw [hV7]; exact T.set0
                  have hrt3 : Row V7 a2 n2 (outL l (goneL l who new)) := Row.off (K := K) (hrt) HH.out.offK (fun b hb _ => by rw [hV7]; exact set_other _ K 0 _ b hb)
                  have hrl3 : Row V7 a4 n4 (tellL (goneL l who new) 1) := Row.off (K := K) HO4.out.form.1 (fun _ ad e => by have := HO4.out.far ad e; omega) (fun b hb _ => by rw [hV7]; exact set_other _ K 0 _ b hb)
                  clear hV7
                  clear c0 c1 c2 c3 c4 d0 d1 d2 d3 d4 d5 d6 d7 d8
                  clear m0 m1 m2 m3 m4 p0 p1 p2 p3 p4
                  have bw := bw.trans (bV7.mono (by omega))
                  have hsn := bV7.size
                  have S := S.later bV7 (by omega)
                  have C := C.later bV7 (by omega)
                  have R := R.later bV7 (by omega)
                  clear T
                  have T := T3
                  clear T3 bV7
                  by_cases hgg : 1000000000 < g + 1
                  · have hgg' : decide (1000000000 < g + 1) = true := by simpa using hgg
                    have HG : Hid (cnt g = 0) := cnt_hi hgg
                    clear hgg
                    obtain ⟨V8, hV8⟩ : ∃ V, V = V7.setCell ⟨K, 0, Option.none⟩ (.int .i64 0) := ⟨_, rfl⟩
                    obtain ⟨⟨c0, c1, c2, c3, c4⟩, _⟩ := S.cells
                    obtain ⟨d0, d1, d2, d3, d4, d5, d6, d7, d8⟩ := C.cells
                    obtain ⟨⟨m0, m1, m2, m3, m4⟩, ⟨p0, p1, p2, p3, p4⟩⟩ := T.cells
                    go_upto_region 66 with fail
                    rw [← hV8]
                    have bV8 : Below (w.heap.size + 3) V7 V8 := by rw [hV8]; exact (Below.refl _ _).setCell (by exact hKl) _
                    have T4 : StB V8 K 0 a2 n2 k2 t h y := by rw [hV8]; exact T.set0
                    have hrt4 : Row V8 a2 n2 (outL l (goneL l who new)) := Row.off (K := K) hrt3 HH.out.offK (fun b hb _ => by rw [hV8]; exact set_other _ K 0 _ b hb)
                    have hrl4 : Row V8 a4 n4 (tellL (goneL l who new) 1) := Row.off (K := K) hrl3 (fun _ ad e => by have := HO4.out.far ad e; omega) (fun b hb _ => by rw [hV8]; exact set_other _ K 0 _ b hb)
                    clear hV8
                    clear c0 c1 c2 c3 c4 d0 d1 d2 d3 d4 d5 d6 d7 d8
                    clear m0 m1 m2 m3 m4 p0 p1 p2 p3 p4
                    have bw := bw.trans (bV8.mono (by omega))
                    have hsn := bV8.size
                    have S := S.later bV8 (by omega)
                    have C := C.later bV8 (by omega)
                    have R := R.later bV8 (by omega)
                    clear T
                    have T := T4
                    clear T4 bV8
                    have HRT : Hid (Row V8 a2 n2 (outL l (goneL l who new))) := hrt4
                    have HRL : Hid (Row V8 a4 n4 (tellL (goneL l who new) 1)) := hrl4
                    obtain ⟨⟨c0, c1, c2, c3, c4⟩, _⟩ := S.cells
                    obtain ⟨d0, d1, d2, d3, d4, d5, d6, d7, d8⟩ := C.cells
                    obtain ⟨⟨m0, m1, m2, m3, m4⟩, ⟨p0, p1, p2, p3, p4⟩⟩ := T.cells
                    obtain ⟨⟨e0, e1, e2, e3, e4⟩, ⟨q0, q1, q2, q3, q4⟩⟩ := R.cells
                    clear S C T
                    go_wp2
                    obtain ⟨Z, hZ, z0, z1, z2, z3, z4⟩ := Z5.cells (X := V8) (v0 := .int .i64 0) (v1 := .slice a2 n2 k2) (v2 := .int .i64 t) (v3 := .int .i64 h) (v4 := .bool y) R
                    have bZ : Below w.heap.size w Z := by rw [hZ]; exact Z5.below bw (by omega)
                    have hrT : Row Z a2 n2 (outL l (goneL l who new)) := by rw [hZ]; exact HRT.out.off HH.out.offR (fun b hb _ => z5_other _ _ _ _ _ _ _ b hb)
                    have hrL : Row Z a4 n4 (tellL (goneL l who new) 1) := by rw [hZ]; exact HRL.out.off (fun _ ad e => by have := HO4.out.far ad e; omega) (fun b hb _ => z5_other _ _ _ _ _ _ _ b hb)
                    unfold Z5 at hZ
                    rw [← hZ]
                    clear hZ
                    exact bodyPost_ret (v := .tuple #[.agg #[.int .i64 0, .slice a2 n2 k2, .int .i64 t, .int .i64 h, .bool y], .slice a4 n4 c4', .int .i64 0]) (by simp [results, Try.results14, go_sem, z0, z1, z2, z3, z4]) rfl (And.intro (by rw [HS.out, HG.out]; exact ⟨_, _, _, _, _, _, rfl, hrT, hrL⟩) bZ)
                  · have hgg' : decide (1000000000 < g + 1) = false := by simpa using hgg
                    have HG : Hid (cnt g = g + 1) := cnt_lo hgg
                    clear hgg
                    have HRT : Hid (Row V7 a2 n2 (outL l (goneL l who new))) := hrt3
                    have HRL : Hid (Row V7 a4 n4 (tellL (goneL l who new) 1)) := hrl3
                    obtain ⟨⟨c0, c1, c2, c3, c4⟩, _⟩ := S.cells
                    obtain ⟨d0, d1, d2, d3, d4, d5, d6, d7, d8⟩ := C.cells
                    obtain ⟨⟨m0, m1, m2, m3, m4⟩, ⟨p0, p1, p2, p3, p4⟩⟩ := T.cells
                    obtain ⟨⟨e0, e1, e2, e3, e4⟩, ⟨q0, q1, q2, q3, q4⟩⟩ := R.cells
                    clear S C T
                    go_wp2
                    obtain ⟨Z, hZ, z0, z1, z2, z3, z4⟩ := Z5.cells (X := V7) (v0 := .int .i64 (g + 1)) (v1 := .slice a2 n2 k2) (v2 := .int .i64 t) (v3 := .int .i64 h) (v4 := .bool y) R
                    have bZ : Below w.heap.size w Z := by rw [hZ]; exact Z5.below bw (by omega)
                    have hrT : Row Z a2 n2 (outL l (goneL l who new)) := by rw [hZ]; exact HRT.out.off HH.out.offR (fun b hb _ => z5_other _ _ _ _ _ _ _ b hb)
                    have hrL : Row Z a4 n4 (tellL (goneL l who new) 1) := by rw [hZ]; exact HRL.out.off (fun _ ad e => by have := HO4.out.far ad e; omega) (fun b hb _ => z5_other _ _ _ _ _ _ _ b hb)
                    unfold Z5 at hZ
                    rw [← hZ]
                    clear hZ
                    exact bodyPost_ret (v := .tuple #[.agg #[.int .i64 (g + 1), .slice a2 n2 k2, .int .i64 t, .int .i64 h, .bool y], .slice a4 n4 c4', .int .i64 0]) (by simp [results, Try.results14, go_sem, z0, z1, z2, z3, z4]) rfl (And.intro (by rw [HS.out, HG.out]; exact ⟨_, _, _, _, _, _, rfl, hrT, hrL⟩) bZ)
                | true =>
                  have HT0 : Hid (¬ takesB t h l new = false) := by show ¬ _; rw [← HTB.out]; decide
                  have HHd : Hid ((if 7 ≤ kind then (0 : Int) else who) = heldH kind who) := by
                    show _ = _
                    have := hc.ty (by decide)
                    simp only [typeB, Bool.or_eq_true, beq_iff_eq] at this
                    unfold heldH
                    by_cases h7 : kind = 7 ∨ kind = 8
                    · rw [if_pos (by omega), if_pos h7]
                    · rw [if_neg (by omega), if_neg h7]
                  by_cases hkd : t = kind
                  · as_aux_lemma =>
                    have HS : Hid (doF g t h y l 6 who key new kind st = ⟨cnt g, (outL l (goneL l who new)), kind, heldH kind who, y, tellL (goneL l who new) 1, 0⟩) := by show _ = _; unfold doF; rw [if_neg (by decide), if_neg (by decide), if_neg (by decide), if_neg (by decide), if_pos rfl]; unfold preemptF; rw [if_neg (by rw [HP.out]; decide), if_neg HB4.out, if_neg HB6.out, if_neg HT0.out, if_pos hkd]
                    have hkd' : (t != kind) = false := by simpa using hkd
                    clear hkd
                    obtain ⟨⟨c0, c1, c2, c3, c4⟩, _⟩ := S.cells
                    obtain ⟨d0, d1, d2, d3, d4, d5, d6, d7, d8⟩ := C.cells
                    obtain ⟨⟨m0, m1, m2, m3, m4⟩, ⟨p0, p1, p2, p3, p4⟩⟩ := T.cells
                    go_wp2_with fail
                    clear c0 c1 c2 c3 c4 d0 d1 d2 d3 d4 d5 d6 d7 d8
                    clear m0 m1 m2 m3 m4 p0 p1 p2 p3 p4
                    refine (taken_any g t h a2 n2 k2 y kind who w7).mono ?_
                    rintro e w8 ⟨rfl, hbn⟩
                    rw [HHd.out]
                    have HO5 : Hid (OwnT w8 wr.heap.size (.slice a4 n4 c4') (tellL (goneL l who new) 1)) := HO4.out.later hbn (Nat.le_refl _)
                    have bw := bw.trans (hbn.mono bw.size)
                    have hsn := hbn.size
                    have S := S.later hbn S.lt
                    have C := C.later hbn (by omega)
                    have R := R.later hbn (by omega)
                    have T := T.later hbn T.lt
                    have hrt := hrt.later hbn
                    clear hbn
                    have hrl := HO5.out.form.1
                    obtain ⟨V3, hV9⟩ : ∃ V, V = Z5 w8 K (.int .i64 g) (.slice a2 n2 k2) (.int .i64 kind) (.int .i64 (heldH kind who)) (.bool y) := ⟨_, rfl⟩
                    obtain ⟨⟨c0, c1, c2, c3, c4⟩, _⟩ := S.cells
                    obtain ⟨d0, d1, d2, d3, d4, d5, d6, d7, d8⟩ := C.cells
                    obtain ⟨⟨m0, m1, m2, m3, m4⟩, ⟨p0, p1, p2, p3, p4⟩⟩ := T.cells
                    go_upto_region 62 with fail
                    have hV9' := hV9
                    unfold Z5 at hV9'
                    rw [← hV9']
                    clear hV9'
                    have bV9 : Below (w.heap.size + 3) w8 V3 := by rw [hV9]; exact Z5.below (Below.refl _ _) hKl
                    have T9 : StB V3 K g a2 n2 k2 kind (heldH kind who) y := by rw [hV9]; exact T.over
                    have hrt : Row V3 a2 n2 (outL l (goneL l who new)) := Row.off (K := K) hrt HH.out.offK (fun b hb _ => by rw [hV9]; exact z5_other _ _ _ _ _ _ _ b hb)
                    have hrl : Row V3 a4 n4 (tellL (goneL l who new) 1) := Row.off (K := K) hrl (fun _ ad e => by have := HO5.out.far ad e; omega) (fun b hb _ => by rw [hV9]; exact z5_other _ _ _ _ _ _ _ b hb)
                    clear hV9
                    clear c0 c1 c2 c3 c4 d0 d1 d2 d3 d4 d5 d6 d7 d8
                    clear m0 m1 m2 m3 m4 p0 p1 p2 p3 p4
                    have bw := bw.trans (bV9.mono (by omega))
                    have hsn := bV9.size
                    have S := S.later bV9 (by omega)
                    have C := C.later bV9 (by omega)
                    have R := R.later bV9 (by omega)
                    clear T
                    have T := T9
                    clear T9 bV9
                    have hgb : -9223372036854775808 ≤ g + 1 ∧ g + 1 ≤ 9223372036854775807 := by omega
                    obtain ⟨hgb1, hgb2⟩ := hgb
                    obtain ⟨V7, hV7⟩ : ∃ V, V = V3.setCell ⟨K, 0, Option.none⟩ (.int .i64 (g + 1)) := ⟨_, rfl⟩
                    obtain ⟨⟨c0, c1, c2, c3, c4⟩, _⟩ := S.cells
                    obtain ⟨d0, d1, d2, d3, d4, d5, d6, d7, d8⟩ := C.cells
                    obtain ⟨⟨m0, m1, m2, m3, m4⟩, ⟨p0, p1, p2, p3, p4⟩⟩ := T.cells
                    go_upto_region 64 with fail
                    rw [← hV7]
                    have bV7 : Below (w.heap.size + 3) V3 V7 := by rw [hV7]; exact (Below.refl _ _).setCell (by exact hKl) _
                    have T3 : StB V7 K (g + 1) a2 n2 k2 kind (heldH kind who) y := by rw [hV7]; exact T.set0
                    have hrt3 : Row V7 a2 n2 (outL l (goneL l who new)) := Row.off (K := K) (hrt) HH.out.offK (fun b hb _ => by rw [hV7]; exact set_other _ K 0 _ b hb)
                    have hrl3 : Row V7 a4 n4 (tellL (goneL l who new) 1) := Row.off (K := K) hrl (fun _ ad e => by have := HO5.out.far ad e; omega) (fun b hb _ => by rw [hV7]; exact set_other _ K 0 _ b hb)
                    clear hV7
                    clear c0 c1 c2 c3 c4 d0 d1 d2 d3 d4 d5 d6 d7 d8
                    clear m0 m1 m2 m3 m4 p0 p1 p2 p3 p4
                    have bw := bw.trans (bV7.mono (by omega))
                    have hsn := bV7.size
                    have S := S.later bV7 (by omega)
                    have C := C.later bV7 (by omega)
                    have R := R.later bV7 (by omega)
                    clear T
                    have T := T3
                    clear T3 bV7
                    by_cases hgg : 1000000000 < g + 1
                    · have hgg' : decide (1000000000 < g + 1) = true := by simpa using hgg
                      have HG : Hid (cnt g = 0) := cnt_hi hgg
                      clear hgg
                      obtain ⟨V8, hV8⟩ : ∃ V, V = V7.setCell ⟨K, 0, Option.none⟩ (.int .i64 0) := ⟨_, rfl⟩
                      obtain ⟨⟨c0, c1, c2, c3, c4⟩, _⟩ := S.cells
                      obtain ⟨d0, d1, d2, d3, d4, d5, d6, d7, d8⟩ := C.cells
                      obtain ⟨⟨m0, m1, m2, m3, m4⟩, ⟨p0, p1, p2, p3, p4⟩⟩ := T.cells
                      go_upto_region 66 with fail
                      rw [← hV8]
                      have bV8 : Below (w.heap.size + 3) V7 V8 := by rw [hV8]; exact (Below.refl _ _).setCell (by exact hKl) _
                      have T4 : StB V8 K 0 a2 n2 k2 kind (heldH kind who) y := by rw [hV8]; exact T.set0
                      have hrt4 : Row V8 a2 n2 (outL l (goneL l who new)) := Row.off (K := K) hrt3 HH.out.offK (fun b hb _ => by rw [hV8]; exact set_other _ K 0 _ b hb)
                      have hrl4 : Row V8 a4 n4 (tellL (goneL l who new) 1) := Row.off (K := K) hrl3 (fun _ ad e => by have := HO5.out.far ad e; omega) (fun b hb _ => by rw [hV8]; exact set_other _ K 0 _ b hb)
                      clear hV8
                      clear c0 c1 c2 c3 c4 d0 d1 d2 d3 d4 d5 d6 d7 d8
                      clear m0 m1 m2 m3 m4 p0 p1 p2 p3 p4
                      have bw := bw.trans (bV8.mono (by omega))
                      have hsn := bV8.size
                      have S := S.later bV8 (by omega)
                      have C := C.later bV8 (by omega)
                      have R := R.later bV8 (by omega)
                      clear T
                      have T := T4
                      clear T4 bV8
                      have HRT : Hid (Row V8 a2 n2 (outL l (goneL l who new))) := hrt4
                      have HRL : Hid (Row V8 a4 n4 (tellL (goneL l who new) 1)) := hrl4
                      obtain ⟨⟨c0, c1, c2, c3, c4⟩, _⟩ := S.cells
                      obtain ⟨d0, d1, d2, d3, d4, d5, d6, d7, d8⟩ := C.cells
                      obtain ⟨⟨m0, m1, m2, m3, m4⟩, ⟨p0, p1, p2, p3, p4⟩⟩ := T.cells
                      obtain ⟨⟨e0, e1, e2, e3, e4⟩, ⟨q0, q1, q2, q3, q4⟩⟩ := R.cells
                      clear S C T
                      go_wp2
                      obtain ⟨Z, hZ, z0, z1, z2, z3, z4⟩ := Z5.cells (X := V8) (v0 := .int .i64 0) (v1 := .slice a2 n2 k2) (v2 := .int .i64 kind) (v3 := .int .i64 (heldH kind who)) (v4 := .bool y) R
                      have bZ : Below w.heap.size w Z := by rw [hZ]; exact Z5.below bw (by omega)
                      have hrT : Row Z a2 n2 (outL l (goneL l who new)) := by rw [hZ]; exact HRT.out.off HH.out.offR (fun b hb _ => z5_other _ _ _ _ _ _ _ b hb)
                      have hrL : Row Z a4 n4 (tellL (goneL l who new) 1) := by rw [hZ]; exact HRL.out.off (fun _ ad e => by have := HO5.out.far ad e; omega) (fun b hb _ => z5_other _ _ _ _ _ _ _ b hb)
                      unfold Z5 at hZ
                      rw [← hZ]
                      clear hZ
                      exact bodyPost_ret (v := .tuple #[.agg #[.int .i64 0, .slice a2 n2 k2, .int .i64 kind, .int .i64 (heldH kind who), .bool y], .slice a4 n4 c4', .int .i64 0]) (by simp [results, Try.results14, go_sem, z0, z1, z2, z3, z4]) rfl (And.intro (by rw [HS.out, HG.out]; exact ⟨_, _, _, _, _, _, rfl, hrT, hrL⟩) bZ)
                    · have hgg' : decide (1000000000 < g + 1) = false := by simpa using hgg
                      have HG : Hid (cnt g = g + 1) := cnt_lo hgg
                      clear hgg
                      have HRT : Hid (Row V7 a2 n2 (outL l (goneL l who new))) := hrt3
                      have HRL : Hid (Row V7 a4 n4 (tellL (goneL l who new) 1)) := hrl3
                      obtain ⟨⟨c0, c1, c2, c3, c4⟩, _⟩ := S.cells
                      obtain ⟨d0, d1, d2, d3, d4, d5, d6, d7, d8⟩ := C.cells
                      obtain ⟨⟨m0, m1, m2, m3, m4⟩, ⟨p0, p1, p2, p3, p4⟩⟩ := T.cells
                      obtain ⟨⟨e0, e1, e2, e3, e4⟩, ⟨q0, q1, q2, q3, q4⟩⟩ := R.cells
                      clear S C T
                      go_wp2
                      obtain ⟨Z, hZ, z0, z1, z2, z3, z4⟩ := Z5.cells (X := V7) (v0 := .int .i64 (g + 1)) (v1 := .slice a2 n2 k2) (v2 := .int .i64 kind) (v3 := .int .i64 (heldH kind who)) (v4 := .bool y) R
                      have bZ : Below w.heap.size w Z := by rw [hZ]; exact Z5.below bw (by omega)
                      have hrT : Row Z a2 n2 (outL l (goneL l who new)) := by rw [hZ]; exact HRT.out.off HH.out.offR (fun b hb _ => z5_other _ _ _ _ _ _ _ b hb)
                      have hrL : Row Z a4 n4 (tellL (goneL l who new) 1) := by rw [hZ]; exact HRL.out.off (fun _ ad e => by have := HO5.out.far ad e; omega) (fun b hb _ => z5_other _ _ _ _ _ _ _ b hb)
                      unfold Z5 at hZ
                      rw [← hZ]
                      clear hZ
                      exact bodyPost_ret (v := .tuple #[.agg #[.int .i64 (g + 1), .slice a2 n2 k2, .int .i64 kind, .int .i64 (heldH kind who), .bool y], .slice a4 n4 c4', .int .i64 0]) (by simp [results, Try.results14, go_sem, z0, z1, z2, z3, z4]) rfl (And.intro (by rw [HS.out, HG.out]; exact ⟨_, _, _, _, _, _, rfl, hrT, hrL⟩) bZ)
                  · as_aux_lemma =>
                    have HS : Hid (doF g t h y l 6 who key new kind st = ⟨cnt g, (outL l (goneL l who new)), kind, heldH kind who, y, tellL (goneL l who new) 1 ++ tellL (othersL (outL l (goneL l who new)) who) 2, 0⟩) := by show _ = _; unfold doF; rw [if_neg (by decide), if_neg (by decide), if_neg (by decide), if_neg (by decide), if_pos rfl]; unfold preemptF; rw [if_neg (by rw [HP.out]; decide), if_neg HB4.out, if_neg HB6.out, if_neg HT0.out, if_neg hkd]
                    have hkd' : (t != kind) = true := by simpa using hkd
                    clear hkd
                    obtain ⟨al', nl', cl', ela, hnl⟩ := hol.form
                    simp only [Value.slice.injEq] at ela
                    obtain ⟨rfl, rfl, rfl⟩ := ela
                    have hnl9 : nl ≤ 900 := by have := hnl.1; omega
                    have HNL : Hid (Nums w7 al nl (othersL (outL l (goneL l who new)) who)) := hnl
                    clear hnl hol
                    obtain ⟨⟨c0, c1, c2, c3, c4⟩, _⟩ := S.cells
                    obtain ⟨d0, d1, d2, d3, d4, d5, d6, d7, d8⟩ := C.cells
                    obtain ⟨⟨m0, m1, m2, m3, m4⟩, ⟨p0, p1, p2, p3, p4⟩⟩ := T.cells
                    go_wp2_with fail
                    clear c0 c1 c2 c3 c4 d0 d1 d2 d3 d4 d5 d6 d7 d8
                    clear m0 m1 m2 m3 m4 p0 p1 p2 p3 p4
                    refine (tellAll_own al nl cl (othersL (outL l (goneL l who new)) who) 2 w7 HNL.out (by omega)).mono ?_
                    rintro e w8 ⟨a5, n5, c5, rfl, ho5, hbn⟩
                    have HO5 : Hid (OwnT w8 wr.heap.size (.slice a4 n4 c4') (tellL (goneL l who new) 1)) := HO4.out.later hbn (Nat.le_refl _)
                    obtain ⟨hr5, hnil5⟩ := ho5.form
                    have HR5 : Hid (Row w8 a5 n5 (tellL (othersL (outL l (goneL l who new)) who) 2)) := hr5
                    have HN5 : Hid (a5 = Option.none → c5 = 0) := hnil5
                    have hbz := hbz.trans (hbn.mono hbz.size)
                    clear ho5 hr5 hnil5
                    have bw := bw.trans (hbn.mono bw.size)
                    have hsn := hbn.size
                    have S := S.later hbn S.lt
                    have C := C.later hbn (by omega)
                    have R := R.later hbn (by omega)
                    have T := T.later hbn T.lt
                    have hrt := hrt.later hbn
                    clear hbn
                    have hlen : (tellL (goneL l who new) 1).length + (tellL (othersL (outL l (goneL l who new)) who) 2).length ≤ 1000000 := by rw [tellL_len, tellL_len]; omega
                    have hw8 : wr.heap.size ≤ w8.heap.size := by omega
                    go_wp2_with (at_builtin; refine wpList_appTT rfl _ _ rfl wr.heap.size (.slice a4 n4 c4') (tellL (goneL l who new) 1) a5 n5 c5 (tellL (othersL (outL l (goneL l who new)) who) 2) w8 (by simp [Act.eval]) (by simp [Act.eval]) HN5.out HO5.out HR5.out hlen hw8 ?_)
                    intro a6 n6 c6 w9 ho6 hb6
                    have HO6 : Hid (OwnT w9 wr.heap.size (.slice a6 n6 c6) (tellL (goneL l who new) 1 ++ tellL (othersL (outL l (goneL l who new)) who) 2)) := ho6
                    have hsn := hb6.size
                    have hbz : Below wr.heap.size wr w9 := hbz.trans hb6
                    have bw := bw.trans (hb6.mono (by omega))
                    have S := S.later hb6 (by omega)
                    have C := C.later hb6 (by omega)
                    have R := R.later hb6 (by omega)
                    have T := T.later hb6 hTl
                    have hrt := HH.out.row.later hbz
                    clear ho6 hb6 HO5 HR5 HN5 HNL
                    obtain ⟨⟨c0, c1, c2, c3, c4⟩, _⟩ := S.cells
                    obtain ⟨d0, d1, d2, d3, d4, d5, d6, d7, d8⟩ := C.cells
                    obtain ⟨⟨m0, m1, m2, m3, m4⟩, ⟨p0, p1, p2, p3, p4⟩⟩ := T.cells
                    go_wp2_with fail
                    clear c0 c1 c2 c3 c4 d0 d1 d2 d3 d4 d5 d6 d7 d8
                    clear m0 m1 m2 m3 m4 p0 p1 p2 p3 p4
                    refine (taken_any g t h a2 n2 k2 y kind who w9).mono ?_
                    rintro e w10 ⟨rfl, hbn⟩
                    rw [HHd.out]
                    have HO7 : Hid (OwnT w10 wr.heap.size (.slice a6 n6 c6) (tellL (goneL l who new) 1 ++ tellL (othersL (outL l (goneL l who new)) who) 2)) := HO6.out.later hbn (Nat.le_refl _)
                    have bw := bw.trans (hbn.mono bw.size)
                    have hsn := hbn.size
                    have S := S.later hbn S.lt
                    have C := C.later hbn (by omega)
                    have R := R.later hbn (by omega)
                    have T := T.later hbn T.lt
                    have hrt := hrt.later hbn
                    clear hbn
                    have hrl := HO7.out.form.1
                    obtain ⟨V3, hV9⟩ : ∃ V, V = Z5 w10 K (.int .i64 g) (.slice a2 n2 k2) (.int .i64 kind) (.int .i64 (heldH kind who)) (.bool y) := ⟨_, rfl⟩
                    obtain ⟨⟨c0, c1, c2, c3, c4⟩, _⟩ := S.cells
                    obtain ⟨d0, d1, d2, d3, d4, d5, d6, d7, d8⟩ := C.cells
                    obtain ⟨⟨m0, m1, m2, m3, m4⟩, ⟨p0, p1, p2, p3, p4⟩⟩ := T.cells
                    go_upto_region 62 with fail
                    have hV9' := hV9
                    unfold Z5 at hV9'
                    rw [← hV9']
                    clear hV9'
                    have bV9 : Below (w.heap.size + 3) w10 V3 := by rw [hV9]; exact Z5.below (Below.refl _ _) hKl
                    have T9 : StB V3 K g a2 n2 k2 kind (heldH kind who) y := by rw [hV9]; exact T.over
                    have hrt : Row V3 a2 n2 (outL l (goneL l who new)) := Row.off (K := K) hrt HH.out.offK (fun b hb _ => by rw [hV9]; exact z5_other _ _ _ _ _ _ _ b hb)
                    have hrl : Row V3 a6 n6 (tellL (goneL l who new) 1 ++ tellL (othersL (outL l (goneL l who new)) who) 2) := Row.off (K := K) hrl (fun _ ad e => by have := HO7.out.far ad e; omega) (fun b hb _ => by rw [hV9]; exact z5_other _ _ _ _ _ _ _ b hb)
                    clear hV9
                    clear c0 c1 c2 c3 c4 d0 d1 d2 d3 d4 d5 d6 d7 d8
                    clear m0 m1 m2 m3 m4 p0 p1 p2 p3 p4
                    have bw := bw.trans (bV9.mono (by omega))
                    have hsn := bV9.size
                    have S := S.later bV9 (by omega)
                    have C := C.later bV9 (by omega)
                    have R := R.later bV9 (by omega)
                    clear T
                    have T := T9
                    clear T9 bV9
                    have hgb : -9223372036854775808 ≤ g + 1 ∧ g + 1 ≤ 9223372036854775807 := by omega
                    obtain ⟨hgb1, hgb2⟩ := hgb
                    obtain ⟨V7, hV7⟩ : ∃ V, V = V3.setCell ⟨K, 0, Option.none⟩ (.int .i64 (g + 1)) := ⟨_, rfl⟩
                    obtain ⟨⟨c0, c1, c2, c3, c4⟩, _⟩ := S.cells
                    obtain ⟨d0, d1, d2, d3, d4, d5, d6, d7, d8⟩ := C.cells
                    obtain ⟨⟨m0, m1, m2, m3, m4⟩, ⟨p0, p1, p2, p3, p4⟩⟩ := T.cells
                    go_upto_region 64 with fail
                    rw [← hV7]
                    have bV7 : Below (w.heap.size + 3) V3 V7 := by rw [hV7]; exact (Below.refl _ _).setCell (by exact hKl) _
                    have T3 : StB V7 K (g + 1) a2 n2 k2 kind (heldH kind who) y := by rw [hV7]; exact T.set0
                    have hrt3 : Row V7 a2 n2 (outL l (goneL l who new)) := Row.off (K := K) (hrt) HH.out.offK (fun b hb _ => by rw [hV7]; exact set_other _ K 0 _ b hb)
                    have hrl3 : Row V7 a6 n6 (tellL (goneL l who new) 1 ++ tellL (othersL (outL l (goneL l who new)) who) 2) := Row.off (K := K) hrl (fun _ ad e => by have := HO7.out.far ad e; omega) (fun b hb _ => by rw [hV7]; exact set_other _ K 0 _ b hb)
                    clear hV7
                    clear c0 c1 c2 c3 c4 d0 d1 d2 d3 d4 d5 d6 d7 d8
                    clear m0 m1 m2 m3 m4 p0 p1 p2 p3 p4
                    have bw := bw.trans (bV7.mono (by omega))
                    have hsn := bV7.size
                    have S := S.later bV7 (by omega)
                    have C := C.later bV7 (by omega)
                    have R := R.later bV7 (by omega)
                    clear T
                    have T := T3
                    clear T3 bV7
                    by_cases hgg : 1000000000 < g + 1
                    · have hgg' : decide (1000000000 < g + 1) = true := by simpa using hgg
                      have HG : Hid (cnt g = 0) := cnt_hi hgg
                      clear hgg
                      obtain ⟨V8, hV8⟩ : ∃ V, V = V7.setCell ⟨K, 0, Option.none⟩ (.int .i64 0) := ⟨_, rfl⟩
                      obtain ⟨⟨c0, c1, c2, c3, c4⟩, _⟩ := S.cells
                      obtain ⟨d0, d1, d2, d3, d4, d5, d6, d7, d8⟩ := C.cells
                      obtain ⟨⟨m0, m1, m2, m3, m4⟩, ⟨p0, p1, p2, p3, p4⟩⟩ := T.cells
                      go_upto_region 66 with fail
                      rw [← hV8]
                      have bV8 : Below (w.heap.size + 3) V7 V8 := by rw [hV8]; exact (Below.refl _ _).setCell (by exact hKl) _
                      have T4 : StB V8 K 0 a2 n2 k2 kind (heldH kind who) y := by rw [hV8]; exact T.set0
                      have hrt4 : Row V8 a2 n2 (outL l (goneL l who new)) := Row.off (K := K) hrt3 HH.out.offK (fun b hb _ => by rw [hV8]; exact set_other _ K 0 _ b hb)
                      have hrl4 : Row V8 a6 n6 (tellL (goneL l who new) 1 ++ tellL (othersL (outL l (goneL l who new)) who) 2) := Row.off (K := K) hrl3 (fun _ ad e => by have := HO7.out.far ad e; omega) (fun b hb _ => by rw [hV8]; exact set_other _ K 0 _ b hb)
                      clear hV8
                      clear c0 c1 c2 c3 c4 d0 d1 d2 d3 d4 d5 d6 d7 d8
                      clear m0 m1 m2 m3 m4 p0 p1 p2 p3 p4
                      have bw := bw.trans (bV8.mono (by omega))
                      have hsn := bV8.size
                      have S := S.later bV8 (by omega)
                      have C := C.later bV8 (by omega)
                      have R := R.later bV8 (by omega)
                      clear T
                      have T := T4
                      clear T4 bV8
                      have HRT : Hid (Row V8 a2 n2 (outL l (goneL l who new))) := hrt4
                      have HRL : Hid (Row V8 a6 n6 (tellL (goneL l who new) 1 ++ tellL (othersL (outL l (goneL l who new)) who) 2)) := hrl4
                      obtain ⟨⟨c0, c1, c2, c3, c4⟩, _⟩ := S.cells
                      obtain ⟨d0, d1, d2, d3, d4, d5, d6, d7, d8⟩ := C.cells
                      obtain ⟨⟨m0, m1, m2, m3, m4⟩, ⟨p0, p1, p2, p3, p4⟩⟩ := T.cells
                      obtain ⟨⟨e0, e1, e2, e3, e4⟩, ⟨q0, q1, q2, q3, q4⟩⟩ := R.cells
                      clear S C T
                      go_wp2
                      obtain ⟨Z, hZ, z0, z1, z2, z3, z4⟩ := Z5.cells (X := V8) (v0 := .int .i64 0) (v1 := .slice a2 n2 k2) (v2 := .int .i64 kind) (v3 := .int .i64 (heldH kind who)) (v4 := .bool y) R
                      have bZ : Below w.heap.size w Z := by rw [hZ]; exact Z5.below bw (by omega)
                      have hrT : Row Z a2 n2 (outL l (goneL l who new)) := by rw [hZ]; exact HRT.out.off HH.out.offR (fun b hb _ => z5_other _ _ _ _ _ _ _ b hb)
                      have hrL : Row Z a6 n6 (tellL (goneL l who new) 1 ++ tellL (othersL (outL l (goneL l who new)) who) 2) := by rw [hZ]; exact HRL.out.off (fun _ ad e => by have := HO7.out.far ad e; omega) (fun b hb _ => z5_other _ _ _ _ _ _ _ b hb)
                      unfold Z5 at hZ
                      rw [← hZ]
                      clear hZ
                      exact bodyPost_ret (v := .tuple #[.agg #[.int .i64 0, .slice a2 n2 k2, .int .i64 kind, .int .i64 (heldH kind who), .bool y], .slice a6 n6 c6, .int .i64 0]) (by simp [results, Try.results14, go_sem, z0, z1, z2, z3, z4]) rfl (And.intro (by rw [HS.out, HG.out]; exact ⟨_, _, _, _, _, _, rfl, hrT, hrL⟩) bZ)
                    · have hgg' : decide (1000000000 < g + 1) = false := by simpa using hgg
                      have HG : Hid (cnt g = g + 1) := cnt_lo hgg
                      clear hgg
                      have HRT : Hid (Row V7 a2 n2 (outL l (goneL l who new))) := hrt3
                      have HRL : Hid (Row V7 a6 n6 (tellL (goneL l who new) 1 ++ tellL (othersL (outL l (goneL l who new)) who) 2)) := hrl3
                      obtain ⟨⟨c0, c1, c2, c3, c4⟩, _⟩ := S.cells
                      obtain ⟨d0, d1, d2, d3, d4, d5, d6, d7, d8⟩ := C.cells
                      obtain ⟨⟨m0, m1, m2, m3, m4⟩, ⟨p0, p1, p2, p3, p4⟩⟩ := T.cells
                      obtain ⟨⟨e0, e1, e2, e3, e4⟩, ⟨q0, q1, q2, q3, q4⟩⟩ := R.cells
                      clear S C T
                      go_wp2
                      obtain ⟨Z, hZ, z0, z1, z2, z3, z4⟩ := Z5.cells (X := V7) (v0 := .int .i64 (g + 1)) (v1 := .slice a2 n2 k2) (v2 := .int .i64 kind) (v3 := .int .i64 (heldH kind who)) (v4 := .bool y) R
                      have bZ : Below w.heap.size w Z := by rw [hZ]; exact Z5.below bw (by omega)
                      have hrT : Row Z a2 n2 (outL l (goneL l who new)) := by rw [hZ]; exact HRT.out.off HH.out.offR (fun b hb _ => z5_other _ _ _ _ _ _ _ b hb)
                      have hrL : Row Z a6 n6 (tellL (goneL l who new) 1 ++ tellL (othersL (outL l (goneL l who new)) who) 2) := by rw [hZ]; exact HRL.out.off (fun _ ad e => by have := HO7.out.far ad e; omega) (fun b hb _ => z5_other _ _ _ _ _ _ _ b hb)
                      unfold Z5 at hZ
                      rw [← hZ]
                      clear hZ
                      exact bodyPost_ret (v := .tuple #[.agg #[.int .i64 (g + 1), .slice a2 n2 k2, .int .i64 kind, .int .i64 (heldH kind who), .bool y], .slice a6 n6 c6, .int .i64 0]) (by simp [results, Try.results14, go_sem, z0, z1, z2, z3, z4]) rfl (And.intro (by rw [HS.out, HG.out]; exact ⟨_, _, _, _, _, _, rfl, hrT, hrL⟩) bZ)
end Go.Proofs.Ytokjacbipmfjkaa
