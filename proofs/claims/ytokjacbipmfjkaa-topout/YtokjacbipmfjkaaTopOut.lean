/- Proved: for every state and command, the law TopOut returns true and leaves its arguments as they were; no condition beyond the row's own. -/
import Derived.Test.YtokjacbipmfjkaaOTop
import Derived.Test.YtokjacbipmfjkaaOMath2
import Derived.Deep.DeepCutAuto
namespace Go.Proofs.Ytokjacbipmfjkaa
open Go.ChangeShapes Go.WideShapes Go.ChangeAt Go.RowKit Go.Deep

set_option maxRecDepth 100000 in
set_option maxHeartbeats 8000000 in
theorem topOut_walk (g t h : Int) (a : Option Addr) (n c : Nat) (y : Bool) (l : List (Int × Int)) (op who key new kind at' : Int) (st : Bool) (da wa : ByteArray) (w : World) (hr : Row w a n l) (hop : (Lit.int .i64 op).wf = true) (hd : da.size ≤ 9223372036854775807) (hw : wa.size ≤ 9223372036854775807) :
    Calls Try.prog 5 #[stV g a n c t h y, cmV op who key new kind at' st da wa] w fun e w' => e = .returned (.bool true) ∧ Below w.heap.size w w' := by
  obtain ⟨X, hX, bX, sX, S0, C0⟩ := laidTwo w g a n c t h y op who key new kind at' st da wa
  obtain ⟨⟨c0, c1, c2, c3, c4⟩, _⟩ := S0.cells
  obtain ⟨d0, d1, d2, d3, d4, d5, d6, d7, d8⟩ := C0.cells
  go_enter Try.func5, Try.ntmps5
  go_wp2_with fail
  rw [← hX]
  clear hX c0 c1 c2 c3 c4 d0 d1 d2 d3 d4 d5 d6 d7 d8
  refine (ordered_any X).mono ?_
  rintro e w1 ⟨rfl, hb1⟩
  have bw := bX.trans (hb1.mono bX.size)
  have S := S0.later hb1 (by omega)
  have C := C0.later hb1 (by omega)
  have hs1 := hb1.size
  have hrs := hr.later bw
  clear S0 C0 hb1 bX
  obtain ⟨⟨c0, c1, c2, c3, c4⟩, _⟩ := S.cells
  obtain ⟨d0, d1, d2, d3, d4, d5, d6, d7, d8⟩ := C.cells
  go_wp2_with fail
  clear c0 c1 c2 c3 c4 d0 d1 d2 d3 d4 d5 d6 d7 d8
  refine (mayTop_any g t h a n c y l op who key new kind at' st da wa w1 hrs hop hd hw).mono ?_
  rintro e w2 ⟨rfl, hbn⟩
  have bw := bw.trans (hbn.mono bw.size)
  have hsn := hbn.size
  have S := S.later hbn S.lt
  have C := C.later hbn (by omega)
  have hrs := hrs.later hbn
  clear hbn
  cases hm : mayT g t h n l op who key new kind at' st da wa with
  | false =>
    clear hm
    go_wp2
    go_ret
    exact ⟨rfl, bw⟩
  | true =>
  obtain ⟨hn6, hf, hc⟩ := mayT_true hm
  clear hm
  by_cases hk : op ≠ 6
  case pos =>
    have hk' : (op != 6) = true := by simpa using hk
    clear hk
    obtain ⟨⟨c0, c1, c2, c3, c4⟩, _⟩ := S.cells
    obtain ⟨d0, d1, d2, d3, d4, d5, d6, d7, d8⟩ := C.cells
    go_wp2
    go_ret
    exact ⟨rfl, bw⟩
  have hk' : (op != 6) = false := by simpa using hk
  obtain ⟨⟨c0, c1, c2, c3, c4⟩, _⟩ := S.cells
  obtain ⟨d0, d1, d2, d3, d4, d5, d6, d7, d8⟩ := C.cells
  go_wp2_with fail
  clear c0 c1 c2 c3 c4 d0 d1 d2 d3 d4 d5 d6 d7 d8
  refine (do_any g t h a n c y l op who key new kind at' st da wa w2 hrs (by omega) (fault_g hf)).mono ?_
  rintro e w3 ⟨⟨a2, n2, k2, a3, n3, k3, rfl, hrx, hry, _, _⟩, hbn⟩
  have bw := bw.trans (hbn.mono bw.size)
  have hsn := hbn.size
  have S := S.later hbn S.lt
  have C := C.later hbn (by omega)
  have hrs := hrs.later hbn
  clear hbn
  have M0 : (doF g t h y l op who key new kind st).f = 0 → _ := fun e => do_out (st := st) (y := y) hf hc (by omega) e
  generalize hoo : doF g t h y l op who key new kind st = oo at *
  obtain ⟨V, hV⟩ : ∃ V, V = w3.alloc (.cells #[.int .i64 oo.g, .slice a2 n2 k2, .int .i64 oo.t, .int .i64 oo.h, .bool oo.y] 24) := ⟨_, rfl⟩
  have T : StB V w3.heap.size oo.g a2 n2 k2 oo.t oo.h oo.y := by rw [hV]; exact heap_alloc_new w3 _
  have hbn : Below w3.heap.size w3 V := by rw [hV]; exact (Below.refl _ _).alloc (Nat.le_refl _) _
  have hrx := hrx.later hbn
  have hry := hry.later hbn
  have bw := bw.trans (hbn.mono bw.size)
  have hsn := hbn.size
  have S := S.later hbn S.lt
  have C := C.later hbn (by omega)
  have hrs := hrs.later hbn
  clear hbn hoo
  by_cases hof : oo.f = 0
  case neg =>
    have he := errV_pos hof
    clear M0 hof hrx hry
    go_wp2
    go_ret
    rw [← hV]
    exact ⟨rfl, bw⟩
  have he : errV oo.f = .nilIface := by rw [hof]; rfl
  obtain ⟨M1, M2, M3⟩ := M0 hof
  have hlx := hrx.1
  have H1 : Hid (∀ r ∈ oo.l, (r.1 = who ∨ (r.2 ≠ new ∧ new ≠ 0)) ∧ keyOf l r.1 = r.2) := M1
  have H2 : Hid (keyOf oo.l who = key) := M2
  have H3 : Hid ((outC t h l new = true ∧ holdsB oo.t oo.h oo.l who = true ∧ oo.t = kind) ∨ (outC t h l new = false ∧ oo.t = t ∧ oo.h = h)) := M3
  have HX : Hid (Row V a2 n2 oo.l) := hrx
  have HS : Hid (Row V a n l) := hrs
  have hn2 := hrx.2.1
  clear M0 M1 M2 M3 hof hrx hry hrs hf hc
  go_wp2_with fail
  rw [← hV]
  clear hV
  have hKw : w.heap.size + 2 ≤ w3.heap.size := by omega
  go_loopw [9] (fun i wr => ∃ k : Nat, k ≤ n2 ∧ i = .int .i64 k ∧ Below V.heap.size V wr) (fun i _ => n2 - (intOf i).toNat)
  case atStart => exact ⟨0, Nat.zero_le _, rfl, Below.refl _ _⟩
  case round =>
    obtain ⟨k, hk, rfl, hbn⟩ := hrel
    have bw := bw.trans (hbn.mono bw.size)
    have hsn := hbn.size
    have S := S.later hbn S.lt
    have C := C.later hbn (by omega)
    have T := T.later hbn T.lt
    have hrx := HX.out.later hbn
    have HS : Hid (Row wr a n l) := HS.out.later hbn
    obtain ⟨⟨m0, m1, m2, m3, m4⟩, _⟩ := T.cells
    by_cases hlt : k < n2
    · have HB : Hid (Below V.heap.size V wr) := hbn
      obtain ⟨b, off, rfl, hcc⟩ := hrx.2.2 (by omega)
      obtain ⟨hc0, hc1⟩ := hcc k (by omega)
      have hM := H1.out oo.l[k] (List.getElem_mem _)
      clear hcc hrx hbn
      have hki : (k : Int) < (n2 : Int) := by omega
      generalize oo.l[k] = r at *
      obtain ⟨Y, hY⟩ : ∃ Y, Y = wr.alloc (.cells #[.int .i64 r.1, .int .i64 r.2] 49) := ⟨_, rfl⟩
      have hbY : Below wr.heap.size wr Y := by rw [hY]; exact (Below.refl _ _).alloc (Nat.le_refl _) _
      have g0 : Y.cell? ⟨wr.heap.size, 0, Option.none⟩ = some (.int .i64 r.1) := by rw [hY]; simp [go_sem]
      have g1 : Y.cell? ⟨wr.heap.size, 1, Option.none⟩ = some (.int .i64 r.2) := by rw [hY]; simp [go_sem]
      go_upto_region 13 with fail
      rw [← hY]
      have S := S.later hbY S.lt
      have C := C.later hbY (by omega)
      have HK : Hid (∀ p : LW Y, Row p.val a n l) := fun p => HS.out.later (hbY.trans (p.ok.mono hbY.size))
      obtain ⟨⟨c0, c1, c2, c3, c4⟩, _⟩ := S.cells
      obtain ⟨d0, d1, d2, d3, d4, d5, d6, d7, d8⟩ := C.cells
      have hinh : Nonempty (LW Y) := ⟨⟨Y, Below.refl _ _⟩⟩
      have q0 : ∀ p : LW Y, p.val.cell? ⟨w.heap.size, 0, Option.none⟩ = some (.int .i64 g) := fun p => cell_later p.ok c0
      have q1 : ∀ p : LW Y, p.val.cell? ⟨w.heap.size, 1, Option.none⟩ = some (.slice a n c) := fun p => cell_later p.ok c1
      have q2 : ∀ p : LW Y, p.val.cell? ⟨w.heap.size, 2, Option.none⟩ = some (.int .i64 t) := fun p => cell_later p.ok c2
      have q3 : ∀ p : LW Y, p.val.cell? ⟨w.heap.size, 3, Option.none⟩ = some (.int .i64 h) := fun p => cell_later p.ok c3
      have q4 : ∀ p : LW Y, p.val.cell? ⟨w.heap.size, 4, Option.none⟩ = some (.bool y) := fun p => cell_later p.ok c4
      have q5 : ∀ p : LW Y, p.val.cell? ⟨w.heap.size + 1, 1, Option.none⟩ = some (.int .i64 who) := fun p => cell_later p.ok d1
      have q6 : ∀ p : LW Y, p.val.cell? ⟨w.heap.size + 1, 3, Option.none⟩ = some (.int .i64 new) := fun p => cell_later p.ok d3
      have j0 : ∀ p : LW Y, p.val.cell? ⟨wr.heap.size, 0, Option.none⟩ = some (.int .i64 r.1) := fun p => cell_later p.ok g0
      have j1 : ∀ p : LW Y, p.val.cell? ⟨wr.heap.size, 1, Option.none⟩ = some (.int .i64 r.2) := fun p => cell_later p.ok g1
      have HKK : Hid (keyOf l r.1 = r.2) := hM.2
      have HBY : Hid (Below wr.heap.size wr Y) := hbY
      clear hY hbY g0 g1 c0 c1 c2 c3 c4 d0 d1 d2 d3 d4 d5 d6 d7 d8 m0 m1 m2 m3 m4 S C T HS hc0 hc1
      have HW : Hid (r.1 = who ∨ (r.2 ≠ new ∧ new ≠ 0)) := hM.1
      have hkk : (keyOf l r.1 != r.2) = false := by rw [HKK.out]; simp
      clear hM
      by_cases hA : r.1 = who
      · have hA' : (r.1 != who) = false := by simpa using hA
        clear hA
        refine wp_region_lw (by kernel_rfl) (by kernel_rfl) ?_
        repeat (go_big_quiet_step ((go_at_call 24; exact Calls.quiet_lw (key_any g t h a n c y l r.1 _ (HK.out _)))))
        refine wpQuiet_nil ?_
        rintro _ ⟨⟨wq, hbq⟩, rfl⟩
        go_wp2
        go_roundw
        case rel => exact ⟨k + 1, by omega, by go_num, HB.out.trans ((HBY.out.trans (hbq.mono HBY.out.size)).mono HB.out.size)⟩
        case measure => simp [intOf]; omega
      · have hA' : (r.1 != who) = true := by simpa using hA
        have hB' : (r.2 == new) = false := by simpa using (HW.out.resolve_left hA).1
        have hC' : (new == 0) = false := by simpa using (HW.out.resolve_left hA).2
        clear hA
        refine wp_region_lw (by kernel_rfl) (by kernel_rfl) ?_
        repeat (go_big_quiet_step ((go_at_call 24; exact Calls.quiet_lw (key_any g t h a n c y l r.1 _ (HK.out _)))))
        refine wpQuiet_nil ?_
        rintro _ ⟨⟨wq, hbq⟩, rfl⟩
        go_wp2
        go_roundw
        case rel => exact ⟨k + 1, by omega, by go_num, HB.out.trans ((HBY.out.trans (hbq.mono HBY.out.size)).mono HB.out.size)⟩
        case measure => simp [intOf]; omega
    · have hlt' : decide ((k : Int) < (n2 : Int)) = false := by simp; omega
      clear hbn
      obtain ⟨⟨c0, c1, c2, c3, c4⟩, _⟩ := S.cells
      obtain ⟨d0, d1, d2, d3, d4, d5, d6, d7, d8⟩ := C.cells
      go_upto_region 15 with fail
      have HKx : Hid (∀ p : LW wr, Row p.val a2 n2 oo.l) := fun p => hrx.later p.ok
      have q0 : ∀ p : LW wr, p.val.cell? ⟨w3.heap.size, 0, Option.none⟩ = some (.int .i64 oo.g) := fun p => cell_later p.ok m0
      have q1 : ∀ p : LW wr, p.val.cell? ⟨w3.heap.size, 1, Option.none⟩ = some (.slice a2 n2 k2) := fun p => cell_later p.ok m1
      have q2 : ∀ p : LW wr, p.val.cell? ⟨w3.heap.size, 2, Option.none⟩ = some (.int .i64 oo.t) := fun p => cell_later p.ok m2
      have q3 : ∀ p : LW wr, p.val.cell? ⟨w3.heap.size, 3, Option.none⟩ = some (.int .i64 oo.h) := fun p => cell_later p.ok m3
      have q4 : ∀ p : LW wr, p.val.cell? ⟨w3.heap.size, 4, Option.none⟩ = some (.bool oo.y) := fun p => cell_later p.ok m4
      have q5 : ∀ p : LW wr, p.val.cell? ⟨w.heap.size + 1, 1, Option.none⟩ = some (.int .i64 who) := fun p => cell_later p.ok d1
      have q6 : ∀ p : LW wr, p.val.cell? ⟨w.heap.size + 1, 2, Option.none⟩ = some (.int .i64 key) := fun p => cell_later p.ok d2
      have hinh : Nonempty (LW wr) := ⟨⟨wr, Below.refl _ _⟩⟩
      have HRX : Hid (Row wr a2 n2 oo.l) := hrx
      clear c0 c1 c2 c3 c4 d0 d1 d2 d3 d4 d5 d6 d7 d8 m0 m1 m2 m3 m4 hrx
      have hkk : (keyOf oo.l who != key) = false := by rw [H2.out]; simp
      refine wp_region_lw (by kernel_rfl) (by kernel_rfl) ?_
      repeat (go_big_quiet_step ((go_at_call 24; exact Calls.quiet_lw (key_any oo.g oo.t oo.h a2 n2 k2 oo.y oo.l who _ (HKx.out _)))))
      refine wpQuiet_nil ?_
      rintro w5 ⟨⟨_, hbn⟩, rfl⟩
      have bw := bw.trans (hbn.mono bw.size)
      have hsn := hbn.size
      have S := S.later hbn S.lt
      have C := C.later hbn (by omega)
      have T := T.later hbn T.lt
      have HS : Hid (Row w5 a n l) := HS.out.later hbn
      have HRX : Hid (Row w5 a2 n2 oo.l) := HRX.out.later hbn
      clear q0 q1 q2 q3 q4 q5 q6 hbn HKx hinh
      obtain ⟨⟨c0, c1, c2, c3, c4⟩, _⟩ := S.cells
      obtain ⟨d0, d1, d2, d3, d4, d5, d6, d7, d8⟩ := C.cells
      go_upto_region 17 with fail
      go_cut [98] (fun b wx => b = .bool (outC t h l new) ∧ Below w5.heap.size w5 wx)
      case first =>
        have q0 : ∀ p : LW w5, p.val.cell? ⟨w.heap.size, 0, Option.none⟩ = some (.int .i64 g) := fun p => cell_later p.ok c0
        have q1 : ∀ p : LW w5, p.val.cell? ⟨w.heap.size, 1, Option.none⟩ = some (.slice a n c) := fun p => cell_later p.ok c1
        have q2 : ∀ p : LW w5, p.val.cell? ⟨w.heap.size, 2, Option.none⟩ = some (.int .i64 t) := fun p => cell_later p.ok c2
        have q3 : ∀ p : LW w5, p.val.cell? ⟨w.heap.size, 3, Option.none⟩ = some (.int .i64 h) := fun p => cell_later p.ok c3
        have q4 : ∀ p : LW w5, p.val.cell? ⟨w.heap.size, 4, Option.none⟩ = some (.bool y) := fun p => cell_later p.ok c4
        have q5 : ∀ p : LW w5, p.val.cell? ⟨w.heap.size + 1, 3, Option.none⟩ = some (.int .i64 new) := fun p => cell_later p.ok d3
        have hinh : Nonempty (LW w5) := ⟨⟨w5, Below.refl _ _⟩⟩
        have HK : Hid (∀ p : LW w5, Row p.val a n l) := fun p => HS.out.later p.ok
        have HD : Hid (outC t h l new = ((decide (0 < t) && !allB t && keyOf l h == new) || new == 0)) := rfl
        clear c0 c1 c2 c3 c4 d0 d1 d2 d3 d4 d5 d6 d7 d8 S C T HS HRX
        cases b1 : decide (0 < t) <;> cases b2 : allB t <;> cases b3 : (keyOf l h == new) <;> cases b4 : (new == 0)
        all_goals
          refine wp_region_lw (by kernel_rfl) (by kernel_rfl) ?_
          repeat (go_big_quiet_step ((first | (go_at_call 24; exact Calls.quiet_lw (key_any g t h a n c y l h _ (HK.out _))) | (go_at_call 25; exact Calls.quiet_lw (all_any g t h a n c y _)))))
          refine wpQuiet_nil ?_
          rintro _ ⟨⟨wq, hbq⟩, rfl⟩
          go_wp2
          go_meet
          exact ⟨by rw [HD.out, b1, b2, b3, b4]; rfl, hbq⟩
      case rest =>
        obtain ⟨rfl, hbn⟩ := hcut
        obtain ⟨w6, rfl⟩ : ∃ W, W = wc := ⟨_, rfl⟩
        clear c0 c1 c2 c3 c4 d0 d1 d2 d3 d4 d5 d6 d7 d8
        have bw := bw.trans (hbn.mono bw.size)
        have hsn := hbn.size
        have S := S.later hbn S.lt
        have C := C.later hbn (by omega)
        have T := T.later hbn T.lt
        have HRX : Hid (Row w6 a2 n2 oo.l) := HRX.out.later hbn
        clear hbn
        rcases H3.out with ⟨e1, e2, e3⟩ | ⟨e1, e2, e3⟩
        · rw [e1]
          have HE2 : Hid (holdsB oo.t oo.h oo.l who = true) := e2
          have HE3 : Hid (oo.t = kind) := e3
          clear e1 e2 e3 H3
          obtain ⟨⟨c0, c1, c2, c3, c4⟩, _⟩ := S.cells
          obtain ⟨d0, d1, d2, d3, d4, d5, d6, d7, d8⟩ := C.cells
          obtain ⟨⟨m0, m1, m2, m3, m4⟩, _⟩ := T.cells
          go_wp2_with fail
          clear c0 c1 c2 c3 c4 d0 d1 d2 d3 d4 d5 d6 d7 d8 m0 m1 m2 m3 m4
          refine (holds_any oo.g oo.t oo.h a2 n2 k2 oo.y oo.l who w6 HRX.out).mono ?_
          rintro e w7 ⟨rfl, hbn⟩
          have bw := bw.trans (hbn.mono bw.size)
          have C := C.later hbn (by omega)
          have T := T.later hbn T.lt
          rw [HE2.out]
          obtain ⟨d0, d1, d2, d3, d4, d5, d6, d7, d8⟩ := C.cells
          obtain ⟨⟨m0, m1, m2, m3, m4⟩, _⟩ := T.cells
          clear S C T HRX hbn
          go_wp2
          go_ret
          exact ⟨ret_bool (by rw [HE3.out]; simp), bw⟩
        · rw [e1]
          have e2' : (oo.t == t) = true := by simpa using e2
          have HE3 : Hid (oo.h = h) := e3
          clear e1 e2 e3 H3
          obtain ⟨⟨c0, c1, c2, c3, c4⟩, _⟩ := S.cells
          obtain ⟨d0, d1, d2, d3, d4, d5, d6, d7, d8⟩ := C.cells
          obtain ⟨⟨m0, m1, m2, m3, m4⟩, _⟩ := T.cells
          clear S C T HRX
          go_wp2
          go_ret
          exact ⟨ret_bool (by rw [HE3.out]; simp), bw⟩

set_option maxRecDepth 100000 in
theorem topOut_lifted (os : Os) (started : os.Started) (H : Type) (enc : TypeId × Value → H) :
    ReturnsInHanded {} Try.checked os 5 .any (Rows.topOutSpec.pre6 enc Try.prog Try.f5 Rows.topOutRow.domain false) (Rows.topOutSpec.post enc Try.prog Try.f5 false true false false) := by
  refine returnsInHanded_of_change (C := Try.checked) own started (by kernel_rfl) Try.func5
    (ChangeSpec.witness6 (enc := enc) (C := Try.checked) false ⟨#[], #[stV 0 Option.none 0 0 0 0 false, cmV 0 0 0 0 0 0 false ⟨#[]⟩ ⟨#[]⟩], []⟩ 8 (by kernel_rfl) (by kernel_rfl) (by kernel_rfl) (by kernel_rfl)) ?_
  intro W base args ds gs before hval0 hW hcnd _
  have hval : ∀ (j : Nat) t v, Try.f5.params[j]? = some t → args[j]? = some v → Value.okWide Try.prog W .any base t v := hval0
  have hW' := hW
  obtain ⟨p, q, hA0, hV, rfl, hfz, hnd⟩ := hW
  have hA : DataW.TrodAll enc Try.prog W 0 (fun _ => true) true Try.f5.params.toList args.toList ds p := hA0
  rw [Try.params5] at hA hval
  obtain ⟨v0, v1, d0, d1, p0, p1, rfl, rfl, rfl, h0, h1⟩ := trodAll_two hA
  obtain ⟨rfl, rfl⟩ := trodVars_none hV
  have k0 := h0
  have k1 := h1
  have lt0 : ∀ x ∈ p0, x.block < W.heap.size := by obtain ⟨m, hm⟩ := k0; exact DataW.trod_lt m _ _ _ hm
  have lt1 : ∀ x ∈ p1, x.block < W.heap.size := by obtain ⟨m, hm⟩ := k1; exact DataW.trod_lt m _ _ _ hm
  obtain ⟨g0, a0, n0, c0, t0, hd0, y0, l0, rfl, row0⟩ := open_state (hval 0 24 v0 rfl rfl) h0
  obtain ⟨op, who, key, new, kind, at', st, da, wa, rfl, hop, hd, hw⟩ := open_command (hval 1 26 v1 rfl rfl) h1
  clear hA0 hval0
  refine (topOut_walk g0 t0 hd0 a0 n0 c0 y0 l0 op who key new kind at' st da wa W row0 hop hd hw).mono fun e W' ⟨he, bel⟩ => ?_
  subst he
  exact ⟨_, rfl, _, _, _, [], _, [], hW', trodAll_mk1 (shut_bool Try.underlying4 _), (trodAll_cons_mk (Below.trod laidOut (by kernel_rfl) (of_decide_eq_true (by kernel_rfl)) k0 bel lt0) (trodAll_cons_mk (Below.trod laidOut (by kernel_rfl) (of_decide_eq_true (by kernel_rfl)) k1 bel lt1) trodAll_mk0)), rfl, bel.frame _, fun h => by cases h⟩

theorem topOut_holds : Rows.TopOutSaid :=
  OpenClaim.holds_of_wide 5 Try.f5 rfl rfl rfl rfl rfl rfl rfl ⟨rfl, rfl, rfl, rfl, rfl⟩ rfl rfl rfl rfl rfl (by kernel_rfl) Try.func5 (by kernel_rfl)
    (of_decide_eq_true (by kernel_rfl)) (by unfold Func.isWrapper; first | (rw [if_pos (by decide +kernel)]; kernel_rfl) | (rw [if_neg (by decide +kernel)]; exact ⟨rfl, rfl⟩))
    (fun os started H enc _ => topOut_lifted os started H enc)
#print axioms topOut_holds
end Go.Proofs.Ytokjacbipmfjkaa
