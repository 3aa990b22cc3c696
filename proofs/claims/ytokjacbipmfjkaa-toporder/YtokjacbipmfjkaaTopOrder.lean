/- Proved: for every state and command, the law TopOrder returns true and leaves its arguments as they were; no condition beyond the row's own. -/
import Derived.Test.YtokjacbipmfjkaaOTop
import Derived.Deep.DeepCutAuto
namespace Go.Proofs.Ytokjacbipmfjkaa
open Go.ChangeShapes Go.WideShapes Go.ChangeAt Go.RowKit Go.Deep

set_option maxRecDepth 100000 in
set_option maxHeartbeats 8000000 in
theorem topOrder_walk (g t h : Int) (a : Option Addr) (n c : Nat) (y : Bool) (l : List (Int × Int)) (op who key new kind at' : Int) (st : Bool) (da wa : ByteArray) (w : World) (hr : Row w a n l) (hop : (Lit.int .i64 op).wf = true) (hd : da.size ≤ 9223372036854775807) (hw : wa.size ≤ 9223372036854775807) :
    Calls Try.prog 4 #[stV g a n c t h y, cmV op who key new kind at' st da wa] w fun e w' => e = .returned (.bool true) ∧ Below w.heap.size w w' := by
  obtain ⟨X, hX, bX, sX, S0, C0⟩ := laidTwo w g a n c t h y op who key new kind at' st da wa
  obtain ⟨⟨c0, c1, c2, c3, c4⟩, _⟩ := S0.cells
  obtain ⟨d0, d1, d2, d3, d4, d5, d6, d7, d8⟩ := C0.cells
  go_enter Try.func4, Try.ntmps4
  go_wp2_with fail
  rw [← hX]
  clear hX c0 c1 c2 c3 c4 d0 d1 d2 d3 d4 d5 d6 d7 d8
  refine (ordered_any X).mono ?_
  rintro e w1 ⟨rfl, hb1⟩
  have bw := bX.trans (hb1.mono bX.size)
  have S := S0.later hb1 (by omega)
  have C := C0.later hb1 (by omega)
  have hs1 := hb1.size
  have hrs := hr.later bw
  clear S0 C0 hb1 bX
  obtain ⟨⟨c0, c1, c2, c3, c4⟩, _⟩ := S.cells
  obtain ⟨d0, d1, d2, d3, d4, d5, d6, d7, d8⟩ := C.cells
  go_wp2_with fail
  clear c0 c1 c2 c3 c4 d0 d1 d2 d3 d4 d5 d6 d7 d8
  refine (mayTop_any g t h a n c y l op who key new kind at' st da wa w1 hrs hop hd hw).mono ?_
  rintro e w2 ⟨rfl, hbn⟩
  have bw := bw.trans (hbn.mono bw.size)
  have hsn := hbn.size
  have S := S.later hbn S.lt
  have C := C.later hbn (by omega)
  have hrs := hrs.later hbn
  clear hbn
  cases hm : mayT g t h n l op who key new kind at' st da wa with
  | false =>
    clear hm
    go_wp2
    go_ret
    exact ⟨rfl, bw⟩
  | true =>
  obtain ⟨hn6, hf, hc⟩ := mayT_true hm
  clear hm
  by_cases hk : 6 < op
  case pos =>
    have hk' : decide (6 < op) = true := by simpa using hk
    clear hk
    obtain ⟨⟨c0, c1, c2, c3, c4⟩, _⟩ := S.cells
    obtain ⟨d0, d1, d2, d3, d4, d5, d6, d7, d8⟩ := C.cells
    go_wp2
    go_ret
    exact ⟨rfl, bw⟩
  have hk' : decide (6 < op) = false := by simpa using hk
  obtain ⟨⟨c0, c1, c2, c3, c4⟩, _⟩ := S.cells
  obtain ⟨d0, d1, d2, d3, d4, d5, d6, d7, d8⟩ := C.cells
  go_wp2_with fail
  clear c0 c1 c2 c3 c4 d0 d1 d2 d3 d4 d5 d6 d7 d8
  refine (do_any g t h a n c y l op who key new kind at' st da wa w2 hrs (by omega) (fault_g hf)).mono ?_
  rintro e w3 ⟨⟨a2, n2, k2, a3, n3, k3, rfl, hrx, hry, _, _⟩, hbn⟩
  have bw := bw.trans (hbn.mono bw.size)
  have hsn := hbn.size
  have S := S.later hbn S.lt
  have C := C.later hbn (by omega)
  have hrs := hrs.later hbn
  clear hbn
  have M0 : (doF g t h y l op who key new kind st).f ≠ 0 → doF g t h y l op who key new kind st = refused (doF g t h y l op who key new kind st).f := do_refused g t h y l op who key new kind st
  have M1 : (doF g t h y l op who key new kind st).f = 0 → fault (doF g t h y l op who key new kind st).g (doF g t h y l op who key new kind st).t (doF g t h y l op who key new kind st).h (doF g t h y l op who key new kind st).l = 0 := do_valid hf hc
  have M2 : (doF g t h y l op who key new kind st).f = 0 → op ≠ 2 → keyOf l who = key := fun e h2 => do_key hc.op1 (by omega) h2 e
  generalize hoo : doF g t h y l op who key new kind st = oo at *
  obtain ⟨V, hV⟩ : ∃ V, V = w3.alloc (.cells #[.int .i64 oo.g, .slice a2 n2 k2, .int .i64 oo.t, .int .i64 oo.h, .bool oo.y] 24) := ⟨_, rfl⟩
  have T : StB V w3.heap.size oo.g a2 n2 k2 oo.t oo.h oo.y := by rw [hV]; exact heap_alloc_new w3 _
  have hbn : Below w3.heap.size w3 V := by rw [hV]; exact (Below.refl _ _).alloc (Nat.le_refl _) _
  have hrx := hrx.later hbn
  have hry := hry.later hbn
  have bw := bw.trans (hbn.mono bw.size)
  have hsn := hbn.size
  have S := S.later hbn S.lt
  have C := C.later hbn (by omega)
  have hrs := hrs.later hbn
  clear hbn hoo
  by_cases hof : oo.f = 0
  · have he : errV oo.f = .nilIface := by rw [hof]; rfl
    have HV : Hid (fault oo.g oo.t oo.h oo.l = 0) := M1 hof
    have HK : Hid (op ≠ 2 → keyOf l who = key) := M2 hof
    have HX : Hid (Row V a2 n2 oo.l) := hrx
    clear M0 M1 M2 hof hrx hry
    obtain ⟨⟨c0, c1, c2, c3, c4⟩, _⟩ := S.cells
    obtain ⟨d0, d1, d2, d3, d4, d5, d6, d7, d8⟩ := C.cells
    obtain ⟨⟨m0, m1, m2, m3, m4⟩, _⟩ := T.cells
    go_wp2_with fail
    rw [← hV]
    clear hV
    clear c0 c1 c2 c3 c4 d0 d1 d2 d3 d4 d5 d6 d7 d8 m0 m1 m2 m3 m4
    refine (check_any oo.g oo.t oo.h a2 n2 k2 oo.y oo.l V HX.out).mono ?_
    rintro e w4 ⟨rfl, hbn⟩
    rw [HV.out, errV_0]
    have bw := bw.trans (hbn.mono bw.size)
    have hsn := hbn.size
    have S := S.later hbn S.lt
    have C := C.later hbn (by omega)
    have hrs := hrs.later hbn
    clear hbn
    obtain ⟨⟨c0, c1, c2, c3, c4⟩, _⟩ := S.cells
    obtain ⟨d0, d1, d2, d3, d4, d5, d6, d7, d8⟩ := C.cells
    go_upto_region 11 with fail
    have q0 : ∀ p : LW w4, p.val.cell? ⟨w.heap.size, 0, Option.none⟩ = some (.int .i64 g) := fun p => cell_later p.ok c0
    have q1 : ∀ p : LW w4, p.val.cell? ⟨w.heap.size, 1, Option.none⟩ = some (.slice a n c) := fun p => cell_later p.ok c1
    have q2 : ∀ p : LW w4, p.val.cell? ⟨w.heap.size, 2, Option.none⟩ = some (.int .i64 t) := fun p => cell_later p.ok c2
    have q3 : ∀ p : LW w4, p.val.cell? ⟨w.heap.size, 3, Option.none⟩ = some (.int .i64 h) := fun p => cell_later p.ok c3
    have q4 : ∀ p : LW w4, p.val.cell? ⟨w.heap.size, 4, Option.none⟩ = some (.bool y) := fun p => cell_later p.ok c4
    have q5 : ∀ p : LW w4, p.val.cell? ⟨w.heap.size + 1, 0, Option.none⟩ = some (.int .i64 op) := fun p => cell_later p.ok d0
    have q6 : ∀ p : LW w4, p.val.cell? ⟨w.heap.size + 1, 1, Option.none⟩ = some (.int .i64 who) := fun p => cell_later p.ok d1
    have q7 : ∀ p : LW w4, p.val.cell? ⟨w.heap.size + 1, 2, Option.none⟩ = some (.int .i64 key) := fun p => cell_later p.ok d2
    have hinh : Nonempty (LW w4) := ⟨⟨w4, Below.refl _ _⟩⟩
    have HR : Hid (∀ p : LW w4, Row p.val a n l) := fun p => hrs.later p.ok
    clear c0 c1 c2 c3 c4 d0 d1 d2 d3 d4 d5 d6 d7 d8
    by_cases h2 : op = 2
    · have h2' : (op == 2) = true := by simpa using h2
      clear h2
      refine wp_region_lw (by kernel_rfl) (by kernel_rfl) ?_
      repeat (go_big_quiet_step (fail))
      refine wpQuiet_nil ?_
      rintro _ ⟨⟨wq, hbq⟩, rfl⟩
      go_wp2
      go_ret
      exact ⟨rfl, bw.trans (hbq.mono bw.size)⟩
    · have h2' : (op == 2) = false := by simpa using h2
      have HQ : Hid ((keyOf l who == key) = true) := by show _ = _; rw [HK.out h2]; simp
      clear h2
      refine wp_region_lw (by kernel_rfl) (by kernel_rfl) ?_
      repeat (go_big_quiet_step ((go_at_call 24; exact Calls.quiet_lw (key_any g t h a n c y l who _ (HR.out _)))))
      refine wpQuiet_nil ?_
      rintro _ ⟨⟨wq, hbq⟩, rfl⟩
      go_wp2
      go_ret
      exact ⟨ret_bool HQ.out, bw.trans (hbq.mono bw.size)⟩
  · have he := errV_pos hof
    have hz := M0 hof
    have hn3 : n3 = 0 := by have := hry.1; rw [hz] at this; simpa [refused] using this.symm
    have HX : Hid (Row V a2 n2 []) := by have := hrx; rw [hz] at this; exact this
    have HZ : Hid (stV oo.g a2 n2 k2 oo.t oo.h oo.y = stV 0 a2 n2 k2 0 0 false) := by show _ = _; rw [hz]; rfl
    subst hn3
    clear M0 M1 M2 hof hrx hry hz
    obtain ⟨⟨m0, m1, m2, m3, m4⟩, _⟩ := T.cells
    go_wp2_with fail
    rw [← hV]
    have HS : Calls Try.prog 16 #[stV oo.g a2 n2 k2 oo.t oo.h oo.y, stV 0 Option.none 0 0 0 0 false] V fun e w' => e = .returned (.bool true) ∧ Below V.heap.size V w' := by
      rw [HZ.out]; exact sameState_any 0 0 0 a2 Option.none n2 0 k2 0 false [] V HX.out (row_nil _)
    refine HS.mono ?_
    rintro e w4 ⟨rfl, hbn⟩
    clear hV m0 m1 m2 m3 m4 HS
    go_wp2
    go_ret
    exact ⟨rfl, bw.trans (hbn.mono bw.size)⟩

set_option maxRecDepth 100000 in
theorem topOrder_lifted (os : Os) (started : os.Started) (H : Type) (enc : TypeId × Value → H) :
    ReturnsInHanded {} Try.checked os 4 .any (Rows.topOrderSpec.pre6 enc Try.prog Try.f4 Rows.topOrderRow.domain false) (Rows.topOrderSpec.post enc Try.prog Try.f4 false true false false) := by
  refine returnsInHanded_of_change (C := Try.checked) own started (by kernel_rfl) Try.func4
    (ChangeSpec.witness6 (enc := enc) (C := Try.checked) false ⟨#[], #[stV 0 Option.none 0 0 0 0 false, cmV 0 0 0 0 0 0 false ⟨#[]⟩ ⟨#[]⟩], []⟩ 8 (by kernel_rfl) (by kernel_rfl) (by kernel_rfl) (by kernel_rfl)) ?_
  intro W base args ds gs before hval0 hW hcnd _
  have hval : ∀ (j : Nat) t v, Try.f4.params[j]? = some t → args[j]? = some v → Value.okWide Try.prog W .any base t v := hval0
  have hW' := hW
  obtain ⟨p, q, hA0, hV, rfl, hfz, hnd⟩ := hW
  have hA : DataW.TrodAll enc Try.prog W 0 (fun _ => true) true Try.f4.params.toList args.toList ds p := hA0
  rw [Try.params4] at hA hval
  obtain ⟨v0, v1, d0, d1, p0, p1, rfl, rfl, rfl, h0, h1⟩ := trodAll_two hA
  obtain ⟨rfl, rfl⟩ := trodVars_none hV
  have k0 := h0
  have k1 := h1
  have lt0 : ∀ x ∈ p0, x.block < W.heap.size := by obtain ⟨m, hm⟩ := k0; exact DataW.trod_lt m _ _ _ hm
  have lt1 : ∀ x ∈ p1, x.block < W.heap.size := by obtain ⟨m, hm⟩ := k1; exact DataW.trod_lt m _ _ _ hm
  obtain ⟨g0, a0, n0, c0, t0, hd0, y0, l0, rfl, row0⟩ := open_state (hval 0 24 v0 rfl rfl) h0
  obtain ⟨op, who, key, new, kind, at', st, da, wa, rfl, hop, hd, hw⟩ := open_command (hval 1 26 v1 rfl rfl) h1
  clear hA0 hval0
  refine (topOrder_walk g0 t0 hd0 a0 n0 c0 y0 l0 op who key new kind at' st da wa W row0 hop hd hw).mono fun e W' ⟨he, bel⟩ => ?_
  subst he
  exact ⟨_, rfl, _, _, _, [], _, [], hW', trodAll_mk1 (shut_bool Try.underlying4 _), (trodAll_cons_mk (Below.trod laidOut (by kernel_rfl) (of_decide_eq_true (by kernel_rfl)) k0 bel lt0) (trodAll_cons_mk (Below.trod laidOut (by kernel_rfl) (of_decide_eq_true (by kernel_rfl)) k1 bel lt1) trodAll_mk0)), rfl, bel.frame _, fun h => by cases h⟩

theorem topOrder_holds : Rows.TopOrderSaid :=
  OpenClaim.holds_of_wide 4 Try.f4 rfl rfl rfl rfl rfl rfl rfl ⟨rfl, rfl, rfl, rfl, rfl⟩ rfl rfl rfl rfl rfl (by kernel_rfl) Try.func4 (by kernel_rfl)
    (of_decide_eq_true (by kernel_rfl)) (by unfold Func.isWrapper; first | (rw [if_pos (by decide +kernel)]; kernel_rfl) | (rw [if_neg (by decide +kernel)]; exact ⟨rfl, rfl⟩))
    (fun os started H enc _ => topOrder_lifted os started H enc)
#print axioms topOrder_holds
end Go.Proofs.Ytokjacbipmfjkaa
