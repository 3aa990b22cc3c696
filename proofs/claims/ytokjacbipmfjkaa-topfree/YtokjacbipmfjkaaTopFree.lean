/- Proved: for every state and command, the law TopFree returns true and leaves its arguments as they were; no condition beyond the row's own. -/
import Derived.Test.YtokjacbipmfjkaaOTop
import Derived.Test.YtokjacbipmfjkaaOLess
import Derived.Deep.DeepCutAuto
namespace Go.Proofs.Ytokjacbipmfjkaa
open Go.ChangeShapes Go.WideShapes Go.ChangeAt Go.RowKit Go.Deep

theorem less_same (t h : Int) (l : List (Int × Int)) : ¬ LessP t h l t h l := by
  rintro ⟨k, _, e⟩
  revert e
  unfold less1
  cases mayB t h l (k + 1) false <;> cases mayB t h l (k + 1) true <;> decide
theorem less_free (t h : Int) (l : List (Int × Int)) (h' : Int) (l' : List (Int × Int)) : ¬ LessP t h l 0 h' l' := by
  rintro ⟨k, _, e⟩
  have h0 : ∀ wr, mayB 0 h' l' (k + 1) wr = true := fun wr => rfl
  revert e
  unfold less1
  rw [h0, h0]
  simp
theorem do_free {g t h : Int} {y : Bool} {l : List (Int × Int)} {op who key new kind : Int} {st : Bool} (h45 : op = 4 ∨ op = 5) (h0 : (doF g t h y l op who key new kind st).f = 0) :
    ¬ LessP t h l (doF g t h y l op who key new kind st).t (doF g t h y l op who key new kind st).h (doF g t h y l op who key new kind st).l ∧
    (op = 5 → (doF g t h y l op who key new kind st).l = [] ∧ (doF g t h y l op who key new kind st).t = 0) ∧
    (op = 4 → (doF g t h y l op who key new kind st).l = l ∧ ((doF g t h y l op who key new kind st).t = 0 ∨ ((doF g t h y l op who key new kind st).t = t ∧ holdsB t h l who = false))) := by
  rcases h45 with rfl | rfl
  · have e : doF g t h y l 4 who key new kind st = releaseF g t h y l who key kind := by
      unfold doF; rw [if_neg (by decide), if_neg (by decide), if_pos rfl]
    rw [e] at h0 ⊢
    revert h0
    unfold releaseF
    split
    · intro h0; exact absurd h0 refused_4
    · split
      · rename_i hH
        intro _; exact ⟨less_same t h l, fun e => by omega, fun _ => ⟨rfl, .inr ⟨rfl, hH⟩⟩⟩
      · split
        · intro h0; exact absurd h0 refused_5
        · split
          · intro _; exact ⟨less_free t h l 0 l, fun e => by omega, fun _ => ⟨rfl, .inl rfl⟩⟩
          · intro _; exact ⟨less_free t h l 0 l, fun e => by omega, fun _ => ⟨rfl, .inl rfl⟩⟩
  · have e : doF g t h y l 5 who key new kind st = clearF g y l who key := by
      unfold doF; rw [if_neg (by decide), if_neg (by decide), if_neg (by decide), if_pos rfl]
    rw [e] at h0 ⊢
    revert h0
    unfold clearF
    split
    · intro h0; exact absurd h0 refused_4
    · intro _; exact ⟨less_free t h l 0 [], fun _ => ⟨rfl, rfl⟩, fun e => by omega⟩

set_option maxRecDepth 100000 in
set_option maxHeartbeats 8000000 in
theorem topFree_walk (g t h : Int) (a : Option Addr) (n c : Nat) (y : Bool) (l : List (Int × Int)) (op who key new kind at' : Int) (st : Bool) (da wa : ByteArray) (w : World) (hr : Row w a n l) (hop : (Lit.int .i64 op).wf = true) (hd : da.size ≤ 9223372036854775807) (hw : wa.size ≤ 9223372036854775807) :
    Calls Try.prog 7 #[stV g a n c t h y, cmV op who key new kind at' st da wa] w fun e w' => e = .returned (.bool true) ∧ Below w.heap.size w w' := by
  obtain ⟨X, hX, bX, sX, S0, C0⟩ := laidTwo w g a n c t h y op who key new kind at' st da wa
  obtain ⟨⟨c0, c1, c2, c3, c4⟩, _⟩ := S0.cells
  obtain ⟨d0, d1, d2, d3, d4, d5, d6, d7, d8⟩ := C0.cells
  go_enter Try.func7, Try.ntmps7
  go_wp2_with fail
  rw [← hX]
  clear hX c0 c1 c2 c3 c4 d0 d1 d2 d3 d4 d5 d6 d7 d8
  refine (ordered_any X).mono ?_
  rintro e w1 ⟨rfl, hb1⟩
  have bw := bX.trans (hb1.mono bX.size)
  have S := S0.later hb1 (by omega)
  have C := C0.later hb1 (by omega)
  have hs1 := hb1.size
  have hrs := hr.later bw
  clear S0 C0 hb1 bX
  obtain ⟨⟨c0, c1, c2, c3, c4⟩, _⟩ := S.cells
  obtain ⟨d0, d1, d2, d3, d4, d5, d6, d7, d8⟩ := C.cells
  go_wp2_with fail
  clear c0 c1 c2 c3 c4 d0 d1 d2 d3 d4 d5 d6 d7 d8
  refine (mayTop_any g t h a n c y l op who key new kind at' st da wa w1 hrs hop hd hw).mono ?_
  rintro e w2 ⟨rfl, hbn⟩
  have bw := bw.trans (hbn.mono bw.size)
  have hsn := hbn.size
  have S := S.later hbn S.lt
  have C := C.later hbn (by omega)
  have hrs := hrs.later hbn
  clear hbn
  cases hm : mayT g t h n l op who key new kind at' st da wa with
  | false =>
    clear hm
    go_wp2
    go_ret
    exact ⟨rfl, bw⟩
  | true =>
  obtain ⟨hn6, hf, hc⟩ := mayT_true hm
  clear hm
  by_cases hk : ¬ (op = 4 ∨ op = 5)
  case pos =>
    have hk1 : (op != 4) = true := by simp only [not_or] at hk; simpa using hk.1
    have hk2 : (op != 5) = true := by simp only [not_or] at hk; simpa using hk.2
    clear hk
    obtain ⟨⟨c0, c1, c2, c3, c4⟩, _⟩ := S.cells
    obtain ⟨d0, d1, d2, d3, d4, d5, d6, d7, d8⟩ := C.cells
    go_wp2
    go_ret
    exact ⟨rfl, bw⟩
  have hk0 := hk
  have HO : (op = 4 ∧ (op != 4) = false ∧ (op == 5) = false) ∨ (op = 5 ∧ (op != 4) = true ∧ (op != 5) = false ∧ (op == 5) = true) := by
    simp only [Classical.not_not] at hk
    rcases hk with e | e <;> simp [e]
  have HK : Hid (op = 4 ∨ op = 5) := Classical.not_not.1 hk0
  clear hk hk0
  rcases HO with ⟨ho, ho1, ho2⟩ | ⟨ho, ho1, ho2, ho3⟩
  case inl =>
    have HO4 : Hid (op = 4) := ho
    clear ho
    obtain ⟨⟨c0, c1, c2, c3, c4⟩, _⟩ := S.cells
    obtain ⟨d0, d1, d2, d3, d4, d5, d6, d7, d8⟩ := C.cells
    go_wp2_with fail
    clear c0 c1 c2 c3 c4 d0 d1 d2 d3 d4 d5 d6 d7 d8
    refine (do_any g t h a n c y l op who key new kind at' st da wa w2 hrs (by omega) (fault_g hf)).mono ?_
    rintro e w3 ⟨⟨a2, n2, k2, a3, n3, k3, rfl, hrx, hry, _, _⟩, hbn⟩
    have bw := bw.trans (hbn.mono bw.size)
    have hsn := hbn.size
    have S := S.later hbn S.lt
    have C := C.later hbn (by omega)
    have hrs := hrs.later hbn
    clear hbn
    have M0 : (doF g t h y l op who key new kind st).f = 0 → _ := fun e => do_free (g := g) (y := y) (t := t) (h := h) (l := l) (who := who) (key := key) (new := new) (kind := kind) (st := st) HK.out e
    generalize hoo : doF g t h y l op who key new kind st = oo at *
    obtain ⟨V, hV⟩ : ∃ V, V = w3.alloc (.cells #[.int .i64 oo.g, .slice a2 n2 k2, .int .i64 oo.t, .int .i64 oo.h, .bool oo.y] 24) := ⟨_, rfl⟩
    have T : StB V w3.heap.size oo.g a2 n2 k2 oo.t oo.h oo.y := by rw [hV]; exact heap_alloc_new w3 _
    have hbn : Below w3.heap.size w3 V := by rw [hV]; exact (Below.refl _ _).alloc (Nat.le_refl _) _
    have hrx := hrx.later hbn
    have hry := hry.later hbn
    have bw := bw.trans (hbn.mono bw.size)
    have hsn := hbn.size
    have S := S.later hbn S.lt
    have C := C.later hbn (by omega)
    have hrs := hrs.later hbn
    clear hbn hoo
    go_upto_region 7 with fail
    rw [← hV]
    clear hV
    by_cases hof : oo.f = 0
    case neg =>
      have he := errV_pos hof
      clear M0 hof hrx hry
      go_wp2
      go_ret
      exact ⟨rfl, bw⟩
    have he : errV oo.f = .nilIface := by rw [hof]; rfl
    obtain ⟨M1, M2, M3⟩ := M0 hof
    have H1 : Hid (¬ LessP t h l oo.t oo.h oo.l) := M1
    have H23 : Hid (oo.l = l ∧ (oo.t = 0 ∨ (oo.t = t ∧ holdsB t h l who = false))) := M3 HO4.out
    have HX : Hid (Row V a2 n2 oo.l) := hrx
    have HS : Hid (Row V a n l) := hrs
    clear M0 M1 M2 M3 hof hrx hry hrs hf hc
    obtain ⟨⟨c0, c1, c2, c3, c4⟩, _⟩ := S.cells
    obtain ⟨d0, d1, d2, d3, d4, d5, d6, d7, d8⟩ := C.cells
    obtain ⟨⟨m0, m1, m2, m3, m4⟩, _⟩ := T.cells
    go_wp2_with fail
    clear c0 c1 c2 c3 c4 d0 d1 d2 d3 d4 d5 d6 d7 d8 m0 m1 m2 m3 m4
    refine (less_any g t h a n c y l oo.g oo.t oo.h a2 n2 k2 oo.y oo.l V HS.out HX.out).mono ?_
    rintro e w5 ⟨rfl, hbn⟩
    have hL : decide (LessP t h l oo.t oo.h oo.l) = false := by rw [decide_eq_false_iff_not]; exact H1.out
    rw [hL]
    clear hL
    have bw := bw.trans (hbn.mono bw.size)
    have hsn := hbn.size
    have S := S.later hbn S.lt
    have C := C.later hbn (by omega)
    have T := T.later hbn T.lt
    have HS : Hid (Row w5 a n l) := HS.out.later hbn
    have hn2 := HX.out.1
    have hn1 := HS.out.1
    clear hbn
    obtain ⟨e1, e2⟩ := H23.out
    have hnn : n2 = n := by rw [← hn2, ← hn1, e1]
    subst hnn
    rcases e2 with e2 | ⟨e2, e3⟩
    · have e2' : (oo.t == 0) = true := by simpa using e2
      clear e1 e2 hn2 hn1
      obtain ⟨⟨c0, c1, c2, c3, c4⟩, _⟩ := S.cells
      obtain ⟨d0, d1, d2, d3, d4, d5, d6, d7, d8⟩ := C.cells
      obtain ⟨⟨m0, m1, m2, m3, m4⟩, _⟩ := T.cells
      clear S C T
      go_wp2
      go_ret
      exact ⟨rfl, bw⟩
    · by_cases e0 : oo.t = 0
      · have e0' : (oo.t == 0) = true := by simpa using e0
        clear e1 e2 e0 hn2 hn1 e3
        obtain ⟨⟨c0, c1, c2, c3, c4⟩, _⟩ := S.cells
        obtain ⟨d0, d1, d2, d3, d4, d5, d6, d7, d8⟩ := C.cells
        obtain ⟨⟨m0, m1, m2, m3, m4⟩, _⟩ := T.cells
        clear S C T
        go_wp2
        go_ret
        exact ⟨rfl, bw⟩
      · have e0' : (oo.t == 0) = false := by simpa using e0
        have e2' : (oo.t == t) = true := by simpa using e2
        have HE3 : Hid (holdsB t h l who = false) := e3
        clear e1 e2 e0 hn2 hn1 e3
        obtain ⟨⟨c0, c1, c2, c3, c4⟩, _⟩ := S.cells
        obtain ⟨d0, d1, d2, d3, d4, d5, d6, d7, d8⟩ := C.cells
        obtain ⟨⟨m0, m1, m2, m3, m4⟩, _⟩ := T.cells
        go_wp2_with fail
        clear c0 c1 c2 c3 c4 d0 d1 d2 d3 d4 d5 d6 d7 d8 m0 m1 m2 m3 m4
        refine (holds_any g t h a n2 c y l who w5 HS.out).mono ?_
        rintro e w6 ⟨rfl, hbn⟩
        rw [HE3.out]
        have bw := bw.trans (hbn.mono bw.size)
        clear S C T hbn
        go_wp2
        go_ret
        exact ⟨rfl, bw⟩
  case inr =>
    have HO5 : Hid (op = 5) := ho
    clear ho
    obtain ⟨⟨c0, c1, c2, c3, c4⟩, _⟩ := S.cells
    obtain ⟨d0, d1, d2, d3, d4, d5, d6, d7, d8⟩ := C.cells
    go_wp2_with fail
    clear c0 c1 c2 c3 c4 d0 d1 d2 d3 d4 d5 d6 d7 d8
    refine (do_any g t h a n c y l op who key new kind at' st da wa w2 hrs (by omega) (fault_g hf)).mono ?_
    rintro e w3 ⟨⟨a2, n2, k2, a3, n3, k3, rfl, hrx, hry, _, _⟩, hbn⟩
    have bw := bw.trans (hbn.mono bw.size)
    have hsn := hbn.size
    have S := S.later hbn S.lt
    have C := C.later hbn (by omega)
    have hrs := hrs.later hbn
    clear hbn
    have M0 : (doF g t h y l op who key new kind st).f = 0 → _ := fun e => do_free (g := g) (y := y) (t := t) (h := h) (l := l) (who := who) (key := key) (new := new) (kind := kind) (st := st) HK.out e
    generalize hoo : doF g t h y l op who key new kind st = oo at *
    obtain ⟨V, hV⟩ : ∃ V, V = w3.alloc (.cells #[.int .i64 oo.g, .slice a2 n2 k2, .int .i64 oo.t, .int .i64 oo.h, .bool oo.y] 24) := ⟨_, rfl⟩
    have T : StB V w3.heap.size oo.g a2 n2 k2 oo.t oo.h oo.y := by rw [hV]; exact heap_alloc_new w3 _
    have hbn : Below w3.heap.size w3 V := by rw [hV]; exact (Below.refl _ _).alloc (Nat.le_refl _) _
    have hrx := hrx.later hbn
    have hry := hry.later hbn
    have bw := bw.trans (hbn.mono bw.size)
    have hsn := hbn.size
    have S := S.later hbn S.lt
    have C := C.later hbn (by omega)
    have hrs := hrs.later hbn
    clear hbn hoo
    go_upto_region 7 with fail
    rw [← hV]
    clear hV
    by_cases hof : oo.f = 0
    case neg =>
      have he := errV_pos hof
      clear M0 hof hrx hry
      go_wp2
      go_ret
      exact ⟨rfl, bw⟩
    have he : errV oo.f = .nilIface := by rw [hof]; rfl
    obtain ⟨M1, M2, M3⟩ := M0 hof
    have H1 : Hid (¬ LessP t h l oo.t oo.h oo.l) := M1
    have H23 : Hid (oo.l = [] ∧ oo.t = 0) := M2 HO5.out
    have HX : Hid (Row V a2 n2 oo.l) := hrx
    have HS : Hid (Row V a n l) := hrs
    clear M0 M1 M2 M3 hof hrx hry hrs hf hc
    obtain ⟨⟨c0, c1, c2, c3, c4⟩, _⟩ := S.cells
    obtain ⟨d0, d1, d2, d3, d4, d5, d6, d7, d8⟩ := C.cells
    obtain ⟨⟨m0, m1, m2, m3, m4⟩, _⟩ := T.cells
    go_wp2_with fail
    clear c0 c1 c2 c3 c4 d0 d1 d2 d3 d4 d5 d6 d7 d8 m0 m1 m2 m3 m4
    refine (less_any g t h a n c y l oo.g oo.t oo.h a2 n2 k2 oo.y oo.l V HS.out HX.out).mono ?_
    rintro e w5 ⟨rfl, hbn⟩
    have hL : decide (LessP t h l oo.t oo.h oo.l) = false := by rw [decide_eq_false_iff_not]; exact H1.out
    rw [hL]
    clear hL
    have bw := bw.trans (hbn.mono bw.size)
    have hsn := hbn.size
    have S := S.later hbn S.lt
    have C := C.later hbn (by omega)
    have T := T.later hbn T.lt
    have HS : Hid (Row w5 a n l) := HS.out.later hbn
    have hn2 := HX.out.1
    have hn1 := HS.out.1
    clear hbn
    obtain ⟨e1, e2⟩ := H23.out
    have hnn : n2 = 0 := by rw [← hn2, e1]; rfl
    subst hnn
    have HE2 : Hid (oo.t = 0) := e2
    clear e1 e2 hn2 hn1
    obtain ⟨⟨c0, c1, c2, c3, c4⟩, _⟩ := S.cells
    obtain ⟨d0, d1, d2, d3, d4, d5, d6, d7, d8⟩ := C.cells
    obtain ⟨⟨m0, m1, m2, m3, m4⟩, _⟩ := T.cells
    clear S C T
    go_wp2
    go_ret
    exact ⟨ret_bool (by rw [HE2.out]; rfl), bw⟩

set_option maxRecDepth 100000 in
theorem topFree_lifted (os : Os) (started : os.Started) (H : Type) (enc : TypeId × Value → H) :
    ReturnsInHanded {} Try.checked os 7 .any (Rows.topFreeSpec.pre6 enc Try.prog Try.f7 Rows.topFreeRow.domain false) (Rows.topFreeSpec.post enc Try.prog Try.f7 false true false false) := by
  refine returnsInHanded_of_change (C := Try.checked) own started (by kernel_rfl) Try.func7
    (ChangeSpec.witness6 (enc := enc) (C := Try.checked) false ⟨#[], #[stV 0 Option.none 0 0 0 0 false, cmV 0 0 0 0 0 0 false ⟨#[]⟩ ⟨#[]⟩], []⟩ 8 (by kernel_rfl) (by kernel_rfl) (by kernel_rfl) (by kernel_rfl)) ?_
  intro W base args ds gs before hval0 hW hcnd _
  have hval : ∀ (j : Nat) t v, Try.f7.params[j]? = some t → args[j]? = some v → Value.okWide Try.prog W .any base t v := hval0
  have hW' := hW
  obtain ⟨p, q, hA0, hV, rfl, hfz, hnd⟩ := hW
  have hA : DataW.TrodAll enc Try.prog W 0 (fun _ => true) true Try.f7.params.toList args.toList ds p := hA0
  rw [Try.params7] at hA hval
  obtain ⟨v0, v1, d0, d1, p0, p1, rfl, rfl, rfl, h0, h1⟩ := trodAll_two hA
  obtain ⟨rfl, rfl⟩ := trodVars_none hV
  have k0 := h0
  have k1 := h1
  have lt0 : ∀ x ∈ p0, x.block < W.heap.size := by obtain ⟨m, hm⟩ := k0; exact DataW.trod_lt m _ _ _ hm
  have lt1 : ∀ x ∈ p1, x.block < W.heap.size := by obtain ⟨m, hm⟩ := k1; exact DataW.trod_lt m _ _ _ hm
  obtain ⟨g0, a0, n0, c0, t0, hd0, y0, l0, rfl, row0⟩ := open_state (hval 0 24 v0 rfl rfl) h0
  obtain ⟨op, who, key, new, kind, at', st, da, wa, rfl, hop, hd, hw⟩ := open_command (hval 1 26 v1 rfl rfl) h1
  clear hA0 hval0
  refine (topFree_walk g0 t0 hd0 a0 n0 c0 y0 l0 op who key new kind at' st da wa W row0 hop hd hw).mono fun e W' ⟨he, bel⟩ => ?_
  subst he
  exact ⟨_, rfl, _, _, _, [], _, [], hW', trodAll_mk1 (shut_bool Try.underlying4 _), (trodAll_cons_mk (Below.trod laidOut (by kernel_rfl) (of_decide_eq_true (by kernel_rfl)) k0 bel lt0) (trodAll_cons_mk (Below.trod laidOut (by kernel_rfl) (of_decide_eq_true (by kernel_rfl)) k1 bel lt1) trodAll_mk0)), rfl, bel.frame _, fun h => by cases h⟩

theorem topFree_holds : Rows.TopFreeSaid :=
  OpenClaim.holds_of_wide 7 Try.f7 rfl rfl rfl rfl rfl rfl rfl ⟨rfl, rfl, rfl, rfl, rfl⟩ rfl rfl rfl rfl rfl (by kernel_rfl) Try.func7 (by kernel_rfl)
    (of_decide_eq_true (by kernel_rfl)) (by unfold Func.isWrapper; first | (rw [if_pos (by decide +kernel)]; kernel_rfl) | (rw [if_neg (by decide +kernel)]; exact ⟨rfl, rfl⟩))
    (fun os started H enc _ => topFree_lifted os started H enc)
#print axioms topFree_holds
end Go.Proofs.Ytokjacbipmfjkaa
