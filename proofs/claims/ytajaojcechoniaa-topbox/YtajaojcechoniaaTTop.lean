/- What the law TopBox does, for all tells and anybody. -/
import Derived.Test.YtajaojcechoniaaTBoxW
import Derived.Deep.RegionHeld3
import Derived.Deep.RegionWith
import Derived.Deep.DrawnRows
import Derived.Deep.CutBlock
import Derived.Deep.DeepCutAuto
namespace Go.Proofs.Ytajaojcechoniaa
open Go.ChangeShapes Go.WideShapes Go.ChangeAt Go.RowKit Go.Deep
attribute [local go_sem ↓] Go.wp_at_zero Go.wp_at_succ

theorem box_nil (w : World) (lo : Nat) : BoxIs w lo (fun _ => Option.none) (fun _ => 0) (fun _ => 0) (fun _ => []) := fun _ _ => ⟨⟨rfl, Nat.zero_le _, fun h => absurd rfl h⟩, fun _ => rfl, (fun ad h => by cases h), Nat.le_refl _⟩
theorem upd_at {T : Type} (f : Nat → T) (j : Nat) (v : T) : upd f j v j = v := by unfold upd; rw [if_pos rfl]
theorem upd_ne {T : Type} (f : Nat → T) (j : Nat) (v : T) (i : Nat) (h : i ≠ j) : upd f j v i = f i := by unfold upd; rw [if_neg h]
theorem addL_le (l : List Int) (x : Int) : (addL l x).length ≤ l.length + 1 := by
  unfold addL
  split
  · omega
  · simp
theorem addL_short (l : List Int) (x : Int) (h : l.length ≤ 4) (hne : l.getLast? ≠ some x) : addL l x = l ++ [x] := by
  unfold addL
  rw [if_neg hne, show l.length - 4 = 0 by omega]
  rfl
theorem addL_same (l : List Int) (x : Int) (he : l.getLast? = some x) : addL l x = l := by
  unfold addL
  rw [if_pos he]

set_option maxRecDepth 100000 in
set_option maxHeartbeats 20000000 in
theorem topBox_walk (a : Option Addr) (n c : Nat) (l : List (Int × Int)) (who : Int) (w : World) (hr : Row w a n l) :
    Calls Try.prog 4 #[.slice a n c, .int .i64 who] w fun e w' => e = .returned (.bool true) ∧ Below w.heap.size w w' := by
  have hl := hr.1
  go_enter Try.func4, Try.ntmps4
  go_wp2_with fail
  refine (add_any (fun _ => Option.none) (fun _ => 0) (fun _ => 0) (fun _ => []) 0 1 2 w.heap.size w (by decide) (by decide) (box_nil _ _) (Nat.le_refl _) (fun _ _ => Nat.zero_le _)).mono ?_
  rintro e w1 ⟨A, N, C, rfl, hB, hb⟩
  unfold bx
  go_wp2_with fail
  refine (take_any A N C _ 0 1 w.heap.size w1 (by decide) (by decide) hB hb.size (fun j _ => by unfold upd; split; exact of_decide_eq_true rfl; exact Nat.zero_le _)).mono ?_
  rintro e w2 ⟨A2, N2, C2, rfl, hB2, hb2⟩
  rw [show headL (upd (fun _ => ([] : List Int)) 0 (addL [] 2) 0) = 2 by decide]
  unfold bx
  have bw2 : Below w.heap.size w w2 := hb.trans (hb2.mono hb.size)
  have hn0 : N2 0 = 0 := by
    have := (hB2 0 (by decide)).1.1
    have e : (upd (upd (fun _ => ([] : List Int)) 0 (addL [] 2)) 0 (upd (fun _ => ([] : List Int)) 0 (addL [] 2) 0).tail 0).length = 0 := by decide
    omega
  clear hB hB2 hb hb2
  by_cases hn5 : 5 < n
  · have h5 : decide ((5 : Int) < (n : Int)) = true := by simp; omega
    go_wp2
    go_ret
    exact ⟨rfl, bw2.alloc bw2.size _⟩
  have h5 : decide ((5 : Int) < (n : Int)) = false := by simp; omega
  by_cases hw1 : who < 1
  · go_wp2
    go_ret
    exact ⟨rfl, bw2.alloc bw2.size _⟩
  have hw1' : decide (who < 1) = false := by simpa using hw1
  by_cases hw4 : 4 < who
  · go_wp2
    go_ret
    exact ⟨rfl, bw2.alloc bw2.size _⟩
  have hw4' : decide (4 < who) = false := by simpa using hw4
  obtain ⟨jw, hjw, rfl⟩ : ∃ jw : Nat, jw < 4 ∧ who = (jw : Int) + 1 := ⟨(who - 1).toNat, by omega, by omega⟩
  have bX : Below w2.heap.size w2 (w2.alloc (.cells #[.slice Option.none 0 0, .slice Option.none 0 0, .slice Option.none 0 0, .slice Option.none 0 0] 27)) := (Below.refl _ _).alloc (Nat.le_refl _) _
  have P0 : PBox (w2.alloc (.cells #[.slice Option.none 0 0, .slice Option.none 0 0, .slice Option.none 0 0, .slice Option.none 0 0] 27)) w2.heap.size (fun _ => Option.none) (fun _ => 0) (fun _ => 0) := heap_alloc_new w2 _
  have sX : (w2.alloc (.cells #[.slice Option.none 0 0, .slice Option.none 0 0, .slice Option.none 0 0, .slice Option.none 0 0] 27)).heap.size = w2.heap.size + 1 := by simp
  go_wp2
  generalize w2.alloc (.cells #[.slice Option.none 0 0, .slice Option.none 0 0, .slice Option.none 0 0, .slice Option.none 0 0] 27) = X at *
  have hbX : Below w.heap.size w X := bw2.trans (bX.mono bw2.size)
  have hs2 := bw2.size
  go_loopw [7, 8] (fun u i wr => ∃ (k : Nat) (A : Nat → Option Addr) (N C : Nat → Nat) (L : Nat → List Int) (a7 : Option Addr) (n7 c7 : Nat), k ≤ n ∧ i = .int .i64 k ∧ u = .slice a7 n7 c7 ∧ PBox wr w2.heap.size A N C ∧ BoxIs wr (w2.heap.size + 1) A N C L ∧ OwnI wr (w2.heap.size + 1) (.slice a7 n7 c7) (L jw) ∧ (∀ i, i < 4 → (L i).length ≤ k) ∧ Apart A N (.slice a7 n7 c7) ∧ Below w.heap.size w wr ∧ w2.heap.size + 1 ≤ wr.heap.size) (fun _ i _ => n - (intOf i).toNat)
  case atStart => exact ⟨0, _, _, _, fun _ => [], Option.none, 0, 0, Nat.zero_le _, rfl, rfl, P0, box_nil _ _, ⟨rfl, .inl ⟨rfl, rfl⟩⟩, fun _ _ => Nat.le_refl _, (fun _ _ ad h => by cases h), hbX, Nat.le_of_eq sX.symm⟩
  case round =>
    obtain ⟨k, A, N, C, L, a7, n7, c7, hk, rfl, rfl, hP, hB, hO, hL, hAp, bw, hsz⟩ := hrel
    by_cases hlt : k < n
    · obtain ⟨b, off, rfl, hc⟩ := (hr.later bw).2.2 (by omega)
      obtain ⟨r0, r1⟩ := hc k (by omega)
      have hki : (k : Int) < (n : Int) := by omega
      have HC : Hid (∀ wx, Below w.heap.size w wx → wx.cell? ⟨b, off + k * 2, Option.none⟩ = some (.int .i64 l[k].1) ∧ wx.cell? ⟨b, off + k * 2 + 1, Option.none⟩ = some (.int .i64 l[k].2)) := by
        intro wx hbx
        obtain ⟨b', off', e, hc⟩ := (hr.later hbx).2.2 (by omega)
        simp only [Option.some.injEq, Addr.mk.injEq, and_true] at e
        obtain ⟨rfl, rfl⟩ := e
        exact hc k (by omega)
      clear hc
      generalize l[k].1 = x at *
      generalize l[k].2 = y at *
      by_cases h1 : x < 1
      · go_wp2
        go_ret
        exact ⟨rfl, bw⟩
      have h1' : decide (x < 1) = false := by simpa using h1
      by_cases h2 : 4 < x
      · go_wp2
        go_ret
        exact ⟨rfl, bw⟩
      have h2' : decide (4 < x) = false := by simpa using h2
      by_cases h3 : y < 1
      · go_wp2
        go_ret
        exact ⟨rfl, bw⟩
      have h3' : decide (y < 1) = false := by simpa using h3
      by_cases h4 : 4 < y
      · go_wp2
        go_ret
        exact ⟨rfl, bw⟩
      have h4' : decide (4 < y) = false := by simpa using h4
      obtain ⟨j, hj4, rfl⟩ : ∃ j : Nat, j < 4 ∧ x = (j : Int) + 1 := ⟨(x - 1).toNat, by omega, by omega⟩
      obtain ⟨⟨c0, c1, c2, c3⟩, ⟨f0, f1, f2, f3⟩⟩ := hP.cells
      have TA : Hid (Calls Try.prog 10 #[Value.agg #[.slice (A 0) (N 0) (C 0), .slice (A 1) (N 1) (C 1), .slice (A 2) (N 2) (C 2), .slice (A 3) (N 3) (C 3)], .agg #[.int .i64 ((j : Int) + 1), .int .i64 y]] wr.drew fun e w' => ∃ A4 N4 C4, e = .returned (Value.agg #[.slice (A4 0) (N4 0) (C4 0), .slice (A4 1) (N4 1) (C4 1), .slice (A4 2) (N4 2) (C4 2), .slice (A4 3) (N4 3) (C4 3)]) ∧ BoxIs w' (w2.heap.size + 1) A4 N4 C4 (upd L j (addL (L j) y)) ∧ Below wr.heap.size wr w' ∧ Fresh wr.heap.size A N A4 N4) :=
        (add_fresh A N C L j ((j : Int) + 1) y (w2.heap.size + 1) wr.drew hj4 rfl (hB.later (Below.refl _ _).drew) hsz (fun i hi => Nat.le_trans (hL i hi) (by omega))).mono fun e w' ⟨A4, N4, C4, h1, h2, h3, h4⟩ => ⟨A4, N4, C4, h1, h2, ((Below.refl wr.heap.size wr).drew).trans h3, h4⟩
      have HO : Hid (OwnI wr (w2.heap.size + 1) (.slice a7 n7 c7) (L jw)) := hO
      have HAp : Hid (Apart A N (.slice a7 n7 c7)) := hAp
      have HL : Hid (∀ i, i < 4 → (L i).length ≤ k) := hL
      have HB : Hid (BoxIs wr (w2.heap.size + 1) A N C L) := hB
      clear hO hAp hL hB
      go_upto_region 13 with fail
      go_cut [] (fun wx => ∃ (A4 : Nat → Option Addr) (N4 C4 : Nat → Nat) (v2 : World), wx = TK v2 w2.heap.size (.slice (A4 0) (N4 0) (C4 0)) (.slice (A4 1) (N4 1) (C4 1)) (.slice (A4 2) (N4 2) (C4 2)) (.slice (A4 3) (N4 3) (C4 3)) ∧ BoxIs v2 (w2.heap.size + 1) A4 N4 C4 (upd L j (addL (L j) y)) ∧ Below wr.heap.size wr v2 ∧ Fresh wr.heap.size A N A4 N4)
      case first =>
        go_region_with (go_at_call 10; with_reducible refine TA.out.mono ?_; rintro e v2 ⟨A4, N4, C4, rfl, hB4, bW2, hFr⟩; have P2 := hP.later bW2 (by omega); obtain ⟨⟨g0, g1, g2, g3⟩, ⟨i0, i1, i2, i3⟩⟩ := P2.cells)
        all_goals
          go_wp2_with fail
          go_meet
          case rel => exact ⟨A4, N4, C4, v2, rfl, hB4, bW2, hFr⟩
      case rest =>
        obtain ⟨A4, N4, C4, v2, rfl, B4, b4, hFr⟩ := hcut
        have hsv := b4.size
        have bs6 : Beside w2.heap.size v2 _ := TK.beside (v0 := .slice (A4 0) (N4 0) (C4 0)) (v1 := .slice (A4 1) (N4 1) (C4 1)) (v2 := .slice (A4 2) (N4 2) (C4 2)) (v3 := .slice (A4 3) (N4 3) (C4 3)) (Beside.of (Below.refl _ _))
        have hs6 := bs6.size
        have bwV := (bw.trans (b4.mono bw.size)).trans (bs6.below (B := w.heap.size) (by omega) (by omega))
        obtain ⟨q0, q1⟩ := HC.out _ bwV
        have P6 := (hP.later b4 hP.lt).over (A' := A4) (N' := N4) (C' := C4)
        have B6 := B4.beside bs6 (by omega)
        have OV := (HO.out.later b4 (Nat.le_refl _)).beside bs6 (by omega)
        have Ap := HAp.out.fresh hFr (fun k hk => HO.out.lt k hk)
        have hVs : w2.heap.size + 1 ≤ (TK v2 w2.heap.size (.slice (A4 0) (N4 0) (C4 0)) (.slice (A4 1) (N4 1) (C4 1)) (.slice (A4 2) (N4 2) (C4 2)) (.slice (A4 3) (N4 3) (C4 3))).heap.size := by omega
        have hLj := HL.out jw hjw
        have HL2 : Hid (∀ i, i < 4 → (upd L j (addL (L j) y) i).length ≤ k + 1) := by
          intro i hi
          unfold upd
          split
          · exact Nat.le_trans (addL_le _ _) (by have := HL.out j hj4; omega)
          · have := HL.out i hi; omega
        generalize TK v2 w2.heap.size (.slice (A4 0) (N4 0) (C4 0)) (.slice (A4 1) (N4 1) (C4 1)) (.slice (A4 2) (N4 2) (C4 2)) (.slice (A4 3) (N4 3) (C4 3)) = V at *
        clear r0 r1 c0 c1 c2 c3 f0 f1 f2 f3 TA hFr
        by_cases hjj : j = jw
        · subst hjj
          have hLn : (L j).length ≤ 4 := by omega
          obtain ⟨a', n', c', e, hnum⟩ := OV.form
          simp only [Value.slice.injEq] at e
          obtain ⟨rfl, rfl, rfl⟩ := e
          have hn7 := hnum.1
          by_cases hn70 : n7 = 0
          · subst hn70
            have hl0 : L j = [] := List.eq_nil_of_length_eq_zero hn7
            have HAD : Hid (addL (L j) y = L j ++ [y]) := addL_short _ _ hLn (by rw [hl0]; simp)
            clear hl0
            go_wp2
            go_quiet (fail)
            have OV' := OV.later (below_drewN (Below.refl V.heap.size V) nq) (Nat.le_refl _)
            go_wp2_with (at_builtin; refine wpList_appG rfl _ _ rfl (w2.heap.size + 1) (.slice a7 0 c7) (L j) y (V.drewN nq) rfl (by simp [Act.eval]) OV' (by omega) (by simpa using hVs) ?_)
            intro g n' c' w3 hO3 hgrow hor hbel
            have bal : Below V.heap.size V ((V.drewN nq).alloc (.cells #[.int .i64 y] 3)) := (below_drewN (Below.refl V.heap.size V) nq).alloc (by simp) _
            have HP3 : Hid (PBox w3 w2.heap.size A4 N4 C4) := (P6.later bal P6.lt).grown hgrow (fun e => by have := OV.block _ e; omega)
            have HB3 : Hid (BoxIs w3 (w2.heap.size + 1) A4 N4 C4 (upd L j (addL (L j) y))) := (B6.later bal).grown hgrow Ap
            have HA3 : Hid (Apart A4 N4 (.slice (some ⟨g, 0, Option.none⟩) n' c')) := Ap.grown (B6.later bal) g (V.heap.size + 1) rfl (by simpa using hor) (by simp)
            have HO3 : Hid (OwnI w3 (w2.heap.size + 1) (.slice (some ⟨g, 0, Option.none⟩) n' c') (upd L j (addL (L j) y) j)) := by show OwnI _ _ _ _; rw [upd_at, HAD.out]; exact hO3
            have hb3 : Below (w2.heap.size + 1) V w3 := ((below_drewN (Below.refl _ V) nq).mono (Nat.le_refl _)).trans hbel
            have bw3 : Below w.heap.size w w3 := bwV.trans (hb3.mono (by omega))
            have hs3 := hb3.size
            clear hO3 hgrow hor hbel
            go_wp2
            go_roundw
            case rel => exact ⟨k + 1, A4, N4, C4, upd L j (addL (L j) y), some ⟨g, 0, Option.none⟩, n', c', by omega, by go_num, rfl, HP3.out, HB3.out, HO3.out, HL2.out, HA3.out, bw3, by omega⟩
            case measure => simp [intOf]; omega
          · obtain ⟨m, hm⟩ : ∃ m, n7 = m + 1 := ⟨n7 - 1, by omega⟩
            subst hm
            obtain ⟨b7, o7, rfl, hc7⟩ := hnum.2.2 (by omega)
            have hlast := hc7 m (by omega)
            have hme : ((m : Int) + 1 == 0) = false := by rw [beq_eq_false_iff_ne]; omega
            have hme' : ((m + 1 : Nat) : Int) = (m : Int) + 1 := rfl
            clear hme'
            clear hc7
            have hgl : (L j).getLast? = some (L j)[m] := by rw [List.getLast?_eq_getElem?, show (L j).length - 1 = m by omega, List.getElem?_eq_getElem (by omega)]
            by_cases hq : (L j)[m] = y
            · have hq' : ((L j)[m] != y) = false := by simpa using hq
              have HP6 : Hid (PBox V w2.heap.size A4 N4 C4) := P6
              have HB6 : Hid (BoxIs V (w2.heap.size + 1) A4 N4 C4 (upd L j (addL (L j) y))) := B6
              have HOV : Hid (OwnI V (w2.heap.size + 1) (.slice (some ⟨b7, o7, Option.none⟩) (m + 1) c7) (upd L j (addL (L j) y) j)) := by show OwnI _ _ _ _; rw [upd_at, addL_same _ _ (by rw [hgl, hq])]; exact OV
              have HAp2 : Hid (Apart A4 N4 (.slice (some ⟨b7, o7, Option.none⟩) (m + 1) c7)) := Ap
              clear P6 B6 OV Ap hgl
              go_wp2
              go_quiet (fail)
              go_wp2
              go_roundw
              case rel => exact ⟨k + 1, A4, N4, C4, upd L j (addL (L j) y), _, _, _, by omega, by go_num, rfl, HP6.out.later (below_drewN (Below.refl _ _) nq) HP6.out.lt, HB6.out.later (below_drewN (Below.refl _ _) nq), HOV.out.later (below_drewN (Below.refl V.heap.size V) nq) (Nat.le_refl _), HL2.out, HAp2.out, below_drewN bwV nq, by simpa using hVs⟩
              case measure => simp [intOf]; omega
            · have hq' : ((L j)[m] != y) = true := by simpa using hq
              have HAD : Hid (addL (L j) y = L j ++ [y]) := addL_short _ _ hLn (by rw [hgl]; simpa using hq)
              clear hgl
              go_wp2
              go_quiet (fail)
              have OV' := OV.later (below_drewN (Below.refl V.heap.size V) nq) (Nat.le_refl _)
              go_wp2_with (at_builtin; refine wpList_appG rfl _ _ rfl (w2.heap.size + 1) (.slice (some ⟨b7, o7, Option.none⟩) (m + 1) c7) (L j) y (V.drewN nq) rfl (by simp [Act.eval]) OV' (by omega) (by simpa using hVs) ?_)
              intro g n' c' w3 hO3 hgrow hor hbel
              have bal : Below V.heap.size V ((V.drewN nq).alloc (.cells #[.int .i64 y] 3)) := (below_drewN (Below.refl V.heap.size V) nq).alloc (by simp) _
              have HP3 : Hid (PBox w3 w2.heap.size A4 N4 C4) := (P6.later bal P6.lt).grown hgrow (fun e => by have := OV.block _ e; omega)
              have HB3 : Hid (BoxIs w3 (w2.heap.size + 1) A4 N4 C4 (upd L j (addL (L j) y))) := (B6.later bal).grown hgrow Ap
              have HA3 : Hid (Apart A4 N4 (.slice (some ⟨g, 0, Option.none⟩) n' c')) := Ap.grown (B6.later bal) g (V.heap.size + 1) rfl (by simpa using hor) (by simp)
              have HO3 : Hid (OwnI w3 (w2.heap.size + 1) (.slice (some ⟨g, 0, Option.none⟩) n' c') (upd L j (addL (L j) y) j)) := by show OwnI _ _ _ _; rw [upd_at, HAD.out]; exact hO3
              have hb3 : Below (w2.heap.size + 1) V w3 := ((below_drewN (Below.refl _ V) nq).mono (Nat.le_refl _)).trans hbel
              have bw3 : Below w.heap.size w w3 := bwV.trans (hb3.mono (by omega))
              have hs3 := hb3.size
              clear hO3 hgrow hor hbel
              go_wp2
              go_roundw
              case rel => exact ⟨k + 1, A4, N4, C4, upd L j (addL (L j) y), some ⟨g, 0, Option.none⟩, n', c', by omega, by go_num, rfl, HP3.out, HB3.out, HO3.out, HL2.out, HA3.out, bw3, by omega⟩
              case measure => simp [intOf]; omega
        · have e1 : ((j : Int) + 1 == (jw : Int) + 1) = false := by simp; omega
          have e2 : ((j : Int) == (jw : Int)) = false := by simp; omega
          have e3 : (j == jw) = false := by simpa using hjj
          have HP6 : Hid (PBox V w2.heap.size A4 N4 C4) := P6
          have HB6 : Hid (BoxIs V (w2.heap.size + 1) A4 N4 C4 (upd L j (addL (L j) y))) := B6
          have HOV : Hid (OwnI V (w2.heap.size + 1) (.slice a7 n7 c7) (upd L j (addL (L j) y) jw)) := by show OwnI _ _ _ _; rw [upd_ne _ _ _ _ (fun h => hjj h.symm)]; exact OV
          have HAp2 : Hid (Apart A4 N4 (.slice a7 n7 c7)) := Ap
          clear P6 B6 OV Ap hjj
          go_wp2
          go_quiet (fail)
          go_wp2
          go_roundw
          case rel => exact ⟨k + 1, A4, N4, C4, upd L j (addL (L j) y), a7, n7, c7, by omega, by go_num, rfl, HP6.out.later (below_drewN (Below.refl _ _) nq) HP6.out.lt, HB6.out.later (below_drewN (Below.refl _ _) nq), HOV.out.later (below_drewN (Below.refl V.heap.size V) nq) (Nat.le_refl _), HL2.out, HAp2.out, below_drewN bwV nq, by simpa using hVs⟩
          case measure => simp [intOf]; omega
    · have hlt' : decide ((k : Int) < (n : Int)) = false := by simp; omega
      have HL5 : Hid (∀ i, i < 4 → (L i).length ≤ 5) := fun i hi => Nat.le_trans (hL i hi) (by omega)
      obtain ⟨a', n', c', e, hf7⟩ := hO.fl
      simp only [Value.slice.injEq] at e
      obtain ⟨rfl, rfl, rfl⟩ := e
      obtain ⟨WL, hWL⟩ : ∃ WL, WL = L jw := ⟨_, rfl⟩
      rw [← hWL] at hf7
      have hn7 := hf7.1.1
      have hn7' : n7 ≤ 5 := by have := HL5.out jw hjw; rw [← hWL] at this; omega
      have HF7 : Hid (Fl wr (w2.heap.size + 1) a7 n7 c7 WL) := hf7
      have HB7 : Hid (BoxIs wr (w2.heap.size + 1) A N C L) := hB
      have HW7 : Hid (L jw = WL.drop 0) := by show _ = _; rw [hWL]; rfl
      have HP7 : Hid (PBox wr w2.heap.size A N C) := hP
      clear hO hAp hL hf7 hB hWL hP
      go_wp2
      go_loopw [9] (fun i wy => ∃ (q : Nat) (A5 : Nat → Option Addr) (N5 C5 : Nat → Nat) (L5 : Nat → List Int), q ≤ n7 + 1 ∧ i = .int .i64 q ∧ PBox wy w2.heap.size A5 N5 C5 ∧ BoxIs wy (w2.heap.size + 1) A5 N5 C5 L5 ∧ L5 jw = WL.drop q ∧ (∀ i, i < 4 → (L5 i).length ≤ 5) ∧ Fl wy (w2.heap.size + 1) a7 n7 c7 WL ∧ Below w.heap.size w wy ∧ w2.heap.size + 1 ≤ wy.heap.size) (fun i _ => n7 + 1 - (intOf i).toNat)
      case atStart => exact ⟨0, A, N, C, L, Nat.zero_le _, rfl, HP7.out, HB7.out, HW7.out, HL5.out, HF7.out, bw, hsz⟩
      case round =>
        clear HP7 HB7 HW7 HF7 HL5 hlt' hlt bw hsz
        obtain ⟨q, A5, N5, C5, L5, hq, rfl, hP5, hB5, hL5, hLn, hF5, bw5, hsz5⟩ := hrel
        by_cases hle : q ≤ n7
        · have hqi : (q : Int) ≤ (n7 : Int) := by omega
          have HD : Hid (L5 jw = WL.drop q) := hL5
          have HL6 : Hid (∀ i, i < 4 → (upd L5 jw (L5 jw).tail i).length ≤ 5) := by
            intro i hi
            unfold upd
            split
            · have := hLn jw hjw; simp; omega
            · exact hLn i hi
          have hL9 : ∀ j, j < 4 → (L5 j).length ≤ 900 := fun j hj => Nat.le_trans (hLn j hj) (by decide)
          have HF5 : Hid (Fl wr (w2.heap.size + 1) a7 n7 c7 WL) := hF5
          have HB5 : Hid (BoxIs wr (w2.heap.size + 1) A5 N5 C5 L5) := hB5
          clear hL5 hLn hF5 hB5
          obtain ⟨⟨c0, c1, c2, c3⟩, ⟨f0, f1, f2, f3⟩⟩ := hP5.cells
          go_wp2_with fail
          refine (take_any A5 N5 C5 L5 jw ((jw : Int) + 1) (w2.heap.size + 1) wr hjw rfl HB5.out hsz5 hL9).mono ?_
          rintro e w6 ⟨A6, N6, C6, rfl, hB6, hb6⟩
          unfold bx
          have hs6 := hb6.size
          have bal : Below w6.heap.size w6 (w6.alloc (.cells #[.slice (A6 0) (N6 0) (C6 0), .slice (A6 1) (N6 1) (C6 1), .slice (A6 2) (N6 2) (C6 2), .slice (A6 3) (N6 3) (C6 3)] 27)) := (Below.refl _ _).alloc (Nat.le_refl _) _
          have PV : PBox (w6.alloc (.cells #[.slice (A6 0) (N6 0) (C6 0), .slice (A6 1) (N6 1) (C6 1), .slice (A6 2) (N6 2) (C6 2), .slice (A6 3) (N6 3) (C6 3)] 27)) w6.heap.size A6 N6 C6 := heap_alloc_new w6 _
          have hVs := bal.size
          have BV : Hid (BoxIs (w6.alloc (.cells #[.slice (A6 0) (N6 0) (C6 0), .slice (A6 1) (N6 1) (C6 1), .slice (A6 2) (N6 2) (C6 2), .slice (A6 3) (N6 3) (C6 3)] 27)) (w2.heap.size + 1) A6 N6 C6 (upd L5 jw (L5 jw).tail)) := hB6.later bal
          have PV5 := (hP5.later hb6 hP5.lt).later bal (by have := hP5.lt; omega)
          have BV5 : Hid (BoxIs (w6.alloc (.cells #[.slice (A6 0) (N6 0) (C6 0), .slice (A6 1) (N6 1) (C6 1), .slice (A6 2) (N6 2) (C6 2), .slice (A6 3) (N6 3) (C6 3)] 27)) (w2.heap.size + 1) A5 N5 C5 L5) := (HB5.out.later hb6).later bal
          have FV : Hid (Fl (w6.alloc (.cells #[.slice (A6 0) (N6 0) (C6 0), .slice (A6 1) (N6 1) (C6 1), .slice (A6 2) (N6 2) (C6 2), .slice (A6 3) (N6 3) (C6 3)] 27)) (w2.heap.size + 1) a7 n7 c7 WL) := (HF5.out.later hb6).later bal
          have bwV : Below w.heap.size w (w6.alloc (.cells #[.slice (A6 0) (N6 0) (C6 0), .slice (A6 1) (N6 1) (C6 1), .slice (A6 2) (N6 2) (C6 2), .slice (A6 3) (N6 3) (C6 3)] 27)) := (bw5.trans (hb6.mono bw5.size)).trans (bal.mono (by have := bw5.size; omega))
          have hsV := bwV.size
          clear c0 c1 c2 c3 f0 f1 f2 f3 hB6 hL9
          by_cases hqn : q = n7
          · have hhd : headL (L5 jw) = 0 := by rw [HD.out, List.drop_eq_nil_of_le (by omega)]; rfl
            rw [hhd]
            clear hhd
            subst hqn
            go_upto_region 22 with fail
            generalize w6.alloc (.cells #[.slice (A6 0) (N6 0) (C6 0), .slice (A6 1) (N6 1) (C6 1), .slice (A6 2) (N6 2) (C6 2), .slice (A6 3) (N6 3) (C6 3)] 27) = V at *
            clear hb6 bal
            go_wp2
            go_loopw [12] (fun i wy => ∃ p : Nat, p ≤ 4 ∧ i = .int .i64 p ∧ Below V.heap.size V wy) (fun i _ => 4 - (intOf i).toNat)
            case atStart => exact ⟨0, by decide, rfl, Below.refl _ _⟩
            case round =>
              obtain ⟨p, hp, rfl, p0⟩ := hrel
              by_cases hp4 : p < 4
              · have y0 := cell_later p0 (PV.at p hp4).1
                have y1 := cell_later p0 (PV5.at p hp4).1
                have hpi : (p : Int) < 4 := by omega
                by_cases hpj : p = jw
                · have hpb : ((p : Int) != (jw : Int)) = false := by simp; omega
                  subst hpj
                  go_wp2
                  go_quiet (fail)
                  go_wp2
                  go_roundw
                  case rel => exact ⟨p + 1, by omega, by go_num, below_drewN p0 nq⟩
                  case measure => simp [intOf]; omega
                · have hpb : ((p : Int) != (jw : Int)) = true := by simp; omega
                  have Z1 : Hid (Fl wr (w2.heap.size + 1) (A6 p) (N6 p) (C6 p) (L5 p)) := by have := (BV.out p hp4).later p0; rw [upd_ne _ _ _ _ hpj] at this; exact this
                  have Z2 : Hid (Fl wr (w2.heap.size + 1) (A5 p) (N5 p) (C5 p) (L5 p)) := (BV5.out p hp4).later p0
                  go_wp2
                  go_quiet (first
                    | (go_at_call_of 12 (#[Value.slice (A6 p) (N6 p) (C6 p), Value.slice (A5 p) (N5 p) (C5 p)]); refine Calls.quiet_of (sameNums_quiet (A6 p) (A5 p) (N6 p) (N5 p) (C6 p) (C5 p) (L5 p) _ (Z1.out.1.later (below_drewN (Below.refl _ _) _)) (Z2.out.1.later (below_drewN (Below.refl _ _) _)))))
                  go_wp2
                  go_roundw
                  case rel => exact ⟨p + 1, by omega, by go_num, below_drewN p0 nq⟩
                  case measure => simp [intOf]; omega
              · have hp4' : p = 4 := by omega
                subst hp4'
                have P7 := PV.later p0 PV.lt
                have Q7 := PV5.later p0 PV5.lt
                have hs7 := p0.size
                obtain ⟨⟨c0, c1, c2, c3⟩, ⟨f0, f1, f2, f3⟩⟩ := P7.cells
                obtain ⟨⟨g0, g1, g2, g3⟩, ⟨i0, i1, i2, i3⟩⟩ := Q7.cells
                have bs6 : Beside w2.heap.size wr _ := TK.beside (v0 := .slice (A6 0) (N6 0) (C6 0)) (v1 := .slice (A6 1) (N6 1) (C6 1)) (v2 := .slice (A6 2) (N6 2) (C6 2)) (v3 := .slice (A6 3) (N6 3) (C6 3)) (Beside.of (Below.refl _ _))
                have hs8 := bs6.size
                have bw7 := bwV.trans (p0.mono (by omega))
                have bw8 := bw7.trans (bs6.below (B := w.heap.size) (by omega) (by omega))
                go_wp2
                go_roundw
                case rel => exact ⟨q + 1, A6, N6, C6, upd L5 jw (L5 jw).tail, by omega, by go_num, Q7.over, (BV.out.later p0).beside bs6 (by omega), by rw [upd_at, HD.out, List.tail_drop], HL6.out, (FV.out.later p0).beside bs6 (by omega), bw8, Nat.le_trans (by omega : w2.heap.size + 1 ≤ wr.heap.size) hs8⟩
                case measure => simp [intOf]
          · have hqw : q < WL.length := by omega
            have hhd : headL (L5 jw) = WL[q] := by rw [HD.out, List.drop_eq_getElem_cons hqw]; rfl
            rw [hhd]
            obtain ⟨b7, o7, ha7, hc7⟩ := FV.out.1.2.2 (by omega)
            have hcq := hc7 q hqw
            subst ha7
            have e1 : ((q : Int) == (n7 : Int)) = false := by simp; omega
            have e2 : decide ((q : Int) < (n7 : Int)) = true := by simp; omega
            have e3 : (q : Int) < (n7 : Int) := by omega
            have e4 : (q == n7) = false := by simpa using hqn
            clear hhd hc7
            generalize WL[q] = wq at *
            go_upto_region 22 with fail
            generalize w6.alloc (.cells #[.slice (A6 0) (N6 0) (C6 0), .slice (A6 1) (N6 1) (C6 1), .slice (A6 2) (N6 2) (C6 2), .slice (A6 3) (N6 3) (C6 3)] 27) = V at *
            clear hb6 bal hcq
            go_wp2
            go_loopw [12] (fun i wy => ∃ p : Nat, p ≤ 4 ∧ i = .int .i64 p ∧ Below V.heap.size V wy) (fun i _ => 4 - (intOf i).toNat)
            case atStart => exact ⟨0, by decide, rfl, Below.refl _ _⟩
            case round =>
              obtain ⟨p, hp, rfl, p0⟩ := hrel
              by_cases hp4 : p < 4
              · have y0 := cell_later p0 (PV.at p hp4).1
                have y1 := cell_later p0 (PV5.at p hp4).1
                have hpi : (p : Int) < 4 := by omega
                by_cases hpj : p = jw
                · have hpb : ((p : Int) != (jw : Int)) = false := by simp; omega
                  subst hpj
                  go_wp2
                  go_quiet (fail)
                  go_wp2
                  go_roundw
                  case rel => exact ⟨p + 1, by omega, by go_num, below_drewN p0 nq⟩
                  case measure => simp [intOf]; omega
                · have hpb : ((p : Int) != (jw : Int)) = true := by simp; omega
                  have Z1 : Hid (Fl wr (w2.heap.size + 1) (A6 p) (N6 p) (C6 p) (L5 p)) := by have := (BV.out p hp4).later p0; rw [upd_ne _ _ _ _ hpj] at this; exact this
                  have Z2 : Hid (Fl wr (w2.heap.size + 1) (A5 p) (N5 p) (C5 p) (L5 p)) := (BV5.out p hp4).later p0
                  go_wp2
                  go_quiet (first
                    | (go_at_call_of 12 (#[Value.slice (A6 p) (N6 p) (C6 p), Value.slice (A5 p) (N5 p) (C5 p)]); refine Calls.quiet_of (sameNums_quiet (A6 p) (A5 p) (N6 p) (N5 p) (C6 p) (C5 p) (L5 p) _ (Z1.out.1.later (below_drewN (Below.refl _ _) _)) (Z2.out.1.later (below_drewN (Below.refl _ _) _)))))
                  go_wp2
                  go_roundw
                  case rel => exact ⟨p + 1, by omega, by go_num, below_drewN p0 nq⟩
                  case measure => simp [intOf]; omega
              · have hp4' : p = 4 := by omega
                subst hp4'
                have P7 := PV.later p0 PV.lt
                have Q7 := PV5.later p0 PV5.lt
                have hs7 := p0.size
                obtain ⟨⟨c0, c1, c2, c3⟩, ⟨f0, f1, f2, f3⟩⟩ := P7.cells
                obtain ⟨⟨g0, g1, g2, g3⟩, ⟨i0, i1, i2, i3⟩⟩ := Q7.cells
                have bs6 : Beside w2.heap.size wr _ := TK.beside (v0 := .slice (A6 0) (N6 0) (C6 0)) (v1 := .slice (A6 1) (N6 1) (C6 1)) (v2 := .slice (A6 2) (N6 2) (C6 2)) (v3 := .slice (A6 3) (N6 3) (C6 3)) (Beside.of (Below.refl _ _))
                have hs8 := bs6.size
                have bw7 := bwV.trans (p0.mono (by omega))
                have bw8 := bw7.trans (bs6.below (B := w.heap.size) (by omega) (by omega))
                go_wp2
                go_roundw
                case rel => exact ⟨q + 1, A6, N6, C6, upd L5 jw (L5 jw).tail, by omega, by go_num, Q7.over, (BV.out.later p0).beside bs6 (by omega), by rw [upd_at, HD.out, List.tail_drop], HL6.out, (FV.out.later p0).beside bs6 (by omega), bw8, Nat.le_trans (by omega : w2.heap.size + 1 ≤ wr.heap.size) hs8⟩
                case measure => simp [intOf]; omega
        · have hle' : decide ((q : Int) ≤ (n7 : Int)) = false := by simp; omega
          go_wp2
          go_ret
          exact ⟨rfl, bw5⟩
end Go.Proofs.Ytajaojcechoniaa
