/- What tell.Add hands back, for one of those who ask. No statement of the seat is proved here. -/
import Derived.Test.YtajaojcechoniaaTBox
namespace Go.Proofs.Ytajaojcechoniaa
open Go.ChangeShapes Go.WideShapes Go.ChangeAt Go.RowKit Go.Deep
attribute [local go_sem ↓] Go.wp_at_zero Go.wp_at_succ

set_option maxHeartbeats 4000000 in
theorem add_3 (A : Nat → Option Addr) (N C : Nat → Nat) (L : Nat → List Int) (what : Int) (lo : Nat) (w : World) (hB : BoxIs w lo A N C L) (hlo : lo ≤ w.heap.size) (hL : ∀ j, j < 4 → (L j).length ≤ 900) :
    Calls Try.prog 10 #[bx A N C, .agg #[.int .i64 4, .int .i64 what]] w fun e w' => ∃ A' N' C', e = .returned (bx A' N' C') ∧ BoxIs w' lo A' N' C' (upd L 3 (addL (L 3) what)) ∧ Below w.heap.size w w' ∧ Fresh w.heap.size A N A' N' := by
  have hF := hB 3 (by decide)
  have hlen := hL 3 (by decide)
  have hln := hF.1.1
  obtain ⟨bw0, hs0⟩ := Trio.below w (.slice (A 0) (N 0) (C 0)) (.slice (A 1) (N 1) (C 1)) (.slice (A 2) (N 2) (C 2)) (.slice (A 3) (N 3) (C 3)) 4 what
  have T0 := Trio.start w (.slice (A 0) (N 0) (C 0)) (.slice (A 1) (N 1) (C 1)) (.slice (A 2) (N 2) (C 2)) (.slice (A 3) (N 3) (C 3)) 4 what
  unfold bx
  go_enter Try.func10, Try.ntmps10
  go_wp2_with fail
  refine (asks_any 4 _).mono ?_
  rintro e w1 ⟨rfl, rfl⟩
  rw [show ∀ v0 v1 v2 v3, ((w.alloc (.cells #[v0, v1, v2, v3] 27)).alloc (.cells #[.int .i64 4, .int .i64 what] 31)).alloc (.cells #[.slice Option.none 0 0, .slice Option.none 0 0, .slice Option.none 0 0, .slice Option.none 0 0] 27) = trioW w v0 v1 v2 v3 4 what from fun _ _ _ _ => rfl]
  generalize hX : trioW w (.slice (A 0) (N 0) (C 0)) (.slice (A 1) (N 1) (C 1)) (.slice (A 2) (N 2) (C 2)) (.slice (A 3) (N 3) (C 3)) 4 what = X at *
  obtain ⟨⟨c0, c1, c2, c3⟩, ⟨d0, d1⟩, ⟨e0, e1, e2, e3⟩, ⟨f0, f1, f2, f3⟩, ⟨q0, q1, q2, q3⟩⟩ := T0.cells
  have hcap := hF.2.2.2
  have hmx : max 0 (-4 : Int) = 0 := by decide
  by_cases hn0 : N 3 = 0
  · have hl0 : L 3 = [] := List.eq_nil_of_length_eq_zero (by omega)
    rw [hn0] at c3
    have HAD : Hid (addL (L 3) what = [] ++ [what]) := by show _ = _; rw [hl0]; rfl
    have hnum : ∀ a5 : Option Addr, Nums X a5 0 [] := fun a5 => ⟨rfl, by omega, fun h => absurd rfl h⟩
    by_cases hC0 : C 3 = 0
    · rw [hC0] at c3
      go_wp2
      go_quiet (fail)
      go_wp2
      have H5 : Hid (Nums X (A 3) (0) ([])) := hnum _
      have H6 : Hid ((A 3) = Option.none → (0) = 0) := fun _ => rfl
      go_region_with (go_at_call 15; refine (concat_here X (w.heap.size + 3) _ hs0 what (A 3) (0) (0) ([]) H5.out H6.out (by omega)).mono ?_; rintro e w3 ⟨a3, n3, c3', rfl, hf3, hb3⟩; have T3 := T0.later hb3 (Nat.le_refl _); obtain ⟨⟨g0, g1, g2, g3⟩, ⟨h0, h1⟩, ⟨i0, i1, i2, i3⟩, ⟨j0, j1, j2, j3⟩, ⟨k0, k1, k2, k3⟩⟩ := T3.cells)
      all_goals
        clear c0 c1 c2 c3 d0 d1 e0 e1 e2 e3 f0 f1 f2 f3 q0 q1 q2 q3
        have bw3 := bw0.trans (hb3.mono (by omega))
        clear T0 H5 H6
        go_wp2
        obtain ⟨Z, hZ, z0, z1, z2, z3⟩ := TZ.cells (N := w.heap.size) (J := 3) (u := .slice a3 n3 c3') (v0 := Value.slice (A 0) (N 0) (C 0)) (v1 := Value.slice (A 1) (N 1) (C 1)) (v2 := Value.slice (A 2) (N 2) (C 2)) (v3 := Value.slice a3 n3 c3') T3.2.2 (by omega)
        have hZ' := hZ
        unfold TZ at hZ'
        rw [← hZ']
        clear hZ'
        have HZ : Hid (Z = TZ w3 w.heap.size (w.heap.size + 1 + 1) 3 (.slice a3 n3 c3') (Value.slice (A 0) (N 0) (C 0)) (Value.slice (A 1) (N 1) (C 1)) (Value.slice (A 2) (N 2) (C 2)) (Value.slice a3 n3 c3')) := hZ
        clear hZ
        refine bodyPost_ret (v := .agg #[Value.slice (A 0) (N 0) (C 0), Value.slice (A 1) (N 1) (C 1), Value.slice (A 2) (N 2) (C 2), Value.slice a3 n3 c3']) (by simp [results, Try.results10, go_sem, z0, z1, z2, z3]) rfl ⟨upd A 3 a3, upd N 3 n3, upd C 3 c3', rfl, ?_, ?_, fresh_upd (fun ad e => Nat.le_trans (by omega) (hf3.2.2.1 ad e))⟩
        · rw [HZ.out, HAD.out]
          exact hB.upd (TZ.below bw3 (Nat.le_refl _) (by omega)) ((TZ.fl hf3 (by omega) (by omega)).mono (by omega))
        · rw [HZ.out]; exact TZ.below bw3 (Nat.le_refl _) (by omega)
    · go_wp2
      go_quiet (fail)
      go_wp2
      have H5 : Hid (Nums X (A 3) (0) ([])) := hnum _
      have H6 : Hid ((A 3) = Option.none → (C 3) = 0) := hF.2.1
      go_region_with (go_at_call 15; refine (concat_here X (w.heap.size + 3) _ hs0 what (A 3) (0) (C 3) ([]) H5.out H6.out (by omega)).mono ?_; rintro e w3 ⟨a3, n3, c3', rfl, hf3, hb3⟩; have T3 := T0.later hb3 (Nat.le_refl _); obtain ⟨⟨g0, g1, g2, g3⟩, ⟨h0, h1⟩, ⟨i0, i1, i2, i3⟩, ⟨j0, j1, j2, j3⟩, ⟨k0, k1, k2, k3⟩⟩ := T3.cells)
      all_goals
        clear c0 c1 c2 c3 d0 d1 e0 e1 e2 e3 f0 f1 f2 f3 q0 q1 q2 q3
        have bw3 := bw0.trans (hb3.mono (by omega))
        clear T0 H5 H6
        go_wp2
        obtain ⟨Z, hZ, z0, z1, z2, z3⟩ := TZ.cells (N := w.heap.size) (J := 3) (u := .slice a3 n3 c3') (v0 := Value.slice (A 0) (N 0) (C 0)) (v1 := Value.slice (A 1) (N 1) (C 1)) (v2 := Value.slice (A 2) (N 2) (C 2)) (v3 := Value.slice a3 n3 c3') T3.2.2 (by omega)
        have hZ' := hZ
        unfold TZ at hZ'
        rw [← hZ']
        clear hZ'
        have HZ : Hid (Z = TZ w3 w.heap.size (w.heap.size + 1 + 1) 3 (.slice a3 n3 c3') (Value.slice (A 0) (N 0) (C 0)) (Value.slice (A 1) (N 1) (C 1)) (Value.slice (A 2) (N 2) (C 2)) (Value.slice a3 n3 c3')) := hZ
        clear hZ
        refine bodyPost_ret (v := .agg #[Value.slice (A 0) (N 0) (C 0), Value.slice (A 1) (N 1) (C 1), Value.slice (A 2) (N 2) (C 2), Value.slice a3 n3 c3']) (by simp [results, Try.results10, go_sem, z0, z1, z2, z3]) rfl ⟨upd A 3 a3, upd N 3 n3, upd C 3 c3', rfl, ?_, ?_, fresh_upd (fun ad e => Nat.le_trans (by omega) (hf3.2.2.1 ad e))⟩
        · rw [HZ.out, HAD.out]
          exact hB.upd (TZ.below bw3 (Nat.le_refl _) (by omega)) ((TZ.fl hf3 (by omega) (by omega)).mono (by omega))
        · rw [HZ.out]; exact TZ.below bw3 (Nat.le_refl _) (by omega)
  · obtain ⟨m, hm⟩ : ∃ m, N 3 = m + 1 := ⟨N 3 - 1, by omega⟩
    obtain ⟨b, off, ha, hc⟩ := (hF.1.later bw0).2.2 hn0
    have hNX : Hid (Nums X (some ⟨b, off, Option.none⟩) (m + 1) (L 3)) := by have := hF.1.later bw0; rw [ha, hm] at this; exact this
    have hlast := hc m (by omega)
    rw [ha, hm] at c3
    clear hc
    by_cases hq : (L 3)[m] = what
    · have hq' : ((L 3)[m] == what) = true := by simpa using hq
      have HAD : Hid (addL (L 3) what = L 3) := by show _ = _; unfold addL; rw [if_pos (by rw [List.getLast?_eq_getElem?, show (L 3).length - 1 = m by omega, List.getElem?_eq_getElem (by omega), hq])]
      go_wp2
      go_quiet (fail)
      go_wp2
      obtain ⟨Z, hZ, z0, z1, z2, z3⟩ := TK.cells (X := X.drewN nq) (v0 := Value.slice (A 0) (N 0) (C 0)) (v1 := Value.slice (A 1) (N 1) (C 1)) (v2 := Value.slice (A 2) (N 2) (C 2)) (v3 := Value.slice (some ⟨b, off, Option.none⟩) (m + 1) (C 3)) (T0.later (below_drewN (Below.refl _ _) nq) (Nat.le_of_eq hs0.symm)).2.2
      have hZ' := hZ
      unfold TK at hZ'
      rw [← hZ']
      clear hZ'
      have HZ : Hid (Z = TK (X.drewN nq) (w.heap.size + 1 + 1) (Value.slice (A 0) (N 0) (C 0)) (Value.slice (A 1) (N 1) (C 1)) (Value.slice (A 2) (N 2) (C 2)) (Value.slice (some ⟨b, off, Option.none⟩) (m + 1) (C 3))) := hZ
      clear hZ
      have bZ : Below w.heap.size w Z := by rw [HZ.out]; exact TK.below (below_drewN bw0 nq) (by omega)
      refine bodyPost_ret (v := .agg #[Value.slice (A 0) (N 0) (C 0), Value.slice (A 1) (N 1) (C 1), Value.slice (A 2) (N 2) (C 2), Value.slice (some ⟨b, off, Option.none⟩) (m + 1) (C 3)]) (by simp [results, Try.results10, go_sem, z0, z1, z2, z3]) rfl ⟨upd A 3 (some ⟨b, off, Option.none⟩), upd N 3 (m + 1), C, rfl, ?_, bZ, fresh_same ha hm⟩
      rw [HAD.out]
      have hFz := hF.later bZ
      rw [ha, hm] at hFz
      exact upd_same C 3 ▸ hB.upd bZ hFz
    · have hq' : ((L 3)[m] == what) = false := by simpa using hq
      obtain ⟨k, hk⟩ : ∃ k, k = m - 3 := ⟨_, rfl⟩
      have hmax : max 0 ((m : Int) + 1 - 4) = (k : Int) := by omega
      have hCk : ¬ (C 3 = k) := by omega
      have hkm : k ≤ m + 1 := by omega
      have hkm' : m + 1 - k ≤ 4 := by omega
      have HK : Hid (k = m - 3) := hk
      have HAD : Hid (addL (L 3) what = (L 3).drop k ++ [what]) := by show _ = _; unfold addL; rw [if_neg (by rw [List.getLast?_eq_getElem?, show (L 3).length - 1 = m by omega, List.getElem?_eq_getElem (by omega)]; simpa using hq)]; rw [show (L 3).length - 4 = k by omega]
      clear hk
      go_wp2
      go_quiet (fail)
      go_wp2
      have H5 : Hid (Nums X ((some ⟨b, off + k, Option.none⟩ : Option Addr)) (m + 1 - k) ((L 3).drop k)) := hNX.out.drop k hkm
      have H6 : Hid (((some ⟨b, off + k, Option.none⟩ : Option Addr)) = Option.none → (C 3 - k) = 0) := fun h => by cases h
      go_region_with (go_at_call 15; refine (concat_here X (w.heap.size + 3) _ hs0 what ((some ⟨b, off + k, Option.none⟩ : Option Addr)) (m + 1 - k) (C 3 - k) ((L 3).drop k) H5.out H6.out (by omega)).mono ?_; rintro e w3 ⟨a3, n3, c3', rfl, hf3, hb3⟩; have T3 := T0.later hb3 (Nat.le_refl _); obtain ⟨⟨g0, g1, g2, g3⟩, ⟨h0, h1⟩, ⟨i0, i1, i2, i3⟩, ⟨j0, j1, j2, j3⟩, ⟨k0, k1, k2, k3⟩⟩ := T3.cells)
      all_goals
        clear c0 c1 c2 c3 d0 d1 e0 e1 e2 e3 f0 f1 f2 f3 q0 q1 q2 q3
        have bw3 := bw0.trans (hb3.mono (by omega))
        clear T0 H5 H6
        go_wp2
        obtain ⟨Z, hZ, z0, z1, z2, z3⟩ := TZ.cells (N := w.heap.size) (J := 3) (u := .slice a3 n3 c3') (v0 := Value.slice (A 0) (N 0) (C 0)) (v1 := Value.slice (A 1) (N 1) (C 1)) (v2 := Value.slice (A 2) (N 2) (C 2)) (v3 := Value.slice a3 n3 c3') T3.2.2 (by omega)
        have hZ' := hZ
        unfold TZ at hZ'
        rw [← hZ']
        clear hZ'
        have HZ : Hid (Z = TZ w3 w.heap.size (w.heap.size + 1 + 1) 3 (.slice a3 n3 c3') (Value.slice (A 0) (N 0) (C 0)) (Value.slice (A 1) (N 1) (C 1)) (Value.slice (A 2) (N 2) (C 2)) (Value.slice a3 n3 c3')) := hZ
        clear hZ
        refine bodyPost_ret (v := .agg #[Value.slice (A 0) (N 0) (C 0), Value.slice (A 1) (N 1) (C 1), Value.slice (A 2) (N 2) (C 2), Value.slice a3 n3 c3']) (by simp [results, Try.results10, go_sem, z0, z1, z2, z3]) rfl ⟨upd A 3 a3, upd N 3 n3, upd C 3 c3', rfl, ?_, ?_, fresh_upd (fun ad e => Nat.le_trans (by omega) (hf3.2.2.1 ad e))⟩
        · rw [HZ.out, HAD.out]
          exact hB.upd (TZ.below bw3 (Nat.le_refl _) (by omega)) ((TZ.fl hf3 (by omega) (by omega)).mono (by omega))
        · rw [HZ.out]; exact TZ.below bw3 (Nat.le_refl _) (by omega)
end Go.Proofs.Ytajaojcechoniaa
