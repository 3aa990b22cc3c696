/- What tell.Take hands back, for one of those who ask. No statement of the seat is proved here. -/
import Derived.Test.YtajaojcechoniaaTDuo
namespace Go.Proofs.Ytajaojcechoniaa
open Go.ChangeShapes Go.WideShapes Go.ChangeAt Go.RowKit Go.Deep
attribute [local go_sem ↓] Go.wp_at_zero Go.wp_at_succ

set_option maxHeartbeats 4000000 in
theorem take_2 (A : Nat → Option Addr) (N C : Nat → Nat) (L : Nat → List Int) (lo : Nat) (w : World) (hB : BoxIs w lo A N C L) (hlo : lo ≤ w.heap.size) (hL : ∀ j, j < 4 → (L j).length ≤ 900) :
    Calls Try.prog 6 #[bx A N C, .int .i64 3] w fun e w' => ∃ A' N' C', e = .returned (.tuple #[bx A' N' C', .int .i64 (headL (L 2))]) ∧ BoxIs w' lo A' N' C' (upd L 2 (L 2).tail) ∧ Below w.heap.size w w' := by
  have hF := hB 2 (by decide)
  have hlen := hL 2 (by decide)
  have hln := hF.1.1
  have hcap := hF.2.2.2
  obtain ⟨bw0, hs0⟩ := Duo.below w (.slice (A 0) (N 0) (C 0)) (.slice (A 1) (N 1) (C 1)) (.slice (A 2) (N 2) (C 2)) (.slice (A 3) (N 3) (C 3))
  have T0 := Duo.start w (.slice (A 0) (N 0) (C 0)) (.slice (A 1) (N 1) (C 1)) (.slice (A 2) (N 2) (C 2)) (.slice (A 3) (N 3) (C 3))
  unfold bx
  go_enter Try.func6, Try.ntmps6
  go_wp2_with fail
  refine (asks_any 3 _).mono ?_
  rintro e w1 ⟨rfl, rfl⟩
  rw [show ∀ v0 v1 v2 v3, (w.alloc (.cells #[v0, v1, v2, v3] 27)).alloc (.cells #[.slice Option.none 0 0, .slice Option.none 0 0, .slice Option.none 0 0, .slice Option.none 0 0] 27) = duoW w v0 v1 v2 v3 from fun _ _ _ _ => rfl]
  generalize hX : duoW w (.slice (A 0) (N 0) (C 0)) (.slice (A 1) (N 1) (C 1)) (.slice (A 2) (N 2) (C 2)) (.slice (A 3) (N 3) (C 3)) = X at *
  obtain ⟨⟨c0, c1, c2, c3⟩, ⟨e0, e1, e2, e3⟩, ⟨f0, f1, f2, f3⟩, ⟨q0, q1, q2, q3⟩⟩ := T0.cells
  by_cases hn0 : N 2 = 0
  · have hl0 : L 2 = [] := List.eq_nil_of_length_eq_zero (by omega)
    rw [hn0] at c2
    go_wp2
    obtain ⟨Z, hZ, z0, z1, z2, z3⟩ := TK.cells (X := X) (v0 := Value.slice (A 0) (N 0) (C 0)) (v1 := Value.slice (A 1) (N 1) (C 1)) (v2 := Value.slice (A 2) 0 (C 2)) (v3 := Value.slice (A 3) (N 3) (C 3)) T0.2
    have hZ' := hZ
    unfold TK at hZ'
    rw [← hZ']
    clear hZ'
    have bZ : Below w.heap.size w Z := by rw [hZ]; exact TK.below bw0 (by omega)
    clear hZ
    refine bodyPost_ret (v := .tuple #[.agg #[Value.slice (A 0) (N 0) (C 0), Value.slice (A 1) (N 1) (C 1), Value.slice (A 2) 0 (C 2), Value.slice (A 3) (N 3) (C 3)], .int .i64 0]) (by simp [results, Try.results6, go_sem, z0, z1, z2, z3]) rfl ⟨A, upd N 2 0, C, by rw [hl0]; rfl, ?_, bZ⟩
    have hFz := hF.later bZ
    rw [hn0, hl0] at hFz
    rw [hl0]
    exact upd_same C 2 ▸ upd_same A 2 ▸ hB.upd bZ hFz
  · obtain ⟨m, hm⟩ : ∃ m, N 2 = m + 1 := ⟨N 2 - 1, by omega⟩
    obtain ⟨b, off, ha, hc⟩ := (hF.1.later bw0).2.2 hn0
    have hNX : Hid (Nums X (some ⟨b, off, Option.none⟩) (m + 1) (L 2)) := by have := hF.1.later bw0; rw [ha, hm] at this; exact this
    have hfirst := hc 0 (by omega)
    have hfirstw : w.cell? ⟨b, off, Option.none⟩ = some (.int .i64 (L 2)[0]) := by
      obtain ⟨b', off', e, hcw⟩ := hF.1.2.2 hn0
      rw [ha] at e
      simp only [Option.some.injEq, Addr.mk.injEq, and_true] at e
      obtain ⟨rfl, rfl⟩ := e
      simpa using hcw 0 (by omega)
    rw [ha, hm] at c2
    clear hc
    have HH : Hid (headL (L 2) = (L 2)[0]) := headL_at _ (by omega)
    by_cases hC1 : C 2 = 1
    · rw [hC1] at c2
      have HN1 : Hid (Nums X (some ⟨b, off, Option.none⟩) m (L 2).tail) := ⟨by simp; omega, by omega, fun h => absurd (by omega) h⟩
      go_wp2_with fail
      refine (cloneI_some _ m _ (L 2).tail X HN1.out (by omega)).mono ?_
      rintro e w3 ⟨v3, rfl, ho3, hb3⟩
      obtain ⟨a3, n3, c3', rfl, hf3⟩ := ho3.fl
      have hb3' := hb3.mono (Nat.le_of_eq hs0.symm)
      have hf3' := hf3.mono (Nat.le_of_eq hs0.symm)
      have T3 := T0.later hb3' (Nat.le_refl _)
      have bw3 := bw0.trans (hb3'.mono (by omega))
      clear T0 c0 c1 c2 c3 e0 e1 e2 e3 f0 f1 f2 f3 q0 q1 q2 q3 hfirst
      obtain ⟨⟨c0, c1, c2, c3⟩, ⟨e0, e1, e2, e3⟩, ⟨f0, f1, f2, f3⟩, ⟨q0, q1, q2, q3⟩⟩ := T3.cells
      go_wp2
      obtain ⟨Y, hY⟩ : ∃ Y, Y = w3.setCell ⟨w.heap.size, 2, Option.none⟩ (.slice a3 n3 c3') := ⟨_, rfl⟩
      have TY : Duo Y w.heap.size (Value.slice (A 0) (N 0) (C 0)) (Value.slice (A 1) (N 1) (C 1)) (Value.slice a3 n3 c3') (Value.slice (A 3) (N 3) (C 3)) := by
        rw [hY]
        exact ⟨heap_setCell_same _ _ 2 _ _ _ T3.1, by rw [Below.heap_setCell _ _ _ _ (by show w.heap.size + 1 ≠ w.heap.size; omega)]; exact T3.2⟩
      have bY : Below w.heap.size w Y := by rw [hY]; exact bw3.setCell (Nat.le_refl _) _
      have fY : Fl Y (w.heap.size + 2) a3 n3 c3' (L 2).tail := by rw [hY]; exact hf3'.set _ (by show w.heap.size < w.heap.size + 2; omega) _
      have hfirst := cell_later bY hfirstw
      rw [← hY]
      clear T3 c0 c1 c2 c3 e0 e1 e2 e3 f0 f1 f2 f3 q0 q1 q2 q3 hY
      obtain ⟨⟨c0, c1, c2, c3⟩, ⟨e0, e1, e2, e3⟩, ⟨f0, f1, f2, f3⟩, ⟨q0, q1, q2, q3⟩⟩ := TY.cells
      have hfz := cell_later (TK.below (M := w.heap.size + 1) (v0 := Value.slice (A 0) (N 0) (C 0)) (v1 := Value.slice (A 1) (N 1) (C 1)) (v2 := Value.slice a3 n3 c3') (v3 := Value.slice (A 3) (N 3) (C 3)) bY (by omega)) hfirstw
      unfold TK at hfz
      go_region
      all_goals
        go_wp2
        obtain ⟨Z, hZ, z0, z1, z2, z3⟩ := TK.cells (X := Y) (v0 := Value.slice (A 0) (N 0) (C 0)) (v1 := Value.slice (A 1) (N 1) (C 1)) (v2 := Value.slice a3 n3 c3') (v3 := Value.slice (A 3) (N 3) (C 3)) TY.2
        have bZ : Below w.heap.size w Z.drew := by rw [hZ]; exact (TK.below bY (by omega)).drew
        have fZ : Fl Z.drew (w.heap.size + 2) a3 n3 c3' (L 2).tail := by rw [hZ]; exact (TK.fl fY (by omega)).later (Below.refl _ _).drew
        have hZ' := hZ
        unfold TK at hZ'
        rw [← hZ']
        clear hZ' hZ
        refine bodyPost_ret (v := .tuple #[.agg #[Value.slice (A 0) (N 0) (C 0), Value.slice (A 1) (N 1) (C 1), Value.slice a3 n3 c3', Value.slice (A 3) (N 3) (C 3)], .int .i64 (L 2)[0]]) (by simp [results, Try.results6, go_sem, z0, z1, z2, z3]) rfl ⟨upd A 2 a3, upd N 2 n3, upd C 2 c3', by rw [HH.out]; rfl, ?_, bZ⟩
        exact hB.upd bZ (fZ.mono (by omega))
    · have HN1 : Hid (Nums X (some ⟨b, off + 1, Option.none⟩) m (L 2).tail) := by have := hNX.out.drop 1 (by omega); rw [List.drop_one] at this; exact this
      go_wp2_with fail
      refine (cloneI_some _ m _ (L 2).tail X HN1.out (by omega)).mono ?_
      rintro e w3 ⟨v3, rfl, ho3, hb3⟩
      obtain ⟨a3, n3, c3', rfl, hf3⟩ := ho3.fl
      have hb3' := hb3.mono (Nat.le_of_eq hs0.symm)
      have hf3' := hf3.mono (Nat.le_of_eq hs0.symm)
      have T3 := T0.later hb3' (Nat.le_refl _)
      have bw3 := bw0.trans (hb3'.mono (by omega))
      clear T0 c0 c1 c2 c3 e0 e1 e2 e3 f0 f1 f2 f3 q0 q1 q2 q3 hfirst
      obtain ⟨⟨c0, c1, c2, c3⟩, ⟨e0, e1, e2, e3⟩, ⟨f0, f1, f2, f3⟩, ⟨q0, q1, q2, q3⟩⟩ := T3.cells
      go_wp2
      obtain ⟨Y, hY⟩ : ∃ Y, Y = w3.setCell ⟨w.heap.size, 2, Option.none⟩ (.slice a3 n3 c3') := ⟨_, rfl⟩
      have TY : Duo Y w.heap.size (Value.slice (A 0) (N 0) (C 0)) (Value.slice (A 1) (N 1) (C 1)) (Value.slice a3 n3 c3') (Value.slice (A 3) (N 3) (C 3)) := by
        rw [hY]
        exact ⟨heap_setCell_same _ _ 2 _ _ _ T3.1, by rw [Below.heap_setCell _ _ _ _ (by show w.heap.size + 1 ≠ w.heap.size; omega)]; exact T3.2⟩
      have bY : Below w.heap.size w Y := by rw [hY]; exact bw3.setCell (Nat.le_refl _) _
      have fY : Fl Y (w.heap.size + 2) a3 n3 c3' (L 2).tail := by rw [hY]; exact hf3'.set _ (by show w.heap.size < w.heap.size + 2; omega) _
      have hfirst := cell_later bY hfirstw
      rw [← hY]
      clear T3 c0 c1 c2 c3 e0 e1 e2 e3 f0 f1 f2 f3 q0 q1 q2 q3 hY
      obtain ⟨⟨c0, c1, c2, c3⟩, ⟨e0, e1, e2, e3⟩, ⟨f0, f1, f2, f3⟩, ⟨q0, q1, q2, q3⟩⟩ := TY.cells
      have hfz := cell_later (TK.below (M := w.heap.size + 1) (v0 := Value.slice (A 0) (N 0) (C 0)) (v1 := Value.slice (A 1) (N 1) (C 1)) (v2 := Value.slice a3 n3 c3') (v3 := Value.slice (A 3) (N 3) (C 3)) bY (by omega)) hfirstw
      unfold TK at hfz
      go_region
      all_goals
        go_wp2
        obtain ⟨Z, hZ, z0, z1, z2, z3⟩ := TK.cells (X := Y) (v0 := Value.slice (A 0) (N 0) (C 0)) (v1 := Value.slice (A 1) (N 1) (C 1)) (v2 := Value.slice a3 n3 c3') (v3 := Value.slice (A 3) (N 3) (C 3)) TY.2
        have bZ : Below w.heap.size w Z.drew := by rw [hZ]; exact (TK.below bY (by omega)).drew
        have fZ : Fl Z.drew (w.heap.size + 2) a3 n3 c3' (L 2).tail := by rw [hZ]; exact (TK.fl fY (by omega)).later (Below.refl _ _).drew
        have hZ' := hZ
        unfold TK at hZ'
        rw [← hZ']
        clear hZ' hZ
        refine bodyPost_ret (v := .tuple #[.agg #[Value.slice (A 0) (N 0) (C 0), Value.slice (A 1) (N 1) (C 1), Value.slice a3 n3 c3', Value.slice (A 3) (N 3) (C 3)], .int .i64 (L 2)[0]]) (by simp [results, Try.results6, go_sem, z0, z1, z2, z3]) rfl ⟨upd A 2 a3, upd N 2 n3, upd C 2 c3', by rw [HH.out]; rfl, ?_, bZ⟩
        exact hB.upd bZ (fZ.mono (by omega))
end Go.Proofs.Ytajaojcechoniaa
