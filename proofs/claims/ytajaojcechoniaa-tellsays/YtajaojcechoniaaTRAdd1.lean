/- What the document's own Add hands back and leaves. No statement of the seat is proved here. -/
import Derived.Test.YtajaojcechoniaaTDoc
namespace Go.Proofs.Ytajaojcechoniaa
open Go.ChangeShapes Go.WideShapes Go.ChangeAt Go.RowKit Go.Deep
attribute [local go_sem ↓] Go.wp_at_zero Go.wp_at_succ

set_option maxHeartbeats 4000000 in
theorem radd_1 (M : Nat) (A : Nat → Option Addr) (N C : Nat → Nat) (L : Nat → List Int) (what : Int) (lo : Nat) (w : World) (hD : DBox w M A N C) (hB : BoxIs w lo A N C L) (hM : M < lo) (hlo : lo ≤ w.heap.size) (hL : ∀ j, j < 4 → (L j).length ≤ 5) :
    Calls Try.prog 11 #[.pointer (some ⟨M, 0, Option.none⟩), .agg #[.int .i64 2, .int .i64 what]] w fun e w' => ∃ A' N' C', e = .returned (.tuple #[]) ∧ DBox w' M A' N' C' ∧ BoxIs w' lo A' N' C' (upd L 1 (addL (L 1) what)) ∧ Beside M w w' := by
  have hF := hB 1 (by decide)
  have hlen := hL 1 (by decide)
  have hln := hF.1.1
  have hcap := hF.2.2.2
  have bX : Below w.heap.size w (w.alloc (.cells #[.int .i64 2, .int .i64 what] 31)) := (Below.refl _ _).alloc (Nat.le_refl _) _
  have hX0 : (w.alloc (.cells #[.int .i64 2, .int .i64 what] 31)).heap[w.heap.size]? = some (.cells #[.int .i64 2, .int .i64 what] 31 (0, 0)) := heap_alloc_new w _
  have hXs : (w.alloc (.cells #[.int .i64 2, .int .i64 what] 31)).heap.size = w.heap.size + 1 := by simp
  go_enter Try.func11, Try.ntmps11
  go_wp2
  generalize hX : w.alloc (.cells #[.int .i64 2, .int .i64 what] 31) = X at *
  have d0 : X.cell? ⟨w.heap.size, 0, Option.none⟩ = some (.int .i64 2) := by simp [World.cell?, hX0]
  have d1 : X.cell? ⟨w.heap.size, 1, Option.none⟩ = some (.int .i64 what) := by simp [World.cell?, hX0]
  have hDX := hD.later bX
  have hFX := hF.later bX
  obtain ⟨⟨c0, c1, c2, c3⟩, ⟨f0, f1, f2, f3⟩⟩ := hDX.cells
  by_cases hn0 : N 1 = 0
  · have hl0 : L 1 = [] := List.eq_nil_of_length_eq_zero (by omega)
    rw [hn0] at c1
    have HN : Hid (Nums X (A 1) 0 (L 1)) := by have := hFX.1; rw [hn0] at this; exact this
    have HAD : Hid (addL (L 1) what = L 1 ++ [what]) := by show _ = _; rw [hl0]; rfl
    go_quiet (fail)
    go_wp2
    go_quiet (fail)
    go_wp2
    go_region_held3 (fun w' => w'.cell? ⟨w.heap.size, 1, Option.none⟩ = some (.int .i64 what))
      (first | exact d1 | exact cell_later (‹Below X.heap.size X _›) d1 | go_keep)
      (first
        | (refine step_app0' rfl _ _ rfl (A 1) (0) (C 1) (L 1) X _ (by simp [Act.eval]) (by simp [Act.eval]) hFX.2.1 HN.out (by omega) (by first | exact (below_drewN (below_drewN (Below.refl _ _) _) _).drew | exact (below_drewN (Below.refl _ _) _).alloc (by simp) _) ?_; intro v1 w1 ho1 hb1 hb1')
        | (refine step_app1 rfl _ _ rfl X.heap.size v1 (L 1) w1.heap.size what _ (by simp [Act.eval]) (by simp [Act.eval]) (ho1.later ((Below.refl _ _).alloc (Nat.le_refl _) _) (Nat.le_refl _)) (by simp [go_sem]) (by omega) (by have := hb1.size; simp; omega) ?_; intro a3 n3 c3' w3 hf3 hb3; have hbw : Below X.heap.size X w3 := (hb1.alloc hb1.size _).trans hb3)
        | (refine step_app1 rfl _ _ rfl X.heap.size v1 (L 1) (w.heap.size + 1) what _ (by simp [Act.eval]) (by simp [Act.eval]) ho1 (cell_later hb1' (by simp [hXs, go_sem])) (by omega) hb1.size ?_; intro a3 n3 c3' w3 hf3 hb3; have hbw : Below X.heap.size X w3 := hb1.trans hb3))
    all_goals
      have hD3 := hDX.later hbw
      have hn3 : n3 = (L 1).length + 1 := by have := hf3.1.1; simp at this; omega
      have hbw3 : Below w.heap.size w w3 := bX.trans (hbw.mono bX.size)
      clear c0 c1 c2 c3 f0 f1 f2 f3
      obtain ⟨⟨c0, c1, c2, c3⟩, ⟨f0, f1, f2, f3⟩⟩ := hD3.cells
      have d03 := cell_later hbw d0
      have h5i : decide ((5 : Int) < (n3 : Int)) = false := by simp; omega
      clear hn3
      go_wp2
      go_region
      all_goals
        go_wp2
        first | go_end0 | refine bodyPost_ret (results_none rfl _ _ _) rfl ?_
        have bs : Beside M w3 _ := (((Beside.of (Below.refl _ w3)).set 1 (.slice a3 n3 c3')).trans (Beside.of (Below.refl _ _).drew))
        exact ⟨upd A 1 a3, upd N 1 n3, upd C 1 c3', rfl, (hD3.set 1 (by decide) _ _ _).later (Below.refl _ _).drew, HAD.out ▸ box_updB hB ((Beside.of hbw3).trans bs) hM ((hf3.mono (by omega)).beside bs hM), (Beside.of hbw3).trans bs⟩
  · obtain ⟨m, hm⟩ : ∃ m, N 1 = m + 1 := ⟨N 1 - 1, by omega⟩
    obtain ⟨b, off, ha, hc⟩ := hFX.1.2.2 hn0
    have HN : Hid (Nums X (some ⟨b, off, Option.none⟩) (m + 1) (L 1)) := by have := hFX.1; rw [ha, hm] at this; exact this
    have hlast := hc m (by omega)
    rw [ha, hm] at c1
    clear hc
    by_cases hq : (L 1)[m] = what
    · have hq' : ((L 1)[m] == what) = true := by simpa using hq
      have HAD : Hid (addL (L 1) what = L 1) := by show _ = _; unfold addL; rw [if_pos (by rw [List.getLast?_eq_getElem?, show (L 1).length - 1 = m by omega, List.getElem?_eq_getElem (by omega), hq])]
      go_quiet (fail)
      go_wp2
      go_quiet (fail)
      go_wp2
      first | go_end0 | refine bodyPost_ret (results_none rfl _ _ _) rfl ?_
      have HAD3 := HAD.out
      first
        | exact ⟨A, N, C, rfl, hDX.later (below_drewN (below_drewN (Below.refl _ _) _) _), by rw [HAD3, upd_same]; exact hB.later (below_drewN (below_drewN bX _) _), Beside.of (below_drewN (below_drewN bX _) _)⟩
        | exact ⟨A, N, C, rfl, hDX.later (below_drewN (Below.refl _ _) _), by rw [HAD3, upd_same]; exact hB.later (below_drewN bX _), Beside.of (below_drewN bX _)⟩
    · have hq' : ((L 1)[m] == what) = false := by simpa using hq
      have HAD : Hid (addL (L 1) what = (L 1).drop (m - 3) ++ [what]) := by show _ = _; unfold addL; rw [if_neg (by rw [List.getLast?_eq_getElem?, show (L 1).length - 1 = m by omega, List.getElem?_eq_getElem (by omega)]; simpa using hq)]; rw [show (L 1).length - 4 = m - 3 by omega]
      have hnn : (some (⟨b, off, Option.none⟩ : Addr)) = Option.none → C 1 = 0 := fun h => by cases h
      go_quiet (fail)
      go_wp2
      go_quiet (fail)
      go_wp2
      go_region_held3 (fun w' => w'.cell? ⟨w.heap.size, 1, Option.none⟩ = some (.int .i64 what))
        (first | exact d1 | exact cell_later (‹Below X.heap.size X _›) d1 | go_keep)
        (first
          | (refine step_app0' rfl _ _ rfl (some ⟨b, off, Option.none⟩) (m + 1) (C 1) (L 1) X _ (by simp [Act.eval]) (by simp [Act.eval]) hnn HN.out (by omega) (by first | exact (below_drewN (below_drewN (Below.refl _ _) _) _).drew | exact (below_drewN (Below.refl _ _) _).alloc (by simp) _) ?_; intro v1 w1 ho1 hb1 hb1')
          | (refine step_app1 rfl _ _ rfl X.heap.size v1 (L 1) w1.heap.size what _ (by simp [Act.eval]) (by simp [Act.eval]) (ho1.later ((Below.refl _ _).alloc (Nat.le_refl _) _) (Nat.le_refl _)) (by simp [go_sem]) (by omega) (by have := hb1.size; simp; omega) ?_; intro a3 n3 c3' w3 hf3 hb3; have hbw : Below X.heap.size X w3 := (hb1.alloc hb1.size _).trans hb3)
          | (refine step_app1 rfl _ _ rfl X.heap.size v1 (L 1) (w.heap.size + 1) what _ (by simp [Act.eval]) (by simp [Act.eval]) ho1 (cell_later hb1' (by simp [hXs, go_sem])) (by omega) hb1.size ?_; intro a3 n3 c3' w3 hf3 hb3; have hbw : Below X.heap.size X w3 := hb1.trans hb3))
      all_goals
        by_cases h5 : m + 1 = 5
        · have HF3 : Hid (Fl w3 X.heap.size a3 n3 c3' (L 1 ++ [what])) := hf3
          have hn3 : n3 = 6 := by have := hf3.1.1; simp at this; omega
          subst hn3
          obtain ⟨g, o, rfl, _⟩ := hf3.1.2.2 (by decide)
          have hc6 := hf3.2.2.2
          have hC1 : ¬ c3' = 1 := by omega
          have hgb : X.heap.size ≤ g := hf3.2.2.1 _ rfl
          have HAD2 : Hid (addL (L 1) what = (L 1 ++ [what]).drop 1) := by show _ = _; rw [HAD.out, show m - 3 = 1 by omega, List.drop_append_of_le_length (by omega)]
          have HF4 : Hid (Fl w3 X.heap.size (some ⟨g, o + 1, Option.none⟩) 5 (c3' - 1) ((L 1 ++ [what]).drop 1)) := ⟨HF3.out.1.drop 1 (by decide), (fun h => by cases h), (fun ad h => by cases h; exact hgb), by omega⟩
          have hD3 := hDX.later hbw
          have hbw3 : Below w.heap.size w w3 := bX.trans (hbw.mono bX.size)
          clear c0 c1 c2 c3 f0 f1 f2 f3 hf3
          obtain ⟨⟨c0, c1, c2, c3⟩, ⟨f0, f1, f2, f3⟩⟩ := hD3.cells
          have d03 := cell_later hbw d0
          go_wp2
          go_region
          all_goals
            go_wp2
            first | go_end0 | refine bodyPost_ret (results_none rfl _ _ _) rfl ?_
            have bs : Beside M w3 _ := (((Beside.of (Below.refl _ w3)).set 1 (.slice (some ⟨g, o + 1, Option.none⟩) 5 (c3' - 1))).trans (Beside.of (Below.refl _ _).drew))
            exact ⟨upd A 1 (some ⟨g, o + 1, Option.none⟩), upd N 1 5, upd C 1 (c3' - 1), rfl, (hD3.set 1 (by decide) _ _ _).later (Below.refl _ _).drew, HAD2.out ▸ box_updB hB ((Beside.of hbw3).trans bs) hM ((HF4.out.mono (by omega)).beside bs hM), (Beside.of hbw3).trans bs⟩
        · have HAD2 : Hid (addL (L 1) what = L 1 ++ [what]) := by show _ = _; rw [HAD.out, show m - 3 = 0 by omega]; rfl
          have hD3 := hDX.later hbw
          have hn3 : n3 = (L 1).length + 1 := by have := hf3.1.1; simp at this; omega
          have hbw3 : Below w.heap.size w w3 := bX.trans (hbw.mono bX.size)
          clear c0 c1 c2 c3 f0 f1 f2 f3
          obtain ⟨⟨c0, c1, c2, c3⟩, ⟨f0, f1, f2, f3⟩⟩ := hD3.cells
          have d03 := cell_later hbw d0
          have h5i : decide ((5 : Int) < (n3 : Int)) = false := by simp; omega
          clear hn3
          go_wp2
          go_region
          all_goals
            go_wp2
            first | go_end0 | refine bodyPost_ret (results_none rfl _ _ _) rfl ?_
            have bs : Beside M w3 _ := (((Beside.of (Below.refl _ w3)).set 1 (.slice a3 n3 c3')).trans (Beside.of (Below.refl _ _).drew))
            exact ⟨upd A 1 a3, upd N 1 n3, upd C 1 c3', rfl, (hD3.set 1 (by decide) _ _ _).later (Below.refl _ _).drew, HAD2.out ▸ box_updB hB ((Beside.of hbw3).trans bs) hM ((hf3.mono (by omega)).beside bs hM), (Beside.of hbw3).trans bs⟩
end Go.Proofs.Ytajaojcechoniaa
