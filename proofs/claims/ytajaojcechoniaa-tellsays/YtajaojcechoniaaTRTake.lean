/- What the document's own Take hands back and leaves. No statement of the seat is proved here. -/
import Derived.Test.YtajaojcechoniaaTDoc
namespace Go.Proofs.Ytajaojcechoniaa
open Go.ChangeShapes Go.WideShapes Go.ChangeAt Go.RowKit Go.Deep
attribute [local go_sem ↓] Go.wp_at_zero Go.wp_at_succ

theorem dbox_drew {X : World} {M : Nat} {A : Nat → Option Addr} {N C : Nat → Nat} (h : DBox X M A N C) : DBox X.drew M A N C := h.later (Below.refl _ _).drew

set_option maxHeartbeats 4000000 in
theorem rtake_0 (M : Nat) (A : Nat → Option Addr) (N C : Nat → Nat) (L : Nat → List Int) (lo : Nat) (w : World) (hD : DBox w M A N C) (hB : BoxIs w lo A N C L) (hM : M < lo) (hL : ∀ j, j < 4 → (L j).length ≤ 900) :
    Calls Try.prog 7 #[.pointer (some ⟨M, 0, Option.none⟩), .int .i64 1] w fun e w' => ∃ A' N' C', e = .returned (.int .i64 (headL (L 0))) ∧ DBox w' M A' N' C' ∧ BoxIs w' lo A' N' C' (upd L 0 (L 0).tail) ∧ Beside M w w' := by
  have hF := hB 0 (by decide)
  have hlen := hL 0 (by decide)
  have hln := hF.1.1
  have hcap := hF.2.2.2
  obtain ⟨⟨c0, c1, c2, c3⟩, ⟨f0, f1, f2, f3⟩⟩ := hD.cells
  go_enter Try.func7, Try.ntmps7
  by_cases hn0 : N 0 = 0
  · have hl0 : L 0 = [] := List.eq_nil_of_length_eq_zero (by omega)
    rw [hn0] at c0
    go_wp2
    go_ret
    refine ⟨A, N, C, by rw [hl0]; rfl, hD, ?_, Beside.of (Below.refl _ _)⟩
    rw [show (L 0).tail = L 0 by rw [hl0]; rfl, upd_same]
    exact hB
  · obtain ⟨m, hm⟩ : ∃ m, N 0 = m + 1 := ⟨N 0 - 1, by omega⟩
    obtain ⟨b, off, ha, hc⟩ := hF.1.2.2 hn0
    have hNX : Hid (Nums w (some ⟨b, off, Option.none⟩) (m + 1) (L 0)) := by have := hF.1; rw [ha, hm] at this; exact this
    have hfirst := hc 0 (by omega)
    simp only [Nat.add_zero] at hfirst
    have hlb : lo ≤ b := hF.2.2.1 _ ha
    rw [ha, hm] at c0
    clear hc
    have HH : Hid (headL (L 0) = (L 0)[0]) := headL_at _ (by omega)
    by_cases hC1 : C 0 = 1
    · rw [hC1] at c0
      have HF : Hid (Fl w lo (some ⟨b, off, Option.none⟩) m 0 (L 0).tail) := ⟨⟨by simp; omega, by omega, fun h => absurd (by omega) h⟩, (fun h => by cases h), (fun ad h => by cases h; exact hlb), by omega⟩
      have hfz := (Beside.set (Beside.of (M := M) (Below.refl _ w)) 0 (.slice (some ⟨b, off, Option.none⟩) m 0)).cell hfirst (by show b ≠ M; omega)
      go_wp2
      go_region
      all_goals
        go_wp2
        go_ret
        exact ⟨upd A 0 (some ⟨b, off, Option.none⟩), upd N 0 m, upd C 0 0, by rw [HH.out]; rfl, dbox_drew (hD.set 0 (by decide) _ _ _), box_updB hB (((Beside.of (Below.refl _ _)).set _ _).trans (Beside.of (Below.refl _ _).drew)) hM (HF.out.beside (((Beside.of (Below.refl _ _)).set _ _).trans (Beside.of (Below.refl _ _).drew)) hM), ((Beside.of (Below.refl _ _)).set _ _).trans (Beside.of (Below.refl _ _).drew)⟩
    · have HF : Hid (Fl w lo (some ⟨b, off + 1, Option.none⟩) m (C 0 - 1) (L 0).tail) := ⟨by have := hNX.out.drop 1 (by omega); rw [List.drop_one] at this; exact this, (fun h => by cases h), (fun ad h => by cases h; exact hlb), by omega⟩
      have hfz := (Beside.set (Beside.of (M := M) (Below.refl _ w)) 0 (.slice (some ⟨b, off + 1, Option.none⟩) m (C 0 - 1))).cell hfirst (by show b ≠ M; omega)
      go_wp2
      go_region
      all_goals
        go_wp2
        go_ret
        exact ⟨upd A 0 (some ⟨b, off + 1, Option.none⟩), upd N 0 m, upd C 0 (C 0 - 1), by rw [HH.out]; rfl, dbox_drew (hD.set 0 (by decide) _ _ _), box_updB hB (((Beside.of (Below.refl _ _)).set _ _).trans (Beside.of (Below.refl _ _).drew)) hM (HF.out.beside (((Beside.of (Below.refl _ _)).set _ _).trans (Beside.of (Below.refl _ _).drew)) hM), ((Beside.of (Below.refl _ _)).set _ _).trans (Beside.of (Below.refl _ _).drew)⟩

set_option maxHeartbeats 4000000 in
theorem rtake_1 (M : Nat) (A : Nat → Option Addr) (N C : Nat → Nat) (L : Nat → List Int) (lo : Nat) (w : World) (hD : DBox w M A N C) (hB : BoxIs w lo A N C L) (hM : M < lo) (hL : ∀ j, j < 4 → (L j).length ≤ 900) :
    Calls Try.prog 7 #[.pointer (some ⟨M, 0, Option.none⟩), .int .i64 2] w fun e w' => ∃ A' N' C', e = .returned (.int .i64 (headL (L 1))) ∧ DBox w' M A' N' C' ∧ BoxIs w' lo A' N' C' (upd L 1 (L 1).tail) ∧ Beside M w w' := by
  have hF := hB 1 (by decide)
  have hlen := hL 1 (by decide)
  have hln := hF.1.1
  have hcap := hF.2.2.2
  obtain ⟨⟨c0, c1, c2, c3⟩, ⟨f0, f1, f2, f3⟩⟩ := hD.cells
  go_enter Try.func7, Try.ntmps7
  by_cases hn0 : N 1 = 0
  · have hl0 : L 1 = [] := List.eq_nil_of_length_eq_zero (by omega)
    rw [hn0] at c1
    go_wp2
    go_ret
    refine ⟨A, N, C, by rw [hl0]; rfl, hD, ?_, Beside.of (Below.refl _ _)⟩
    rw [show (L 1).tail = L 1 by rw [hl0]; rfl, upd_same]
    exact hB
  · obtain ⟨m, hm⟩ : ∃ m, N 1 = m + 1 := ⟨N 1 - 1, by omega⟩
    obtain ⟨b, off, ha, hc⟩ := hF.1.2.2 hn0
    have hNX : Hid (Nums w (some ⟨b, off, Option.none⟩) (m + 1) (L 1)) := by have := hF.1; rw [ha, hm] at this; exact this
    have hfirst := hc 0 (by omega)
    simp only [Nat.add_zero] at hfirst
    have hlb : lo ≤ b := hF.2.2.1 _ ha
    rw [ha, hm] at c1
    clear hc
    have HH : Hid (headL (L 1) = (L 1)[0]) := headL_at _ (by omega)
    by_cases hC1 : C 1 = 1
    · rw [hC1] at c1
      have HF : Hid (Fl w lo (some ⟨b, off, Option.none⟩) m 0 (L 1).tail) := ⟨⟨by simp; omega, by omega, fun h => absurd (by omega) h⟩, (fun h => by cases h), (fun ad h => by cases h; exact hlb), by omega⟩
      have hfz := (Beside.set (Beside.of (M := M) (Below.refl _ w)) 1 (.slice (some ⟨b, off, Option.none⟩) m 0)).cell hfirst (by show b ≠ M; omega)
      go_wp2
      go_region
      all_goals
        go_wp2
        go_ret
        exact ⟨upd A 1 (some ⟨b, off, Option.none⟩), upd N 1 m, upd C 1 0, by rw [HH.out]; rfl, dbox_drew (hD.set 1 (by decide) _ _ _), box_updB hB (((Beside.of (Below.refl _ _)).set _ _).trans (Beside.of (Below.refl _ _).drew)) hM (HF.out.beside (((Beside.of (Below.refl _ _)).set _ _).trans (Beside.of (Below.refl _ _).drew)) hM), ((Beside.of (Below.refl _ _)).set _ _).trans (Beside.of (Below.refl _ _).drew)⟩
    · have HF : Hid (Fl w lo (some ⟨b, off + 1, Option.none⟩) m (C 1 - 1) (L 1).tail) := ⟨by have := hNX.out.drop 1 (by omega); rw [List.drop_one] at this; exact this, (fun h => by cases h), (fun ad h => by cases h; exact hlb), by omega⟩
      have hfz := (Beside.set (Beside.of (M := M) (Below.refl _ w)) 1 (.slice (some ⟨b, off + 1, Option.none⟩) m (C 1 - 1))).cell hfirst (by show b ≠ M; omega)
      go_wp2
      go_region
      all_goals
        go_wp2
        go_ret
        exact ⟨upd A 1 (some ⟨b, off + 1, Option.none⟩), upd N 1 m, upd C 1 (C 1 - 1), by rw [HH.out]; rfl, dbox_drew (hD.set 1 (by decide) _ _ _), box_updB hB (((Beside.of (Below.refl _ _)).set _ _).trans (Beside.of (Below.refl _ _).drew)) hM (HF.out.beside (((Beside.of (Below.refl _ _)).set _ _).trans (Beside.of (Below.refl _ _).drew)) hM), ((Beside.of (Below.refl _ _)).set _ _).trans (Beside.of (Below.refl _ _).drew)⟩

set_option maxHeartbeats 4000000 in
theorem rtake_2 (M : Nat) (A : Nat → Option Addr) (N C : Nat → Nat) (L : Nat → List Int) (lo : Nat) (w : World) (hD : DBox w M A N C) (hB : BoxIs w lo A N C L) (hM : M < lo) (hL : ∀ j, j < 4 → (L j).length ≤ 900) :
    Calls Try.prog 7 #[.pointer (some ⟨M, 0, Option.none⟩), .int .i64 3] w fun e w' => ∃ A' N' C', e = .returned (.int .i64 (headL (L 2))) ∧ DBox w' M A' N' C' ∧ BoxIs w' lo A' N' C' (upd L 2 (L 2).tail) ∧ Beside M w w' := by
  have hF := hB 2 (by decide)
  have hlen := hL 2 (by decide)
  have hln := hF.1.1
  have hcap := hF.2.2.2
  obtain ⟨⟨c0, c1, c2, c3⟩, ⟨f0, f1, f2, f3⟩⟩ := hD.cells
  go_enter Try.func7, Try.ntmps7
  by_cases hn0 : N 2 = 0
  · have hl0 : L 2 = [] := List.eq_nil_of_length_eq_zero (by omega)
    rw [hn0] at c2
    go_wp2
    go_ret
    refine ⟨A, N, C, by rw [hl0]; rfl, hD, ?_, Beside.of (Below.refl _ _)⟩
    rw [show (L 2).tail = L 2 by rw [hl0]; rfl, upd_same]
    exact hB
  · obtain ⟨m, hm⟩ : ∃ m, N 2 = m + 1 := ⟨N 2 - 1, by omega⟩
    obtain ⟨b, off, ha, hc⟩ := hF.1.2.2 hn0
    have hNX : Hid (Nums w (some ⟨b, off, Option.none⟩) (m + 1) (L 2)) := by have := hF.1; rw [ha, hm] at this; exact this
    have hfirst := hc 0 (by omega)
    simp only [Nat.add_zero] at hfirst
    have hlb : lo ≤ b := hF.2.2.1 _ ha
    rw [ha, hm] at c2
    clear hc
    have HH : Hid (headL (L 2) = (L 2)[0]) := headL_at _ (by omega)
    by_cases hC1 : C 2 = 1
    · rw [hC1] at c2
      have HF : Hid (Fl w lo (some ⟨b, off, Option.none⟩) m 0 (L 2).tail) := ⟨⟨by simp; omega, by omega, fun h => absurd (by omega) h⟩, (fun h => by cases h), (fun ad h => by cases h; exact hlb), by omega⟩
      have hfz := (Beside.set (Beside.of (M := M) (Below.refl _ w)) 2 (.slice (some ⟨b, off, Option.none⟩) m 0)).cell hfirst (by show b ≠ M; omega)
      go_wp2
      go_region
      all_goals
        go_wp2
        go_ret
        exact ⟨upd A 2 (some ⟨b, off, Option.none⟩), upd N 2 m, upd C 2 0, by rw [HH.out]; rfl, dbox_drew (hD.set 2 (by decide) _ _ _), box_updB hB (((Beside.of (Below.refl _ _)).set _ _).trans (Beside.of (Below.refl _ _).drew)) hM (HF.out.beside (((Beside.of (Below.refl _ _)).set _ _).trans (Beside.of (Below.refl _ _).drew)) hM), ((Beside.of (Below.refl _ _)).set _ _).trans (Beside.of (Below.refl _ _).drew)⟩
    · have HF : Hid (Fl w lo (some ⟨b, off + 1, Option.none⟩) m (C 2 - 1) (L 2).tail) := ⟨by have := hNX.out.drop 1 (by omega); rw [List.drop_one] at this; exact this, (fun h => by cases h), (fun ad h => by cases h; exact hlb), by omega⟩
      have hfz := (Beside.set (Beside.of (M := M) (Below.refl _ w)) 2 (.slice (some ⟨b, off + 1, Option.none⟩) m (C 2 - 1))).cell hfirst (by show b ≠ M; omega)
      go_wp2
      go_region
      all_goals
        go_wp2
        go_ret
        exact ⟨upd A 2 (some ⟨b, off + 1, Option.none⟩), upd N 2 m, upd C 2 (C 2 - 1), by rw [HH.out]; rfl, dbox_drew (hD.set 2 (by decide) _ _ _), box_updB hB (((Beside.of (Below.refl _ _)).set _ _).trans (Beside.of (Below.refl _ _).drew)) hM (HF.out.beside (((Beside.of (Below.refl _ _)).set _ _).trans (Beside.of (Below.refl _ _).drew)) hM), ((Beside.of (Below.refl _ _)).set _ _).trans (Beside.of (Below.refl _ _).drew)⟩

set_option maxHeartbeats 4000000 in
theorem rtake_3 (M : Nat) (A : Nat → Option Addr) (N C : Nat → Nat) (L : Nat → List Int) (lo : Nat) (w : World) (hD : DBox w M A N C) (hB : BoxIs w lo A N C L) (hM : M < lo) (hL : ∀ j, j < 4 → (L j).length ≤ 900) :
    Calls Try.prog 7 #[.pointer (some ⟨M, 0, Option.none⟩), .int .i64 4] w fun e w' => ∃ A' N' C', e = .returned (.int .i64 (headL (L 3))) ∧ DBox w' M A' N' C' ∧ BoxIs w' lo A' N' C' (upd L 3 (L 3).tail) ∧ Beside M w w' := by
  have hF := hB 3 (by decide)
  have hlen := hL 3 (by decide)
  have hln := hF.1.1
  have hcap := hF.2.2.2
  obtain ⟨⟨c0, c1, c2, c3⟩, ⟨f0, f1, f2, f3⟩⟩ := hD.cells
  go_enter Try.func7, Try.ntmps7
  by_cases hn0 : N 3 = 0
  · have hl0 : L 3 = [] := List.eq_nil_of_length_eq_zero (by omega)
    rw [hn0] at c3
    go_wp2
    go_ret
    refine ⟨A, N, C, by rw [hl0]; rfl, hD, ?_, Beside.of (Below.refl _ _)⟩
    rw [show (L 3).tail = L 3 by rw [hl0]; rfl, upd_same]
    exact hB
  · obtain ⟨m, hm⟩ : ∃ m, N 3 = m + 1 := ⟨N 3 - 1, by omega⟩
    obtain ⟨b, off, ha, hc⟩ := hF.1.2.2 hn0
    have hNX : Hid (Nums w (some ⟨b, off, Option.none⟩) (m + 1) (L 3)) := by have := hF.1; rw [ha, hm] at this; exact this
    have hfirst := hc 0 (by omega)
    simp only [Nat.add_zero] at hfirst
    have hlb : lo ≤ b := hF.2.2.1 _ ha
    rw [ha, hm] at c3
    clear hc
    have HH : Hid (headL (L 3) = (L 3)[0]) := headL_at _ (by omega)
    by_cases hC1 : C 3 = 1
    · rw [hC1] at c3
      have HF : Hid (Fl w lo (some ⟨b, off, Option.none⟩) m 0 (L 3).tail) := ⟨⟨by simp; omega, by omega, fun h => absurd (by omega) h⟩, (fun h => by cases h), (fun ad h => by cases h; exact hlb), by omega⟩
      have hfz := (Beside.set (Beside.of (M := M) (Below.refl _ w)) 3 (.slice (some ⟨b, off, Option.none⟩) m 0)).cell hfirst (by show b ≠ M; omega)
      go_wp2
      go_region
      all_goals
        go_wp2
        go_ret
        exact ⟨upd A 3 (some ⟨b, off, Option.none⟩), upd N 3 m, upd C 3 0, by rw [HH.out]; rfl, dbox_drew (hD.set 3 (by decide) _ _ _), box_updB hB (((Beside.of (Below.refl _ _)).set _ _).trans (Beside.of (Below.refl _ _).drew)) hM (HF.out.beside (((Beside.of (Below.refl _ _)).set _ _).trans (Beside.of (Below.refl _ _).drew)) hM), ((Beside.of (Below.refl _ _)).set _ _).trans (Beside.of (Below.refl _ _).drew)⟩
    · have HF : Hid (Fl w lo (some ⟨b, off + 1, Option.none⟩) m (C 3 - 1) (L 3).tail) := ⟨by have := hNX.out.drop 1 (by omega); rw [List.drop_one] at this; exact this, (fun h => by cases h), (fun ad h => by cases h; exact hlb), by omega⟩
      have hfz := (Beside.set (Beside.of (M := M) (Below.refl _ w)) 3 (.slice (some ⟨b, off + 1, Option.none⟩) m (C 3 - 1))).cell hfirst (by show b ≠ M; omega)
      go_wp2
      go_region
      all_goals
        go_wp2
        go_ret
        exact ⟨upd A 3 (some ⟨b, off + 1, Option.none⟩), upd N 3 m, upd C 3 (C 3 - 1), by rw [HH.out]; rfl, dbox_drew (hD.set 3 (by decide) _ _ _), box_updB hB (((Beside.of (Below.refl _ _)).set _ _).trans (Beside.of (Below.refl _ _).drew)) hM (HF.out.beside (((Beside.of (Below.refl _ _)).set _ _).trans (Beside.of (Below.refl _ _).drew)) hM), ((Beside.of (Below.refl _ _)).set _ _).trans (Beside.of (Below.refl _ _).drew)⟩

theorem rtake_any (M : Nat) (A : Nat → Option Addr) (N C : Nat → Nat) (L : Nat → List Int) (j : Nat) (who : Int) (lo : Nat) (w : World) (hj : j < 4) (hw : who = (j : Int) + 1) (hD : DBox w M A N C) (hB : BoxIs w lo A N C L) (hM : M < lo) (hL : ∀ j, j < 4 → (L j).length ≤ 900) :
    Calls Try.prog 7 #[.pointer (some ⟨M, 0, Option.none⟩), .int .i64 who] w fun e w' => ∃ A' N' C', e = .returned (.int .i64 (headL (L j))) ∧ DBox w' M A' N' C' ∧ BoxIs w' lo A' N' C' (upd L j (L j).tail) ∧ Beside M w w' := by
  subst hw
  rcases (by omega : j = 0 ∨ j = 1 ∨ j = 2 ∨ j = 3) with rfl | rfl | rfl | rfl
  · exact rtake_0 M A N C L lo w hD hB hM hL
  · exact rtake_1 M A N C L lo w hD hB hM hL
  · exact rtake_2 M A N C L lo w hD hB hM hL
  · exact rtake_3 M A N C L lo w hD hB hM hL
end Go.Proofs.Ytajaojcechoniaa
