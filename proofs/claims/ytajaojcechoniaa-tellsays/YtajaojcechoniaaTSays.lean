/- Proved: for all tells, the law TellSays returns true and leaves its argument as it was; no condition beyond the row's own. -/
import Derived.Test.YtajaojcechoniaaTAdd
import Derived.Test.YtajaojcechoniaaTTake
import Derived.Test.YtajaojcechoniaaTRAdd
import Derived.Test.YtajaojcechoniaaTRTake
import Derived.Test.YtajaojcechoniaaTRPow
import Derived.Test.YtajaojcechoniaaNumsQ
import Derived.Deep.RegionHeld3
import Derived.Deep.RegionWith
import Derived.Deep.DrawnRows
import Derived.Deep.CutBlock
import Derived.Deep.DeepCutAuto
namespace Go.Proofs.Ytajaojcechoniaa
open Go.ChangeShapes Go.WideShapes Go.ChangeAt Go.RowKit Go.Deep
attribute [local go_sem ↓] Go.wp_at_zero Go.wp_at_succ

theorem box_nil (w : World) (lo : Nat) : BoxIs w lo (fun _ => Option.none) (fun _ => 0) (fun _ => 0) (fun _ => []) := fun _ _ => ⟨⟨rfl, Nat.zero_le _, fun h => absurd rfl h⟩, fun _ => rfl, (fun ad h => by cases h), Nat.le_refl _⟩
theorem cell_al {W w2 : World} {o : Obj} {a : Addr} {v : Value} (hb : Below W.heap.size W w2) (h : W.cell? a = some v) : (w2.alloc o).cell? a = some v := cell_later (hb.alloc hb.size o) h
theorem cell_tk {W w2 : World} {M : Nat} {v0 v1 v2 v3 : Value} {a : Addr} {v : Value} (hb : Below W.heap.size W w2) (hM : W.heap.size ≤ M) (h : W.cell? a = some v) : ((((w2.setCell ⟨M, 0, Option.none⟩ v0).setCell ⟨M, 1, Option.none⟩ v1).setCell ⟨M, 2, Option.none⟩ v2).setCell ⟨M, 3, Option.none⟩ v3).cell? a = some v := cell_later (TK.below hb hM) h
theorem cell_al0 {W : World} {o : Obj} {a : Addr} {v : Value} (h : W.cell? a = some v) : (W.alloc o).cell? a = some v := cell_later ((Below.refl _ _).alloc (Nat.le_refl _) o) h
theorem dr_cell (W : World) (a : Addr) : W.drew.cell? a = W.cell? a := rfl
/-- What numbers lie in is no box. -/
theorem Fl.besideP {w w' : World} {lo M : Nat} {a : Option Addr} {n c : Nat} {l : List Int} {A : Nat → Option Addr} {N C : Nat → Nat} (h : Fl w lo a n c l) (hP : PBox w M A N C) (hb : Beside M w w') : Fl w' lo a n c l := by
  refine ⟨⟨h.1.1, h.1.2.1, fun hn => ?_⟩, h.2⟩
  obtain ⟨b, off, rfl, hc⟩ := h.1.2.2 hn
  have hne : b ≠ M := by
    rintro rfl
    have h0 := hc 0 (by have := h.1.1; omega)
    unfold PBox at hP
    simp only [World.cell?, hP, Nat.add_zero] at h0
    rcases (by omega : off = 0 ∨ off = 1 ∨ off = 2 ∨ off = 3 ∨ 4 ≤ off) with rfl | rfl | rfl | rfl | h4
    · simp at h0
    · simp at h0
    · simp at h0
    · simp at h0
    · rw [Array.getElem?_eq_none (by simpa using h4)] at h0; cases h0
  exact ⟨b, off, rfl, fun i hi => hb.cell (hc i hi) hne⟩
theorem upd_len {L : Nat → List Int} {j : Nat} {l : List Int} (hL : ∀ i, i < 4 → (L i).length ≤ 5) (hl : l.length ≤ 5) : ∀ i, i < 4 → (upd L j l i).length ≤ 5 := by
  intro i hi
  unfold upd
  split
  · exact hl
  · exact hL i hi
theorem upd_other {L : Nat → List Int} {j : Nat} {l : List Int} (i : Nat) (hi : i ≠ j) : upd L j l i = L i := by unfold upd; rw [if_neg hi]
theorem addL_len (l : List Int) (x : Int) (h : l.length ≤ 5) : (addL l x).length ≤ 5 := by
  unfold addL
  split
  · exact h
  · simp; omega
theorem tells_any (w : World) : Calls Try.prog 5 #[] w fun e w' => e = .returned (.bool true) ∧ Below w.heap.size w w' := by
  go_enter Try.func5, Try.ntmps5
  go_wp2_with fail
  refine (add_any (fun _ => Option.none) (fun _ => 0) (fun _ => 0) (fun _ => []) 1 2 1 w.heap.size w (by decide) (by decide) (box_nil _ _) (Nat.le_refl _) (fun _ _ => by decide)).mono ?_
  rintro e w1 ⟨A, N, C, rfl, hB, hb⟩
  unfold bx
  go_wp2_with fail
  have hal : Below w1.heap.size w1 (w1.alloc (.cells #[.slice (A 0) (N 0) (C 0), .slice (A 1) (N 1) (C 1), .slice (A 2) (N 2) (C 2), .slice (A 3) (N 3) (C 3)] 27)) := (Below.refl _ _).alloc (Nat.le_refl _) _
  refine (take_any A N C _ 1 2 w.heap.size _ (by decide) (by decide) (hB.later hal) (Nat.le_trans hb.size hal.size) (fun j _ => by unfold upd; split; exact of_decide_eq_true rfl; exact Nat.zero_le _)).mono ?_
  rintro e w2 ⟨A2, N2, C2, rfl, hB2, hb2⟩
  rw [show headL (upd (fun _ => ([] : List Int)) 1 (addL [] 1) 1) = 1 by decide]
  unfold bx
  go_wp2
  go_ret
  have := hal.size
  exact ⟨rfl, ((hb.trans (hal.mono hb.size)).trans (hb2.mono (by have := hb.size; omega))).alloc (by have := hb.size; have := hb2.size; omega) _⟩

set_option maxRecDepth 100000 in
set_option maxHeartbeats 20000000 in
theorem tellSays_walk (a : Option Addr) (n c : Nat) (l : List (Int × Int)) (w : World) (hr : Row w a n l) :
    Calls Try.prog 3 #[.slice a n c] w fun e w' => e = .returned (.bool true) ∧ Below w.heap.size w w' := by
  have hl := hr.1
  go_enter Try.func3, Try.ntmps3
  go_wp2_with fail
  refine (tells_any w).mono ?_
  rintro e w1 ⟨rfl, hb1⟩
  by_cases hn60 : 60 < n
  · have h60 : decide ((60 : Int) < (n : Int)) = true := by simp; omega
    go_wp2
    go_ret
    exact ⟨rfl, hb1⟩
  have h60 : decide ((60 : Int) < (n : Int)) = false := by simp; omega
  obtain ⟨X, hX⟩ : ∃ X, X = (w1.alloc (.cells #[.slice Option.none 0 0, .slice Option.none 0 0, .slice Option.none 0 0, .slice Option.none 0 0] 27)).alloc (.cells #[.slice Option.none 0 0, .slice Option.none 0 0, .slice Option.none 0 0, .slice Option.none 0 0] 29) := ⟨_, rfl⟩
  have bX : Below w1.heap.size w1 X := by rw [hX]; exact ((Below.refl _ _).alloc (Nat.le_refl _) _).alloc (by simp) _
  have sX : X.heap.size = w1.heap.size + 2 := by rw [hX]; simp
  have P0 : PBox X w1.heap.size (fun _ => Option.none) (fun _ => 0) (fun _ => 0) := by
    rw [hX]; unfold PBox; rw [Below.heap_alloc _ _ _ (by simp)]; exact heap_alloc_new w1 _
  have D0 : DBox X (w1.heap.size + 1) (fun _ => Option.none) (fun _ => 0) (fun _ => 0) := by
    rw [hX]; unfold DBox; simpa using heap_alloc_new (w1.alloc (.cells #[.slice Option.none 0 0, .slice Option.none 0 0, .slice Option.none 0 0, .slice Option.none 0 0] 27)) (.cells #[.slice Option.none 0 0, .slice Option.none 0 0, .slice Option.none 0 0, .slice Option.none 0 0] 29)
  have hbX : Below w.heap.size w X := hb1.trans (bX.mono hb1.size)
  go_wp2
  rw [← hX]
  clear hX
  have hs1 := hb1.size
  go_loopw [6] (fun i wr => ∃ (k : Nat) (A : Nat → Option Addr) (N C : Nat → Nat) (A' : Nat → Option Addr) (N' C' : Nat → Nat) (L : Nat → List Int), k ≤ n ∧ i = .int .i64 k ∧ PBox wr w1.heap.size A N C ∧ DBox wr (w1.heap.size + 1) A' N' C' ∧ BoxIs wr (w1.heap.size + 2) A N C L ∧ BoxIs wr (w1.heap.size + 2) A' N' C' L ∧ (∀ j, j < 4 → (L j).length ≤ 5) ∧ Below w.heap.size w wr ∧ w1.heap.size + 2 ≤ wr.heap.size) (fun i _ => n - (intOf i).toNat)
  case atStart => exact ⟨0, _, _, _, _, _, _, fun _ => [], Nat.zero_le _, rfl, P0, D0, box_nil _ _, box_nil _ _, fun _ _ => Nat.zero_le _, hbX, Nat.le_of_eq sX.symm⟩
  case round =>
    obtain ⟨k, A, N, C, A', N', C', L, hk, rfl, hP, hD, hB, hB', hL, bw, hsz⟩ := hrel
    by_cases hlt : k < n
    · obtain ⟨b, off, rfl, hc⟩ := (hr.later bw).2.2 (by omega)
      obtain ⟨r0, r1⟩ := hc k (by omega)
      have hki : (k : Int) < (n : Int) := by omega
      have HC : Hid (∀ wx, Below w.heap.size w wx → wx.cell? ⟨b, off + k * 2, Option.none⟩ = some (.int .i64 l[k].1) ∧ wx.cell? ⟨b, off + k * 2 + 1, Option.none⟩ = some (.int .i64 l[k].2)) := by
        intro wx hbx
        obtain ⟨b', off', e, hc⟩ := (hr.later hbx).2.2 (by omega)
        simp only [Option.some.injEq, Addr.mk.injEq, and_true] at e
        obtain ⟨rfl, rfl⟩ := e
        exact hc k (by omega)
      clear hc
      generalize l[k].1 = x at *
      generalize l[k].2 = y at *
      by_cases h1 : x < 1
      · go_wp2
        go_ret
        exact ⟨rfl, bw⟩
      have h1' : decide (x < 1) = false := by simpa using h1
      by_cases h2 : 4 < x
      · go_wp2
        go_ret
        exact ⟨rfl, bw⟩
      have h2' : decide (4 < x) = false := by simpa using h2
      by_cases h3 : y < 0
      · go_wp2
        go_ret
        exact ⟨rfl, bw⟩
      have h3' : decide (y < 0) = false := by simpa using h3
      by_cases h4 : 4 < y
      · go_wp2
        go_ret
        exact ⟨rfl, bw⟩
      have h4' : decide (4 < y) = false := by simpa using h4
      obtain ⟨⟨c0, c1, c2, c3⟩, ⟨f0, f1, f2, f3⟩⟩ := hP.cells
      have bal : Below wr.heap.size wr (wr.alloc (.cells #[.slice (A 0) (N 0) (C 0), .slice (A 1) (N 1) (C 1), .slice (A 2) (N 2) (C 2), .slice (A 3) (N 3) (C 3)] 27)) := (Below.refl _ _).alloc (Nat.le_refl _) _
      have q0 := cell_later bal r0
      have q1 := cell_later bal r1
      have PW : PBox (wr.alloc (.cells #[.slice (A 0) (N 0) (C 0), .slice (A 1) (N 1) (C 1), .slice (A 2) (N 2) (C 2), .slice (A 3) (N 3) (C 3)] 27)) wr.heap.size A N C := heap_alloc_new wr _
      go_upto_block 2 with fail
      have hsw : (wr.alloc (.cells #[.slice (A 0) (N 0) (C 0), .slice (A 1) (N 1) (C 1), .slice (A 2) (N 2) (C 2), .slice (A 3) (N 3) (C 3)] 27)).heap.size = wr.heap.size + 1 := by simp
      generalize wr.alloc (.cells #[.slice (A 0) (N 0) (C 0), .slice (A 1) (N 1) (C 1), .slice (A 2) (N 2) (C 2), .slice (A 3) (N 3) (C 3)] 27) = W at *
      clear r0 r1 c0 c1 c2 c3 f0 f1 f2 f3
      have hPW := hP.later bal (by omega)
      have hDW := hD.later bal
      have hBW := hB.later bal
      have hBW' := hB'.later bal
      have bwW := bw.trans (bal.mono bw.size)
      obtain ⟨j, hj4, rfl⟩ : ∃ j : Nat, j < 4 ∧ x = (j : Int) + 1 := ⟨(x - 1).toNat, by omega, by omega⟩
      have HW : Hid (W.heap.size = wr.heap.size + 1) := hsw
      have hR1 : w1.heap.size + 2 ≤ wr.heap.size := hsz
      clear hsw bal hP hD hB hB' bw hsz
      have hRw := PW.lt
      generalize wr.heap.size = R at *
      go_cut [8, 9] (fun _ _ wx => ∃ (A2 : Nat → Option Addr) (N2 C2 : Nat → Nat) (A3 : Nat → Option Addr) (N3 C3 : Nat → Nat) (L2 : Nat → List Int), PBox wx w1.heap.size A2 N2 C2 ∧ DBox wx (w1.heap.size + 1) A3 N3 C3 ∧ BoxIs wx (w1.heap.size + 2) A2 N2 C2 L2 ∧ BoxIs wx (w1.heap.size + 2) A3 N3 C3 L2 ∧ (∀ j, j < 4 → (L2 j).length ≤ 5) ∧ PBox wx R A N C ∧ BoxIs wx (w1.heap.size + 2) A N C L ∧ (y < 4 → ∀ k, k ≠ j → L2 k = L k) ∧ Below w.heap.size w wx ∧ R + 1 ≤ wx.heap.size)
      case first =>
        have hL9 : ∀ j, j < 4 → (L j).length ≤ 900 := fun j hj => Nat.le_trans (hL j hj) (by decide)
        obtain ⟨⟨c0, c1, c2, c3⟩, ⟨f0, f1, f2, f3⟩⟩ := hPW.cells
        have hM : w1.heap.size + 1 < w1.heap.size + 2 := by omega
        have hloW : w1.heap.size + 2 ≤ W.heap.size := by omega
        by_cases w0 : y = 0
        · have w0' : (y == 0) = true := by simpa using w0
          clear w0
          have HB : Hid (BoxIs W (w1.heap.size + 2) A N C L) := hBW
          have Bz : Below W.heap.size W (W.alloc (.cells #[.slice Option.none 0 0, .slice Option.none 0 0, .slice Option.none 0 0, .slice Option.none 0 0] 27)).drew := ((Below.refl _ _).alloc (Nat.le_refl _) _).drew
          have Pz : PBox (W.alloc (.cells #[.slice Option.none 0 0, .slice Option.none 0 0, .slice Option.none 0 0, .slice Option.none 0 0] 27)).drew W.heap.size (fun _ => Option.none) (fun _ => 0) (fun _ => 0) := heap_alloc_new W _
          have hzs : (W.alloc (.cells #[.slice Option.none 0 0, .slice Option.none 0 0, .slice Option.none 0 0, .slice Option.none 0 0] 27)).drew.heap.size = W.heap.size + 1 := by simp
          have HZS : Hid _ := hzs
          clear hzs
          go_upto_region 16 with fail
          go_cut [8, 9] (fun s8 s9 wx => ∃ (P : Nat) (A4 : Nat → Option Addr) (N4 C4 : Nat → Nat), s8 = .pointer (some ⟨P, 0, Option.none⟩) ∧ s9 = .int .i64 (headL (L j)) ∧ PBox wx P A4 N4 C4 ∧ BoxIs wx (w1.heap.size + 2) A4 N4 C4 (upd L j (L j).tail) ∧ Below W.heap.size W wx ∧ W.heap.size ≤ P)
          case first =>
            have TA1 : Hid (Calls Try.prog 6 #[Value.agg #[.slice (A 0) (N 0) (C 0), .slice (A 1) (N 1) (C 1), .slice (A 2) (N 2) (C 2), .slice (A 3) (N 3) (C 3)], .int .i64 ((j : Int) + 1)] W.drew fun e w' => ∃ A4 N4 C4, e = .returned (.tuple #[Value.agg #[.slice (A4 0) (N4 0) (C4 0), .slice (A4 1) (N4 1) (C4 1), .slice (A4 2) (N4 2) (C4 2), .slice (A4 3) (N4 3) (C4 3)], .int .i64 (headL (L j))]) ∧ BoxIs w' (w1.heap.size + 2) A4 N4 C4 (upd L j (L j).tail) ∧ Below W.heap.size W w') :=
              (take_any A N C L j ((j : Int) + 1) (w1.heap.size + 2) W.drew hj4 rfl (HB.out.later (Below.refl _ _).drew) hloW hL9).mono fun e w' ⟨A4, N4, C4, h1, h2, h3⟩ => ⟨A4, N4, C4, h1, h2, ((Below.refl W.heap.size W).drew).trans h3⟩
            have TA2 : Hid (Calls Try.prog 6 #[Value.agg #[.slice (A 0) (N 0) (C 0), .slice (A 1) (N 1) (C 1), .slice (A 2) (N 2) (C 2), .slice (A 3) (N 3) (C 3)], .int .i64 ((j : Int) + 1)] (W.alloc (.cells #[.slice Option.none 0 0, .slice Option.none 0 0, .slice Option.none 0 0, .slice Option.none 0 0] 27)).drew fun e w' => ∃ A4 N4 C4, e = .returned (.tuple #[Value.agg #[.slice (A4 0) (N4 0) (C4 0), .slice (A4 1) (N4 1) (C4 1), .slice (A4 2) (N4 2) (C4 2), .slice (A4 3) (N4 3) (C4 3)], .int .i64 (headL (L j))]) ∧ BoxIs w' (w1.heap.size + 2) A4 N4 C4 (upd L j (L j).tail) ∧ Below W.heap.size W w' ∧ PBox w' W.heap.size (fun _ => Option.none) (fun _ => 0) (fun _ => 0)) :=
              (take_any A N C L j ((j : Int) + 1) (w1.heap.size + 2) (W.alloc (.cells #[.slice Option.none 0 0, .slice Option.none 0 0, .slice Option.none 0 0, .slice Option.none 0 0] 27)).drew hj4 rfl (HB.out.later Bz) (Nat.le_trans hloW Bz.size) hL9).mono fun e w' ⟨A4, N4, C4, h1, h2, h3⟩ => ⟨A4, N4, C4, h1, h2, Bz.trans (h3.mono Bz.size), Pz.later h3 Pz.lt⟩
            clear Bz Pz
            go_region_held3 (fun w' => w'.cell? ⟨w1.heap.size, 0, Option.none⟩ = some (.slice (A 0) (N 0) (C 0)) ∧ w'.cell? ⟨w1.heap.size, 1, Option.none⟩ = some (.slice (A 1) (N 1) (C 1)) ∧ w'.cell? ⟨w1.heap.size, 2, Option.none⟩ = some (.slice (A 2) (N 2) (C 2)) ∧ w'.cell? ⟨w1.heap.size, 3, Option.none⟩ = some (.slice (A 3) (N 3) (C 3)) ∧ w'.cell? ⟨b, off + k * 2, Option.none⟩ = some (.int .i64 ((j : Int) + 1)))
              (((try simp only [dr_cell]); first | with_reducible exact ⟨c0, c1, c2, c3, q0⟩ | with_reducible exact ⟨cell_later (by assumption) c0, cell_later (by assumption) c1, cell_later (by assumption) c2, cell_later (by assumption) c3, cell_later (by assumption) q0⟩ | with_reducible exact ⟨cell_al (by assumption) c0, cell_al (by assumption) c1, cell_al (by assumption) c2, cell_al (by assumption) c3, cell_al (by assumption) q0⟩ | with_reducible exact ⟨cell_al0 c0, cell_al0 c1, cell_al0 c2, cell_al0 c3, cell_al0 q0⟩ | with_reducible exact ⟨cell_tk (by assumption) (Nat.le_refl _) c0, cell_tk (by assumption) (Nat.le_refl _) c1, cell_tk (by assumption) (Nat.le_refl _) c2, cell_tk (by assumption) (Nat.le_refl _) c3, cell_tk (by assumption) (Nat.le_refl _) q0⟩))
              (first
                | (go_at_call 6; with_reducible refine TA1.out.mono ?_; rintro e w2 ⟨A4, N4, C4, rfl, hB4, bW2⟩)
                | (go_at_call 6; with_reducible refine TA2.out.mono ?_; rintro e w2 ⟨A4, N4, C4, rfl, hB4, bW2, P2⟩; obtain ⟨⟨g0, g1, g2, g3⟩, ⟨i0, i1, i2, i3⟩⟩ := P2.cells))
            · go_wp2_with fail
              go_meet
              case rel => exact ⟨w2.heap.size, A4, N4, C4, rfl, rfl, heap_alloc_new w2 _, hB4.later ((Below.refl _ _).alloc (Nat.le_refl _) _), bW2.alloc bW2.size _, bW2.size⟩
            · go_wp2_with fail
              go_meet
              case rel => exact ⟨W.heap.size, A4, N4, C4, rfl, rfl, P2.over, fun i hi => (hB4 i hi).besideP P2 (TK.beside (Beside.of (Below.refl _ _))), TK.below bW2 (Nat.le_refl _), Nat.le_refl _⟩
          case rest =>
            obtain ⟨P, A4, N4, C4, rfl, rfl, P4, B4, bW4, hP4⟩ := hcut
            have D4 := hDW.later bW4
            have B4' := hBW'.later bW4
            have hs4 := bW4.size
            have q4 := cell_later bW4 q0
            clear c0 c1 c2 c3 f0 f1 f2 f3 q0 q1
            go_wp2_with fail
            refine (rtake_any (w1.heap.size + 1) A' N' C' L j ((j : Int) + 1) (w1.heap.size + 2) wc hj4 rfl D4 B4' hM hL9).mono ?_
            rintro e w5 ⟨A5, N5, C5, rfl, D5, B5', bs5⟩
            have P5 := P4.beside bs5 (by omega)
            have Q5 := (hPW.later bW4 (by omega)).beside bs5 (by omega)
            have PW5 := (PW.later bW4 PW.lt).beside bs5 (by omega)
            have B5 := B4.beside bs5 hM
            have BW5 := (hBW.later bW4).beside bs5 hM
            have bw5 : Below w.heap.size w w5 := (bwW.trans (bW4.mono (by have := bwW.size; omega))).trans (bs5.below (by omega) (by omega))
            have hs5 := bs5.size
            have hne : (headL (L j) != headL (L j)) = false := by simp
            obtain ⟨⟨c0, c1, c2, c3⟩, ⟨f0, f1, f2, f3⟩⟩ := P5.cells
            obtain ⟨⟨g0, g1, g2, g3⟩, ⟨i0, i1, i2, i3⟩⟩ := Q5.cells
            go_wp2_with fail
            go_meet
            case rel =>
              have bs6 : Beside w1.heap.size w5 _ := TK.beside (v0 := .slice (A4 0) (N4 0) (C4 0)) (v1 := .slice (A4 1) (N4 1) (C4 1)) (v2 := .slice (A4 2) (N4 2) (C4 2)) (v3 := .slice (A4 3) (N4 3) (C4 3)) (Beside.of (Below.refl _ _))
              have hs6 := bs6.size
              have bw6 := bw5.trans (bs6.below (B := w.heap.size) (by omega) (by omega))
              exact ⟨A4, N4, C4, A5, N5, C5, upd L j (L j).tail, Q5.over, D5.beside bs6 (by omega), B5.beside bs6 (by omega), B5'.beside bs6 (by omega), upd_len hL (by have := hL j hj4; simp; omega), PW5.beside bs6 (by omega), BW5.beside bs6 (by omega), fun _ i hi => upd_other i hi, bw6, Nat.le_trans (by omega : R + 1 ≤ w5.heap.size) hs6⟩
        · have w0' : (y == 0) = false := by simpa using w0
          by_cases w4 : y = 4
          · have w4' : (y == 4) = true := by simpa using w4
            have W4 : Hid (y = 4) := w4
            clear w0 w4
            go_wp2_with fail
            refine (power_any W).mono ?_
            rintro e w2 ⟨A4, N4, C4, rfl, B4, b4⟩
            unfold bx
            have P4 := hPW.later b4 (by omega)
            have D4 := hDW.later b4
            have PW4 := PW.later b4 PW.lt
            have BW4 := hBW.later b4
            have hs2 := b4.size
            have bw4 : Below w.heap.size w w2 := bwW.trans (b4.mono (by have := bwW.size; omega))
            clear c0 c1 c2 c3 f0 f1 f2 f3 q0 q1
            obtain ⟨⟨c0, c1, c2, c3⟩, ⟨f0, f1, f2, f3⟩⟩ := P4.cells
            have bs6 : Beside w1.heap.size w2 _ := TK.beside (v0 := .slice (A4 0) (N4 0) (C4 0)) (v1 := .slice (A4 1) (N4 1) (C4 1)) (v2 := .slice (A4 2) (N4 2) (C4 2)) (v3 := .slice (A4 3) (N4 3) (C4 3)) (Beside.of (Below.refl _ _))
            have hs6 := bs6.size
            go_wp2_with fail
            refine (rpower_any (w1.heap.size + 1) A' N' C' _ (D4.beside bs6 (by omega))).mono ?_
            rintro e w5 ⟨A5, N5, C5, rfl, D5, B5', bs5⟩
            have hs5 := bs5.size
            have bw6 := (bw4.trans (bs6.below (B := w.heap.size) (by omega) (by omega))).trans (bs5.below (by omega) (by omega))
            have Q5 := (P4.over (A' := A4) (N' := N4) (C' := C4)).beside bs5 (by omega)
            have PW5 := (PW4.beside bs6 (by omega)).beside bs5 (by omega)
            have B4m : BoxIs w2 (w1.heap.size + 2) A4 N4 C4 lost4 := fun i hi => (B4 i hi).mono (by omega)
            have B5 := (B4m.beside bs6 (by omega)).beside bs5 (by omega)
            have BW5 := (BW4.beside bs6 (by omega)).beside bs5 (by omega)
            have B6' : BoxIs w5 (w1.heap.size + 2) A5 N5 C5 lost4 := fun i hi => (B5' i hi).mono (by omega)
            go_wp2_with fail
            go_meet
            case rel => exact ⟨A4, N4, C4, A5, N5, C5, lost4, Q5, D5, B5, B6', fun _ _ => by show [4].length ≤ 5; decide, PW5, BW5, fun h => absurd h (by have := W4.out; omega), bw6, by omega⟩
          · have w4' : (y == 4) = false := by simpa using w4
            clear w0 w4
            have TA : Hid (Calls Try.prog 10 #[Value.agg #[.slice (A 0) (N 0) (C 0), .slice (A 1) (N 1) (C 1), .slice (A 2) (N 2) (C 2), .slice (A 3) (N 3) (C 3)], .agg #[.int .i64 ((j : Int) + 1), .int .i64 y]] W.drew fun e w' => ∃ A4 N4 C4, e = .returned (Value.agg #[.slice (A4 0) (N4 0) (C4 0), .slice (A4 1) (N4 1) (C4 1), .slice (A4 2) (N4 2) (C4 2), .slice (A4 3) (N4 3) (C4 3)]) ∧ BoxIs w' (w1.heap.size + 2) A4 N4 C4 (upd L j (addL (L j) y)) ∧ Below W.heap.size W w') :=
              (add_any A N C L j ((j : Int) + 1) y (w1.heap.size + 2) W.drew hj4 rfl (hBW.later (Below.refl _ _).drew) hloW hL9).mono fun e w' ⟨A4, N4, C4, h1, h2, h3⟩ => ⟨A4, N4, C4, h1, h2, ((Below.refl W.heap.size W).drew).trans h3⟩
            go_upto_region 13 with fail
            go_cut [] (fun wx => ∃ (A4 : Nat → Option Addr) (N4 C4 : Nat → Nat) (w2 : World), wx = TK w2 w1.heap.size (.slice (A4 0) (N4 0) (C4 0)) (.slice (A4 1) (N4 1) (C4 1)) (.slice (A4 2) (N4 2) (C4 2)) (.slice (A4 3) (N4 3) (C4 3)) ∧ BoxIs w2 (w1.heap.size + 2) A4 N4 C4 (upd L j (addL (L j) y)) ∧ Below W.heap.size W w2)
            case first =>
              go_region_with (go_at_call 10; with_reducible refine TA.out.mono ?_; rintro e w2 ⟨A4, N4, C4, rfl, hB4, bW2⟩; have P2 := hPW.later bW2 (by omega); obtain ⟨⟨g0, g1, g2, g3⟩, ⟨i0, i1, i2, i3⟩⟩ := P2.cells)
              all_goals
                go_wp2_with fail
                go_meet
                case rel => exact ⟨A4, N4, C4, w2, rfl, hB4, bW2⟩
            case rest =>
              obtain ⟨A4, N4, C4, w2, rfl, B4, b4⟩ := hcut
              have P4 := hPW.later b4 (by omega)
              have D4 := hDW.later b4
              have PW4 := PW.later b4 PW.lt
              have BW4 := hBW.later b4
              have B4' := hBW'.later b4
              have hs2 := b4.size
              have bw4 : Below w.heap.size w w2 := bwW.trans (b4.mono (by have := bwW.size; omega))
              have bs6 : Beside w1.heap.size w2 _ := TK.beside (v0 := .slice (A4 0) (N4 0) (C4 0)) (v1 := .slice (A4 1) (N4 1) (C4 1)) (v2 := .slice (A4 2) (N4 2) (C4 2)) (v3 := .slice (A4 3) (N4 3) (C4 3)) (Beside.of (Below.refl _ _))
              have hs6 := bs6.size
              have bw6 := bw4.trans (bs6.below (B := w.heap.size) (by omega) (by omega))
              obtain ⟨q0', q1'⟩ := HC.out _ bw6
              clear c0 c1 c2 c3 f0 f1 f2 f3 q0 q1
              have P6 := P4.over (A' := A4) (N' := N4) (C' := C4)
              have D6 := D4.beside bs6 (by omega)
              have PW6 := PW4.beside bs6 (by omega)
              have B6 := B4.beside bs6 (by omega)
              have B6' := B4'.beside bs6 (by omega)
              have BW6 := BW4.beside bs6 (by omega)
              generalize TK w2 w1.heap.size (.slice (A4 0) (N4 0) (C4 0)) (.slice (A4 1) (N4 1) (C4 1)) (.slice (A4 2) (N4 2) (C4 2)) (.slice (A4 3) (N4 3) (C4 3)) = V at *
              go_wp2_with fail
              refine (radd_any (w1.heap.size + 1) A' N' C' L j ((j : Int) + 1) y (w1.heap.size + 2) V hj4 rfl D6 B6' hM (by omega) hL).mono ?_
              rintro e w5 ⟨A5, N5, C5, rfl, D5, B5', bs5⟩
              have hs5 := bs5.size
              have bw7 := bw6.trans (bs5.below (by omega) (by omega))
              have P7 := P6.beside bs5 (by omega)
              have PW7 := PW6.beside bs5 (by omega)
              have B7 := B6.beside bs5 (by omega)
              have BW7 := BW6.beside bs5 (by omega)
              go_wp2_with fail
              go_meet
              case rel => exact ⟨A4, N4, C4, A5, N5, C5, upd L j (addL (L j) y), P7, D5, B7, B5', upd_len hL (addL_len _ _ (hL j hj4)), PW7, BW7, fun _ i hi => upd_other i hi, bw7, by omega⟩
      case rest =>
        obtain ⟨A2, N2, C2, A3, N3, C3, L2, kP, kD, kB, kB', kL, kW, kO, kS, kb, ks⟩ := hcut
        clear q0 q1 PW hPW hDW hBW hBW' bwW
        have HS : Hid (y < 4 → ∀ k, k ≠ j → L2 k = L k) := kS
        have HL : Hid (∀ j, j < 4 → (L2 j).length ≤ 5) := kL
        clear kS kL
        obtain ⟨r0, r1⟩ := HC.out wc kb
        go_wp2
        clear P0 D0 bX sX hbX h60
        go_loopw [10] (fun i wy => ∃ q : Nat, q ≤ 4 ∧ i = .int .i64 q ∧ Below wc.heap.size wc wy) (fun i _ => 4 - (intOf i).toNat)
        case atStart => exact ⟨0, by decide, rfl, Below.refl _ _⟩
        case round =>
          obtain ⟨q, hq, rfl, p0⟩ := hrel
          by_cases hlt4 : q < 4
          · have Z1 : Hid (Fl wr (w1.heap.size + 2) (A2 q) (N2 q) (C2 q) (L2 q)) := (kB q hlt4).later p0
            have Z2 : Hid (Fl wr (w1.heap.size + 2) (A3 q) (N3 q) (C3 q) (L2 q)) := (kB' q hlt4).later p0
            have y0 := cell_later p0 (kP.at q hlt4).1
            have y1 := cell_later p0 (kD.at q hlt4).1
            have y2 := cell_later p0 (kW.at q hlt4).1
            have y3 := cell_later p0 r0
            have y4 := cell_later p0 r1
            clear r0 r1
            have hq4 : (q : Int) < 4 := by omega
            by_cases hqj : q = j
            · have hqb : ((q : Int) != (j : Int)) = false := by simp; omega
              subst hqj
              go_wp2
              go_quiet (first
                | (go_at_call_of 12 (#[Value.slice (A2 q) (N2 q) (C2 q), Value.slice (A3 q) (N3 q) (C3 q)]); refine Calls.quiet_of (sameNums_quiet (A2 q) (A3 q) (N2 q) (N3 q) (C2 q) (C3 q) (L2 q) _ (Z1.out.1.later (below_drewN (Below.refl _ _) _)) (Z2.out.1.later (below_drewN (Below.refl _ _) _))))
                | (go_at_call_of 12 (#[Value.slice (A2 q) (N2 q) (C2 q), Value.slice (A q) (N q) (C q)]); refine Calls.quiet_of (sameNums_quiet (A2 q) (A q) (N2 q) (N q) (C2 q) (C q) (L2 q) _ (Z1.out.1.later (below_drewN (Below.refl _ _) _)) (Z3.out.1.later (below_drewN (Below.refl _ _) _)))))
              go_wp2
              go_roundw
              case rel => exact ⟨q + 1, by omega, by go_num, below_drewN p0 nq⟩
              case measure => simp [intOf]; omega
            · have hqb : ((q : Int) != (j : Int)) = true := by simp; omega
              by_cases h44 : y < 4
              · have h44' : decide (y < 4) = true := by simpa using h44
                have Z3 : Hid (Fl wr (w1.heap.size + 2) (A q) (N q) (C q) (L2 q)) := by show Fl _ _ _ _ _ _; rw [HS.out h44 q hqj]; exact (kO q hlt4).later p0
                go_wp2
                go_quiet (first
                  | (go_at_call_of 12 (#[Value.slice (A2 q) (N2 q) (C2 q), Value.slice (A3 q) (N3 q) (C3 q)]); refine Calls.quiet_of (sameNums_quiet (A2 q) (A3 q) (N2 q) (N3 q) (C2 q) (C3 q) (L2 q) _ (Z1.out.1.later (below_drewN (Below.refl _ _) _)) (Z2.out.1.later (below_drewN (Below.refl _ _) _))))
                  | (go_at_call_of 12 (#[Value.slice (A2 q) (N2 q) (C2 q), Value.slice (A q) (N q) (C q)]); refine Calls.quiet_of (sameNums_quiet (A2 q) (A q) (N2 q) (N q) (C2 q) (C q) (L2 q) _ (Z1.out.1.later (below_drewN (Below.refl _ _) _)) (Z3.out.1.later (below_drewN (Below.refl _ _) _)))))
                go_wp2
                go_roundw
                case rel => exact ⟨q + 1, by omega, by go_num, below_drewN p0 nq⟩
                case measure => simp [intOf]; omega
              · have h44' : decide (y < 4) = false := by simpa using h44
                go_wp2
                go_quiet (first
                  | (go_at_call_of 12 (#[Value.slice (A2 q) (N2 q) (C2 q), Value.slice (A3 q) (N3 q) (C3 q)]); refine Calls.quiet_of (sameNums_quiet (A2 q) (A3 q) (N2 q) (N3 q) (C2 q) (C3 q) (L2 q) _ (Z1.out.1.later (below_drewN (Below.refl _ _) _)) (Z2.out.1.later (below_drewN (Below.refl _ _) _))))
                  | (go_at_call_of 12 (#[Value.slice (A2 q) (N2 q) (C2 q), Value.slice (A q) (N q) (C q)]); refine Calls.quiet_of (sameNums_quiet (A2 q) (A q) (N2 q) (N q) (C2 q) (C q) (L2 q) _ (Z1.out.1.later (below_drewN (Below.refl _ _) _)) (Z3.out.1.later (below_drewN (Below.refl _ _) _)))))
                go_wp2
                go_roundw
                case rel => exact ⟨q + 1, by omega, by go_num, below_drewN p0 nq⟩
                case measure => simp [intOf]; omega
          · have hq4 : q = 4 := by omega
            subst hq4
            go_wp2
            go_roundw
            case rel => exact ⟨k + 1, A2, N2, C2, A3, N3, C3, L2, by omega, by go_num, kP.later p0 kP.lt, kD.later p0, kB.later p0, kB'.later p0, HL.out, kb.trans (p0.mono kb.size), by have := p0.size; omega⟩
            case measure => simp [intOf]; omega
    · have hlt' : decide ((k : Int) < (n : Int)) = false := by simp; omega
      go_wp2
      go_ret
      exact ⟨rfl, bw⟩
end Go.Proofs.Ytajaojcechoniaa
