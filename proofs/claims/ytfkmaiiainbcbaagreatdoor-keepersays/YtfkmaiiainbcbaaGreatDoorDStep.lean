/- What the disk's step, has, Arm, Down and Sectors answer. No statement of the seat is proved here. -/
import Derived.Test.YtfkmaiiainbcbaaGreatDoorDBase
namespace Go.Proofs.YtfkmaiiainbcbaaGreatDoor.D
open Go.ChangeShapes Go.WideShapes Go.ChangeAt Go.RowKit Go.Deep

theorem DAt.cells {w : World} {b n : Nat} {D : DM} {P : DP} (h : DAt w b n D P) : w.cell? ⟨b, 0, Option.none⟩ = some (.slice (some ⟨P.kb, 0, Option.none⟩) n n) ∧ w.cell? ⟨b, 1, Option.none⟩ = some (.slice (some ⟨P.nb, 0, Option.none⟩) n n) ∧ w.cell? ⟨b, 2, Option.none⟩ = some (.slice (some ⟨P.sb, 0, Option.none⟩) n n) ∧ w.cell? ⟨b, 3, Option.none⟩ = some (.int .i64 D.next) ∧ w.cell? ⟨b, 4, Option.none⟩ = some (.bool D.armed) ∧ w.cell? ⟨b, 5, Option.none⟩ = some (.int .i64 D.left) ∧ w.cell? ⟨b, 6, Option.none⟩ = some (.bool D.down) :=
  ⟨h.hd.cell 0, h.hd.cell 1, h.hd.cell 2, h.hd.cell 3, h.hd.cell 4, h.hd.cell 5, h.hd.cell 6⟩
theorem DAt.froz {w : World} {b n : Nat} {D : DM} {P : DP} (h : DAt w b n D P) : w.frozen? ⟨b, 3, Option.none⟩ = false ∧ w.frozen? ⟨b, 4, Option.none⟩ = false ∧ w.frozen? ⟨b, 5, Option.none⟩ = false ∧ w.frozen? ⟨b, 6, Option.none⟩ = false :=
  ⟨(h.hd.there 3 1 (by simp [hdV]) 0 (by decide)).2, (h.hd.there 4 1 (by simp [hdV]) 0 (by decide)).2, (h.hd.there 5 1 (by simp [hdV]) 0 (by decide)).2, (h.hd.there 6 1 (by simp [hdV]) 0 (by decide)).2⟩

def hasD (n : Nat) (at' : Int) : Bool := decide (0 ≤ at') && decide (at' < n)
theorem has_any {w : World} {b n : Nat} {D : DM} {P : DP} (h : DAt w b n D P) (at' : Int) :
    Calls Tryz.prog 34 #[.pointer (some ⟨b, 0, Option.none⟩), .int .i64 at'] w fun e w' => e = .returned (.bool (hasD n at')) ∧ w' = w := by
  obtain ⟨c0, c1, c2, c3, c4, c5, c6⟩ := h.cells
  clear h c0 c2 c3 c4 c5 c6
  by_cases h0 : 0 ≤ at'
  · have h0' : decide (0 ≤ at') = true := by simpa using h0
    have HF : Hid (hasD n at' = decide (at' < (n : Int))) := by show _ = _; simp [hasD, h0]
    clear h0
    go_enter Tryz.func34, Tryz.ntmps34
    go_wp2
    go_ret
    exact ⟨ret_bool HF.out.symm, rfl⟩
  · have h0' : decide (0 ≤ at') = false := by simpa using h0
    have HF : Hid (hasD n at' = false) := by show _ = _; simp [hasD, h0]
    clear h0
    go_enter Tryz.func34, Tryz.ntmps34
    go_wp2
    go_ret
    exact ⟨ret_bool HF.out.symm, rfl⟩

theorem sectors_any {w : World} {b n : Nat} {D : DM} {P : DP} (h : DAt w b n D P) :
    Calls Tryz.prog 26 #[.pointer (some ⟨b, 0, Option.none⟩)] w fun e w' => e = .returned (.int .i64 n) ∧ w' = w := by
  obtain ⟨c0, c1, c2, c3, c4, c5, c6⟩ := h.cells
  clear h c0 c2 c3 c4 c5 c6
  go_enter Tryz.func26, Tryz.ntmps26
  go_wp2
  go_ret
  exact ⟨rfl, rfl⟩

set_option maxHeartbeats 2000000 in
theorem step_any {w : World} {b n : Nat} {D : DM} {P : DP} (h : DAt w b n D P) :
    Calls Tryz.prog 59 #[.pointer (some ⟨b, 0, Option.none⟩)] w fun e w' => e = .returned (errV (stepF D)) ∧ DAt w' b n (stepD D) P ∧ Moved (Is b) (Is b) w w' := by
  obtain ⟨c0, c1, c2, c3, c4, c5, c6⟩ := h.cells
  obtain ⟨f3, f4, f5, f6⟩ := h.froz
  have HD : Hid (DAt w b n D P) := h
  have HO : Hid ((stepD D).OK n) := stepD_ok h.ok
  have hlo := h.ok.lo
  have hhi := h.ok.hi
  clear h c0 c1 c2 c3 f3 f4
  cases ha : D.armed
  · rw [ha] at c4
    cases hd : D.down
    · rw [hd] at c6
      have HS : Hid (stepD D = D) := by show _ = _; simp [stepD, ha, hd]
      have HB : Hid (stepF D = 0) := by show _ = _; simp [stepF, stepB, ha, hd]
      clear hlo hhi
      go_enter Tryz.func59, Tryz.ntmps59
      go_wp2
      go_ret
      exact ⟨by rw [HB.out]; rfl, by rw [HS.out]; exact HD.out, Moved.refl _ _⟩
    · rw [hd] at c6
      have HS : Hid (stepD D = D) := by show _ = _; simp [stepD, ha, hd]
      have HB : Hid (stepF D = 10) := by show _ = _; simp [stepF, stepB, ha, hd]
      clear hlo hhi
      go_enter Tryz.func59, Tryz.ntmps59
      go_wp2
      go_ret
      exact ⟨by rw [HB.out]; rfl, by rw [HS.out]; exact HD.out, Moved.refl _ _⟩
  · rw [ha] at c4
    have hlo' := hlo ha
    by_cases h0 : D.left = 0
    · have h0' : (D.left == 0) = true := by simpa using h0
      have HS : Hid (stepD D = { D with down := true }) := by show _ = _; simp [stepD, ha, h0]
      have HB : Hid (stepF D = 10) := by show _ = _; simp [stepF, stepB, ha, h0]
      have A' : At (w.setCell ⟨b, 6, Option.none⟩ (.bool true)) b (hdV (stepD D) P n) 62 := by
        have := HD.out.hd.setCell_same 6 (.bool true)
        rw [HS.out]; exact this
      have M' : Moved (Is b) (Is b) w (w.setCell ⟨b, 6, Option.none⟩ (.bool true)) := (Moved.refl _ _).one_set 6 _
      have HD' : Hid (DAt (w.setCell ⟨b, 6, Option.none⟩ (.bool true)) b n (stepD D) P) := HD.out.head M' A' HO.out (by rw [HS.out]) (by rw [HS.out]) (by rw [HS.out])
      rw [h0] at c5
      clear hlo hhi hlo' h0 h0' A'
      go_enter Tryz.func59, Tryz.ntmps59
      go_wp2
      go_ret
      exact ⟨by rw [HB.out]; rfl, HD'.out, M'⟩
    · have h0' : (D.left == 0) = false := by simpa using h0
      cases hd : D.down
      · rw [hd] at c6
        have HS : Hid (stepD D = { D with left := D.left - 1 }) := by show _ = _; simp [stepD, ha, hd, h0']
        have HB : Hid (stepF D = 0) := by show _ = _; simp [stepF, stepB, ha, hd, h0']
        have A' : At (w.setCell ⟨b, 5, Option.none⟩ (.int .i64 (D.left - 1))) b (hdV (stepD D) P n) 62 := by
          have := HD.out.hd.setCell_same 5 (.int .i64 (D.left - 1))
          rw [HS.out]; exact this
        have M' : Moved (Is b) (Is b) w (w.setCell ⟨b, 5, Option.none⟩ (.int .i64 (D.left - 1))) := (Moved.refl _ _).one_set 5 _
        have HD' : Hid (DAt (w.setCell ⟨b, 5, Option.none⟩ (.int .i64 (D.left - 1))) b n (stepD D) P) := HD.out.head M' A' HO.out (by rw [HS.out]) (by rw [HS.out]) (by rw [HS.out])
        have hl1 : 1 ≤ D.left := by omega
        clear hlo hlo' h0 A'
        go_enter Tryz.func59, Tryz.ntmps59
        go_wp2
        go_ret
        exact ⟨by rw [HB.out]; rfl, HD'.out, M'⟩
      · rw [hd] at c6
        have HS : Hid (stepD D = D) := by show _ = _; simp [stepD, hd, h0']
        have HB : Hid (stepF D = 10) := by show _ = _; simp [stepF, stepB, hd]
        clear hlo hhi hlo' h0
        go_enter Tryz.func59, Tryz.ntmps59
        go_wp2
        go_ret
        exact ⟨by rw [HB.out]; rfl, by rw [HS.out]; exact HD.out, Moved.refl _ _⟩

def armD (D : DM) (m : Int) : DM := { D with armed := decide (0 ≤ m), left := m }
theorem arm_any {w : World} {b n : Nat} {D : DM} {P : DP} (h : DAt w b n D P) (m : Int) (hm : m ≤ 9223372036854775807) :
    Calls Tryz.prog 17 #[.pointer (some ⟨b, 0, Option.none⟩), .int .i64 m] w fun e w' => e = .returned (.tuple #[]) ∧ DAt w' b n (armD D m) P ∧ Moved (Is b) (Is b) w w' := by
  obtain ⟨c0, c1, c2, c3, c4, c5, c6⟩ := h.cells
  obtain ⟨f3, f4, f5, f6⟩ := h.froz
  have A' : At ((w.setCell ⟨b, 4, Option.none⟩ (.bool (decide (0 ≤ m)))).setCell ⟨b, 5, Option.none⟩ (.int .i64 m)) b (hdV (armD D m) P n) 62 := (h.hd.setCell_same 4 (.bool (decide (0 ≤ m)))).setCell_same 5 (.int .i64 m)
  have M' : Moved (Is b) (Is b) w ((w.setCell ⟨b, 4, Option.none⟩ (.bool (decide (0 ≤ m)))).setCell ⟨b, 5, Option.none⟩ (.int .i64 m)) := ((Moved.refl _ _).one_set 4 _).one_set 5 _
  have HD' : Hid (DAt ((w.setCell ⟨b, 4, Option.none⟩ (.bool (decide (0 ≤ m)))).setCell ⟨b, 5, Option.none⟩ (.int .i64 m)) b n (armD D m) P) :=
    h.head M' A' ⟨h.ok.k, h.ok.m, h.ok.s, h.ok.n1, h.ok.n40, h.ok.kl, h.ok.ml, h.ok.sl, h.ok.nx, fun e => by simpa [armD] using e, hm⟩ rfl rfl rfl
  clear h c0 c1 c2 c3 f3 f6 c6 A'
  go_enter Tryz.func17, Tryz.ntmps17
  go_wp2
  refine bodyPost_end (v := .tuple #[]) ?_ rfl ?_
  · simp [results, Tryz.results17, go_sem]
  · exact ⟨rfl, HD'.out, M'⟩
end Go.Proofs.YtfkmaiiainbcbaaGreatDoor.D
