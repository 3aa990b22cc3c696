/- What the disk's Read answers. No statement of the seat is proved here. -/
import Derived.Test.YtfkmaiiainbcbaaGreatDoorDStep
import Derived.Lib.SlBytesRow
namespace Go.Proofs.YtfkmaiiainbcbaaGreatDoor.D
open Go.ChangeShapes Go.WideShapes Go.ChangeAt Go.RowKit Go.Deep

/-- The cells of one sector among all. -/
theorem secs_at : ∀ (l : List Sec) (k : Nat) (h : k < l.length) (j : Nat), (∀ x ∈ l, x.length = 64) → j < 64 → (secs l)[k * 64 + j]? = (bcs l[k])[j]?
  | [], k, h, _, _, _ => by simp at h
  | x :: l, 0, h, j, hl, hj => by
    have hx := hl x List.mem_cons_self
    simp only [secs, List.flatMap_cons, Nat.zero_mul, Nat.zero_add, List.getElem_cons_zero]
    rw [List.getElem?_append_left (by rw [bcs_len, hx]; exact hj)]
  | x :: l, k + 1, h, j, hl, hj => by
    have hx := hl x List.mem_cons_self
    have ih := secs_at l k (by simpa using h) j (fun y hy => hl y (List.mem_cons_of_mem _ hy)) hj
    simp only [secs, List.flatMap_cons, List.getElem_cons_succ] at ih ⊢
    rw [List.getElem?_append_right (by rw [bcs_len, hx]; omega), bcs_len, hx, show (k + 1) * 64 + j - 64 = k * 64 + j by omega]
    exact ih
def readF (D : DM) (n : Nat) (at' : Int) : Int := if D.down = true then 10 else if hasD n at' = true then 0 else 1
def readS (D : DM) (n : Nat) (at' : Int) : ByteArray := if readF D n at' = 0 then ⟨(D.now.getD at'.toNat []).toArray⟩ else ⟨#[]⟩
theorem readF_ok {D : DM} {n : Nat} {at' : Int} (h : readF D n at' = 0) : D.down = false ∧ ∃ k : Nat, at' = k ∧ k < n := by
  unfold readF at h
  split at h
  · omega
  · rename_i hd
    split at h
    · rename_i hh
      simp [hasD] at hh
      exact ⟨by simpa using hd, at'.toNat, by omega, by omega⟩
    · omega
theorem bytes_at {w : World} {b : Nat} {T : TypeId} {l : List Sec} (h : At w b (secs l) T) (hl : ∀ x ∈ l, x.length = 64) (k : Nat) (hk : k < l.length) : Lib.Bytes w b (k * 64) ⟨l[k].toArray⟩ := by
  intro j hj
  have hj' : j < l[k].length := hj
  have h64 := hl l[k] (List.getElem_mem hk)
  rw [h.cell, secs_at l k hk j hl (by omega)]
  simp [bcs, hj']
  rfl

set_option maxHeartbeats 2000000 in
theorem read_any {w : World} {b n : Nat} {D : DM} {P : DP} (h : DAt w b n D P) (at' : Int) :
    Calls Tryz.prog 23 #[.pointer (some ⟨b, 0, Option.none⟩), .int .i64 at'] w fun e w' => e = .returned (.tuple #[.string (readS D n at'), errV (readF D n at')]) ∧ w' = w := by
  obtain ⟨c0, c1, c2, c3, c4, c5, c6⟩ := h.cells
  have HH : Hid (∀ x, Calls Tryz.prog 34 #[.pointer (some ⟨b, 0, Option.none⟩), .int .i64 x] w fun e w' => e = .returned (.bool (hasD n x)) ∧ w' = w) := fun x => has_any h x
  have HD : Hid (DAt w b n D P) := h
  clear h c0 c2 c3 c4 c5
  cases hd : D.down
  · rw [hd] at c6
    cases hh : hasD n at'
    · have HF : Hid (readF D n at' = 1) := by show _ = _; simp [readF, hd, hh]
      have HS : Hid (readS D n at' = ⟨#[]⟩) := by show _ = _; unfold readS; rw [HF.out]; rfl
      go_enter Tryz.func23, Tryz.ntmps23
      go_wp2_with fail
      refine (HH.out at').mono ?_
      rintro e _ ⟨rfl, rfl⟩
      rw [hh]
      go_wp2
      go_ret2
      exact ⟨by rw [HF.out, HS.out]; rfl, rfl⟩
    · have HF : Hid (readF D n at' = 0) := by show _ = _; simp [readF, hd, hh]
      obtain ⟨_, k, rfl, hk⟩ := readF_ok HF.out
      have hkl : k < D.now.length := by rw [HD.out.ok.m]; exact hk
      have HS : Hid (readS D n k = ⟨D.now[k].toArray⟩) := by show _ = _; unfold readS; rw [HF.out]; simp [hkl]
      have h64 := HD.out.ok.ml D.now[k] (List.getElem_mem hkl)
      have hcv := Lib.run_convert_window (P := Tryz.prog) w 82 5 9 Tryz.underlying82 Tryz.underlying5 Tryz.underlying9 P.nb (k * 64) _ (bytes_at HD.out.m HD.out.ok.ml k hkl) 0 64 64 (by show 0 + 64 ≤ (D.now[k].toArray).size; simp [h64])
      have hex : (⟨D.now[k].toArray⟩ : ByteArray).extract 0 (0 + 64) = ⟨D.now[k].toArray⟩ := ByteArray.ext (by simp; exact List.take_of_length_le (by omega))
      rw [hex, Nat.add_zero] at hcv
      have HHK' : Hid (Calls Tryz.prog 34 #[.pointer (some ⟨b, 0, Option.none⟩), .int .i64 k] w fun e w' => e = .returned (.bool true) ∧ w' = w) := by have := HH.out k; rw [hh] at this; exact this
      have hki : (k : Int) < (n : Int) := by omega
      clear hex h64 HH hh
      go_enter Tryz.func23, Tryz.ntmps23
      go_wp2_with fail
      refine HHK'.out.mono ?_
      rintro e _ ⟨rfl, rfl⟩
      go_wp2
      go_ret2
      exact ⟨by rw [HF.out, HS.out]; rfl, rfl⟩
  · rw [hd] at c6
    have HF : Hid (readF D n at' = 10) := by show _ = _; simp [readF, hd]
    have HS : Hid (readS D n at' = ⟨#[]⟩) := by show _ = _; unfold readS; rw [HF.out]; rfl
    go_enter Tryz.func23, Tryz.ntmps23
    go_wp2
    go_ret2
    exact ⟨by rw [HF.out, HS.out]; rfl, rfl⟩
end Go.Proofs.YtfkmaiiainbcbaaGreatDoor.D
