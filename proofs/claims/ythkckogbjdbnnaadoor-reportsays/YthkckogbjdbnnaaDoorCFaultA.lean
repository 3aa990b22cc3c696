/- What the document's own CommandFault answers, for the commands 1, 2, 3. -/
import Derived.Test.YthkckogbjdbnnaaDoorCChk
namespace Go.Proofs.YthkckogbjdbnnaaDoor.K
open Go.ChangeShapes Go.WideShapes Go.ChangeAt Go.RowKit Go.Maps

theorem ret_intA {a b : Int} (h : a = b) : Ending.returned (.int .i64 a) = .returned (.int .i64 b) := by rw [h]

set_option maxHeartbeats 8000000 in
set_option maxRecDepth 100000 in
theorem fault_1 (who key new ty at' : Int) (st : Bool) (d wt : ByteArray) (hd : d.size ≤ 9223372036854775807) (hwt : wt.size ≤ 9223372036854775807) (w : World) :
    Calls Tryd.prog 17 #[cmdA 1 who key new ty at' st d wt] w fun e w' => e = .returned (.int .i64 (cmdF 1 who key new ty at' st d wt)) ∧ Below w.heap.size w w' := by
  generalize hF : cmdF 1 who key new ty at' st d wt = F
  have HF : Hid (F = cmdF 1 who key new ty at' st d wt) := hF.symm
  clear hF
  go_enter Tryd.func17, Tryd.ntmps17
  go_wp2_with (first
    | (go_at_call 14; refine (typeMay_any _ _).mono ?_; rintro e w2 ⟨rfl, rfl⟩)
    | (go_at_call 47; refine (small_any _ ?_ _).mono ?_; (focus assumption); rintro e w4 ⟨rfl, rfl⟩))
  all_goals
    go_ret
    refine ⟨ret_intA ?_, (Below.refl _ _).alloc (Nat.le_refl _) _⟩
    have hf := HF.out
    clear HF
    simp only [cmdF, numsF, chkN, shapedB, hasKey, hasNew, hasHeld, hasAt, hasStays, hasData, hasWant] at hf
    subst hf
    simp_all
    try omega

set_option maxHeartbeats 8000000 in
set_option maxRecDepth 100000 in
theorem fault_2 (who key new ty at' : Int) (st : Bool) (d wt : ByteArray) (hd : d.size ≤ 9223372036854775807) (hwt : wt.size ≤ 9223372036854775807) (w : World) :
    Calls Tryd.prog 17 #[cmdA 2 who key new ty at' st d wt] w fun e w' => e = .returned (.int .i64 (cmdF 2 who key new ty at' st d wt)) ∧ Below w.heap.size w w' := by
  generalize hF : cmdF 2 who key new ty at' st d wt = F
  have HF : Hid (F = cmdF 2 who key new ty at' st d wt) := hF.symm
  clear hF
  go_enter Tryd.func17, Tryd.ntmps17
  go_wp2_with (first
    | (go_at_call 14; refine (typeMay_any _ _).mono ?_; rintro e w2 ⟨rfl, rfl⟩)
    | (go_at_call 47; refine (small_any _ ?_ _).mono ?_; (focus assumption); rintro e w4 ⟨rfl, rfl⟩))
  all_goals
    go_ret
    refine ⟨ret_intA ?_, (Below.refl _ _).alloc (Nat.le_refl _) _⟩
    have hf := HF.out
    clear HF
    simp only [cmdF, numsF, chkN, shapedB, hasKey, hasNew, hasHeld, hasAt, hasStays, hasData, hasWant] at hf
    subst hf
    simp_all
    try omega

set_option maxHeartbeats 8000000 in
set_option maxRecDepth 100000 in
theorem fault_3 (who key new ty at' : Int) (st : Bool) (d wt : ByteArray) (hd : d.size ≤ 9223372036854775807) (hwt : wt.size ≤ 9223372036854775807) (w : World) :
    Calls Tryd.prog 17 #[cmdA 3 who key new ty at' st d wt] w fun e w' => e = .returned (.int .i64 (cmdF 3 who key new ty at' st d wt)) ∧ Below w.heap.size w w' := by
  generalize hF : cmdF 3 who key new ty at' st d wt = F
  have HF : Hid (F = cmdF 3 who key new ty at' st d wt) := hF.symm
  clear hF
  go_enter Tryd.func17, Tryd.ntmps17
  go_wp2_with (first
    | (go_at_call 14; refine (typeMay_any _ _).mono ?_; rintro e w2 ⟨rfl, rfl⟩)
    | (go_at_call 47; refine (small_any _ ?_ _).mono ?_; (focus assumption); rintro e w4 ⟨rfl, rfl⟩))
  all_goals
    go_ret
    refine ⟨ret_intA ?_, (Below.refl _ _).alloc (Nat.le_refl _) _⟩
    have hf := HF.out
    clear HF
    simp only [cmdF, numsF, chkN, shapedB, hasKey, hasNew, hasHeld, hasAt, hasStays, hasData, hasWant] at hf
    subst hf
    simp_all
    try omega
end Go.Proofs.YthkckogbjdbnnaaDoor.K
