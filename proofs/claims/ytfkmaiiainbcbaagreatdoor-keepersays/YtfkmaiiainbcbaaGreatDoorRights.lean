/- What hold.All, hold.Holds, rights.May and the document's own Holds and May answer, for every state and everybody. -/
import Derived.Test.YtfkmaiiainbcbaaGreatDoorKey
namespace Go.Proofs.YtfkmaiiainbcbaaGreatDoor
open Go.ChangeShapes Go.WideShapes Go.ChangeAt Go.RowKit

/-- Do all who are known hold it? -/
def allB (t : Int) : Bool := t == 7 || t == 8
/-- Does somebody hold it? -/
def holdsB (t h : Int) (l : List (Int × Int)) (who : Int) : Bool := if allB t then keyOf l who != 0 else t != 0 && h == who
/-- May somebody read, or write? -/
def mayB (t h : Int) (l : List (Int × Int)) (who : Int) (write : Bool) : Bool :=
  if t = 0 then true else if t = 1 then !write || holdsB t h l who else if t = 3 then holdsB t h l who
  else if t = 5 ∨ t = 7 then !write || keyOf l who != 0 else if t = 6 ∨ t = 8 then keyOf l who != 0 else false

theorem box_trans {w w1 : World} {o : Obj} (hb : Below (w.alloc o).heap.size (w.alloc o) w1) : Below w.heap.size w w1 :=
  ((Below.refl _ _).alloc (Nat.le_refl _) _).trans (hb.mono (by simp))

/-- The five cells of a boxed state, behind a call. -/
theorem box5 {w w1 : World} {v0 v1 v2 v3 v4 : Value} {T : TypeId} (hb : Below (w.alloc (.cells #[v0, v1, v2, v3, v4] T)).heap.size (w.alloc (.cells #[v0, v1, v2, v3, v4] T)) w1) :
    w1.cell? ⟨w.heap.size, 0, none⟩ = some v0 ∧ w1.cell? ⟨w.heap.size, 1, none⟩ = some v1 ∧ w1.cell? ⟨w.heap.size, 2, none⟩ = some v2 ∧ w1.cell? ⟨w.heap.size, 3, none⟩ = some v3 ∧ w1.cell? ⟨w.heap.size, 4, none⟩ = some v4 := by
  refine ⟨?_, ?_, ?_, ?_, ?_⟩ <;> (refine cell_later hb ?_; simp [go_sem])

theorem light_any (g t h : Int) (a : Option Addr) (n c : Nat) (y : Bool) (w : World) (hn : n ≤ 9223372036854775807) :
    Calls Tryz.prog 21 #[.agg #[.int .i64 g, .slice a n c, .int .i64 t, .int .i64 h, .bool y]] w fun e w' => e = .returned (.bool (decide (n ≤ 6))) ∧ Below w.heap.size w w' := by
  go_enter Tryz.func21, Tryz.ntmps21
  go_wp2
  go_ret
  exact ⟨ret_bool (by rw [decide_eq_decide]; omega), (Below.refl _ _).alloc (Nat.le_refl _) _⟩

theorem all_any (g t h : Int) (a : Option Addr) (n c : Nat) (y : Bool) (w : World) :
    Calls Tryz.prog 48 #[.agg #[.int .i64 g, .slice a n c, .int .i64 t, .int .i64 h, .bool y]] w fun e w' => e = .returned (.bool (allB t)) ∧ Below w.heap.size w w' := by
  by_cases h7 : (t == 7) = true
  · have hf : allB t = true := by simp [allB, h7]
    have HF : Hid (allB t = true) := hf
    clear hf
    go_enter Tryz.func48, Tryz.ntmps48
    go_wp2
    go_ret
    exact ⟨ret_bool HF.out.symm, (Below.refl _ _).alloc (Nat.le_refl _) _⟩
  · have h7' : (t == 7) = false := by simpa using h7
    have HF : Hid (allB t = (t == 8)) := by show _ = _; simp [allB, h7']
    go_enter Tryz.func48, Tryz.ntmps48
    go_wp2
    go_ret
    exact ⟨ret_bool HF.out.symm, (Below.refl _ _).alloc (Nat.le_refl _) _⟩

/-- The document's own Holds. -/
def rholdsB (t h : Int) (l : List (Int × Int)) (who : Int) : Bool := if t = 7 ∨ t = 8 then decide (0 < keyOf l who) else decide (0 < t) && h == who
/-- The document's own May. -/
def rmayB (t h : Int) (l : List (Int × Int)) (who : Int) (write : Bool) : Bool :=
  if t = 0 then true else if t = 1 then rholdsB t h l who || !write else if t = 3 then rholdsB t h l who
  else if t = 5 ∨ t = 7 then decide (0 < keyOf l who) || !write else decide (0 < keyOf l who)

/-- Eight kinds of types. -/
theorem kinds8 (t : Int) : t = 0 ∨ t = 1 ∨ t = 3 ∨ t = 5 ∨ t = 6 ∨ t = 7 ∨ t = 8 ∨ ((t == 0) = false ∧ (t == 1) = false ∧ (t == 3) = false ∧ (t == 5) = false ∧ (t == 6) = false ∧ (t == 7) = false ∧ (t == 8) = false) := by
  simp only [beq_eq_false_iff_ne]; omega

end Go.Proofs.YtfkmaiiainbcbaaGreatDoor
