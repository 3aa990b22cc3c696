/- What the document's own May, TypeMay and StateFault answer, for every state and everybody. -/
import Derived.Test.YtfkmaiiainbcbaaGreatDoorRights
namespace Go.Proofs.YtfkmaiiainbcbaaGreatDoor
open Go.ChangeShapes Go.WideShapes Go.ChangeAt Go.RowKit

/-- May something be held so? -/
def typeB (t : Int) : Bool := t == 1 || t == 3 || t == 5 || t == 6 || t == 7 || t == 8
/-- What is wrong with those who are known, behind one of that name. -/
def rf : Int → List (Int × Int) → Int
  | _, [] => 0
  | p, r :: l => if r.1 < 1 ∨ 4 < r.1 ∨ r.2 < 1 ∨ 999 < r.2 then 1 else if r.1 ≤ p then 2 else rf r.1 l
/-- What is wrong with type and holder. -/
def tf (t h : Int) (l : List (Int × Int)) : Int :=
  if t = 0 then (if h = 0 then 0 else 2) else if typeB t = false then 2 else if t = 7 ∨ t = 8 then (if h = 0 ∧ l.length ≠ 0 then 0 else 2) else if keyOf l h = 0 then 2 else 0
/-- What is wrong with a state; 0: nothing. -/
def fault (g t h : Int) (l : List (Int × Int)) : Int := if g < 0 ∨ 1000000000 < g then 1 else if rf 0 l = 0 then tf t h l else rf 0 l

theorem typeMay_any (t : Int) (w : World) : Calls Tryz.prog 28 #[.int .i64 t] w fun e w' => e = .returned (.bool (typeB t)) ∧ w' = w := by
  rcases kinds8 t with rfl | rfl | rfl | rfl | rfl | rfl | rfl | ⟨k0, k1, k3, k5, k6, k7, k8⟩
  case inr.inr.inr.inr.inr.inr.inr =>
    have HF : Hid (typeB t = false) := by show _ = _; simp [typeB, k1, k3, k5, k6, k7, k8]
    by_cases h5 : 5 ≤ t
    · have h8 : ¬ t ≤ 8 := by simp only [beq_eq_false_iff_ne] at k0 k1 k3 k5 k6 k7 k8; omega
      have h8' : decide (t ≤ 8) = false := by simpa using h8
      go_enter Tryz.func28, Tryz.ntmps28
      go_wp2
      go_ret
      exact ⟨ret_bool HF.out.symm, rfl⟩
    · have h5' : decide (5 ≤ t) = false := by simpa using h5
      go_enter Tryz.func28, Tryz.ntmps28
      go_wp2
      go_ret
      exact ⟨ret_bool HF.out.symm, rfl⟩
  all_goals
    go_enter Tryz.func28, Tryz.ntmps28
    go_wp2
    go_ret
    exact ⟨rfl, rfl⟩

end Go.Proofs.YtfkmaiiainbcbaaGreatDoor
