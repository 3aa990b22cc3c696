/- What the small functions of package code, and the document's own beside them, answer: types, numbers, letters. -/
import Derived.Test.YtfkmaiiainbcbaaGreatDoorCBase
namespace Go.Proofs.YtfkmaiiainbcbaaGreatDoor.K
open Go.ChangeShapes Go.WideShapes Go.ChangeAt Go.RowKit Go.Maps

theorem ret_bool {a b : Bool} (h : a = b) : Ending.returned (.bool a) = .returned (.bool b) := by rw [h]
/-- An error by its number; 0: none. -/
def errV (f : Int) : Value := if f = 0 then .nilIface else .iface 58 (.int .i64 f)
theorem errV_ok : errV 0 = .nilIface := rfl
theorem errV_1 : errV 1 = .iface 58 (.int .i64 1) := rfl
theorem errV_2 : errV 2 = .iface 58 (.int .i64 2) := rfl
/-- May something be held so? -/
def typeB (t : Int) : Bool := t == 1 || t == 3 || t == 5 || t == 6 || t == 7 || t == 8
theorem kinds8 (t : Int) : t = 0 ∨ t = 1 ∨ t = 3 ∨ t = 5 ∨ t = 6 ∨ t = 7 ∨ t = 8 ∨ ((t == 0) = false ∧ (t == 1) = false ∧ (t == 3) = false ∧ (t == 5) = false ∧ (t == 6) = false ∧ (t == 7) = false ∧ (t == 8) = false) := by
  simp only [beq_eq_false_iff_ne]; omega

theorem type_any (t : Int) (w : World) : Calls Tryz.prog 47 #[.int .i64 t] w fun e w' => e = .returned (.bool (typeB t)) ∧ w' = w := by
  rcases kinds8 t with rfl | rfl | rfl | rfl | rfl | rfl | rfl | ⟨k0, k1, k3, k5, k6, k7, k8⟩
  case inr.inr.inr.inr.inr.inr.inr =>
    have HF : Hid (typeB t = false) := by show _ = _; simp [typeB, k1, k3, k5, k6, k7, k8]
    go_enter Tryz.func47, Tryz.ntmps47
    go_wp2
    go_ret
    exact ⟨ret_bool HF.out.symm, rfl⟩
  all_goals
    go_enter Tryz.func47, Tryz.ntmps47
    go_wp2
    go_ret
    exact ⟨rfl, rfl⟩

theorem typeMay_any (t : Int) (w : World) : Calls Tryz.prog 28 #[.int .i64 t] w fun e w' => e = .returned (.bool (typeB t)) ∧ w' = w := by
  rcases kinds8 t with rfl | rfl | rfl | rfl | rfl | rfl | rfl | ⟨k0, k1, k3, k5, k6, k7, k8⟩
  case inr.inr.inr.inr.inr.inr.inr =>
    have HF : Hid (typeB t = false) := by show _ = _; simp [typeB, k1, k3, k5, k6, k7, k8]
    by_cases h5 : 5 ≤ t
    · have h8 : ¬ t ≤ 8 := by simp only [beq_eq_false_iff_ne] at k0 k1 k3 k5 k6 k7 k8; omega
      have h8' : decide (t ≤ 8) = false := by simpa using h8
      go_enter Tryz.func28, Tryz.ntmps28
      go_wp2
      go_ret
      exact ⟨ret_bool HF.out.symm, rfl⟩
    · have h5' : decide (5 ≤ t) = false := by simpa using h5
      go_enter Tryz.func28, Tryz.ntmps28
      go_wp2
      go_ret
      exact ⟨ret_bool HF.out.symm, rfl⟩
  all_goals
    go_enter Tryz.func28, Tryz.ntmps28
    go_wp2
    go_ret
    exact ⟨rfl, rfl⟩

/-- What is wrong with a number that a command has, or not. -/
def chkN (n : Int) (has : Bool) (most : Int) : Int := if n ≠ 0 ∧ has = false then 2 else if n < 0 ∨ most < n then 1 else 0

/-- Letters alone? -/
def smallB (l : List UInt8) : Bool := l.all fun b => decide (97 ≤ b.toNat) && decide (b.toNat ≤ 122)

theorem smallB_at (s : ByteArray) (k : Nat) (h : k < s.size) : smallB (s.data.toList.drop k) = ((decide (97 ≤ (s[k]'h).toNat) && decide ((s[k]'h).toNat ≤ 122)) && smallB (s.data.toList.drop (k + 1))) := by
  rw [List.drop_eq_getElem_cons (show k < s.data.toList.length from h)]; rfl
end Go.Proofs.YtfkmaiiainbcbaaGreatDoor.K
