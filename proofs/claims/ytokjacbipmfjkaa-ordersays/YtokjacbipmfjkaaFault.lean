/- What the document's own May, TypeMay and StateFault answer, for every state and everybody. -/
import Derived.Test.YtokjacbipmfjkaaRights
namespace Go.Proofs.Ytokjacbipmfjkaa
open Go.ChangeShapes Go.WideShapes Go.ChangeAt Go.RowKit

/-- May something be held so? -/
def typeB (t : Int) : Bool := t == 1 || t == 3 || t == 5 || t == 6 || t == 7 || t == 8
/-- What is wrong with those who are known, behind one of that name. -/
def rf : Int → List (Int × Int) → Int
  | _, [] => 0
  | p, r :: l => if r.1 < 1 ∨ 4 < r.1 ∨ r.2 < 1 ∨ 999 < r.2 then 1 else if r.1 ≤ p then 2 else rf r.1 l
/-- What is wrong with type and holder. -/
def tf (t h : Int) (l : List (Int × Int)) : Int :=
  if t = 0 then (if h = 0 then 0 else 2) else if typeB t = false then 2 else if t = 7 ∨ t = 8 then (if h = 0 ∧ l.length ≠ 0 then 0 else 2) else if keyOf l h = 0 then 2 else 0
/-- What is wrong with a state; 0: nothing. -/
def fault (g t h : Int) (l : List (Int × Int)) : Int := if g < 0 ∨ 1000000000 < g then 1 else if rf 0 l = 0 then tf t h l else rf 0 l

theorem typeMay_any (t : Int) (w : World) : Calls Try.prog 27 #[.int .i64 t] w fun e w' => e = .returned (.bool (typeB t)) ∧ w' = w := by
  rcases kinds8 t with rfl | rfl | rfl | rfl | rfl | rfl | rfl | ⟨k0, k1, k3, k5, k6, k7, k8⟩
  case inr.inr.inr.inr.inr.inr.inr =>
    have HF : Hid (typeB t = false) := by show _ = _; simp [typeB, k1, k3, k5, k6, k7, k8]
    by_cases h5 : 5 ≤ t
    · have h8 : ¬ t ≤ 8 := by simp only [beq_eq_false_iff_ne] at k0 k1 k3 k5 k6 k7 k8; omega
      have h8' : decide (t ≤ 8) = false := by simpa using h8
      go_enter Try.func27, Try.ntmps27
      go_wp2
      go_ret
      exact ⟨ret_bool HF.out.symm, rfl⟩
    · have h5' : decide (5 ≤ t) = false := by simpa using h5
      go_enter Try.func27, Try.ntmps27
      go_wp2
      go_ret
      exact ⟨ret_bool HF.out.symm, rfl⟩
  all_goals
    go_enter Try.func27, Try.ntmps27
    go_wp2
    go_ret
    exact ⟨rfl, rfl⟩

set_option maxHeartbeats 1000000 in
theorem rmay_any (g t h : Int) (a : Option Addr) (n c : Nat) (y : Bool) (l : List (Int × Int)) (who : Int) (wr : Bool) (w : World) (hr : Row w a n l) :
    Calls Try.prog 43 #[.agg #[.int .i64 g, .slice a n c, .int .i64 t, .int .i64 h, .bool y], .int .i64 who, .bool wr] w fun e w' => e = .returned (.bool (rmayB t h l who wr)) ∧ Below w.heap.size w w' := by
  generalize hH : rholdsB t h l who = H
  generalize hK : decide (0 < keyOf l who) = K
  have HM : Hid (rmayB t h l who wr = if t = 0 then true else if t = 1 then H || !wr else if t = 3 then H else if t = 5 ∨ t = 7 then K || !wr else K) := by show _ = _; rw [← hH, ← hK]; rfl
  rcases kinds8 t with rfl | rfl | rfl | rfl | rfl | rfl | rfl | ⟨k0, k1, k3, k5, k6, k7, k8⟩
  case inr.inr.inr.inr.inr.inr.inr =>
    have HF : Hid (rmayB t h l who wr = K) := by show _ = _; rw [HM.out]; simp only [beq_eq_false_iff_ne] at k0 k1 k3 k5 k6 k7 k8; simp [k0, k1, k3, k5, k7]
    go_enter Try.func43, Try.ntmps43
    go_wp2_with (first
      | (go_at_call 37; refine (rholds_any g _ h a n c y l who _ (by exact hr.later ((Below.refl _ _).alloc (Nat.le_refl _) _))).mono ?_; rintro e w1 ⟨rfl, hb1⟩; obtain ⟨c0, c1, c2, c3, c4⟩ := box5 hb1)
      | (go_at_call 28; refine (keyOf_any g _ h a n c y l who _ (by exact hr.later (box_trans hb1))).mono ?_; rintro e w2 ⟨rfl, hb2⟩; have d2 := cell_later hb2 c2))
    go_ret
    exact ⟨ret_bool HF.out.symm, (box_trans hb1).trans (hb2.mono (box_trans hb1).size)⟩
  all_goals
    cases wr <;> cases H
    all_goals
      go_enter Try.func43, Try.ntmps43
      go_wp2_with (first
        | (go_at_call 37; refine (rholds_any g _ h a n c y l who _ (by exact hr.later ((Below.refl _ _).alloc (Nat.le_refl _) _))).mono ?_; rintro e w1 ⟨rfl, hb1⟩; obtain ⟨c0, c1, c2, c3, c4⟩ := box5 hb1)
        | (go_at_call 28; refine (keyOf_any g _ h a n c y l who _ (by exact hr.later (box_trans hb1))).mono ?_; rintro e w2 ⟨rfl, hb2⟩; have d2 := cell_later hb2 c2))
      all_goals
        go_ret
        exact ⟨ret_bool (by rw [HM.out]; simp [*]), (box_trans hb1).trans (hb2.mono (box_trans hb1).size)⟩
end Go.Proofs.Ytokjacbipmfjkaa
