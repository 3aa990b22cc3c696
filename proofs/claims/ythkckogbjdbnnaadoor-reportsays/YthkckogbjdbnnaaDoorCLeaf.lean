/- What the small functions of package code, and the document's own beside them, answer: types, numbers, letters. -/
import Derived.Test.YthkckogbjdbnnaaDoorCBase
namespace Go.Proofs.YthkckogbjdbnnaaDoor.K
open Go.ChangeShapes Go.WideShapes Go.ChangeAt Go.RowKit Go.Maps

theorem ret_bool {a b : Bool} (h : a = b) : Ending.returned (.bool a) = .returned (.bool b) := by rw [h]
/-- An error by its number; 0: none. -/
def errV (f : Int) : Value := if f = 0 then .nilIface else .iface 68 (.int .i64 f)
theorem errV_ok : errV 0 = .nilIface := rfl
theorem errV_1 : errV 1 = .iface 68 (.int .i64 1) := rfl
theorem errV_2 : errV 2 = .iface 68 (.int .i64 2) := rfl
/-- May something be held so? -/
def typeB (t : Int) : Bool := t == 1 || t == 3 || t == 5 || t == 6 || t == 7 || t == 8
theorem kinds8 (t : Int) : t = 0 ∨ t = 1 ∨ t = 3 ∨ t = 5 ∨ t = 6 ∨ t = 7 ∨ t = 8 ∨ ((t == 0) = false ∧ (t == 1) = false ∧ (t == 3) = false ∧ (t == 5) = false ∧ (t == 6) = false ∧ (t == 7) = false ∧ (t == 8) = false) := by
  simp only [beq_eq_false_iff_ne]; omega

theorem type_any (t : Int) (w : World) : Calls Tryd.prog 13 #[.int .i64 t] w fun e w' => e = .returned (.bool (typeB t)) ∧ w' = w := by
  rcases kinds8 t with rfl | rfl | rfl | rfl | rfl | rfl | rfl | ⟨k0, k1, k3, k5, k6, k7, k8⟩
  case inr.inr.inr.inr.inr.inr.inr =>
    have HF : Hid (typeB t = false) := by show _ = _; simp [typeB, k1, k3, k5, k6, k7, k8]
    go_enter Tryd.func13, Tryd.ntmps13
    go_wp2
    go_ret
    exact ⟨ret_bool HF.out.symm, rfl⟩
  all_goals
    go_enter Tryd.func13, Tryd.ntmps13
    go_wp2
    go_ret
    exact ⟨rfl, rfl⟩

theorem typeMay_any (t : Int) (w : World) : Calls Tryd.prog 14 #[.int .i64 t] w fun e w' => e = .returned (.bool (typeB t)) ∧ w' = w := by
  rcases kinds8 t with rfl | rfl | rfl | rfl | rfl | rfl | rfl | ⟨k0, k1, k3, k5, k6, k7, k8⟩
  case inr.inr.inr.inr.inr.inr.inr =>
    have HF : Hid (typeB t = false) := by show _ = _; simp [typeB, k1, k3, k5, k6, k7, k8]
    by_cases h5 : 5 ≤ t
    · have h8 : ¬ t ≤ 8 := by simp only [beq_eq_false_iff_ne] at k0 k1 k3 k5 k6 k7 k8; omega
      have h8' : decide (t ≤ 8) = false := by simpa using h8
      go_enter Tryd.func14, Tryd.ntmps14
      go_wp2
      go_ret
      exact ⟨ret_bool HF.out.symm, rfl⟩
    · have h5' : decide (5 ≤ t) = false := by simpa using h5
      go_enter Tryd.func14, Tryd.ntmps14
      go_wp2
      go_ret
      exact ⟨ret_bool HF.out.symm, rfl⟩
  all_goals
    go_enter Tryd.func14, Tryd.ntmps14
    go_wp2
    go_ret
    exact ⟨rfl, rfl⟩

/-- What is wrong with a number that a command has, or not. -/
def chkN (n : Int) (has : Bool) (most : Int) : Int := if n ≠ 0 ∧ has = false then 2 else if n < 0 ∨ most < n then 1 else 0

theorem checkNumber_any (n : Int) (has : Bool) (most : Int) (w : World) : Calls Tryd.prog 63 #[.int .i64 n, .bool has, .int .i64 most] w fun e w' => e = .returned (errV (chkN n has most)) ∧ w' = w := by
  by_cases h0 : n = 0
  · subst h0
    by_cases hm : most < 0
    · have HF : Hid (chkN 0 has most = 1) := by show _ = _; simp [chkN, hm]
      go_enter Tryd.func63, Tryd.ntmps63
      go_wp2
      go_ret
      exact ⟨by rw [HF.out]; rfl, rfl⟩
    · have HF : Hid (chkN 0 has most = 0) := by show _ = _; simp [chkN]; omega
      have h1 : decide (most < 0) = false := by simp; omega
      go_enter Tryd.func63, Tryd.ntmps63
      go_wp2
      go_ret
      exact ⟨by rw [HF.out]; rfl, rfl⟩
  · have h0' : (n == 0) = false := by simpa using h0
    cases has
    · have HF : Hid (chkN n false most = 2) := by show _ = _; simp [chkN, h0]
      go_enter Tryd.func63, Tryd.ntmps63
      go_wp2
      go_ret
      exact ⟨by rw [HF.out]; rfl, rfl⟩
    · by_cases h1 : n < 0
      · have HF : Hid (chkN n true most = 1) := by show _ = _; simp [chkN, h1]
        go_enter Tryd.func63, Tryd.ntmps63
        go_wp2
        go_ret
        exact ⟨by rw [HF.out]; rfl, rfl⟩
      · have h1' : decide (n < 0) = false := by simpa using h1
        by_cases h2 : most < n
        · have HF : Hid (chkN n true most = 1) := by show _ = _; simp [chkN, h2]
          go_enter Tryd.func63, Tryd.ntmps63
          go_wp2
          go_ret
          exact ⟨by rw [HF.out]; rfl, rfl⟩
        · have h2' : decide (most < n) = false := by simpa using h2
          have HF : Hid (chkN n true most = 0) := by show _ = _; simp [chkN]; omega
          go_enter Tryd.func63, Tryd.ntmps63
          go_wp2
          go_ret
          exact ⟨by rw [HF.out]; rfl, rfl⟩

/-- Letters alone? -/
def smallB (l : List UInt8) : Bool := l.all fun b => decide (97 ≤ b.toNat) && decide (b.toNat ≤ 122)

theorem smallB_at (s : ByteArray) (k : Nat) (h : k < s.size) : smallB (s.data.toList.drop k) = ((decide (97 ≤ (s[k]'h).toNat) && decide ((s[k]'h).toNat ≤ 122)) && smallB (s.data.toList.drop (k + 1))) := by
  rw [List.drop_eq_getElem_cons (show k < s.data.toList.length from h)]; rfl
set_option maxHeartbeats 1000000 in
theorem letters_any (s : ByteArray) (hs : s.size ≤ 9223372036854775807) (w : World) : Calls Tryd.prog 46 #[.string s] w fun e w' => e = .returned (.bool (smallB s.data.toList)) ∧ w' = w := by
  go_enter Tryd.func46, Tryd.ntmps46
  go_wp2
  go_loopw [3, 6] (fun _ i wr => ∃ k : Nat, k ≤ s.size ∧ i = .int .i64 k ∧ wr = w ∧ smallB s.data.toList = smallB (s.data.toList.drop k)) (fun _ i _ => s.size - (intOf i).toNat)
  case atStart => exact ⟨0, Nat.zero_le _, rfl, rfl, rfl⟩
  case round =>
    obtain ⟨k, hk, rfl, rfl, hsm⟩ := hrel
    have HS : Hid _ := hsm
    clear hsm
    by_cases hlt : k < s.size
    · have hki : (k : Int) < (s.size : Int) := by omega
      have HD : Hid _ := smallB_at s k hlt
      by_cases h1 : (s[k]'hlt).toNat < 97
      · go_wp2
        go_ret
        exact ⟨ret_bool (by rw [HS.out, HD.out, decide_eq_false (by omega)]; rfl), rfl⟩
      · have h1' : decide ((s[k]'hlt).toNat < 97) = false := by simpa using h1
        by_cases h2 : 122 < (s[k]'hlt).toNat
        · go_wp2
          go_ret
          exact ⟨ret_bool (by rw [HS.out, HD.out, decide_eq_false (show ¬ (s[k]'hlt).toNat ≤ 122 by omega)]; simp), rfl⟩
        · have h2' : decide (122 < (s[k]'hlt).toNat) = false := by simpa using h2
          go_wp2
          go_roundw
          case rel => exact ⟨k + 1, by omega, by go_num, by trivial, by rw [HS.out, HD.out, decide_eq_true (by omega), decide_eq_true (by omega)]; rfl⟩
          case measure => simp [intOf]; omega
    · have hlt' : decide ((k : Int) < (s.size : Int)) = false := by simp; omega
      go_wp2
      go_ret
      exact ⟨ret_bool (by rw [HS.out, List.drop_eq_nil_of_le (by simpa using hlt)]; rfl), rfl⟩
set_option maxHeartbeats 1000000 in
theorem small_any (s : ByteArray) (hs : s.size ≤ 9223372036854775807) (w : World) : Calls Tryd.prog 47 #[.string s] w fun e w' => e = .returned (.bool (smallB s.data.toList)) ∧ w' = w := by
  go_enter Tryd.func47, Tryd.ntmps47
  go_wp2
  go_loopw [3] (fun i wr => ∃ k : Nat, k ≤ s.size ∧ i = .int .i64 k ∧ wr = w ∧ smallB s.data.toList = smallB (s.data.toList.drop k)) (fun i _ => s.size - (intOf i).toNat)
  case atStart => exact ⟨0, Nat.zero_le _, rfl, rfl, rfl⟩
  case round =>
    obtain ⟨k, hk, rfl, rfl, hsm⟩ := hrel
    have HS : Hid _ := hsm
    clear hsm
    by_cases hlt : k < s.size
    · have hki : (k : Int) < (s.size : Int) := by omega
      have HD : Hid _ := smallB_at s k hlt
      by_cases h1 : (s[k]'hlt).toNat < 97
      · go_wp2
        go_ret
        exact ⟨ret_bool (by rw [HS.out, HD.out, decide_eq_false (by omega)]; rfl), rfl⟩
      · have h1' : decide ((s[k]'hlt).toNat < 97) = false := by simpa using h1
        by_cases h2 : 122 < (s[k]'hlt).toNat
        · go_wp2
          go_ret
          exact ⟨ret_bool (by rw [HS.out, HD.out, decide_eq_false (show ¬ (s[k]'hlt).toNat ≤ 122 by omega)]; simp), rfl⟩
        · have h2' : decide (122 < (s[k]'hlt).toNat) = false := by simpa using h2
          go_wp2
          go_roundw
          case rel => exact ⟨k + 1, by omega, by go_num, by trivial, by rw [HS.out, HD.out, decide_eq_true (by omega), decide_eq_true (by omega)]; rfl⟩
          case measure => simp [intOf]; omega
    · have hlt' : decide ((k : Int) < (s.size : Int)) = false := by simp; omega
      go_wp2
      go_ret
      exact ⟨ret_bool (by rw [HS.out, List.drop_eq_nil_of_le (by simpa using hlt)]; rfl), rfl⟩
end Go.Proofs.YthkckogbjdbnnaaDoor.K
