/- What code.opOf answers. -/
import Derived.Test.YthkckogbjdbnnaaDoorCText
namespace Go.Proofs.YthkckogbjdbnnaaDoor.K
open Go.ChangeShapes Go.WideShapes Go.ChangeAt Go.RowKit Go.Maps

/-- The command of a word; 0: none. -/
def OpIs (s : ByteArray) (o : Int) : Prop := (1 ≤ o ∧ o ≤ 9 ∧ ((wordOf o).toList == s.toList) = true) ∨ (o = 0 ∧ ∀ j : Int, 1 ≤ j → j ≤ 9 → ((wordOf j).toList == s.toList) = false)

theorem word_of (wd : ByteArray) (kk kf kh ka ks kd kw : Bool) (w : World) : (Instr.field 59 (.agg #[.string wd, .bool kk, .bool kf, .bool kh, .bool ka, .bool ks, .bool kd, .bool kw]) 0).run Tryd.prog w = .ok (.string wd) w := by kernel_rfl

set_option maxHeartbeats 4000000 in
set_option maxRecDepth 100000 in
theorem opOf_any (s : ByteArray) (w : World) : Calls Tryd.prog 60 #[.string s] w fun e w' => ∃ o, e = .returned (.int .i64 o) ∧ OpIs s o ∧ Below w.heap.size w w' := by
  have hfd := word_of
  go_enter Tryd.func60, Tryd.ntmps60
  go_wp2_with (go_at_call 31; refine (kinds_any _).mono ?_; rintro e w1 ⟨rfl, hown, hb1⟩)
  go_loopw [4] (fun i wr => ∃ k : Nat, 1 ≤ k ∧ k ≤ 10 ∧ i = .int .i64 k ∧ wr = w1 ∧ ∀ j : Int, 1 ≤ j → j < k → ((wordOf j).toList == s.toList) = false) (fun i _ => 10 - (intOf i).toNat)
  case atStart => exact ⟨1, by omega, by omega, rfl, rfl, fun j h1 h2 => by omega⟩
  case round =>
    obtain ⟨k, hk1, hk, rfl, rfl, hall⟩ := hrel
    have HA : Hid _ := hall
    have HO : Hid _ := hown
    clear hall
    by_cases hlt : k ≤ 9
    · have hki : (k : Int) ≤ 9 := by omega
      have hwf : (Lit.int .i64 (k : Int)).wf = true := by
        have : k = 1 ∨ k = 2 ∨ k = 3 ∨ k = 4 ∨ k = 5 ∨ k = 6 ∨ k = 7 ∨ k = 8 ∨ k = 9 := by omega
        rcases this with rfl | rfl | rfl | rfl | rfl | rfl | rfl | rfl | rfl <;> decide
      have hlk := look_kind hown (k : Int) hwf
      simp only [kindA] at hlk
      clear hwf
      clear hown
      cases he : ((wordOf (k : Int)).toList == s.toList)
      · go_wp2
        go_roundw
        case rel => exact ⟨k + 1, by omega, by omega, by go_num, by trivial, fun j h1 h2 => by
          by_cases hj : j = (k : Int)
          · rw [hj]; exact he
          · exact HA.out j h1 (by omega)⟩
        case measure => simp [intOf]; omega
      · go_wp2
        go_ret
        exact ⟨(k : Int), rfl, .inl ⟨by omega, by omega, he⟩, hb1⟩
    · have hki : decide ((k : Int) ≤ 9) = false := by simp; omega
      clear hown
      go_wp2
      go_ret
      exact ⟨0, rfl, .inr ⟨rfl, fun j h1 h2 => HA.out j h1 (by omega)⟩, hb1⟩
end Go.Proofs.YthkckogbjdbnnaaDoor.K
