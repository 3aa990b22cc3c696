/- That the document's comparison of numbers says yes of two equal lists. -/
import Derived.Test.YthkckogbjdbnnaaDoorNums
namespace Go.Proofs.YthkckogbjdbnnaaDoor
open Go.ChangeShapes Go.WideShapes Go.ChangeAt Go.RowKit

set_option maxHeartbeats 2000000 in
theorem sameNums_any (a a' : Option Addr) (n n' c c' : Nat) (l : List Int) (w : World) (hr : Nums w a n l) (hr' : Nums w a' n' l) :
    Calls Tryd.prog 27 #[.slice a n c, .slice a' n' c'] w fun e w' => e = .returned (.bool true) ∧ Below w.heap.size w w' := by
  obtain ⟨hl, hn, hrow⟩ := hr
  obtain ⟨hl', hn', hrow'⟩ := hr'
  have hnn : n' = n := by omega
  subst hnn
  go_enter Tryd.func27, Tryd.ntmps27
  go_wp2
  go_loopw [5] (fun i wr => ∃ k : Nat, k ≤ n' ∧ i = .int .i64 k ∧ Below w.heap.size w wr) (fun i _ => n' - (intOf i).toNat)
  case atStart => exact ⟨0, Nat.zero_le _, rfl, Below.refl _ _⟩
  case round =>
    obtain ⟨k, hk, rfl, bw⟩ := hrel
    by_cases hlt : k < n'
    · obtain ⟨b, off, rfl, hc⟩ := hrow (by omega)
      obtain ⟨b', off', rfl, hc'⟩ := hrow' (by omega)
      have hc0 := cell_later bw (hc k (by omega))
      have hc1 := cell_later bw (hc' k (by omega))
      have hki : (k : Int) < (n' : Int) := by omega
      clear hc hc' hrow hrow'
      go_wp2
      go_quiet (fail)
      go_wp2
      go_roundw
      case rel => exact ⟨k + 1, by omega, by go_num, below_drewN bw _⟩
      case measure => simp [intOf]; omega
    · have hlt' : decide ((k : Int) < (n' : Int)) = false := by simp; omega
      go_wp2
      go_ret
      exact ⟨rfl, bw⟩
end Go.Proofs.YthkckogbjdbnnaaDoor
