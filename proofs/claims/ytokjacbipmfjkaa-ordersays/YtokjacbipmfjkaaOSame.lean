/- That the document's comparison of tells says yes of two equal lists. No statement of the seat is proved here. -/
import Derived.Test.YtokjacbipmfjkaaOOut
namespace Go.Proofs.Ytokjacbipmfjkaa
open Go.ChangeShapes Go.WideShapes Go.ChangeAt Go.RowKit

theorem neq_tell (x k : Int) (w : World) : (binOp .neq 52 (.agg #[.int .i64 x, .int .i64 k]) (.agg #[.int .i64 x, .int .i64 k])).run Try.prog w = .ok (.bool false) w := by
  have u3 := Try.underlying3
  have a3 := Try.isAgg3
  have z3 := Try.sizeOf3
  have hS : Try.prog.underlying 52 = some (.struct (Try.prog.fieldsOf 52)) := by kernel_rfl
  have hp : Try.prog.stoodInHeld 52 = false := by kernel_rfl
  rw [run_neq_struct, show (10000 : Nat) = 9999 + 1 from rfl, run_equalIn_agg w 9999 52 _ _ hS hp]
  simp only [Program.fieldsOf, Try.underlying52]
  go_simp

set_option maxHeartbeats 4000000 in
theorem sameTells_any (a a' : Option Addr) (n n' c c' : Nat) (l : List (Int × Int)) (w : World) (hr : Row w a n l) (hr' : Row w a' n' l) :
    Calls Try.prog 17 #[.slice a n c, .slice a' n' c'] w fun e w' => e = .returned (.bool true) ∧ Below w.heap.size w w' := by
  obtain ⟨hl, hn, hrow⟩ := hr
  obtain ⟨hl', hn', hrow'⟩ := hr'
  have hnn : n' = n := by omega
  subst hnn
  have hneq := neq_tell
  have hgd : Try.prog.eqGuardType Try.prog.depth 52 = false := by kernel_rfl
  go_enter Try.func17, Try.ntmps17
  go_wp2
  go_loopw [5] (fun i wr => ∃ k : Nat, k ≤ n' ∧ i = .int .i64 k ∧ Below w.heap.size w wr) (fun i _ => n' - (intOf i).toNat)
  case atStart => exact ⟨0, Nat.zero_le _, rfl, Below.refl _ _⟩
  case round =>
    obtain ⟨k, hk, rfl, bw⟩ := hrel
    by_cases hlt : k < n'
    · obtain ⟨b, off, rfl, hc⟩ := hrow (by omega)
      obtain ⟨b', off', rfl, hc'⟩ := hrow' (by omega)
      have hc0 := cell_later bw (hc k (by omega)).1
      have hc1 := cell_later bw (hc k (by omega)).2
      have hd0 := cell_later bw (hc' k (by omega)).1
      have hd1 := cell_later bw (hc' k (by omega)).2
      have hki : (k : Int) < (n' : Int) := by omega
      clear hc hc' hrow hrow'
      go_wp2
      go_quiet (fail)
      go_wp2
      go_roundw
      case rel => exact ⟨k + 1, by omega, by go_num, below_drewN bw _⟩
      case measure => simp [intOf]; omega
    · have hlt' : decide ((k : Int) < (n' : Int)) = false := by simp; omega
      go_wp2
      go_ret
      exact ⟨rfl, bw⟩
end Go.Proofs.Ytokjacbipmfjkaa
