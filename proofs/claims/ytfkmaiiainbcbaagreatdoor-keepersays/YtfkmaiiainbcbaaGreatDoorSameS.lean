/- That the document's comparison of states says yes of two equal ones, and that an error is told by its number. -/
import Derived.Test.YtfkmaiiainbcbaaGreatDoorCheck
import Derived.Laws.StructEq
namespace Go.Proofs.YtfkmaiiainbcbaaGreatDoor
open Go.ChangeShapes Go.WideShapes Go.ChangeAt Go.RowKit

theorem neq_reg (x k : Int) (w : World) : (binOp .neq 73 (.agg #[.int .i64 x, .int .i64 k]) (.agg #[.int .i64 x, .int .i64 k])).run Tryz.prog w = .ok (.bool false) w := by
  have u3 := Tryz.underlying3
  have a3 := Tryz.isAgg3
  have z3 := Tryz.sizeOf3
  have hS : Tryz.prog.underlying 73 = some (.struct (Tryz.prog.fieldsOf 73)) := by kernel_rfl
  have hp : Tryz.prog.stoodInHeld 73 = false := by kernel_rfl
  rw [run_neq_struct, show (10000 : Nat) = 9999 + 1 from rfl, run_equalIn_agg w 9999 73 _ _ hS hp]
  simp only [Program.fieldsOf, Tryz.underlying73]
  go_simp

theorem assert_errno (f : Int) (w : World) : (Instr.typeAssert (.iface 58 (.int .i64 f)) 27 58 true).run Tryz.prog w = .ok (.tuple #[.int .i64 f, .bool true]) w := by kernel_rfl

theorem same_any (f : Int) (hf : 0 ≤ f) (w : World) : Calls Tryz.prog 8 #[errV f, .int .i64 f] w fun e w' => e = .returned (.bool true) ∧ w = w' := by
  by_cases h0 : f = 0
  · subst h0
    rw [show errV 0 = .nilIface from rfl]
    go_enter Tryz.func8, Tryz.ntmps8
    go_wp2
    go_ret
    exact ⟨rfl, rfl⟩
  · rw [show errV f = .iface 58 (.int .i64 f) by simp [errV, h0]]
    have hp : 0 < f := by omega
    have hta := assert_errno
    go_enter Tryz.func8, Tryz.ntmps8
    go_wp2
    go_ret
    exact ⟨rfl, rfl⟩

set_option maxHeartbeats 4000000 in
theorem sameState_any (g t h : Int) (a a' : Option Addr) (n n' c c' : Nat) (y : Bool) (l : List (Int × Int)) (w : World) (hr : Row w a n l) (hr' : Row w a' n' l) :
    Calls Tryz.prog 13 #[.agg #[.int .i64 g, .slice a n c, .int .i64 t, .int .i64 h, .bool y], .agg #[.int .i64 g, .slice a' n' c', .int .i64 t, .int .i64 h, .bool y]] w fun e w' => e = .returned (.bool true) ∧ Below w.heap.size w w' := by
  obtain ⟨hl, hn, hrow⟩ := hr
  obtain ⟨hl', hn', hrow'⟩ := hr'
  have hnn : n' = n := by omega
  subst hnn
  have hneq := neq_reg
  have hgd : Tryz.prog.eqGuardType Tryz.prog.depth 73 = false := by kernel_rfl
  go_enter Tryz.func13, Tryz.ntmps13
  go_wp2
  go_loopw [5] (fun i wr => ∃ k : Nat, k ≤ n' ∧ i = .int .i64 k ∧ B5 wr w.heap.size (.int .i64 g) (.slice a n' c) (.int .i64 t) (.int .i64 h) (.bool y) ∧ B5 wr (w.heap.size + 1) (.int .i64 g) (.slice a' n' c') (.int .i64 t) (.int .i64 h) (.bool y) ∧ Below w.heap.size w wr) (fun i _ => n' - (intOf i).toNat)
  case atStart => exact ⟨0, Nat.zero_le _, rfl, by refine ⟨?_, ?_, ?_, ?_, ?_⟩ <;> simp [go_sem], by refine ⟨?_, ?_, ?_, ?_, ?_⟩ <;> simp [go_sem], ((Below.refl _ _).alloc (Nat.le_refl _) _).alloc (by simp) _⟩
  case round =>
    obtain ⟨k, hk, rfl, x1, x2, bw⟩ := hrel
    obtain ⟨b0, b1, b2, b3, b4⟩ := id x1
    obtain ⟨e0, e1, e2, e3, e4⟩ := id x2
    by_cases hlt : k < n'
    · obtain ⟨b, off, rfl, hc⟩ := hrow (by omega)
      obtain ⟨b', off', rfl, hc'⟩ := hrow' (by omega)
      have hc0 := cell_later bw (hc k (by omega)).1
      have hc1 := cell_later bw (hc k (by omega)).2
      have hd0 := cell_later bw (hc' k (by omega)).1
      have hd1 := cell_later bw (hc' k (by omega)).2
      have hki : (k : Int) < (n' : Int) := by omega
      clear hc hc' hrow hrow'
      go_wp2
      go_quiet (fail)
      go_wp2
      go_roundw
      case rel => exact ⟨k + 1, by omega, by go_num, x1.later (below_drewN (Below.refl _ _) _), x2.later (below_drewN (Below.refl _ _) _), below_drewN bw _⟩
      case measure => simp [intOf]; omega
    · have hlt' : decide ((k : Int) < (n' : Int)) = false := by simp; omega
      go_wp2
      go_ret
      exact ⟨rfl, bw⟩
end Go.Proofs.YtfkmaiiainbcbaaGreatDoor
