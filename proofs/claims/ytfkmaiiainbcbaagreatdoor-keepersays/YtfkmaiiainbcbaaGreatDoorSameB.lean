/- That the document's comparison of states answers, whatever the two are. No statement of the seat is proved here. -/
import Derived.Test.YtfkmaiiainbcbaaGreatDoorSameS
namespace Go.Proofs.YtfkmaiiainbcbaaGreatDoor
open Go.ChangeShapes Go.WideShapes Go.ChangeAt Go.RowKit

def regNe (x k x' k' : Int) : Bool := !(x == x' && k == k')
theorem neq_reg2 (x k x' k' : Int) (w : World) : (binOp .neq 73 (.agg #[.int .i64 x, .int .i64 k]) (.agg #[.int .i64 x', .int .i64 k'])).run Tryz.prog w = .ok (.bool (regNe x k x' k')) w := by
  have u3 := Tryz.underlying3
  have a3 := Tryz.isAgg3
  have z3 := Tryz.sizeOf3
  have hS : Tryz.prog.underlying 73 = some (.struct (Tryz.prog.fieldsOf 73)) := by kernel_rfl
  have hp : Tryz.prog.stoodInHeld 73 = false := by kernel_rfl
  rw [run_neq_struct, show (10000 : Nat) = 9999 + 1 from rfl, run_equalIn_agg w 9999 73 _ _ hS hp]
  simp only [Program.fieldsOf, Tryz.underlying73]
  unfold regNe
  by_cases hx : x = x'
  · by_cases hk : k = k'
    · subst hx hk
      go_simp
    · have hk' : (k == k') = false := by simpa using hk
      subst hx
      go_simp
  · have hx' : (x == x') = false := by simpa using hx
    go_simp
set_option maxHeartbeats 8000000 in
set_option maxRecDepth 100000 in
theorem sameB_any (g t h g2 t2 h2 : Int) (a a' : Option Addr) (n n' c c' : Nat) (y y2 : Bool) (l l' : List (Int × Int)) (w : World) (hr : Row w a n l) (hr' : Row w a' n' l') :
    Calls Tryz.prog 13 #[.agg #[.int .i64 g, .slice a n c, .int .i64 t, .int .i64 h, .bool y], .agg #[.int .i64 g2, .slice a' n' c', .int .i64 t2, .int .i64 h2, .bool y2]] w fun e w' => (∃ b, e = .returned (.bool b)) ∧ Below w.heap.size w w' := by
  obtain ⟨hl, hn, hrow⟩ := hr
  obtain ⟨hl', hn', hrow'⟩ := hr'
  have hb2 : ∀ x y, Below w.heap.size w ((w.alloc x).alloc y) := fun x y => ((Below.refl _ _).alloc (Nat.le_refl _) _).alloc (by simp) _
  by_cases q1 : g = g2
  case neg =>
    have q1' : (g == g2) = false := by simpa using q1
    go_enter Tryz.func13, Tryz.ntmps13
    go_wp2
    go_ret
    exact ⟨⟨_, rfl⟩, hb2 _ _⟩
  subst q1
  by_cases q2 : t = t2
  case neg =>
    have q2' : (t == t2) = false := by simpa using q2
    go_enter Tryz.func13, Tryz.ntmps13
    go_wp2
    go_ret
    exact ⟨⟨_, rfl⟩, hb2 _ _⟩
  subst q2
  by_cases q3 : h = h2
  case neg =>
    have q3' : (h == h2) = false := by simpa using q3
    go_enter Tryz.func13, Tryz.ntmps13
    go_wp2
    go_ret
    exact ⟨⟨_, rfl⟩, hb2 _ _⟩
  subst q3
  by_cases q4 : y = y2
  case neg =>
    have q4' : (y == y2) = false := by simpa using q4
    go_enter Tryz.func13, Tryz.ntmps13
    go_wp2
    go_ret
    exact ⟨⟨_, rfl⟩, hb2 _ _⟩
  subst q4
  by_cases q5 : n = n'
  case neg =>
    have q5' : ((n : Int) == (n' : Int)) = false := by simp; omega
    go_enter Tryz.func13, Tryz.ntmps13
    go_wp2
    go_ret
    exact ⟨⟨_, rfl⟩, hb2 _ _⟩
  subst q5
  clear hb2
  have hneq := neq_reg2
  have hgd : Tryz.prog.eqGuardType Tryz.prog.depth 73 = false := by kernel_rfl
  go_enter Tryz.func13, Tryz.ntmps13
  go_wp2
  go_loopw [5] (fun i wr => ∃ k : Nat, k ≤ n ∧ i = .int .i64 k ∧ B5 wr w.heap.size (.int .i64 g) (.slice a n c) (.int .i64 t) (.int .i64 h) (.bool y) ∧ B5 wr (w.heap.size + 1) (.int .i64 g) (.slice a' n c') (.int .i64 t) (.int .i64 h) (.bool y) ∧ Below w.heap.size w wr) (fun i _ => n - (intOf i).toNat)
  case atStart => exact ⟨0, Nat.zero_le _, rfl, by refine ⟨?_, ?_, ?_, ?_, ?_⟩ <;> simp [go_sem], by refine ⟨?_, ?_, ?_, ?_, ?_⟩ <;> simp [go_sem], ((Below.refl _ _).alloc (Nat.le_refl _) _).alloc (by simp) _⟩
  case round =>
    obtain ⟨k, hk, rfl, x1, x2, bw⟩ := hrel
    obtain ⟨b0, b1, b2, b3, b4⟩ := id x1
    obtain ⟨e0, e1, e2, e3, e4⟩ := id x2
    by_cases hlt : k < n
    · obtain ⟨b, off, rfl, hc⟩ := hrow (by omega)
      obtain ⟨b', off', rfl, hc'⟩ := hrow' (by omega)
      obtain ⟨u0, u1, hu0, hu1⟩ : ∃ u0 u1, wr.cell? ⟨b, off + k * 2, Option.none⟩ = some (.int .i64 u0) ∧ wr.cell? ⟨b, off + k * 2 + 1, Option.none⟩ = some (.int .i64 u1) := ⟨_, _, cell_later bw (hc k (by omega)).1, cell_later bw (hc k (by omega)).2⟩
      obtain ⟨v0, v1, hv0, hv1⟩ : ∃ u0 u1, wr.cell? ⟨b', off' + k * 2, Option.none⟩ = some (.int .i64 u0) ∧ wr.cell? ⟨b', off' + k * 2 + 1, Option.none⟩ = some (.int .i64 u1) := ⟨_, _, cell_later bw (hc' k (by omega)).1, cell_later bw (hc' k (by omega)).2⟩
      have hki : (k : Int) < (n : Int) := by omega
      clear hc hc' hrow hrow'
      cases hq : regNe u0 u1 v0 v1
      · go_wp2
        go_quiet (fail)
        go_wp2
        go_roundw
        case rel => exact ⟨k + 1, by omega, by go_num, x1.later (below_drewN (Below.refl _ _) _), x2.later (below_drewN (Below.refl _ _) _), below_drewN bw _⟩
        case measure => simp [intOf]; omega
      · go_wp2
        go_quiet (fail)
        go_wp2
        go_ret
        exact ⟨⟨_, rfl⟩, below_drewN bw _⟩
    · have hlt' : decide ((k : Int) < (n : Int)) = false := by simp; omega
      go_wp2
      go_ret
      exact ⟨⟨_, rfl⟩, bw⟩
end Go.Proofs.YtfkmaiiainbcbaaGreatDoor
