/- What the document's own Lessened answers, and that order.Less answers the same. No statement of the seat is proved here. -/
import Derived.Test.YtokjacbipmfjkaaOLess
namespace Go.Proofs.Ytokjacbipmfjkaa
open Go.ChangeShapes Go.WideShapes Go.ChangeAt Go.RowKit Go.Deep

/-- May somebody do less, by the document? -/
def rl (t h : Int) (l : List (Int × Int)) (t' h' : Int) (l' : List (Int × Int)) (who : Int) (wr : Bool) : Bool := rmayB t h l who wr && !rmayB t' h' l' who wr
def RLessP (t h : Int) (l : List (Int × Int)) (t' h' : Int) (l' : List (Int × Int)) : Prop := ∃ k : Nat, k < 4 ∧ ∃ m : Nat, m < 2 ∧ rl t h l t' h' l' ((k : Int) + 1) ((m : Int) == 1) = true
instance (t h : Int) (l : List (Int × Int)) (t' h' : Int) (l' : List (Int × Int)) : Decidable (RLessP t h l t' h' l') := by unfold RLessP; infer_instance
theorem less_iff {g t h : Int} {l : List (Int × Int)} {g' t' h' : Int} {l' : List (Int × Int)} (hf : fault g t h l = 0) (hf' : fault g' t' h' l' = 0) : LessP t h l t' h' l' ↔ RLessP t h l t' h' l' := by
  constructor
  · rintro ⟨k, hk, e⟩
    unfold less1 at e
    rw [may_same hf, may_same hf', may_same hf, may_same hf'] at e
    rcases Bool.or_eq_true_iff.1 e with e | e
    · exact ⟨k, hk, 0, by decide, e⟩
    · exact ⟨k, hk, 1, by decide, e⟩
  · rintro ⟨k, hk, m, hm, e⟩
    refine ⟨k, hk, ?_⟩
    unfold less1
    rw [may_same hf, may_same hf', may_same hf, may_same hf']
    have h01 : m = 0 ∨ m = 1 := by omega
    rcases h01 with rfl | rfl
    · exact Bool.or_eq_true_iff.2 (.inl e)
    · exact Bool.or_eq_true_iff.2 (.inr e)

set_option maxRecDepth 100000 in
set_option maxHeartbeats 8000000 in
theorem lessened_any (g t h : Int) (a : Option Addr) (n c : Nat) (y : Bool) (l : List (Int × Int)) (g' t' h' : Int) (a' : Option Addr) (n' c' : Nat) (y' : Bool) (l' : List (Int × Int)) (w : World) (hr : Row w a n l) (hr' : Row w a' n' l') :
    Calls Try.prog 20 #[stV g a n c t h y, stV g' a' n' c' t' h' y'] w fun e w' => e = .returned (.bool (decide (RLessP t h l t' h' l'))) ∧ Below w.heap.size w w' := by
  obtain ⟨X, hX, bX, sX, S0, T0⟩ := laidStates w g a n c t h y g' a' n' c' t' h' y'
  go_enter Try.func20, Try.ntmps20
  go_wp2_with fail
  rw [← hX]
  clear hX
  go_loopw [5] (fun i wr => ∃ k : Nat, k ≤ 4 ∧ i = .int .i64 ((k : Int) + 1) ∧ Below X.heap.size X wr ∧ Hid (∀ j : Nat, j < k → ∀ m : Nat, m < 2 → rl t h l t' h' l' ((j : Int) + 1) ((m : Int) == 1) = false)) (fun i _ => 5 - (intOf i).toNat)
  case atStart => exact ⟨0, by omega, rfl, Below.refl _ _, fun j hj => absurd hj (Nat.not_lt_zero _)⟩
  case round =>
    obtain ⟨k, hk, rfl, hb, hall⟩ := hrel
    by_cases hlt : k < 4
    · have hki : decide ((k : Int) + 1 ≤ 4) = true := by simp; omega
      go_wp2_with fail
      go_loopw [6] (fun j wj => ∃ m : Nat, m ≤ 2 ∧ j = .int .i64 m ∧ Below X.heap.size X wj ∧ Hid (∀ i : Nat, i < m → rl t h l t' h' l' ((k : Int) + 1) ((i : Int) == 1) = false)) (fun j _ => 2 - (intOf j).toNat)
      case atStart => exact ⟨0, by omega, rfl, hb, fun i hi => absurd hi (Nat.not_lt_zero _)⟩
      case round =>
        clear hb
        obtain ⟨m, hm, rfl, hb, hin⟩ := hrel
        have bw := bX.trans (hb.mono bX.size)
        have S := S0.later hb (by omega)
        have T := T0.later hb (by omega)
        have bx : Hid (Below X.heap.size X wr) := hb
        have hsb := hb.size
        clear hb
        by_cases hm2 : m < 2
        · have hmi : (m : Int) < 2 := by omega
          clear S0 T0
          obtain ⟨⟨c0, c1, c2, c3, c4⟩, _⟩ := S.cells
          obtain ⟨⟨d0, d1, d2, d3, d4⟩, _⟩ := T.cells
          go_wp2_with fail
          clear c0 c1 c2 c3 c4 d0 d1 d2 d3 d4
          refine (rmay_any g t h a n c y l ((k : Int) + 1) ((m : Int) == 1) _ (hr.later bw)).mono ?_
          rintro e w1 ⟨rfl, hbn⟩
          have bw := bw.trans (hbn.mono bw.size)
          have bx : Hid (Below X.heap.size X w1) := bx.out.trans (hbn.mono bx.out.size)
          have hsn := hbn.size
          have S := S.later hbn S.lt
          have T := T.later hbn T.lt
          clear hbn
          cases b1 : rmayB t h l ((k : Int) + 1) ((m : Int) == 1) with
          | false =>
            obtain ⟨⟨c0, c1, c2, c3, c4⟩, _⟩ := S.cells
            obtain ⟨⟨d0, d1, d2, d3, d4⟩, _⟩ := T.cells
            go_wp2_with fail
            clear c0 c1 c2 c3 c4 d0 d1 d2 d3 d4
            refine (rmay_any g' t' h' a' n' c' y' l' ((k : Int) + 1) ((m : Int) == 1) _ (hr'.later bw)).mono ?_
            rintro e w2 ⟨rfl, hbn⟩
            have bw := bw.trans (hbn.mono bw.size)
            have bx : Hid (Below X.heap.size X w2) := bx.out.trans (hbn.mono bx.out.size)
            have hsn := hbn.size
            have S := S.later hbn S.lt
            have T := T.later hbn T.lt
            clear hbn
            have HN : Hid (rl t h l t' h' l' ((k : Int) + 1) ((m : Int) == 1) = false) := by show _ = _; unfold rl; rw [b1]; rfl
            clear S T
            go_wp2
            go_roundw
            case rel => exact ⟨m + 1, by omega, by go_num, bx.out, fun i hi => by
              rcases Nat.lt_or_ge i m with h0 | h0
              · exact hin.out i h0
              · have : i = m := by omega
                subst this
                exact HN.out⟩
            case measure => simp [intOf]; omega
          | true =>
            obtain ⟨⟨c0, c1, c2, c3, c4⟩, _⟩ := S.cells
            obtain ⟨⟨d0, d1, d2, d3, d4⟩, _⟩ := T.cells
            go_wp2_with fail
            clear c0 c1 c2 c3 c4 d0 d1 d2 d3 d4
            refine (rmay_any g' t' h' a' n' c' y' l' ((k : Int) + 1) ((m : Int) == 1) _ (hr'.later bw)).mono ?_
            rintro e w2 ⟨rfl, hbn⟩
            have bw := bw.trans (hbn.mono bw.size)
            have bx : Hid (Below X.heap.size X w2) := bx.out.trans (hbn.mono bx.out.size)
            have hsn := hbn.size
            have S := S.later hbn S.lt
            have T := T.later hbn T.lt
            clear hbn
            cases b2 : rmayB t' h' l' ((k : Int) + 1) ((m : Int) == 1) with
            | true =>
              have HN : Hid (rl t h l t' h' l' ((k : Int) + 1) ((m : Int) == 1) = false) := by show _ = _; unfold rl; rw [b1, b2]; rfl
              clear S T
              go_wp2
              go_roundw
              case rel => exact ⟨m + 1, by omega, by go_num, bx.out, fun i hi => by
                rcases Nat.lt_or_ge i m with h0 | h0
                · exact hin.out i h0
                · have : i = m := by omega
                  subst this
                  exact HN.out⟩
              case measure => simp [intOf]; omega
            | false =>
              have HL : Hid (RLessP t h l t' h' l') := ⟨k, hlt, m, hm2, by unfold rl; rw [b1, b2]; rfl⟩
              clear S T
              go_wp2
              go_ret
              exact ⟨ret_bool (decide_eq_true HL.out).symm, bw⟩
        · have hm' : m = 2 := by omega
          subst hm'
          clear S T S0 T0
          go_wp2
          go_roundw
          case rel => exact ⟨k + 1, by omega, by go_num, bx.out, fun j hj => by
            rcases Nat.lt_or_ge j k with h0 | h0
            · exact hall.out j h0
            · have : j = k := by omega
              subst this
              exact hin.out⟩
          case measure => simp [intOf]; omega
    · have hk4 : k = 4 := by omega
      subst hk4
      have HL : Hid (¬ RLessP t h l t' h' l') := by
        rintro ⟨j, hj, m, hm, e⟩
        rw [hall.out j hj m hm] at e
        cases e
      have bw := bX.trans (hb.mono bX.size)
      clear S0 T0
      go_wp2
      go_ret
      exact ⟨ret_bool (decide_eq_false HL.out).symm, bw⟩
end Go.Proofs.Ytokjacbipmfjkaa
