/- What order.Less answers, asked with rights.May, and what the document's own Lessened does. No statement of the seat is proved here. -/
import Derived.Test.YtokjacbipmfjkaaODo
import Derived.Test.YtokjacbipmfjkaaFacts
namespace Go.Proofs.Ytokjacbipmfjkaa
open Go.ChangeShapes Go.WideShapes Go.ChangeAt Go.RowKit Go.Deep

/-- May somebody do less? -/
def less1 (t h : Int) (l : List (Int × Int)) (t' h' : Int) (l' : List (Int × Int)) (who : Int) : Bool :=
  (mayB t h l who false && !mayB t' h' l' who false) || (mayB t h l who true && !mayB t' h' l' who true)
/-- May anybody do less? -/
def LessP (t h : Int) (l : List (Int × Int)) (t' h' : Int) (l' : List (Int × Int)) : Prop := ∃ k : Nat, k < 4 ∧ less1 t h l t' h' l' (k + 1) = true
instance (t h : Int) (l : List (Int × Int)) (t' h' : Int) (l' : List (Int × Int)) : Decidable (LessP t h l t' h' l') := by unfold LessP; infer_instance
/-- The two blocks that a function of two states lays first. -/
theorem laidStates (w : World) (g : Int) (a : Option Addr) (n c : Nat) (t h : Int) (y : Bool) (g' : Int) (a' : Option Addr) (n' c' : Nat) (t' h' : Int) (y' : Bool) :
    ∃ X, X = (w.alloc (.cells #[.int .i64 g, .slice a n c, .int .i64 t, .int .i64 h, .bool y] 24)).alloc (.cells #[.int .i64 g', .slice a' n' c', .int .i64 t', .int .i64 h', .bool y'] 24) ∧
      Below w.heap.size w X ∧ X.heap.size = w.heap.size + 2 ∧ StB X w.heap.size g a n c t h y ∧ StB X (w.heap.size + 1) g' a' n' c' t' h' y' := by
  refine ⟨_, rfl, ((Below.refl _ _).alloc (Nat.le_refl _) _).alloc (by simp) _, by simp, ?_, ?_⟩
  · unfold StB; rw [Below.heap_alloc _ _ _ (by simp)]; exact heap_alloc_new w _
  · unfold StB; simpa using heap_alloc_new (w.alloc (.cells #[.int .i64 g, .slice a n c, .int .i64 t, .int .i64 h, .bool y] 24)) (.cells #[.int .i64 g', .slice a' n' c', .int .i64 t', .int .i64 h', .bool y'] 24)

set_option maxRecDepth 100000 in
set_option maxHeartbeats 8000000 in
theorem less_any (g t h : Int) (a : Option Addr) (n c : Nat) (y : Bool) (l : List (Int × Int)) (g' t' h' : Int) (a' : Option Addr) (n' c' : Nat) (y' : Bool) (l' : List (Int × Int)) (w : World) (hr : Row w a n l) (hr' : Row w a' n' l') :
    Calls Try.prog 18 #[stV g a n c t h y, stV g' a' n' c' t' h' y', .func (.func 19) #[] #[]] w fun e w' => e = .returned (.bool (decide (LessP t h l t' h' l'))) ∧ Below w.heap.size w w' := by
  obtain ⟨X, hX, bX, sX, S0, T0⟩ := laidStates w g a n c t h y g' a' n' c' t' h' y'
  have qf : ∀ W : World, (binOp .eql 43 (.func (.func 19) #[] #[]) .nilFunc).run Try.prog W = .ok (.bool false) W := fun W => by kernel_rfl
  go_enter Try.func18, Try.ntmps18
  go_wp2_with fail
  rw [← hX]
  clear hX
  go_loopw [11] (fun i wr => ∃ k : Nat, k ≤ 4 ∧ i = .int .i64 k ∧ Below X.heap.size X wr ∧ Hid (∀ j : Nat, j < k → less1 t h l t' h' l' ((j : Int) + 1) = false)) (fun i _ => 4 - (intOf i).toNat)
  case atStart => exact ⟨0, by omega, rfl, Below.refl _ _, fun j hj => absurd hj (Nat.not_lt_zero _)⟩
  case round =>
    obtain ⟨k, hk, rfl, hb, hall⟩ := hrel
    have bw := bX.trans (hb.mono bX.size)
    have S := S0.later hb (by omega)
    have T := T0.later hb (by omega)
    have hsb := hb.size
    have bx : Hid (Below X.heap.size X wr) := hb
    clear hb
    by_cases hlt : k < 4
    · have hki : (k : Int) < 4 := by omega
      clear S0 T0
      obtain ⟨⟨c0, c1, c2, c3, c4⟩, _⟩ := S.cells
      obtain ⟨⟨d0, d1, d2, d3, d4⟩, _⟩ := T.cells
      go_wp2_with fail
      clear c0 c1 c2 c3 c4 d0 d1 d2 d3 d4
      refine (may_any g t h a n c y l ((k : Int) + 1) false _ (hr.later bw)).mono ?_
      rintro e w1 ⟨rfl, hbn⟩
      have bw := bw.trans (hbn.mono bw.size)
      have bx : Hid (Below X.heap.size X w1) := bx.out.trans (hbn.mono bx.out.size)
      have hsn := hbn.size
      have S := S.later hbn S.lt
      have T := T.later hbn T.lt
      clear hbn
      cases b1 : mayB t h l ((k : Int) + 1) false with
      | false =>
        obtain ⟨⟨c0, c1, c2, c3, c4⟩, _⟩ := S.cells
        obtain ⟨⟨d0, d1, d2, d3, d4⟩, _⟩ := T.cells
        go_wp2_with fail
        clear c0 c1 c2 c3 c4 d0 d1 d2 d3 d4
        refine (may_any g t h a n c y l ((k : Int) + 1) true _ (hr.later bw)).mono ?_
        rintro e w3 ⟨rfl, hbn⟩
        have bw := bw.trans (hbn.mono bw.size)
        have bx : Hid (Below X.heap.size X w3) := bx.out.trans (hbn.mono bx.out.size)
        have hsn := hbn.size
        have S := S.later hbn S.lt
        have T := T.later hbn T.lt
        clear hbn
        cases b3 : mayB t h l ((k : Int) + 1) true with
        | false =>
          have HN : Hid (less1 t h l t' h' l' ((k : Int) + 1) = false) := by show _ = _; unfold less1; rw [b1, b3]; simp
          clear S T
          go_wp2
          go_roundw
          case rel => exact ⟨k + 1, by omega, by go_num, bx.out, fun j hj => by
            rcases Nat.lt_or_ge j k with h0 | h0
            · exact hall.out j h0
            · have : j = k := by omega
              subst this
              exact HN.out⟩
          case measure => simp [intOf]; omega
        | true =>
          obtain ⟨⟨c0, c1, c2, c3, c4⟩, _⟩ := S.cells
          obtain ⟨⟨d0, d1, d2, d3, d4⟩, _⟩ := T.cells
          go_wp2_with fail
          clear c0 c1 c2 c3 c4 d0 d1 d2 d3 d4
          refine (may_any g' t' h' a' n' c' y' l' ((k : Int) + 1) true _ (hr'.later bw)).mono ?_
          rintro e w4 ⟨rfl, hbn⟩
          have bw := bw.trans (hbn.mono bw.size)
          have bx : Hid (Below X.heap.size X w4) := bx.out.trans (hbn.mono bx.out.size)
          have hsn := hbn.size
          have S := S.later hbn S.lt
          have T := T.later hbn T.lt
          clear hbn
          cases b4 : mayB t' h' l' ((k : Int) + 1) true with
          | true =>
            have HN : Hid (less1 t h l t' h' l' ((k : Int) + 1) = false) := by show _ = _; unfold less1; rw [b1, b3, b4]; simp
            clear S T
            go_wp2
            go_roundw
            case rel => exact ⟨k + 1, by omega, by go_num, bx.out, fun j hj => by
              rcases Nat.lt_or_ge j k with h0 | h0
              · exact hall.out j h0
              · have : j = k := by omega
                subst this
                exact HN.out⟩
            case measure => simp [intOf]; omega
          | false =>
            have HL : Hid (LessP t h l t' h' l') := ⟨k, by omega, by unfold less1; rw [b1, b3, b4]; simp⟩
            clear S T
            go_wp2
            go_ret
            exact ⟨ret_bool (by simpa using HL.out), bw⟩
      | true =>
        obtain ⟨⟨c0, c1, c2, c3, c4⟩, _⟩ := S.cells
        obtain ⟨⟨d0, d1, d2, d3, d4⟩, _⟩ := T.cells
        go_wp2_with fail
        clear c0 c1 c2 c3 c4 d0 d1 d2 d3 d4
        refine (may_any g' t' h' a' n' c' y' l' ((k : Int) + 1) false _ (hr'.later bw)).mono ?_
        rintro e w2 ⟨rfl, hbn⟩
        have bw := bw.trans (hbn.mono bw.size)
        have bx : Hid (Below X.heap.size X w2) := bx.out.trans (hbn.mono bx.out.size)
        have hsn := hbn.size
        have S := S.later hbn S.lt
        have T := T.later hbn T.lt
        clear hbn
        cases b2 : mayB t' h' l' ((k : Int) + 1) false with
        | false =>
          have HL : Hid (LessP t h l t' h' l') := ⟨k, by omega, by unfold less1; rw [b1, b2]; simp⟩
          clear S T
          go_wp2
          go_ret
          exact ⟨ret_bool (by simpa using HL.out), bw⟩
        | true =>
          obtain ⟨⟨c0, c1, c2, c3, c4⟩, _⟩ := S.cells
          obtain ⟨⟨d0, d1, d2, d3, d4⟩, _⟩ := T.cells
          go_wp2_with fail
          clear c0 c1 c2 c3 c4 d0 d1 d2 d3 d4
          refine (may_any g t h a n c y l ((k : Int) + 1) true _ (hr.later bw)).mono ?_
          rintro e w3 ⟨rfl, hbn⟩
          have bw := bw.trans (hbn.mono bw.size)
          have bx : Hid (Below X.heap.size X w3) := bx.out.trans (hbn.mono bx.out.size)
          have hsn := hbn.size
          have S := S.later hbn S.lt
          have T := T.later hbn T.lt
          clear hbn
          cases b3 : mayB t h l ((k : Int) + 1) true with
          | false =>
            have HN : Hid (less1 t h l t' h' l' ((k : Int) + 1) = false) := by show _ = _; unfold less1; rw [b1, b2, b3]; simp
            clear S T
            go_wp2
            go_roundw
            case rel => exact ⟨k + 1, by omega, by go_num, bx.out, fun j hj => by
              rcases Nat.lt_or_ge j k with h0 | h0
              · exact hall.out j h0
              · have : j = k := by omega
                subst this
                exact HN.out⟩
            case measure => simp [intOf]; omega
          | true =>
            obtain ⟨⟨c0, c1, c2, c3, c4⟩, _⟩ := S.cells
            obtain ⟨⟨d0, d1, d2, d3, d4⟩, _⟩ := T.cells
            go_wp2_with fail
            clear c0 c1 c2 c3 c4 d0 d1 d2 d3 d4
            refine (may_any g' t' h' a' n' c' y' l' ((k : Int) + 1) true _ (hr'.later bw)).mono ?_
            rintro e w4 ⟨rfl, hbn⟩
            have bw := bw.trans (hbn.mono bw.size)
            have bx : Hid (Below X.heap.size X w4) := bx.out.trans (hbn.mono bx.out.size)
            have hsn := hbn.size
            have S := S.later hbn S.lt
            have T := T.later hbn T.lt
            clear hbn
            cases b4 : mayB t' h' l' ((k : Int) + 1) true with
            | true =>
              have HN : Hid (less1 t h l t' h' l' ((k : Int) + 1) = false) := by show _ = _; unfold less1; rw [b1, b2, b3, b4]; simp
              clear S T
              go_wp2
              go_roundw
              case rel => exact ⟨k + 1, by omega, by go_num, bx.out, fun j hj => by
                rcases Nat.lt_or_ge j k with h0 | h0
                · exact hall.out j h0
                · have : j = k := by omega
                  subst this
                  exact HN.out⟩
              case measure => simp [intOf]; omega
            | false =>
              have HL : Hid (LessP t h l t' h' l') := ⟨k, by omega, by unfold less1; rw [b1, b2, b3, b4]; simp⟩
              clear S T
              go_wp2
              go_ret
              exact ⟨ret_bool (by simpa using HL.out), bw⟩
    · have hk4 : k = 4 := by omega
      subst hk4
      have HL : Hid (¬ LessP t h l t' h' l') := by
        rintro ⟨j, hj, e⟩
        rw [hall.out j hj] at e
        cases e
      clear S T S0 T0
      go_wp2
      go_ret
      exact ⟨ret_bool (by simpa using HL.out), bw⟩
end Go.Proofs.Ytokjacbipmfjkaa
