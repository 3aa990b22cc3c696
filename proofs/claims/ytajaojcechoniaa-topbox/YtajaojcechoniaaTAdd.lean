/- What tell.Add hands back. No statement of the seat is proved here. -/
import Derived.Test.YtajaojcechoniaaTAdd0
import Derived.Test.YtajaojcechoniaaTAdd1
import Derived.Test.YtajaojcechoniaaTAdd2
import Derived.Test.YtajaojcechoniaaTAdd3
namespace Go.Proofs.Ytajaojcechoniaa
open Go.ChangeShapes Go.WideShapes Go.ChangeAt Go.RowKit Go.Deep

theorem add_fresh (A : Nat → Option Addr) (N C : Nat → Nat) (L : Nat → List Int) (j : Nat) (who what : Int) (lo : Nat) (w : World) (hj : j < 4) (hw : who = (j : Int) + 1) (hB : BoxIs w lo A N C L) (hlo : lo ≤ w.heap.size) (hL : ∀ j, j < 4 → (L j).length ≤ 900) :
    Calls Try.prog 10 #[bx A N C, .agg #[.int .i64 who, .int .i64 what]] w fun e w' => ∃ A' N' C', e = .returned (bx A' N' C') ∧ BoxIs w' lo A' N' C' (upd L j (addL (L j) what)) ∧ Below w.heap.size w w' ∧ Fresh w.heap.size A N A' N' := by
  subst hw
  rcases (by omega : j = 0 ∨ j = 1 ∨ j = 2 ∨ j = 3) with rfl | rfl | rfl | rfl
  · exact add_0 A N C L what lo w hB hlo hL
  · exact add_1 A N C L what lo w hB hlo hL
  · exact add_2 A N C L what lo w hB hlo hL
  · exact add_3 A N C L what lo w hB hlo hL
theorem add_any (A : Nat → Option Addr) (N C : Nat → Nat) (L : Nat → List Int) (j : Nat) (who what : Int) (lo : Nat) (w : World) (hj : j < 4) (hw : who = (j : Int) + 1) (hB : BoxIs w lo A N C L) (hlo : lo ≤ w.heap.size) (hL : ∀ j, j < 4 → (L j).length ≤ 900) :
    Calls Try.prog 10 #[bx A N C, .agg #[.int .i64 who, .int .i64 what]] w fun e w' => ∃ A' N' C', e = .returned (bx A' N' C') ∧ BoxIs w' lo A' N' C' (upd L j (addL (L j) what)) ∧ Below w.heap.size w w' :=
  (add_fresh A N C L j who what lo w hj hw hB hlo hL).mono fun _ _ ⟨A', N', C', h1, h2, h3, _⟩ => ⟨A', N', C', h1, h2, h3⟩
end Go.Proofs.Ytajaojcechoniaa
