/- What tell.Take hands back. No statement of the seat is proved here. -/
import Derived.Test.YtajaojcechoniaaTTake0
import Derived.Test.YtajaojcechoniaaTTake1
import Derived.Test.YtajaojcechoniaaTTake2
import Derived.Test.YtajaojcechoniaaTTake3
namespace Go.Proofs.Ytajaojcechoniaa
open Go.ChangeShapes Go.WideShapes Go.ChangeAt Go.RowKit Go.Deep

theorem take_any (A : Nat → Option Addr) (N C : Nat → Nat) (L : Nat → List Int) (j : Nat) (who : Int) (lo : Nat) (w : World) (hj : j < 4) (hw : who = (j : Int) + 1) (hB : BoxIs w lo A N C L) (hlo : lo ≤ w.heap.size) (hL : ∀ j, j < 4 → (L j).length ≤ 900) :
    Calls Try.prog 6 #[bx A N C, .int .i64 who] w fun e w' => ∃ A' N' C', e = .returned (.tuple #[bx A' N' C', .int .i64 (headL (L j))]) ∧ BoxIs w' lo A' N' C' (upd L j (L j).tail) ∧ Below w.heap.size w w' := by
  subst hw
  rcases (by omega : j = 0 ∨ j = 1 ∨ j = 2 ∨ j = 3) with rfl | rfl | rfl | rfl
  · exact take_0 A N C L lo w hB hlo hL
  · exact take_1 A N C L lo w hB hlo hL
  · exact take_2 A N C L lo w hB hlo hL
  · exact take_3 A N C L lo w hB hlo hL
end Go.Proofs.Ytajaojcechoniaa
