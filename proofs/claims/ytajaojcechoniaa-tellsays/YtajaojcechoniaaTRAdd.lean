/- What the document's own Add leaves. No statement of the seat is proved here. -/
import Derived.Test.YtajaojcechoniaaTRAdd0
import Derived.Test.YtajaojcechoniaaTRAdd1
import Derived.Test.YtajaojcechoniaaTRAdd2
import Derived.Test.YtajaojcechoniaaTRAdd3
namespace Go.Proofs.Ytajaojcechoniaa
open Go.ChangeShapes Go.WideShapes Go.ChangeAt Go.RowKit Go.Deep

theorem radd_any (M : Nat) (A : Nat → Option Addr) (N C : Nat → Nat) (L : Nat → List Int) (j : Nat) (who what : Int) (lo : Nat) (w : World) (hj : j < 4) (hw : who = (j : Int) + 1) (hD : DBox w M A N C) (hB : BoxIs w lo A N C L) (hM : M < lo) (hlo : lo ≤ w.heap.size) (hL : ∀ j, j < 4 → (L j).length ≤ 5) :
    Calls Try.prog 11 #[.pointer (some ⟨M, 0, Option.none⟩), .agg #[.int .i64 who, .int .i64 what]] w fun e w' => ∃ A' N' C', e = .returned (.tuple #[]) ∧ DBox w' M A' N' C' ∧ BoxIs w' lo A' N' C' (upd L j (addL (L j) what)) ∧ Beside M w w' := by
  subst hw
  rcases (by omega : j = 0 ∨ j = 1 ∨ j = 2 ∨ j = 3) with rfl | rfl | rfl | rfl
  · exact radd_0 M A N C L what lo w hD hB hM hlo hL
  · exact radd_1 M A N C L what lo w hD hB hM hlo hL
  · exact radd_2 M A N C L what lo w hD hB hM hlo hL
  · exact radd_3 M A N C L what lo w hD hB hM hlo hL
end Go.Proofs.Ytajaojcechoniaa
