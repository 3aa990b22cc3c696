/- Worlds later than one, as a class: for regions that draw their order and only read. No statement of the seat is proved here. -/
import Derived.Test.YthkckogbjdbnnaaDoorNumsSame
namespace Go.Proofs.YthkckogbjdbnnaaDoor
open Go.ChangeShapes Go.WideShapes Go.ChangeAt Go.RowKit

/-- A world that is later than w. -/
structure LW (w : World) where
  val : World
  ok : Below w.heap.size w val
theorem Calls.quiet_lw {P : Program} {f : FuncId} {args : Array Value} {wr : World} {p : LW wr} {v : Value} (h : Calls P f args p.val fun e w' => e = .returned v ∧ Below p.val.heap.size p.val w') : Calls P f args p.val fun e w'' => e = .returned v ∧ ∃ q : LW wr, w'' = q.val :=
  h.mono fun _ w' ⟨he, hb⟩ => ⟨he, ⟨w', p.ok.trans (hb.mono p.ok.size)⟩, rfl⟩
theorem wp_region_lw {P : Program} {id : Nat} {Q : Exit → Act → World → Prop} {a : Act} {w : World} {l : List Oper} (hm : P.follows .mixedOrders = true) (hB : Region.lexB .any l.toArray = true)
    (h : wpQuiet P l.toArray (fun w' => ∃ p : LW w, w' = p.val) (fun a' => ∀ w', (∃ p : LW w, w' = p.val) → Q .normal a' w') l a) : (Code.region id l.toArray true).wp P Q a w :=
  wp_region_quiet (C := fun w' => ∃ p : LW w, w' = p.val) hm hB ⟨⟨w.drew, (Below.refl _ _).drew⟩, rfl⟩ (by simpa using h)
end Go.Proofs.YthkckogbjdbnnaaDoor
