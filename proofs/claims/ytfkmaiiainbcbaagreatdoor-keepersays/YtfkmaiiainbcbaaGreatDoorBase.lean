/- Plain data behind a State of package api: who is known by which key, who holds, who may; and what a row of registrations in memory is. No statement of the seat is proved here. -/
import Derived.Test.YtfkmaiiainbcbaaGreatDoorRows
import Derived.WalkKit
import Derived.WalkSpells
import Derived.WalkLawsBesides
import Derived.ProofKit
import Derived.OpenShut
import Derived.ChangeOld
import Derived.Deep.SlicePairs
import Derived.Deep.Fields
import Derived.Deep.QuietTactic
import Derived.BigQuiet
namespace Go.Proofs.YtfkmaiiainbcbaaGreatDoor
open Go.ChangeShapes Go.WideShapes Go.ChangeAt Go.RowKit

/-- The key by which somebody is known; 0: by none. -/
def keyOf : List (Int × Int) → Int → Int
  | [], _ => 0
  | r :: l, who => if r.1 = who then r.2 else keyOf l who

/-- A row of registrations in memory: 'l' lies from the slice's address on, two cells each. -/
def Row (w : World) (a : Option Addr) (n : Nat) (l : List (Int × Int)) : Prop :=
  l.length = n ∧ n ≤ 9223372036854775807 ∧ (n ≠ 0 → ∃ b off, a = some ⟨b, off, none⟩ ∧ ∀ i (h : i < l.length), w.cell? ⟨b, off + i * 2, none⟩ = some (.int .i64 l[i].1) ∧ w.cell? ⟨b, off + i * 2 + 1, none⟩ = some (.int .i64 l[i].2))

theorem Row.later {w w' : World} {a : Option Addr} {n : Nat} {l : List (Int × Int)} (h : Row w a n l) (hb : Below w.heap.size w w') : Row w' a n l := by
  refine ⟨h.1, h.2.1, fun hn => ?_⟩
  obtain ⟨b, off, ha, hc⟩ := h.2.2 hn
  exact ⟨b, off, ha, fun i hi => ⟨cell_later hb (hc i hi).1, cell_later hb (hc i hi).2⟩⟩

theorem keyOf_drop (l : List (Int × Int)) (who : Int) (k : Nat) (h : k < l.length) : keyOf (l.drop k) who = if l[k].1 = who then l[k].2 else keyOf (l.drop (k + 1)) who := by
  rw [List.drop_eq_getElem_cons h]; rfl

theorem ret_int {k : IntKind} {a b : Int} (h : a = b) : Ending.returned (.int k a) = .returned (.int k b) := by rw [h]
theorem ret_bool {a b : Bool} (h : a = b) : Ending.returned (.bool a) = .returned (.bool b) := by rw [h]
end Go.Proofs.YtfkmaiiainbcbaaGreatDoor
