/- What the document's own CommandFault answers, for every command. -/
import Derived.Test.YthkckogbjdbnnaaDoorCFaultA
import Derived.Test.YthkckogbjdbnnaaDoorCFaultB
import Derived.Test.YthkckogbjdbnnaaDoorCFaultC
namespace Go.Proofs.YthkckogbjdbnnaaDoor.K
open Go.ChangeShapes Go.WideShapes Go.ChangeAt Go.RowKit Go.Maps

set_option maxHeartbeats 4000000 in
set_option maxRecDepth 100000 in
theorem fault_any (op who key new ty at' : Int) (st : Bool) (d wt : ByteArray) (hd : d.size ≤ 9223372036854775807) (hwt : wt.size ≤ 9223372036854775807) (w : World) :
    Calls Tryd.prog 17 #[cmdA op who key new ty at' st d wt] w fun e w' => e = .returned (.int .i64 (cmdF op who key new ty at' st d wt)) ∧ Below w.heap.size w w' := by
  by_cases ho : 1 ≤ op ∧ op ≤ 9
  · have : op = 1 ∨ op = 2 ∨ op = 3 ∨ op = 4 ∨ op = 5 ∨ op = 6 ∨ op = 7 ∨ op = 8 ∨ op = 9 := by omega
    rcases this with rfl | rfl | rfl | rfl | rfl | rfl | rfl | rfl | rfl
    · exact fault_1 who key new ty at' st d wt hd hwt w
    · exact fault_2 who key new ty at' st d wt hd hwt w
    · exact fault_3 who key new ty at' st d wt hd hwt w
    · exact fault_4 who key new ty at' st d wt hd hwt w
    · exact fault_5 who key new ty at' st d wt hd hwt w
    · exact fault_6 who key new ty at' st d wt hd hwt w
    · exact fault_7 who key new ty at' st d wt hd hwt w
    · exact fault_8 who key new ty at' st d wt hd hwt w
    · exact fault_9 who key new ty at' st d wt hd hwt w
  · have HF : Hid (cmdF op who key new ty at' st d wt = 2) := cmdF_op ho
    by_cases h1 : op < 1
    · clear ho
      go_enter Tryd.func17, Tryd.ntmps17
      go_wp2
      go_ret
      exact ⟨by rw [HF.out]; rfl, (Below.refl _ _).alloc (Nat.le_refl _) _⟩
    · have h1' : decide (op < 1) = false := by simpa using h1
      have h9 : 9 < op := by omega
      clear ho
      go_enter Tryd.func17, Tryd.ntmps17
      go_wp2
      go_ret
      exact ⟨by rw [HF.out]; rfl, (Below.refl _ _).alloc (Nat.le_refl _) _⟩
end Go.Proofs.YthkckogbjdbnnaaDoor.K
