/- What code.Text answers where the command may not be. -/
import Derived.Test.YthkckogbjdbnnaaDoorCDec
import Derived.Test.YthkckogbjdbnnaaDoorCWord
namespace Go.Proofs.YthkckogbjdbnnaaDoor.K
open Go.ChangeShapes Go.WideShapes Go.ChangeAt Go.RowKit Go.Maps

theorem below_al (w : World) (a : Obj) {w1 : World} (h : Below (w.alloc a).heap.size (w.alloc a) w1) : Below w.heap.size w w1 := by
  have h0 : Below w.heap.size w (w.alloc a) := (Below.refl _ _).alloc (Nat.le_refl _) _
  exact h0.trans (h.mono h0.size)

set_option maxHeartbeats 4000000 in
set_option maxRecDepth 100000 in
theorem text_no (op who key new ty at' : Int) (st : Bool) (d wt : ByteArray) (hop : (Lit.int .i64 op).wf = true) (hd : d.size ≤ 9223372036854775807) (hwt : wt.size ≤ 9223372036854775807) (w : World) (hf : cmdF op who key new ty at' st d wt ≠ 0) :
    Calls Tryd.prog 9 #[cmdA op who key new ty at' st d wt] w fun e w' => e = .returned (.tuple #[.string ⟨#[]⟩, errV (cmdF op who key new ty at' st d wt)]) ∧ Below w.heap.size w w' := by
  have he := errV_no hf
  have HE : Hid _ := he
  clear hf
  go_enter Tryd.func9, Tryd.ntmps9
  go_wp2_with (go_at_call 16; refine (check_any op who key new ty at' st d wt hop hd hwt _).mono ?_; rintro e w1 ⟨rfl, hb1⟩)
  go_ret2
  exact ⟨by rw [HE.out]; rfl, below_al w _ hb1⟩

set_option maxHeartbeats 4000000 in
set_option maxRecDepth 100000 in
/-- The document's CommandText, there. -/
theorem rtext_no (op who key new ty at' : Int) (st : Bool) (d wt : ByteArray) (hd : d.size ≤ 9223372036854775807) (hwt : wt.size ≤ 9223372036854775807) (w : World) (hf : 0 < cmdF op who key new ty at' st d wt) :
    Calls Tryd.prog 10 #[cmdA op who key new ty at' st d wt] w fun e w' => e = .returned (.tuple #[.string ⟨#[]⟩, .int .i64 (cmdF op who key new ty at' st d wt)]) ∧ Below w.heap.size w w' := by
  go_enter Tryd.func10, Tryd.ntmps10
  go_wp2_with (go_at_call 17; refine (fault_any op who key new ty at' st d wt hd hwt _).mono ?_; rintro e w1 ⟨rfl, hb1⟩)
  go_ret2
  exact ⟨rfl, below_al w _ hb1⟩
end Go.Proofs.YthkckogbjdbnnaaDoor.K
