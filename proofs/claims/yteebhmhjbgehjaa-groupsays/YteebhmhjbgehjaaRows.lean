/-
  No cell of these rows narrows 'for every input' (looked for: loops, veiled, ifaces, maps, wideKeys, modest, calm, conditions, laid).
  DERIVED. THE GIVEN ROWS OF THIS SEAT. 5 by the template 'for every input the law returns true; each argument reads behind the call as it read before'; 0 by the template 'total and deterministic' (their statements: YteebhmhjbgehjaaTotals.lean).
  GIVEN WITH THE SEED: the statements are not yours to turn. If you find one false, say at which input.
  Laid BY PROGRAM, IN A SANDBOX (cutbox-rows.mjs): the forced cells as the released guide's own fill.sh prints them over the translation 4a488ae27357c6b0… (all of the seat's roots in one cut). By AI agents, Wed Nov 11 2026. No macro, syntax, notation, axiom, sorry.
-/
import Derived.Test.YteebhmhjbgehjaaChecked
import GoSem.Claim
import GoSem.ClaimJoined
import GoSem.ClaimMapViews
import Derived.JoinedTies
import Derived.KernelRfl
namespace Go.Proofs.Yteebhmhjbgehjaa
/- THE CELL 'sum', in the pinned program and in every row, IS THE sha256 OF THE DUMP (.gsa) THAT YteebhmhjbgehjaaProg.lean LOADS. Nothing in Lean hashes anything: it is a label: what it is worth is what the hold of that sum in a sandbox is worth. -/
noncomputable def Try.pinned : Pinned := { name := "yteebhmhjbgehjaa", sum := "4a488ae27357c6b015b6fbd83be7a6a728e0413dd1904a1a0d4e5caaf89144ff", checked := Try.checked }
namespace Rows
def none {H : Type} : Left H := { results := [], args := [] }

/-- 'kissinggatetop.TopAdmit': WHATEVER THE INPUT: true; the input reads as it did. -/
def topAdmitSpec : ChangeSpec := { name := "topAdmit", fn := fun _ => fun
  | [d1, d2, d3, d4] => { results := [.lit (.bool true)], args := [d1, d2, d3, d4] }
  | _ => none }
def topAdmitRow : OpenClaim := { program := "yteebhmhjbgehjaa", sum := "4a488ae27357c6b015b6fbd83be7a6a728e0413dd1904a1a0d4e5caaf89144ff", func := "kissinggate/kissinggatetop.TopAdmit", spec := "topAdmit", apart := false }
def TopAdmitSaid : Prop := topAdmitRow.holds Try.pinned (OpenSpec.ofChange topAdmitSpec)

/-- ITS FALSE NEIGHBOUR: 'it returns false'. Refute it at one input. -/
def topAdmitWrong : ChangeSpec := { name := "topAdmit", fn := fun _ => fun
  | [d1, d2, d3, d4] => { results := [.lit (.bool false)], args := [d1, d2, d3, d4] }
  | _ => none }
def TopAdmitWrongFalsely : Prop := topAdmitRow.holds Try.pinned (OpenSpec.ofChange topAdmitWrong)

/-- 'kissinggatelaw.GroupSays': WHATEVER THE INPUT: true; the input reads as it did. -/
def groupSaysSpec : ChangeSpec := { name := "groupSays", fn := fun _ => fun
  | [d] => { results := [.lit (.bool true)], args := [d] }
  | _ => none }
def groupSaysRow : OpenClaim := { program := "yteebhmhjbgehjaa", sum := "4a488ae27357c6b015b6fbd83be7a6a728e0413dd1904a1a0d4e5caaf89144ff", func := "kissinggate/kissinggatelaw.GroupSays", spec := "groupSays", apart := false }
def GroupSaysSaid : Prop := groupSaysRow.holds Try.pinned (OpenSpec.ofChange groupSaysSpec)

/-- ITS FALSE NEIGHBOUR: 'it returns false'. Refute it at one input. -/
def groupSaysWrong : ChangeSpec := { name := "groupSays", fn := fun _ => fun
  | [d] => { results := [.lit (.bool false)], args := [d] }
  | _ => none }
def GroupSaysWrongFalsely : Prop := groupSaysRow.holds Try.pinned (OpenSpec.ofChange groupSaysWrong)

/-- 'kissinggatetop.TopFence': WHATEVER THE INPUT: true; the input reads as it did. -/
def topFenceSpec : ChangeSpec := { name := "topFence", fn := fun _ => fun
  | [d1, d2, d3] => { results := [.lit (.bool true)], args := [d1, d2, d3] }
  | _ => none }
def topFenceRow : OpenClaim := { program := "yteebhmhjbgehjaa", sum := "4a488ae27357c6b015b6fbd83be7a6a728e0413dd1904a1a0d4e5caaf89144ff", func := "kissinggate/kissinggatetop.TopFence", spec := "topFence", apart := false }
def TopFenceSaid : Prop := topFenceRow.holds Try.pinned (OpenSpec.ofChange topFenceSpec)

/-- ITS FALSE NEIGHBOUR: 'it returns false'. Refute it at one input. -/
def topFenceWrong : ChangeSpec := { name := "topFence", fn := fun _ => fun
  | [d1, d2, d3] => { results := [.lit (.bool false)], args := [d1, d2, d3] }
  | _ => none }
def TopFenceWrongFalsely : Prop := topFenceRow.holds Try.pinned (OpenSpec.ofChange topFenceWrong)

/-- 'kissinggatetop.TopMost': WHATEVER THE INPUT: true; the input reads as it did. -/
def topMostSpec : ChangeSpec := { name := "topMost", fn := fun _ => fun
  | [d1, d2, d3, d4] => { results := [.lit (.bool true)], args := [d1, d2, d3, d4] }
  | _ => none }
def topMostRow : OpenClaim := { program := "yteebhmhjbgehjaa", sum := "4a488ae27357c6b015b6fbd83be7a6a728e0413dd1904a1a0d4e5caaf89144ff", func := "kissinggate/kissinggatetop.TopMost", spec := "topMost", apart := false }
def TopMostSaid : Prop := topMostRow.holds Try.pinned (OpenSpec.ofChange topMostSpec)

/-- ITS FALSE NEIGHBOUR: 'it returns false'. Refute it at one input. -/
def topMostWrong : ChangeSpec := { name := "topMost", fn := fun _ => fun
  | [d1, d2, d3, d4] => { results := [.lit (.bool false)], args := [d1, d2, d3, d4] }
  | _ => none }
def TopMostWrongFalsely : Prop := topMostRow.holds Try.pinned (OpenSpec.ofChange topMostWrong)

/-- 'kissinggatetop.TopRead': WHATEVER THE INPUT: true; the input reads as it did. -/
def topReadSpec : ChangeSpec := { name := "topRead", fn := fun _ => fun
  | [d1, d2, d3] => { results := [.lit (.bool true)], args := [d1, d2, d3] }
  | _ => none }
def topReadRow : OpenClaim := { program := "yteebhmhjbgehjaa", sum := "4a488ae27357c6b015b6fbd83be7a6a728e0413dd1904a1a0d4e5caaf89144ff", func := "kissinggate/kissinggatetop.TopRead", spec := "topRead", apart := false }
def TopReadSaid : Prop := topReadRow.holds Try.pinned (OpenSpec.ofChange topReadSpec)

/-- ITS FALSE NEIGHBOUR: 'it returns false'. Refute it at one input. -/
def topReadWrong : ChangeSpec := { name := "topRead", fn := fun _ => fun
  | [d1, d2, d3] => { results := [.lit (.bool false)], args := [d1, d2, d3] }
  | _ => none }
def TopReadWrongFalsely : Prop := topReadRow.holds Try.pinned (OpenSpec.ofChange topReadWrong)

/- THE SECOND FORM. 'bulk': how many values and letters a reading holds, each counted each time it is reached (what is shared counts as often as it is met; a slice's spare places count too). A statement '..UptoSaid' is the law's where the arguments, and the package variables that the reading takes, are together of bulk at most 1048576: NARROWER than '..Said'. Prove '..Said' where nothing that the law and all that it calls make is longer than what came in: it says more and counts as full. Else prove '..UptoSaid'. A law counts once. -/
mutual
def uptoBulk {H : Type} : DataW H → Nat
  | .lit (.string bytes) => bytes.length + 1
  | .lit _ => 1
  | .nil => 1
  | .ptr d => uptoBulk d + 1
  | .slice elems spare => uptoBulkAll elems + uptoBulkAll spare + 1
  | .agg parts => uptoBulkAll parts + 1
  | .iface _ d => uptoBulk d + 1
  | .map entries => uptoBulkEntries entries + 1
  | .held _ => 1
def uptoBulkAll {H : Type} : List (DataW H) → Nat
  | [] => 0
  | d :: r => uptoBulk d + uptoBulkAll r
def uptoBulkEntries {H : Type} : List (Lit × DataW H) → Nat
  | [] => 0
  | x :: r => uptoBulkEntry x + uptoBulkEntries r
def uptoBulkEntry {H : Type} : Lit × DataW H → Nat
  | (.string bytes, d) => bytes.length + uptoBulk d + 1
  | (_, d) => uptoBulk d + 1
 end
def uptoSmall : (H : Type) → List (DataW H) → Bool := fun _ ds => decide (uptoBulkAll ds ≤ 1048576)
def OpenSpec.upto (s : _root_.Go.ChangeSpec) : _root_.Go.OpenSpec := { _root_.Go.OpenSpec.ofChange s with cond := some uptoSmall }

/-- 'kissinggatetop.TopAdmit', WHERE WHAT IT READS IS OF BULK AT MOST 1048576: true; the input reads as it did. -/
def topAdmitUptoRow : OpenClaim := { program := "yteebhmhjbgehjaa", sum := "4a488ae27357c6b015b6fbd83be7a6a728e0413dd1904a1a0d4e5caaf89144ff", func := "kissinggate/kissinggatetop.TopAdmit", spec := "topAdmit", apart := false, narrowed := true }
def TopAdmitUptoSaid : Prop := topAdmitUptoRow.holds Try.pinned (OpenSpec.upto topAdmitSpec)

/-- 'kissinggatelaw.GroupSays', WHERE WHAT IT READS IS OF BULK AT MOST 1048576: true; the input reads as it did. -/
def groupSaysUptoRow : OpenClaim := { program := "yteebhmhjbgehjaa", sum := "4a488ae27357c6b015b6fbd83be7a6a728e0413dd1904a1a0d4e5caaf89144ff", func := "kissinggate/kissinggatelaw.GroupSays", spec := "groupSays", apart := false, narrowed := true }
def GroupSaysUptoSaid : Prop := groupSaysUptoRow.holds Try.pinned (OpenSpec.upto groupSaysSpec)

/-- 'kissinggatetop.TopFence', WHERE WHAT IT READS IS OF BULK AT MOST 1048576: true; the input reads as it did. -/
def topFenceUptoRow : OpenClaim := { program := "yteebhmhjbgehjaa", sum := "4a488ae27357c6b015b6fbd83be7a6a728e0413dd1904a1a0d4e5caaf89144ff", func := "kissinggate/kissinggatetop.TopFence", spec := "topFence", apart := false, narrowed := true }
def TopFenceUptoSaid : Prop := topFenceUptoRow.holds Try.pinned (OpenSpec.upto topFenceSpec)

/-- 'kissinggatetop.TopMost', WHERE WHAT IT READS IS OF BULK AT MOST 1048576: true; the input reads as it did. -/
def topMostUptoRow : OpenClaim := { program := "yteebhmhjbgehjaa", sum := "4a488ae27357c6b015b6fbd83be7a6a728e0413dd1904a1a0d4e5caaf89144ff", func := "kissinggate/kissinggatetop.TopMost", spec := "topMost", apart := false, narrowed := true }
def TopMostUptoSaid : Prop := topMostUptoRow.holds Try.pinned (OpenSpec.upto topMostSpec)

/-- 'kissinggatetop.TopRead', WHERE WHAT IT READS IS OF BULK AT MOST 1048576: true; the input reads as it did. -/
def topReadUptoRow : OpenClaim := { program := "yteebhmhjbgehjaa", sum := "4a488ae27357c6b015b6fbd83be7a6a728e0413dd1904a1a0d4e5caaf89144ff", func := "kissinggate/kissinggatetop.TopRead", spec := "topRead", apart := false, narrowed := true }
def TopReadUptoSaid : Prop := topReadUptoRow.holds Try.pinned (OpenSpec.upto topReadSpec)

end Rows
end Go.Proofs.Yteebhmhjbgehjaa
