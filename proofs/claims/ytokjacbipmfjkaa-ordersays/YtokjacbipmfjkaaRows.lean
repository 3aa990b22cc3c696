/-
  No cell of these rows narrows 'for every input' (looked for: loops, veiled, ifaces, maps, wideKeys, modest, calm, conditions, laid).
  DERIVED. THE GIVEN ROWS OF THIS SEAT. 5 by the template 'for every input the law returns true; each argument reads behind the call as it read before'; 0 by the template 'total and deterministic' (their statements: YtokjacbipmfjkaaTotals.lean).
  GIVEN WITH THE SEED: the statements are not yours to turn. If you find one false, say at which input.
  Laid BY PROGRAM, IN A SANDBOX (cutbox-rows.mjs): the forced cells as the released guide's own fill.sh prints them over the translation 6b0c8169d71778c8… (all of the seat's roots in one cut). By AI agents, Wed Nov 11 2026. No macro, syntax, notation, axiom, sorry.
-/
import Derived.Test.YtokjacbipmfjkaaChecked
import GoSem.Claim
import GoSem.ClaimJoined
import GoSem.ClaimMapViews
import Derived.JoinedTies
import Derived.KernelRfl
namespace Go.Proofs.Ytokjacbipmfjkaa
/- THE CELL 'sum', in the pinned program and in every row, IS THE sha256 OF THE DUMP (.gsa) THAT YtokjacbipmfjkaaProg.lean LOADS. Nothing in Lean hashes anything: it is a label: what it is worth is what the hold of that sum in a sandbox is worth. -/
noncomputable def Try.pinned : Pinned := { name := "ytokjacbipmfjkaa", sum := "6b0c8169d71778c8954872633824022847dd5570878691d8a05e11d6bbb71c02", checked := Try.checked }
namespace Rows
def none {H : Type} : Left H := { results := [], args := [] }

/-- 'kissinggatelaw.OrderSays': WHATEVER THE INPUT: true; the input reads as it did. -/
def orderSaysSpec : ChangeSpec := { name := "orderSays", fn := fun _ => fun
  | [d1, d2, d3] => { results := [.lit (.bool true)], args := [d1, d2, d3] }
  | _ => none }
def orderSaysRow : OpenClaim := { program := "ytokjacbipmfjkaa", sum := "6b0c8169d71778c8954872633824022847dd5570878691d8a05e11d6bbb71c02", func := "kissinggate/kissinggatelaw.OrderSays", spec := "orderSays", inPlace := ["slices.overlaps[kissinggate/api.Reg]"], unfollowed := true, recurses := true, apart := false }
def OrderSaysSaid : Prop := orderSaysRow.holds Try.pinned (OpenSpec.ofChange orderSaysSpec)

/-- ITS FALSE NEIGHBOUR: 'it returns false'. Refute it at one input. -/
def orderSaysWrong : ChangeSpec := { name := "orderSays", fn := fun _ => fun
  | [d1, d2, d3] => { results := [.lit (.bool false)], args := [d1, d2, d3] }
  | _ => none }
def OrderSaysWrongFalsely : Prop := orderSaysRow.holds Try.pinned (OpenSpec.ofChange orderSaysWrong)

/-- 'kissinggatetop.TopOrder': WHATEVER THE INPUT: true; the input reads as it did. -/
def topOrderSpec : ChangeSpec := { name := "topOrder", fn := fun _ => fun
  | [d1, d2] => { results := [.lit (.bool true)], args := [d1, d2] }
  | _ => none }
def topOrderRow : OpenClaim := { program := "ytokjacbipmfjkaa", sum := "6b0c8169d71778c8954872633824022847dd5570878691d8a05e11d6bbb71c02", func := "kissinggate/kissinggatetop.TopOrder", spec := "topOrder", inPlace := ["slices.overlaps[kissinggate/api.Reg]"], unfollowed := true, recurses := true, apart := false }
def TopOrderSaid : Prop := topOrderRow.holds Try.pinned (OpenSpec.ofChange topOrderSpec)

/-- ITS FALSE NEIGHBOUR: 'it returns false'. Refute it at one input. -/
def topOrderWrong : ChangeSpec := { name := "topOrder", fn := fun _ => fun
  | [d1, d2] => { results := [.lit (.bool false)], args := [d1, d2] }
  | _ => none }
def TopOrderWrongFalsely : Prop := topOrderRow.holds Try.pinned (OpenSpec.ofChange topOrderWrong)

/-- 'kissinggatetop.TopOut': WHATEVER THE INPUT: true; the input reads as it did. -/
def topOutSpec : ChangeSpec := { name := "topOut", fn := fun _ => fun
  | [d1, d2] => { results := [.lit (.bool true)], args := [d1, d2] }
  | _ => none }
def topOutRow : OpenClaim := { program := "ytokjacbipmfjkaa", sum := "6b0c8169d71778c8954872633824022847dd5570878691d8a05e11d6bbb71c02", func := "kissinggate/kissinggatetop.TopOut", spec := "topOut", inPlace := ["slices.overlaps[kissinggate/api.Reg]"], unfollowed := true, recurses := true, apart := false }
def TopOutSaid : Prop := topOutRow.holds Try.pinned (OpenSpec.ofChange topOutSpec)

/-- ITS FALSE NEIGHBOUR: 'it returns false'. Refute it at one input. -/
def topOutWrong : ChangeSpec := { name := "topOut", fn := fun _ => fun
  | [d1, d2] => { results := [.lit (.bool false)], args := [d1, d2] }
  | _ => none }
def TopOutWrongFalsely : Prop := topOutRow.holds Try.pinned (OpenSpec.ofChange topOutWrong)

/-- 'kissinggatetop.TopTold': WHATEVER THE INPUT: true; the input reads as it did. -/
def topToldSpec : ChangeSpec := { name := "topTold", fn := fun _ => fun
  | [d1, d2] => { results := [.lit (.bool true)], args := [d1, d2] }
  | _ => none }
def topToldRow : OpenClaim := { program := "ytokjacbipmfjkaa", sum := "6b0c8169d71778c8954872633824022847dd5570878691d8a05e11d6bbb71c02", func := "kissinggate/kissinggatetop.TopTold", spec := "topTold", inPlace := ["slices.overlaps[kissinggate/api.Reg]"], unfollowed := true, recurses := true, apart := false }
def TopToldSaid : Prop := topToldRow.holds Try.pinned (OpenSpec.ofChange topToldSpec)

/-- ITS FALSE NEIGHBOUR: 'it returns false'. Refute it at one input. -/
def topToldWrong : ChangeSpec := { name := "topTold", fn := fun _ => fun
  | [d1, d2] => { results := [.lit (.bool false)], args := [d1, d2] }
  | _ => none }
def TopToldWrongFalsely : Prop := topToldRow.holds Try.pinned (OpenSpec.ofChange topToldWrong)

/-- 'kissinggatetop.TopFree': WHATEVER THE INPUT: true; the input reads as it did. -/
def topFreeSpec : ChangeSpec := { name := "topFree", fn := fun _ => fun
  | [d1, d2] => { results := [.lit (.bool true)], args := [d1, d2] }
  | _ => none }
def topFreeRow : OpenClaim := { program := "ytokjacbipmfjkaa", sum := "6b0c8169d71778c8954872633824022847dd5570878691d8a05e11d6bbb71c02", func := "kissinggate/kissinggatetop.TopFree", spec := "topFree", inPlace := ["slices.overlaps[kissinggate/api.Reg]"], unfollowed := true, recurses := true, apart := false }
def TopFreeSaid : Prop := topFreeRow.holds Try.pinned (OpenSpec.ofChange topFreeSpec)

/-- ITS FALSE NEIGHBOUR: 'it returns false'. Refute it at one input. -/
def topFreeWrong : ChangeSpec := { name := "topFree", fn := fun _ => fun
  | [d1, d2] => { results := [.lit (.bool false)], args := [d1, d2] }
  | _ => none }
def TopFreeWrongFalsely : Prop := topFreeRow.holds Try.pinned (OpenSpec.ofChange topFreeWrong)

/- THE SECOND FORM. 'bulk': how many values and letters a reading holds, each counted each time it is reached (what is shared counts as often as it is met; a slice's spare places count too). A statement '..UptoSaid' is the law's where the arguments, and the package variables that the reading takes, are together of bulk at most 1048576: NARROWER than '..Said'. Prove '..Said' where nothing that the law and all that it calls make is longer than what came in: it says more and counts as full. Else prove '..UptoSaid'. A law counts once. -/
mutual
def uptoBulk {H : Type} : DataW H → Nat
  | .lit (.string bytes) => bytes.length + 1
  | .lit _ => 1
  | .nil => 1
  | .ptr d => uptoBulk d + 1
  | .slice elems spare => uptoBulkAll elems + uptoBulkAll spare + 1
  | .agg parts => uptoBulkAll parts + 1
  | .iface _ d => uptoBulk d + 1
  | .map entries => uptoBulkEntries entries + 1
  | .held _ => 1
def uptoBulkAll {H : Type} : List (DataW H) → Nat
  | [] => 0
  | d :: r => uptoBulk d + uptoBulkAll r
def uptoBulkEntries {H : Type} : List (Lit × DataW H) → Nat
  | [] => 0
  | x :: r => uptoBulkEntry x + uptoBulkEntries r
def uptoBulkEntry {H : Type} : Lit × DataW H → Nat
  | (.string bytes, d) => bytes.length + uptoBulk d + 1
  | (_, d) => uptoBulk d + 1
 end
def uptoSmall : (H : Type) → List (DataW H) → Bool := fun _ ds => decide (uptoBulkAll ds ≤ 1048576)
def OpenSpec.upto (s : _root_.Go.ChangeSpec) : _root_.Go.OpenSpec := { _root_.Go.OpenSpec.ofChange s with cond := some uptoSmall }

/-- 'kissinggatelaw.OrderSays', WHERE WHAT IT READS IS OF BULK AT MOST 1048576: true; the input reads as it did. -/
def orderSaysUptoRow : OpenClaim := { program := "ytokjacbipmfjkaa", sum := "6b0c8169d71778c8954872633824022847dd5570878691d8a05e11d6bbb71c02", func := "kissinggate/kissinggatelaw.OrderSays", spec := "orderSays", inPlace := ["slices.overlaps[kissinggate/api.Reg]"], unfollowed := true, recurses := true, apart := false, narrowed := true }
def OrderSaysUptoSaid : Prop := orderSaysUptoRow.holds Try.pinned (OpenSpec.upto orderSaysSpec)

/-- 'kissinggatetop.TopOrder', WHERE WHAT IT READS IS OF BULK AT MOST 1048576: true; the input reads as it did. -/
def topOrderUptoRow : OpenClaim := { program := "ytokjacbipmfjkaa", sum := "6b0c8169d71778c8954872633824022847dd5570878691d8a05e11d6bbb71c02", func := "kissinggate/kissinggatetop.TopOrder", spec := "topOrder", inPlace := ["slices.overlaps[kissinggate/api.Reg]"], unfollowed := true, recurses := true, apart := false, narrowed := true }
def TopOrderUptoSaid : Prop := topOrderUptoRow.holds Try.pinned (OpenSpec.upto topOrderSpec)

/-- 'kissinggatetop.TopOut', WHERE WHAT IT READS IS OF BULK AT MOST 1048576: true; the input reads as it did. -/
def topOutUptoRow : OpenClaim := { program := "ytokjacbipmfjkaa", sum := "6b0c8169d71778c8954872633824022847dd5570878691d8a05e11d6bbb71c02", func := "kissinggate/kissinggatetop.TopOut", spec := "topOut", inPlace := ["slices.overlaps[kissinggate/api.Reg]"], unfollowed := true, recurses := true, apart := false, narrowed := true }
def TopOutUptoSaid : Prop := topOutUptoRow.holds Try.pinned (OpenSpec.upto topOutSpec)

/-- 'kissinggatetop.TopTold', WHERE WHAT IT READS IS OF BULK AT MOST 1048576: true; the input reads as it did. -/
def topToldUptoRow : OpenClaim := { program := "ytokjacbipmfjkaa", sum := "6b0c8169d71778c8954872633824022847dd5570878691d8a05e11d6bbb71c02", func := "kissinggate/kissinggatetop.TopTold", spec := "topTold", inPlace := ["slices.overlaps[kissinggate/api.Reg]"], unfollowed := true, recurses := true, apart := false, narrowed := true }
def TopToldUptoSaid : Prop := topToldUptoRow.holds Try.pinned (OpenSpec.upto topToldSpec)

/-- 'kissinggatetop.TopFree', WHERE WHAT IT READS IS OF BULK AT MOST 1048576: true; the input reads as it did. -/
def topFreeUptoRow : OpenClaim := { program := "ytokjacbipmfjkaa", sum := "6b0c8169d71778c8954872633824022847dd5570878691d8a05e11d6bbb71c02", func := "kissinggate/kissinggatetop.TopFree", spec := "topFree", inPlace := ["slices.overlaps[kissinggate/api.Reg]"], unfollowed := true, recurses := true, apart := false, narrowed := true }
def TopFreeUptoSaid : Prop := topFreeUptoRow.holds Try.pinned (OpenSpec.upto topFreeSpec)

end Rows
end Go.Proofs.Ytokjacbipmfjkaa
