/-
  No cell of these rows narrows 'for every input' (looked for: loops, veiled, ifaces, maps, wideKeys, modest, calm, conditions, laid).
  DERIVED. THE GIVEN ROWS OF THIS SEAT. 5 by the template 'for every input the law returns true; each argument reads behind the call as it read before'; 0 by the template 'total and deterministic' (their statements: YtpbfekcbjdgnjaaTotals.lean).
  GIVEN WITH THE SEED: the statements are not yours to turn. If you find one false, say at which input.
  Laid BY PROGRAM, IN A SANDBOX (cutbox-rows.mjs): the forced cells as the released guide's own fill.sh prints them over the translation 4c32d78f0095219a… (all of the seat's roots in one cut). By AI agents, Wed Nov 11 2026. No macro, syntax, notation, axiom, sorry.
-/
import Derived.Test.YtpbfekcbjdgnjaaChecked
import GoSem.Claim
import GoSem.ClaimJoined
import GoSem.ClaimMapViews
import Derived.JoinedTies
import Derived.KernelRfl
namespace Go.Proofs.Ytpbfekcbjdgnjaa
/- THE CELL 'sum', in the pinned program and in every row, IS THE sha256 OF THE DUMP (.gsa) THAT YtpbfekcbjdgnjaaProg.lean LOADS. Nothing in Lean hashes anything: it is a label: what it is worth is what the hold of that sum in a sandbox is worth. -/
noncomputable def Try.pinned : Pinned := { name := "ytpbfekcbjdgnjaa", sum := "4c32d78f0095219a5aa59ec1f3633f20f011cb27a69f8e5547b5932a016cc1ba", checked := Try.checked }
namespace Rows
def none {H : Type} : Left H := { results := [], args := [] }

/-- 'kissinggatelaw.RightsSays': WHATEVER THE INPUT: true; the input reads as it did. -/
def rightsSaysSpec : ChangeSpec := { name := "rightsSays", fn := fun _ => fun
  | [d1, d2, d3] => { results := [.lit (.bool true)], args := [d1, d2, d3] }
  | _ => none }
def rightsSaysRow : OpenClaim := { program := "ytpbfekcbjdgnjaa", sum := "4c32d78f0095219a5aa59ec1f3633f20f011cb27a69f8e5547b5932a016cc1ba", func := "kissinggate/kissinggatelaw.RightsSays", spec := "rightsSays", apart := false }
def RightsSaysSaid : Prop := rightsSaysRow.holds Try.pinned (OpenSpec.ofChange rightsSaysSpec)

/-- ITS FALSE NEIGHBOUR: 'it returns false'. Refute it at one input. -/
def rightsSaysWrong : ChangeSpec := { name := "rightsSays", fn := fun _ => fun
  | [d1, d2, d3] => { results := [.lit (.bool false)], args := [d1, d2, d3] }
  | _ => none }
def RightsSaysWrongFalsely : Prop := rightsSaysRow.holds Try.pinned (OpenSpec.ofChange rightsSaysWrong)

/-- 'kissinggatetop.TopRights': WHATEVER THE INPUT: true; the input reads as it did. -/
def topRightsSpec : ChangeSpec := { name := "topRights", fn := fun _ => fun
  | [d1, d2, d3] => { results := [.lit (.bool true)], args := [d1, d2, d3] }
  | _ => none }
def topRightsRow : OpenClaim := { program := "ytpbfekcbjdgnjaa", sum := "4c32d78f0095219a5aa59ec1f3633f20f011cb27a69f8e5547b5932a016cc1ba", func := "kissinggate/kissinggatetop.TopRights", spec := "topRights", apart := false }
def TopRightsSaid : Prop := topRightsRow.holds Try.pinned (OpenSpec.ofChange topRightsSpec)

/-- ITS FALSE NEIGHBOUR: 'it returns false'. Refute it at one input. -/
def topRightsWrong : ChangeSpec := { name := "topRights", fn := fun _ => fun
  | [d1, d2, d3] => { results := [.lit (.bool false)], args := [d1, d2, d3] }
  | _ => none }
def TopRightsWrongFalsely : Prop := topRightsRow.holds Try.pinned (OpenSpec.ofChange topRightsWrong)

/-- 'kissinggatetop.TopAlone': WHATEVER THE INPUT: true; the input reads as it did. -/
def topAloneSpec : ChangeSpec := { name := "topAlone", fn := fun _ => fun
  | [d] => { results := [.lit (.bool true)], args := [d] }
  | _ => none }
def topAloneRow : OpenClaim := { program := "ytpbfekcbjdgnjaa", sum := "4c32d78f0095219a5aa59ec1f3633f20f011cb27a69f8e5547b5932a016cc1ba", func := "kissinggate/kissinggatetop.TopAlone", spec := "topAlone", apart := false }
def TopAloneSaid : Prop := topAloneRow.holds Try.pinned (OpenSpec.ofChange topAloneSpec)

/-- ITS FALSE NEIGHBOUR: 'it returns false'. Refute it at one input. -/
def topAloneWrong : ChangeSpec := { name := "topAlone", fn := fun _ => fun
  | [d] => { results := [.lit (.bool false)], args := [d] }
  | _ => none }
def TopAloneWrongFalsely : Prop := topAloneRow.holds Try.pinned (OpenSpec.ofChange topAloneWrong)

/-- 'kissinggatelaw.HoldSays': WHATEVER THE INPUT: true; the input reads as it did. -/
def holdSaysSpec : ChangeSpec := { name := "holdSays", fn := fun _ => fun
  | [d1, d2, d3] => { results := [.lit (.bool true)], args := [d1, d2, d3] }
  | _ => none }
def holdSaysRow : OpenClaim := { program := "ytpbfekcbjdgnjaa", sum := "4c32d78f0095219a5aa59ec1f3633f20f011cb27a69f8e5547b5932a016cc1ba", func := "kissinggate/kissinggatelaw.HoldSays", spec := "holdSays", inPlace := ["slices.overlaps[kissinggate/api.Reg]"], unfollowed := true, recurses := true, apart := false }
def HoldSaysSaid : Prop := holdSaysRow.holds Try.pinned (OpenSpec.ofChange holdSaysSpec)

/-- ITS FALSE NEIGHBOUR: 'it returns false'. Refute it at one input. -/
def holdSaysWrong : ChangeSpec := { name := "holdSays", fn := fun _ => fun
  | [d1, d2, d3] => { results := [.lit (.bool false)], args := [d1, d2, d3] }
  | _ => none }
def HoldSaysWrongFalsely : Prop := holdSaysRow.holds Try.pinned (OpenSpec.ofChange holdSaysWrong)

/-- 'kissinggatetop.TopKnown': WHATEVER THE INPUT: true; the input reads as it did. -/
def topKnownSpec : ChangeSpec := { name := "topKnown", fn := fun _ => fun
  | [d1, d2, d3, d4] => { results := [.lit (.bool true)], args := [d1, d2, d3, d4] }
  | _ => none }
def topKnownRow : OpenClaim := { program := "ytpbfekcbjdgnjaa", sum := "4c32d78f0095219a5aa59ec1f3633f20f011cb27a69f8e5547b5932a016cc1ba", func := "kissinggate/kissinggatetop.TopKnown", spec := "topKnown", inPlace := ["slices.overlaps[kissinggate/api.Reg]"], unfollowed := true, recurses := true, apart := false }
def TopKnownSaid : Prop := topKnownRow.holds Try.pinned (OpenSpec.ofChange topKnownSpec)

/-- ITS FALSE NEIGHBOUR: 'it returns false'. Refute it at one input. -/
def topKnownWrong : ChangeSpec := { name := "topKnown", fn := fun _ => fun
  | [d1, d2, d3, d4] => { results := [.lit (.bool false)], args := [d1, d2, d3, d4] }
  | _ => none }
def TopKnownWrongFalsely : Prop := topKnownRow.holds Try.pinned (OpenSpec.ofChange topKnownWrong)

/- THE SECOND FORM. 'bulk': how many values and letters a reading holds, each counted each time it is reached (what is shared counts as often as it is met; a slice's spare places count too). A statement '..UptoSaid' is the law's where the arguments, and the package variables that the reading takes, are together of bulk at most 1048576: NARROWER than '..Said'. Prove '..Said' where nothing that the law and all that it calls make is longer than what came in: it says more and counts as full. Else prove '..UptoSaid'. A law counts once. -/
mutual
def uptoBulk {H : Type} : DataW H → Nat
  | .lit (.string bytes) => bytes.length + 1
  | .lit _ => 1
  | .nil => 1
  | .ptr d => uptoBulk d + 1
  | .slice elems spare => uptoBulkAll elems + uptoBulkAll spare + 1
  | .agg parts => uptoBulkAll parts + 1
  | .iface _ d => uptoBulk d + 1
  | .map entries => uptoBulkEntries entries + 1
  | .held _ => 1
def uptoBulkAll {H : Type} : List (DataW H) → Nat
  | [] => 0
  | d :: r => uptoBulk d + uptoBulkAll r
def uptoBulkEntries {H : Type} : List (Lit × DataW H) → Nat
  | [] => 0
  | x :: r => uptoBulkEntry x + uptoBulkEntries r
def uptoBulkEntry {H : Type} : Lit × DataW H → Nat
  | (.string bytes, d) => bytes.length + uptoBulk d + 1
  | (_, d) => uptoBulk d + 1
 end
def uptoSmall : (H : Type) → List (DataW H) → Bool := fun _ ds => decide (uptoBulkAll ds ≤ 1048576)
def OpenSpec.upto (s : _root_.Go.ChangeSpec) : _root_.Go.OpenSpec := { _root_.Go.OpenSpec.ofChange s with cond := some uptoSmall }

/-- 'kissinggatelaw.RightsSays', WHERE WHAT IT READS IS OF BULK AT MOST 1048576: true; the input reads as it did. -/
def rightsSaysUptoRow : OpenClaim := { program := "ytpbfekcbjdgnjaa", sum := "4c32d78f0095219a5aa59ec1f3633f20f011cb27a69f8e5547b5932a016cc1ba", func := "kissinggate/kissinggatelaw.RightsSays", spec := "rightsSays", apart := false, narrowed := true }
def RightsSaysUptoSaid : Prop := rightsSaysUptoRow.holds Try.pinned (OpenSpec.upto rightsSaysSpec)

/-- 'kissinggatetop.TopRights', WHERE WHAT IT READS IS OF BULK AT MOST 1048576: true; the input reads as it did. -/
def topRightsUptoRow : OpenClaim := { program := "ytpbfekcbjdgnjaa", sum := "4c32d78f0095219a5aa59ec1f3633f20f011cb27a69f8e5547b5932a016cc1ba", func := "kissinggate/kissinggatetop.TopRights", spec := "topRights", apart := false, narrowed := true }
def TopRightsUptoSaid : Prop := topRightsUptoRow.holds Try.pinned (OpenSpec.upto topRightsSpec)

/-- 'kissinggatetop.TopAlone', WHERE WHAT IT READS IS OF BULK AT MOST 1048576: true; the input reads as it did. -/
def topAloneUptoRow : OpenClaim := { program := "ytpbfekcbjdgnjaa", sum := "4c32d78f0095219a5aa59ec1f3633f20f011cb27a69f8e5547b5932a016cc1ba", func := "kissinggate/kissinggatetop.TopAlone", spec := "topAlone", apart := false, narrowed := true }
def TopAloneUptoSaid : Prop := topAloneUptoRow.holds Try.pinned (OpenSpec.upto topAloneSpec)

/-- 'kissinggatelaw.HoldSays', WHERE WHAT IT READS IS OF BULK AT MOST 1048576: true; the input reads as it did. -/
def holdSaysUptoRow : OpenClaim := { program := "ytpbfekcbjdgnjaa", sum := "4c32d78f0095219a5aa59ec1f3633f20f011cb27a69f8e5547b5932a016cc1ba", func := "kissinggate/kissinggatelaw.HoldSays", spec := "holdSays", inPlace := ["slices.overlaps[kissinggate/api.Reg]"], unfollowed := true, recurses := true, apart := false, narrowed := true }
def HoldSaysUptoSaid : Prop := holdSaysUptoRow.holds Try.pinned (OpenSpec.upto holdSaysSpec)

/-- 'kissinggatetop.TopKnown', WHERE WHAT IT READS IS OF BULK AT MOST 1048576: true; the input reads as it did. -/
def topKnownUptoRow : OpenClaim := { program := "ytpbfekcbjdgnjaa", sum := "4c32d78f0095219a5aa59ec1f3633f20f011cb27a69f8e5547b5932a016cc1ba", func := "kissinggate/kissinggatetop.TopKnown", spec := "topKnown", inPlace := ["slices.overlaps[kissinggate/api.Reg]"], unfollowed := true, recurses := true, apart := false, narrowed := true }
def TopKnownUptoSaid : Prop := topKnownUptoRow.holds Try.pinned (OpenSpec.upto topKnownSpec)

end Rows
end Go.Proofs.Ytpbfekcbjdgnjaa
