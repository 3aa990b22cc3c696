/- What code.checkNumbers, code.shaped, code.Check and the document's own CommandFault answer, for every command. -/
import Derived.Test.YtfkmaiiainbcbaaGreatDoorCLeaf
namespace Go.Proofs.YtfkmaiiainbcbaaGreatDoor.K
open Go.ChangeShapes Go.WideShapes Go.ChangeAt Go.RowKit Go.Maps

theorem errV_no {f : Int} (h : f ≠ 0) : errV f = .iface 58 (.int .i64 f) := by simp [errV, h]

theorem below2 (w : World) (a b : Obj) : Below w.heap.size w ((w.alloc a).alloc b) := ((Below.refl _ _).alloc (Nat.le_refl _) _).alloc (by simp) _

/-- A kind of a command, and a command, as values. -/
abbrev kindA (wd : ByteArray) (kk kf kh ka ks kd kw : Bool) : Value := .agg #[.string wd, .bool kk, .bool kf, .bool kh, .bool ka, .bool ks, .bool kd, .bool kw]
abbrev cmdA (op who key new ty at' : Int) (st : Bool) (d wt : ByteArray) : Value := .agg #[.int .i64 op, .int .i64 who, .int .i64 key, .int .i64 new, .int .i64 ty, .int .i64 at', .bool st, .string d, .string wt]

/-- What is wrong with the numbers. -/
def numsF (kk kf ka : Bool) (key new at' : Int) : Int := if chkN key kk 999 ≠ 0 then chkN key kk 999 else if chkN new kf 999 ≠ 0 then chkN new kf 999 else chkN at' ka 7

/-- Is there nothing that the command doesn't have? -/
def shapedB (kh ks kd kw : Bool) (ty : Int) (st : Bool) (d wt : ByteArray) : Bool :=
  (!kh || typeB ty) && ((kh || ty == 0) && (ks || !st) && (kd || d.toList.isEmpty) && (kw || wt.toList.isEmpty))

end Go.Proofs.YtfkmaiiainbcbaaGreatDoor.K
