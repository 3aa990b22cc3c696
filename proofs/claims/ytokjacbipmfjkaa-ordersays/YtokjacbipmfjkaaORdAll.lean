/- What the document's own Ordered answers, for every command that may be: what order.Do does. No statement of the seat is proved here. -/
import Derived.Test.YtokjacbipmfjkaaORd1
import Derived.Test.YtokjacbipmfjkaaORd2
import Derived.Test.YtokjacbipmfjkaaORd3
import Derived.Test.YtokjacbipmfjkaaORd4
import Derived.Test.YtokjacbipmfjkaaORd5
import Derived.Test.YtokjacbipmfjkaaORd6
import Derived.Test.YtokjacbipmfjkaaORdX
namespace Go.Proofs.Ytokjacbipmfjkaa
open Go.ChangeShapes Go.WideShapes Go.ChangeAt Go.RowKit Go.Deep

theorem rordered_any (g t h : Int) (a : Option Addr) (n c : Nat) (y : Bool) (l : List (Int × Int)) (op who key new kind at' : Int) (st : Bool) (da wa : ByteArray) (w : World) (hr : Row w a n l) (hn : n ≤ 900) (hf : fault g t h l = 0) (hc : CmdOk op who key new kind) :
    Calls Try.prog 14 #[stV g a n c t h y, cmV op who key new kind at' st da wa] w fun e w' => ROut (doF g t h y l op who key new kind st) e w' ∧ Below w.heap.size w w' := by
  have h1 := hc.op1
  by_cases e1 : op = 1
  · subst e1; exact rord_1 g t h a n c y l who key new kind at' st da wa w hr hn hf
  by_cases e2 : op = 2
  · subst e2; exact rord_2 g t h a n c y l who key new kind at' st da wa w hr hn hf
  by_cases e3 : op = 3
  · subst e3; exact rord_3 g t h a n c y l who key new kind at' st da wa w hr hf hc
  by_cases e4 : op = 4
  · subst e4; exact rord_4 g t h a n c y l who key new kind at' st da wa w hr hn hf
  by_cases e5 : op = 5
  · subst e5; exact rord_5 g t h a n c y l who key new kind at' st da wa w hr hn hf
  by_cases e6 : op = 6
  · subst e6; exact rord_6 g t h a n c y l who key new kind at' st da wa w hr hn hf hc
  · exact rord_x g t h a n c y l op who key new kind at' st da wa w hr hf (by omega)
end Go.Proofs.Ytokjacbipmfjkaa
