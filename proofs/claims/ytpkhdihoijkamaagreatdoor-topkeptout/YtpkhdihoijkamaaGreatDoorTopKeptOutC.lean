/- The closed facts of a row, each apart. No statement of the seat is proved here. -/
import Derived.Test.YtpkhdihoijkamaaGreatDoorRows
import Derived.JoinedOf
import Derived.ProofKit
namespace Go.Proofs.YtpkhdihoijkamaaGreatDoor
open Go.ChangeShapes Go.WideShapes Go.ChangeAt Go.RowKit

set_option maxRecDepth 1000000 in
set_option maxHeartbeats 16000000 in
theorem topKeptOut_closed : joinedFacts Tryz.prog 3 Tryz.f3 Rows.topKeptOutSpec Rows.topKeptOutRow = true := by
  simp only [joinedFacts, Bool.and_eq_true]
  and_intros
  all_goals as_aux_lemma => kernel_rfl
end Go.Proofs.YtpkhdihoijkamaaGreatDoor
