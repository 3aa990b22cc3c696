/-
  DERIVED. GIVEN WITH THE SEED: THE CARDS: each row of YthkckogbjdbnnaaDoorRows.lean that lists a variable, with what it lists TIED to the program's text (the seventh form; the later family's looks); each row that meets fmt, with fmt's text TOLD by the authors' own Lean function (tested against real Go, not proved from fmt's source: count such statements apart). THE CARD IS WHAT COUNTS. Prove the row's statement (the work); the ties are given (YthkckogbjdbnnaaDoorTie.lean); close each card by the builder's one call (the guide's Derived/Test/ToyasCard.lean, 'card_holds'). Laid BY PROGRAM, IN A SANDBOX (cutbox-door.mjs). By AI agents, Wed Nov 11 2026. No macro, syntax, notation, axiom, sorry.
-/
import Derived.Test.YthkckogbjdbnnaaDoorRows
import GoSem.ClaimSeven
namespace Go.Proofs.YthkckogbjdbnnaaDoor
namespace Rows

/-- THE TIED CARD OF 'kissinggatelaw.CodeSays'. -/
def codeSaysCard : Claim7 := { stood := { row := codeSaysRow, standIns := [], harness := (true, "b79c776afcb82ac8f74df9e191d0ee6995edf94ccf242a33db32c6b47e7169aa"), looks := true }, kinds := [], alts := [], laidByText := true, laidKinds := [.data, .data, .data, .sentinel, .sentinel], laidTests := true, laidLooks := .later }
def CodeSaysCardSaid : Prop := Claim7.holds Tryd.pinned (.plain (OpenSpec.ofChange codeSaysSpec)) codeSaysCard

/-- THE TIED CARD OF 'kissinggatetop.TopCode'. -/
def topCodeCard : Claim7 := { stood := { row := topCodeRow, standIns := [], harness := (true, "b79c776afcb82ac8f74df9e191d0ee6995edf94ccf242a33db32c6b47e7169aa"), looks := true }, kinds := [], alts := [], laidByText := true, laidKinds := [.data, .data, .data, .sentinel, .sentinel], laidTests := true, laidLooks := .later }
def TopCodeCardSaid : Prop := Claim7.holds Tryd.pinned (.plain (OpenSpec.ofChange topCodeSpec)) topCodeCard

/-- THE TIED CARD OF 'kissinggatelaw.ReportSays'. -/
def reportSaysCard : Claim7 := { stood := { row := reportSaysRow, standIns := [], harness := (true, "b79c776afcb82ac8f74df9e191d0ee6995edf94ccf242a33db32c6b47e7169aa"), looks := true }, kinds := [], alts := [], laidByText := true, laidKinds := [.data, .data, .data, .sentinel, .sentinel], laidTests := true, laidLooks := .later }
def ReportSaysCardSaid : Prop := Claim7.holds Tryd.pinned (.plain (OpenSpec.ofChange reportSaysSpec)) reportSaysCard

/-- THE TIED CARD OF 'kissinggatetop.TopReport'. -/
def topReportCard : Claim7 := { stood := { row := topReportRow, standIns := [], harness := (true, "b79c776afcb82ac8f74df9e191d0ee6995edf94ccf242a33db32c6b47e7169aa"), looks := true }, kinds := [], alts := [], laidByText := true, laidKinds := [.data, .data, .data, .sentinel, .sentinel], laidTests := true, laidLooks := .later }
def TopReportCardSaid : Prop := Claim7.holds Tryd.pinned (.plain (OpenSpec.ofChange topReportSpec)) topReportCard

/-- THE SECOND FORM's CARD OF 'kissinggatelaw.CodeSays'. -/
def codeSaysUptoCard : Claim7 := { stood := { row := codeSaysUptoRow, standIns := [], harness := (true, "b79c776afcb82ac8f74df9e191d0ee6995edf94ccf242a33db32c6b47e7169aa"), looks := true }, kinds := [], alts := [], laidByText := true, laidKinds := [.data, .data, .data, .sentinel, .sentinel], laidTests := true, laidLooks := .later }
def CodeSaysUptoCardSaid : Prop := Claim7.holds Tryd.pinned (.plain (OpenSpec.upto codeSaysSpec)) codeSaysUptoCard

/-- THE SECOND FORM's CARD OF 'kissinggatetop.TopCode'. -/
def topCodeUptoCard : Claim7 := { stood := { row := topCodeUptoRow, standIns := [], harness := (true, "b79c776afcb82ac8f74df9e191d0ee6995edf94ccf242a33db32c6b47e7169aa"), looks := true }, kinds := [], alts := [], laidByText := true, laidKinds := [.data, .data, .data, .sentinel, .sentinel], laidTests := true, laidLooks := .later }
def TopCodeUptoCardSaid : Prop := Claim7.holds Tryd.pinned (.plain (OpenSpec.upto topCodeSpec)) topCodeUptoCard

/-- THE SECOND FORM's CARD OF 'kissinggatelaw.ReportSays'. -/
def reportSaysUptoCard : Claim7 := { stood := { row := reportSaysUptoRow, standIns := [], harness := (true, "b79c776afcb82ac8f74df9e191d0ee6995edf94ccf242a33db32c6b47e7169aa"), looks := true }, kinds := [], alts := [], laidByText := true, laidKinds := [.data, .data, .data, .sentinel, .sentinel], laidTests := true, laidLooks := .later }
def ReportSaysUptoCardSaid : Prop := Claim7.holds Tryd.pinned (.plain (OpenSpec.upto reportSaysSpec)) reportSaysUptoCard

/-- THE SECOND FORM's CARD OF 'kissinggatetop.TopReport'. -/
def topReportUptoCard : Claim7 := { stood := { row := topReportUptoRow, standIns := [], harness := (true, "b79c776afcb82ac8f74df9e191d0ee6995edf94ccf242a33db32c6b47e7169aa"), looks := true }, kinds := [], alts := [], laidByText := true, laidKinds := [.data, .data, .data, .sentinel, .sentinel], laidTests := true, laidLooks := .later }
def TopReportUptoCardSaid : Prop := Claim7.holds Tryd.pinned (.plain (OpenSpec.upto topReportSpec)) topReportUptoCard
end Rows
end Go.Proofs.YthkckogbjdbnnaaDoor
