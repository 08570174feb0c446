/-
  DERIVED. GIVEN WITH THE SEED: THE CARDS: each row of YtdiighpmgfbmaaaDoorRows.lean that lists a variable, with what it lists TIED to the program's text (the seventh form; the later family's looks); each row that meets fmt, with fmt's text TOLD by the authors' own Lean function (tested against real Go, not proved from fmt's source: count such statements apart). THE CARD IS WHAT COUNTS. Prove the row's statement (the work); the ties are given (YtdiighpmgfbmaaaDoorTie.lean); close each card by the builder's one call (the guide's Derived/Test/ToyasCard.lean, 'card_holds'). Laid BY PROGRAM, IN A SANDBOX (cutbox-door.mjs). By AI agents, Wed Nov 11 2026. No macro, syntax, notation, axiom, sorry.
-/
import Derived.Test.YtdiighpmgfbmaaaDoorRows
import GoSem.ClaimSeven
namespace Go.Proofs.YtdiighpmgfbmaaaDoor
namespace Rows

/-- THE TIED CARD OF 'drayagelaw04.ScanWords'. -/
def scanWordsCard : Claim7 := { stood := { row := scanWordsRow, standIns := [], harness := (true, "7f1eabe7b48fedc35098fef2fb32c8566855a92cc47e9e8d926750a87b1cff10"), looks := false }, kinds := [], alts := [], laidByText := true, laidKinds := [.data, .pinned], laidTests := true, laidLooks := .later }
def ScanWordsCardSaid : Prop := Claim7.holds Tryd.pinned (.plain (OpenSpec.ofChange scanWordsSpec)) scanWordsCard

/-- THE TIED CARD OF 'drayagelaw04.ScanWhere'. -/
def scanWhereCard : Claim7 := { stood := { row := scanWhereRow, standIns := [], harness := (true, "7f1eabe7b48fedc35098fef2fb32c8566855a92cc47e9e8d926750a87b1cff10"), looks := false }, kinds := [], alts := [], laidByText := true, laidKinds := [.data, .pinned], laidTests := true, laidLooks := .later }
def ScanWhereCardSaid : Prop := Claim7.holds Tryd.pinned (.plain (OpenSpec.ofChange scanWhereSpec)) scanWhereCard

/-- THE TIED CARD OF 'drayagelaw04.ScanKnown'. -/
def scanKnownCard : Claim7 := { stood := { row := scanKnownRow, standIns := [], harness := (true, "7f1eabe7b48fedc35098fef2fb32c8566855a92cc47e9e8d926750a87b1cff10"), looks := false }, kinds := [], alts := [], laidByText := true, laidKinds := [.data, .pinned], laidTests := true, laidLooks := .later }
def ScanKnownCardSaid : Prop := Claim7.holds Tryd.pinned (.plain (OpenSpec.ofChange scanKnownSpec)) scanKnownCard

/-- THE SECOND FORM's CARD OF 'drayagelaw04.ScanWords'. -/
def scanWordsUptoCard : Claim7 := { stood := { row := scanWordsUptoRow, standIns := [], harness := (true, "7f1eabe7b48fedc35098fef2fb32c8566855a92cc47e9e8d926750a87b1cff10"), looks := false }, kinds := [], alts := [], laidByText := true, laidKinds := [.data, .pinned], laidTests := true, laidLooks := .later }
def ScanWordsUptoCardSaid : Prop := Claim7.holds Tryd.pinned (.plain (OpenSpec.upto scanWordsSpec)) scanWordsUptoCard

/-- THE SECOND FORM's CARD OF 'drayagelaw04.ScanWhere'. -/
def scanWhereUptoCard : Claim7 := { stood := { row := scanWhereUptoRow, standIns := [], harness := (true, "7f1eabe7b48fedc35098fef2fb32c8566855a92cc47e9e8d926750a87b1cff10"), looks := false }, kinds := [], alts := [], laidByText := true, laidKinds := [.data, .pinned], laidTests := true, laidLooks := .later }
def ScanWhereUptoCardSaid : Prop := Claim7.holds Tryd.pinned (.plain (OpenSpec.upto scanWhereSpec)) scanWhereUptoCard

/-- THE SECOND FORM's CARD OF 'drayagelaw04.ScanKnown'. -/
def scanKnownUptoCard : Claim7 := { stood := { row := scanKnownUptoRow, standIns := [], harness := (true, "7f1eabe7b48fedc35098fef2fb32c8566855a92cc47e9e8d926750a87b1cff10"), looks := false }, kinds := [], alts := [], laidByText := true, laidKinds := [.data, .pinned], laidTests := true, laidLooks := .later }
def ScanKnownUptoCardSaid : Prop := Claim7.holds Tryd.pinned (.plain (OpenSpec.upto scanKnownSpec)) scanKnownUptoCard
end Rows
end Go.Proofs.YtdiighpmgfbmaaaDoor
