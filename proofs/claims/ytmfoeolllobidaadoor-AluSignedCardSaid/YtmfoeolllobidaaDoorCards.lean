/-
  DERIVED. GIVEN WITH THE SEED: THE CARDS: each row of YtmfoeolllobidaaDoorRows.lean that lists a variable, with what it lists TIED to the program's text (the seventh form; the later family's looks); each row that meets fmt, with fmt's text TOLD by the authors' own Lean function (tested against real Go, not proved from fmt's source: count such statements apart). THE CARD IS WHAT COUNTS. Prove the row's statement (the work); the ties are given (YtmfoeolllobidaaDoorTie.lean); close each card by the builder's one call (the guide's Derived/Test/ToyasCard.lean, 'card_holds'). Laid BY PROGRAM, IN A SANDBOX (cutbox-door.mjs). By AI agents, Wed Nov 11 2026. No macro, syntax, notation, axiom, sorry.
-/
import Derived.Test.YtmfoeolllobidaaDoorRows
import GoSem.ClaimSeven
namespace Go.Proofs.YtmfoeolllobidaaDoor
namespace Rows

/-- THE TIED CARD OF 'sundiallaw13.AluTells'. -/
def aluTellsCard : Claim7 := { stood := { row := aluTellsRow, standIns := [], harness := (true, "bc0ce2c76369959dc99cb7fa8f12b05f7a25bdcf7c4372b010c9cce15679b7c1"), looks := false }, kinds := [], alts := [], laidByText := true, laidKinds := [.data], laidTests := true, laidLooks := .later }
def AluTellsCardSaid : Prop := Claim7.holds Tryd.pinned (.plain (OpenSpec.ofChange aluTellsSpec)) aluTellsCard

/-- THE TIED CARD OF 'sundiallaw13.AluBack'. -/
def aluBackCard : Claim7 := { stood := { row := aluBackRow, standIns := [], harness := (true, "bc0ce2c76369959dc99cb7fa8f12b05f7a25bdcf7c4372b010c9cce15679b7c1"), looks := false }, kinds := [], alts := [], laidByText := true, laidKinds := [.data], laidTests := true, laidLooks := .later }
def AluBackCardSaid : Prop := Claim7.holds Tryd.pinned (.plain (OpenSpec.ofChange aluBackSpec)) aluBackCard

/-- THE TIED CARD OF 'sundiallaw13.AluCompares'. -/
def aluComparesCard : Claim7 := { stood := { row := aluComparesRow, standIns := [], harness := (true, "bc0ce2c76369959dc99cb7fa8f12b05f7a25bdcf7c4372b010c9cce15679b7c1"), looks := false }, kinds := [], alts := [], laidByText := true, laidKinds := [.data], laidTests := true, laidLooks := .later }
def AluComparesCardSaid : Prop := Claim7.holds Tryd.pinned (.plain (OpenSpec.ofChange aluComparesSpec)) aluComparesCard

/-- THE TIED CARD OF 'sundiallaw13.AluShifts'. -/
def aluShiftsCard : Claim7 := { stood := { row := aluShiftsRow, standIns := [], harness := (true, "bc0ce2c76369959dc99cb7fa8f12b05f7a25bdcf7c4372b010c9cce15679b7c1"), looks := false }, kinds := [], alts := [], laidByText := true, laidKinds := [.data], laidTests := true, laidLooks := .later }
def AluShiftsCardSaid : Prop := Claim7.holds Tryd.pinned (.plain (OpenSpec.ofChange aluShiftsSpec)) aluShiftsCard

/-- THE TIED CARD OF 'sundiallaw13.AluSigned'. -/
def aluSignedCard : Claim7 := { stood := { row := aluSignedRow, standIns := [], harness := (true, "bc0ce2c76369959dc99cb7fa8f12b05f7a25bdcf7c4372b010c9cce15679b7c1"), looks := false }, kinds := [], alts := [], laidByText := true, laidKinds := [.data], laidTests := true, laidLooks := .later }
def AluSignedCardSaid : Prop := Claim7.holds Tryd.pinned (.plain (OpenSpec.ofChange aluSignedSpec)) aluSignedCard

/-- THE SECOND FORM's CARD OF 'sundiallaw13.AluTells'. -/
def aluTellsUptoCard : Claim7 := { stood := { row := aluTellsUptoRow, standIns := [], harness := (true, "bc0ce2c76369959dc99cb7fa8f12b05f7a25bdcf7c4372b010c9cce15679b7c1"), looks := false }, kinds := [], alts := [], laidByText := true, laidKinds := [.data], laidTests := true, laidLooks := .later }
def AluTellsUptoCardSaid : Prop := Claim7.holds Tryd.pinned (.plain (OpenSpec.upto aluTellsSpec)) aluTellsUptoCard

/-- THE SECOND FORM's CARD OF 'sundiallaw13.AluBack'. -/
def aluBackUptoCard : Claim7 := { stood := { row := aluBackUptoRow, standIns := [], harness := (true, "bc0ce2c76369959dc99cb7fa8f12b05f7a25bdcf7c4372b010c9cce15679b7c1"), looks := false }, kinds := [], alts := [], laidByText := true, laidKinds := [.data], laidTests := true, laidLooks := .later }
def AluBackUptoCardSaid : Prop := Claim7.holds Tryd.pinned (.plain (OpenSpec.upto aluBackSpec)) aluBackUptoCard

/-- THE SECOND FORM's CARD OF 'sundiallaw13.AluCompares'. -/
def aluComparesUptoCard : Claim7 := { stood := { row := aluComparesUptoRow, standIns := [], harness := (true, "bc0ce2c76369959dc99cb7fa8f12b05f7a25bdcf7c4372b010c9cce15679b7c1"), looks := false }, kinds := [], alts := [], laidByText := true, laidKinds := [.data], laidTests := true, laidLooks := .later }
def AluComparesUptoCardSaid : Prop := Claim7.holds Tryd.pinned (.plain (OpenSpec.upto aluComparesSpec)) aluComparesUptoCard

/-- THE SECOND FORM's CARD OF 'sundiallaw13.AluShifts'. -/
def aluShiftsUptoCard : Claim7 := { stood := { row := aluShiftsUptoRow, standIns := [], harness := (true, "bc0ce2c76369959dc99cb7fa8f12b05f7a25bdcf7c4372b010c9cce15679b7c1"), looks := false }, kinds := [], alts := [], laidByText := true, laidKinds := [.data], laidTests := true, laidLooks := .later }
def AluShiftsUptoCardSaid : Prop := Claim7.holds Tryd.pinned (.plain (OpenSpec.upto aluShiftsSpec)) aluShiftsUptoCard

/-- THE SECOND FORM's CARD OF 'sundiallaw13.AluSigned'. -/
def aluSignedUptoCard : Claim7 := { stood := { row := aluSignedUptoRow, standIns := [], harness := (true, "bc0ce2c76369959dc99cb7fa8f12b05f7a25bdcf7c4372b010c9cce15679b7c1"), looks := false }, kinds := [], alts := [], laidByText := true, laidKinds := [.data], laidTests := true, laidLooks := .later }
def AluSignedUptoCardSaid : Prop := Claim7.holds Tryd.pinned (.plain (OpenSpec.upto aluSignedSpec)) aluSignedUptoCard
end Rows
end Go.Proofs.YtmfoeolllobidaaDoor
