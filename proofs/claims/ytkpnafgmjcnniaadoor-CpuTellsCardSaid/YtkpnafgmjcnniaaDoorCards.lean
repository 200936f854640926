/-
  DERIVED. GIVEN WITH THE SEED: THE CARDS: each row of YtkpnafgmjcnniaaDoorRows.lean that lists a variable, with what it lists TIED to the program's text (the seventh form; the later family's looks); each row that meets fmt, with fmt's text TOLD by the authors' own Lean function (tested against real Go, not proved from fmt's source: count such statements apart). THE CARD IS WHAT COUNTS. Prove the row's statement (the work); the ties are given (YtkpnafgmjcnniaaDoorTie.lean); close each card by the builder's one call (the guide's Derived/Test/ToyasCard.lean, 'card_holds'). Laid BY PROGRAM, IN A SANDBOX (cutbox-door.mjs). By AI agents, Wed Nov 11 2026. No macro, syntax, notation, axiom, sorry.
-/
import Derived.Test.YtkpnafgmjcnniaaDoorRows
import GoSem.ClaimSeven
namespace Go.Proofs.YtkpnafgmjcnniaaDoor
namespace Rows

/-- THE TIED CARD OF 'sundiallaw08.OperandTells'. -/
def operandTellsCard : Claim7 := { stood := { row := operandTellsRow, standIns := [], harness := (true, "a9ea24d46e5c2a26ca8314a4be819caf4f82cb52911353aaa9332a6527de3b93"), looks := false }, kinds := [], alts := [], laidByText := true, laidKinds := [.data], laidTests := true, laidLooks := .later }
def OperandTellsCardSaid : Prop := Claim7.holds Tryd.pinned (.plain (OpenSpec.ofChange operandTellsSpec)) operandTellsCard

/-- THE TIED CARD OF 'sundiallaw08.OperandBack'. -/
def operandBackCard : Claim7 := { stood := { row := operandBackRow, standIns := [], harness := (true, "a9ea24d46e5c2a26ca8314a4be819caf4f82cb52911353aaa9332a6527de3b93"), looks := false }, kinds := [], alts := [], laidByText := true, laidKinds := [.data], laidTests := true, laidLooks := .later }
def OperandBackCardSaid : Prop := Claim7.holds Tryd.pinned (.plain (OpenSpec.ofChange operandBackSpec)) operandBackCard

/-- THE TIED CARD OF 'sundiallaw08.OperandRight'. -/
def operandRightCard : Claim7 := { stood := { row := operandRightRow, standIns := [], harness := (true, "a9ea24d46e5c2a26ca8314a4be819caf4f82cb52911353aaa9332a6527de3b93"), looks := false }, kinds := [], alts := [], laidByText := true, laidKinds := [.data], laidTests := true, laidLooks := .later }
def OperandRightCardSaid : Prop := Claim7.holds Tryd.pinned (.plain (OpenSpec.ofChange operandRightSpec)) operandRightCard

/-- THE TIED CARD OF 'sundiallaw08.OperandParts'. -/
def operandPartsCard : Claim7 := { stood := { row := operandPartsRow, standIns := [], harness := (true, "a9ea24d46e5c2a26ca8314a4be819caf4f82cb52911353aaa9332a6527de3b93"), looks := false }, kinds := [], alts := [], laidByText := true, laidKinds := [.data], laidTests := true, laidLooks := .later }
def OperandPartsCardSaid : Prop := Claim7.holds Tryd.pinned (.plain (OpenSpec.ofChange operandPartsSpec)) operandPartsCard

/-- THE TIED CARD OF 'sundiallaw08.OperandLong'. -/
def operandLongCard : Claim7 := { stood := { row := operandLongRow, standIns := [], harness := (true, "a9ea24d46e5c2a26ca8314a4be819caf4f82cb52911353aaa9332a6527de3b93"), looks := false }, kinds := [], alts := [], laidByText := true, laidKinds := [.data], laidTests := true, laidLooks := .later }
def OperandLongCardSaid : Prop := Claim7.holds Tryd.pinned (.plain (OpenSpec.ofChange operandLongSpec)) operandLongCard

/-- THE TIED CARD OF 'sundiallaw14.CpuTells'. -/
def cpuTellsCard : Claim7 := { stood := { row := cpuTellsRow, standIns := [], harness := (true, "a9ea24d46e5c2a26ca8314a4be819caf4f82cb52911353aaa9332a6527de3b93"), looks := false }, kinds := [], alts := [], laidByText := true, laidKinds := [.data], laidTests := true, laidLooks := .later }
def CpuTellsCardSaid : Prop := Claim7.holds Tryd.pinned (.plain (OpenSpec.ofChange cpuTellsSpec)) cpuTellsCard

/-- THE TIED CARD OF 'sundiallaw14.CpuBack'. -/
def cpuBackCard : Claim7 := { stood := { row := cpuBackRow, standIns := [], harness := (true, "a9ea24d46e5c2a26ca8314a4be819caf4f82cb52911353aaa9332a6527de3b93"), looks := false }, kinds := [], alts := [], laidByText := true, laidKinds := [.data], laidTests := true, laidLooks := .later }
def CpuBackCardSaid : Prop := Claim7.holds Tryd.pinned (.plain (OpenSpec.ofChange cpuBackSpec)) cpuBackCard

/-- THE TIED CARD OF 'sundiallaw14.CpuConds'. -/
def cpuCondsCard : Claim7 := { stood := { row := cpuCondsRow, standIns := [], harness := (true, "a9ea24d46e5c2a26ca8314a4be819caf4f82cb52911353aaa9332a6527de3b93"), looks := false }, kinds := [], alts := [], laidByText := true, laidKinds := [.data], laidTests := true, laidLooks := .later }
def CpuCondsCardSaid : Prop := Claim7.holds Tryd.pinned (.plain (OpenSpec.ofChange cpuCondsSpec)) cpuCondsCard

/-- THE TIED CARD OF 'sundiallaw14.CpuAddress'. -/
def cpuAddressCard : Claim7 := { stood := { row := cpuAddressRow, standIns := [], harness := (true, "a9ea24d46e5c2a26ca8314a4be819caf4f82cb52911353aaa9332a6527de3b93"), looks := false }, kinds := [], alts := [], laidByText := true, laidKinds := [.data], laidTests := true, laidLooks := .later }
def CpuAddressCardSaid : Prop := Claim7.holds Tryd.pinned (.plain (OpenSpec.ofChange cpuAddressSpec)) cpuAddressCard

/-- THE SECOND FORM's CARD OF 'sundiallaw08.OperandTells'. -/
def operandTellsUptoCard : Claim7 := { stood := { row := operandTellsUptoRow, standIns := [], harness := (true, "a9ea24d46e5c2a26ca8314a4be819caf4f82cb52911353aaa9332a6527de3b93"), looks := false }, kinds := [], alts := [], laidByText := true, laidKinds := [.data], laidTests := true, laidLooks := .later }
def OperandTellsUptoCardSaid : Prop := Claim7.holds Tryd.pinned (.plain (OpenSpec.upto operandTellsSpec)) operandTellsUptoCard

/-- THE SECOND FORM's CARD OF 'sundiallaw08.OperandBack'. -/
def operandBackUptoCard : Claim7 := { stood := { row := operandBackUptoRow, standIns := [], harness := (true, "a9ea24d46e5c2a26ca8314a4be819caf4f82cb52911353aaa9332a6527de3b93"), looks := false }, kinds := [], alts := [], laidByText := true, laidKinds := [.data], laidTests := true, laidLooks := .later }
def OperandBackUptoCardSaid : Prop := Claim7.holds Tryd.pinned (.plain (OpenSpec.upto operandBackSpec)) operandBackUptoCard

/-- THE SECOND FORM's CARD OF 'sundiallaw08.OperandRight'. -/
def operandRightUptoCard : Claim7 := { stood := { row := operandRightUptoRow, standIns := [], harness := (true, "a9ea24d46e5c2a26ca8314a4be819caf4f82cb52911353aaa9332a6527de3b93"), looks := false }, kinds := [], alts := [], laidByText := true, laidKinds := [.data], laidTests := true, laidLooks := .later }
def OperandRightUptoCardSaid : Prop := Claim7.holds Tryd.pinned (.plain (OpenSpec.upto operandRightSpec)) operandRightUptoCard

/-- THE SECOND FORM's CARD OF 'sundiallaw08.OperandParts'. -/
def operandPartsUptoCard : Claim7 := { stood := { row := operandPartsUptoRow, standIns := [], harness := (true, "a9ea24d46e5c2a26ca8314a4be819caf4f82cb52911353aaa9332a6527de3b93"), looks := false }, kinds := [], alts := [], laidByText := true, laidKinds := [.data], laidTests := true, laidLooks := .later }
def OperandPartsUptoCardSaid : Prop := Claim7.holds Tryd.pinned (.plain (OpenSpec.upto operandPartsSpec)) operandPartsUptoCard

/-- THE SECOND FORM's CARD OF 'sundiallaw08.OperandLong'. -/
def operandLongUptoCard : Claim7 := { stood := { row := operandLongUptoRow, standIns := [], harness := (true, "a9ea24d46e5c2a26ca8314a4be819caf4f82cb52911353aaa9332a6527de3b93"), looks := false }, kinds := [], alts := [], laidByText := true, laidKinds := [.data], laidTests := true, laidLooks := .later }
def OperandLongUptoCardSaid : Prop := Claim7.holds Tryd.pinned (.plain (OpenSpec.upto operandLongSpec)) operandLongUptoCard

/-- THE SECOND FORM's CARD OF 'sundiallaw14.CpuTells'. -/
def cpuTellsUptoCard : Claim7 := { stood := { row := cpuTellsUptoRow, standIns := [], harness := (true, "a9ea24d46e5c2a26ca8314a4be819caf4f82cb52911353aaa9332a6527de3b93"), looks := false }, kinds := [], alts := [], laidByText := true, laidKinds := [.data], laidTests := true, laidLooks := .later }
def CpuTellsUptoCardSaid : Prop := Claim7.holds Tryd.pinned (.plain (OpenSpec.upto cpuTellsSpec)) cpuTellsUptoCard

/-- THE SECOND FORM's CARD OF 'sundiallaw14.CpuBack'. -/
def cpuBackUptoCard : Claim7 := { stood := { row := cpuBackUptoRow, standIns := [], harness := (true, "a9ea24d46e5c2a26ca8314a4be819caf4f82cb52911353aaa9332a6527de3b93"), looks := false }, kinds := [], alts := [], laidByText := true, laidKinds := [.data], laidTests := true, laidLooks := .later }
def CpuBackUptoCardSaid : Prop := Claim7.holds Tryd.pinned (.plain (OpenSpec.upto cpuBackSpec)) cpuBackUptoCard

/-- THE SECOND FORM's CARD OF 'sundiallaw14.CpuConds'. -/
def cpuCondsUptoCard : Claim7 := { stood := { row := cpuCondsUptoRow, standIns := [], harness := (true, "a9ea24d46e5c2a26ca8314a4be819caf4f82cb52911353aaa9332a6527de3b93"), looks := false }, kinds := [], alts := [], laidByText := true, laidKinds := [.data], laidTests := true, laidLooks := .later }
def CpuCondsUptoCardSaid : Prop := Claim7.holds Tryd.pinned (.plain (OpenSpec.upto cpuCondsSpec)) cpuCondsUptoCard

/-- THE SECOND FORM's CARD OF 'sundiallaw14.CpuAddress'. -/
def cpuAddressUptoCard : Claim7 := { stood := { row := cpuAddressUptoRow, standIns := [], harness := (true, "a9ea24d46e5c2a26ca8314a4be819caf4f82cb52911353aaa9332a6527de3b93"), looks := false }, kinds := [], alts := [], laidByText := true, laidKinds := [.data], laidTests := true, laidLooks := .later }
def CpuAddressUptoCardSaid : Prop := Claim7.holds Tryd.pinned (.plain (OpenSpec.upto cpuAddressSpec)) cpuAddressUptoCard
end Rows
end Go.Proofs.YtkpnafgmjcnniaaDoor
