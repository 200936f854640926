/-
  DERIVED. GIVEN WITH THE SEED: THE CARDS: each row of YtmlgaaolofgdiaaDoorRows.lean that lists a variable, with what it lists TIED to the program's text (the seventh form; the later family's looks); each row that meets fmt, with fmt's text TOLD by the authors' own Lean function (tested against real Go, not proved from fmt's source: count such statements apart). THE CARD IS WHAT COUNTS. Prove the row's statement (the work); the ties are given (YtmlgaaolofgdiaaDoorTie.lean); close each card by the builder's one call (the guide's Derived/Test/ToyasCard.lean, 'card_holds'). Laid BY PROGRAM, IN A SANDBOX (cutbox-door.mjs). By AI agents, Wed Nov 11 2026. No macro, syntax, notation, axiom, sorry.
-/
import Derived.Test.YtmlgaaolofgdiaaDoorRows
import GoSem.ClaimSeven
namespace Go.Proofs.YtmlgaaolofgdiaaDoor
namespace Rows

/-- THE TIED CARD OF 'sundiallaw22.StridedIn'. -/
def stridedInCard : Claim7 := { stood := { row := stridedInRow, standIns := [], harness := (true, "22d5e76d3a57f85770865705fb1275bd35ed19e1f29eaa3b1a7883085f20b17d"), looks := false }, kinds := [], alts := [], laidByText := true, laidKinds := [.data], laidTests := true, laidLooks := .later }
def StridedInCardSaid : Prop := Claim7.holds Tryd.pinned (.plain (OpenSpec.ofChange stridedInSpec)) stridedInCard

/-- THE TIED CARD OF 'sundiallaw22.StridedWidens'. -/
def stridedWidensCard : Claim7 := { stood := { row := stridedWidensRow, standIns := [], harness := (true, "22d5e76d3a57f85770865705fb1275bd35ed19e1f29eaa3b1a7883085f20b17d"), looks := false }, kinds := [], alts := [], laidByText := true, laidKinds := [.data], laidTests := true, laidLooks := .later }
def StridedWidensCardSaid : Prop := Claim7.holds Tryd.pinned (.plain (OpenSpec.ofChange stridedWidensSpec)) stridedWidensCard

/-- THE TIED CARD OF 'sundiallaw22.StridedOrder'. -/
def stridedOrderCard : Claim7 := { stood := { row := stridedOrderRow, standIns := [], harness := (true, "22d5e76d3a57f85770865705fb1275bd35ed19e1f29eaa3b1a7883085f20b17d"), looks := false }, kinds := [], alts := [], laidByText := true, laidKinds := [.data], laidTests := true, laidLooks := .later }
def StridedOrderCardSaid : Prop := Claim7.holds Tryd.pinned (.plain (OpenSpec.ofChange stridedOrderSpec)) stridedOrderCard

/-- THE SECOND FORM's CARD OF 'sundiallaw22.StridedIn'. -/
def stridedInUptoCard : Claim7 := { stood := { row := stridedInUptoRow, standIns := [], harness := (true, "22d5e76d3a57f85770865705fb1275bd35ed19e1f29eaa3b1a7883085f20b17d"), looks := false }, kinds := [], alts := [], laidByText := true, laidKinds := [.data], laidTests := true, laidLooks := .later }
def StridedInUptoCardSaid : Prop := Claim7.holds Tryd.pinned (.plain (OpenSpec.upto stridedInSpec)) stridedInUptoCard

/-- THE SECOND FORM's CARD OF 'sundiallaw22.StridedWidens'. -/
def stridedWidensUptoCard : Claim7 := { stood := { row := stridedWidensUptoRow, standIns := [], harness := (true, "22d5e76d3a57f85770865705fb1275bd35ed19e1f29eaa3b1a7883085f20b17d"), looks := false }, kinds := [], alts := [], laidByText := true, laidKinds := [.data], laidTests := true, laidLooks := .later }
def StridedWidensUptoCardSaid : Prop := Claim7.holds Tryd.pinned (.plain (OpenSpec.upto stridedWidensSpec)) stridedWidensUptoCard

/-- THE SECOND FORM's CARD OF 'sundiallaw22.StridedOrder'. -/
def stridedOrderUptoCard : Claim7 := { stood := { row := stridedOrderUptoRow, standIns := [], harness := (true, "22d5e76d3a57f85770865705fb1275bd35ed19e1f29eaa3b1a7883085f20b17d"), looks := false }, kinds := [], alts := [], laidByText := true, laidKinds := [.data], laidTests := true, laidLooks := .later }
def StridedOrderUptoCardSaid : Prop := Claim7.holds Tryd.pinned (.plain (OpenSpec.upto stridedOrderSpec)) stridedOrderUptoCard
end Rows
end Go.Proofs.YtmlgaaolofgdiaaDoor
