/-
  NARROWER THAN 'FOR EVERY INPUT', by the rows' own cells (each row's printed sentence says how): OperandTells: laid · OperandBack: laid · OperandRight: laid · OperandParts: laid · OperandLong: laid · CpuTells: laid · CpuBack: laid · CpuConds: laid · CpuAddress: laid.
  DERIVED. THE GIVEN ROWS OF THIS SEAT. 9 by the template 'for every input the law returns true; each argument reads behind the call as it read before'; 0 by the template 'total and deterministic' (their statements: YtkpnafgmjcnniaaDoorTotals.lean).
  GIVEN WITH THE SEED: the statements are not yours to turn. If you find one false, say at which input.
  Laid BY PROGRAM, IN A SANDBOX (cutbox-rows.mjs): the forced cells as the released guide's own fill.sh prints them over the translation 49a81d681ed37fb5… (all of the seat's roots in one cut). By AI agents, Wed Nov 11 2026. No macro, syntax, notation, axiom, sorry.
-/
import Derived.Test.YtkpnafgmjcnniaaDoorChecked
import GoSem.Claim
import GoSem.ClaimJoined
import GoSem.ClaimMapViews
import Derived.JoinedTies
import Derived.KernelRfl
namespace Go.Proofs.YtkpnafgmjcnniaaDoor
/- THE CELL 'sum', in the pinned program and in every row, IS THE sha256 OF THE DUMP (.gsa) THAT YtkpnafgmjcnniaaDoorProg.lean LOADS. Nothing in Lean hashes anything: it is a label: what it is worth is what the hold of that sum in a sandbox is worth. -/
noncomputable def Tryd.pinned : Pinned := { name := "ytkpnafgmjcnniaadoor", sum := "49a81d681ed37fb5e6f3b03d00901c5c35c293e641e334df73b9fbc75db057e5", checked := Tryd.checked }
namespace Rows
def none {H : Type} : Left H := { results := [], args := [] }

/- WHAT THE LISTED PACKAGE-LEVEL VARIABLES READ AS WHEN THE CALL BEGINS. Each datum BY PROGRAM (the guide's laid-datum.mjs) off the statement by which the dump's own 'gosem.cut.vars' lays the variable. In a bare row this is a premise. The card (YtkpnafgmjcnniaaDoorCards.lean) ties it to the program's text. -/
def laid_sundial_bits_masks {H : Type} : DataW H := .agg [.lit (.int .u64 255), .lit (.int .u64 65535), .lit (.int .u64 16777215), .lit (.int .u64 4294967295), .lit (.int .u64 1099511627775), .lit (.int .u64 281474976710655), .lit (.int .u64 72057594037927935), .lit (.int .u64 18446744073709551615)]

/-- 'sundiallaw08.OperandTells': WHATEVER THE INPUT: true; the input reads as it did. -/
def operandTellsSpec : ChangeSpec := { name := "operandTells", fn := fun _ => fun
  | [d1, d2, d3, d4, d5] => { results := [.lit (.bool true)], args := [d1, d2, d3, d4, d5] }
  | _ => none }
def operandTellsRow : OpenClaim := { program := "ytkpnafgmjcnniaadoor", sum := "49a81d681ed37fb5e6f3b03d00901c5c35c293e641e334df73b9fbc75db057e5", func := "sundial/sundiallaw08.OperandTells", spec := "operandTells", unfollowed := true, recurses := true, named := ["sundial/bits.masks"], apart := false, laid := [("sundial/bits.masks", laid_sundial_bits_masks)] }
def OperandTellsSaid : Prop := operandTellsRow.holds Tryd.pinned (OpenSpec.ofChange operandTellsSpec)

/-- ITS FALSE NEIGHBOUR: 'it returns false'. Refute it at one input. -/
def operandTellsWrong : ChangeSpec := { name := "operandTells", fn := fun _ => fun
  | [d1, d2, d3, d4, d5] => { results := [.lit (.bool false)], args := [d1, d2, d3, d4, d5] }
  | _ => none }
def OperandTellsWrongFalsely : Prop := operandTellsRow.holds Tryd.pinned (OpenSpec.ofChange operandTellsWrong)

/-- 'sundiallaw08.OperandBack': WHATEVER THE INPUT: true; the input reads as it did. -/
def operandBackSpec : ChangeSpec := { name := "operandBack", fn := fun _ => fun
  | [d1, d2, d3] => { results := [.lit (.bool true)], args := [d1, d2, d3] }
  | _ => none }
def operandBackRow : OpenClaim := { program := "ytkpnafgmjcnniaadoor", sum := "49a81d681ed37fb5e6f3b03d00901c5c35c293e641e334df73b9fbc75db057e5", func := "sundial/sundiallaw08.OperandBack", spec := "operandBack", unfollowed := true, recurses := true, named := ["sundial/bits.masks"], apart := false, laid := [("sundial/bits.masks", laid_sundial_bits_masks)] }
def OperandBackSaid : Prop := operandBackRow.holds Tryd.pinned (OpenSpec.ofChange operandBackSpec)

/-- ITS FALSE NEIGHBOUR: 'it returns false'. Refute it at one input. -/
def operandBackWrong : ChangeSpec := { name := "operandBack", fn := fun _ => fun
  | [d1, d2, d3] => { results := [.lit (.bool false)], args := [d1, d2, d3] }
  | _ => none }
def OperandBackWrongFalsely : Prop := operandBackRow.holds Tryd.pinned (OpenSpec.ofChange operandBackWrong)

/-- 'sundiallaw08.OperandRight': WHATEVER THE INPUT: true; the input reads as it did. -/
def operandRightSpec : ChangeSpec := { name := "operandRight", fn := fun _ => fun
  | [d1, d2] => { results := [.lit (.bool true)], args := [d1, d2] }
  | _ => none }
def operandRightRow : OpenClaim := { program := "ytkpnafgmjcnniaadoor", sum := "49a81d681ed37fb5e6f3b03d00901c5c35c293e641e334df73b9fbc75db057e5", func := "sundial/sundiallaw08.OperandRight", spec := "operandRight", unfollowed := true, recurses := true, named := ["sundial/bits.masks"], apart := false, laid := [("sundial/bits.masks", laid_sundial_bits_masks)] }
def OperandRightSaid : Prop := operandRightRow.holds Tryd.pinned (OpenSpec.ofChange operandRightSpec)

/-- ITS FALSE NEIGHBOUR: 'it returns false'. Refute it at one input. -/
def operandRightWrong : ChangeSpec := { name := "operandRight", fn := fun _ => fun
  | [d1, d2] => { results := [.lit (.bool false)], args := [d1, d2] }
  | _ => none }
def OperandRightWrongFalsely : Prop := operandRightRow.holds Tryd.pinned (OpenSpec.ofChange operandRightWrong)

/-- 'sundiallaw08.OperandParts': WHATEVER THE INPUT: true; the input reads as it did. -/
def operandPartsSpec : ChangeSpec := { name := "operandParts", fn := fun _ => fun
  | [d1, d2] => { results := [.lit (.bool true)], args := [d1, d2] }
  | _ => none }
def operandPartsRow : OpenClaim := { program := "ytkpnafgmjcnniaadoor", sum := "49a81d681ed37fb5e6f3b03d00901c5c35c293e641e334df73b9fbc75db057e5", func := "sundial/sundiallaw08.OperandParts", spec := "operandParts", unfollowed := true, recurses := true, named := ["sundial/bits.masks"], apart := false, laid := [("sundial/bits.masks", laid_sundial_bits_masks)] }
def OperandPartsSaid : Prop := operandPartsRow.holds Tryd.pinned (OpenSpec.ofChange operandPartsSpec)

/-- ITS FALSE NEIGHBOUR: 'it returns false'. Refute it at one input. -/
def operandPartsWrong : ChangeSpec := { name := "operandParts", fn := fun _ => fun
  | [d1, d2] => { results := [.lit (.bool false)], args := [d1, d2] }
  | _ => none }
def OperandPartsWrongFalsely : Prop := operandPartsRow.holds Tryd.pinned (OpenSpec.ofChange operandPartsWrong)

/-- 'sundiallaw08.OperandLong': WHATEVER THE INPUT: true; the input reads as it did. -/
def operandLongSpec : ChangeSpec := { name := "operandLong", fn := fun _ => fun
  | [d1, d2] => { results := [.lit (.bool true)], args := [d1, d2] }
  | _ => none }
def operandLongRow : OpenClaim := { program := "ytkpnafgmjcnniaadoor", sum := "49a81d681ed37fb5e6f3b03d00901c5c35c293e641e334df73b9fbc75db057e5", func := "sundial/sundiallaw08.OperandLong", spec := "operandLong", unfollowed := true, recurses := true, named := ["sundial/bits.masks"], apart := false, laid := [("sundial/bits.masks", laid_sundial_bits_masks)] }
def OperandLongSaid : Prop := operandLongRow.holds Tryd.pinned (OpenSpec.ofChange operandLongSpec)

/-- ITS FALSE NEIGHBOUR: 'it returns false'. Refute it at one input. -/
def operandLongWrong : ChangeSpec := { name := "operandLong", fn := fun _ => fun
  | [d1, d2] => { results := [.lit (.bool false)], args := [d1, d2] }
  | _ => none }
def OperandLongWrongFalsely : Prop := operandLongRow.holds Tryd.pinned (OpenSpec.ofChange operandLongWrong)

/-- 'sundiallaw14.CpuTells': WHATEVER THE INPUT: true; the input reads as it did. -/
def cpuTellsSpec : ChangeSpec := { name := "cpuTells", fn := fun _ => fun
  | [d1, d2, d3, d4, d5, d6, d7] => { results := [.lit (.bool true)], args := [d1, d2, d3, d4, d5, d6, d7] }
  | _ => none }
def cpuTellsRow : OpenClaim := { program := "ytkpnafgmjcnniaadoor", sum := "49a81d681ed37fb5e6f3b03d00901c5c35c293e641e334df73b9fbc75db057e5", func := "sundial/sundiallaw14.CpuTells", spec := "cpuTells", unfollowed := true, recurses := true, named := ["sundial/bits.masks"], apart := false, laid := [("sundial/bits.masks", laid_sundial_bits_masks)] }
def CpuTellsSaid : Prop := cpuTellsRow.holds Tryd.pinned (OpenSpec.ofChange cpuTellsSpec)

/-- ITS FALSE NEIGHBOUR: 'it returns false'. Refute it at one input. -/
def cpuTellsWrong : ChangeSpec := { name := "cpuTells", fn := fun _ => fun
  | [d1, d2, d3, d4, d5, d6, d7] => { results := [.lit (.bool false)], args := [d1, d2, d3, d4, d5, d6, d7] }
  | _ => none }
def CpuTellsWrongFalsely : Prop := cpuTellsRow.holds Tryd.pinned (OpenSpec.ofChange cpuTellsWrong)

/-- 'sundiallaw14.CpuBack': WHATEVER THE INPUT: true; the input reads as it did. -/
def cpuBackSpec : ChangeSpec := { name := "cpuBack", fn := fun _ => fun
  | [d1, d2, d3, d4] => { results := [.lit (.bool true)], args := [d1, d2, d3, d4] }
  | _ => none }
def cpuBackRow : OpenClaim := { program := "ytkpnafgmjcnniaadoor", sum := "49a81d681ed37fb5e6f3b03d00901c5c35c293e641e334df73b9fbc75db057e5", func := "sundial/sundiallaw14.CpuBack", spec := "cpuBack", unfollowed := true, recurses := true, named := ["sundial/bits.masks"], apart := false, laid := [("sundial/bits.masks", laid_sundial_bits_masks)] }
def CpuBackSaid : Prop := cpuBackRow.holds Tryd.pinned (OpenSpec.ofChange cpuBackSpec)

/-- ITS FALSE NEIGHBOUR: 'it returns false'. Refute it at one input. -/
def cpuBackWrong : ChangeSpec := { name := "cpuBack", fn := fun _ => fun
  | [d1, d2, d3, d4] => { results := [.lit (.bool false)], args := [d1, d2, d3, d4] }
  | _ => none }
def CpuBackWrongFalsely : Prop := cpuBackRow.holds Tryd.pinned (OpenSpec.ofChange cpuBackWrong)

/-- 'sundiallaw14.CpuConds': WHATEVER THE INPUT: true; the input reads as it did. -/
def cpuCondsSpec : ChangeSpec := { name := "cpuConds", fn := fun _ => fun
  | [d1, d2] => { results := [.lit (.bool true)], args := [d1, d2] }
  | _ => none }
def cpuCondsRow : OpenClaim := { program := "ytkpnafgmjcnniaadoor", sum := "49a81d681ed37fb5e6f3b03d00901c5c35c293e641e334df73b9fbc75db057e5", func := "sundial/sundiallaw14.CpuConds", spec := "cpuConds", unfollowed := true, recurses := true, named := ["sundial/bits.masks"], apart := false, laid := [("sundial/bits.masks", laid_sundial_bits_masks)] }
def CpuCondsSaid : Prop := cpuCondsRow.holds Tryd.pinned (OpenSpec.ofChange cpuCondsSpec)

/-- ITS FALSE NEIGHBOUR: 'it returns false'. Refute it at one input. -/
def cpuCondsWrong : ChangeSpec := { name := "cpuConds", fn := fun _ => fun
  | [d1, d2] => { results := [.lit (.bool false)], args := [d1, d2] }
  | _ => none }
def CpuCondsWrongFalsely : Prop := cpuCondsRow.holds Tryd.pinned (OpenSpec.ofChange cpuCondsWrong)

/-- 'sundiallaw14.CpuAddress': WHATEVER THE INPUT: true; the input reads as it did. -/
def cpuAddressSpec : ChangeSpec := { name := "cpuAddress", fn := fun _ => fun
  | [d1, d2, d3, d4] => { results := [.lit (.bool true)], args := [d1, d2, d3, d4] }
  | _ => none }
def cpuAddressRow : OpenClaim := { program := "ytkpnafgmjcnniaadoor", sum := "49a81d681ed37fb5e6f3b03d00901c5c35c293e641e334df73b9fbc75db057e5", func := "sundial/sundiallaw14.CpuAddress", spec := "cpuAddress", unfollowed := true, recurses := true, named := ["sundial/bits.masks"], apart := false, laid := [("sundial/bits.masks", laid_sundial_bits_masks)] }
def CpuAddressSaid : Prop := cpuAddressRow.holds Tryd.pinned (OpenSpec.ofChange cpuAddressSpec)

/-- ITS FALSE NEIGHBOUR: 'it returns false'. Refute it at one input. -/
def cpuAddressWrong : ChangeSpec := { name := "cpuAddress", fn := fun _ => fun
  | [d1, d2, d3, d4] => { results := [.lit (.bool false)], args := [d1, d2, d3, d4] }
  | _ => none }
def CpuAddressWrongFalsely : Prop := cpuAddressRow.holds Tryd.pinned (OpenSpec.ofChange cpuAddressWrong)

/- THE SECOND FORM. 'bulk': how many values and letters a reading holds, each counted each time it is reached (what is shared counts as often as it is met; a slice's spare places count too). A statement '..UptoSaid' is the law's where the arguments, and the package variables that the reading takes, are together of bulk at most 1048576: NARROWER than '..Said'. Prove '..Said' where nothing that the law and all that it calls make is longer than what came in: it says more and counts as full. Else prove '..UptoSaid'. A law counts once. -/
mutual
def uptoBulk {H : Type} : DataW H → Nat
  | .lit (.string bytes) => bytes.length + 1
  | .lit _ => 1
  | .nil => 1
  | .ptr d => uptoBulk d + 1
  | .slice elems spare => uptoBulkAll elems + uptoBulkAll spare + 1
  | .agg parts => uptoBulkAll parts + 1
  | .iface _ d => uptoBulk d + 1
  | .map entries => uptoBulkEntries entries + 1
  | .held _ => 1
def uptoBulkAll {H : Type} : List (DataW H) → Nat
  | [] => 0
  | d :: r => uptoBulk d + uptoBulkAll r
def uptoBulkEntries {H : Type} : List (Lit × DataW H) → Nat
  | [] => 0
  | x :: r => uptoBulkEntry x + uptoBulkEntries r
def uptoBulkEntry {H : Type} : Lit × DataW H → Nat
  | (.string bytes, d) => bytes.length + uptoBulk d + 1
  | (_, d) => uptoBulk d + 1
 end
def uptoSmall : (H : Type) → List (DataW H) → Bool := fun _ ds => decide (uptoBulkAll ds ≤ 1048576)
def OpenSpec.upto (s : _root_.Go.ChangeSpec) : _root_.Go.OpenSpec := { _root_.Go.OpenSpec.ofChange s with cond := some uptoSmall }

/-- 'sundiallaw08.OperandTells', WHERE WHAT IT READS IS OF BULK AT MOST 1048576: true; the input reads as it did. -/
def operandTellsUptoRow : OpenClaim := { program := "ytkpnafgmjcnniaadoor", sum := "49a81d681ed37fb5e6f3b03d00901c5c35c293e641e334df73b9fbc75db057e5", func := "sundial/sundiallaw08.OperandTells", spec := "operandTells", unfollowed := true, recurses := true, named := ["sundial/bits.masks"], apart := false, laid := [("sundial/bits.masks", laid_sundial_bits_masks)], narrowed := true }
def OperandTellsUptoSaid : Prop := operandTellsUptoRow.holds Tryd.pinned (OpenSpec.upto operandTellsSpec)

/-- 'sundiallaw08.OperandBack', WHERE WHAT IT READS IS OF BULK AT MOST 1048576: true; the input reads as it did. -/
def operandBackUptoRow : OpenClaim := { program := "ytkpnafgmjcnniaadoor", sum := "49a81d681ed37fb5e6f3b03d00901c5c35c293e641e334df73b9fbc75db057e5", func := "sundial/sundiallaw08.OperandBack", spec := "operandBack", unfollowed := true, recurses := true, named := ["sundial/bits.masks"], apart := false, laid := [("sundial/bits.masks", laid_sundial_bits_masks)], narrowed := true }
def OperandBackUptoSaid : Prop := operandBackUptoRow.holds Tryd.pinned (OpenSpec.upto operandBackSpec)

/-- 'sundiallaw08.OperandRight', WHERE WHAT IT READS IS OF BULK AT MOST 1048576: true; the input reads as it did. -/
def operandRightUptoRow : OpenClaim := { program := "ytkpnafgmjcnniaadoor", sum := "49a81d681ed37fb5e6f3b03d00901c5c35c293e641e334df73b9fbc75db057e5", func := "sundial/sundiallaw08.OperandRight", spec := "operandRight", unfollowed := true, recurses := true, named := ["sundial/bits.masks"], apart := false, laid := [("sundial/bits.masks", laid_sundial_bits_masks)], narrowed := true }
def OperandRightUptoSaid : Prop := operandRightUptoRow.holds Tryd.pinned (OpenSpec.upto operandRightSpec)

/-- 'sundiallaw08.OperandParts', WHERE WHAT IT READS IS OF BULK AT MOST 1048576: true; the input reads as it did. -/
def operandPartsUptoRow : OpenClaim := { program := "ytkpnafgmjcnniaadoor", sum := "49a81d681ed37fb5e6f3b03d00901c5c35c293e641e334df73b9fbc75db057e5", func := "sundial/sundiallaw08.OperandParts", spec := "operandParts", unfollowed := true, recurses := true, named := ["sundial/bits.masks"], apart := false, laid := [("sundial/bits.masks", laid_sundial_bits_masks)], narrowed := true }
def OperandPartsUptoSaid : Prop := operandPartsUptoRow.holds Tryd.pinned (OpenSpec.upto operandPartsSpec)

/-- 'sundiallaw08.OperandLong', WHERE WHAT IT READS IS OF BULK AT MOST 1048576: true; the input reads as it did. -/
def operandLongUptoRow : OpenClaim := { program := "ytkpnafgmjcnniaadoor", sum := "49a81d681ed37fb5e6f3b03d00901c5c35c293e641e334df73b9fbc75db057e5", func := "sundial/sundiallaw08.OperandLong", spec := "operandLong", unfollowed := true, recurses := true, named := ["sundial/bits.masks"], apart := false, laid := [("sundial/bits.masks", laid_sundial_bits_masks)], narrowed := true }
def OperandLongUptoSaid : Prop := operandLongUptoRow.holds Tryd.pinned (OpenSpec.upto operandLongSpec)

/-- 'sundiallaw14.CpuTells', WHERE WHAT IT READS IS OF BULK AT MOST 1048576: true; the input reads as it did. -/
def cpuTellsUptoRow : OpenClaim := { program := "ytkpnafgmjcnniaadoor", sum := "49a81d681ed37fb5e6f3b03d00901c5c35c293e641e334df73b9fbc75db057e5", func := "sundial/sundiallaw14.CpuTells", spec := "cpuTells", unfollowed := true, recurses := true, named := ["sundial/bits.masks"], apart := false, laid := [("sundial/bits.masks", laid_sundial_bits_masks)], narrowed := true }
def CpuTellsUptoSaid : Prop := cpuTellsUptoRow.holds Tryd.pinned (OpenSpec.upto cpuTellsSpec)

/-- 'sundiallaw14.CpuBack', WHERE WHAT IT READS IS OF BULK AT MOST 1048576: true; the input reads as it did. -/
def cpuBackUptoRow : OpenClaim := { program := "ytkpnafgmjcnniaadoor", sum := "49a81d681ed37fb5e6f3b03d00901c5c35c293e641e334df73b9fbc75db057e5", func := "sundial/sundiallaw14.CpuBack", spec := "cpuBack", unfollowed := true, recurses := true, named := ["sundial/bits.masks"], apart := false, laid := [("sundial/bits.masks", laid_sundial_bits_masks)], narrowed := true }
def CpuBackUptoSaid : Prop := cpuBackUptoRow.holds Tryd.pinned (OpenSpec.upto cpuBackSpec)

/-- 'sundiallaw14.CpuConds', WHERE WHAT IT READS IS OF BULK AT MOST 1048576: true; the input reads as it did. -/
def cpuCondsUptoRow : OpenClaim := { program := "ytkpnafgmjcnniaadoor", sum := "49a81d681ed37fb5e6f3b03d00901c5c35c293e641e334df73b9fbc75db057e5", func := "sundial/sundiallaw14.CpuConds", spec := "cpuConds", unfollowed := true, recurses := true, named := ["sundial/bits.masks"], apart := false, laid := [("sundial/bits.masks", laid_sundial_bits_masks)], narrowed := true }
def CpuCondsUptoSaid : Prop := cpuCondsUptoRow.holds Tryd.pinned (OpenSpec.upto cpuCondsSpec)

/-- 'sundiallaw14.CpuAddress', WHERE WHAT IT READS IS OF BULK AT MOST 1048576: true; the input reads as it did. -/
def cpuAddressUptoRow : OpenClaim := { program := "ytkpnafgmjcnniaadoor", sum := "49a81d681ed37fb5e6f3b03d00901c5c35c293e641e334df73b9fbc75db057e5", func := "sundial/sundiallaw14.CpuAddress", spec := "cpuAddress", unfollowed := true, recurses := true, named := ["sundial/bits.masks"], apart := false, laid := [("sundial/bits.masks", laid_sundial_bits_masks)], narrowed := true }
def CpuAddressUptoSaid : Prop := cpuAddressUptoRow.holds Tryd.pinned (OpenSpec.upto cpuAddressSpec)

end Rows
end Go.Proofs.YtkpnafgmjcnniaaDoor
