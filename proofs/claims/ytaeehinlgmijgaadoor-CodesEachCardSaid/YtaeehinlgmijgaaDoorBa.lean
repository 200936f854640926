/- Forms of opcodes, as data. -/
import Derived.Test.YtaeehinlgmijgaaDoorRows
import Derived.WalkKit
import Derived.ProofKit
import Derived.Below
import Derived.Lib.Hide
import Derived.Handy
import Derived.WalkSpells
import Derived.WalkLawsBesides
import Derived.Deep.WholeRow
import Derived.Deep.MidRow
import Derived.Deep.RegionHeld3
import Derived.Deep.DrawnRows
import Derived.RegionTactic
import Derived.Deep.DeepCutAuto
import Derived.Deep.OwnRows
import Derived.Laws.BitsAllLaws
import Derived.LoopIn
import Derived.LoopNIn
import Derived.Maps.AppendAt
import Derived.OwnWalkIn
import Derived.RangeFuncBound
import Derived.RangeFuncBox
import Derived.RangeFuncCalls
import Derived.RangeFuncLeaves
import Derived.RangeFuncNested
import Derived.Shelf.Abstract
import Derived.Shelf.RegionOpen
import Derived.TacticsInMore
import Derived.IntWalk
namespace Go.Proofs.YtaeehinlgmijgaaDoor
open Go.RowKit
set_option linter.unusedVariables false
set_option linter.unusedSimpArgs false
/-- A form: prefix, map, opcode, plus, digit, deed, condition, width, kind, number, must, vector, byte, memory. -/
abbrev Fm : Type := Nat × Nat × Nat × Bool × Int × Nat × Nat × Int × Nat × Int × Bool × Bool × Bool × Bool
def Fm.p (f : Fm) : Nat := f.1
def Fm.m (f : Fm) : Nat := f.2.1
def Fm.o (f : Fm) : Nat := f.2.2.1
def Fm.plus (f : Fm) : Bool := f.2.2.2.1
def Fm.d (f : Fm) : Int := f.2.2.2.2.1
def Fm.deed (f : Fm) : Nat := f.2.2.2.2.2.1
def Fm.cc (f : Fm) : Nat := f.2.2.2.2.2.2.1
def Fm.wide (f : Fm) : Int := f.2.2.2.2.2.2.2.1
def Fm.kind (f : Fm) : Nat := f.2.2.2.2.2.2.2.2.1
def Fm.imm (f : Fm) : Int := f.2.2.2.2.2.2.2.2.2.1
def Fm.must (f : Fm) : Bool := f.2.2.2.2.2.2.2.2.2.2.1
def Fm.vec (f : Fm) : Bool := f.2.2.2.2.2.2.2.2.2.2.2.1
def Fm.byte (f : Fm) : Bool := f.2.2.2.2.2.2.2.2.2.2.2.2.1
def Fm.mem (f : Fm) : Bool := f.2.2.2.2.2.2.2.2.2.2.2.2.2
def fcs (p m o : Nat) (plus : Bool) (d : Int) (deed cc : Nat) (wide : Int) (kind : Nat) (imm : Int) (must vec byte mem : Bool) : List Value :=
  [.int .u8 (p : Nat), .int .u8 (m : Nat), .int .u8 (o : Nat), .bool plus, .int .i64 d, .int .u8 (deed : Nat), .int .u8 (cc : Nat), .int .i64 wide, .int .u8 (kind : Nat), .int .i64 imm, .bool must, .bool vec, .bool byte, .bool mem]
/-- A form's cells. -/
def Fm.cs (f : Fm) : List Value := fcs f.p f.m f.o f.plus f.d f.deed f.cc f.wide f.kind f.imm f.must f.vec f.byte f.mem
theorem Fm.cs_len (f : Fm) : f.cs.length = 14 := rfl
/-- A form as a value. -/
def Fm.v (f : Fm) : Value := .agg f.cs.toArray
def plainL : List Fm := [
  (0, 0, 137, false, (-1 : Int), 1, 0, (0 : Int), 1, (0 : Int), false, false, false, false),
  (0, 0, 139, false, (-1 : Int), 1, 0, (0 : Int), 2, (0 : Int), false, false, false, false),
  (0, 0, 199, false, (0 : Int), 1, 0, (0 : Int), 4, (4 : Int), false, false, false, false),
  (0, 0, 184, true, (-1 : Int), 1, 0, (8 : Int), 7, (8 : Int), true, false, false, false),
  (0, 0, 136, false, (-1 : Int), 1, 0, (1 : Int), 1, (0 : Int), false, false, true, false),
  (0, 0, 138, false, (-1 : Int), 1, 0, (1 : Int), 2, (0 : Int), false, false, true, false),
  (0, 0, 198, false, (0 : Int), 1, 0, (1 : Int), 4, (1 : Int), false, false, true, false),
  (0, 0, 141, false, (-1 : Int), 2, 0, (0 : Int), 2, (0 : Int), false, false, false, true),
  (0, 0, 133, false, (-1 : Int), 11, 0, (0 : Int), 1, (0 : Int), false, false, false, false),
  (0, 0, 247, false, (0 : Int), 11, 0, (0 : Int), 4, (4 : Int), false, false, false, false),
  (0, 0, 255, false, (0 : Int), 12, 0, (0 : Int), 3, (0 : Int), false, false, false, false),
  (0, 0, 255, false, (1 : Int), 13, 0, (0 : Int), 3, (0 : Int), false, false, false, false),
  (0, 0, 247, false, (2 : Int), 15, 0, (0 : Int), 3, (0 : Int), false, false, false, false),
  (0, 0, 247, false, (3 : Int), 14, 0, (0 : Int), 3, (0 : Int), false, false, false, false),
  (0, 0, 247, false, (4 : Int), 22, 0, (0 : Int), 3, (0 : Int), false, false, false, false),
  (0, 0, 247, false, (6 : Int), 23, 0, (0 : Int), 3, (0 : Int), false, false, false, false),
  (0, 1, 175, false, (-1 : Int), 21, 0, (0 : Int), 2, (0 : Int), false, false, false, false),
  (0, 0, 80, true, (-1 : Int), 24, 0, (8 : Int), 6, (0 : Int), false, false, false, false),
  (0, 0, 88, true, (-1 : Int), 25, 0, (8 : Int), 6, (0 : Int), false, false, false, false),
  (0, 0, 232, false, (-1 : Int), 26, 0, (8 : Int), 8, (4 : Int), false, false, false, false),
  (0, 0, 195, false, (-1 : Int), 27, 0, (8 : Int), 0, (0 : Int), false, false, false, false),
  (0, 0, 233, false, (-1 : Int), 28, 0, (8 : Int), 8, (4 : Int), false, false, false, false),
  (0, 0, 235, false, (-1 : Int), 28, 0, (8 : Int), 8, (1 : Int), false, false, false, false),
  (0, 0, 255, false, (4 : Int), 28, 0, (8 : Int), 3, (0 : Int), false, false, false, false),
  (0, 1, 182, false, (-1 : Int), 32, 0, (0 : Int), 2, (0 : Int), false, false, true, false),
  (0, 1, 190, false, (-1 : Int), 33, 0, (0 : Int), 2, (0 : Int), false, false, true, false),
  (0, 0, 144, false, (-1 : Int), 34, 0, (8 : Int), 0, (0 : Int), false, false, false, false),
  (243, 1, 111, false, (-1 : Int), 35, 0, (16 : Int), 2, (0 : Int), false, true, false, false),
  (243, 1, 127, false, (-1 : Int), 35, 0, (16 : Int), 1, (0 : Int), false, true, false, false),
  (102, 1, 239, false, (-1 : Int), 36, 0, (16 : Int), 2, (0 : Int), false, true, false, false),
  (102, 2, 220, false, (-1 : Int), 37, 0, (16 : Int), 2, (0 : Int), false, true, false, false),
  (102, 2, 221, false, (-1 : Int), 38, 0, (16 : Int), 2, (0 : Int), false, true, false, false),
  (102, 3, 68, false, (-1 : Int), 39, 0, (16 : Int), 2, (1 : Int), false, true, false, false)]
def sumV : List Nat := [3, 4, 5, 6, 7, 8, 9, 10]
def shiftV : List Nat := [19, 20, 0, 0, 16, 17, 0, 18]
def mkF (p m o : Nat) (plus : Bool) (d : Int) (deed cc : Nat) (wide : Int) (kind : Nat) (imm : Int) (byte : Bool) : Fm := (p, m, o, plus, d, deed, cc, wide, kind, imm, false, false, byte, false)
def sum1 (k : Nat) : List Fm := [mkF 0 0 (8 * k + 1) false (-1) (sumV.getD k 0) 0 0 1 0 false, mkF 0 0 (8 * k + 3) false (-1) (sumV.getD k 0) 0 0 2 0 false]
def sum2 (k : Nat) : List Fm := [mkF 0 0 0x83 false k (sumV.getD k 0) 0 0 4 1 false, mkF 0 0 0x81 false k (sumV.getD k 0) 0 0 4 4 false]
def sumL : List Fm := (List.range 8).flatMap sum1 ++ (List.range 8).flatMap sum2
def shift1 (k : Nat) : List Fm := if shiftV.getD k 0 = 0 then [] else [mkF 0 0 0xc1 false k (shiftV.getD k 0) 0 0 4 1 false, mkF 0 0 0xd3 false k (shiftV.getD k 0) 0 0 5 0 false]
def shiftL : List Fm := (List.range 8).flatMap shift1
def cond1 (c : Nat) : List Fm := [mkF 0 1 (0x80 + c) false (-1) 29 c 8 8 4 false, mkF 0 0 (0x70 + c) false (-1) 29 c 8 8 1 false]
def cond2 (c : Nat) : List Fm := [mkF 0 1 (0x40 + c) false (-1) 30 c 0 2 0 false]
def cond3 (c : Nat) : List Fm := [mkF 0 1 (0x90 + c) false 0 31 c 1 3 0 true]
def condL : List Fm := (List.range 16).flatMap cond1 ++ (List.range 16).flatMap cond2 ++ (List.range 16).flatMap cond3
/-- The forms, in order. -/
def formsL : List Fm := plainL.take 8 ++ sumL ++ (plainL.drop 8).take 8 ++ shiftL ++ (plainL.drop 16).take 8 ++ condL ++ plainL.drop 24
theorem forms_len : formsL.length = 139 := by decide +kernel
/-- Forms' cells, one behind the other. -/
def cellsL (xs : List Fm) : List Value := xs.flatMap Fm.cs
theorem cellsL_len (xs : List Fm) : (cellsL xs).length = xs.length * 14 := by
  induction xs with
  | nil => rfl
  | cons x xs ih => unfold cellsL at ih ⊢; rw [List.flatMap_cons, List.length_append, ih, Fm.cs_len, List.length_cons]; omega
end Go.Proofs.YtaeehinlgmijgaaDoor
