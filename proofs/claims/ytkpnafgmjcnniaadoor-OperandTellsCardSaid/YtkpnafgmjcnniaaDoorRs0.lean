/- The document's own Take. -/
import Derived.Test.YtkpnafgmjcnniaaDoorRt2
namespace Go.Proofs.YtkpnafgmjcnniaaDoor
open Go.RowKit
set_option linter.unusedVariables false
set_option linter.unusedSimpArgs false
theorem RO.setB {w : World} {n bb off : Nat} {z : Nat → Nat} {Q : Nat} {k r b i s d : Int} {p : Bool} {m : Int} {W : World} (h : RO w n bb off z Q k r b i s d p m W) (X : Int) : RO w n bb off z Q k r X i s d p m (W.setCell ⟨Q, 2, none⟩ (.int .i64 X)) := by
  obtain ⟨⟨a1, a2, a3, a4, a5, a6, a7, a8, g⟩, h2, h3⟩ := h
  exact ⟨⟨_, _, _, _, _, _, _, _, g.far h3 _ _⟩, (cset (i := 2) (v := .int .i64 X) h2).trans (by simp [ob]), h3⟩
theorem RO.setI {w : World} {n bb off : Nat} {z : Nat → Nat} {Q : Nat} {k r b i s d : Int} {p : Bool} {m : Int} {W : World} (h : RO w n bb off z Q k r b i s d p m W) (X : Int) : RO w n bb off z Q k r b X s d p m (W.setCell ⟨Q, 3, none⟩ (.int .i64 X)) := by
  obtain ⟨⟨a1, a2, a3, a4, a5, a6, a7, a8, g⟩, h2, h3⟩ := h
  exact ⟨⟨_, _, _, _, _, _, _, _, g.far h3 _ _⟩, (cset (i := 3) (v := .int .i64 X) h2).trans (by simp [ob]), h3⟩
theorem RO.setS {w : World} {n bb off : Nat} {z : Nat → Nat} {Q : Nat} {k r b i s d : Int} {p : Bool} {m : Int} {W : World} (h : RO w n bb off z Q k r b i s d p m W) (X : Int) : RO w n bb off z Q k r b i X d p m (W.setCell ⟨Q, 4, none⟩ (.int .i64 X)) := by
  obtain ⟨⟨a1, a2, a3, a4, a5, a6, a7, a8, g⟩, h2, h3⟩ := h
  exact ⟨⟨_, _, _, _, _, _, _, _, g.far h3 _ _⟩, (cset (i := 4) (v := .int .i64 X) h2).trans (by simp [ob]), h3⟩
theorem RO.setP {w : World} {n bb off : Nat} {z : Nat → Nat} {Q : Nat} {k r b i s d : Int} {p : Bool} {m : Int} {W : World} (h : RO w n bb off z Q k r b i s d p m W) (X : Bool) : RO w n bb off z Q k r b i s d X m (W.setCell ⟨Q, 6, none⟩ (.bool X)) := by
  obtain ⟨⟨a1, a2, a3, a4, a5, a6, a7, a8, g⟩, h2, h3⟩ := h
  exact ⟨⟨_, _, _, _, _, _, _, _, g.far h3 _ _⟩, (cset (i := 6) (v := .bool X) h2).trans (by simp [ob]), h3⟩
end Go.Proofs.YtkpnafgmjcnniaaDoor
