/- The walk of OperandLong. -/
import Derived.Test.YtkpnafgmjcnniaaDoorPa
import Derived.Test.YtkpnafgmjcnniaaDoorRr
namespace Go.Proofs.YtkpnafgmjcnniaaDoor
open Go.RowKit
set_option linter.unusedVariables false
set_option linter.unusedSimpArgs false
/-- How many bytes the statement asks for. -/
def lenL (k b i d low : Int) (p : Bool) : Int := if k = 2 then 1 + (if p = false ∧ (0 ≤ i ∨ b < 0 ∨ low = 4) then 1 else 0) + (if p = true ∨ b < 0 ∨ d < -128 ∨ 127 < d then 4 else if d ≠ 0 ∨ low = 5 then 1 else 0) else 1
theorem lenL_f (k b i d low : Int) : lenL k b i d low false = if k = 2 then 1 + (if 0 ≤ i ∨ b < 0 ∨ low = 4 then 1 else 0) + (if b < 0 ∨ d < -128 ∨ 127 < d then 4 else if d ≠ 0 ∨ low = 5 then 1 else 0) else 1 := by simp [lenL]
theorem lenL_t (k b i d low : Int) : lenL k b i d low true = if k = 2 then 5 else 1 := by simp [lenL]
set_option maxRecDepth 100000 in
set_option maxHeartbeats 8000000 in
theorem long_core (reg k r b i s d : Int) (p : Bool) (m low rex : Int) (n : Nat) (w : World) (hm : Mk w) (h0 : 0 ≤ reg) (h1 : reg ≤ 15) (hl : bits .and .i64 b 7 = low)
    (hR : ∀ W, Calls Tryd.prog 19 #[ov k r b i s d p m] W fun e w' => e = .returned (.bool true) ∧ Below W.heap.size W w')
    (hP : ∀ W, Mk W → Calls Tryd.prog 15 #[.int .i64 reg, ov k r b i s d p m] W fun e w' => ∃ g cap, e = .returned (.tuple #[.slice (some ⟨g, 0, none⟩) n cap, .int .u8 rex, .int .i64 0]) ∧ Below W.heap.size W w')
    (hn : (n : Int) = lenL k b i d low p) :
    Calls Tryd.prog 7 #[.int .i64 reg, ov k r b i s d p m] w fun e w' => e = .returned (.bool true) ∧ Below w.heap.size w w' := by
  have HS := Lib.hid (OS.new w k r b i s d p m)
  have HM := Lib.hid hm
  have HR := Lib.hid hR
  have HP := Lib.hid hP
  have HN := Lib.hid hn
  clear hm hR hP hn
  cases p
  all_goals
    go_enter Tryd.func7, Tryd.ntmps7
    go_upto_region 1 with fail
    generalize World.alloc _ _ = W0 at *
    obtain ⟨c0, c1, c2, c3, c4, c5, c6, c7⟩ := HS.out.1.c
    go_wp2_with (first | (go_at_call 19; (with_reducible refine (HR.out _).mono ?_); rintro e w1 ⟨rfl, hb1⟩; have HK := Lib.hid (HS.out.keep hb1); clear hb1 c0 c1 c2 c3 c4 c5 c6 c7; obtain ⟨c0, c1, c2, c3, c4, c5, c6, c7⟩ := HK.out.1.c) | (go_at_call 15; refine (HP.out _ (HM.out.below HK.out.2)).mono ?_; rintro e w2 ⟨g, cap, rfl, hb2⟩; have HK2 := Lib.hid (HK.out.keep hb2); clear hb2 c0 c1 c2 c3 c4 c5 c6 c7; obtain ⟨c0, c1, c2, c3, c4, c5, c6, c7⟩ := HK2.out.1.c) | (go_at_call 12; refine (wakes_any _ (HM.out.below HK2.out.2)).mono ?_; rintro e w3 ⟨rfl, hb3⟩))
  all_goals
    have hq := HN.out
    first | rw [lenL_f] at hq | rw [lenL_t] at hq
    go_returns
    first
    | exact ⟨rfl, HK2.out.2.trans (hb3.mono HK2.out.2.size)⟩
    | (exfalso
       clear HN HR HP HM HS HK HK2 c0 c1 c2 c3 c4 c5 c6 c7
       simp only [beq_iff_eq, beq_eq_false_iff_ne, ne_eq, bne_iff_ne, bne_eq_false_iff_eq] at *
       (repeat' split at hq) <;> omega)
end Go.Proofs.YtkpnafgmjcnniaaDoor
