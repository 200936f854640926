/- Ranges in rows; which may be, which are apart. -/
import Derived.Test.YtaaflkjdcablcaaRows
import Derived.WalkKit
import Derived.ProofKit
import Derived.Below
import Derived.Lib.Hide
import Derived.Handy
import Derived.WalkSpells
import Derived.WalkLawsBesides
import Derived.Deep.WholeRow
import Derived.Deep.MidRow
import Derived.Deep.RegionHeld3
import Derived.Deep.DrawnRows
import Derived.RegionTactic
import Derived.Deep.DeepCutAuto
import Derived.Deep.OwnRows
import Derived.LoopIn
import Derived.LoopNIn
import Derived.Maps.AppendAt
import Derived.OwnWalkIn
import Derived.RangeFuncBound
import Derived.RangeFuncBox
import Derived.RangeFuncCalls
import Derived.RangeFuncLeaves
import Derived.RangeFuncNested
import Derived.Shelf.Abstract
import Derived.Shelf.RegionOpen
import Derived.TacticsInMore
import Derived.IntWalk
namespace Go.Proofs.Ytaaflkjdcablcaa
open Go.RowKit Go.Shelf
set_option linter.unusedVariables false
set_option linter.unusedSimpArgs false
attribute [local go_sem] Oper.semAt_some
/-- A range: its lowest and its highest address. -/
abbrev Rg : Type := Nat × Nat
def U (x : Nat) : Prop := x < 18446744073709551616
def OkL (zs : List Rg) : Prop := ∀ r, r ∈ zs → U r.1 ∧ U r.2
def zl (zs : List Rg) (k : Nat) : Nat := (zs.getD k (0, 0)).1
def zh (zs : List Rg) (k : Nat) : Nat := (zs.getD k (0, 0)).2
theorem z_ok {zs : List Rg} (h : OkL zs) {k : Nat} (hk : k < zs.length) : U (zl zs k) ∧ U (zh zs k) := by
  have : zs.getD k (0, 0) = zs[k] := by simp [List.getD, hk]
  unfold zl zh
  rw [this]
  exact h _ (List.getElem_mem hk)
/-- A row of ranges that can be read. -/
def RD (W : World) (a : Option Addr) (zs : List Rg) : Prop := ∀ k, k < zs.length → ∃ b off, a = some ⟨b, off, none⟩ ∧ W.cell? ⟨b, off + k * 2, none⟩ = some (.int .u64 (zl zs k : Nat)) ∧ W.cell? ⟨b, off + k * 2 + 1, none⟩ = some (.int .u64 (zh zs k : Nat))
theorem cell_lt' {W : World} {p : Addr} {v : Value} (h : W.cell? p = some v) : p.block < W.heap.size := by
  unfold World.cell? at h
  by_cases hl : p.block < W.heap.size
  · exact hl
  · rw [Array.getElem?_eq_none (by omega)] at h
    simp at h
theorem cell_keep {W W' : World} {p : Addr} {v : Value} (h : W.cell? p = some v) (hb : Below W.heap.size W W') : W'.cell? p = some v := by
  have hl := cell_lt' h
  have e := hb.block p.block hl
  unfold World.cell? at h ⊢
  rw [e]
  exact h
theorem RD.keep {W W' : World} {a : Option Addr} {zs : List Rg} (h : RD W a zs) (hb : Below W.heap.size W W') : RD W' a zs := fun k hk => by
  obtain ⟨b, off, ha, c0, c1⟩ := h k hk
  exact ⟨b, off, ha, cell_keep c0 hb, cell_keep c1 hb⟩
theorem RD.drew {W : World} {a : Option Addr} {zs : List Rg} (h : RD W a zs) : RD W.drew a zs := h
def apartB (b c : Nat) : Bool := decide (b < c) && decide (1 < c - b)
theorem right_any (lo hi : Nat) (w : World) : Calls Try.prog 27 #[.agg #[.int .u64 (lo : Nat), .int .u64 (hi : Nat)]] w fun e w' => e = .returned (.bool (decide (lo ≤ hi))) ∧ Below w.heap.size w w' := by
  go_enter Try.func27, Try.ntmps27
  go_wp
  go_ret
  refine ⟨?_, (Below.refl _ _).alloc (Nat.le_refl _) _⟩
  simp
theorem apart_any (a b c d : Nat) (hc : U c) (w : World) : Calls Try.prog 28 #[.agg #[.int .u64 (a : Nat), .int .u64 (b : Nat)], .agg #[.int .u64 (c : Nat), .int .u64 (d : Nat)]] w fun e w' => e = .returned (.bool (apartB b c)) ∧ Below w.heap.size w w' := by
  by_cases h : b < c
  · have ha : apartB b c = decide ((1 : Int) < IntKind.u64.wrap ((c : Int) - (b : Int))) := by
      have e : IntKind.u64.wrap ((c : Int) - (b : Int)) = ((c - b : Nat) : Int) := by
        unfold U at hc
        rw [IntWalk.u64_in _ (by omega)]
        omega
      rw [e]
      unfold apartB
      simp [h]
      omega
    have HA := Lib.hid ha
    clear ha
    go_enter Try.func28, Try.ntmps28
    go_wp
    go_ret
    exact ⟨by rw [HA.out]; rfl, ((Below.refl _ _).alloc (Nat.le_refl _) _).alloc (by simp) _⟩
  · have ha : apartB b c = false := by unfold apartB; simp [h]
    have HA := Lib.hid ha
    clear ha
    go_enter Try.func28, Try.ntmps28
    go_wp
    go_ret
    exact ⟨by rw [HA.out]; rfl, ((Below.refl _ _).alloc (Nat.le_refl _) _).alloc (by simp) _⟩
end Go.Proofs.Ytaaflkjdcablcaa
