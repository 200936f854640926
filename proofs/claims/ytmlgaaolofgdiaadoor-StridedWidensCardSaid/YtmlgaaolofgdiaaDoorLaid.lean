/- What the row's condition on bits.masks gives the walks, and how a set reads. -/
import Derived.Test.YtmlgaaolofgdiaaDoorSmall
import Derived.ProofKit
import Derived.LaidMore
import Derived.OpenShut
import Derived.Lib.LaidTab
import Derived.Lib.SmallJoins
import Derived.Below
namespace Go.Proofs.YtmlgaaolofgdiaaDoor
open Go.RowKit Go.ChangeShapes Go.WideShapes Go.ChangeAt Go.Joins
theorem own : ownKnob Tryd.prog.godebug = none := by kernel_rfl
theorem gMasks : Tryd.prog.globalNamed "sundial/bits.masks" = some 0 := by kernel_rfl
theorem tMasks : (Tryd.prog.globals[0]?).map (·.type) = some 56 := by kernel_rfl
def laid1 : List (String × DataW Unit) := [("sundial/bits.masks", Rows.laid_sundial_bits_masks)]
theorem door_met (os : Os) (args : Array Value) : laidMetH Tryd.prog laid1 ((World.doorLaid Tryd.prog 400 os).forCall (fun _ _ => 0) ⟨#[], args, []⟩).memory :=
  laidMetH_of_parts3 (fuel := 8) (laidMet_of_run' 8 (by kernel_rfl) (by kernel_rfl)) (by kernel_rfl) (by kernel_rfl)
def maskTab : List Int := [255, 65535, 16777215, 4294967295, 1099511627775, 281474976710655, 72057594037927935, 18446744073709551615]
theorem mk_of_laid {W : World} (h : laidMetH Tryd.prog laid1 W) : Mk W := by
  rw [MakeChecks.laidMetH_plain _ _ _ (by kernel_rfl)] at h
  have ht : Lib.TabIs Tryd.prog W "sundial/bits.masks" .u64 maskTab := Lib.tabIs_of_head gMasks tMasks Tryd.underlying56 Tryd.underlying22 (by kernel_rfl) (by kernel_rfl) h
  intro i hi
  rw [ht.cell gMasks i (by simpa [maskTab] using hi)]
  congr 2
  have hall : ∀ i : Fin 8, maskTab.getD i.val 0 = (((2 : Nat) ^ (8 * (i.val + 1)) - 1 : Nat) : Int) := by decide +kernel
  exact hall ⟨i, hi⟩
theorem nat_of_wf {a : Int} (h : (Lit.int .u64 a).wf = true) : ∃ k : Nat, a = k ∧ U k := by
  have hb := Go.bounds_u64 h
  obtain ⟨k, rfl⟩ := Int.eq_ofNat_of_zero_le hb.1
  exact ⟨k, rfl, by unfold U; omega⟩
theorem wf_of_nat {k : Nat} (h : U k) : (Lit.int .u64 (k : Int)).wf = true := by
  unfold U at h
  simp [Lit.wf, IntKind.min, IntKind.max, IntKind.signed, IntKind.bits]; omega
theorem open_set {H : Type} {enc : TypeId × Value → H} {w : World} {base : Nat} {spare : Nat → Bool} {held : Bool} {r : Reach} {b0 : Nat} {v : Value} {d : DataW H} {p : List MemPlace}
    (hv : Value.okWide Tryd.prog w r b0 24 v) (h : DataW.Trod enc Tryd.prog w base spare held 24 v d p) :
    ∃ s l h' : Nat, v = sv s l h' ∧ d = .agg [.lit (.int .u64 s), .lit (.int .u64 l), .lit (.int .u64 h')] ∧ p = [] ∧ U s ∧ U l ∧ U h' := by
  obtain ⟨c0, c1, c2, y0, y1, y2, m, rfl, rfl, rfl, hy0, hy1, hy2⟩ := open_agg3 Tryd.underlying24 (by kernel_rfl) (by kernel_rfl) hv h
  obtain ⟨x, e0, rfl, wx⟩ := DataW.trod_int Tryd.underlying22 hy0
  obtain ⟨y, e1, rfl, wy⟩ := DataW.trod_int Tryd.underlying22 hy1
  obtain ⟨f, e2, rfl, wf⟩ := DataW.trod_int Tryd.underlying22 hy2
  simp at e0 e1 e2
  subst e0 e1 e2
  obtain ⟨s, rfl, us⟩ := nat_of_wf wx
  obtain ⟨l, rfl, ul⟩ := nat_of_wf wy
  obtain ⟨k, rfl, uk⟩ := nat_of_wf wf
  exact ⟨s, l, k, rfl, rfl, rfl, us, ul, uk⟩
theorem shut_set {H : Type} {enc : TypeId × Value → H} {w : World} {base : Nat} {spare : Nat → Bool} {held : Bool} {s l k : Nat} (us : U s) (ul : U l) (uk : U k) :
    DataW.Trod enc Tryd.prog w base spare held 24 (sv s l k) (.agg [.lit (.int .u64 s), .lit (.int .u64 l), .lit (.int .u64 k)]) [] :=
  by simpa using shut_agg3 (enc := enc) (w := w) (base := base) (spare := spare) (held := held) (y0 := (.lit (.int .u64 s), [])) (y1 := (.lit (.int .u64 l), [])) (y2 := (.lit (.int .u64 k), [])) Tryd.underlying24 (by kernel_rfl) (by kernel_rfl) ⟨1, by simp [DataW.trod, Tryd.underlying22, wf_of_nat us]⟩ ⟨1, by simp [DataW.trod, Tryd.underlying22, wf_of_nat ul]⟩ ⟨1, by simp [DataW.trod, Tryd.underlying22, wf_of_nat uk]⟩
end Go.Proofs.YtmlgaaolofgdiaaDoor
