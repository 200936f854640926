/- HeaderAny, for every argument. -/
import Derived.Test.YtnaggdhophncaaaDoorAy
import Derived.Test.YtnaggdhophncaaaDoorOh
namespace Go.Proofs.YtnaggdhophncaaaDoor
open Go.ChangeShapes Go.WideShapes Go.ChangeAt Go.WalkArith Go.RowKit
set_option linter.unusedVariables false
set_option linter.unusedSimpArgs false
theorem cx5 : Tryd.prog.cellsOf 5 = 1 := by kernel_rfl
theorem cx51 : Tryd.prog.cellsOf 51 = 16 := by kernel_rfl
def u8At (cs : List Value) (j : Nat) : Nat := match cs[j]? with | some (.int .u8 z) => z.toNat | _ => 0
theorem open_b16 {H : Type} {enc : TypeId × Value → H} {w : World} {base : Nat} {held : Bool} {r0 : Reach} {b0 : Nat} {v : Value} {d0 : DataW H} {p0 : List MemPlace}
    (hv : Value.okWide Tryd.prog w r0 b0 51 v) (h : DataW.Trod enc Tryd.prog w base (fun _ => true) held 51 v d0 p0) : ∃ y : Nat → Nat, v = .agg (rowB y 16).toArray ∧ ∀ j, y j < 256 := by
  obtain ⟨cs, rfl, hsz, _⟩ : ∃ cs, v = .agg cs ∧ cs.size = Tryd.prog.cellsOf 51 ∧ Row.okWide Tryd.prog w r0 b0 51 cs := by
    simpa [Value.okWide, Tryd.underlying51] using hv
  rw [cx51] at hsz
  obtain ⟨l⟩ := cs
  obtain ⟨fuel, hf⟩ := h
  obtain ⟨xs, m, _, hx, hl, hlen, he⟩ := DataW.trod_array Tryd.underlying51 hf
  simp only [Value.cells, cx5, Nat.mul_one] at he
  have each : ∀ i, i < 16 → ∃ z : Nat, l[i]? = some (.int .u8 (z : Nat)) ∧ z < 256 := fun i hi => by
    have h1 := he i hi
    rw [List.getElem?_eq_getElem (by omega)] at h1
    obtain ⟨z, e, _, wz⟩ := DataW.trod_int Tryd.underlying5 h1
    have b := Go.bounds_u8 wz
    obtain ⟨n, rfl⟩ := Int.eq_ofNat_of_zero_le b.1
    refine ⟨n, ?_, by omega⟩
    have := congrArg (·[0]?) e
    simpa [List.getElem?_take, List.getElem?_drop] using this
  refine ⟨u8At l, ?_, fun j => ?_⟩
  · congr 1
    have : l = rowB (u8At l) 16 := by
      apply List.ext_getElem?
      intro j
      by_cases hj : j < 16
      · obtain ⟨z, e, _⟩ := each j hj
        rw [rowB_at _ _ _ hj, e]
        unfold u8At
        rw [e]
        rfl
      · rw [List.getElem?_eq_none (by simp at hsz; omega), List.getElem?_eq_none (by rw [rowB_len]; omega)]
    rw [← this]
  · by_cases hj : j < 16
    · obtain ⟨z, e, hz⟩ := each j hj
      unfold u8At
      rw [e]
      show ((z : Nat) : Int).toNat < 256
      omega
    · unfold u8At
      rw [List.getElem?_eq_none (by simp at hsz; omega)]
      exact Nat.zero_lt_succ _
theorem any_law (en so sc : Nat) (zs : List Sg) (cs : List Sc) (a1 a2 : Option Addr) (p1 p2 : Nat) (s0 s1 s2 s3 s4 s5 s6 c0 c1 c2 c3 c4 : Nat) (y : Nat → Nat) {w : World} (hh : HdF w en so sc zs cs a1 a2) (hs : V32 s0 ∧ V32 s1 ∧ U s2 ∧ U s3 ∧ U s4 ∧ U s5 ∧ U s6) (hc : V32 c0 ∧ U c1 ∧ U c2 ∧ V32 c3 ∧ U c4) (hy : ∀ j, y j < 256) (_W : World) (hG : GM w) :
    Calls Tryd.prog 7 #[.agg #[.int .u64 (en : Nat), .int .u64 (so : Nat), .int .u64 (sc : Nat), .slice a1 zs.length p1, .slice a2 cs.length p2], .agg #[.int .u32 (s0 : Nat), .int .u32 (s1 : Nat), .int .u64 (s2 : Nat), .int .u64 (s3 : Nat), .int .u64 (s4 : Nat), .int .u64 (s5 : Nat), .int .u64 (s6 : Nat)], .agg #[.int .u32 (c0 : Nat), .int .u64 (c1 : Nat), .int .u64 (c2 : Nat), .int .u32 (c3 : Nat), .int .u64 (c4 : Nat)], .agg (rowB y 16).toArray] w fun e W' => e = .returned (.bool true) ∧ Below w.heap.size w W' :=
  any7_walk en so sc zs cs a1 a2 p1 p2 (s0, s1, s2, s3, s4, s5, s6) (c0, c1, c2, c3, c4) y hh.okz hh.okc hh.en hs hc hy w hG hh.r1 hh.r2
end Go.Proofs.YtnaggdhophncaaaDoor
