/- What the row's condition on header's two tables gives the walks. -/
import Derived.Test.YtnaggdhophncaaaDoorHd
import Derived.Test.YtnaggdhophncaaaDoorRows
import Derived.ProofKit
import Derived.LaidMore
import Derived.OpenShut
import Derived.Lib.LaidTab
import Derived.Below
import Derived.Stop.LaidErr
namespace Go.Proofs.YtnaggdhophncaaaDoor
open Go.RowKit
theorem own : ownKnob Tryd.prog.godebug = none := by kernel_rfl
theorem gMagic : Tryd.prog.globalNamed "sundial/header.magic" = some 0 := by kernel_rfl
theorem gMusts : Tryd.prog.globalNamed "sundial/header.musts" = some 1 := by kernel_rfl
theorem tMagic : (Tryd.prog.globals[0]?).map (·.type) = some 53 := by kernel_rfl
theorem tMusts : (Tryd.prog.globals[1]?).map (·.type) = some 61 := by kernel_rfl
theorem c60 : Tryd.prog.cellsOf 60 = 4 := by kernel_rfl
theorem c61 : Tryd.prog.cellsOf 61 = 40 := by kernel_rfl
theorem c3 : Tryd.prog.cellsOf 3 = 1 := by kernel_rfl
theorem c23 : Tryd.prog.cellsOf 23 = 1 := by kernel_rfl
def laid1 : List (String × DataW Unit) := [("sundial/header.magic", Rows.laid_sundial_header_magic), ("sundial/header.musts", Rows.laid_sundial_header_musts)]
theorem door_met (os : Os) (args : Array Value) : laidMetH Tryd.prog laid1 ((World.doorLaid Tryd.prog 400 os).forCall (fun _ _ => 0) ⟨#[], args, []⟩).memory :=
  laidMetH_of_parts3 (fuel := 8) (laidMet_of_run' 8 (by kernel_rfl) (by kernel_rfl)) (by kernel_rfl) (by kernel_rfl)
theorem list4 {α : Type} (l : List α) (h : l.length = 4) : ∃ a b c d, l = [a, b, c, d] := by
  match l, h with
  | [a, b, c, d], _ => exact ⟨a, b, c, d, rfl⟩
set_option maxRecDepth 10000 in
theorem must_cells {H : Type} {enc : TypeId × Value → H} {w : World} {base : Nat} {sp : Nat → Bool} {held : Bool} {fuel : Nat} {cs : List Value} {a s x u : Int} {p : List MemPlace} (hl : cs.length = 4)
    (h : DataW.trod enc Tryd.prog w base sp held fuel 60 cs = some (.agg [.lit (.int .i64 a), .lit (.int .i64 s), .lit (.int .u64 x), .lit (.int .i64 u)], p)) :
    cs = [.int .i64 a, .int .i64 s, .int .u64 x, .int .i64 u] := by
  obtain ⟨xs, m, _, hx, _, hlen, he⟩ := DataW.trod_struct Tryd.underlying60 h
  obtain ⟨y0, y1, y2, y3, rfl⟩ := list4 xs hlen
  obtain ⟨v0, v1, v2, v3, rfl⟩ := list4 cs hl
  have t0 := he 0 _ rfl
  have t1 := he 1 _ rfl
  have t2 := he 2 _ rfl
  have t3 := he 3 _ rfl
  simp [c3] at t0 t1 t3
  simp [c23] at t2
  obtain ⟨x0, e0, rfl, w0⟩ := DataW.trod_int Tryd.underlying3 t0
  obtain ⟨x1, e1, rfl, w1⟩ := DataW.trod_int Tryd.underlying3 t1
  obtain ⟨x2, e2, rfl, w2⟩ := DataW.trod_int Tryd.underlying23 t2
  obtain ⟨x3, e3, rfl, w3⟩ := DataW.trod_int Tryd.underlying3 t3
  simp at e0 e1 e2 e3 hx
  obtain ⟨⟨rfl, rfl, rfl, rfl⟩, _⟩ := hx
  subst e0 e1 e2 e3
  rfl
theorem mu_nth : ∀ j : Nat, j < 40 → ([.int .i64 (mA (j / 4) : Nat), .int .i64 (mS (j / 4) : Nat), .int .u64 (mW (j / 4) : Nat), .int .i64 (mU (j / 4) : Nat)] : List Value)[j % 4]? = muL[j]? := by
  intro j hj
  obtain rfl | rfl | rfl | rfl | rfl | rfl | rfl | rfl | rfl | rfl | rfl | rfl | rfl | rfl | rfl | rfl | rfl | rfl | rfl | rfl | rfl | rfl | rfl | rfl | rfl | rfl | rfl | rfl | rfl | rfl | rfl | rfl | rfl | rfl | rfl | rfl | rfl | rfl | rfl | rfl : j = 0 ∨ j = 1 ∨ j = 2 ∨ j = 3 ∨ j = 4 ∨ j = 5 ∨ j = 6 ∨ j = 7 ∨ j = 8 ∨ j = 9 ∨ j = 10 ∨ j = 11 ∨ j = 12 ∨ j = 13 ∨ j = 14 ∨ j = 15 ∨ j = 16 ∨ j = 17 ∨ j = 18 ∨ j = 19 ∨ j = 20 ∨ j = 21 ∨ j = 22 ∨ j = 23 ∨ j = 24 ∨ j = 25 ∨ j = 26 ∨ j = 27 ∨ j = 28 ∨ j = 29 ∨ j = 30 ∨ j = 31 ∨ j = 32 ∨ j = 33 ∨ j = 34 ∨ j = 35 ∨ j = 36 ∨ j = 37 ∨ j = 38 ∨ j = 39 := by omega
  all_goals kernel_rfl
set_option maxRecDepth 10000 in
theorem musts_cells {H : Type} {enc : TypeId × Value → H} {w : World} {base : Nat} {sp : Nat → Bool} {held : Bool} {fuel : Nat} {cs : List Value} {p : List MemPlace}
    (h : DataW.trod enc Tryd.prog w base sp held fuel 61 cs = some (Rows.laid_sundial_header_musts, p)) : cs = muL := by
  obtain ⟨xs, m, _, hx, hl, hlen, he⟩ := DataW.trod_array Tryd.underlying61 h
  rw [c61] at hl
  rw [c60] at he
  have hx1 := congrArg Prod.fst hx
  unfold Rows.laid_sundial_header_musts at hx1
  simp only [DataW.agg.injEq] at hx1
  have at_ : ∀ i, i < 10 → (cs.drop (i * 4)).take 4 = [.int .i64 (mA i : Nat), .int .i64 (mS i : Nat), .int .u64 (mW i : Nat), .int .i64 (mU i : Nat)] := by
    intro i hi
    have h1 := he i hi
    have hlt : i < xs.length := by omega
    rw [List.getElem?_eq_getElem hlt] at h1
    have h2 : (xs.map (·.1))[i]? = some (xs[i]).1 := by simp [hlt]
    rw [← hx1] at h2
    have h3 : (xs[i]).1 = .agg [.lit (.int .i64 (mA i : Nat)), .lit (.int .i64 (mS i : Nat)), .lit (.int .u64 (mW i : Nat)), .lit (.int .i64 (mU i : Nat))] := by
      obtain rfl | rfl | rfl | rfl | rfl | rfl | rfl | rfl | rfl | rfl : i = 0 ∨ i = 1 ∨ i = 2 ∨ i = 3 ∨ i = 4 ∨ i = 5 ∨ i = 6 ∨ i = 7 ∨ i = 8 ∨ i = 9 := by omega
      all_goals (simp at h2; rw [← h2]; rfl)
    generalize xs[i] = y at h1 h3
    obtain ⟨y1, y2⟩ := y
    dsimp only at h3
    subst h3
    exact must_cells (by simp [hl]; omega) h1
  apply List.ext_getElem?
  intro j
  by_cases hj : j < 40
  · have h1 := at_ (j / 4) (by omega)
    have h2 : ((cs.drop (j / 4 * 4)).take 4)[j % 4]? = cs[j]? := by
      rw [List.getElem?_take_of_lt (Nat.mod_lt _ (by decide)), List.getElem?_drop]
      congr 1
      omega
    rw [← h2, h1]
    exact (mu_nth j hj)
  · rw [List.getElem?_eq_none (by omega), List.getElem?_eq_none (by have : muL.length = 40 := rfl; omega)]
theorem gm_of_laid {W : World} (h : laidMetH Tryd.prog laid1 W) : GM W := by
  rw [MakeChecks.laidMetH_plain _ _ _ (by kernel_rfl)] at h
  have h0 : Lib.TabIs Tryd.prog W "sundial/header.magic" .u8 [127, 69, 76, 70] := Lib.tabIs_of_head gMagic tMagic Tryd.underlying53 Tryd.underlying5 (by kernel_rfl) (by kernel_rfl) h
  have h1 := laidMet.tail h
  obtain ⟨ps, ⟨g', t', cs, fuel, p, q, hg', ht', hvar, hd, _, _⟩, _⟩ := h1
  obtain rfl := Option.some.inj (gMusts.symm.trans hg')
  obtain rfl := Option.some.inj (tMusts.symm.trans ht')
  have hm := musts_cells hd
  have k0 : ∀ i v, mgL[i]? = some v → W.cell? ⟨0, i, none⟩ = some v := fun i v hv => by
    rw [World.var?_cell gMagic h0 i]
    simpa [mgL] using hv
  have k1 : ∀ i v, muL[i]? = some v → W.cell? ⟨1, i, none⟩ = some v := fun i v hv => by
    rw [World.var?_cell gMusts hvar i]
    have : cs = muL.toArray := by rw [← hm]
    rw [this]
    simpa using hv
  refine ⟨⟨fun i v hv => by rw [Nat.zero_add]; exact k0 i v hv, fun i v hv => by rw [Nat.zero_add]; exact k1 i v hv⟩, ?_⟩
  have := cell_lt' (k1 0 _ rfl)
  exact this
theorem mk_of_laid {W : World} (h : laidMetH Tryd.prog laid1 W) : GM W := gm_of_laid h
end Go.Proofs.YtnaggdhophncaaaDoor
