/- The walk of BitsTells. -/
import Derived.Test.YtjnojonbaoecmaaDoorRbytes
import Derived.Test.YtjnojonbaoecmaaDoorRefs4
import Derived.Test.YtjnojonbaoecmaaDoorBack
import Derived.Deep.RegionWith
import Derived.Laws.BytesArg
namespace Go.Proofs.YtjnojonbaoecmaaDoor
open Go.RowKit
/-- What every world of the walk keeps. -/
def Gd (w W : World) : Prop := Mk W ∧ Below w.heap.size w W
theorem Gd.refl {w : World} (hm : Mk w) : Gd w w := ⟨hm, Below.refl _ _⟩
theorem Gd.step {w W W' : World} (h : Gd w W) (hb : Below W.heap.size W W') : Gd w W' :=
  ⟨h.1.below hb h.1.pos, h.2.trans (hb.mono h.2.size)⟩
theorem lt_of_cell {w : World} {b o : Nat} {v : Value} (h : w.cell? ⟨b, o, none⟩ = some v) : b < w.heap.size := by
  rcases Nat.lt_or_ge b w.heap.size with h0 | h0
  · exact h0
  · unfold World.cell? at h
    rw [Array.getElem?_eq_none (by dsimp only; omega)] at h
    simp at h
theorem Gd.cells {w W : World} (h : Gd w W) {sb off len : Nat} {z : Nat → Nat} (hc : ∀ j, j < len → w.cell? ⟨sb, off + j, none⟩ = some (.int .u8 (z j : Nat))) : ∀ j, j < len → W.cell? ⟨sb, off + j, none⟩ = some (.int .u8 (z j : Nat)) :=
  fun j hj => (h.2.cell (p := ⟨sb, off + j, none⟩) (lt_of_cell (hc j hj))).trans (hc j hj)
/-- The text of a word's bytes. -/
def sOf (a : Nat) (wd : Int) : ByteArray := strOfNums ((upto (fun j => ((byN a j : Nat) : Int)) (hN wd)))
theorem upto_getD {α : Type} (f : Nat → α) (k i : Nat) (d : α) (h : i < k) : (upto f k).getD i d = f i := by
  simp [upto, List.getD, h]
theorem conv_cells (a : Nat) (wd : Int) (g cap : Nat) (W : World) (hc : ∀ j, j < hN wd → W.cell? ⟨g, j, none⟩ = some (.int .u8 (byN a j : Nat))) :
    (convert 23 9 (.slice (some ⟨g, 0, none⟩) (hN wd) cap)).run Tryd.prog W = .ok (.string (sOf a wd)) W :=
  run_convert_bytes_arg W 23 5 (by kernel_rfl) (by kernel_rfl) g 0 (hN wd) cap (upto (fun j => ((byN a j : Nat) : Int)) (hN wd)) (upto_length _ _)
    (fun i hi => by rw [Nat.zero_add, hc i hi, upto_getD _ _ _ _ hi]) 9 (by kernel_rfl)
theorem gd_turn {w W : World} (h : Gd w W) (a : Nat) (ha : U a) (n wd : Int) :
    Calls Tryd.prog 23 #[.int .u64 a, .int .i64 n, .int .i64 wd] W fun e W' => e = .returned (.int .u64 (turnN a (tN n wd) wd : Nat)) ∧ Gd w W' :=
  (turn_below a ha n wd W h.1).mono fun _ _ ⟨h1, _, h3⟩ => ⟨h1, h.step h3⟩
theorem gd_bytes {w W : World} (h : Gd w W) (a : Nat) (wd : Int) :
    Calls Tryd.prog 25 #[.int .u64 a, .int .i64 wd] W fun e W' => e = .returned (.slice (some ⟨W.heap.size, 0, none⟩) (hN wd) (hN wd)) ∧ Gd w W' ∧
      (convert 23 9 (.slice (some ⟨W.heap.size, 0, none⟩) (hN wd) (hN wd))).run Tryd.prog W' = .ok (.string (sOf a wd)) W' ∧ Hid (∀ j, j < hN wd → W'.cell? ⟨W.heap.size, j, none⟩ = some (.int .u8 (byN a j : Nat))) :=
  (bytes_any a wd W).mono fun _ _ ⟨h1, h2, h3⟩ => ⟨h1, h.step h3, conv_cells a wd _ _ _ h2, Lib.hid h2⟩
theorem ownsRow_cells {W : World} {base : Nat} {v : Value} {n : Nat} {xs : List Value} (h : W.ownsRow base 5 1 v n xs) (hn : 1 ≤ n) :
    ∃ g cap, v = .slice (some ⟨g, 0, none⟩) n cap ∧ ∀ j u, xs[j]? = some u → W.cell? ⟨g, j, none⟩ = some u := by
  obtain ⟨hl, ⟨_, h0⟩ | ⟨g, cap, cur, rfl, _, hg, hnc, _, hcur, htk⟩⟩ := h
  · omega
  · refine ⟨g, cap, rfl, fun j u hj => ?_⟩
    have hjl : j < n := by
      rcases Nat.lt_or_ge j xs.length with h | h
      · omega
      · rw [List.getElem?_eq_none h] at hj; cases hj
    rw [← htk, List.getElem?_take] at hj
    simp only [Nat.mul_one, hjl, if_true] at hj
    unfold World.cell?
    simp only [hg]
    simpa using hj
theorem gd_rbytes {w W : World} (h : Gd w W) (a : Nat) (wd : Int) (g cap : Nat) (hc : Hid (∀ j, j < hN wd → W.cell? ⟨g, j, none⟩ = some (.int .u8 (byN a j : Nat)))) :
    Calls Tryd.prog 26 #[.int .u64 a, .int .i64 wd] W fun e W' => ∃ v, e = .returned v ∧ Gd w W' ∧ (convert 23 9 v).run Tryd.prog W' = .ok (.string (sOf a wd)) W' ∧
      (convert 23 9 (.slice (some ⟨g, 0, none⟩) (hN wd) cap)).run Tryd.prog W' = .ok (.string (sOf a wd)) W' := by
  have hb := hN_bd wd
  refine (rbytes_any a wd W).mono fun e W' ⟨v, h1, h2, h3⟩ => ?_
  obtain ⟨g', cap', rfl, hcs⟩ := ownsRow_cells h2 hb.1
  refine ⟨_, h1, h.step h3, conv_cells a wd g' cap' W' fun j hj => hcs j _ ?_, conv_cells a wd g cap W' fun j hj => ?_⟩
  · simp [upto, hj]
  · exact (h3.cell (p := ⟨g, j, none⟩) (lt_of_cell (hc.out j hj))).trans (hc.out j hj)
end Go.Proofs.YtjnojonbaoecmaaDoor
