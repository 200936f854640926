/- codes.part: forms handed on, out of a row in memory. -/
import Derived.Test.YtaeehinlgmijgaaDoorPl
namespace Go.Proofs.YtaeehinlgmijgaaDoor
open Go.RowKit Go.Shelf
set_option linter.unusedVariables false
set_option linter.unusedSimpArgs false
attribute [local go_sem] Oper.semAt_some
theorem room_of_none {F : Fence} (hd : F.depth = none) (k : Nat) : F.room k := fun d h => by rw [hd] at h; cases h
theorem RoundIn.anyDepth {F : Fence} (hd : F.depth = none) {m m' : Nat} {P : Program} {l : Nat} {f : FuncId} {tmps : Array Value} {assign body : Code} {w : World} {R : Ending → World → Prop}
    (h : RoundIn F m P l f tmps assign body w R) : RoundIn F m' P l f tmps assign body w R := ⟨h.1, fun c cs _ => h.2 c cs (room_of_none hd _)⟩
theorem YieldAt.anyDepth {F : Fence} (hd : F.depth = none) {m : Nat} (m' : Nat) {P : Program} {l : Nat} {args : Array Value} {W : World} {R : Ending → World → Prop} (h : YieldAt F m P l args W R) : YieldAt F m' P l args W R := by
  obtain ⟨fn, tmps, assign, body, hy, hR⟩ := h
  exact ⟨fn, tmps, assign, body, hy, RoundIn.anyDepth hd hR⟩
theorem grown_below {W W' : World} (hb : Below W.heap.size W W') : W.grownBy W' none := ⟨hb.os, hb.tape, hb.output, hb.size, fun k hk _ => hb.block k hk⟩
theorem grown_alloc (W : World) (o : Obj) : W.grownBy (W.alloc o) none := grown_below ((Below.refl _ _).alloc (Nat.le_refl _) o)
theorem grown_drew (W : World) : W.grownBy W.drew none := grown_below (Below.refl _ _).drew
/-- The two tables are there. -/
def GL (w : World) : Prop := (∀ i, i < 8 → w.cell? ⟨0, i, none⟩ = some (.int .u8 ((sumV.getD i 0 : Nat) : Int))) ∧ (∀ i, i < 8 → w.cell? ⟨1, i, none⟩ = some (.int .u8 ((shiftV.getD i 0 : Nat) : Int)))
theorem cell_lt {W : World} {b o : Nat} {v : Value} (h : W.cell? ⟨b, o, none⟩ = some v) : b < W.heap.size := by
  by_cases hh : b < W.heap.size
  · exact hh
  · exfalso
    have h0 : W.heap[b]? = none := Array.getElem?_eq_none (by omega)
    simp [World.cell?, h0] at h
theorem GL.block {W W' : World} (h : GL W) (h0 : W'.heap[0]? = W.heap[0]?) (h1 : W'.heap[1]? = W.heap[1]?) : GL W' :=
  ⟨fun i hi => (World.cell?_of_block (a := ⟨0, i, none⟩) h0).trans (h.1 i hi), fun i hi => (World.cell?_of_block (a := ⟨1, i, none⟩) h1).trans (h.2 i hi)⟩
theorem GL.lt {W : World} (h : GL W) : 1 < W.heap.size := cell_lt (h.2 0 (by decide))
theorem GL.below {W W' : World} (h : GL W) (hb : Below W.heap.size W W') : GL W' := by
  have := h.lt
  exact h.block (hb.block 0 (by omega)) (hb.block 1 (by omega))
/-- What a round keeps: cells at or beyond B, and the tables. -/
def KpC (B : Nat) (W W' : World) : Prop := W.heap.size ≤ W'.heap.size ∧ (∀ k c fr, B ≤ k → W.heap[k]? = some (Obj.cells c 46 fr) → W'.heap[k]? = some (Obj.cells c 46 fr)) ∧ (GL W → GL W')
theorem kpC_t {B : Nat} {X Y Z : World} (h : KpC B X Y) (k : KpC B Y Z) : KpC B X Z := ⟨Nat.le_trans h.1 k.1, fun j c fr hj hc => k.2.1 j c fr hj (h.2.1 j c fr hj hc), fun g => k.2.2 (h.2.2 g)⟩
theorem kpC_below {B : Nat} {W W' : World} (hb : Below W.heap.size W W') : KpC B W W' := ⟨hb.size, fun k c fr _ hc => (hb.block k (Array.getElem?_eq_some_iff.1 hc).1).trans hc, fun g => g.below hb⟩
theorem kpC_refl (B : Nat) (W : World) : KpC B W W := kpC_below (Below.refl _ _)
theorem kpC_b {B : Nat} {w : World} (W : World) (l : Nat) (o o' : Obj) (hl : w.heap.size ≤ l) (h : W.heap[l]? = some o) (h1 : o.isCells = false) (h2 : o.isWalk = false) : KpC B W (W.putObj l o') := by
  have hg := grownBy_putObj' W l o'
  have hne : ∀ k c fr, W.heap[k]? = some (Obj.cells c 46 fr) → k ≠ l := fun k c fr hc e => by
    subst e; rw [h] at hc; cases hc; cases h1
  have hk : ∀ k c fr, W.heap[k]? = some (Obj.cells c 46 fr) → (W.putObj l o').heap[k]? = some (Obj.cells c 46 fr) := fun k c fr hc =>
    (hg.block k (Array.getElem?_eq_some_iff.1 hc).1 (fun e => hne k c fr hc (by cases e; rfl))).trans hc
  refine ⟨hg.size, fun k c fr _ hc => hk k c fr hc, fun g => ?_⟩
  have hb : ∀ b v, W.cell? ⟨b, 0, none⟩ = some v → (W.putObj l o').heap[b]? = W.heap[b]? := fun b v hv => by
    have hlt := cell_lt hv
    refine hg.block b hlt (fun e => ?_)
    cases e
    have h3 : W.cell? ⟨l, 0, none⟩ = none := by
      unfold World.cell?
      rw [h]
      cases o <;> first | rfl | cases h1
    rw [h3] at hv; cases hv
  exact g.block (hb 0 _ (g.1 0 (by decide))) (hb 1 _ (g.2 0 (by decide)))
/-- The rounds, whatever the depth. -/
def YC (F : Fence) (l N B : Nat) (J Jx : List Fm → World → Prop) : Prop := ∀ m pre x W, J pre W → pre.length < N → YieldAt F m Tryd.prog l #[Fm.v x] W fun e W' =>
  (e = .returned (.bool true) ∧ J (pre ++ [x]) W' ∧ KpC B W W') ∨ (e = .returned (.bool false) ∧ Jx (pre ++ [x]) W')
/-- A row of forms lies in a block of cells. -/
def RowAt (W : World) (b off : Nat) (xs : List Fm) : Prop := ∃ c fr, W.heap[b]? = some (Obj.cells c 46 fr) ∧ ∀ i (h : i < xs.length), ∀ j v, (xs[i]).cs[j]? = some v → c[off + i * 14 + j]? = some v
theorem RowAt.kept {W W' : World} {b off B : Nat} {xs : List Fm} (h : RowAt W b off xs) (hk : KpC B W W') (hb : B ≤ b) : RowAt W' b off xs := by
  obtain ⟨c, fr, h1, h2⟩ := h
  exact ⟨c, fr, hk.2.1 b c fr hb h1, h2⟩
theorem RowAt.cell {W : World} {b off : Nat} {xs : List Fm} (h : RowAt W b off xs) (i : Nat) (hi : i < xs.length) (j : Nat) (v : Value) (hv : (xs[i]).cs[j]? = some v) : W.cell? ⟨b, off + i * 14 + j, none⟩ = some v := by
  obtain ⟨c, fr, h1, h2⟩ := h
  simp [World.cell?, h1]
  exact h2 i hi j v hv
set_option maxRecDepth 100000 in
set_option maxHeartbeats 4000000 in
theorem part_in (F : Fence) (HF : Hid (F = Fence.wide)) (n : Nat) (hn : 1 ≤ n) (h30 : F.fn 30) (hro : F.round = none) (l N B : Nat) (J Jx : List Fm → World → Prop) (hJg : ∀ pre W W', J pre W → W.grownBy W' none → J pre W')
    (hY : YC F l N B J Jx) (xs : List Fm) (b off cap : Nat) (hb : B ≤ b) (hm : xs.length ≤ 1000) (hcap : xs.length ≤ cap) (pre : List Fm) (hlen : pre.length + xs.length ≤ N) (W : World) (hr : RowAt W b off xs) (hJ : J pre W) :
    CallsIn F n Tryd.prog 30 #[.slice (some ⟨b, off, none⟩) xs.length cap, .func (.yield l) #[] #[]] W fun e W' =>
      (e = .returned (.bool true) ∧ J (pre ++ xs) W' ∧ KpC B W W') ∨ (e = .returned (.bool false) ∧ ∃ q, q <+: xs ∧ Jx (pre ++ q) W') := by
  have HJ := Lib.hid hJg
  have HY := Lib.hid hY
  have HR := Lib.hid hr
  clear hJg hY hr
  refine callsIn_of_wp Tryd.func30 rfl h30 ?_ hro
  simp only [Tryd.ntmps30, List.size_toArray, List.length_cons, List.length_nil, Nat.reduceAdd, Nat.reduceSub, Array.replicate_succ, Array.replicate_zero, List.push_toArray, List.append_toArray, List.nil_append, List.cons_append]
  gi_wp2
  gi_loopw [9] (fun i wr => ∃ k : Nat, k ≤ xs.length ∧ i = .int .i64 k ∧ J (pre ++ xs.take k) wr ∧ KpC B W wr) (fun i _ => xs.length - (intOf i).toNat)
  case atStart => exact ⟨0, Nat.zero_le _, rfl, by simpa using hJ, kpC_refl _ _⟩
  case round =>
    obtain ⟨k, hk, rfl, hJs, hKp⟩ := hrel
    by_cases hlt : k < xs.length
    · have hrow := HR.out.kept hKp hb
      have hcs := hrow.cell k hlt
      have htk : xs.take (k + 1) = xs.take k ++ [xs[k]] := by rw [List.take_succ_eq_append_getElem hlt]
      have HT := Lib.hid htk
      clear htk hrow
      generalize xs[k] = x at *
      obtain ⟨x0, x1, x2, x3, x4, x5, x6, x7, x8, x9, x10, x11, x12, x13⟩ := x
      have c0 : wr.cell? ⟨b, off + k * 14, none⟩ = some (.int .u8 (x0 : Nat)) := hcs 0 _ rfl
      have c1 : wr.cell? ⟨b, off + k * 14 + 1, none⟩ = some (.int .u8 (x1 : Nat)) := hcs 1 _ rfl
      have c2 : wr.cell? ⟨b, off + k * 14 + 2, none⟩ = some (.int .u8 (x2 : Nat)) := hcs 2 _ rfl
      have c3 : wr.cell? ⟨b, off + k * 14 + 3, none⟩ = some (.bool x3) := hcs 3 _ rfl
      have c4 : wr.cell? ⟨b, off + k * 14 + 4, none⟩ = some (.int .i64 x4) := hcs 4 _ rfl
      have c5 : wr.cell? ⟨b, off + k * 14 + 5, none⟩ = some (.int .u8 (x5 : Nat)) := hcs 5 _ rfl
      have c6 : wr.cell? ⟨b, off + k * 14 + 6, none⟩ = some (.int .u8 (x6 : Nat)) := hcs 6 _ rfl
      have c7 : wr.cell? ⟨b, off + k * 14 + 7, none⟩ = some (.int .i64 x7) := hcs 7 _ rfl
      have c8 : wr.cell? ⟨b, off + k * 14 + 8, none⟩ = some (.int .u8 (x8 : Nat)) := hcs 8 _ rfl
      have c9 : wr.cell? ⟨b, off + k * 14 + 9, none⟩ = some (.int .i64 x9) := hcs 9 _ rfl
      have c10 : wr.cell? ⟨b, off + k * 14 + 10, none⟩ = some (.bool x10) := hcs 10 _ rfl
      have c11 : wr.cell? ⟨b, off + k * 14 + 11, none⟩ = some (.bool x11) := hcs 11 _ rfl
      have c12 : wr.cell? ⟨b, off + k * 14 + 12, none⟩ = some (.bool x12) := hcs 12 _ rfl
      have c13 : wr.cell? ⟨b, off + k * 14 + 13, none⟩ = some (.bool x13) := hcs 13 _ rfl
      clear hcs
      have hJ2 := HJ.out _ _ _ hJs (grown_alloc wr (Obj.cells (Fm.cs (x0, x1, x2, x3, x4, x5, x6, x7, x8, x9, x10, x11, x12, x13)).toArray 23))
      have hx := HY.out (n - 1) _ (x0, x1, x2, x3, x4, x5, x6, x7, x8, x9, x10, x11, x12, x13) _ hJ2 (by simp; omega)
      have HK2 : Hid (KpC B wr (wr.alloc (Obj.cells (Fm.cs (x0, x1, x2, x3, x4, x5, x6, x7, x8, x9, x10, x11, x12, x13)).toArray 23))) := Lib.hid (kpC_below ((Below.refl _ _).alloc (Nat.le_refl _) _))
      obtain ⟨fn, tmps, assign, body, hy, hR⟩ := hx
      have HRR := Lib.hid hR
      clear hR
      simp only [Fm.v, Fm.cs, fcs, Fm.p, Fm.m, Fm.o, Fm.plus, Fm.d, Fm.deed, Fm.cc, Fm.wide, Fm.kind, Fm.imm, Fm.must, Fm.vec, Fm.byte, Fm.mem] at hy HK2 HRR
      clear hJ2
      gi_wp2
      refine HRR.out.mono ?_
      rintro e W3 (⟨rfl, hJ3, hk3⟩ | ⟨rfl, hJx3⟩)
      · gi_wp2
        go_roundw
        case rel => exact ⟨k + 1, by omega, by go_num, by rw [HT.out, ← List.append_assoc]; exact hJ3, kpC_t (kpC_t hKp HK2.out) hk3⟩
        case measure => simp [intOf]; omega
      · gi_wp2
        go_ret
        exact .inr ⟨rfl, _, List.take_prefix (k + 1) xs, by rw [HT.out, ← List.append_assoc]; exact hJx3⟩
    · have HJS := Lib.hid hJs
      have HKP := Lib.hid hKp
      have HKE : Hid (k = xs.length) := Lib.hid (Nat.le_antisymm hk (Nat.not_lt.1 hlt))
      have hd : decide (k < xs.length) = false := decide_eq_false hlt
      clear hJs hKp
      gi_wp2
      go_ret
      have hJs := HJS.out
      rw [HKE.out, List.take_length] at hJs
      exact .inl ⟨rfl, hJs, HKP.out⟩
end Go.Proofs.YtaeehinlgmijgaaDoor
