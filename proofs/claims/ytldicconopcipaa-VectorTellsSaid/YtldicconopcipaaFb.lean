/- field.moved: a block's bytes, boxed, its rows turned. -/
import Derived.Test.YtldicconopcipaaFa
namespace Go.Proofs.Ytldicconopcipaa
open Go.RowKit Go.Shelf
set_option linter.unusedVariables false
set_option linter.unusedSimpArgs false
attribute [local go_sem] Oper.semAt_some
/-- Where the byte comes from. -/
def shI (i : Nat) : Nat := (i + 4 * (i % 4)) % 16
def movF (f : Nat → Nat) (j : Nat) : Pl 16 := if h : j < 16 then ⟨(j, boxN (f (shI j))), h⟩ else ⟨(0, 0), by omega⟩
theorem movF_at (f : Nat → Nat) (j : Nat) (h : j < 16) : movF f j = ⟨(j, boxN (f (shI j))), h⟩ := dif_pos h
/-- The block is kept, and nothing goes. -/
def KpM (A : Nat) (W W' : World) : Prop := KpR A W W' ∧ W.heap.size ≤ W'.heap.size
theorem kpM_t {A : Nat} {X Y Z : World} (h : KpM A X Y) (k : KpM A Y Z) : KpM A X Z := ⟨kpR_t h.1 k.1, Nat.le_trans h.2 k.2⟩
theorem kpM_b {A : Nat} {w : World} (hA : A < w.heap.size) (W : World) (l : Nat) (o o' : Obj) (hl : w.heap.size ≤ l) (h : W.heap[l]? = some o) (h1 : o.isCells = false) (h2 : o.isWalk = false) : KpM A W (W.putObj l o') :=
  ⟨kpR_b hA W l o o' hl h h1 h2, (belowK_b (Nat.le_refl w.heap.size) W l o o' hl h h1 h2).size⟩
theorem grown_below {W W' : World} (hb : Below W.heap.size W W') : W.grownBy W' none := ⟨hb.os, hb.tape, hb.output, hb.size, fun k hk _ => hb.block k hk⟩
set_option maxRecDepth 100000 in
set_option maxHeartbeats 1000000 in
theorem moved1_in (F : Fence) (HF : Hid (F = Fence.wide)) (n : Nat) (h54 : F.fn 54) (hro : F.round = none) (hn : 1 ≤ n) (l A : Nat) (f : Nat → Nat) (hf : ∀ j, f j < 256) (J Jx : List (Pl 16) → World → Prop)
    (hJb : ∀ pre W W', J pre W → Below W.heap.size W W' → J pre W')
    (hY : ∀ pre x W, J pre W → pre.length < 16 → YieldAt F (n - 1) Try.prog l #[.int .i64 (x.1.1 : Int), .int .u8 ((x.1.2 : Nat) : Int)] W fun e W' =>
      (e = .returned (.bool true) ∧ J (pre ++ [x]) W' ∧ KpM A W W') ∨ (e = .returned (.bool false) ∧ Jx (pre ++ [x]) W'))
    (W : World) (hA : ∀ i, i < 16 → W.cell? ⟨A, i, none⟩ = some (.int .u8 (f i : Int))) (hAl : A < W.heap.size) (h0 : J [] W) :
    CallsIn F n Try.prog 54 #[.func (.yield l) #[] #[], .pointer (some ⟨A, 0, none⟩)] W fun e W' => (∃ v, e = .returned v) ∧
      ((∃ ys, ys = upto (movF f) 16 ∧ J ys W') ∨ (∃ pre, (∃ k, k ≤ 16 ∧ pre = upto (movF f) k) ∧ Jx pre W')) := by
  have HA := Lib.hid hA
  have HY := Lib.hid hY
  clear hA hY
  refine callsIn_of_wp Try.func54 rfl h54 ?_ hro
  simp only [Try.ntmps54, List.size_toArray, List.length_cons, List.length_nil, Nat.reduceAdd, Nat.reduceSub, Array.replicate_succ, Array.replicate_zero, List.push_toArray, List.append_toArray, List.nil_append, List.cons_append]
  gi_wp2
  gi_loopw [4] (fun i wr => ∃ k : Nat, k ≤ 16 ∧ i = .int .i64 k ∧ J (upto (movF f) k) wr ∧ KpR A W wr ∧ A < wr.heap.size)
    (fun i _ => 16 - (intOf i).toNat)
  case atStart => exact ⟨0, Nat.zero_le _, rfl, h0, fun _ _ => rfl, hAl⟩
  case round =>
    obtain ⟨k, hk, rfl, hJs, hnx, hsz⟩ := hrel
    by_cases hlt : k < 16
    · have hsh : shI k < 16 := Nat.mod_lt _ (by decide)
      have hc := (hnx _ hsh).trans (HA.out _ hsh)
      have hz := hf (shI k)
      have hF : movF f k = ⟨(k, boxN (f (shI k))), hlt⟩ := movF_at f k hlt
      have HF2 := Lib.hid hF
      clear hF
      generalize f (shI k) = z at *
      unfold shI at hc
      have hbx := boxed_any z hz wr
      have HBX := Lib.hid hbx
      clear hbx
      gi_wp2
      refine ⟨by rw [HF.out]; trivial, (inW HF HBX.out).mono ?_⟩
      rintro e w2 ⟨rfl, hb2⟩
      have hJ2 := hJb _ _ _ hJs hb2
      have hn2 : KpR A wr w2 := fun i hi => hb2.cell (p := ⟨A, i, none⟩) (by show A < wr.heap.size; omega)
      have hx := HY.out _ (movF f k) w2 hJ2 (by rw [upto_length]; exact hlt)
      rw [HF2.out] at hx
      dsimp only at hx
      obtain ⟨fn, tmps, assign, body, hy, hR⟩ := hx
      have HR := Lib.hid hR
      have hsz2 := hb2.size
      clear hR hb2
      gi_wp2
      refine HR.out.mono ?_
      rintro e W3 (⟨rfl, hJ3, hk3⟩ | ⟨rfl, hJx3⟩)
      · gi_wp2
        go_roundw
        case rel => exact ⟨k + 1, by omega, by go_num, by rw [upto_succ, HF2.out]; exact hJ3, kpR_t (kpR_t hnx hn2) hk3.1, Nat.lt_of_lt_of_le (Nat.lt_of_lt_of_le hsz hsz2) hk3.2⟩
        case measure => simp [intOf]; omega
      · gi_wp2
        refine bodyPost_ret (results_none rfl _ _ _) rfl ?_
        exact ⟨⟨_, rfl⟩, .inr ⟨_, ⟨k + 1, by omega, (congrArg (fun q => upto (movF f) k ++ [q]) HF2.out.symm).trans (upto_succ _ k).symm⟩, hJx3⟩⟩
    · obtain rfl : k = 16 := by omega
      gi_wp2
      go_end0
      exact ⟨⟨_, rfl⟩, .inl ⟨_, rfl, hJs⟩⟩
theorem moved_in (F : Fence) (HF : Hid (F = Fence.wide)) (n : Nat) (x : Array Value) (w : World) :
    CallsIn F n Try.prog 49 #[.agg x] w fun e w' => e = .returned (.func (.func 54) #[] #[.pointer (some ⟨w.heap.size, 0, none⟩)]) ∧ w' = w.alloc (.cells x 22) := by
  refine inW HF ?_
  go_enter Try.func49, Try.ntmps49
  go_wp2_with fail
  go_ret
  exact ⟨rfl, rfl⟩
theorem moved_any (x : Array Value) (w : World) :
    Calls Try.prog 49 #[.agg x] w fun e w' => e = .returned (.func (.func 54) #[] #[.pointer (some ⟨w.heap.size, 0, none⟩)]) ∧ w' = w.alloc (.cells x 22) := callsIn_wide.1 (moved_in Fence.wide (Lib.hid rfl) 1 x w)
theorem moved_stops (F : Fence) (HF : Hid (F = Fence.wide)) (n : Nat) (h54 : F.fn 54) (hro : F.round = none) (hn : 1 ≤ n) (A : Nat) (f : Nat → Nat) (hf : ∀ j, f j < 256) (w : World) (hAn : A < w.heap.size)
    (hA : ∀ i, i < 16 → w.cell? ⟨A, i, none⟩ = some (.int .u8 (f i : Int))) :
    SeqStopsK F n Try.prog 54 #[.pointer (some ⟨A, 0, none⟩)] (fun x : Pl 16 => #[Value.int .i64 (x.1.1 : Int), Value.int .u8 ((x.1.2 : Nat) : Int)]) (KpM A) (fun ys => ys = upto (movF f) 16)
      (fun pre => ∃ k, k ≤ 16 ∧ pre = upto (movF f) k) 16 w := fun l J Jx W hW hJ _ hY h0 =>
  moved1_in F HF n h54 hro hn l A f hf J Jx (fun pre W1 W2 h hb => hJ pre W1 W2 none h (grown_below hb) (fun r e => by cases e)) hY W (fun i hi => (hW.cell (p := ⟨A, i, none⟩) (by dsimp only; omega)).trans (hA i hi)) (Nat.lt_of_lt_of_le hAn hW.size) h0
end Go.Proofs.Ytldicconopcipaa
