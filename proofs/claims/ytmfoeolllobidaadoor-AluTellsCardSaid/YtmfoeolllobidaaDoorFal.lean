/- alu.fallen: the iterator, of each shift. -/
import Derived.Test.YtmfoeolllobidaaDoorClo
import Derived.Test.YtmfoeolllobidaaDoorRf
import Derived.Shelf.Abstract
import Derived.Shelf.RegionOpen
import Derived.OwnWalkIn
import Derived.TacticsInMore
import Derived.LoopNIn
import Derived.LoopIn
namespace Go.Proofs.YtmfoeolllobidaaDoor
open Go.RowKit Go.Shelf
set_option linter.unusedSimpArgs false
set_option linter.unusedVariables false
attribute [local go_sem] Oper.semAt_some
/-- A step done time after time: what is left, and the last bit that fell out. -/
def it (st : Nat → Nat × Bool) (a : Nat) : Nat → Nat × Bool
  | 0 => (a, false)
  | k + 1 => st (it st a k).1
def ups (st : Nat → Nat × Bool) (a k : Nat) : List (Nat × Bool) := (List.range k).map fun i => it st a (i + 1)
theorem ups_succ (st : Nat → Nat × Bool) (a k : Nat) : ups st a (k + 1) = ups st a k ++ [it st a (k + 1)] := by simp [ups, List.range_succ]
theorem ups_length (st : Nat → Nat × Bool) (a k : Nat) : (ups st a k).length = k := by simp [ups]
theorem it_U (st : Nat → Nat × Bool) (a : Nat) (ha : U a) (hst : ∀ r, U r → U (st r).1) (k : Nat) : U (it st a k).1 := by
  induction k with
  | zero => exact ha
  | succ k ih => exact hst _ ih
theorem inW {F : Fence} (HF : Hid (F = Fence.wide)) {n : Nat} {P : Program} {f : FuncId} {args : Array Value} {w : World} {R : Ending → World → Prop} (h : Calls P f args w R) : CallsIn F n P f args w R := by
  rw [HF.out]; exact callsIn_wide.2 h
theorem cell_set {W : World} {b : Nat} {v v' : Value} (h : W.cell? ⟨b, 0, none⟩ = some v) : (W.setCell ⟨b, 0, none⟩ v').cell? ⟨b, 0, none⟩ = some v' := by simp [go_sem, h]
def shrN (r : Nat) : Nat := r / 2
theorem shrN_step (r : Nat) (hr : U r) (wd : Int) (a pw pa pl ph : Nat) (w : World) (E : Env wd a pw pa pl ph w) :
    Calls Tryd.prog 64 #[.int .u64 r, .pointer (some ⟨pl, 0, none⟩)] w fun e w' => e = .returned (.tuple #[.int .u64 (shrN r : Nat), .bool (lB r)]) ∧ ∃ k, w' = w.drewN k := shr_step r hr wd a pw pa pl ph w E
theorem keeps_drewN (W : World) (q : Nat) : KeepsOthers W (W.drewN q) := ⟨Nat.le_refl _, fun _ _ h _ => h⟩
set_option maxHeartbeats 400000 in
theorem fallen_calls (a : Nat) (k : Int) (fn : Fn) (c1 c2 : Array Value) (w : World) :
    Calls Tryd.prog 43 #[.int .u64 a, .int .i64 k, .func fn c1 c2] w fun e w' => e = .returned (.func (.func 73) #[] #[.pointer (some ⟨w.heap.size + 1, 0, none⟩), .pointer (some ⟨w.heap.size + 1 + 1, 0, none⟩), .pointer (some ⟨w.heap.size, 0, none⟩)]) ∧ w' = ((w.alloc (Obj.cells #[.int .u64 (a : Int)] 22)).alloc (Obj.cells #[.int .i64 k] 3)).alloc (Obj.cells #[.func fn c1 c2] 50) := by
  go_enter Tryd.func43, Tryd.ntmps43
  go_wp2
  go_ret
  exact ⟨rfl, rfl⟩
set_option maxRecDepth 100000 in
set_option maxHeartbeats 2000000 in
theorem fallen_shl (F : Fence) (HF : Hid (F = Fence.wide)) (n k a : Nat) (hk : k < 64) (ha : U a) (wd : Int) (av pw pav pl ph pn ps pa : Nat) (I : List (Nat × Bool) → World → Prop)
    (hst : ∀ r, U r → U ((shlN r wd, sB r wd)).1)
    (gE : ∀ pre W, I pre W → Env wd av pw pav pl ph W) (gn : ∀ pre W, I pre W → W.cell? ⟨pn, 0, none⟩ = some (.int .i64 (k : Int))) (gs : ∀ pre W, I pre W → W.cell? ⟨ps, 0, none⟩ = some (.func (.func 62) #[] #[.pointer (some ⟨pw, 0, none⟩), .pointer (some ⟨ph, 0, none⟩)]))
    (gf : ∀ pre W, I pre W → W.frozen? ⟨pa, 0, none⟩ = false ∧ ∃ v, W.cell? ⟨pa, 0, none⟩ = some v) (g0 : ∀ W, I [] W → W.cell? ⟨pa, 0, none⟩ = some (.int .u64 (a : Int)))
    (gset : ∀ pre W x, pre ≠ [] → I pre W → I pre (W.setCell ⟨pa, 0, none⟩ x)) (gd : ∀ pre W q, I pre W → I pre (W.drewN q)) :
    Yields F n Tryd.prog 73 #[.pointer (some ⟨pn, 0, none⟩), .pointer (some ⟨ps, 0, none⟩), .pointer (some ⟨pa, 0, none⟩)] (fun x : Nat × Bool => #[.int .u64 (x.1 : Int), .bool x.2]) I (fun xs => xs = ups (fun r => (shlN r wd, sB r wd)) a k) k := by
  intro l B W hB hY h0 hb0
  have hro : F.round = none := by rw [HF.out]; rfl
  have h73 : F.fn 73 := by rw [HF.out]; trivial
  have hsf : F.fn 62 := by rw [HF.out]; trivial
  have hdp : F.depth = none := by rw [HF.out]; rfl
  have HST := Lib.hid hst
  have GE := Lib.hid gE
  have GN := Lib.hid gn
  have GS := Lib.hid gs
  have GF := Lib.hid gf
  have GSET := Lib.hid gset
  have GD := Lib.hid gd
  have HBB := Lib.hid hB
  have c0 := g0 W h0
  have c1 := gn _ _ h0
  have H0 := Lib.hid h0
  have HB0 := Lib.hid hb0
  have C0 := Lib.hid c0
  have hk' : (k : Int) < 64 := by omega
  clear hst gE gn gs gf gset gd hB h0 hb0 c0 g0
  refine callsIn_of_wp Tryd.func73 rfl h73 ?_ hro
  simp only [Tryd.ntmps73, List.size_toArray, List.length_cons, List.length_nil, Nat.reduceAdd, Nat.reduceSub, Array.replicate_succ, Array.replicate_zero, List.push_toArray, List.append_toArray, List.nil_append, List.cons_append]
  gi_wp2
  gi_loopw [8] (fun v wr => ∃ j : Nat, j ≤ k ∧ v = .int .i64 (j : Int) ∧ I (ups (fun r => (shlN r wd, sB r wd)) a j) wr ∧ B wr ∧ wr.cell? ⟨pa, 0, none⟩ = some (.int .u64 ((it (fun r => (shlN r wd, sB r wd)) a j).1 : Int))) (fun v _ => k - (intOf v).toNat)
  case atStart => exact ⟨0, Nat.zero_le _, rfl, H0.out, HB0.out, C0.out⟩
  case round =>
    obtain ⟨j, hj, rfl, hI, hBw, ca⟩ := hrel
    have HI := Lib.hid hI
    have HBw := Lib.hid hBw
    clear hI hBw c1
    have c2 := GS.out _ _ HI.out
    have hE := GE.out _ _ HI.out
    have hu := it_U (fun r => (shlN r wd, sB r wd)) a ha HST.out j
    by_cases hlt : j < k
    · gi_wp2_with fail
      gi_at_call 62
      refine (inW HF (shl_step _ hu wd av pw pav pl ph _ hE)).mono ?_
      rintro e w1 ⟨rfl, q, rfl⟩
      obtain ⟨fnn, tmps, assign, body, hy, hR⟩ := hY (ups (fun r => (shlN r wd, sB r wd)) a j) (it (fun r => (shlN r wd, sB r wd)) a (j + 1)) (wr.drewN q) (GD.out _ _ _ HI.out) (HBB.out _ _ HBw.out (keeps_drewN wr q)) (by rw [ups_length]; exact hlt)
      have e1 : it (fun r => (shlN r wd, sB r wd)) a (j + 1) = (fun r => (shlN r wd, sB r wd)) (it (fun r => (shlN r wd, sB r wd)) a j).1 := rfl
      simp only [e1] at hy
      have HE := Lib.hid hE
      clear hE e1
      gi_wp2
      refine hR.mono ?_
      rintro e W3 ⟨rfl, hI3, hB3⟩
      obtain ⟨f3, v3, c3⟩ := GF.out _ _ hI3
      have HI3 := Lib.hid hI3
      have C3 := Lib.hid c3
      have HB3 := Lib.hid hB3
      clear hI3 hB3 hR hy
      gi_wp2
      go_roundw
      case rel => exact ⟨j + 1, hlt, by go_num, by rw [ups_succ]; exact GSET.out _ _ _ (by simp) HI3.out, HBB.out _ _ HB3.out (KeepsOthers.setCell _ _ _), cell_set C3.out⟩
      case measure => simp [intOf]; omega
    · have hjk : j = k := by omega
      have HK := Lib.hid hjk
      clear hjk
      gi_wp2
      go_end0
      exact ⟨⟨_, rfl⟩, _, by rw [HK.out], HI.out, HBw.out⟩
set_option maxRecDepth 100000 in
set_option maxHeartbeats 2000000 in
theorem fallen_shrN (F : Fence) (HF : Hid (F = Fence.wide)) (n k a : Nat) (hk : k < 64) (ha : U a) (wd : Int) (av pw pav pl ph pn ps pa : Nat) (I : List (Nat × Bool) → World → Prop)
    (hst : ∀ r, U r → U ((shrN r, lB r)).1)
    (gE : ∀ pre W, I pre W → Env wd av pw pav pl ph W) (gn : ∀ pre W, I pre W → W.cell? ⟨pn, 0, none⟩ = some (.int .i64 (k : Int))) (gs : ∀ pre W, I pre W → W.cell? ⟨ps, 0, none⟩ = some (.func (.func 64) #[] #[.pointer (some ⟨pl, 0, none⟩)]))
    (gf : ∀ pre W, I pre W → W.frozen? ⟨pa, 0, none⟩ = false ∧ ∃ v, W.cell? ⟨pa, 0, none⟩ = some v) (g0 : ∀ W, I [] W → W.cell? ⟨pa, 0, none⟩ = some (.int .u64 (a : Int)))
    (gset : ∀ pre W x, pre ≠ [] → I pre W → I pre (W.setCell ⟨pa, 0, none⟩ x)) (gd : ∀ pre W q, I pre W → I pre (W.drewN q)) :
    Yields F n Tryd.prog 73 #[.pointer (some ⟨pn, 0, none⟩), .pointer (some ⟨ps, 0, none⟩), .pointer (some ⟨pa, 0, none⟩)] (fun x : Nat × Bool => #[.int .u64 (x.1 : Int), .bool x.2]) I (fun xs => xs = ups (fun r => (shrN r, lB r)) a k) k := by
  intro l B W hB hY h0 hb0
  have hro : F.round = none := by rw [HF.out]; rfl
  have h73 : F.fn 73 := by rw [HF.out]; trivial
  have hsf : F.fn 64 := by rw [HF.out]; trivial
  have hdp : F.depth = none := by rw [HF.out]; rfl
  have HST := Lib.hid hst
  have GE := Lib.hid gE
  have GN := Lib.hid gn
  have GS := Lib.hid gs
  have GF := Lib.hid gf
  have GSET := Lib.hid gset
  have GD := Lib.hid gd
  have HBB := Lib.hid hB
  have c0 := g0 W h0
  have c1 := gn _ _ h0
  have H0 := Lib.hid h0
  have HB0 := Lib.hid hb0
  have C0 := Lib.hid c0
  have hk' : (k : Int) < 64 := by omega
  clear hst gE gn gs gf gset gd hB h0 hb0 c0 g0
  refine callsIn_of_wp Tryd.func73 rfl h73 ?_ hro
  simp only [Tryd.ntmps73, List.size_toArray, List.length_cons, List.length_nil, Nat.reduceAdd, Nat.reduceSub, Array.replicate_succ, Array.replicate_zero, List.push_toArray, List.append_toArray, List.nil_append, List.cons_append]
  gi_wp2
  gi_loopw [8] (fun v wr => ∃ j : Nat, j ≤ k ∧ v = .int .i64 (j : Int) ∧ I (ups (fun r => (shrN r, lB r)) a j) wr ∧ B wr ∧ wr.cell? ⟨pa, 0, none⟩ = some (.int .u64 ((it (fun r => (shrN r, lB r)) a j).1 : Int))) (fun v _ => k - (intOf v).toNat)
  case atStart => exact ⟨0, Nat.zero_le _, rfl, H0.out, HB0.out, C0.out⟩
  case round =>
    obtain ⟨j, hj, rfl, hI, hBw, ca⟩ := hrel
    have HI := Lib.hid hI
    have HBw := Lib.hid hBw
    clear hI hBw c1
    have c2 := GS.out _ _ HI.out
    have hE := GE.out _ _ HI.out
    have hu := it_U (fun r => (shrN r, lB r)) a ha HST.out j
    by_cases hlt : j < k
    · gi_wp2_with fail
      gi_at_call 64
      refine (inW HF (shrN_step _ hu wd av pw pav pl ph _ hE)).mono ?_
      rintro e w1 ⟨rfl, q, rfl⟩
      obtain ⟨fnn, tmps, assign, body, hy, hR⟩ := hY (ups (fun r => (shrN r, lB r)) a j) (it (fun r => (shrN r, lB r)) a (j + 1)) (wr.drewN q) (GD.out _ _ _ HI.out) (HBB.out _ _ HBw.out (keeps_drewN wr q)) (by rw [ups_length]; exact hlt)
      have e1 : it (fun r => (shrN r, lB r)) a (j + 1) = (fun r => (shrN r, lB r)) (it (fun r => (shrN r, lB r)) a j).1 := rfl
      simp only [e1] at hy
      have HE := Lib.hid hE
      clear hE e1
      gi_wp2
      refine hR.mono ?_
      rintro e W3 ⟨rfl, hI3, hB3⟩
      obtain ⟨f3, v3, c3⟩ := GF.out _ _ hI3
      have HI3 := Lib.hid hI3
      have C3 := Lib.hid c3
      have HB3 := Lib.hid hB3
      clear hI3 hB3 hR hy
      gi_wp2
      go_roundw
      case rel => exact ⟨j + 1, hlt, by go_num, by rw [ups_succ]; exact GSET.out _ _ _ (by simp) HI3.out, HBB.out _ _ HB3.out (KeepsOthers.setCell _ _ _), cell_set C3.out⟩
      case measure => simp [intOf]; omega
    · have hjk : j = k := by omega
      have HK := Lib.hid hjk
      clear hjk
      gi_wp2
      go_end0
      exact ⟨⟨_, rfl⟩, _, by rw [HK.out], HI.out, HBw.out⟩
set_option maxRecDepth 100000 in
set_option maxHeartbeats 2000000 in
theorem fallen_sar (F : Fence) (HF : Hid (F = Fence.wide)) (n k a : Nat) (hk : k < 64) (ha : U a) (wd : Int) (av pw pav pl ph pn ps pa : Nat) (I : List (Nat × Bool) → World → Prop)
    (hst : ∀ r, U r → U ((sarN r wd, lB r)).1)
    (gE : ∀ pre W, I pre W → Env wd av pw pav pl ph W) (gn : ∀ pre W, I pre W → W.cell? ⟨pn, 0, none⟩ = some (.int .i64 (k : Int))) (gs : ∀ pre W, I pre W → W.cell? ⟨ps, 0, none⟩ = some (.func (.func 66) #[] #[.pointer (some ⟨pw, 0, none⟩), .pointer (some ⟨pl, 0, none⟩)]))
    (gf : ∀ pre W, I pre W → W.frozen? ⟨pa, 0, none⟩ = false ∧ ∃ v, W.cell? ⟨pa, 0, none⟩ = some v) (g0 : ∀ W, I [] W → W.cell? ⟨pa, 0, none⟩ = some (.int .u64 (a : Int)))
    (gset : ∀ pre W x, pre ≠ [] → I pre W → I pre (W.setCell ⟨pa, 0, none⟩ x)) (gd : ∀ pre W q, I pre W → I pre (W.drewN q)) :
    Yields F n Tryd.prog 73 #[.pointer (some ⟨pn, 0, none⟩), .pointer (some ⟨ps, 0, none⟩), .pointer (some ⟨pa, 0, none⟩)] (fun x : Nat × Bool => #[.int .u64 (x.1 : Int), .bool x.2]) I (fun xs => xs = ups (fun r => (sarN r wd, lB r)) a k) k := by
  intro l B W hB hY h0 hb0
  have hro : F.round = none := by rw [HF.out]; rfl
  have h73 : F.fn 73 := by rw [HF.out]; trivial
  have hsf : F.fn 66 := by rw [HF.out]; trivial
  have hdp : F.depth = none := by rw [HF.out]; rfl
  have HST := Lib.hid hst
  have GE := Lib.hid gE
  have GN := Lib.hid gn
  have GS := Lib.hid gs
  have GF := Lib.hid gf
  have GSET := Lib.hid gset
  have GD := Lib.hid gd
  have HBB := Lib.hid hB
  have c0 := g0 W h0
  have c1 := gn _ _ h0
  have H0 := Lib.hid h0
  have HB0 := Lib.hid hb0
  have C0 := Lib.hid c0
  have hk' : (k : Int) < 64 := by omega
  clear hst gE gn gs gf gset gd hB h0 hb0 c0 g0
  refine callsIn_of_wp Tryd.func73 rfl h73 ?_ hro
  simp only [Tryd.ntmps73, List.size_toArray, List.length_cons, List.length_nil, Nat.reduceAdd, Nat.reduceSub, Array.replicate_succ, Array.replicate_zero, List.push_toArray, List.append_toArray, List.nil_append, List.cons_append]
  gi_wp2
  gi_loopw [8] (fun v wr => ∃ j : Nat, j ≤ k ∧ v = .int .i64 (j : Int) ∧ I (ups (fun r => (sarN r wd, lB r)) a j) wr ∧ B wr ∧ wr.cell? ⟨pa, 0, none⟩ = some (.int .u64 ((it (fun r => (sarN r wd, lB r)) a j).1 : Int))) (fun v _ => k - (intOf v).toNat)
  case atStart => exact ⟨0, Nat.zero_le _, rfl, H0.out, HB0.out, C0.out⟩
  case round =>
    obtain ⟨j, hj, rfl, hI, hBw, ca⟩ := hrel
    have HI := Lib.hid hI
    have HBw := Lib.hid hBw
    clear hI hBw c1
    have c2 := GS.out _ _ HI.out
    have hE := GE.out _ _ HI.out
    have hu := it_U (fun r => (sarN r wd, lB r)) a ha HST.out j
    by_cases hlt : j < k
    · gi_wp2_with fail
      gi_at_call 66
      refine (inW HF (sar_step _ hu wd av pw pav pl ph _ hE)).mono ?_
      rintro e w1 ⟨rfl, q, rfl⟩
      obtain ⟨fnn, tmps, assign, body, hy, hR⟩ := hY (ups (fun r => (sarN r wd, lB r)) a j) (it (fun r => (sarN r wd, lB r)) a (j + 1)) (wr.drewN q) (GD.out _ _ _ HI.out) (HBB.out _ _ HBw.out (keeps_drewN wr q)) (by rw [ups_length]; exact hlt)
      have e1 : it (fun r => (sarN r wd, lB r)) a (j + 1) = (fun r => (sarN r wd, lB r)) (it (fun r => (sarN r wd, lB r)) a j).1 := rfl
      simp only [e1] at hy
      have HE := Lib.hid hE
      clear hE e1
      gi_wp2
      refine hR.mono ?_
      rintro e W3 ⟨rfl, hI3, hB3⟩
      obtain ⟨f3, v3, c3⟩ := GF.out _ _ hI3
      have HI3 := Lib.hid hI3
      have C3 := Lib.hid c3
      have HB3 := Lib.hid hB3
      clear hI3 hB3 hR hy
      gi_wp2
      go_roundw
      case rel => exact ⟨j + 1, hlt, by go_num, by rw [ups_succ]; exact GSET.out _ _ _ (by simp) HI3.out, HBB.out _ _ HB3.out (KeepsOthers.setCell _ _ _), cell_set C3.out⟩
      case measure => simp [intOf]; omega
    · have hjk : j = k := by omega
      have HK := Lib.hid hjk
      clear hjk
      gi_wp2
      go_end0
      exact ⟨⟨_, rfl⟩, _, by rw [HK.out], HI.out, HBw.out⟩
set_option maxRecDepth 100000 in
set_option maxHeartbeats 2000000 in
theorem fallen_rol (F : Fence) (HF : Hid (F = Fence.wide)) (n k a : Nat) (hk : k < 64) (ha : U a) (wd : Int) (av pw pav pl ph pn ps pa : Nat) (I : List (Nat × Bool) → World → Prop)
    (hst : ∀ r, U r → U ((turnN r (tN 1 wd) wd, sB r wd)).1)
    (gE : ∀ pre W, I pre W → Env wd av pw pav pl ph W) (gn : ∀ pre W, I pre W → W.cell? ⟨pn, 0, none⟩ = some (.int .i64 (k : Int))) (gs : ∀ pre W, I pre W → W.cell? ⟨ps, 0, none⟩ = some (.func (.func 68) #[] #[.pointer (some ⟨pw, 0, none⟩), .pointer (some ⟨ph, 0, none⟩)]))
    (gf : ∀ pre W, I pre W → W.frozen? ⟨pa, 0, none⟩ = false ∧ ∃ v, W.cell? ⟨pa, 0, none⟩ = some v) (g0 : ∀ W, I [] W → W.cell? ⟨pa, 0, none⟩ = some (.int .u64 (a : Int)))
    (gset : ∀ pre W x, pre ≠ [] → I pre W → I pre (W.setCell ⟨pa, 0, none⟩ x)) (gd : ∀ pre W q, I pre W → I pre (W.drewN q)) :
    Yields F n Tryd.prog 73 #[.pointer (some ⟨pn, 0, none⟩), .pointer (some ⟨ps, 0, none⟩), .pointer (some ⟨pa, 0, none⟩)] (fun x : Nat × Bool => #[.int .u64 (x.1 : Int), .bool x.2]) I (fun xs => xs = ups (fun r => (turnN r (tN 1 wd) wd, sB r wd)) a k) k := by
  intro l B W hB hY h0 hb0
  have hro : F.round = none := by rw [HF.out]; rfl
  have h73 : F.fn 73 := by rw [HF.out]; trivial
  have hsf : F.fn 68 := by rw [HF.out]; trivial
  have hdp : F.depth = none := by rw [HF.out]; rfl
  have HST := Lib.hid hst
  have GE := Lib.hid gE
  have GN := Lib.hid gn
  have GS := Lib.hid gs
  have GF := Lib.hid gf
  have GSET := Lib.hid gset
  have GD := Lib.hid gd
  have HBB := Lib.hid hB
  have c0 := g0 W h0
  have c1 := gn _ _ h0
  have H0 := Lib.hid h0
  have HB0 := Lib.hid hb0
  have C0 := Lib.hid c0
  have hk' : (k : Int) < 64 := by omega
  clear hst gE gn gs gf gset gd hB h0 hb0 c0 g0
  refine callsIn_of_wp Tryd.func73 rfl h73 ?_ hro
  simp only [Tryd.ntmps73, List.size_toArray, List.length_cons, List.length_nil, Nat.reduceAdd, Nat.reduceSub, Array.replicate_succ, Array.replicate_zero, List.push_toArray, List.append_toArray, List.nil_append, List.cons_append]
  gi_wp2
  gi_loopw [8] (fun v wr => ∃ j : Nat, j ≤ k ∧ v = .int .i64 (j : Int) ∧ I (ups (fun r => (turnN r (tN 1 wd) wd, sB r wd)) a j) wr ∧ B wr ∧ wr.cell? ⟨pa, 0, none⟩ = some (.int .u64 ((it (fun r => (turnN r (tN 1 wd) wd, sB r wd)) a j).1 : Int))) (fun v _ => k - (intOf v).toNat)
  case atStart => exact ⟨0, Nat.zero_le _, rfl, H0.out, HB0.out, C0.out⟩
  case round =>
    obtain ⟨j, hj, rfl, hI, hBw, ca⟩ := hrel
    have HI := Lib.hid hI
    have HBw := Lib.hid hBw
    clear hI hBw c1
    have c2 := GS.out _ _ HI.out
    have hE := GE.out _ _ HI.out
    have hu := it_U (fun r => (turnN r (tN 1 wd) wd, sB r wd)) a ha HST.out j
    by_cases hlt : j < k
    · gi_wp2_with fail
      gi_at_call 68
      refine (inW HF (rol_step _ hu wd av pw pav pl ph _ hE)).mono ?_
      rintro e w1 ⟨rfl, q, rfl⟩
      obtain ⟨fnn, tmps, assign, body, hy, hR⟩ := hY (ups (fun r => (turnN r (tN 1 wd) wd, sB r wd)) a j) (it (fun r => (turnN r (tN 1 wd) wd, sB r wd)) a (j + 1)) (wr.drewN q) (GD.out _ _ _ HI.out) (HBB.out _ _ HBw.out (keeps_drewN wr q)) (by rw [ups_length]; exact hlt)
      have e1 : it (fun r => (turnN r (tN 1 wd) wd, sB r wd)) a (j + 1) = (fun r => (turnN r (tN 1 wd) wd, sB r wd)) (it (fun r => (turnN r (tN 1 wd) wd, sB r wd)) a j).1 := rfl
      simp only [e1] at hy
      have HE := Lib.hid hE
      clear hE e1
      gi_wp2
      refine hR.mono ?_
      rintro e W3 ⟨rfl, hI3, hB3⟩
      obtain ⟨f3, v3, c3⟩ := GF.out _ _ hI3
      have HI3 := Lib.hid hI3
      have C3 := Lib.hid c3
      have HB3 := Lib.hid hB3
      clear hI3 hB3 hR hy
      gi_wp2
      go_roundw
      case rel => exact ⟨j + 1, hlt, by go_num, by rw [ups_succ]; exact GSET.out _ _ _ (by simp) HI3.out, HBB.out _ _ HB3.out (KeepsOthers.setCell _ _ _), cell_set C3.out⟩
      case measure => simp [intOf]; omega
    · have hjk : j = k := by omega
      have HK := Lib.hid hjk
      clear hjk
      gi_wp2
      go_end0
      exact ⟨⟨_, rfl⟩, _, by rw [HK.out], HI.out, HBw.out⟩
set_option maxRecDepth 100000 in
set_option maxHeartbeats 2000000 in
theorem fallen_ror (F : Fence) (HF : Hid (F = Fence.wide)) (n k a : Nat) (hk : k < 64) (ha : U a) (wd : Int) (av pw pav pl ph pn ps pa : Nat) (I : List (Nat × Bool) → World → Prop)
    (hst : ∀ r, U r → U ((turnN r (tN (-1) wd) wd, lB r)).1)
    (gE : ∀ pre W, I pre W → Env wd av pw pav pl ph W) (gn : ∀ pre W, I pre W → W.cell? ⟨pn, 0, none⟩ = some (.int .i64 (k : Int))) (gs : ∀ pre W, I pre W → W.cell? ⟨ps, 0, none⟩ = some (.func (.func 71) #[] #[.pointer (some ⟨pw, 0, none⟩), .pointer (some ⟨pl, 0, none⟩)]))
    (gf : ∀ pre W, I pre W → W.frozen? ⟨pa, 0, none⟩ = false ∧ ∃ v, W.cell? ⟨pa, 0, none⟩ = some v) (g0 : ∀ W, I [] W → W.cell? ⟨pa, 0, none⟩ = some (.int .u64 (a : Int)))
    (gset : ∀ pre W x, pre ≠ [] → I pre W → I pre (W.setCell ⟨pa, 0, none⟩ x)) (gd : ∀ pre W q, I pre W → I pre (W.drewN q)) :
    Yields F n Tryd.prog 73 #[.pointer (some ⟨pn, 0, none⟩), .pointer (some ⟨ps, 0, none⟩), .pointer (some ⟨pa, 0, none⟩)] (fun x : Nat × Bool => #[.int .u64 (x.1 : Int), .bool x.2]) I (fun xs => xs = ups (fun r => (turnN r (tN (-1) wd) wd, lB r)) a k) k := by
  intro l B W hB hY h0 hb0
  have hro : F.round = none := by rw [HF.out]; rfl
  have h73 : F.fn 73 := by rw [HF.out]; trivial
  have hsf : F.fn 71 := by rw [HF.out]; trivial
  have hdp : F.depth = none := by rw [HF.out]; rfl
  have HST := Lib.hid hst
  have GE := Lib.hid gE
  have GN := Lib.hid gn
  have GS := Lib.hid gs
  have GF := Lib.hid gf
  have GSET := Lib.hid gset
  have GD := Lib.hid gd
  have HBB := Lib.hid hB
  have c0 := g0 W h0
  have c1 := gn _ _ h0
  have H0 := Lib.hid h0
  have HB0 := Lib.hid hb0
  have C0 := Lib.hid c0
  have hk' : (k : Int) < 64 := by omega
  clear hst gE gn gs gf gset gd hB h0 hb0 c0 g0
  refine callsIn_of_wp Tryd.func73 rfl h73 ?_ hro
  simp only [Tryd.ntmps73, List.size_toArray, List.length_cons, List.length_nil, Nat.reduceAdd, Nat.reduceSub, Array.replicate_succ, Array.replicate_zero, List.push_toArray, List.append_toArray, List.nil_append, List.cons_append]
  gi_wp2
  gi_loopw [8] (fun v wr => ∃ j : Nat, j ≤ k ∧ v = .int .i64 (j : Int) ∧ I (ups (fun r => (turnN r (tN (-1) wd) wd, lB r)) a j) wr ∧ B wr ∧ wr.cell? ⟨pa, 0, none⟩ = some (.int .u64 ((it (fun r => (turnN r (tN (-1) wd) wd, lB r)) a j).1 : Int))) (fun v _ => k - (intOf v).toNat)
  case atStart => exact ⟨0, Nat.zero_le _, rfl, H0.out, HB0.out, C0.out⟩
  case round =>
    obtain ⟨j, hj, rfl, hI, hBw, ca⟩ := hrel
    have HI := Lib.hid hI
    have HBw := Lib.hid hBw
    clear hI hBw c1
    have c2 := GS.out _ _ HI.out
    have hE := GE.out _ _ HI.out
    have hu := it_U (fun r => (turnN r (tN (-1) wd) wd, lB r)) a ha HST.out j
    by_cases hlt : j < k
    · gi_wp2_with fail
      gi_at_call 71
      refine (inW HF (ror_step _ hu wd av pw pav pl ph _ hE)).mono ?_
      rintro e w1 ⟨rfl, q, rfl⟩
      obtain ⟨fnn, tmps, assign, body, hy, hR⟩ := hY (ups (fun r => (turnN r (tN (-1) wd) wd, lB r)) a j) (it (fun r => (turnN r (tN (-1) wd) wd, lB r)) a (j + 1)) (wr.drewN q) (GD.out _ _ _ HI.out) (HBB.out _ _ HBw.out (keeps_drewN wr q)) (by rw [ups_length]; exact hlt)
      have e1 : it (fun r => (turnN r (tN (-1) wd) wd, lB r)) a (j + 1) = (fun r => (turnN r (tN (-1) wd) wd, lB r)) (it (fun r => (turnN r (tN (-1) wd) wd, lB r)) a j).1 := rfl
      simp only [e1] at hy
      have HE := Lib.hid hE
      clear hE e1
      gi_wp2
      refine hR.mono ?_
      rintro e W3 ⟨rfl, hI3, hB3⟩
      obtain ⟨f3, v3, c3⟩ := GF.out _ _ hI3
      have HI3 := Lib.hid hI3
      have C3 := Lib.hid c3
      have HB3 := Lib.hid hB3
      clear hI3 hB3 hR hy
      gi_wp2
      go_roundw
      case rel => exact ⟨j + 1, hlt, by go_num, by rw [ups_succ]; exact GSET.out _ _ _ (by simp) HI3.out, HBB.out _ _ HB3.out (KeepsOthers.setCell _ _ _), cell_set C3.out⟩
      case measure => simp [intOf]; omega
    · have hjk : j = k := by omega
      have HK := Lib.hid hjk
      clear hjk
      gi_wp2
      go_end0
      exact ⟨⟨_, rfl⟩, _, by rw [HK.out], HI.out, HBw.out⟩
end Go.Proofs.YtmfoeolllobidaaDoor
