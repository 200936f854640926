/- codes.each: all forms, in order. -/
import Derived.Test.YtaeehinlgmijgaaDoorSh
import Derived.Test.YtaeehinlgmijgaaDoorCo
namespace Go.Proofs.YtaeehinlgmijgaaDoor
open Go.RowKit Go.Shelf
set_option linter.unusedVariables false
set_option linter.unusedSimpArgs false
attribute [local go_sem] Oper.semAt_some
theorem inW {F : Fence} (HF : Hid (F = Fence.wide)) {n : Nat} {P : Program} {f : FuncId} {args : Array Value} {w : World} {R : Ending → World → Prop} (h : Calls P f args w R) : CallsIn F n P f args w R := by
  rw [HF.out]; exact callsIn_wide.2 h
theorem wpIn_of_wp {F : Fence} (HF : Hid (F = Fence.wide)) {n : Nat} {P : Program} {c : Code} {Q : Exit → Act → World → Prop} {a : Act} {w : World} (h : c.wp P Q a w) : c.wpIn F n P Q a w := by
  rw [HF.out]; exact wpIn_wide.2 h
theorem wp_of_wpIn {F : Fence} (HF : Hid (F = Fence.wide)) (n : Nat) {P : Program} {c : Code} {Q : Exit → Act → World → Prop} {a : Act} {w : World} (h : c.wpIn F n P Q a w) : c.wp P Q a w := by
  rw [HF.out] at h; exact wpIn_wide.1 h
theorem cellsL_at : ∀ (L : List Fm) (i : Nat) (hi : i < L.length) (j : Nat), j < 14 → (cellsL L)[i * 14 + j]? = (L[i]).cs[j]?
  | [], i, hi, _, _ => absurd hi (Nat.not_lt_zero _)
  | x :: L, 0, _, j, hj => by
    show (x.cs ++ cellsL L)[0 * 14 + j]? = _
    rw [List.getElem?_append_left (by rw [Fm.cs_len]; omega)]
    congr 1; omega
  | x :: L, i + 1, hi, j, hj => by
    show (x.cs ++ cellsL L)[(i + 1) * 14 + j]? = _
    rw [List.getElem?_append_right (by rw [Fm.cs_len]; omega), Fm.cs_len, show (i + 1) * 14 + j - 14 = i * 14 + j by omega]
    exact cellsL_at L i (by simpa using hi) j hj
theorem row_of {W : World} {b : Nat} (h : R46 W b pl46) (d m : Nat) (hd : d + m ≤ 33) : RowAt W b (d * 14) ((plainL.drop d).take m) := by
  refine ⟨pl46, (0, 0), h, fun i hi j v hv => ?_⟩
  have hlen : plainL.length = 33 := rfl
  have hj : j < 14 := by have := (List.getElem?_eq_some_iff.1 hv).1; rwa [Fm.cs_len] at this
  have him : i < m := by simp at hi; omega
  have e := cellsL_at plainL (d + i) (by omega) j hj
  have e2 : ((plainL.drop d).take m)[i] = plainL[d + i]'(by omega) := by simp
  rw [e2] at hv
  show (cellsL plainL).toArray[d * 14 + i * 14 + j]? = _
  rw [List.getElem?_toArray, show d * 14 + i * 14 + j = (d + i) * 14 + j by omega, e, hv]
def fp0 : List Fm := []
def fp1 : List Fm := fp0 ++ ((plainL.drop 0).take 8)
def fp2 : List Fm := fp1 ++ sumL
def fp3 : List Fm := fp2 ++ ((plainL.drop 8).take 8)
def fp4 : List Fm := fp3 ++ shiftL
def fp5 : List Fm := fp4 ++ ((plainL.drop 16).take 8)
def fp6 : List Fm := fp5 ++ condL
def fp7 : List Fm := fp6 ++ ((plainL.drop 24).take 9)
theorem fp_all : fp7 = formsL := by kernel_rfl
def fr0 : List Fm := (sumL) ++ (((plainL.drop 8).take 8)) ++ (shiftL) ++ (((plainL.drop 16).take 8)) ++ (condL) ++ (((plainL.drop 24).take 9))
theorem fp_at0 : fp0 ++ ((plainL.drop 0).take 8) ++ fr0 = formsL := by kernel_rfl
def fr1 : List Fm := (((plainL.drop 8).take 8)) ++ (shiftL) ++ (((plainL.drop 16).take 8)) ++ (condL) ++ (((plainL.drop 24).take 9))
theorem fp_at1 : fp1 ++ sumL ++ fr1 = formsL := by kernel_rfl
def fr2 : List Fm := (shiftL) ++ (((plainL.drop 16).take 8)) ++ (condL) ++ (((plainL.drop 24).take 9))
theorem fp_at2 : fp2 ++ ((plainL.drop 8).take 8) ++ fr2 = formsL := by kernel_rfl
def fr3 : List Fm := (((plainL.drop 16).take 8)) ++ (condL) ++ (((plainL.drop 24).take 9))
theorem fp_at3 : fp3 ++ shiftL ++ fr3 = formsL := by kernel_rfl
def fr4 : List Fm := (condL) ++ (((plainL.drop 24).take 9))
theorem fp_at4 : fp4 ++ ((plainL.drop 16).take 8) ++ fr4 = formsL := by kernel_rfl
def fr5 : List Fm := (((plainL.drop 24).take 9))
theorem fp_at5 : fp5 ++ condL ++ fr5 = formsL := by kernel_rfl
def fr6 : List Fm := ([] : List Fm)
theorem fp_at6 : fp6 ++ ((plainL.drop 24).take 9) ++ fr6 = formsL := by kernel_rfl
set_option maxRecDepth 100000 in
set_option maxHeartbeats 4000000 in
theorem each1_in (F : Fence) (HF : Hid (F = Fence.wide)) (n : Nat) (hn : 2 ≤ n) (hro : F.round = none) (l B : Nat) (J Jx : List Fm → World → Prop) (hJg : ∀ pre W W', J pre W → W.grownBy W' none → J pre W')
    (hY : YC F l 139 B J Jx) (W : World) (hB : B ≤ W.heap.size) (hG : GL W) (h0 : J [] W) :
    CallsIn F n Tryd.prog 28 #[.func (.yield l) #[] #[]] W fun e W' => (∃ v, e = .returned v) ∧ ((∃ ys, ys = formsL ∧ J ys W') ∨ (∃ pre, pre <+: formsL ∧ Jx pre W')) := by
  have HJ := Lib.hid hJg
  have HY := Lib.hid hY
  have HG := Lib.hid hG
  have hn1 : 1 ≤ n := by omega
  have h28 : F.fn 28 := by rw [HF.out]; trivial
  have h30 : F.fn 30 := by rw [HF.out]; trivial
  have h31 : F.fn 31 := by rw [HF.out]; trivial
  have h32 : F.fn 32 := by rw [HF.out]; trivial
  have h33 : F.fn 33 := by rw [HF.out]; trivial
  clear hJg hY hG
  have hz := zv46
  have hne := z46_ne
  refine callsIn_of_wp Tryd.func28 rfl h28 ?_ hro
  simp only [Tryd.ntmps28, List.size_toArray, List.length_cons, List.length_nil, Nat.reduceAdd, Nat.reduceSub, Array.replicate_succ, Array.replicate_zero, List.push_toArray, List.append_toArray, List.nil_append, List.cons_append]
  refine wpIn_of_wp HF ?_
  go_wp2_with fail
  go_at_call 29
  (with_reducible refine (plain_any _).mono ?_)
  rintro e w2 ⟨rfl, hb2⟩
  have HZ : Hid (R46 (w2.alloc (.cells z46 46)) w2.heap.size z46) := Lib.hid (heap_alloc_last w2 _)
  have HA := Lib.hid (hb2.alloc hb2.size (.cells z46 46))
  have hs2 := hb2.size
  clear hb2
  go_upto_region 1 with (refine wpList_store46 rfl rfl rfl rfl HZ.out z46_size pl46_size pl46_one ?_)
  have HR := Lib.hid (setRow_heap _ _ _ pl46 _ _ HZ.out)
  have HB3 := Lib.hid (below_row (vs := pl46) HA.out (show W.heap.size ≤ w2.heap.size by omega))
  clear hz hne HZ HA
  generalize World.setRow _ _ _ = W3 at *
  generalize w2.heap.size = b at *
  have hBb : B ≤ b := by omega
  have hJ3 := HJ.out _ _ _ h0 (grown_below HB3.out)
  have HG3 := Lib.hid (HG.out.below HB3.out)
  have HR3 : Hid (R46 W3 b pl46) := HR
  clear h0 hs2 HB3 HG HR
  refine wp_of_wpIn HF n ?_
  have hc : CallsIn F (n - 1) Tryd.prog 30 #[.slice (some ⟨b, 0, none⟩) 8 33, .func (.yield l) #[] #[]] W3 fun e W' => (e = .returned (.bool true) ∧ J fp1 W' ∧ KpC B W3 W') ∨ (e = .returned (.bool false) ∧ ∃ q, q <+: ((plainL.drop 0).take 8) ∧ Jx (fp0 ++ q) W') :=
    part_in F HF (n - 1) (by omega) h30 hro l 139 B J Jx HJ.out HY.out ((plainL.drop 0).take 8) b 0 33 hBb (by decide +kernel) (by decide +kernel) fp0 (by decide +kernel) W3 (row_of HR3.out 0 8 (by decide)) hJ3
  have HC := Lib.hid hc
  clear hc
  gi_wp2
  refine HC.out.mono ?_
  rintro e W4 (⟨rfl, hJ4, hk⟩ | ⟨rfl, q, hq, hJx⟩)
  rotate_left
  · gi_wp2
    repeat (refine ⟨(fun f h => nomatch h), ?_⟩; gi_wp2)
    go_end0
    exact ⟨⟨_, rfl⟩, .inr ⟨_, fp_at0 ▸ pre_mid hq, hJx⟩⟩
  have HR4 : Hid (R46 W4 b pl46) := Lib.hid (hk.2.1 b _ _ hBb HR3.out)
  have HG4 := Lib.hid (hk.2.2 HG3.out)
  clear hk HC
  have hc : CallsIn F (n - 1) Tryd.prog 31 #[.func (.yield l) #[] #[]] W4 fun e W' => (e = .returned (.bool true) ∧ J fp2 W' ∧ KpC B W4 W') ∨ (e = .returned (.bool false) ∧ ∃ q, q <+: sumL ∧ Jx (fp1 ++ q) W') :=
    sum_in F HF (n - 1) (by omega) h31 hro l 139 B J Jx HJ.out HY.out fp1 (by decide +kernel) W4 HG4.out hJ4
  have HC := Lib.hid hc
  clear hc
  gi_wp2
  refine HC.out.mono ?_
  rintro e W5 (⟨rfl, hJ5, hk⟩ | ⟨rfl, q, hq, hJx⟩)
  rotate_left
  · gi_wp2
    repeat (refine ⟨(fun f h => nomatch h), ?_⟩; gi_wp2)
    go_end0
    exact ⟨⟨_, rfl⟩, .inr ⟨_, fp_at1 ▸ pre_mid hq, hJx⟩⟩
  have HR5 : Hid (R46 W5 b pl46) := Lib.hid (hk.2.1 b _ _ hBb HR4.out)
  have HG5 := Lib.hid (hk.2.2 HG4.out)
  clear hk HC
  have hc : CallsIn F (n - 1) Tryd.prog 30 #[.slice (some ⟨b, 112, none⟩) 8 25, .func (.yield l) #[] #[]] W5 fun e W' => (e = .returned (.bool true) ∧ J fp3 W' ∧ KpC B W5 W') ∨ (e = .returned (.bool false) ∧ ∃ q, q <+: ((plainL.drop 8).take 8) ∧ Jx (fp2 ++ q) W') :=
    part_in F HF (n - 1) (by omega) h30 hro l 139 B J Jx HJ.out HY.out ((plainL.drop 8).take 8) b 112 25 hBb (by decide +kernel) (by decide +kernel) fp2 (by decide +kernel) W5 (row_of HR5.out 8 8 (by decide)) hJ5
  have HC := Lib.hid hc
  clear hc
  gi_wp2
  refine HC.out.mono ?_
  rintro e W6 (⟨rfl, hJ6, hk⟩ | ⟨rfl, q, hq, hJx⟩)
  rotate_left
  · gi_wp2
    repeat (refine ⟨(fun f h => nomatch h), ?_⟩; gi_wp2)
    go_end0
    exact ⟨⟨_, rfl⟩, .inr ⟨_, fp_at2 ▸ pre_mid hq, hJx⟩⟩
  have HR6 : Hid (R46 W6 b pl46) := Lib.hid (hk.2.1 b _ _ hBb HR5.out)
  have HG6 := Lib.hid (hk.2.2 HG5.out)
  clear hk HC
  have hc : CallsIn F (n - 1) Tryd.prog 32 #[.func (.yield l) #[] #[]] W6 fun e W' => (e = .returned (.bool true) ∧ J fp4 W' ∧ KpC B W6 W') ∨ (e = .returned (.bool false) ∧ ∃ q, q <+: shiftL ∧ Jx (fp3 ++ q) W') :=
    shift_in F HF (n - 1) (by omega) h32 hro l 139 B J Jx HJ.out HY.out fp3 (by decide +kernel) W6 HG6.out hJ6
  have HC := Lib.hid hc
  clear hc
  gi_wp2
  refine HC.out.mono ?_
  rintro e W7 (⟨rfl, hJ7, hk⟩ | ⟨rfl, q, hq, hJx⟩)
  rotate_left
  · gi_wp2
    repeat (refine ⟨(fun f h => nomatch h), ?_⟩; gi_wp2)
    go_end0
    exact ⟨⟨_, rfl⟩, .inr ⟨_, fp_at3 ▸ pre_mid hq, hJx⟩⟩
  have HR7 : Hid (R46 W7 b pl46) := Lib.hid (hk.2.1 b _ _ hBb HR6.out)
  have HG7 := Lib.hid (hk.2.2 HG6.out)
  clear hk HC
  have hc : CallsIn F (n - 1) Tryd.prog 30 #[.slice (some ⟨b, 224, none⟩) 8 17, .func (.yield l) #[] #[]] W7 fun e W' => (e = .returned (.bool true) ∧ J fp5 W' ∧ KpC B W7 W') ∨ (e = .returned (.bool false) ∧ ∃ q, q <+: ((plainL.drop 16).take 8) ∧ Jx (fp4 ++ q) W') :=
    part_in F HF (n - 1) (by omega) h30 hro l 139 B J Jx HJ.out HY.out ((plainL.drop 16).take 8) b 224 17 hBb (by decide +kernel) (by decide +kernel) fp4 (by decide +kernel) W7 (row_of HR7.out 16 8 (by decide)) hJ7
  have HC := Lib.hid hc
  clear hc
  gi_wp2
  refine HC.out.mono ?_
  rintro e W8 (⟨rfl, hJ8, hk⟩ | ⟨rfl, q, hq, hJx⟩)
  rotate_left
  · gi_wp2
    repeat (refine ⟨(fun f h => nomatch h), ?_⟩; gi_wp2)
    go_end0
    exact ⟨⟨_, rfl⟩, .inr ⟨_, fp_at4 ▸ pre_mid hq, hJx⟩⟩
  have HR8 : Hid (R46 W8 b pl46) := Lib.hid (hk.2.1 b _ _ hBb HR7.out)
  have HG8 := Lib.hid (hk.2.2 HG7.out)
  clear hk HC
  have hc : CallsIn F (n - 1) Tryd.prog 33 #[.func (.yield l) #[] #[]] W8 fun e W' => (e = .returned (.bool true) ∧ J fp6 W' ∧ KpC B W8 W') ∨ (e = .returned (.bool false) ∧ ∃ q, q <+: condL ∧ Jx (fp5 ++ q) W') :=
    cond_in F HF (n - 1) (by omega) h33 hro l 139 B J Jx HJ.out HY.out fp5 (by decide +kernel) W8 hJ8
  have HC := Lib.hid hc
  clear hc
  gi_wp2
  refine HC.out.mono ?_
  rintro e W9 (⟨rfl, hJ9, hk⟩ | ⟨rfl, q, hq, hJx⟩)
  rotate_left
  · gi_wp2
    repeat (refine ⟨(fun f h => nomatch h), ?_⟩; gi_wp2)
    go_end0
    exact ⟨⟨_, rfl⟩, .inr ⟨_, fp_at5 ▸ pre_mid hq, hJx⟩⟩
  have HR9 : Hid (R46 W9 b pl46) := Lib.hid (hk.2.1 b _ _ hBb HR8.out)
  have HG9 := Lib.hid (hk.2.2 HG8.out)
  clear hk HC
  have hc : CallsIn F (n - 1) Tryd.prog 30 #[.slice (some ⟨b, 336, none⟩) 9 9, .func (.yield l) #[] #[]] W9 fun e W' => (e = .returned (.bool true) ∧ J fp7 W' ∧ KpC B W9 W') ∨ (e = .returned (.bool false) ∧ ∃ q, q <+: ((plainL.drop 24).take 9) ∧ Jx (fp6 ++ q) W') :=
    part_in F HF (n - 1) (by omega) h30 hro l 139 B J Jx HJ.out HY.out ((plainL.drop 24).take 9) b 336 9 hBb (by decide +kernel) (by decide +kernel) fp6 (by decide +kernel) W9 (row_of HR9.out 24 9 (by decide)) hJ9
  have HC := Lib.hid hc
  clear hc
  gi_wp2
  refine HC.out.mono ?_
  rintro e W10 (⟨rfl, hJ10, hk⟩ | ⟨rfl, q, hq, hJx⟩)
  rotate_left
  · gi_wp2
    repeat (refine ⟨(fun f h => nomatch h), ?_⟩; gi_wp2)
    go_end0
    exact ⟨⟨_, rfl⟩, .inr ⟨_, fp_at6 ▸ pre_mid hq, hJx⟩⟩
  have HR10 : Hid (R46 W10 b pl46) := Lib.hid (hk.2.1 b _ _ hBb HR9.out)
  have HG10 := Lib.hid (hk.2.2 HG9.out)
  clear hk HC
  gi_wp2
  go_end0
  exact ⟨⟨_, rfl⟩, .inl ⟨_, fp_all, hJ10⟩⟩
theorem each_in (F : Fence) (HF : Hid (F = Fence.wide)) (n : Nat) (w : World) :
    CallsIn F n Tryd.prog 20 #[] w fun e w' => e = .returned (.func (.func 28) #[] #[]) ∧ w' = w := by
  refine inW HF ?_
  go_enter Tryd.func20, Tryd.ntmps20
  go_wp2_with fail
  go_ret
  exact ⟨rfl, rfl⟩
theorem each_any (w : World) : Calls Tryd.prog 20 #[] w fun e w' => e = .returned (.func (.func 28) #[] #[]) ∧ w' = w := callsIn_wide.1 (each_in Fence.wide (Lib.hid rfl) 1 w)
theorem each_stops (F : Fence) (HF : Hid (F = Fence.wide)) (n : Nat) (hn : 2 ≤ n) (hro : F.round = none) (w : World) (hG : GL w) :
    SeqStopsK F n Tryd.prog 28 #[] (fun x : Fm => #[Fm.v x]) (KpC w.heap.size) (fun ys => ys = formsL) (fun pre => pre <+: formsL) 139 w := fun l J Jx W hW hJ _ hY h0 => by
  have hd : F.depth = none := by rw [HF.out]; rfl
  exact each1_in F HF n hn hro l w.heap.size J Jx (fun pre W1 W2 h hg => hJ pre W1 W2 none h hg (fun r e => by cases e))
    (fun m pre x W1 hj hl => YieldAt.anyDepth hd m (hY pre x W1 hj hl)) W hW.size (hG.below hW) h0
end Go.Proofs.YtaeehinlgmijgaaDoor
