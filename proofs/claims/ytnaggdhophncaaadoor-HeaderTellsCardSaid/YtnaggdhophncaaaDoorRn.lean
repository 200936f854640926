/- The reference's Section and Head. -/
import Derived.Test.YtnaggdhophncaaaDoorAn
namespace Go.Proofs.YtnaggdhophncaaaDoor
open Go.RowKit Go.Shelf
set_option linter.unusedVariables false
set_option linter.unusedSimpArgs false
attribute [local go_sem] Oper.semAt_some
theorem pieceZ {f : Nat → Nat} {o s : Nat} (h : ∀ j, j < s → f (o + j) = 0) : rowB (fun j => f (o + j)) s = List.replicate s (Value.int .u8 0) := by
  apply List.ext_getElem?
  intro j
  by_cases hj : j < s
  · rw [rowB_at _ _ _ hj, h j hj, List.getElem?_replicate_of_lt hj]; rfl
  · rw [List.getElem?_eq_none (by rw [rowB_len]; omega), List.getElem?_eq_none (by simp; omega)]
def rsecL (kind off size link each : Nat) : List Value := (((((((([] ++ bsV 0 4) ++ bsV kind 4) ++ List.replicate 16 (Value.int .u8 0)) ++ bsV off 8) ++ bsV size 8) ++ bsV link 4) ++ List.replicate 12 (Value.int .u8 0)) ++ bsV each 8)
set_option maxRecDepth 100000 in
set_option maxHeartbeats 8000000 in
theorem rsec_any (kind off size link each : Nat) (hkind : V32 kind) (hlink : V32 link) (w : World) : Calls Tryd.prog 19 #[.agg #[.int .u32 (kind : Nat), .int .u64 (off : Nat), .int .u64 (size : Nat), .int .u32 (link : Nat), .int .u64 (each : Nat)]] w fun e W' => ∃ v, e = .returned v ∧ W'.ownsRow (w.heap.size + 1) 5 1 v 64 (rsecL kind off size link each) ∧ Below w.heap.size w W' := by
  have wkind := w32 hkind
  have wlink := w32 hlink
  have HS := Lib.hid (show RG w w.heap.size (w.heap.size + 1) #[.int .u32 (kind : Nat), .int .u64 (off : Nat), .int .u64 (size : Nat), .int .u32 (link : Nat), .int .u64 (each : Nat)] 32 0 [] (.slice none 0 0) _ from ⟨heap_alloc_last w (.cells #[.int .u32 (kind : Nat), .int .u64 (off : Nat), .int .u64 (size : Nat), .int .u32 (link : Nat), .int .u64 (each : Nat)] 32), World.ownsRow_nil _ _ _ _, (Below.refl _ w).alloc (Nat.le_refl _) _, by simp⟩)
  have hbg : w.heap.size < w.heap.size + 1 := by omega
  have hwg : w.heap.size ≤ w.heap.size + 1 := by omega
  go_enter Tryd.func19, Tryd.ntmps19
  go_upto_region 1 with fail
  generalize World.alloc w _ = W1 at HS ⊢
  go_wp2_with fail
  go_at_call 32
  refine (rput_any (w.heap.size + 1) _ 0 _ 0 4 (by decide) (by decide) (by decide) _ HS.out.2.2.2 HS.out.2.1).mono ?_
  rintro e W2 ⟨v0, rfl, h1, h2⟩
  replace HS := Lib.hid (HS.out.put hbg hwg h1 h2)
  clear h1 h2
  have c1 := cell_at (i := 0) (v := .int .u32 (kind : Nat)) HS.out.1 rfl
  go_wp2_with fail
  go_at_call 32
  refine (rput_any (w.heap.size + 1) _ 4 _ kind 4 (by decide) (by decide) (by decide) _ HS.out.2.2.2 HS.out.2.1).mono ?_
  rintro e W3 ⟨v1, rfl, h1, h2⟩
  replace HS := Lib.hid (HS.out.put hbg hwg h1 h2)
  clear h1 h2 c1
  go_wp2_with (first | (refine wpList_appmakeown (m := 16) rfl rfl rfl rfl HS.out.2.1 (by decide) (by decide) HS.out.2.2.2 ?_) | fail)
  intro v2 W4 h1 h2
  replace HS := Lib.hid (HS.out.put hbg hwg h1 h2)
  clear h1 h2
  have c3 := cell_at (i := 1) (v := .int .u64 (off : Nat)) HS.out.1 rfl
  go_wp2_with fail
  go_at_call 32
  refine (rput_any (w.heap.size + 1) _ 24 _ off 8 (by decide) (by decide) (by decide) _ HS.out.2.2.2 HS.out.2.1).mono ?_
  rintro e W5 ⟨v3, rfl, h1, h2⟩
  replace HS := Lib.hid (HS.out.put hbg hwg h1 h2)
  clear h1 h2 c3
  have c4 := cell_at (i := 2) (v := .int .u64 (size : Nat)) HS.out.1 rfl
  go_wp2_with fail
  go_at_call 32
  refine (rput_any (w.heap.size + 1) _ 32 _ size 8 (by decide) (by decide) (by decide) _ HS.out.2.2.2 HS.out.2.1).mono ?_
  rintro e W6 ⟨v4, rfl, h1, h2⟩
  replace HS := Lib.hid (HS.out.put hbg hwg h1 h2)
  clear h1 h2 c4
  have c5 := cell_at (i := 3) (v := .int .u32 (link : Nat)) HS.out.1 rfl
  go_wp2_with fail
  go_at_call 32
  refine (rput_any (w.heap.size + 1) _ 40 _ link 4 (by decide) (by decide) (by decide) _ HS.out.2.2.2 HS.out.2.1).mono ?_
  rintro e W7 ⟨v5, rfl, h1, h2⟩
  replace HS := Lib.hid (HS.out.put hbg hwg h1 h2)
  clear h1 h2 c5
  go_wp2_with (first | (refine wpList_appmakeown (m := 12) rfl rfl rfl rfl HS.out.2.1 (by decide) (by decide) HS.out.2.2.2 ?_) | fail)
  intro v6 W8 h1 h2
  replace HS := Lib.hid (HS.out.put hbg hwg h1 h2)
  clear h1 h2
  have c7 := cell_at (i := 4) (v := .int .u64 (each : Nat)) HS.out.1 rfl
  go_wp2_with fail
  go_at_call 32
  refine (rput_any (w.heap.size + 1) _ 56 _ each 8 (by decide) (by decide) (by decide) _ HS.out.2.2.2 HS.out.2.1).mono ?_
  rintro e W9 ⟨v7, rfl, h1, h2⟩
  replace HS := Lib.hid (HS.out.put hbg hwg h1 h2)
  clear h1 h2 c7
  go_wp2_with fail
  go_ret
  exact ⟨_, rfl, HS.out.2.1, HS.out.2.2.1⟩
theorem sec_row (kind off size link each : Nat) : rsecL kind off size link each = rowB (secF kind off size link each) 64 := by
  show _ = rowB _ (0 + 4 + 4 + 16 + 8 + 8 + 4 + 12 + 8)
  rw [rowB_app, rowB_app, rowB_app, rowB_app, rowB_app, rowB_app, rowB_app, rowB_app]
  have z0 : rowB (secF kind off size link each) 0 = [] := rfl
  have p0 : rowB (fun j => secF kind off size link each (0 + j)) 4 = bsV 0 4 := piece (fun j hj => by
    show secF kind off size link each (0 + j) = _
    unfold secF
    rw [putF_out (by omega)]
    rw [putF_out (by omega)]
    rw [putF_out (by omega)]
    rw [putF_out (by omega)]
    rw [putF_out (by omega)]
    exact (byN_0 j).symm)
  have p1 : rowB (fun j => secF kind off size link each (0 + 4 + j)) 4 = bsV kind 4 := piece (fun j hj => by
    show secF kind off size link each (4 + j) = _
    unfold secF
    rw [putF_out (by omega)]
    rw [putF_out (by omega)]
    rw [putF_out (by omega)]
    rw [putF_out (by omega)]
    exact putF_in hj)
  have p2 : rowB (fun j => secF kind off size link each (0 + 4 + 4 + j)) 16 = List.replicate 16 (Value.int .u8 0) := pieceZ (fun j hj => by
    show secF kind off size link each (8 + j) = _
    unfold secF
    rw [putF_out (by omega)]
    rw [putF_out (by omega)]
    rw [putF_out (by omega)]
    rw [putF_out (by omega)]
    rw [putF_out (by omega)]
    all_goals rfl)
  have p3 : rowB (fun j => secF kind off size link each (0 + 4 + 4 + 16 + j)) 8 = bsV off 8 := piece (fun j hj => by
    show secF kind off size link each (24 + j) = _
    unfold secF
    rw [putF_out (by omega)]
    rw [putF_out (by omega)]
    rw [putF_out (by omega)]
    exact putF_in hj)
  have p4 : rowB (fun j => secF kind off size link each (0 + 4 + 4 + 16 + 8 + j)) 8 = bsV size 8 := piece (fun j hj => by
    show secF kind off size link each (32 + j) = _
    unfold secF
    rw [putF_out (by omega)]
    rw [putF_out (by omega)]
    exact putF_in hj)
  have p5 : rowB (fun j => secF kind off size link each (0 + 4 + 4 + 16 + 8 + 8 + j)) 4 = bsV link 4 := piece (fun j hj => by
    show secF kind off size link each (40 + j) = _
    unfold secF
    rw [putF_out (by omega)]
    exact putF_in hj)
  have p6 : rowB (fun j => secF kind off size link each (0 + 4 + 4 + 16 + 8 + 8 + 4 + j)) 12 = List.replicate 12 (Value.int .u8 0) := pieceZ (fun j hj => by
    show secF kind off size link each (44 + j) = _
    unfold secF
    rw [putF_out (by omega)]
    rw [putF_out (by omega)]
    rw [putF_out (by omega)]
    rw [putF_out (by omega)]
    rw [putF_out (by omega)]
    all_goals rfl)
  have p7 : rowB (fun j => secF kind off size link each (0 + 4 + 4 + 16 + 8 + 8 + 4 + 12 + j)) 8 = bsV each 8 := piece (fun j hj => by
    show secF kind off size link each (56 + j) = _
    unfold secF
    exact putF_in hj)
  rw [z0, p0, p1, p2, p3, p4, p5, p6, p7]
  rfl
def lit16 : List Value := [.int .u8 127, .int .u8 69, .int .u8 76, .int .u8 70, .int .u8 2, .int .u8 1, .int .u8 1, .int .u8 0, .int .u8 0, .int .u8 0, .int .u8 0, .int .u8 0, .int .u8 0, .int .u8 0, .int .u8 0, .int .u8 0]
def rheadL (en so sc ns nc : Nat) : List Value := (((((((((((((lit16 ++ bsV 2 2) ++ bsV 62 2) ++ bsV 1 4) ++ bsV en 8) ++ bsV so 8) ++ bsV sc 8) ++ bsV 0 4) ++ bsV 64 2) ++ bsV 56 2) ++ bsV ns 2) ++ bsV 64 2) ++ bsV nc 2) ++ bsV 0 2)
theorem lit_owns (W : World) (n0 : Nat) (h : n0 ≤ W.heap.size) : (W.alloc (.cells lit16.toArray 5)).ownsRow n0 5 1 (.slice (some ⟨W.heap.size, 0, none⟩) 16 16) 16 lit16 :=
  ⟨rfl, .inr ⟨W.heap.size, 16, lit16.toArray, rfl, h, heap_alloc_last W _, Nat.le_refl _, by unfold maxLen; decide, rfl, rfl⟩⟩
set_option maxRecDepth 100000 in
set_option maxHeartbeats 8000000 in
theorem rhead_any (en so sc ns nc : Nat) (sa ca : Option Addr) (sp cp : Nat) (hns : ns ≤ 9223372036854775807) (hnc : nc ≤ 9223372036854775807) (w : World) : Calls Tryd.prog 15 #[.agg (hcs en so sc ns nc sa ca sp cp)] w fun e W' => ∃ v, e = .returned v ∧ W'.ownsRow (w.heap.size + 1) 5 1 v 64 (rheadL en so sc ns nc) ∧ Below w.heap.size w W' := by
  have HS := Lib.hid (show RG w w.heap.size (w.heap.size + 1) (hcs en so sc ns nc sa ca sp cp) 27 16 lit16 (.slice (some ⟨w.heap.size + 1, 0, none⟩) 16 16) ((w.alloc (.cells (hcs en so sc ns nc sa ca sp cp) 27)).alloc (.cells lit16.toArray 5)) from
    ⟨(heap_alloc_old _ _ (by simp)).trans (heap_alloc_last w (.cells (hcs en so sc ns nc sa ca sp cp) 27)), by have := lit_owns (w.alloc (.cells (hcs en so sc ns nc sa ca sp cp) 27)) (w.heap.size + 1) (by simp); rwa [World.size_alloc] at this, ((Below.refl _ w).alloc (Nat.le_refl _) _).alloc (by simp) _, by simp⟩)
  have hbg : w.heap.size < w.heap.size + 1 := by omega
  have hwg : w.heap.size ≤ w.heap.size + 1 := by omega
  have w1 : IntKind.u64.wrap (ns : Int) = (ns : Int) := IntWalk.u64_in _ (by omega)
  have w2 : IntKind.u64.wrap (nc : Int) = (nc : Int) := IntWalk.u64_in _ (by omega)
  clear hns hnc
  have hcse : ∃ cs, cs = hcs en so sc ns nc sa ca sp cp := ⟨_, rfl⟩
  unfold hcs
  go_enter Tryd.func15, Tryd.ntmps15
  go_upto_region 2 with fail
  unfold hcs lit16 at HS
  generalize World.alloc (World.alloc w _) _ = W1 at HS ⊢
  rw [show ([.int .u8 127, .int .u8 69, .int .u8 76, .int .u8 70, .int .u8 2, .int .u8 1, .int .u8 1, .int .u8 0, .int .u8 0, .int .u8 0, .int .u8 0, .int .u8 0, .int .u8 0, .int .u8 0, .int .u8 0, .int .u8 0] : List Value) = lit16 from rfl] at HS
  go_wp2_with fail
  go_at_call 32
  refine (rput_any (w.heap.size + 1) _ 16 _ 2 2 (by decide) (by decide) (by decide) _ HS.out.2.2.2 HS.out.2.1).mono ?_
  rintro e W2 ⟨v0, rfl, h1, h2⟩
  replace HS := Lib.hid (HS.out.put hbg hwg h1 h2)
  clear h1 h2
  go_wp2_with fail
  go_at_call 32
  refine (rput_any (w.heap.size + 1) _ 18 _ 62 2 (by decide) (by decide) (by decide) _ HS.out.2.2.2 HS.out.2.1).mono ?_
  rintro e W3 ⟨v1, rfl, h1, h2⟩
  replace HS := Lib.hid (HS.out.put hbg hwg h1 h2)
  clear h1 h2
  go_wp2_with fail
  go_at_call 32
  refine (rput_any (w.heap.size + 1) _ 20 _ 1 4 (by decide) (by decide) (by decide) _ HS.out.2.2.2 HS.out.2.1).mono ?_
  rintro e W4 ⟨v2, rfl, h1, h2⟩
  replace HS := Lib.hid (HS.out.put hbg hwg h1 h2)
  clear h1 h2
  have c3 := cell_at (i := 0) (v := .int .u64 (en : Nat)) HS.out.1 rfl
  go_wp2_with fail
  go_at_call 32
  refine (rput_any (w.heap.size + 1) _ 24 _ en 8 (by decide) (by decide) (by decide) _ HS.out.2.2.2 HS.out.2.1).mono ?_
  rintro e W5 ⟨v3, rfl, h1, h2⟩
  replace HS := Lib.hid (HS.out.put hbg hwg h1 h2)
  clear h1 h2 c3
  have c4 := cell_at (i := 1) (v := .int .u64 (so : Nat)) HS.out.1 rfl
  go_wp2_with fail
  go_at_call 32
  refine (rput_any (w.heap.size + 1) _ 32 _ so 8 (by decide) (by decide) (by decide) _ HS.out.2.2.2 HS.out.2.1).mono ?_
  rintro e W6 ⟨v4, rfl, h1, h2⟩
  replace HS := Lib.hid (HS.out.put hbg hwg h1 h2)
  clear h1 h2 c4
  have c5 := cell_at (i := 2) (v := .int .u64 (sc : Nat)) HS.out.1 rfl
  go_wp2_with fail
  go_at_call 32
  refine (rput_any (w.heap.size + 1) _ 40 _ sc 8 (by decide) (by decide) (by decide) _ HS.out.2.2.2 HS.out.2.1).mono ?_
  rintro e W7 ⟨v5, rfl, h1, h2⟩
  replace HS := Lib.hid (HS.out.put hbg hwg h1 h2)
  clear h1 h2 c5
  go_wp2_with fail
  go_at_call 32
  refine (rput_any (w.heap.size + 1) _ 48 _ 0 4 (by decide) (by decide) (by decide) _ HS.out.2.2.2 HS.out.2.1).mono ?_
  rintro e W8 ⟨v6, rfl, h1, h2⟩
  replace HS := Lib.hid (HS.out.put hbg hwg h1 h2)
  clear h1 h2
  go_wp2_with fail
  go_at_call 32
  refine (rput_any (w.heap.size + 1) _ 52 _ 64 2 (by decide) (by decide) (by decide) _ HS.out.2.2.2 HS.out.2.1).mono ?_
  rintro e W9 ⟨v7, rfl, h1, h2⟩
  replace HS := Lib.hid (HS.out.put hbg hwg h1 h2)
  clear h1 h2
  go_wp2_with fail
  go_at_call 32
  refine (rput_any (w.heap.size + 1) _ 54 _ 56 2 (by decide) (by decide) (by decide) _ HS.out.2.2.2 HS.out.2.1).mono ?_
  rintro e W10 ⟨v8, rfl, h1, h2⟩
  replace HS := Lib.hid (HS.out.put hbg hwg h1 h2)
  clear h1 h2
  have c9 := cell_at (i := 3) (v := .slice sa ns sp) HS.out.1 rfl
  go_wp2_with fail
  go_at_call 32
  refine (rput_any (w.heap.size + 1) _ 56 _ ns 2 (by decide) (by decide) (by decide) _ HS.out.2.2.2 HS.out.2.1).mono ?_
  rintro e W11 ⟨v9, rfl, h1, h2⟩
  replace HS := Lib.hid (HS.out.put hbg hwg h1 h2)
  clear h1 h2 c9
  go_wp2_with fail
  go_at_call 32
  refine (rput_any (w.heap.size + 1) _ 58 _ 64 2 (by decide) (by decide) (by decide) _ HS.out.2.2.2 HS.out.2.1).mono ?_
  rintro e W12 ⟨v10, rfl, h1, h2⟩
  replace HS := Lib.hid (HS.out.put hbg hwg h1 h2)
  clear h1 h2
  have c11 := cell_at (i := 4) (v := .slice ca nc cp) HS.out.1 rfl
  go_wp2_with fail
  go_at_call 32
  refine (rput_any (w.heap.size + 1) _ 60 _ nc 2 (by decide) (by decide) (by decide) _ HS.out.2.2.2 HS.out.2.1).mono ?_
  rintro e W13 ⟨v11, rfl, h1, h2⟩
  replace HS := Lib.hid (HS.out.put hbg hwg h1 h2)
  clear h1 h2 c11
  go_wp2_with fail
  go_at_call 32
  refine (rput_any (w.heap.size + 1) _ 62 _ 0 2 (by decide) (by decide) (by decide) _ HS.out.2.2.2 HS.out.2.1).mono ?_
  rintro e W14 ⟨v12, rfl, h1, h2⟩
  replace HS := Lib.hid (HS.out.put hbg hwg h1 h2)
  clear h1 h2
  go_wp2_with fail
  go_ret
  exact ⟨_, rfl, HS.out.2.1, HS.out.2.2.1⟩
theorem head_lo (en so sc ns nc : Nat) {o s x : Nat} (h : ∀ j, j < s → headK 10 (o + j) = byN x j) (ho : o + s ≤ 24 ∨ (48 ≤ o ∧ o + s ≤ 56) ∨ (58 ≤ o ∧ o + s ≤ 60) ∨ 62 ≤ o) : rowB (fun j => headF en so sc ns nc (o + j)) s = bsV x s :=
  piece fun j hj => (headF_out en so sc ns nc (o + j) (by omega)).trans (h j hj)
theorem head_row (en so sc ns nc : Nat) : rheadL en so sc ns nc = rowB (headF en so sc ns nc) 64 := by
  show _ = rowB _ (16 + 2 + 2 + 4 + 8 + 8 + 8 + 4 + 2 + 2 + 2 + 2 + 2 + 2)
  rw [rowB_app, rowB_app, rowB_app, rowB_app, rowB_app, rowB_app, rowB_app, rowB_app, rowB_app, rowB_app, rowB_app, rowB_app, rowB_app]
  have z0 : rowB (headF en so sc ns nc) 16 = lit16 := (rowB_congr (fun j hj => headF_out en so sc ns nc j (by omega))).trans (by kernel_rfl)
  have p0 : rowB (fun j => headF en so sc ns nc (16 + j)) 2 = bsV 2 2 := head_lo en so sc ns nc (o := 16) (by decide) (by decide)
  have p1 : rowB (fun j => headF en so sc ns nc (16 + 2 + j)) 2 = bsV 62 2 := head_lo en so sc ns nc (o := 18) (by decide) (by decide)
  have p2 : rowB (fun j => headF en so sc ns nc (16 + 2 + 2 + j)) 4 = bsV 1 4 := head_lo en so sc ns nc (o := 20) (by decide) (by decide)
  have p3 : rowB (fun j => headF en so sc ns nc (16 + 2 + 2 + 4 + j)) 8 = bsV en 8 := piece (fun j hj => by
    show headF en so sc ns nc (24 + j) = _
    unfold headF
    rw [putF_out (by omega)]
    rw [putF_out (by omega)]
    rw [putF_out (by omega)]
    rw [putF_out (by omega)]
    exact putF_in hj)
  have p4 : rowB (fun j => headF en so sc ns nc (16 + 2 + 2 + 4 + 8 + j)) 8 = bsV so 8 := piece (fun j hj => by
    show headF en so sc ns nc (32 + j) = _
    unfold headF
    rw [putF_out (by omega)]
    rw [putF_out (by omega)]
    rw [putF_out (by omega)]
    exact putF_in hj)
  have p5 : rowB (fun j => headF en so sc ns nc (16 + 2 + 2 + 4 + 8 + 8 + j)) 8 = bsV sc 8 := piece (fun j hj => by
    show headF en so sc ns nc (40 + j) = _
    unfold headF
    rw [putF_out (by omega)]
    rw [putF_out (by omega)]
    exact putF_in hj)
  have p6 : rowB (fun j => headF en so sc ns nc (16 + 2 + 2 + 4 + 8 + 8 + 8 + j)) 4 = bsV 0 4 := head_lo en so sc ns nc (o := 48) (by decide) (by decide)
  have p7 : rowB (fun j => headF en so sc ns nc (16 + 2 + 2 + 4 + 8 + 8 + 8 + 4 + j)) 2 = bsV 64 2 := head_lo en so sc ns nc (o := 52) (by decide) (by decide)
  have p8 : rowB (fun j => headF en so sc ns nc (16 + 2 + 2 + 4 + 8 + 8 + 8 + 4 + 2 + j)) 2 = bsV 56 2 := head_lo en so sc ns nc (o := 54) (by decide) (by decide)
  have p9 : rowB (fun j => headF en so sc ns nc (16 + 2 + 2 + 4 + 8 + 8 + 8 + 4 + 2 + 2 + j)) 2 = bsV ns 2 := piece (fun j hj => by
    show headF en so sc ns nc (56 + j) = _
    unfold headF
    rw [putF_out (by omega)]
    exact putF_in hj)
  have p10 : rowB (fun j => headF en so sc ns nc (16 + 2 + 2 + 4 + 8 + 8 + 8 + 4 + 2 + 2 + 2 + j)) 2 = bsV 64 2 := head_lo en so sc ns nc (o := 58) (by decide) (by decide)
  have p11 : rowB (fun j => headF en so sc ns nc (16 + 2 + 2 + 4 + 8 + 8 + 8 + 4 + 2 + 2 + 2 + 2 + j)) 2 = bsV nc 2 := piece (fun j hj => by
    show headF en so sc ns nc (60 + j) = _
    unfold headF
    exact putF_in hj)
  have p12 : rowB (fun j => headF en so sc ns nc (16 + 2 + 2 + 4 + 8 + 8 + 8 + 4 + 2 + 2 + 2 + 2 + 2 + j)) 2 = bsV 0 2 := head_lo en so sc ns nc (o := 62) (by decide) (by decide)
  rw [z0, p0, p1, p2, p3, p4, p5, p6, p7, p8, p9, p10, p11, p12]
  rfl
end Go.Proofs.YtnaggdhophncaaaDoor
