/- The reference's Segment and Section. -/
import Derived.Test.YtnaggdhophncaaaDoorSe
import Derived.Test.YtnaggdhophncaaaDoorRp
import Derived.Test.YtnaggdhophncaaaDoorTk
namespace Go.Proofs.YtnaggdhophncaaaDoor
open Go.RowKit Go.Shelf
set_option linter.unusedVariables false
set_option linter.unusedSimpArgs false
attribute [local go_sem] Oper.semAt_some
/-- The bytes so far, in a row of one's own; the thing in its box. -/
def RG (w : World) (b n0 : Nat) (cs : Array Value) (t : TypeId) (n : Nat) (xs : List Value) (v : Value) (W : World) : Prop := W.heap[b]? = some (.cells cs t (0, 0)) ∧ W.ownsRow n0 5 1 v n xs ∧ Below w.heap.size w W ∧ n0 ≤ W.heap.size
theorem RG.put {w W W' : World} {b n0 n m : Nat} {cs : Array Value} {t : TypeId} {xs ys : List Value} {v v' : Value} (h : RG w b n0 cs t n xs v W) (hb : b < n0) (hw : w.heap.size ≤ n0) (ho : W'.ownsRow n0 5 1 v' m ys) (hg : W.grownBy W' v.ownBlock) : RG w b n0 cs t m ys v' W' := by
  have hown : ∀ q, v.ownBlock = some q → n0 ≤ q := fun q e => by
    rcases h.2.1.2 with ⟨rfl, _⟩ | ⟨g, cap, cur, rfl, hg, _⟩
    · cases e
    · cases e; exact hg
  refine ⟨(hg.block b (Array.getElem?_eq_some_iff.1 h.1).1 (fun e => by have := hown b e.symm; omega)).trans h.1, ho, h.2.2.1.grown hg h.2.2.1.size (fun q e => Nat.le_trans hw (hown q e)), Nat.le_trans h.2.2.2 hg.size⟩
def rsegL (kind flags off addr file mem align : Nat) : List Value := (((((((([] ++ bsV kind 4) ++ bsV flags 4) ++ bsV off 8) ++ bsV addr 8) ++ bsV 0 8) ++ bsV file 8) ++ bsV mem 8) ++ bsV align 8)
set_option maxRecDepth 100000 in
set_option maxHeartbeats 8000000 in
theorem rseg_any (kind flags off addr file mem align : Nat) (hkind : V32 kind) (hflags : V32 flags) (w : World) : Calls Tryd.prog 17 #[.agg #[.int .u32 (kind : Nat), .int .u32 (flags : Nat), .int .u64 (off : Nat), .int .u64 (addr : Nat), .int .u64 (file : Nat), .int .u64 (mem : Nat), .int .u64 (align : Nat)]] w fun e W' => ∃ v, e = .returned v ∧ W'.ownsRow (w.heap.size + 1) 5 1 v 56 (rsegL kind flags off addr file mem align) ∧ Below w.heap.size w W' := by
  have wkind := w32 hkind
  have wflags := w32 hflags
  have HS := Lib.hid (show RG w w.heap.size (w.heap.size + 1) #[.int .u32 (kind : Nat), .int .u32 (flags : Nat), .int .u64 (off : Nat), .int .u64 (addr : Nat), .int .u64 (file : Nat), .int .u64 (mem : Nat), .int .u64 (align : Nat)] 30 0 [] (.slice none 0 0) _ from ⟨heap_alloc_last w (.cells #[.int .u32 (kind : Nat), .int .u32 (flags : Nat), .int .u64 (off : Nat), .int .u64 (addr : Nat), .int .u64 (file : Nat), .int .u64 (mem : Nat), .int .u64 (align : Nat)] 30), World.ownsRow_nil _ _ _ _, (Below.refl _ w).alloc (Nat.le_refl _) _, by simp⟩)
  have hbg : w.heap.size < w.heap.size + 1 := by omega
  have hwg : w.heap.size ≤ w.heap.size + 1 := by omega
  go_enter Tryd.func17, Tryd.ntmps17
  go_upto_region 1 with fail
  generalize World.alloc w _ = W1 at HS ⊢
  have c0 := cell_at (i := 0) (v := .int .u32 (kind : Nat)) HS.out.1 rfl
  go_wp2_with fail
  go_at_call 32
  refine (rput_any (w.heap.size + 1) _ 0 _ kind 4 (by decide) (by decide) (by decide) _ HS.out.2.2.2 HS.out.2.1).mono ?_
  rintro e W2 ⟨v0, rfl, h1, h2⟩
  replace HS := Lib.hid (HS.out.put hbg hwg h1 h2)
  clear h1 h2 c0
  have c1 := cell_at (i := 1) (v := .int .u32 (flags : Nat)) HS.out.1 rfl
  go_wp2_with fail
  go_at_call 32
  refine (rput_any (w.heap.size + 1) _ 4 _ flags 4 (by decide) (by decide) (by decide) _ HS.out.2.2.2 HS.out.2.1).mono ?_
  rintro e W3 ⟨v1, rfl, h1, h2⟩
  replace HS := Lib.hid (HS.out.put hbg hwg h1 h2)
  clear h1 h2 c1
  have c2 := cell_at (i := 2) (v := .int .u64 (off : Nat)) HS.out.1 rfl
  go_wp2_with fail
  go_at_call 32
  refine (rput_any (w.heap.size + 1) _ 8 _ off 8 (by decide) (by decide) (by decide) _ HS.out.2.2.2 HS.out.2.1).mono ?_
  rintro e W4 ⟨v2, rfl, h1, h2⟩
  replace HS := Lib.hid (HS.out.put hbg hwg h1 h2)
  clear h1 h2 c2
  have c3 := cell_at (i := 3) (v := .int .u64 (addr : Nat)) HS.out.1 rfl
  go_wp2_with fail
  go_at_call 32
  refine (rput_any (w.heap.size + 1) _ 16 _ addr 8 (by decide) (by decide) (by decide) _ HS.out.2.2.2 HS.out.2.1).mono ?_
  rintro e W5 ⟨v3, rfl, h1, h2⟩
  replace HS := Lib.hid (HS.out.put hbg hwg h1 h2)
  clear h1 h2 c3
  go_wp2_with fail
  go_at_call 32
  refine (rput_any (w.heap.size + 1) _ 24 _ 0 8 (by decide) (by decide) (by decide) _ HS.out.2.2.2 HS.out.2.1).mono ?_
  rintro e W6 ⟨v4, rfl, h1, h2⟩
  replace HS := Lib.hid (HS.out.put hbg hwg h1 h2)
  clear h1 h2
  have c5 := cell_at (i := 4) (v := .int .u64 (file : Nat)) HS.out.1 rfl
  go_wp2_with fail
  go_at_call 32
  refine (rput_any (w.heap.size + 1) _ 32 _ file 8 (by decide) (by decide) (by decide) _ HS.out.2.2.2 HS.out.2.1).mono ?_
  rintro e W7 ⟨v5, rfl, h1, h2⟩
  replace HS := Lib.hid (HS.out.put hbg hwg h1 h2)
  clear h1 h2 c5
  have c6 := cell_at (i := 5) (v := .int .u64 (mem : Nat)) HS.out.1 rfl
  go_wp2_with fail
  go_at_call 32
  refine (rput_any (w.heap.size + 1) _ 40 _ mem 8 (by decide) (by decide) (by decide) _ HS.out.2.2.2 HS.out.2.1).mono ?_
  rintro e W8 ⟨v6, rfl, h1, h2⟩
  replace HS := Lib.hid (HS.out.put hbg hwg h1 h2)
  clear h1 h2 c6
  have c7 := cell_at (i := 6) (v := .int .u64 (align : Nat)) HS.out.1 rfl
  go_wp2_with fail
  go_at_call 32
  refine (rput_any (w.heap.size + 1) _ 48 _ align 8 (by decide) (by decide) (by decide) _ HS.out.2.2.2 HS.out.2.1).mono ?_
  rintro e W9 ⟨v7, rfl, h1, h2⟩
  replace HS := Lib.hid (HS.out.put hbg hwg h1 h2)
  clear h1 h2 c7
  go_wp2_with fail
  go_ret
  exact ⟨_, rfl, HS.out.2.1, HS.out.2.2.1⟩
theorem rowB_app (f : Nat → Nat) (a b : Nat) : rowB f (a + b) = rowB f a ++ rowB (fun j => f (a + j)) b := by
  unfold rowB upto
  rw [List.range_add]
  simp
theorem piece {f : Nat → Nat} {o s x : Nat} (h : ∀ j, j < s → f (o + j) = byN x j) : rowB (fun j => f (o + j)) s = bsV x s := by
  unfold rowB bsV upto
  exact List.map_congr_left fun j hj => congrArg (fun k : Nat => Value.int .u8 (k : Nat)) (h j (List.mem_range.1 hj))
theorem byN_0 (j : Nat) : byN 0 j = 0 := by simp [byN]
theorem putF_in {f : Nat → Nat} {o s x j : Nat} (h : j < s) : putF f o s x (o + j) = byN x j := by unfold putF; rw [if_pos ⟨by omega, by omega⟩, Nat.add_sub_cancel_left]
theorem putF_out {f : Nat → Nat} {o s x j : Nat} (h : j < o ∨ o + s ≤ j) : putF f o s x j = f j := by unfold putF; rw [if_neg (by omega)]
theorem seg_row (kind flags off addr file mem align : Nat) : rsegL kind flags off addr file mem align = rowB (segF kind flags off addr file mem align) 56 := by
  show _ = rowB _ (0 + 4 + 4 + 8 + 8 + 8 + 8 + 8 + 8)
  rw [rowB_app, rowB_app, rowB_app, rowB_app, rowB_app, rowB_app, rowB_app, rowB_app]
  have z0 : rowB (segF kind flags off addr file mem align) 0 = [] := rfl
  have p0 : rowB (fun j => segF kind flags off addr file mem align (0 + j)) 4 = bsV kind 4 := piece (fun j hj => by
    show segF kind flags off addr file mem align (0 + j) = _
    unfold segF
    rw [putF_out (by omega)]
    rw [putF_out (by omega)]
    rw [putF_out (by omega)]
    rw [putF_out (by omega)]
    rw [putF_out (by omega)]
    rw [putF_out (by omega)]
    exact putF_in hj)
  have p1 : rowB (fun j => segF kind flags off addr file mem align (0 + 4 + j)) 4 = bsV flags 4 := piece (fun j hj => by
    show segF kind flags off addr file mem align (4 + j) = _
    unfold segF
    rw [putF_out (by omega)]
    rw [putF_out (by omega)]
    rw [putF_out (by omega)]
    rw [putF_out (by omega)]
    rw [putF_out (by omega)]
    exact putF_in hj)
  have p2 : rowB (fun j => segF kind flags off addr file mem align (0 + 4 + 4 + j)) 8 = bsV off 8 := piece (fun j hj => by
    show segF kind flags off addr file mem align (8 + j) = _
    unfold segF
    rw [putF_out (by omega)]
    rw [putF_out (by omega)]
    rw [putF_out (by omega)]
    rw [putF_out (by omega)]
    exact putF_in hj)
  have p3 : rowB (fun j => segF kind flags off addr file mem align (0 + 4 + 4 + 8 + j)) 8 = bsV addr 8 := piece (fun j hj => by
    show segF kind flags off addr file mem align (16 + j) = _
    unfold segF
    rw [putF_out (by omega)]
    rw [putF_out (by omega)]
    rw [putF_out (by omega)]
    exact putF_in hj)
  have p4 : rowB (fun j => segF kind flags off addr file mem align (0 + 4 + 4 + 8 + 8 + j)) 8 = bsV 0 8 := piece (fun j hj => by
    show segF kind flags off addr file mem align (24 + j) = _
    unfold segF
    rw [putF_out (by omega)]
    rw [putF_out (by omega)]
    rw [putF_out (by omega)]
    rw [putF_out (by omega)]
    rw [putF_out (by omega)]
    rw [putF_out (by omega)]
    rw [putF_out (by omega)]
    exact (byN_0 j).symm)
  have p5 : rowB (fun j => segF kind flags off addr file mem align (0 + 4 + 4 + 8 + 8 + 8 + j)) 8 = bsV file 8 := piece (fun j hj => by
    show segF kind flags off addr file mem align (32 + j) = _
    unfold segF
    rw [putF_out (by omega)]
    rw [putF_out (by omega)]
    exact putF_in hj)
  have p6 : rowB (fun j => segF kind flags off addr file mem align (0 + 4 + 4 + 8 + 8 + 8 + 8 + j)) 8 = bsV mem 8 := piece (fun j hj => by
    show segF kind flags off addr file mem align (40 + j) = _
    unfold segF
    rw [putF_out (by omega)]
    exact putF_in hj)
  have p7 : rowB (fun j => segF kind flags off addr file mem align (0 + 4 + 4 + 8 + 8 + 8 + 8 + 8 + j)) 8 = bsV align 8 := piece (fun j hj => by
    show segF kind flags off addr file mem align (48 + j) = _
    unfold segF
    exact putF_in hj)
  rw [z0, p0, p1, p2, p3, p4, p5, p6, p7]
  rfl
end Go.Proofs.YtnaggdhophncaaaDoor
