/- The contracts of package alu. -/
import Derived.Test.YtmfoeolllobidaaDoorRefs4
import Derived.Below
import Derived.Handy
namespace Go.Proofs.YtmfoeolllobidaaDoor
open Go.RowKit
theorem lt_of_cell {w : World} {b o : Nat} {v : Value} (h : w.cell? ⟨b, o, none⟩ = some v) : b < w.heap.size := by
  rcases Nat.lt_or_ge b w.heap.size with h0 | h0
  · exact h0
  · unfold World.cell? at h
    rw [Array.getElem?_eq_none (by dsimp only; omega)] at h
    simp at h
theorem Mk.pos {w : World} (h : Mk w) : 2 < w.heap.size := lt_of_cell (h 0 (by decide))
theorem Mk.below {n : Nat} {w w' : World} (h : Mk w) (hb : Below n w w') (hn : 2 < n) : Mk w' := fun i hi => (hb.cell (p := ⟨2, i, none⟩) hn).trans (h i hi)
theorem Mk.own {w w' : World} (h : Mk w) (hb : Below w.heap.size w w') : Mk w' := h.below hb h.pos
theorem Mk.alloc {w : World} (h : Mk w) (o : Obj) : Mk (w.alloc o) := h.own ((Below.refl _ _).alloc (Nat.le_refl _) o)
set_option maxHeartbeats 400000 in
theorem aheld_any (wd : Int) (w : World) :
    Calls Tryd.prog 41 #[.int .i64 wd] w fun e w' => e = .returned (.int .i64 (hI wd)) ∧ w = w' := by
  go_enter Tryd.func41, Tryd.ntmps41
  go_wp2
  all_goals
    go_ret
    refine ⟨?_, rfl⟩
    show Ending.returned (.int .i64 _) = _
    congr 2
    unfold hI
    repeat' split
    all_goals omega
/-- Flags: C, Z, S, O, P. -/
abbrev fl (c z s o p : Bool) : Value := .agg #[.bool c, .bool z, .bool s, .bool o, .bool p]
/-- Is the word of the width 0? -/
def zB (a : Nat) (wd : Int) : Bool := ((cN a wd : Nat) : Int) == 0
set_option maxHeartbeats 400000 in
theorem logic_any (a : Nat) (ha : U a) (wd : Int) (w : World) (hm : Mk w) :
    Calls Tryd.prog 12 #[.int .i64 wd, .int .u64 a] w fun e w' => e = .returned (fl false (zB a wd) (sB a wd) false (pB a)) ∧ Below w.heap.size w w' := by
  have hm2 := hm.alloc (Obj.cells #[Value.bool false, Value.bool false, Value.bool false, Value.bool false, Value.bool false] 24)
  go_enter Tryd.func12, Tryd.ntmps12
  go_wp2_with (first | (go_at_call 36; refine (cut_any _ (by assumption) _ _ hm2).mono ?_; rintro e w' ⟨rfl, rfl⟩) | (go_at_call 37; refine (sign_any _ (by assumption) _ _).mono ?_; rintro e w' ⟨rfl, rfl⟩) | (go_at_call 38; refine (parity_any a _).mono ?_; rintro e w' ⟨rfl, rfl⟩))
  refine bodyPost_ret (v := fl false (zB a wd) (sB a wd) false (pB a)) (by simp [results, Tryd.results12, go_sem, zB]) rfl ⟨rfl, by go_grown⟩
/-- A struct of five cells in a block of its own. -/
def Slot5 (W : World) (b : Nat) (v0 v1 v2 v3 v4 : Value) : Prop :=
  W.cell? ⟨b, 0, none⟩ = some v0 ∧ W.cell? ⟨b, 1, none⟩ = some v1 ∧ W.cell? ⟨b, 2, none⟩ = some v2 ∧ W.cell? ⟨b, 3, none⟩ = some v3 ∧ W.cell? ⟨b, 4, none⟩ = some v4 ∧
  W.frozen? ⟨b, 0, none⟩ = false ∧ W.frozen? ⟨b, 1, none⟩ = false ∧ W.frozen? ⟨b, 2, none⟩ = false ∧ W.frozen? ⟨b, 3, none⟩ = false ∧ W.frozen? ⟨b, 4, none⟩ = false ∧ b < W.heap.size
theorem Slot5.new (w : World) (v0 v1 v2 v3 v4 : Value) (t : Nat) : Slot5 (w.alloc (Obj.cells #[v0, v1, v2, v3, v4] t)) w.heap.size v0 v1 v2 v3 v4 := by
  unfold Slot5; simp [go_sem]
theorem Slot5.keep {W W' : World} {b : Nat} {v0 v1 v2 v3 v4 : Value} (h : Slot5 W b v0 v1 v2 v3 v4) (hb : Below W.heap.size W W') : Slot5 W' b v0 v1 v2 v3 v4 := by
  obtain ⟨c0, c1, c2, c3, c4, f0, f1, f2, f3, f4, hs⟩ := h
  have hc := fun j => hb.cell (p := ⟨b, j, none⟩) hs
  have hf := fun j => hb.frozen (p := ⟨b, j, none⟩) hs
  have hz := hb.size
  exact ⟨(hc 0).trans c0, (hc 1).trans c1, (hc 2).trans c2, (hc 3).trans c3, (hc 4).trans c4, (hf 0).trans f0, (hf 1).trans f1, (hf 2).trans f2, (hf 3).trans f3, (hf 4).trans f4, by omega⟩
theorem Slot5.alloc {W : World} {b : Nat} {v0 v1 v2 v3 v4 : Value} (h : Slot5 W b v0 v1 v2 v3 v4) (o : Obj) : Slot5 (W.alloc o) b v0 v1 v2 v3 v4 := h.keep ((Below.refl _ _).alloc (Nat.le_refl _) o)
set_option maxHeartbeats 400000 in
theorem told_any (a : Nat) (ha : U a) (wd : Int) (c o : Bool) (w : World) (hm : Mk w) :
    Calls Tryd.prog 33 #[.int .i64 wd, .int .u64 a, .bool c, .bool o] w fun e w' => e = .returned (fl c (zB a wd) (sB a wd) o (pB a)) ∧ Below w.heap.size w w' := by
  have hs := Lib.hid (Slot5.new w (.bool false) (.bool false) (.bool false) (.bool false) (.bool false) 24)
  have hb0 : Below w.heap.size w (w.alloc (Obj.cells #[Value.bool false, Value.bool false, Value.bool false, Value.bool false, Value.bool false] 24)) := (Below.refl _ _).alloc (Nat.le_refl _) _
  go_enter Tryd.func33, Tryd.ntmps33
  go_wp2_with fail
  go_at_call 12
  refine (logic_any _ ha _ _ (hm.alloc _)).mono ?_
  rintro e w1 ⟨rfl, hb⟩
  have hb2 := hb0.trans (hb.mono (by simp))
  have hA := fun o => (hs.out.keep hb).alloc o
  have c0 := fun o => (hA o).1
  have c1 := fun o => (hA o).2.1
  have c2 := fun o => (hA o).2.2.1
  have c3 := fun o => (hA o).2.2.2.1
  have c4 := fun o => (hA o).2.2.2.2.1
  have f0 := fun o => (hA o).2.2.2.2.2.1
  have f1 := fun o => (hA o).2.2.2.2.2.2.1
  have f2 := fun o => (hA o).2.2.2.2.2.2.2.1
  have f3 := fun o => (hA o).2.2.2.2.2.2.2.2.1
  have f4 := fun o => (hA o).2.2.2.2.2.2.2.2.2.1
  clear hs hb hb0 hA
  go_wp2_with fail
  refine bodyPost_ret (v := fl c (zB a wd) (sB a wd) o (pB a)) (by simp [results, Tryd.results33, go_sem, *]) rfl ⟨rfl, ?_⟩
  refine hb2.trans ?_
  go_grown
  all_goals exact hb2.size
set_option maxHeartbeats 400000 in
theorem div64_lo (lo y : Nat) (hlo : U lo) (hy : 0 < y) (w : World) :
    Calls Tryd.prog 48 #[.int .u64 0, .int .u64 lo, .int .u64 y] w fun e w' => e = .returned (.tuple #[.int .u64 ((lo / y : Nat) : Int), .int .u64 ((lo % y : Nat) : Int)]) ∧ ∃ k, w' = w.drewN k := by
  have h0 : ¬ ((y : Int) = 0) := by omega
  have h1 : ¬ ((y : Int) ≤ 0) := by omega
  have h2 : ((y : Int) == 0) = false := by simp; omega
  have hq : IntKind.u64.wrap ((lo : Int) / y) = ((lo / y : Nat) : Int) := by
    rw [IntKind.wrap_u64, show ((lo : Int) / y) = ((lo / y : Nat) : Int) by simp]
    have := Nat.lt_of_le_of_lt (Nat.div_le_self lo y) hlo
    generalize lo / y = q at *
    exact Int.emod_eq_of_lt (by omega) (by omega)
  have HQ := Lib.hid hq; clear hq
  go_enter Tryd.func48, Tryd.ntmps48
  go_wp2_with fail
  go_quiet (fail)
  all_goals
    go_wp2
    go_ret2
    exact ⟨congrArg Ending.returned (congrArg Value.tuple (by show #[Value.int IntKind.u64 _, Value.int IntKind.u64 _] = _; rw [HQ.out]; simp)), _, rfl⟩
set_option maxHeartbeats 1000000 in
theorem aadd_any (a b : Nat) (ha : U a) (hb : U b) (c : Bool) (wd : Int) (w : World) (hm : Mk w) :
    Calls Tryd.prog 8 #[.int .i64 wd, .int .u64 a, .int .u64 b, .bool c] w fun e w' => e = .returned (.tuple #[.int .u64 (addR a b c wd : Nat), fl (addO a b c wd) (zB (addR a b c wd) wd) (sB (addR a b c wd) wd) (addV a b c wd) (pB (addR a b c wd))]) ∧ Below w.heap.size w w' := by
  have hr := addR_U a b c wd
  have hs := Lib.hid (Slot5.new w (.bool false) (.bool false) (.bool false) (.bool false) (.bool false) 24)
  have hb0 : Below w.heap.size w (w.alloc (Obj.cells #[Value.bool false, Value.bool false, Value.bool false, Value.bool false, Value.bool false] 24)) := (Below.refl _ _).alloc (Nat.le_refl _) _
  go_enter Tryd.func8, Tryd.ntmps8
  go_wp2_with (go_at_call 32; refine (add_any _ _ (by assumption) (by assumption) _ _ _ (hm.alloc _)).mono ?_; rintro e w' ⟨rfl, rfl⟩)
  go_at_call 33
  refine (told_any _ hr _ _ _ _ (hm.alloc _)).mono ?_
  rintro e w1 ⟨rfl, hb⟩
  have hb2 := hb0.trans (hb.mono (by simp))
  obtain ⟨c0, c1, c2, c3, c4, f0, f1, f2, f3, f4, -⟩ := hs.out.keep hb
  clear hs hb hb0
  go_wp2_with fail
  refine bodyPost_ret (v := .tuple #[.int .u64 (addR a b c wd : Nat), fl (addO a b c wd) (zB (addR a b c wd) wd) (sB (addR a b c wd) wd) (addV a b c wd) (pB (addR a b c wd))]) (by simp [results, Tryd.results8, go_sem, *]) rfl ⟨rfl, ?_⟩
  refine hb2.trans ?_
  go_grown
  all_goals exact hb2.size
set_option maxHeartbeats 1000000 in
theorem asub_any (a b : Nat) (ha : U a) (hb : U b) (c : Bool) (wd : Int) (w : World) (hm : Mk w) :
    Calls Tryd.prog 10 #[.int .i64 wd, .int .u64 a, .int .u64 b, .bool c] w fun e w' => e = .returned (.tuple #[.int .u64 (subR a b c wd : Nat), fl (subO a b c wd) (zB (subR a b c wd) wd) (sB (subR a b c wd) wd) (subV a b c wd) (pB (subR a b c wd))]) ∧ Below w.heap.size w w' := by
  have hr := subR_U a b c wd
  have hs := Lib.hid (Slot5.new w (.bool false) (.bool false) (.bool false) (.bool false) (.bool false) 24)
  have hb0 : Below w.heap.size w (w.alloc (Obj.cells #[Value.bool false, Value.bool false, Value.bool false, Value.bool false, Value.bool false] 24)) := (Below.refl _ _).alloc (Nat.le_refl _) _
  go_enter Tryd.func10, Tryd.ntmps10
  go_wp2_with (go_at_call 34; refine (sub_any _ _ (by assumption) (by assumption) _ _ _ (hm.alloc _)).mono ?_; rintro e w' ⟨rfl, rfl⟩)
  go_at_call 33
  refine (told_any _ hr _ _ _ _ (hm.alloc _)).mono ?_
  rintro e w1 ⟨rfl, hb⟩
  have hb2 := hb0.trans (hb.mono (by simp))
  obtain ⟨c0, c1, c2, c3, c4, f0, f1, f2, f3, f4, -⟩ := hs.out.keep hb
  clear hs hb hb0
  go_wp2_with fail
  refine bodyPost_ret (v := .tuple #[.int .u64 (subR a b c wd : Nat), fl (subO a b c wd) (zB (subR a b c wd) wd) (sB (subR a b c wd) wd) (subV a b c wd) (pB (subR a b c wd))]) (by simp [results, Tryd.results10, go_sem, *]) rfl ⟨rfl, ?_⟩
  refine hb2.trans ?_
  go_grown
  all_goals exact hb2.size
set_option maxHeartbeats 1000000 in
theorem aneg_any (a : Nat) (ha : U a) (wd : Int) (w : World) (hm : Mk w) :
    Calls Tryd.prog 18 #[.int .i64 wd, .int .u64 a] w fun e w' => e = .returned (.tuple #[.int .u64 (subR 0 a false wd : Nat), fl (subO 0 a false wd) (zB (subR 0 a false wd) wd) (sB (subR 0 a false wd) wd) (subV 0 a false wd) (pB (subR 0 a false wd))]) ∧ Below w.heap.size w w' := by
  have hs := Lib.hid (Slot5.new w (.bool false) (.bool false) (.bool false) (.bool false) (.bool false) 24)
  have hb0 : Below w.heap.size w (w.alloc (Obj.cells #[Value.bool false, Value.bool false, Value.bool false, Value.bool false, Value.bool false] 24)) := (Below.refl _ _).alloc (Nat.le_refl _) _
  go_enter Tryd.func18, Tryd.ntmps18
  go_wp2_with fail
  go_at_call 10
  refine (asub_any 0 a (by unfold U; decide) ha false _ _ (hm.alloc _)).mono ?_
  rintro e w1 ⟨rfl, hb⟩
  have hb2 := hb0.trans (hb.mono (by simp))
  obtain ⟨c0, c1, c2, c3, c4, f0, f1, f2, f3, f4, -⟩ := hs.out.keep hb
  clear hs hb hb0
  go_wp2_with fail
  refine bodyPost_ret (v := .tuple #[.int .u64 (subR 0 a false wd : Nat), fl (subO 0 a false wd) (zB (subR 0 a false wd) wd) (sB (subR 0 a false wd) wd) (subV 0 a false wd) (pB (subR 0 a false wd))]) (by simp [results, Tryd.results18, go_sem, *]) rfl ⟨rfl, ?_⟩
  refine hb2.trans ?_
  go_grown
  all_goals exact hb2.size
end Go.Proofs.YtmfoeolllobidaaDoor
