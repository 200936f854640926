/- The walk of AluCompares. -/
import Derived.Test.YtmfoeolllobidaaDoorCompMath
import Derived.Test.YtmfoeolllobidaaDoorWakes
import Derived.Test.YtmfoeolllobidaaDoorLaid
namespace Go.Proofs.YtmfoeolllobidaaDoor
open Go.RowKit
/-- What every world of a walk keeps. -/
def Gd (w W : World) : Prop := Mk W ∧ Below w.heap.size w W
theorem Gd.refl {w : World} (hm : Mk w) : Gd w w := ⟨hm, Below.refl _ _⟩
theorem Gd.step {w W W' : World} (h : Gd w W) (hb : Below W.heap.size W W') : Gd w W' := ⟨h.1.own hb, h.2.trans (hb.mono h.2.size)⟩
theorem Gd.alloc {w W : World} (h : Gd w W) (o : Obj) : Gd w (W.alloc o) := h.step ((Below.refl _ _).alloc (Nat.le_refl _) o)
set_option maxHeartbeats 4000000 in
theorem comp_core (a b : Nat) (wd : Int) (x y r1 r2 n E F : Nat) (C1 Z1 S1 O1 P1 q0 q1 q2 q3 q4 p0 p1 p2 p3 p4 D0 D1 D2 D3 D4 k0 k1 k2 k3 k4 : Bool)
    (hx : ∀ W, Calls Tryd.prog 29 #[.int .u64 a, .int .i64 wd] W fun e w' => e = .returned (.int .u64 x) ∧ W = w')
    (hy : ∀ W, Calls Tryd.prog 29 #[.int .u64 b, .int .i64 wd] W fun e w' => e = .returned (.int .u64 y) ∧ W = w')
    (hs : ∀ W, Mk W → Calls Tryd.prog 10 #[.int .i64 wd, .int .u64 a, .int .u64 b, .bool false] W fun e w' => e = .returned (.tuple #[.int .u64 r1, fl C1 Z1 S1 O1 P1]) ∧ Below W.heap.size W w')
    (hadd : ∀ W, Mk W → Calls Tryd.prog 8 #[.int .i64 wd, .int .u64 a, .int .u64 b, .bool false] W fun e w' => e = .returned (.tuple #[.int .u64 r2, fl q0 q1 q2 q3 q4]) ∧ Below W.heap.size W w')
    (hback : ∀ W, Mk W → Calls Tryd.prog 10 #[.int .i64 wd, .int .u64 r2, .int .u64 b, .bool false] W fun e w' => e = .returned (.tuple #[.int .u64 x, fl p0 p1 p2 p3 p4]) ∧ Below W.heap.size W w')
    (hneg : ∀ W, Mk W → Calls Tryd.prog 18 #[.int .i64 wd, .int .u64 a] W fun e w' => e = .returned (.tuple #[.int .u64 n, fl D0 D1 D2 D3 D4]) ∧ Below W.heap.size W w')
    (hzero : ∀ W, Mk W → Calls Tryd.prog 8 #[.int .i64 wd, .int .u64 a, .int .u64 n, .bool false] W fun e w' => e = .returned (.tuple #[.int .u64 0, fl k0 k1 k2 k3 k4]) ∧ Below W.heap.size W w')
    (hE : ∀ W, Calls Tryd.prog 31 #[.int .u64 a, .int .i64 wd] W fun e w' => e = .returned (.int .u64 E) ∧ W = w')
    (hF : ∀ W, Calls Tryd.prog 31 #[.int .u64 b, .int .i64 wd] W fun e w' => e = .returned (.int .u64 F) ∧ W = w')
    (M1 : C1 = decide (x < y)) (M2 : Z1 = ((x : Int) == (y : Int))) (M3 : (S1 == O1) = !decide (wrap64 E < wrap64 F)) (M6 : D0 = ((x : Int) != 0)) (w : World) (hm : Mk w) :
    Calls Tryd.prog 5 #[.int .i64 wd, .int .u64 a, .int .u64 b] w fun e w' => e = .returned (.bool true) ∧ Below w.heap.size w w' := by
  have Hx := Lib.hid hx
  have Hy := Lib.hid hy
  have Hs := Lib.hid hs
  have Hadd := Lib.hid hadd
  have Hback := Lib.hid hback
  have Hneg := Lib.hid hneg
  have Hzero := Lib.hid hzero
  have HE := Lib.hid hE
  have HF := Lib.hid hF
  subst M1 M2 M6
  have M3' := Lib.hid M3
  clear hx hy hs hadd hback hneg hzero hE hF M3
  go_enter Tryd.func5, Tryd.ntmps5
  go_wp2_with (first | (go_at_call 29; ((with_reducible refine (Hx.out _).mono ?_); rintro e w' ⟨rfl, rfl⟩)) | (go_at_call 29; ((with_reducible refine (Hy.out _).mono ?_); rintro e w' ⟨rfl, rfl⟩)))
  go_at_call 10
  refine (Hs.out _ hm).mono ?_
  rintro e w1 ⟨rfl, hb1⟩
  have g1 : Gd w w1 := (Gd.refl hm).step hb1
  have s1 := Lib.hid (Slot5.new w1 (.bool (decide (x < y))) (.bool ((x : Int) == (y : Int))) (.bool S1) (.bool O1) (.bool P1) 24)
  clear hb1
  go_wp2_with fail
  go_at_call 8
  refine (Hadd.out _ (g1.alloc _).1).mono ?_
  rintro e w2 ⟨rfl, hb2⟩
  have g2 : Gd w w2 := (g1.alloc _).step hb2
  have s2 := Lib.hid (s1.out.keep hb2)
  clear hb2 s1 g1
  go_wp2_with fail
  go_at_call 10
  refine (Hback.out _ (g2.alloc _).1).mono ?_
  rintro e w3 ⟨rfl, hb3⟩
  have g3 : Gd w w3 := (g2.alloc _).step hb3
  have s3 := Lib.hid ((s2.out.alloc _).keep hb3)
  clear hb3 s2 g2
  go_wp2_with fail
  go_at_call 18
  refine (Hneg.out _ (g3.alloc _).1).mono ?_
  rintro e w4 ⟨rfl, hb4⟩
  have g4 : Gd w w4 := (g3.alloc _).step hb4
  have s4 := Lib.hid ((s3.out.alloc _).keep hb4)
  have t4 := Lib.hid (Slot5.new w4 (.bool ((x : Int) != 0)) (.bool D1) (.bool D2) (.bool D3) (.bool D4) 24)
  clear hb4 s3 g3
  go_wp2_with fail
  go_at_call 8
  refine (Hzero.out _ (g4.alloc _).1).mono ?_
  rintro e w5 ⟨rfl, hb5⟩
  have g5 : Gd w w5 := (g4.alloc _).step hb5
  have A := fun o => ((s4.out.alloc _).keep hb5).alloc o
  have B := fun o => (t4.out.keep hb5).alloc o
  have c0 := fun o => (A o).1
  have c1 := fun o => (A o).2.1
  have c2 := fun o => (A o).2.2.1
  have c3 := fun o => (A o).2.2.2.1
  have d0 := fun o => (B o).1
  have M3 := M3'.out
  clear hb5 s4 t4 g4 A B M3'
  go_wp2_with (first | (go_at_call 31; ((with_reducible refine (HE.out _).mono ?_); rintro e w' ⟨rfl, rfl⟩)) | (go_at_call 31; ((with_reducible refine (HF.out _).mono ?_); rintro e w' ⟨rfl, rfl⟩)) | (go_at_call 28; refine (wakes_any _ (g5.alloc _).1).mono ?_; rintro e w6 ⟨rfl, hb6⟩))
  go_ret
  exact ⟨rfl, (g5.alloc _).2.trans (hb6.mono (g5.alloc _).2.size)⟩
theorem law_comp (a b : Nat) (ha : U a) (hb : U b) (wd : Int) (w : World) (hm : Mk w) :
    Calls Tryd.prog 5 #[.int .i64 wd, .int .u64 a, .int .u64 b] w fun e w' => e = .returned (.bool true) ∧ Below w.heap.size w w' := by
  have hr := addR_U a b false wd
  have hn := subR_U 0 a false wd
  have hB := fun W hm => asub_any (addR a b false wd) b hr hb false wd W hm
  rw [back_sum] at hB
  have hZ := fun W hm => aadd_any a (subR 0 a false wd) ha hn false wd W hm
  rw [neg_add] at hZ
  exact comp_core a b wd (cN a wd) (cN b wd) _ _ _ (eN a wd) (eN b wd) _ _ _ _ _ _ _ _ _ _ _ _ _ _ _ _ _ _ _ _ _ _ _ _ _
    (fun W => rcut_any a ha wd W) (fun W => rcut_any b hb wd W) (fun W hm => asub_any a b ha hb false wd W hm) (fun W hm => aadd_any a b ha hb false wd W hm)
    hB (fun W hm => aneg_any a ha wd W hm) hZ (fun W => rext_any a ha wd W) (fun W => rext_any b hb wd W)
    (cmp_C a b wd) (cmp_Z' a b wd) (by rw [ext_sg a ha, ext_sg b hb]; exact cmp_less' a b wd) (neg_C' a wd) w hm
theorem walkIn_comp (a0 a1 a2 : Int) (_ : (Lit.int .i64 a0).wf = true) (w1 : (Lit.int .u64 a1).wf = true) (w2 : (Lit.int .u64 a2).wf = true) (w : World) (hm : Mk w) : Calls Tryd.prog 5 #[.int .i64 a0, .int .u64 a1, .int .u64 a2] w fun e w' => e = .returned (.bool true) ∧ Below w.heap.size w w' := by
  obtain ⟨k, rfl, hk⟩ := nat_of_wf w1
  obtain ⟨j, rfl, hj⟩ := nat_of_wf w2
  exact law_comp k j hk hj a0 w hm
end Go.Proofs.YtmfoeolllobidaaDoor
