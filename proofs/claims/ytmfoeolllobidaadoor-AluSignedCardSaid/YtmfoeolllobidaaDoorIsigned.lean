/- The walk of AluSigned over what its calls answer. -/
import Derived.Test.YtmfoeolllobidaaDoorImul
import Derived.Test.YtmfoeolllobidaaDoorComp
import Derived.Deep.RegionHeld3
namespace Go.Proofs.YtmfoeolllobidaaDoor
open Go.RowKit
theorem wakes_kept (w : World) (hm : Mk w) : Calls Tryd.prog 28 #[] w fun e w' => e = .returned (.bool true) ∧ Below w.heap.size w w' ∧ Hid (∀ b j v, w.cell? ⟨b, j, none⟩ = some v → w'.cell? ⟨b, j, none⟩ = some v) :=
  (wakes_any w hm).mono fun _ _ ⟨h1, h2⟩ => ⟨h1, h2, Lib.hid fun _ _ _ h => (h2.cell (lt_of_cell h)).trans h⟩
set_option maxRecDepth 100000 in
set_option maxHeartbeats 8000000 in
theorem isigned_core (a b : Nat) (wd : Int) (r hi n bk E F G u v : Nat) (R z s p H zz ss pp k0 k1 k2 k3 k4 l0 l1 l2 l3 l4 m0 m1 m2 m3 m4 : Bool)
    (hI1 : ∀ V, Mk V → Calls Tryd.prog 22 #[.int .i64 wd, .int .u64 a, .int .u64 b] V fun e w' => e = .returned (.tuple #[.int .u64 r, fl R z s R p]) ∧ Below V.heap.size V w')
    (hM : ∀ V, Mk V → Calls Tryd.prog 24 #[.int .i64 wd, .int .u64 a, .int .u64 b] V fun e w' => e = .returned (.tuple #[.int .u64 r, .int .u64 hi, fl H zz ss H pp]) ∧ Below V.heap.size V w')
    (hE : ∀ W, Calls Tryd.prog 31 #[.int .u64 a, .int .i64 wd] W fun e w' => e = .returned (.int .u64 E) ∧ W = w')
    (hF : ∀ W, Calls Tryd.prog 31 #[.int .u64 b, .int .i64 wd] W fun e w' => e = .returned (.int .u64 F) ∧ W = w')
    (hG : ∀ W, Calls Tryd.prog 31 #[.int .u64 r, .int .i64 wd] W fun e w' => e = .returned (.int .u64 G) ∧ W = w')
    (hu : ∀ W, Calls Tryd.prog 29 #[.int .u64 a, .int .i64 wd] W fun e w' => e = .returned (.int .u64 u) ∧ W = w')
    (hv : ∀ W, Calls Tryd.prog 29 #[.int .u64 b, .int .i64 wd] W fun e w' => e = .returned (.int .u64 v) ∧ W = w')
    (hN1 : ∀ W, Mk W → Calls Tryd.prog 18 #[.int .i64 wd, .int .u64 a] W fun e w' => e = .returned (.tuple #[.int .u64 n, fl k0 k1 k2 k3 k4]) ∧ Below W.heap.size W w')
    (hI2 : ∀ V, Mk V → Calls Tryd.prog 22 #[.int .i64 wd, .int .u64 n, .int .u64 b] V fun e w' => e = .returned (.tuple #[.int .u64 bk, fl l0 l1 l2 l3 l4]) ∧ Below V.heap.size V w')
    (hN2 : ∀ W, Mk W → Calls Tryd.prog 18 #[.int .i64 wd, .int .u64 r] W fun e w' => e = .returned (.tuple #[.int .u64 bk, fl m0 m1 m2 m3 m4]) ∧ Below W.heap.size W w')
    (M1 : (wrap64 (G : Int) == wrap64 (wrap64 E * wrap64 F)) = !R) (M2 : bits BinOp.or IntKind.u64 (r : Int) (IntKind.u64.wrap ((hi : Int) * 2 ^ (8 * wd).toNat)) = IntKind.u64.wrap ((u : Int) * v)) (M3 : H = ((hi : Int) != 0))
    (w : World) (hm : Mk w) (hn1 : ¬ wd < 1) (hn2 : ¬ 4 < wd) :
    Calls Tryd.prog 7 #[.int .i64 wd, .int .u64 a, .int .u64 b] w fun e w' => e = .returned (.bool true) ∧ Below w.heap.size w w' := by
  subst M3
  have MM1 := Lib.hid M1
  have MM2 := Lib.hid M2
  clear M1 M2
  have HI1 := Lib.hid hI1
  have HM := Lib.hid hM
  have HE := Lib.hid hE
  have HF := Lib.hid hF
  have HG := Lib.hid hG
  have Hu := Lib.hid hu
  have Hv := Lib.hid hv
  have HN1 := Lib.hid hN1
  have HI2 := Lib.hid hI2
  have HN2 := Lib.hid hN2
  clear hI1 hM hE hF hG hu hv hN1 hI2 hN2
  go_enter Tryd.func7, Tryd.ntmps7
  go_wp2_with fail
  go_at_call 22
  refine (HI1.out _ hm).mono ?_
  rintro e w1 ⟨rfl, hb1⟩
  have g1 : Gd w w1 := (Gd.refl hm).step hb1
  have s1 := Lib.hid (Slot5.new w1 (.bool R) (.bool z) (.bool s) (.bool R) (.bool p) 24)
  clear hb1
  go_wp2_with fail
  go_at_call 24
  refine (HM.out _ (g1.alloc _).1).mono ?_
  rintro e w2 ⟨rfl, hb2⟩
  have g2 : Gd w w2 := (g1.alloc _).step hb2
  have s2 := Lib.hid (s1.out.keep hb2)
  have t2 := Lib.hid (Slot5.new w2 (.bool ((hi : Int) != 0)) (.bool zz) (.bool ss) (.bool ((hi : Int) != 0)) (.bool pp) 24)
  clear hb2 s1 g1
  go_wp2_with (first | (go_at_call 31; ((with_reducible refine (HE.out _).mono ?_); rintro e w' ⟨rfl, rfl⟩)) | (go_at_call 31; ((with_reducible refine (HF.out _).mono ?_); rintro e w' ⟨rfl, rfl⟩)) | (go_at_call 29; ((with_reducible refine (Hu.out _).mono ?_); rintro e w' ⟨rfl, rfl⟩)) | (go_at_call 29; ((with_reducible refine (Hv.out _).mono ?_); rintro e w' ⟨rfl, rfl⟩)))
  go_at_call 18
  refine (HN1.out _ (g2.alloc _).1).mono ?_
  rintro e w3 ⟨rfl, hb3⟩
  have g3 : Gd w w3 := (g2.alloc _).step hb3
  have s3 := Lib.hid ((s2.out.alloc _).keep hb3)
  have t3 := Lib.hid (t2.out.keep hb3)
  clear hb3 s2 t2 g2
  go_wp2_with fail
  go_at_call 22
  refine (HI2.out _ (g3.alloc _).1).mono ?_
  rintro e w4 ⟨rfl, hb4⟩
  have g4 : Gd w w4 := (g3.alloc _).step hb4
  have s4 := Lib.hid ((s3.out.alloc _).keep hb4)
  have t4 := Lib.hid ((t3.out.alloc _).keep hb4)
  clear hb4 s3 t3 g3
  go_wp2_with fail
  go_at_call 18
  refine (HN2.out _ (g4.alloc _).1).mono ?_
  rintro e w5 ⟨rfl, hb5⟩
  have g5 : Gd w w5 := (g4.alloc _).step hb5
  have A := fun o => ((s4.out.alloc _).keep hb5).alloc o
  have B := fun o => ((t4.out.alloc _).keep hb5).alloc o
  have g6 := g5.alloc (Obj.cells #[Value.bool m0, Value.bool m1, Value.bool m2, Value.bool m3, Value.bool m4] 24)
  have E0 := Lib.hid (A (Obj.cells #[Value.bool m0, Value.bool m1, Value.bool m2, Value.bool m3, Value.bool m4] 24)).1
  have E3 := Lib.hid (A (Obj.cells #[Value.bool m0, Value.bool m1, Value.bool m2, Value.bool m3, Value.bool m4] 24)).2.2.2.1
  have D0 := Lib.hid (B (Obj.cells #[Value.bool m0, Value.bool m1, Value.bool m2, Value.bool m3, Value.bool m4] 24)).1
  clear hb5 s4 t4 g4 A B g5
  go_wp2_with fail
  generalize w5.alloc (Obj.cells #[Value.bool m0, Value.bool m1, Value.bool m2, Value.bool m3, Value.bool m4] 24) = W6 at *
  have e0 := E0.out
  have e3 := E3.out
  have d0 := D0.out
  clear E0 E3 D0
  have M1 := MM1.out
  have M2 := MM2.out
  have hwr : ∀ x : Int, IntKind.i64.wrap x = wrap64 x := fun x => by rw [IntKind.wrap_i64, wrap64]
  have hu8 : min (IntKind.u64.wrap (wrap64 (8 * wd))).toNat 64 = (8 * wd).toNat := by
    rcases w4_cases (by omega : ¬ wd < 1) (by omega : ¬ 4 < wd) with rfl | rfl | rfl | rfl <;> decide +kernel
  rw [← hu8] at M2
  clear hu8
  clear MM1 MM2 HI1 HM HE HF Hu Hv HN1 HI2 HN2
  go_region_held3 (fun W => W.cell? ⟨w1.heap.size, 0, none⟩ = some (.bool R) ∧ W.cell? ⟨w1.heap.size, 3, none⟩ = some (.bool R) ∧ W.cell? ⟨w2.heap.size, 0, none⟩ = some (.bool ((hi : Int) != 0))) (first | exact ⟨e0, e3, d0⟩ | exact ⟨hk.out _ _ _ e0, hk.out _ _ _ e3, hk.out _ _ _ d0⟩) (first | (go_at_call 31; ((with_reducible refine (HG.out _).mono ?_); rintro e w' ⟨rfl, rfl⟩)) | (go_at_call 28; refine (wakes_kept _ (by exact g6.1)).mono ?_; rintro e w7 ⟨rfl, hb7, hk⟩))
  all_goals
    go_wp2
    go_ret
    exact ⟨rfl, g6.2.drew.trans (hb7.mono g6.2.size)⟩
end Go.Proofs.YtmfoeolllobidaaDoor
