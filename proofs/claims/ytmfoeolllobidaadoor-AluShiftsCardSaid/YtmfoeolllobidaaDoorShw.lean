/- The walk of AluShifts. -/
import Derived.Test.YtmfoeolllobidaaDoorSha
import Derived.Test.YtmfoeolllobidaaDoorDivs
import Derived.Test.YtmfoeolllobidaaDoorMuls
import Derived.Test.YtmfoeolllobidaaDoorWakes
import Derived.Deep.DeepCutAuto
import Derived.RegionTactic
namespace Go.Proofs.YtmfoeolllobidaaDoor
open Go.RowKit Go.Shelf
set_option linter.unusedSimpArgs false
set_option linter.unusedVariables false
attribute [local go_sem] Oper.semAt_some
set_option maxRecDepth 100000 in
set_option maxHeartbeats 4000000 in
theorem ash_core4 (a n m nm L R hi rest Th C p2 : Nat) (X Y : Nat → Nat) (c z s o p : Bool) (fa1 fb1 fc1 fd1 fe1 fa2 fb2 fc2 fd2 fe2 fa3 fb3 fc3 fd3 fe3 : Nat → Bool) (fa4 fb4 fc4 fd4 fe4 fa5 fb5 fc5 fd5 fe5 fa6 fb6 fc6 fd6 fe6 fa7 fb7 fc7 fd7 fe7 fa8 fb8 fc8 fd8 fe8 : Bool)
    (h1 : ∀ k < 5, ∀ W, Mk W → Calls Tryd.prog 20 #[.int .u8 ((16 + k : Nat) : Int), .int .i64 4, .int .u64 a, .int .u8 n, fl c z s o p] W fun e w' => e = .returned (.tuple #[.int .u64 (X k : Nat), fl (fa1 k) (fb1 k) (fc1 k) (fd1 k) (fe1 k)]) ∧ Below W.heap.size W w')
    (h2 : ∀ k < 5, ∀ W, Mk W → Calls Tryd.prog 20 #[.int .u8 ((16 + k : Nat) : Int), .int .i64 4, .int .u64 (X k : Nat), .int .u8 m, fl c z s o p] W fun e w' => e = .returned (.tuple #[.int .u64 (Y k : Nat), fl (fa2 k) (fb2 k) (fc2 k) (fd2 k) (fe2 k)]) ∧ Below W.heap.size W w')
    (h3 : ∀ k < 5, ∀ W, Mk W → Calls Tryd.prog 20 #[.int .u8 ((16 + k : Nat) : Int), .int .i64 4, .int .u64 a, .int .u8 nm, fl c z s o p] W fun e w' => e = .returned (.tuple #[.int .u64 (Y k : Nat), fl (fa3 k) (fb3 k) (fc3 k) (fd3 k) (fe3 k)]) ∧ Below W.heap.size W w')
    (hL : ∀ W, Mk W → Calls Tryd.prog 20 #[.int .u8 16, .int .i64 4, .int .u64 a, .int .u8 n, fl c z s o p] W fun e w' => e = .returned (.tuple #[.int .u64 (L : Nat), fl fa4 fb4 fc4 fd4 fe4]) ∧ Below W.heap.size W w')
    (hR : ∀ W, Mk W → Calls Tryd.prog 20 #[.int .u8 17, .int .i64 4, .int .u64 a, .int .u8 n, fl c z s o p] W fun e w' => e = .returned (.tuple #[.int .u64 (R : Nat), fl fa5 fb5 fc5 fd5 fe5]) ∧ Below W.heap.size W w')
    (hM : ∀ W, Mk W → Calls Tryd.prog 24 #[.int .i64 4, .int .u64 a, .int .u64 (p2 : Nat)] W fun e w' => e = .returned (.tuple #[.int .u64 (L : Nat), .int .u64 (hi : Nat), fl fa6 fb6 fc6 fd6 fe6]) ∧ Below W.heap.size W w')
    (hD : ∀ W, Mk W → Calls Tryd.prog 26 #[.int .i64 4, .int .u64 0, .int .u64 a, .int .u64 (p2 : Nat)] W fun e w' => e = .returned (.tuple #[.int .u64 (R : Nat), .int .u64 (rest : Nat), .bool true]) ∧ Below W.heap.size W w')
    (hT : ∀ W, Mk W → Calls Tryd.prog 20 #[.int .u8 19, .int .i64 4, .int .u64 a, .int .u8 n, fl c z s o p] W fun e w' => e = .returned (.tuple #[.int .u64 (Th : Nat), fl fa7 fb7 fc7 fd7 fe7]) ∧ Below W.heap.size W w')
    (hB : ∀ W, Mk W → Calls Tryd.prog 20 #[.int .u8 20, .int .i64 4, .int .u64 (Th : Nat), .int .u8 n, fl c z s o p] W fun e w' => e = .returned (.tuple #[.int .u64 (C : Nat), fl fa8 fb8 fc8 fd8 fe8]) ∧ Below W.heap.size W w')
    (hC : ∀ W, Calls Tryd.prog 29 #[.int .u64 a, .int .i64 4] W fun e w' => e = .returned (.int .u64 (C : Nat)) ∧ W = w')
    (hwr : IntKind.u8.wrap ((n : Int) + m) = (nm : Int)) (hge : decide (32 ≤ wrap64 ((n : Int) + wrap64 (m : Int))) = false) (hp2 : IntKind.u64.wrap (2 ^ n) = (p2 : Int)) (hn64 : n < 64)
    (hfl : 0 < m → 0 < n → ∀ k < 5, fa3 k = fa2 k ∧ fb3 k = fb2 k ∧ fc3 k = fc2 k)
    (w : World) (hm : Mk w) :
    Calls Tryd.prog 6 #[.bool false, .int .u64 a, .int .u8 n, .int .u8 m, fl c z s o p] w fun e w' => e = .returned (.bool true) ∧ Below w.heap.size w w' := by
  have H1 := Lib.hid h1
  have H2 := Lib.hid h2
  have H3 := Lib.hid h3
  have HL := Lib.hid hL
  have HR := Lib.hid hR
  have HM := Lib.hid hM
  have HD := Lib.hid hD
  have HT := Lib.hid hT
  have HB0 := Lib.hid hB
  have HC := Lib.hid hC
  have HFL := Lib.hid hfl
  have HM0 := Lib.hid hm
  clear h1 h2 h3 hL hR hM hD hT hB hC hfl hm
  go_enter Tryd.func6, Tryd.ntmps6
  go_wp2_with fail
  go_loopw [46] (fun i W => ∃ k : Nat, k ≤ 5 ∧ i = .int .i64 k ∧ Slot5 W w.heap.size (.bool c) (.bool z) (.bool s) (.bool o) (.bool p) ∧ (W.cell? ⟨w.heap.size + 1, 0, none⟩ = some (.int .u8 16) ∧ W.cell? ⟨w.heap.size + 1, 1, none⟩ = some (.int .u8 17) ∧ W.cell? ⟨w.heap.size + 1, 2, none⟩ = some (.int .u8 18) ∧ W.cell? ⟨w.heap.size + 1, 3, none⟩ = some (.int .u8 19) ∧ W.cell? ⟨w.heap.size + 1, 4, none⟩ = some (.int .u8 20)) ∧ w.heap.size + 1 < W.heap.size ∧ Below w.heap.size w W) (fun i _ => 5 - (intOf i).toNat)
  case atStart =>
    refine ⟨0, by omega, rfl, (Slot5.new w _ _ _ _ _ 24).alloc _, ?_, by simp, ((Below.refl _ _).alloc (Nat.le_refl _) _).alloc (by simp) _⟩
    simp [go_sem]
  case round =>
    obtain ⟨k, hk, rfl, hs5, harr, hsz, hbel⟩ := hrel
    by_cases hlt : k < 5
    · have har : wr.cell? ⟨w.heap.size + 1, k, none⟩ = some (.int .u8 ((16 + k : Nat) : Int)) := by
        obtain ⟨e0, e1, e2, e3, e4⟩ := harr
        obtain rfl | rfl | rfl | rfl | rfl : k = 0 ∨ k = 1 ∨ k = 2 ∨ k = 3 ∨ k = 4 := by omega
        · exact e0
        · exact e1
        · exact e2
        · exact e3
        · exact e4
      have hm0 := HM0.out.own hbel
      have hS := Lib.hid hs5
      have HB := Lib.hid hbel
      obtain ⟨t0, t1, t2, t3, t4, _, _, _, _, _, _⟩ := hs5
      have HA := Lib.hid harr
      clear harr hbel
      go_upto_region 9 with fail
      go_wp2_with fail
      go_at_call 20
      refine (H1.out k hlt _ hm0).mono ?_
      rintro e w1 ⟨rfl, hb1⟩
      have W1 := Lib.hid hb1
      have B1 := Lib.hid (HB.out.trans (hb1.mono HB.out.size))
      have A1 := fun o => (hS.out.keep hb1).alloc o
      clear t0 t1 t2 t3 t4 har
      have t0 := fun o => (A1 o).1
      have t1 := fun o => (A1 o).2.1
      have t2 := fun o => (A1 o).2.2.1
      have t3 := fun o => (A1 o).2.2.2.1
      have t4 := fun o => (A1 o).2.2.2.2.1
      have S1 := Lib.hid A1
      have z1 := hb1.size
      clear A1 hm0 hb1
      go_wp2_with fail
      go_at_call 20
      refine (H2.out k hlt _ ((HM0.out.own B1.out).alloc _)).mono ?_
      rintro e w2 ⟨rfl, hb2⟩
      have z2 := hb2.size
      simp only [World.size_alloc] at z2
      have W2 := Lib.hid ((W1.out.alloc (by omega) (Obj.cells #[.bool (fa1 k), .bool (fb1 k), .bool (fc1 k), .bool (fd1 k), .bool (fe1 k)] 24)).trans (hb2.mono (by simp; omega)))
      have B2 := Lib.hid ((B1.out.alloc (by omega) _).trans (hb2.mono (by simp; omega)))
      have A1 := fun o => ((S1.out _).keep hb2).alloc o
      clear t0 t1 t2 t3 t4
      have t0 := fun o => (A1 o).1
      have t1 := fun o => (A1 o).2.1
      have t2 := fun o => (A1 o).2.2.1
      have t3 := fun o => (A1 o).2.2.2.1
      have t4 := fun o => (A1 o).2.2.2.2.1
      have S2 := Lib.hid A1
      clear A1 hb2 S1
      go_wp2_with fail
      go_at_call 20
      refine (H3.out k hlt _ ((HM0.out.own B2.out).alloc _)).mono ?_
      rintro e w3 ⟨rfl, hb3⟩
      have z3 := hb3.size
      simp only [World.size_alloc] at z3
      have W3 := Lib.hid ((W2.out.alloc (by omega) (Obj.cells #[.bool (fa2 k), .bool (fb2 k), .bool (fc2 k), .bool (fd2 k), .bool (fe2 k)] 24)).trans (hb3.mono (by simp; omega)))
      have B3 := Lib.hid ((B2.out.alloc (by omega) _).trans (hb3.mono (by simp; omega)))
      have A1 := fun o => ((S2.out _).keep hb3).alloc o
      have A2 := fun o => ((Slot5.new w2 (.bool (fa2 k)) (.bool (fb2 k)) (.bool (fc2 k)) (.bool (fd2 k)) (.bool (fe2 k)) 24).keep hb3).alloc o
      clear t0 t1 t2 t3 t4
      have t0 := fun o => (A2 o).1
      have t1 := fun o => (A2 o).2.1
      have t2 := fun o => (A2 o).2.2.1
      have t3 := fun o => (A2 o).2.2.2.1
      have t4 := fun o => (A2 o).2.2.2.2.1
      have S3 := Lib.hid A1
      clear A1 A2 hb3 S2
      go_upto_region 12 with fail
      have hend : ∀ oo, ∃ j : Nat, j ≤ 5 ∧ Value.int .i64 ((k : Int) + 1) = .int .i64 j ∧ Slot5 (w3.alloc oo) w.heap.size (.bool c) (.bool z) (.bool s) (.bool o) (.bool p) ∧ ((w3.alloc oo).cell? ⟨w.heap.size + 1, 0, none⟩ = some (.int .u8 16) ∧ (w3.alloc oo).cell? ⟨w.heap.size + 1, 1, none⟩ = some (.int .u8 17) ∧ (w3.alloc oo).cell? ⟨w.heap.size + 1, 2, none⟩ = some (.int .u8 18) ∧ (w3.alloc oo).cell? ⟨w.heap.size + 1, 3, none⟩ = some (.int .u8 19) ∧ (w3.alloc oo).cell? ⟨w.heap.size + 1, 4, none⟩ = some (.int .u8 20)) ∧ w.heap.size + 1 < (w3.alloc oo).heap.size ∧ Below w.heap.size w (w3.alloc oo) := fun oo => by
        have b := W3.out.alloc (by omega) oo
        have q : ∀ i v, wr.cell? ⟨w.heap.size + 1, i, none⟩ = some v → (w3.alloc oo).cell? ⟨w.heap.size + 1, i, none⟩ = some v := fun i v h => (b.cell (p := ⟨w.heap.size + 1, i, none⟩) (by omega)).trans h
        obtain ⟨e0, e1, e2, e3, e4⟩ := HA.out
        exact ⟨k + 1, by omega, by simp, S3.out oo, ⟨q _ _ e0, q _ _ e1, q _ _ e2, q _ _ e3, q _ _ e4⟩, by simp; omega, B3.out.alloc (by omega) oo⟩
      have HE := Lib.hid hend
      have hF := HFL.out
      clear hend S3 W1 W2 W3 B1 B2 B3 HA
      rcases Nat.eq_zero_or_pos m with hm0 | hmp
      · have e1 : decide ((m : Int) > 0) = false := by simp; omega
        clear hF
        go_wp2
        exact ⟨HE.out _, by simp [intOf]; omega⟩
      · have e1 : decide ((m : Int) > 0) = true := by simp; omega
        rcases Nat.eq_zero_or_pos n with hn0 | hnp
        · have e2 : decide ((n : Int) > 0) = false := by simp; omega
          clear hF
          go_wp2
          exact ⟨HE.out _, by simp [intOf]; omega⟩
        · have e2 : decide ((n : Int) > 0) = true := by simp; omega
          obtain ⟨q1, q2, q3⟩ := hF hmp hnp k hlt
          have E1 : (fa3 k != fa2 k) = false := by rw [q1]; simp
          have E1' : (fa2 k != fa3 k) = false := by rw [q1]; simp
          clear hF
          go_wp2
          exact ⟨HE.out _, by simp [intOf]; omega⟩
    · have e5 : ¬ k < 5 := hlt
      have hS := Lib.hid hs5
      have HB := Lib.hid hbel
      clear harr
      obtain ⟨t0, t1, t2, t3, t4, _, _, _, _, _, _⟩ := hs5
      clear hbel
      go_wp2_with fail
      go_at_call 20
      (with_reducible refine (HL.out _ (HM0.out.own HB.out)).mono ?_)
      rintro e w1 ⟨rfl, hb⟩
      have Z := Lib.hid (HB.out.trans (hb.mono HB.out.size))
      have A1 := Lib.hid (hS.out.keep hb)
      clear HB hS hb t0 t1 t2 t3 t4
      have HB := Z
      have hS := A1
      clear Z A1
      have HB2 := Lib.hid (HB.out.alloc HB.out.size (Obj.cells #[.bool fa4, .bool fb4, .bool fc4, .bool fd4, .bool fe4] 24))
      have hS2 := Lib.hid (hS.out.alloc (Obj.cells #[.bool fa4, .bool fb4, .bool fc4, .bool fd4, .bool fe4] 24))
      clear HB hS
      have HB := HB2
      have hS := hS2
      clear HB2 hS2
      obtain ⟨t0, t1, t2, t3, t4, _, _, _, _, _, _⟩ := hS.out
      go_wp2_with fail
      go_at_call 20
      (with_reducible refine (HR.out _ (HM0.out.own HB.out)).mono ?_)
      rintro e w2 ⟨rfl, hb⟩
      have Z := Lib.hid (HB.out.trans (hb.mono HB.out.size))
      have A1 := Lib.hid (hS.out.keep hb)
      clear HB hS hb t0 t1 t2 t3 t4
      have HB := Z
      have hS := A1
      clear Z A1
      have HB2 := Lib.hid (HB.out.alloc HB.out.size (Obj.cells #[.bool fa5, .bool fb5, .bool fc5, .bool fd5, .bool fe5] 24))
      have hS2 := Lib.hid (hS.out.alloc (Obj.cells #[.bool fa5, .bool fb5, .bool fc5, .bool fd5, .bool fe5] 24))
      clear HB hS
      have HB := HB2
      have hS := hS2
      clear HB2 hS2
      obtain ⟨t0, t1, t2, t3, t4, _, _, _, _, _, _⟩ := hS.out
      go_wp2_with fail
      go_at_call 24
      (with_reducible refine (HM.out _ (HM0.out.own HB.out)).mono ?_)
      rintro e w3 ⟨rfl, hb⟩
      have Z := Lib.hid (HB.out.trans (hb.mono HB.out.size))
      have A1 := Lib.hid (hS.out.keep hb)
      clear HB hS hb t0 t1 t2 t3 t4
      have HB := Z
      have hS := A1
      clear Z A1
      have HB2 := Lib.hid (HB.out.alloc HB.out.size (Obj.cells #[.bool fa6, .bool fb6, .bool fc6, .bool fd6, .bool fe6] 24))
      have hS2 := Lib.hid (hS.out.alloc (Obj.cells #[.bool fa6, .bool fb6, .bool fc6, .bool fd6, .bool fe6] 24))
      clear HB hS
      have HB := HB2
      have hS := hS2
      clear HB2 hS2
      obtain ⟨t0, t1, t2, t3, t4, _, _, _, _, _, _⟩ := hS.out
      go_wp2_with fail
      go_at_call 26
      (with_reducible refine (HD.out _ (HM0.out.own HB.out)).mono ?_)
      rintro e w4 ⟨rfl, hb⟩
      have Z := Lib.hid (HB.out.trans (hb.mono HB.out.size))
      have A1 := Lib.hid (hS.out.keep hb)
      clear HB hS hb t0 t1 t2 t3 t4
      have HB := Z
      have hS := A1
      clear Z A1
      obtain ⟨t0, t1, t2, t3, t4, _, _, _, _, _, _⟩ := hS.out
      go_wp2_with fail
      go_at_call 20
      (with_reducible refine (HT.out _ (HM0.out.own HB.out)).mono ?_)
      rintro e w5 ⟨rfl, hb⟩
      have Z := Lib.hid (HB.out.trans (hb.mono HB.out.size))
      have A1 := Lib.hid (hS.out.keep hb)
      clear HB hS hb t0 t1 t2 t3 t4
      have HB := Z
      have hS := A1
      clear Z A1
      have HB2 := Lib.hid (HB.out.alloc HB.out.size (Obj.cells #[.bool fa7, .bool fb7, .bool fc7, .bool fd7, .bool fe7] 24))
      have hS2 := Lib.hid (hS.out.alloc (Obj.cells #[.bool fa7, .bool fb7, .bool fc7, .bool fd7, .bool fe7] 24))
      clear HB hS
      have HB := HB2
      have hS := hS2
      clear HB2 hS2
      obtain ⟨t0, t1, t2, t3, t4, _, _, _, _, _, _⟩ := hS.out
      go_wp2_with fail
      go_at_call 20
      (with_reducible refine (HB0.out _ (HM0.out.own HB.out)).mono ?_)
      rintro e w6 ⟨rfl, hb⟩
      have Z := Lib.hid (HB.out.trans (hb.mono HB.out.size))
      have A1 := Lib.hid (hS.out.keep hb)
      clear HB hS hb t0 t1 t2 t3 t4
      have HB := Z
      have hS := A1
      clear Z A1
      have HB2 := Lib.hid (HB.out.alloc HB.out.size (Obj.cells #[.bool fa8, .bool fb8, .bool fc8, .bool fd8, .bool fe8] 24))
      have hS2 := Lib.hid (hS.out.alloc (Obj.cells #[.bool fa8, .bool fb8, .bool fc8, .bool fd8, .bool fe8] 24))
      clear HB hS
      have HB := HB2
      have hS := hS2
      clear HB2 hS2
      obtain ⟨t0, t1, t2, t3, t4, _, _, _, _, _, _⟩ := hS.out
      go_wp2_with (first | (go_at_call 29; (with_reducible refine (HC.out _).mono ?_); rintro e w7 ⟨rfl, rfl⟩) | (go_at_call 28; (with_reducible refine (wakes_any _ (HM0.out.own HB.out)).mono ?_); rintro e w8 ⟨rfl, hb⟩))
      go_ret
      exact ⟨rfl, HB.out.trans (hb.mono HB.out.size)⟩
set_option maxRecDepth 100000 in
set_option maxHeartbeats 4000000 in
theorem ash_core8 (a n m nm L R hi rest Th C p2 : Nat) (X Y : Nat → Nat) (c z s o p : Bool) (fa1 fb1 fc1 fd1 fe1 fa2 fb2 fc2 fd2 fe2 fa3 fb3 fc3 fd3 fe3 : Nat → Bool) (fa4 fb4 fc4 fd4 fe4 fa5 fb5 fc5 fd5 fe5 fa6 fb6 fc6 fd6 fe6 fa7 fb7 fc7 fd7 fe7 fa8 fb8 fc8 fd8 fe8 : Bool)
    (h1 : ∀ k < 5, ∀ W, Mk W → Calls Tryd.prog 20 #[.int .u8 ((16 + k : Nat) : Int), .int .i64 8, .int .u64 a, .int .u8 n, fl c z s o p] W fun e w' => e = .returned (.tuple #[.int .u64 (X k : Nat), fl (fa1 k) (fb1 k) (fc1 k) (fd1 k) (fe1 k)]) ∧ Below W.heap.size W w')
    (h2 : ∀ k < 5, ∀ W, Mk W → Calls Tryd.prog 20 #[.int .u8 ((16 + k : Nat) : Int), .int .i64 8, .int .u64 (X k : Nat), .int .u8 m, fl c z s o p] W fun e w' => e = .returned (.tuple #[.int .u64 (Y k : Nat), fl (fa2 k) (fb2 k) (fc2 k) (fd2 k) (fe2 k)]) ∧ Below W.heap.size W w')
    (h3 : ∀ k < 5, ∀ W, Mk W → Calls Tryd.prog 20 #[.int .u8 ((16 + k : Nat) : Int), .int .i64 8, .int .u64 a, .int .u8 nm, fl c z s o p] W fun e w' => e = .returned (.tuple #[.int .u64 (Y k : Nat), fl (fa3 k) (fb3 k) (fc3 k) (fd3 k) (fe3 k)]) ∧ Below W.heap.size W w')
    (hL : ∀ W, Mk W → Calls Tryd.prog 20 #[.int .u8 16, .int .i64 8, .int .u64 a, .int .u8 n, fl c z s o p] W fun e w' => e = .returned (.tuple #[.int .u64 (L : Nat), fl fa4 fb4 fc4 fd4 fe4]) ∧ Below W.heap.size W w')
    (hR : ∀ W, Mk W → Calls Tryd.prog 20 #[.int .u8 17, .int .i64 8, .int .u64 a, .int .u8 n, fl c z s o p] W fun e w' => e = .returned (.tuple #[.int .u64 (R : Nat), fl fa5 fb5 fc5 fd5 fe5]) ∧ Below W.heap.size W w')
    (hM : ∀ W, Mk W → Calls Tryd.prog 24 #[.int .i64 8, .int .u64 a, .int .u64 (p2 : Nat)] W fun e w' => e = .returned (.tuple #[.int .u64 (L : Nat), .int .u64 (hi : Nat), fl fa6 fb6 fc6 fd6 fe6]) ∧ Below W.heap.size W w')
    (hD : ∀ W, Mk W → Calls Tryd.prog 26 #[.int .i64 8, .int .u64 0, .int .u64 a, .int .u64 (p2 : Nat)] W fun e w' => e = .returned (.tuple #[.int .u64 (R : Nat), .int .u64 (rest : Nat), .bool true]) ∧ Below W.heap.size W w')
    (hT : ∀ W, Mk W → Calls Tryd.prog 20 #[.int .u8 19, .int .i64 8, .int .u64 a, .int .u8 n, fl c z s o p] W fun e w' => e = .returned (.tuple #[.int .u64 (Th : Nat), fl fa7 fb7 fc7 fd7 fe7]) ∧ Below W.heap.size W w')
    (hB : ∀ W, Mk W → Calls Tryd.prog 20 #[.int .u8 20, .int .i64 8, .int .u64 (Th : Nat), .int .u8 n, fl c z s o p] W fun e w' => e = .returned (.tuple #[.int .u64 (C : Nat), fl fa8 fb8 fc8 fd8 fe8]) ∧ Below W.heap.size W w')
    (hC : ∀ W, Calls Tryd.prog 29 #[.int .u64 a, .int .i64 8] W fun e w' => e = .returned (.int .u64 (C : Nat)) ∧ W = w')
    (hwr : IntKind.u8.wrap ((n : Int) + m) = (nm : Int)) (hge : decide (64 ≤ wrap64 ((n : Int) + wrap64 (m : Int))) = false) (hp2 : IntKind.u64.wrap (2 ^ n) = (p2 : Int)) (hn64 : n < 64)
    (hfl : 0 < m → 0 < n → ∀ k < 5, fa3 k = fa2 k ∧ fb3 k = fb2 k ∧ fc3 k = fc2 k)
    (w : World) (hm : Mk w) :
    Calls Tryd.prog 6 #[.bool true, .int .u64 a, .int .u8 n, .int .u8 m, fl c z s o p] w fun e w' => e = .returned (.bool true) ∧ Below w.heap.size w w' := by
  have H1 := Lib.hid h1
  have H2 := Lib.hid h2
  have H3 := Lib.hid h3
  have HL := Lib.hid hL
  have HR := Lib.hid hR
  have HM := Lib.hid hM
  have HD := Lib.hid hD
  have HT := Lib.hid hT
  have HB0 := Lib.hid hB
  have HC := Lib.hid hC
  have HFL := Lib.hid hfl
  have HM0 := Lib.hid hm
  clear h1 h2 h3 hL hR hM hD hT hB hC hfl hm
  go_enter Tryd.func6, Tryd.ntmps6
  go_wp2_with fail
  go_loopw [46] (fun i W => ∃ k : Nat, k ≤ 5 ∧ i = .int .i64 k ∧ Slot5 W w.heap.size (.bool c) (.bool z) (.bool s) (.bool o) (.bool p) ∧ (W.cell? ⟨w.heap.size + 1, 0, none⟩ = some (.int .u8 16) ∧ W.cell? ⟨w.heap.size + 1, 1, none⟩ = some (.int .u8 17) ∧ W.cell? ⟨w.heap.size + 1, 2, none⟩ = some (.int .u8 18) ∧ W.cell? ⟨w.heap.size + 1, 3, none⟩ = some (.int .u8 19) ∧ W.cell? ⟨w.heap.size + 1, 4, none⟩ = some (.int .u8 20)) ∧ w.heap.size + 1 < W.heap.size ∧ Below w.heap.size w W) (fun i _ => 5 - (intOf i).toNat)
  case atStart =>
    refine ⟨0, by omega, rfl, (Slot5.new w _ _ _ _ _ 24).alloc _, ?_, by simp, ((Below.refl _ _).alloc (Nat.le_refl _) _).alloc (by simp) _⟩
    simp [go_sem]
  case round =>
    obtain ⟨k, hk, rfl, hs5, harr, hsz, hbel⟩ := hrel
    by_cases hlt : k < 5
    · have har : wr.cell? ⟨w.heap.size + 1, k, none⟩ = some (.int .u8 ((16 + k : Nat) : Int)) := by
        obtain ⟨e0, e1, e2, e3, e4⟩ := harr
        obtain rfl | rfl | rfl | rfl | rfl : k = 0 ∨ k = 1 ∨ k = 2 ∨ k = 3 ∨ k = 4 := by omega
        · exact e0
        · exact e1
        · exact e2
        · exact e3
        · exact e4
      have hm0 := HM0.out.own hbel
      have hS := Lib.hid hs5
      have HB := Lib.hid hbel
      obtain ⟨t0, t1, t2, t3, t4, _, _, _, _, _, _⟩ := hs5
      have HA := Lib.hid harr
      clear harr hbel
      go_upto_region 9 with fail
      go_wp2_with fail
      go_at_call 20
      refine (H1.out k hlt _ hm0).mono ?_
      rintro e w1 ⟨rfl, hb1⟩
      have W1 := Lib.hid hb1
      have B1 := Lib.hid (HB.out.trans (hb1.mono HB.out.size))
      have A1 := fun o => (hS.out.keep hb1).alloc o
      clear t0 t1 t2 t3 t4 har
      have t0 := fun o => (A1 o).1
      have t1 := fun o => (A1 o).2.1
      have t2 := fun o => (A1 o).2.2.1
      have t3 := fun o => (A1 o).2.2.2.1
      have t4 := fun o => (A1 o).2.2.2.2.1
      have S1 := Lib.hid A1
      have z1 := hb1.size
      clear A1 hm0 hb1
      go_wp2_with fail
      go_at_call 20
      refine (H2.out k hlt _ ((HM0.out.own B1.out).alloc _)).mono ?_
      rintro e w2 ⟨rfl, hb2⟩
      have z2 := hb2.size
      simp only [World.size_alloc] at z2
      have W2 := Lib.hid ((W1.out.alloc (by omega) (Obj.cells #[.bool (fa1 k), .bool (fb1 k), .bool (fc1 k), .bool (fd1 k), .bool (fe1 k)] 24)).trans (hb2.mono (by simp; omega)))
      have B2 := Lib.hid ((B1.out.alloc (by omega) _).trans (hb2.mono (by simp; omega)))
      have A1 := fun o => ((S1.out _).keep hb2).alloc o
      clear t0 t1 t2 t3 t4
      have t0 := fun o => (A1 o).1
      have t1 := fun o => (A1 o).2.1
      have t2 := fun o => (A1 o).2.2.1
      have t3 := fun o => (A1 o).2.2.2.1
      have t4 := fun o => (A1 o).2.2.2.2.1
      have S2 := Lib.hid A1
      clear A1 hb2 S1
      go_wp2_with fail
      go_at_call 20
      refine (H3.out k hlt _ ((HM0.out.own B2.out).alloc _)).mono ?_
      rintro e w3 ⟨rfl, hb3⟩
      have z3 := hb3.size
      simp only [World.size_alloc] at z3
      have W3 := Lib.hid ((W2.out.alloc (by omega) (Obj.cells #[.bool (fa2 k), .bool (fb2 k), .bool (fc2 k), .bool (fd2 k), .bool (fe2 k)] 24)).trans (hb3.mono (by simp; omega)))
      have B3 := Lib.hid ((B2.out.alloc (by omega) _).trans (hb3.mono (by simp; omega)))
      have A1 := fun o => ((S2.out _).keep hb3).alloc o
      have A2 := fun o => ((Slot5.new w2 (.bool (fa2 k)) (.bool (fb2 k)) (.bool (fc2 k)) (.bool (fd2 k)) (.bool (fe2 k)) 24).keep hb3).alloc o
      clear t0 t1 t2 t3 t4
      have t0 := fun o => (A2 o).1
      have t1 := fun o => (A2 o).2.1
      have t2 := fun o => (A2 o).2.2.1
      have t3 := fun o => (A2 o).2.2.2.1
      have t4 := fun o => (A2 o).2.2.2.2.1
      have S3 := Lib.hid A1
      clear A1 A2 hb3 S2
      go_upto_region 12 with fail
      have hend : ∀ oo, ∃ j : Nat, j ≤ 5 ∧ Value.int .i64 ((k : Int) + 1) = .int .i64 j ∧ Slot5 (w3.alloc oo) w.heap.size (.bool c) (.bool z) (.bool s) (.bool o) (.bool p) ∧ ((w3.alloc oo).cell? ⟨w.heap.size + 1, 0, none⟩ = some (.int .u8 16) ∧ (w3.alloc oo).cell? ⟨w.heap.size + 1, 1, none⟩ = some (.int .u8 17) ∧ (w3.alloc oo).cell? ⟨w.heap.size + 1, 2, none⟩ = some (.int .u8 18) ∧ (w3.alloc oo).cell? ⟨w.heap.size + 1, 3, none⟩ = some (.int .u8 19) ∧ (w3.alloc oo).cell? ⟨w.heap.size + 1, 4, none⟩ = some (.int .u8 20)) ∧ w.heap.size + 1 < (w3.alloc oo).heap.size ∧ Below w.heap.size w (w3.alloc oo) := fun oo => by
        have b := W3.out.alloc (by omega) oo
        have q : ∀ i v, wr.cell? ⟨w.heap.size + 1, i, none⟩ = some v → (w3.alloc oo).cell? ⟨w.heap.size + 1, i, none⟩ = some v := fun i v h => (b.cell (p := ⟨w.heap.size + 1, i, none⟩) (by omega)).trans h
        obtain ⟨e0, e1, e2, e3, e4⟩ := HA.out
        exact ⟨k + 1, by omega, by simp, S3.out oo, ⟨q _ _ e0, q _ _ e1, q _ _ e2, q _ _ e3, q _ _ e4⟩, by simp; omega, B3.out.alloc (by omega) oo⟩
      have HE := Lib.hid hend
      have hF := HFL.out
      clear hend S3 W1 W2 W3 B1 B2 B3 HA
      rcases Nat.eq_zero_or_pos m with hm0 | hmp
      · have e1 : decide ((m : Int) > 0) = false := by simp; omega
        clear hF
        go_wp2
        exact ⟨HE.out _, by simp [intOf]; omega⟩
      · have e1 : decide ((m : Int) > 0) = true := by simp; omega
        rcases Nat.eq_zero_or_pos n with hn0 | hnp
        · have e2 : decide ((n : Int) > 0) = false := by simp; omega
          clear hF
          go_wp2
          exact ⟨HE.out _, by simp [intOf]; omega⟩
        · have e2 : decide ((n : Int) > 0) = true := by simp; omega
          obtain ⟨q1, q2, q3⟩ := hF hmp hnp k hlt
          have E1 : (fa3 k != fa2 k) = false := by rw [q1]; simp
          have E1' : (fa2 k != fa3 k) = false := by rw [q1]; simp
          clear hF
          go_wp2
          exact ⟨HE.out _, by simp [intOf]; omega⟩
    · have e5 : ¬ k < 5 := hlt
      have hS := Lib.hid hs5
      have HB := Lib.hid hbel
      clear harr
      obtain ⟨t0, t1, t2, t3, t4, _, _, _, _, _, _⟩ := hs5
      clear hbel
      go_wp2_with fail
      go_at_call 20
      (with_reducible refine (HL.out _ (HM0.out.own HB.out)).mono ?_)
      rintro e w1 ⟨rfl, hb⟩
      have Z := Lib.hid (HB.out.trans (hb.mono HB.out.size))
      have A1 := Lib.hid (hS.out.keep hb)
      clear HB hS hb t0 t1 t2 t3 t4
      have HB := Z
      have hS := A1
      clear Z A1
      have HB2 := Lib.hid (HB.out.alloc HB.out.size (Obj.cells #[.bool fa4, .bool fb4, .bool fc4, .bool fd4, .bool fe4] 24))
      have hS2 := Lib.hid (hS.out.alloc (Obj.cells #[.bool fa4, .bool fb4, .bool fc4, .bool fd4, .bool fe4] 24))
      clear HB hS
      have HB := HB2
      have hS := hS2
      clear HB2 hS2
      obtain ⟨t0, t1, t2, t3, t4, _, _, _, _, _, _⟩ := hS.out
      go_wp2_with fail
      go_at_call 20
      (with_reducible refine (HR.out _ (HM0.out.own HB.out)).mono ?_)
      rintro e w2 ⟨rfl, hb⟩
      have Z := Lib.hid (HB.out.trans (hb.mono HB.out.size))
      have A1 := Lib.hid (hS.out.keep hb)
      clear HB hS hb t0 t1 t2 t3 t4
      have HB := Z
      have hS := A1
      clear Z A1
      have HB2 := Lib.hid (HB.out.alloc HB.out.size (Obj.cells #[.bool fa5, .bool fb5, .bool fc5, .bool fd5, .bool fe5] 24))
      have hS2 := Lib.hid (hS.out.alloc (Obj.cells #[.bool fa5, .bool fb5, .bool fc5, .bool fd5, .bool fe5] 24))
      clear HB hS
      have HB := HB2
      have hS := hS2
      clear HB2 hS2
      obtain ⟨t0, t1, t2, t3, t4, _, _, _, _, _, _⟩ := hS.out
      go_wp2_with fail
      go_at_call 24
      (with_reducible refine (HM.out _ (HM0.out.own HB.out)).mono ?_)
      rintro e w3 ⟨rfl, hb⟩
      have Z := Lib.hid (HB.out.trans (hb.mono HB.out.size))
      have A1 := Lib.hid (hS.out.keep hb)
      clear HB hS hb t0 t1 t2 t3 t4
      have HB := Z
      have hS := A1
      clear Z A1
      have HB2 := Lib.hid (HB.out.alloc HB.out.size (Obj.cells #[.bool fa6, .bool fb6, .bool fc6, .bool fd6, .bool fe6] 24))
      have hS2 := Lib.hid (hS.out.alloc (Obj.cells #[.bool fa6, .bool fb6, .bool fc6, .bool fd6, .bool fe6] 24))
      clear HB hS
      have HB := HB2
      have hS := hS2
      clear HB2 hS2
      obtain ⟨t0, t1, t2, t3, t4, _, _, _, _, _, _⟩ := hS.out
      go_wp2_with fail
      go_at_call 26
      (with_reducible refine (HD.out _ (HM0.out.own HB.out)).mono ?_)
      rintro e w4 ⟨rfl, hb⟩
      have Z := Lib.hid (HB.out.trans (hb.mono HB.out.size))
      have A1 := Lib.hid (hS.out.keep hb)
      clear HB hS hb t0 t1 t2 t3 t4
      have HB := Z
      have hS := A1
      clear Z A1
      obtain ⟨t0, t1, t2, t3, t4, _, _, _, _, _, _⟩ := hS.out
      go_wp2_with fail
      go_at_call 20
      (with_reducible refine (HT.out _ (HM0.out.own HB.out)).mono ?_)
      rintro e w5 ⟨rfl, hb⟩
      have Z := Lib.hid (HB.out.trans (hb.mono HB.out.size))
      have A1 := Lib.hid (hS.out.keep hb)
      clear HB hS hb t0 t1 t2 t3 t4
      have HB := Z
      have hS := A1
      clear Z A1
      have HB2 := Lib.hid (HB.out.alloc HB.out.size (Obj.cells #[.bool fa7, .bool fb7, .bool fc7, .bool fd7, .bool fe7] 24))
      have hS2 := Lib.hid (hS.out.alloc (Obj.cells #[.bool fa7, .bool fb7, .bool fc7, .bool fd7, .bool fe7] 24))
      clear HB hS
      have HB := HB2
      have hS := hS2
      clear HB2 hS2
      obtain ⟨t0, t1, t2, t3, t4, _, _, _, _, _, _⟩ := hS.out
      go_wp2_with fail
      go_at_call 20
      (with_reducible refine (HB0.out _ (HM0.out.own HB.out)).mono ?_)
      rintro e w6 ⟨rfl, hb⟩
      have Z := Lib.hid (HB.out.trans (hb.mono HB.out.size))
      have A1 := Lib.hid (hS.out.keep hb)
      clear HB hS hb t0 t1 t2 t3 t4
      have HB := Z
      have hS := A1
      clear Z A1
      have HB2 := Lib.hid (HB.out.alloc HB.out.size (Obj.cells #[.bool fa8, .bool fb8, .bool fc8, .bool fd8, .bool fe8] 24))
      have hS2 := Lib.hid (hS.out.alloc (Obj.cells #[.bool fa8, .bool fb8, .bool fc8, .bool fd8, .bool fe8] 24))
      clear HB hS
      have HB := HB2
      have hS := hS2
      clear HB2 hS2
      obtain ⟨t0, t1, t2, t3, t4, _, _, _, _, _, _⟩ := hS.out
      go_wp2_with (first | (go_at_call 29; (with_reducible refine (HC.out _).mono ?_); rintro e w7 ⟨rfl, rfl⟩) | (go_at_call 28; (with_reducible refine (wakes_any _ (HM0.out.own HB.out)).mono ?_); rintro e w8 ⟨rfl, hb⟩))
      go_ret
      exact ⟨rfl, HB.out.trans (hb.mono HB.out.size)⟩
end Go.Proofs.YtmfoeolllobidaaDoor
