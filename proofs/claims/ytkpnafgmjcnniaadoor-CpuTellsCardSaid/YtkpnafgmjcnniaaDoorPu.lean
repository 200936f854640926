/- operand.Put. -/
import Derived.Test.YtkpnafgmjcnniaaDoorSh
import Derived.Test.YtkpnafgmjcnniaaDoorRi
namespace Go.Proofs.YtkpnafgmjcnniaaDoor
open Go.RowKit
set_option linter.unusedVariables false
set_option linter.unusedSimpArgs false
theorem put_lo (reg k r b i s d : Int) (p : Bool) (m : Int) (w : World) (h : reg < 0) :
    Calls Tryd.prog 15 #[.int .i64 reg, ov k r b i s d p m] w fun e w' => e = .returned (.tuple #[.slice none 0 0, .int .u8 0, .int .i64 2]) ∧ Below w.heap.size w w' := by
  go_enter Tryd.func15, Tryd.ntmps15
  go_wp2
  go_returns
  exact ⟨rfl, by go_grown⟩
theorem put_hi (reg k r b i s d : Int) (p : Bool) (m : Int) (w : World) (h : 15 < reg) :
    Calls Tryd.prog 15 #[.int .i64 reg, ov k r b i s d p m] w fun e w' => e = .returned (.tuple #[.slice none 0 0, .int .u8 0, .int .i64 2]) ∧ Below w.heap.size w w' := by
  go_enter Tryd.func15, Tryd.ntmps15
  go_wp2
  go_returns
  exact ⟨rfl, by go_grown⟩
theorem put_no (reg k r b i s d : Int) (p : Bool) (m : Int) (w : World) (hm : Mk w) (h0 : 0 ≤ reg) (h1 : reg ≤ 15) (h : rB k r b i s d p m = false) :
    Calls Tryd.prog 15 #[.int .i64 reg, ov k r b i s d p m] w fun e w' => e = .returned (.tuple #[.slice none 0 0, .int .u8 0, .int .i64 2]) ∧ Below w.heap.size w w' := by
  have HR : Hid (∀ W, Mk W → Calls Tryd.prog 18 #[ov k r b i s d p m] W fun e w' => e = .returned (.bool false) ∧ Below W.heap.size W w') := Lib.hid (fun W hW => by rw [← h]; exact right_any k r b i s d p m W hW)
  have HM := Lib.hid (hm.alloc (ob k r b i s d p m))
  have HB := Lib.hid ((Below.refl w.heap.size w).alloc (Nat.le_refl _) (ob k r b i s d p m))
  clear h hm
  go_enter Tryd.func15, Tryd.ntmps15
  go_wp2_with (go_at_call 18; (with_reducible refine (HR.out _ HM.out).mono ?_); rintro e w1 ⟨rfl, hb1⟩)
  go_returns
  exact ⟨rfl, HB.out.trans (hb1.mono HB.out.size)⟩
/-- What Put answers: a slice of n bytes, the prefix's bits, no error. -/
def PutR (w : World) (n : Nat) (f : Nat → Int) (rex : Int) (e : Ending) (W : World) : Prop := ∃ v, e = .returned (.tuple #[v, .int .u8 rex, .int .i64 0]) ∧ SL W v n f ∧ Below w.heap.size w W
theorem SL.new (w : World) (x : Int) : SL (w.alloc (.cells #[.int .u8 x] 5)) (.slice (some ⟨w.heap.size, 0, none⟩) 1 1) 1 (fun _ => x) :=
  ⟨_, 1, rfl, by omega, fun j hj => by obtain rfl : j = 0 := (by omega); rw [World.cell?_alloc_new]; rfl⟩
set_option maxRecDepth 100000 in
set_option maxHeartbeats 2000000 in
theorem put_reg (reg r q7 q8 r7 r8 : Int) (w : World) (hm : Mk w) (h0 : 0 ≤ reg) (h1 : reg ≤ 15) (g0 : 0 ≤ r) (g1 : r ≤ 15) (e7 : bits .and .i64 reg 7 = q7) (e8 : reg / 8 = q8) (d7 : bits .and .i64 r 7 = r7) (d8 : r / 8 = r8)
    (b0 : 0 ≤ q7) (b1 : q7 ≤ 7) (b2 : 0 ≤ q8) (b3 : q8 ≤ 1) (b4 : 0 ≤ r7) (b5 : r7 ≤ 7) (b6 : 0 ≤ r8) (b7 : r8 ≤ 1) :
    Calls Tryd.prog 15 #[.int .i64 reg, ov 1 r (-1) (-1) 0 0 false 0] w fun e w' => PutR w 1 (fun _ => bits .or .u8 (bits .or .u8 192 (q7 * 8)) r7) (bits .or .u8 (q8 * 4) r8) e w' := by
  have hr : rB 1 r (-1) (-1) 0 0 false 0 = true := by simp [rB, g0, g1]
  have HR : Hid (∀ W, Mk W → Calls Tryd.prog 18 #[ov 1 r (-1) (-1) 0 0 false 0] W fun e w' => e = .returned (.bool true) ∧ Below W.heap.size W w') := Lib.hid (fun W hW => by rw [← hr]; exact right_any 1 r (-1) (-1) 0 0 false 0 W hW)
  have HM := Lib.hid (hm.alloc (ob 1 r (-1) (-1) 0 0 false 0))
  have HS := Lib.hid (OS.new w 1 r (-1) (-1) 0 0 false 0)
  clear hr hm
  go_enter Tryd.func15, Tryd.ntmps15
  go_upto_region 1 with fail
  generalize World.alloc _ _ = W0 at *
  obtain ⟨c0, c1, c2, c3, c4, c5, c6, c7⟩ := HS.out.1.c
  go_wp2_with (go_at_call 18; (with_reducible refine (HR.out _ HM.out).mono ?_); rintro e w1 ⟨rfl, hb1⟩; have HK := Lib.hid (HS.out.keep hb1); clear hb1 c0 c1 c2 c3 c4 c5 c6 c7; obtain ⟨c0, c1, c2, c3, c4, c5, c6, c7⟩ := HK.out.1.c)
  have hlt := HK.out.1.lt
  go_region
  go_wp2
  go_returns
  exact ⟨_, rfl, SL.new w1 _, (HK.out.2.alloc HK.out.2.size _).drew⟩
set_option maxRecDepth 100000 in
set_option maxHeartbeats 4000000 in
theorem put_rip (reg d q7 q8 : Int) (w : World) (hm : Mk w) (hr : rB 2 0 (-1) (-1) 1 d true 0 = true) (h0 : 0 ≤ reg) (h1 : reg ≤ 15) (e7 : bits .and .i64 reg 7 = q7) (e8 : reg / 8 = q8) (b0 : 0 ≤ q7) (b1 : q7 ≤ 7) (b2 : 0 ≤ q8) (b3 : q8 ≤ 1) :
    Calls Tryd.prog 15 #[.int .i64 reg, ov 2 0 (-1) (-1) 1 d true 0] w fun e w' => PutR w (1 + 4) (catF 1 (fun _ => bits .or .u8 (q7 * 8) 5) (dF d)) (q8 * 4) e w' := by
  have HR : Hid (∀ W, Mk W → Calls Tryd.prog 18 #[ov 2 0 (-1) (-1) 1 d true 0] W fun e w' => e = .returned (.bool true) ∧ Below W.heap.size W w') := Lib.hid (fun W hW => (right_any 2 0 (-1) (-1) 1 d true 0 W hW).mono fun e w' h => by rw [hr] at h; exact h)
  have HM := Lib.hid (hm.alloc (ob 2 0 (-1) (-1) 1 d true 0))
  have HS := Lib.hid (OS.new w 2 0 (-1) (-1) 1 d true 0)
  clear hr hm
  go_enter Tryd.func15, Tryd.ntmps15
  go_upto_region 1 with fail
  generalize World.alloc _ _ = W0 at *
  obtain ⟨c0, c1, c2, c3, c4, c5, c6, c7⟩ := HS.out.1.c
  go_wp2_with (first | (go_at_call 18; (with_reducible refine (HR.out _ HM.out).mono ?_); rintro e w1 ⟨rfl, hb1⟩; have HK := Lib.hid (HS.out.keep hb1); have HM1 := Lib.hid (HM.out.below hb1); clear hb1 c0 c1 c2 c3 c4 c5 c6 c7; obtain ⟨c0, c1, c2, c3, c4, c5, c6, c7⟩ := HK.out.1.c))
  have HO : O8 w1 w.heap.size 2 0 (-1) (-1) 1 d true 0 := HK.out.1
  go_at_call 46
  (with_reducible refine (puts_one4 _ _  _ _ _ _ _ _ _ _ w1 HO).mono ?_)
  rintro e w2 ⟨v, rfl, hv, hb2⟩
  have HV := Lib.hid hv
  have HB2 := Lib.hid hb2
  clear hv hb2
  go_wp2
  go_returns
  exact ⟨v, rfl, HV.out, HK.out.2.trans (HB2.out.mono HK.out.2.size)⟩
set_option maxRecDepth 100000 in
set_option maxHeartbeats 4000000 in
theorem put_b (reg d q7 q8 b x7 x8 M s : Int) (w : World) (hm : Mk w) (hr : rB 2 0 b (-1) s d false 0 = true) (h0 : 0 ≤ reg) (h1 : reg ≤ 15) (e7 : bits .and .i64 reg 7 = q7) (e8 : reg / 8 = q8) (b0 : 0 ≤ q7) (b1 : q7 ≤ 7) (b2 : 0 ≤ q8) (b3 : q8 ≤ 1) (g0 : 0 ≤ b) (g1 : b ≤ 15) (d7 : bits .and .i64 b 7 = x7) (d8 : b / 8 = x8) (b4 : 0 ≤ x7) (b5 : x7 ≤ 7) (b6 : 0 ≤ x8) (b7 : x8 ≤ 1) (m0 : 0 ≤ M) (m1 : M ≤ 2) (x4 : (x7 == 4) = false) (x4b : (x7 != 4) = true) (wd : Nat) (hwd : wd = 0 ∨ wd = 1 ∨ wd = 4) (hSh : ∀ W, Mk W → Calls Tryd.prog 48 #[.int .i64 b, .int .i64 d] W fun e w' => e = .returned (.tuple #[.int .u8 M, .int .i64 wd]) ∧ W = w') :
    Calls Tryd.prog 15 #[.int .i64 reg, ov 2 0 b (-1) s d false 0] w fun e w' => PutR w (1 + wd) (catF 1 (fun _ => bits .or .u8 (bits .or .u8 (q7 * 8) (M * 64)) x7) (dF d)) (bits .or .u8 (q8 * 4) x8) e w' := by
  have HR : Hid (∀ W, Mk W → Calls Tryd.prog 18 #[ov 2 0 b (-1) s d false 0] W fun e w' => e = .returned (.bool true) ∧ Below W.heap.size W w') := Lib.hid (fun W hW => (right_any 2 0 b (-1) s d false 0 W hW).mono fun e w' h => by rw [hr] at h; exact h)
  have HM := Lib.hid (hm.alloc (ob 2 0 b (-1) s d false 0))
  have HS := Lib.hid (OS.new w 2 0 b (-1) s d false 0)
  have HSh := Lib.hid hSh
  have HWD := Lib.hid hwd
  clear hSh hwd
  have nb : (b == -1) = false := by simp; omega
  have nb2 : (b != -1) = true := by simp; omega
  clear hr hm
  go_enter Tryd.func15, Tryd.ntmps15
  go_upto_region 1 with fail
  generalize World.alloc _ _ = W0 at *
  obtain ⟨c0, c1, c2, c3, c4, c5, c6, c7⟩ := HS.out.1.c
  go_wp2_with (first | (go_at_call 18; (with_reducible refine (HR.out _ HM.out).mono ?_); rintro e w1 ⟨rfl, hb1⟩; have HK := Lib.hid (HS.out.keep hb1); have HM1 := Lib.hid (HM.out.below hb1); clear hb1 c0 c1 c2 c3 c4 c5 c6 c7; obtain ⟨c0, c1, c2, c3, c4, c5, c6, c7⟩ := HK.out.1.c) | (go_at_call 48; (with_reducible refine (HSh.out _ HM1.out).mono ?_); rintro e w2 ⟨rfl, rfl⟩))
  have HO : O8 w1 w.heap.size 2 0 b (-1) s d false 0 := HK.out.1
  go_at_call 46
  (with_reducible refine (puts_one _ _ wd HWD.out _ _ _ _ _ _ _ _ w1 HO).mono ?_)
  rintro e w2 ⟨v, rfl, hv, hb2⟩
  have HV := Lib.hid hv
  have HB2 := Lib.hid hb2
  clear hv hb2
  go_wp2
  go_returns
  exact ⟨v, rfl, HV.out, HK.out.2.trans (HB2.out.mono HK.out.2.size)⟩
set_option maxRecDepth 100000 in
set_option maxHeartbeats 4000000 in
theorem put_b4 (reg d q7 q8 b x7 x8 M s : Int) (w : World) (hm : Mk w) (hr : rB 2 0 b (-1) s d false 0 = true) (h0 : 0 ≤ reg) (h1 : reg ≤ 15) (e7 : bits .and .i64 reg 7 = q7) (e8 : reg / 8 = q8) (b0 : 0 ≤ q7) (b1 : q7 ≤ 7) (b2 : 0 ≤ q8) (b3 : q8 ≤ 1) (g0 : 0 ≤ b) (g1 : b ≤ 15) (d7 : bits .and .i64 b 7 = x7) (d8 : b / 8 = x8) (b4 : 0 ≤ x7) (b5 : x7 ≤ 7) (b6 : 0 ≤ x8) (b7 : x8 ≤ 1) (m0 : 0 ≤ M) (m1 : M ≤ 2) (x4 : (x7 == 4) = true) (x4b : (x7 != 4) = false) (wd : Nat) (hwd : wd = 0 ∨ wd = 1 ∨ wd = 4) (hSh : ∀ W, Mk W → Calls Tryd.prog 48 #[.int .i64 b, .int .i64 d] W fun e w' => e = .returned (.tuple #[.int .u8 M, .int .i64 wd]) ∧ W = w') :
    Calls Tryd.prog 15 #[.int .i64 reg, ov 2 0 b (-1) s d false 0] w fun e w' => PutR w (2 + wd) (catF 2 (twoF (bits .or .u8 (bits .or .u8 (q7 * 8) (M * 64)) 4) (bits .or .u8 (bits .or .u8 (scI s) 32) x7)) (dF d)) (bits .or .u8 (q8 * 4) x8) e w' := by
  have HR : Hid (∀ W, Mk W → Calls Tryd.prog 18 #[ov 2 0 b (-1) s d false 0] W fun e w' => e = .returned (.bool true) ∧ Below W.heap.size W w') := Lib.hid (fun W hW => (right_any 2 0 b (-1) s d false 0 W hW).mono fun e w' h => by rw [hr] at h; exact h)
  have HM := Lib.hid (hm.alloc (ob 2 0 b (-1) s d false 0))
  have HS := Lib.hid (OS.new w 2 0 b (-1) s d false 0)
  have HSh := Lib.hid hSh
  have HWD := Lib.hid hwd
  clear hSh hwd
  have nb : (b == -1) = false := by simp; omega
  have nb2 : (b != -1) = true := by simp; omega
  clear hr hm
  go_enter Tryd.func15, Tryd.ntmps15
  go_upto_region 1 with fail
  generalize World.alloc _ _ = W0 at *
  obtain ⟨c0, c1, c2, c3, c4, c5, c6, c7⟩ := HS.out.1.c
  go_wp2_with (first | (go_at_call 18; (with_reducible refine (HR.out _ HM.out).mono ?_); rintro e w1 ⟨rfl, hb1⟩; have HK := Lib.hid (HS.out.keep hb1); have HM1 := Lib.hid (HM.out.below hb1); clear hb1 c0 c1 c2 c3 c4 c5 c6 c7; obtain ⟨c0, c1, c2, c3, c4, c5, c6, c7⟩ := HK.out.1.c) | (go_at_call 48; (with_reducible refine (HSh.out _ HM1.out).mono ?_); rintro e w2 ⟨rfl, rfl⟩) | (go_at_call 49; (with_reducible refine (scale_any _ _).mono ?_); rintro e w2 ⟨rfl, rfl⟩))
  have HO : O8 w1 w.heap.size 2 0 b (-1) s d false 0 := HK.out.1
  go_at_call 46
  (with_reducible refine (puts_two _ _ _ wd HWD.out _ _ _ _ _ _ _ _ w1 HO).mono ?_)
  rintro e w2 ⟨v, rfl, hv, hb2⟩
  have HV := Lib.hid hv
  have HB2 := Lib.hid hb2
  clear hv hb2
  go_wp2
  go_returns
  exact ⟨v, rfl, HV.out, HK.out.2.trans (HB2.out.mono HK.out.2.size)⟩
set_option maxRecDepth 100000 in
set_option maxHeartbeats 4000000 in
theorem put_0 (reg d q7 q8 s : Int) (w : World) (hm : Mk w) (hr : rB 2 0 (-1) (-1) s d false 0 = true) (h0 : 0 ≤ reg) (h1 : reg ≤ 15) (e7 : bits .and .i64 reg 7 = q7) (e8 : reg / 8 = q8) (b0 : 0 ≤ q7) (b1 : q7 ≤ 7) (b2 : 0 ≤ q8) (b3 : q8 ≤ 1) :
    Calls Tryd.prog 15 #[.int .i64 reg, ov 2 0 (-1) (-1) s d false 0] w fun e w' => PutR w (2 + 4) (catF 2 (twoF (bits .or .u8 (bits .or .u8 (q7 * 8) 0) 4) (bits .or .u8 (bits .or .u8 (scI s) 32) 5)) (dF d)) (q8 * 4) e w' := by
  have HR : Hid (∀ W, Mk W → Calls Tryd.prog 18 #[ov 2 0 (-1) (-1) s d false 0] W fun e w' => e = .returned (.bool true) ∧ Below W.heap.size W w') := Lib.hid (fun W hW => (right_any 2 0 (-1) (-1) s d false 0 W hW).mono fun e w' h => by rw [hr] at h; exact h)
  have HM := Lib.hid (hm.alloc (ob 2 0 (-1) (-1) s d false 0))
  have HS := Lib.hid (OS.new w 2 0 (-1) (-1) s d false 0)
  clear hr hm
  go_enter Tryd.func15, Tryd.ntmps15
  go_upto_region 1 with fail
  generalize World.alloc _ _ = W0 at *
  obtain ⟨c0, c1, c2, c3, c4, c5, c6, c7⟩ := HS.out.1.c
  go_wp2_with (first | (go_at_call 18; (with_reducible refine (HR.out _ HM.out).mono ?_); rintro e w1 ⟨rfl, hb1⟩; have HK := Lib.hid (HS.out.keep hb1); have HM1 := Lib.hid (HM.out.below hb1); clear hb1 c0 c1 c2 c3 c4 c5 c6 c7; obtain ⟨c0, c1, c2, c3, c4, c5, c6, c7⟩ := HK.out.1.c) | (go_at_call 49; (with_reducible refine (scale_any _ _).mono ?_); rintro e w2 ⟨rfl, rfl⟩))
  have HO : O8 w1 w.heap.size 2 0 (-1) (-1) s d false 0 := HK.out.1
  go_at_call 46
  (with_reducible refine (puts_two4 _ _ _  _ _ _ _ _ _ _ _ w1 HO).mono ?_)
  rintro e w2 ⟨v, rfl, hv, hb2⟩
  have HV := Lib.hid hv
  have HB2 := Lib.hid hb2
  clear hv hb2
  go_wp2
  go_returns
  exact ⟨v, rfl, HV.out, HK.out.2.trans (HB2.out.mono HK.out.2.size)⟩
set_option maxRecDepth 100000 in
set_option maxHeartbeats 4000000 in
theorem put_i (reg d q7 q8 i y7 y8 s : Int) (w : World) (hm : Mk w) (hr : rB 2 0 (-1) i s d false 0 = true) (h0 : 0 ≤ reg) (h1 : reg ≤ 15) (e7 : bits .and .i64 reg 7 = q7) (e8 : reg / 8 = q8) (b0 : 0 ≤ q7) (b1 : q7 ≤ 7) (b2 : 0 ≤ q8) (b3 : q8 ≤ 1) (k0 : 0 ≤ i) (k1 : i ≤ 15) (f7 : bits .and .i64 i 7 = y7) (f8 : i / 8 = y8) (b8 : 0 ≤ y7) (b9 : y7 ≤ 7) (b10 : 0 ≤ y8) (b11 : y8 ≤ 1) :
    Calls Tryd.prog 15 #[.int .i64 reg, ov 2 0 (-1) i s d false 0] w fun e w' => PutR w (2 + 4) (catF 2 (twoF (bits .or .u8 (bits .or .u8 (q7 * 8) 0) 4) (bits .or .u8 (bits .or .u8 (scI s) (y7 * 8)) 5)) (dF d)) (bits .or .u8 (q8 * 4) (y8 * 2)) e w' := by
  have HR : Hid (∀ W, Mk W → Calls Tryd.prog 18 #[ov 2 0 (-1) i s d false 0] W fun e w' => e = .returned (.bool true) ∧ Below W.heap.size W w') := Lib.hid (fun W hW => (right_any 2 0 (-1) i s d false 0 W hW).mono fun e w' h => by rw [hr] at h; exact h)
  have HM := Lib.hid (hm.alloc (ob 2 0 (-1) i s d false 0))
  have HS := Lib.hid (OS.new w 2 0 (-1) i s d false 0)
  have ni : (i == -1) = false := by simp; omega
  have ni2 : (i != -1) = true := by simp; omega
  clear hr hm
  go_enter Tryd.func15, Tryd.ntmps15
  go_upto_region 1 with fail
  generalize World.alloc _ _ = W0 at *
  obtain ⟨c0, c1, c2, c3, c4, c5, c6, c7⟩ := HS.out.1.c
  go_wp2_with (first | (go_at_call 18; (with_reducible refine (HR.out _ HM.out).mono ?_); rintro e w1 ⟨rfl, hb1⟩; have HK := Lib.hid (HS.out.keep hb1); have HM1 := Lib.hid (HM.out.below hb1); clear hb1 c0 c1 c2 c3 c4 c5 c6 c7; obtain ⟨c0, c1, c2, c3, c4, c5, c6, c7⟩ := HK.out.1.c) | (go_at_call 49; (with_reducible refine (scale_any _ _).mono ?_); rintro e w2 ⟨rfl, rfl⟩))
  have HO : O8 w1 w.heap.size 2 0 (-1) i s d false 0 := HK.out.1
  go_at_call 46
  (with_reducible refine (puts_two4 _ _ _  _ _ _ _ _ _ _ _ w1 HO).mono ?_)
  rintro e w2 ⟨v, rfl, hv, hb2⟩
  have HV := Lib.hid hv
  have HB2 := Lib.hid hb2
  clear hv hb2
  go_wp2
  go_returns
  exact ⟨v, rfl, HV.out, HK.out.2.trans (HB2.out.mono HK.out.2.size)⟩
set_option maxRecDepth 100000 in
set_option maxHeartbeats 4000000 in
theorem put_bi (reg d q7 q8 b x7 x8 M i y7 y8 s : Int) (w : World) (hm : Mk w) (hr : rB 2 0 b i s d false 0 = true) (h0 : 0 ≤ reg) (h1 : reg ≤ 15) (e7 : bits .and .i64 reg 7 = q7) (e8 : reg / 8 = q8) (b0 : 0 ≤ q7) (b1 : q7 ≤ 7) (b2 : 0 ≤ q8) (b3 : q8 ≤ 1) (g0 : 0 ≤ b) (g1 : b ≤ 15) (d7 : bits .and .i64 b 7 = x7) (d8 : b / 8 = x8) (b4 : 0 ≤ x7) (b5 : x7 ≤ 7) (b6 : 0 ≤ x8) (b7 : x8 ≤ 1) (m0 : 0 ≤ M) (m1 : M ≤ 2) (k0 : 0 ≤ i) (k1 : i ≤ 15) (f7 : bits .and .i64 i 7 = y7) (f8 : i / 8 = y8) (b8 : 0 ≤ y7) (b9 : y7 ≤ 7) (b10 : 0 ≤ y8) (b11 : y8 ≤ 1) (wd : Nat) (hwd : wd = 0 ∨ wd = 1 ∨ wd = 4) (hSh : ∀ W, Mk W → Calls Tryd.prog 48 #[.int .i64 b, .int .i64 d] W fun e w' => e = .returned (.tuple #[.int .u8 M, .int .i64 wd]) ∧ W = w') :
    Calls Tryd.prog 15 #[.int .i64 reg, ov 2 0 b i s d false 0] w fun e w' => PutR w (2 + wd) (catF 2 (twoF (bits .or .u8 (bits .or .u8 (q7 * 8) (M * 64)) 4) (bits .or .u8 (bits .or .u8 (scI s) (y7 * 8)) x7)) (dF d)) (bits .or .u8 (bits .or .u8 (q8 * 4) x8) (y8 * 2)) e w' := by
  have HR : Hid (∀ W, Mk W → Calls Tryd.prog 18 #[ov 2 0 b i s d false 0] W fun e w' => e = .returned (.bool true) ∧ Below W.heap.size W w') := Lib.hid (fun W hW => (right_any 2 0 b i s d false 0 W hW).mono fun e w' h => by rw [hr] at h; exact h)
  have HM := Lib.hid (hm.alloc (ob 2 0 b i s d false 0))
  have HS := Lib.hid (OS.new w 2 0 b i s d false 0)
  have HSh := Lib.hid hSh
  have HWD := Lib.hid hwd
  clear hSh hwd
  have nb : (b == -1) = false := by simp; omega
  have nb2 : (b != -1) = true := by simp; omega
  have ni : (i == -1) = false := by simp; omega
  have ni2 : (i != -1) = true := by simp; omega
  clear hr hm
  go_enter Tryd.func15, Tryd.ntmps15
  go_upto_region 1 with fail
  generalize World.alloc _ _ = W0 at *
  obtain ⟨c0, c1, c2, c3, c4, c5, c6, c7⟩ := HS.out.1.c
  go_wp2_with (first | (go_at_call 18; (with_reducible refine (HR.out _ HM.out).mono ?_); rintro e w1 ⟨rfl, hb1⟩; have HK := Lib.hid (HS.out.keep hb1); have HM1 := Lib.hid (HM.out.below hb1); clear hb1 c0 c1 c2 c3 c4 c5 c6 c7; obtain ⟨c0, c1, c2, c3, c4, c5, c6, c7⟩ := HK.out.1.c) | (go_at_call 48; (with_reducible refine (HSh.out _ HM1.out).mono ?_); rintro e w2 ⟨rfl, rfl⟩) | (go_at_call 49; (with_reducible refine (scale_any _ _).mono ?_); rintro e w2 ⟨rfl, rfl⟩))
  have HO : O8 w1 w.heap.size 2 0 b i s d false 0 := HK.out.1
  go_at_call 46
  (with_reducible refine (puts_two _ _ _ wd HWD.out _ _ _ _ _ _ _ _ w1 HO).mono ?_)
  rintro e w2 ⟨v, rfl, hv, hb2⟩
  have HV := Lib.hid hv
  have HB2 := Lib.hid hb2
  clear hv hb2
  go_wp2
  go_returns
  exact ⟨v, rfl, HV.out, HK.out.2.trans (HB2.out.mono HK.out.2.size)⟩
end Go.Proofs.YtkpnafgmjcnniaaDoor
