/- The document's own Put. The document's own Put. The document's own Put. The document's own Put. The document's own Put. -/
import Derived.Test.YtkpnafgmjcnniaaDoorRq0
namespace Go.Proofs.YtkpnafgmjcnniaaDoor
open Go.RowKit
set_option linter.unusedVariables false
set_option linter.unusedSimpArgs false
set_option maxRecDepth 100000 in
set_option maxHeartbeats 4000000 in
theorem rput_rip (reg d q7 q8 : Int) (w : World) (hr : rrB 2 0 (-1) (-1) 1 d true 0 = true) (h0 : 0 ≤ reg) (h1 : reg ≤ 15) (e7 : bits .and .i64 reg 7 = q7) (e8 : reg / 8 = q8) (b0 : 0 ≤ q7) (b1 : q7 ≤ 7) (b2 : 0 ≤ q8) (b3 : q8 ≤ 1) :
    Calls Tryd.prog 16 #[.int .i64 reg, ov 2 0 (-1) (-1) 1 d true 0] w fun e w' => PutR w (1 + 4) (catF 1 (fun _ => bits .or .u8 (q7 * 8) 5) (dF d)) (q8 * 4) e w' := by
  have HR : Hid (∀ W, Calls Tryd.prog 19 #[ov 2 0 (-1) (-1) 1 d true 0] W fun e w' => e = .returned (.bool true) ∧ Below W.heap.size W w') := Lib.hid (fun W => (rright_any 2 0 (-1) (-1) 1 d true 0 W).mono fun e w' h => by rw [hr] at h; exact h)
  have HS := Lib.hid (OS.new w 2 0 (-1) (-1) 1 d true 0)
  clear hr
  go_enter Tryd.func16, Tryd.ntmps16
  go_upto_region 1 with fail
  generalize World.alloc _ _ = W0 at *
  obtain ⟨c0, c1, c2, c3, c4, c5, c6, c7⟩ := HS.out.1.c
  go_upto_region 8 with (first | (go_at_call 19; (with_reducible refine (HR.out _).mono ?_); rintro e w1 ⟨rfl, hb1⟩; have HK := Lib.hid (HS.out.keep hb1); clear hb1 c0 c1 c2 c3 c4 c5 c6 c7; obtain ⟨c0, c1, c2, c3, c4, c5, c6, c7⟩ := HK.out.1.c))
  have hlt := HK.out.1.lt
  obtain ⟨ii, i1, i2, i3, i4⟩ := info5a
  have HI := Lib.hid (And.intro i1 (And.intro i2 (And.intro i3 i4)))
  clear i1 i2 i3 i4
  go_wp2_with (first | (go_at_call 50; refine (shown_s d 4 (by decide) (by decide) _).mono ?_; rintro e w2 ⟨g2, cap2, rfl, hc2, hb2⟩; have HC2 := Lib.hid hc2; have HB2 := Lib.hid hb2; clear hc2 hb2; have HL := Lib.hid (head_lies (f := (fun _ => (bits .or .u8 (q7 * 8) 5))) (n := 1) rfl HB2.out); have HR2 := Lib.hid (tail_lies HC2.out)) | (at_builtin; refine wpList_append_grows w2 rfl _ _ 24 rfl 5 ii (.int .u8 0) 1 1 Tryd.underlying24 HI.out.1 HI.out.2.1 HI.out.2.2.1 HI.out.2.2.2 rfl (by decide) (some ⟨w1.heap.size, 0, none⟩) 1 1 (byL (fun _ => (bits .or .u8 (q7 * 8) 5)) 1) rfl (fun h => by cases h) (by simp [byL]) HL.out ⟨g2, 0, none⟩ 4 cap2 (byL (dF d) 4) rfl (by simp [byL]) HR2.out (byL_one _ _) (by omega) (by unfold maxLen; omega) (by omega) ?_))
  intro v' w' hown hgr
  have HE := Lib.hid (put_end (d := d) (by omega) HK.out.2 HB2.out hown hgr)
  clear hown hgr HL HR2 HI HC2
  obtain ⟨g3, cap3, hv, _, _⟩ := HE.out.1
  subst hv
  go_wp2_with fail
  go_returns
  exact ⟨_, rfl, HE.out.1, HE.out.2⟩
set_option maxRecDepth 100000 in
set_option maxHeartbeats 4000000 in
theorem rput_0 (reg d q7 q8 s : Int) (w : World) (hr : rrB 2 0 (-1) (-1) s d false 0 = true) (h0 : 0 ≤ reg) (h1 : reg ≤ 15) (e7 : bits .and .i64 reg 7 = q7) (e8 : reg / 8 = q8) (b0 : 0 ≤ q7) (b1 : q7 ≤ 7) (b2 : 0 ≤ q8) (b3 : q8 ≤ 1) :
    Calls Tryd.prog 16 #[.int .i64 reg, ov 2 0 (-1) (-1) s d false 0] w fun e w' => PutR w (2 + 4) (catF 2 (twoF (bits .or .u8 (bits .or .u8 0 (q7 * 8)) 4) (bits .or .u8 (bits .or .u8 0 32) 5)) (dF d)) (q8 * 4) e w' := by
  have HR : Hid (∀ W, Calls Tryd.prog 19 #[ov 2 0 (-1) (-1) s d false 0] W fun e w' => e = .returned (.bool true) ∧ Below W.heap.size W w') := Lib.hid (fun W => (rright_any 2 0 (-1) (-1) s d false 0 W).mono fun e w' h => by rw [hr] at h; exact h)
  have HS := Lib.hid (OS.new w 2 0 (-1) (-1) s d false 0)
  clear hr
  go_enter Tryd.func16, Tryd.ntmps16
  go_upto_region 1 with fail
  generalize World.alloc _ _ = W0 at *
  obtain ⟨c0, c1, c2, c3, c4, c5, c6, c7⟩ := HS.out.1.c
  go_upto_region 27 with (first | (go_at_call 19; (with_reducible refine (HR.out _).mono ?_); rintro e w1 ⟨rfl, hb1⟩; have HK := Lib.hid (HS.out.keep hb1); clear hb1 c0 c1 c2 c3 c4 c5 c6 c7; obtain ⟨c0, c1, c2, c3, c4, c5, c6, c7⟩ := HK.out.1.c))
  have hlt := HK.out.1.lt
  obtain ⟨ii, i1, i2, i3, i4⟩ := info5a
  have HI := Lib.hid (And.intro i1 (And.intro i2 (And.intro i3 i4)))
  clear i1 i2 i3 i4
  go_wp2_with (first | (go_at_call 50; refine (shown_s d 4 (by decide) (by decide) _).mono ?_; rintro e w2 ⟨g2, cap2, rfl, hc2, hb2⟩; have HC2 := Lib.hid hc2; have HB2 := Lib.hid hb2; clear hc2 hb2; have HL := Lib.hid (head_lies (f := (twoF (bits .or .u8 (bits .or .u8 0 (q7 * 8)) 4) (bits .or .u8 (bits .or .u8 0 32) 5))) (n := 2) rfl HB2.out); have HR2 := Lib.hid (tail_lies HC2.out)) | (at_builtin; refine wpList_append_grows w2 rfl _ _ 24 rfl 5 ii (.int .u8 0) 1 1 Tryd.underlying24 HI.out.1 HI.out.2.1 HI.out.2.2.1 HI.out.2.2.2 rfl (by decide) (some ⟨w1.heap.size, 0, none⟩) 2 2 (byL (twoF (bits .or .u8 (bits .or .u8 0 (q7 * 8)) 4) (bits .or .u8 (bits .or .u8 0 32) 5)) 2) rfl (fun h => by cases h) (by simp [byL]) HL.out ⟨g2, 0, none⟩ 4 cap2 (byL (dF d) 4) rfl (by simp [byL]) HR2.out (byL_one _ _) (by omega) (by unfold maxLen; omega) (by omega) ?_))
  intro v' w' hown hgr
  have HE := Lib.hid (put_end (d := d) (by omega) HK.out.2 HB2.out hown hgr)
  clear hown hgr HL HR2 HI HC2
  obtain ⟨g3, cap3, hv, _, _⟩ := HE.out.1
  subst hv
  go_wp2_with fail
  go_returns
  exact ⟨_, rfl, HE.out.1, HE.out.2⟩
set_option maxRecDepth 100000 in
set_option maxHeartbeats 4000000 in
theorem rput_i (reg d q7 q8 i y7 y8 s : Int) (w : World) (hr : rrB 2 0 (-1) i s d false 0 = true) (h0 : 0 ≤ reg) (h1 : reg ≤ 15) (e7 : bits .and .i64 reg 7 = q7) (e8 : reg / 8 = q8) (b0 : 0 ≤ q7) (b1 : q7 ≤ 7) (b2 : 0 ≤ q8) (b3 : q8 ≤ 1) (T : Nat) (t3 : T ≤ 3) (hT : (∀ k : Nat, k < T → wrap64 (2 ^ k) < s) ∧ s ≤ wrap64 (2 ^ T)) (k0 : 0 ≤ i) (k1 : i ≤ 15) (f7 : bits .and .i64 i 7 = y7) (f8 : i / 8 = y8) (b8 : 0 ≤ y7) (b9 : y7 ≤ 7) (b10 : 0 ≤ y8) (b11 : y8 ≤ 1) :
    Calls Tryd.prog 16 #[.int .i64 reg, ov 2 0 (-1) i s d false 0] w fun e w' => PutR w (2 + 4) (catF 2 (twoF (bits .or .u8 (bits .or .u8 0 (q7 * 8)) 4) (bits .or .u8 (bits .or .u8 (T * 64) (y7 * 8)) 5)) (dF d)) (bits .or .u8 (q8 * 4) (y8 * 2)) e w' := by
  have HT := Lib.hid hT
  clear hT
  have HR : Hid (∀ W, Calls Tryd.prog 19 #[ov 2 0 (-1) i s d false 0] W fun e w' => e = .returned (.bool true) ∧ Below W.heap.size W w') := Lib.hid (fun W => (rright_any 2 0 (-1) i s d false 0 W).mono fun e w' h => by rw [hr] at h; exact h)
  have HS := Lib.hid (OS.new w 2 0 (-1) i s d false 0)
  clear hr
  go_enter Tryd.func16, Tryd.ntmps16
  go_upto_region 1 with fail
  generalize World.alloc _ _ = W0 at *
  obtain ⟨c0, c1, c2, c3, c4, c5, c6, c7⟩ := HS.out.1.c
  go_wp2_with (first | (go_at_call 19; (with_reducible refine (HR.out _).mono ?_); rintro e w1 ⟨rfl, hb1⟩; have HK := Lib.hid (HS.out.keep hb1); clear hb1 c0 c1 c2 c3 c4 c5 c6 c7; obtain ⟨c0, c1, c2, c3, c4, c5, c6, c7⟩ := HK.out.1.c))
  go_loop [13] (fun v => ∃ k : Nat, k ≤ T ∧ v = .int .u8 k) (fun v => T - (intOf v).toNat)
  case atStart => exact ⟨0, Nat.zero_le _, rfl⟩
  obtain ⟨k, hk, rfl⟩ := hrel
  by_cases hkt : k < T
  · have hx := HT.out.1 k hkt
    go_wp2
    go_round
    case rel => exact ⟨k + 1, by omega, by go_num⟩
    case measure => simp [intOf]; omega
  obtain rfl : T = k := by omega
  have hx : decide (wrap64 (2 ^ T) < s) = false := decide_eq_false (Int.not_lt.2 HT.out.2)
  go_upto_region 27 with fail
  have hlt := HK.out.1.lt
  obtain ⟨ii, i1, i2, i3, i4⟩ := info5a
  have HI := Lib.hid (And.intro i1 (And.intro i2 (And.intro i3 i4)))
  clear i1 i2 i3 i4
  go_wp2_with (first | (go_at_call 50; refine (shown_s d 4 (by decide) (by decide) _).mono ?_; rintro e w2 ⟨g2, cap2, rfl, hc2, hb2⟩; have HC2 := Lib.hid hc2; have HB2 := Lib.hid hb2; clear hc2 hb2; have HL := Lib.hid (head_lies (f := (twoF (bits .or .u8 (bits .or .u8 0 (q7 * 8)) 4) (bits .or .u8 (bits .or .u8 (T * 64) (y7 * 8)) 5))) (n := 2) rfl HB2.out); have HR2 := Lib.hid (tail_lies HC2.out)) | (at_builtin; refine wpList_append_grows w2 rfl _ _ 24 rfl 5 ii (.int .u8 0) 1 1 Tryd.underlying24 HI.out.1 HI.out.2.1 HI.out.2.2.1 HI.out.2.2.2 rfl (by decide) (some ⟨w1.heap.size, 0, none⟩) 2 2 (byL (twoF (bits .or .u8 (bits .or .u8 0 (q7 * 8)) 4) (bits .or .u8 (bits .or .u8 (T * 64) (y7 * 8)) 5)) 2) rfl (fun h => by cases h) (by simp [byL]) HL.out ⟨g2, 0, none⟩ 4 cap2 (byL (dF d) 4) rfl (by simp [byL]) HR2.out (byL_one _ _) (by omega) (by unfold maxLen; omega) (by omega) ?_))
  intro v' w' hown hgr
  have HE := Lib.hid (put_end (d := d) (by omega) HK.out.2 HB2.out hown hgr)
  clear hown hgr HL HR2 HI HC2
  obtain ⟨g3, cap3, hv, _, _⟩ := HE.out.1
  subst hv
  go_wp2_with fail
  go_returns
  exact ⟨_, rfl, HE.out.1, HE.out.2⟩
open Go.RowKit
set_option linter.unusedVariables false
set_option linter.unusedSimpArgs false
set_option maxRecDepth 100000 in
set_option maxHeartbeats 4000000 in
theorem rput_b_z (reg d q7 q8 b x7 x8 s : Int) (w : World) (hr : rrB 2 0 b (-1) s d false 0 = true) (h0 : 0 ≤ reg) (h1 : reg ≤ 15) (e7 : bits .and .i64 reg 7 = q7) (e8 : reg / 8 = q8) (b0 : 0 ≤ q7) (b1 : q7 ≤ 7) (b2 : 0 ≤ q8) (b3 : q8 ≤ 1) (g0 : 0 ≤ b) (g1 : b ≤ 15) (d7 : bits .and .i64 b 7 = x7) (d8 : b / 8 = x8) (b4 : 0 ≤ x7) (b5 : x7 ≤ 7) (b6 : 0 ≤ x8) (b7 : x8 ≤ 1) (x4 : (x7 == 4) = false) (x4b : (x7 != 4) = true) (z0 : d = 0) (z5 : (x7 == 5) = false) (z5b : (x7 != 5) = true) :
    Calls Tryd.prog 16 #[.int .i64 reg, ov 2 0 b (-1) s d false 0] w fun e w' => PutR w (1 + 0) (catF 1 (fun _ => bits .or .u8 (bits .or .u8 0 (q7 * 8)) x7) (dF d)) (bits .or .u8 (q8 * 4) x8) e w' := by
  subst z0
  have HR : Hid (∀ W, Calls Tryd.prog 19 #[ov 2 0 b (-1) s 0 false 0] W fun e w' => e = .returned (.bool true) ∧ Below W.heap.size W w') := Lib.hid (fun W => (rright_any 2 0 b (-1) s 0 false 0 W).mono fun e w' h => by rw [hr] at h; exact h)
  have HS := Lib.hid (OS.new w 2 0 b (-1) s 0 false 0)
  clear hr
  go_enter Tryd.func16, Tryd.ntmps16
  go_upto_region 1 with fail
  generalize World.alloc _ _ = W0 at *
  obtain ⟨c0, c1, c2, c3, c4, c5, c6, c7⟩ := HS.out.1.c
  go_upto_region 26 with (first | (go_at_call 19; (with_reducible refine (HR.out _).mono ?_); rintro e w1 ⟨rfl, hb1⟩; have HK := Lib.hid (HS.out.keep hb1); clear hb1 c0 c1 c2 c3 c4 c5 c6 c7; obtain ⟨c0, c1, c2, c3, c4, c5, c6, c7⟩ := HK.out.1.c))
  have hlt := HK.out.1.lt
  have HE := Lib.hid (put_end0 (cs := #[.int .u8 (bits .or .u8 (bits .or .u8 0 (q7 * 8)) x7)]) (f := (fun _ => (bits .or .u8 (bits .or .u8 0 (q7 * 8)) x7))) (n := 1) (d := 0) rfl HK.out.2)
  go_wp2_with (go_at_call 50; refine (shown_0 0 _).mono ?_; rintro e w2 ⟨rfl, rfl⟩)
  all_goals
    go_returns
    exact ⟨_, rfl, HE.out.1, HE.out.2⟩
set_option maxRecDepth 100000 in
set_option maxHeartbeats 4000000 in
theorem rput_b_y (reg d q7 q8 b x7 x8 s : Int) (w : World) (hr : rrB 2 0 b (-1) s d false 0 = true) (h0 : 0 ≤ reg) (h1 : reg ≤ 15) (e7 : bits .and .i64 reg 7 = q7) (e8 : reg / 8 = q8) (b0 : 0 ≤ q7) (b1 : q7 ≤ 7) (b2 : 0 ≤ q8) (b3 : q8 ≤ 1) (g0 : 0 ≤ b) (g1 : b ≤ 15) (d7 : bits .and .i64 b 7 = x7) (d8 : b / 8 = x8) (b4 : 0 ≤ x7) (b5 : x7 ≤ 7) (b6 : 0 ≤ x8) (b7 : x8 ≤ 1) (x4 : (x7 == 4) = false) (x4b : (x7 != 4) = true) (z0 : d = 0) (z5 : (x7 == 5) = true) (z5b : (x7 != 5) = false) :
    Calls Tryd.prog 16 #[.int .i64 reg, ov 2 0 b (-1) s d false 0] w fun e w' => PutR w (1 + 1) (catF 1 (fun _ => bits .or .u8 (bits .or .u8 64 (q7 * 8)) x7) (dF d)) (bits .or .u8 (q8 * 4) x8) e w' := by
  subst z0
  have HR : Hid (∀ W, Calls Tryd.prog 19 #[ov 2 0 b (-1) s 0 false 0] W fun e w' => e = .returned (.bool true) ∧ Below W.heap.size W w') := Lib.hid (fun W => (rright_any 2 0 b (-1) s 0 false 0 W).mono fun e w' h => by rw [hr] at h; exact h)
  have HS := Lib.hid (OS.new w 2 0 b (-1) s 0 false 0)
  clear hr
  go_enter Tryd.func16, Tryd.ntmps16
  go_upto_region 1 with fail
  generalize World.alloc _ _ = W0 at *
  obtain ⟨c0, c1, c2, c3, c4, c5, c6, c7⟩ := HS.out.1.c
  go_upto_region 26 with (first | (go_at_call 19; (with_reducible refine (HR.out _).mono ?_); rintro e w1 ⟨rfl, hb1⟩; have HK := Lib.hid (HS.out.keep hb1); clear hb1 c0 c1 c2 c3 c4 c5 c6 c7; obtain ⟨c0, c1, c2, c3, c4, c5, c6, c7⟩ := HK.out.1.c))
  have hlt := HK.out.1.lt
  obtain ⟨ii, i1, i2, i3, i4⟩ := info5a
  have HI := Lib.hid (And.intro i1 (And.intro i2 (And.intro i3 i4)))
  clear i1 i2 i3 i4
  go_wp2_with (first | (go_at_call 50; refine (shown_s 0 1 (by decide) (by decide) _).mono ?_; rintro e w2 ⟨g2, cap2, rfl, hc2, hb2⟩; have HC2 := Lib.hid hc2; have HB2 := Lib.hid hb2; clear hc2 hb2; have HL := Lib.hid (head_lies (f := (fun _ => (bits .or .u8 (bits .or .u8 64 (q7 * 8)) x7))) (n := 1) rfl HB2.out); have HR2 := Lib.hid (tail_lies HC2.out)) | (at_builtin; refine wpList_append_grows w2 rfl _ _ 24 rfl 5 ii (.int .u8 0) 1 1 Tryd.underlying24 HI.out.1 HI.out.2.1 HI.out.2.2.1 HI.out.2.2.2 rfl (by decide) (some ⟨w1.heap.size, 0, none⟩) 1 1 (byL (fun _ => (bits .or .u8 (bits .or .u8 64 (q7 * 8)) x7)) 1) rfl (fun h => by cases h) (by simp [byL]) HL.out ⟨g2, 0, none⟩ 1 cap2 (byL (dF 0) 1) rfl (by simp [byL]) HR2.out (byL_one _ _) (by omega) (by unfold maxLen; omega) (by omega) ?_))
  intro v' w' hown hgr
  have HE := Lib.hid (put_end (d := 0) (by omega) HK.out.2 HB2.out hown hgr)
  clear hown hgr HL HR2 HI HC2
  obtain ⟨g3, cap3, hv, _, _⟩ := HE.out.1
  subst hv
  go_wp2_with fail
  go_returns
  exact ⟨_, rfl, HE.out.1, HE.out.2⟩
set_option maxRecDepth 100000 in
set_option maxHeartbeats 4000000 in
theorem rput_b_s (reg d q7 q8 b x7 x8 s : Int) (w : World) (hr : rrB 2 0 b (-1) s d false 0 = true) (h0 : 0 ≤ reg) (h1 : reg ≤ 15) (e7 : bits .and .i64 reg 7 = q7) (e8 : reg / 8 = q8) (b0 : 0 ≤ q7) (b1 : q7 ≤ 7) (b2 : 0 ≤ q8) (b3 : q8 ≤ 1) (g0 : 0 ≤ b) (g1 : b ≤ 15) (d7 : bits .and .i64 b 7 = x7) (d8 : b / 8 = x8) (b4 : 0 ≤ x7) (b5 : x7 ≤ 7) (b6 : 0 ≤ x8) (b7 : x8 ≤ 1) (x4 : (x7 == 4) = false) (x4b : (x7 != 4) = true) (z0 : d ≠ 0) (z1 : -128 ≤ d) (z2 : d < 128) :
    Calls Tryd.prog 16 #[.int .i64 reg, ov 2 0 b (-1) s d false 0] w fun e w' => PutR w (1 + 1) (catF 1 (fun _ => bits .or .u8 (bits .or .u8 64 (q7 * 8)) x7) (dF d)) (bits .or .u8 (q8 * 4) x8) e w' := by
  have zb : (d == 0) = false := by simpa using z0
  clear z0
  have HR : Hid (∀ W, Calls Tryd.prog 19 #[ov 2 0 b (-1) s d false 0] W fun e w' => e = .returned (.bool true) ∧ Below W.heap.size W w') := Lib.hid (fun W => (rright_any 2 0 b (-1) s d false 0 W).mono fun e w' h => by rw [hr] at h; exact h)
  have HS := Lib.hid (OS.new w 2 0 b (-1) s d false 0)
  clear hr
  go_enter Tryd.func16, Tryd.ntmps16
  go_upto_region 1 with fail
  generalize World.alloc _ _ = W0 at *
  obtain ⟨c0, c1, c2, c3, c4, c5, c6, c7⟩ := HS.out.1.c
  go_upto_region 26 with (first | (go_at_call 19; (with_reducible refine (HR.out _).mono ?_); rintro e w1 ⟨rfl, hb1⟩; have HK := Lib.hid (HS.out.keep hb1); clear hb1 c0 c1 c2 c3 c4 c5 c6 c7; obtain ⟨c0, c1, c2, c3, c4, c5, c6, c7⟩ := HK.out.1.c))
  have hlt := HK.out.1.lt
  obtain ⟨ii, i1, i2, i3, i4⟩ := info5a
  have HI := Lib.hid (And.intro i1 (And.intro i2 (And.intro i3 i4)))
  clear i1 i2 i3 i4
  go_wp2_with (first | (go_at_call 50; refine (shown_s d 1 (by decide) (by decide) _).mono ?_; rintro e w2 ⟨g2, cap2, rfl, hc2, hb2⟩; have HC2 := Lib.hid hc2; have HB2 := Lib.hid hb2; clear hc2 hb2; have HL := Lib.hid (head_lies (f := (fun _ => (bits .or .u8 (bits .or .u8 64 (q7 * 8)) x7))) (n := 1) rfl HB2.out); have HR2 := Lib.hid (tail_lies HC2.out)) | (at_builtin; refine wpList_append_grows w2 rfl _ _ 24 rfl 5 ii (.int .u8 0) 1 1 Tryd.underlying24 HI.out.1 HI.out.2.1 HI.out.2.2.1 HI.out.2.2.2 rfl (by decide) (some ⟨w1.heap.size, 0, none⟩) 1 1 (byL (fun _ => (bits .or .u8 (bits .or .u8 64 (q7 * 8)) x7)) 1) rfl (fun h => by cases h) (by simp [byL]) HL.out ⟨g2, 0, none⟩ 1 cap2 (byL (dF d) 1) rfl (by simp [byL]) HR2.out (byL_one _ _) (by omega) (by unfold maxLen; omega) (by omega) ?_))
  intro v' w' hown hgr
  have HE := Lib.hid (put_end (d := d) (by omega) HK.out.2 HB2.out hown hgr)
  clear hown hgr HL HR2 HI HC2
  obtain ⟨g3, cap3, hv, _, _⟩ := HE.out.1
  subst hv
  go_wp2_with fail
  go_returns
  exact ⟨_, rfl, HE.out.1, HE.out.2⟩
set_option maxRecDepth 100000 in
set_option maxHeartbeats 4000000 in
theorem rput_b_l (reg d q7 q8 b x7 x8 s : Int) (w : World) (hr : rrB 2 0 b (-1) s d false 0 = true) (h0 : 0 ≤ reg) (h1 : reg ≤ 15) (e7 : bits .and .i64 reg 7 = q7) (e8 : reg / 8 = q8) (b0 : 0 ≤ q7) (b1 : q7 ≤ 7) (b2 : 0 ≤ q8) (b3 : q8 ≤ 1) (g0 : 0 ≤ b) (g1 : b ≤ 15) (d7 : bits .and .i64 b 7 = x7) (d8 : b / 8 = x8) (b4 : 0 ≤ x7) (b5 : x7 ≤ 7) (b6 : 0 ≤ x8) (b7 : x8 ≤ 1) (x4 : (x7 == 4) = false) (x4b : (x7 != 4) = true) (z0 : d < -128) :
    Calls Tryd.prog 16 #[.int .i64 reg, ov 2 0 b (-1) s d false 0] w fun e w' => PutR w (1 + 4) (catF 1 (fun _ => bits .or .u8 (128 + q7 * 8) x7) (dF d)) (bits .or .u8 (q8 * 4) x8) e w' := by
  have zb : (d == 0) = false := by simp; omega
  have zc : decide (-128 ≤ d) = false := by simp; omega
  clear z0
  have HR : Hid (∀ W, Calls Tryd.prog 19 #[ov 2 0 b (-1) s d false 0] W fun e w' => e = .returned (.bool true) ∧ Below W.heap.size W w') := Lib.hid (fun W => (rright_any 2 0 b (-1) s d false 0 W).mono fun e w' h => by rw [hr] at h; exact h)
  have HS := Lib.hid (OS.new w 2 0 b (-1) s d false 0)
  clear hr
  go_enter Tryd.func16, Tryd.ntmps16
  go_upto_region 1 with fail
  generalize World.alloc _ _ = W0 at *
  obtain ⟨c0, c1, c2, c3, c4, c5, c6, c7⟩ := HS.out.1.c
  go_upto_region 26 with (first | (go_at_call 19; (with_reducible refine (HR.out _).mono ?_); rintro e w1 ⟨rfl, hb1⟩; have HK := Lib.hid (HS.out.keep hb1); clear hb1 c0 c1 c2 c3 c4 c5 c6 c7; obtain ⟨c0, c1, c2, c3, c4, c5, c6, c7⟩ := HK.out.1.c))
  have hlt := HK.out.1.lt
  obtain ⟨ii, i1, i2, i3, i4⟩ := info5a
  have HI := Lib.hid (And.intro i1 (And.intro i2 (And.intro i3 i4)))
  clear i1 i2 i3 i4
  go_wp2_with (first | (go_at_call 50; refine (shown_s d 4 (by decide) (by decide) _).mono ?_; rintro e w2 ⟨g2, cap2, rfl, hc2, hb2⟩; have HC2 := Lib.hid hc2; have HB2 := Lib.hid hb2; clear hc2 hb2; have HL := Lib.hid (head_lies (f := (fun _ => (bits .or .u8 (128 + q7 * 8) x7))) (n := 1) rfl HB2.out); have HR2 := Lib.hid (tail_lies HC2.out)) | (at_builtin; refine wpList_append_grows w2 rfl _ _ 24 rfl 5 ii (.int .u8 0) 1 1 Tryd.underlying24 HI.out.1 HI.out.2.1 HI.out.2.2.1 HI.out.2.2.2 rfl (by decide) (some ⟨w1.heap.size, 0, none⟩) 1 1 (byL (fun _ => (bits .or .u8 (128 + q7 * 8) x7)) 1) rfl (fun h => by cases h) (by simp [byL]) HL.out ⟨g2, 0, none⟩ 4 cap2 (byL (dF d) 4) rfl (by simp [byL]) HR2.out (byL_one _ _) (by omega) (by unfold maxLen; omega) (by omega) ?_))
  intro v' w' hown hgr
  have HE := Lib.hid (put_end (d := d) (by omega) HK.out.2 HB2.out hown hgr)
  clear hown hgr HL HR2 HI HC2
  obtain ⟨g3, cap3, hv, _, _⟩ := HE.out.1
  subst hv
  go_wp2_with fail
  go_returns
  exact ⟨_, rfl, HE.out.1, HE.out.2⟩
set_option maxRecDepth 100000 in
set_option maxHeartbeats 4000000 in
theorem rput_b_g (reg d q7 q8 b x7 x8 s : Int) (w : World) (hr : rrB 2 0 b (-1) s d false 0 = true) (h0 : 0 ≤ reg) (h1 : reg ≤ 15) (e7 : bits .and .i64 reg 7 = q7) (e8 : reg / 8 = q8) (b0 : 0 ≤ q7) (b1 : q7 ≤ 7) (b2 : 0 ≤ q8) (b3 : q8 ≤ 1) (g0 : 0 ≤ b) (g1 : b ≤ 15) (d7 : bits .and .i64 b 7 = x7) (d8 : b / 8 = x8) (b4 : 0 ≤ x7) (b5 : x7 ≤ 7) (b6 : 0 ≤ x8) (b7 : x8 ≤ 1) (x4 : (x7 == 4) = false) (x4b : (x7 != 4) = true) (z0 : 128 ≤ d) :
    Calls Tryd.prog 16 #[.int .i64 reg, ov 2 0 b (-1) s d false 0] w fun e w' => PutR w (1 + 4) (catF 1 (fun _ => bits .or .u8 (128 + q7 * 8) x7) (dF d)) (bits .or .u8 (q8 * 4) x8) e w' := by
  have zb : (d == 0) = false := by simp; omega
  have zc : decide (-128 ≤ d) = true := by simp; omega
  have zd : decide (d < 128) = false := by simp; omega
  clear z0
  have HR : Hid (∀ W, Calls Tryd.prog 19 #[ov 2 0 b (-1) s d false 0] W fun e w' => e = .returned (.bool true) ∧ Below W.heap.size W w') := Lib.hid (fun W => (rright_any 2 0 b (-1) s d false 0 W).mono fun e w' h => by rw [hr] at h; exact h)
  have HS := Lib.hid (OS.new w 2 0 b (-1) s d false 0)
  clear hr
  go_enter Tryd.func16, Tryd.ntmps16
  go_upto_region 1 with fail
  generalize World.alloc _ _ = W0 at *
  obtain ⟨c0, c1, c2, c3, c4, c5, c6, c7⟩ := HS.out.1.c
  go_upto_region 26 with (first | (go_at_call 19; (with_reducible refine (HR.out _).mono ?_); rintro e w1 ⟨rfl, hb1⟩; have HK := Lib.hid (HS.out.keep hb1); clear hb1 c0 c1 c2 c3 c4 c5 c6 c7; obtain ⟨c0, c1, c2, c3, c4, c5, c6, c7⟩ := HK.out.1.c))
  have hlt := HK.out.1.lt
  obtain ⟨ii, i1, i2, i3, i4⟩ := info5a
  have HI := Lib.hid (And.intro i1 (And.intro i2 (And.intro i3 i4)))
  clear i1 i2 i3 i4
  go_wp2_with (first | (go_at_call 50; refine (shown_s d 4 (by decide) (by decide) _).mono ?_; rintro e w2 ⟨g2, cap2, rfl, hc2, hb2⟩; have HC2 := Lib.hid hc2; have HB2 := Lib.hid hb2; clear hc2 hb2; have HL := Lib.hid (head_lies (f := (fun _ => (bits .or .u8 (128 + q7 * 8) x7))) (n := 1) rfl HB2.out); have HR2 := Lib.hid (tail_lies HC2.out)) | (at_builtin; refine wpList_append_grows w2 rfl _ _ 24 rfl 5 ii (.int .u8 0) 1 1 Tryd.underlying24 HI.out.1 HI.out.2.1 HI.out.2.2.1 HI.out.2.2.2 rfl (by decide) (some ⟨w1.heap.size, 0, none⟩) 1 1 (byL (fun _ => (bits .or .u8 (128 + q7 * 8) x7)) 1) rfl (fun h => by cases h) (by simp [byL]) HL.out ⟨g2, 0, none⟩ 4 cap2 (byL (dF d) 4) rfl (by simp [byL]) HR2.out (byL_one _ _) (by omega) (by unfold maxLen; omega) (by omega) ?_))
  intro v' w' hown hgr
  have HE := Lib.hid (put_end (d := d) (by omega) HK.out.2 HB2.out hown hgr)
  clear hown hgr HL HR2 HI HC2
  obtain ⟨g3, cap3, hv, _, _⟩ := HE.out.1
  subst hv
  go_wp2_with fail
  go_returns
  exact ⟨_, rfl, HE.out.1, HE.out.2⟩
open Go.RowKit
set_option linter.unusedVariables false
set_option linter.unusedSimpArgs false
set_option maxRecDepth 100000 in
set_option maxHeartbeats 4000000 in
theorem rput_b4_z (reg d q7 q8 b x7 x8 s : Int) (w : World) (hr : rrB 2 0 b (-1) s d false 0 = true) (h0 : 0 ≤ reg) (h1 : reg ≤ 15) (e7 : bits .and .i64 reg 7 = q7) (e8 : reg / 8 = q8) (b0 : 0 ≤ q7) (b1 : q7 ≤ 7) (b2 : 0 ≤ q8) (b3 : q8 ≤ 1) (g0 : 0 ≤ b) (g1 : b ≤ 15) (d7 : bits .and .i64 b 7 = x7) (d8 : b / 8 = x8) (b4 : 0 ≤ x7) (b5 : x7 ≤ 7) (b6 : 0 ≤ x8) (b7 : x8 ≤ 1) (x4 : (x7 == 4) = true) (x4b : (x7 != 4) = false) (z0 : d = 0) (z5 : (x7 == 5) = false) (z5b : (x7 != 5) = true) :
    Calls Tryd.prog 16 #[.int .i64 reg, ov 2 0 b (-1) s d false 0] w fun e w' => PutR w (2 + 0) (catF 2 (twoF (bits .or .u8 (bits .or .u8 0 (q7 * 8)) 4) (bits .or .u8 (bits .or .u8 0 32) x7)) (dF d)) (bits .or .u8 (q8 * 4) x8) e w' := by
  subst z0
  have HR : Hid (∀ W, Calls Tryd.prog 19 #[ov 2 0 b (-1) s 0 false 0] W fun e w' => e = .returned (.bool true) ∧ Below W.heap.size W w') := Lib.hid (fun W => (rright_any 2 0 b (-1) s 0 false 0 W).mono fun e w' h => by rw [hr] at h; exact h)
  have HS := Lib.hid (OS.new w 2 0 b (-1) s 0 false 0)
  clear hr
  go_enter Tryd.func16, Tryd.ntmps16
  go_upto_region 1 with fail
  generalize World.alloc _ _ = W0 at *
  obtain ⟨c0, c1, c2, c3, c4, c5, c6, c7⟩ := HS.out.1.c
  go_upto_region 27 with (first | (go_at_call 19; (with_reducible refine (HR.out _).mono ?_); rintro e w1 ⟨rfl, hb1⟩; have HK := Lib.hid (HS.out.keep hb1); clear hb1 c0 c1 c2 c3 c4 c5 c6 c7; obtain ⟨c0, c1, c2, c3, c4, c5, c6, c7⟩ := HK.out.1.c))
  have hlt := HK.out.1.lt
  have HE := Lib.hid (put_end0 (cs := #[.int .u8 (bits .or .u8 (bits .or .u8 0 (q7 * 8)) 4), .int .u8 (bits .or .u8 (bits .or .u8 0 32) x7)]) (f := (twoF (bits .or .u8 (bits .or .u8 0 (q7 * 8)) 4) (bits .or .u8 (bits .or .u8 0 32) x7))) (n := 2) (d := 0) rfl HK.out.2)
  go_wp2_with (go_at_call 50; refine (shown_0 0 _).mono ?_; rintro e w2 ⟨rfl, rfl⟩)
  all_goals
    go_returns
    exact ⟨_, rfl, HE.out.1, HE.out.2⟩
set_option maxRecDepth 100000 in
set_option maxHeartbeats 4000000 in
theorem rput_b4_y (reg d q7 q8 b x7 x8 s : Int) (w : World) (hr : rrB 2 0 b (-1) s d false 0 = true) (h0 : 0 ≤ reg) (h1 : reg ≤ 15) (e7 : bits .and .i64 reg 7 = q7) (e8 : reg / 8 = q8) (b0 : 0 ≤ q7) (b1 : q7 ≤ 7) (b2 : 0 ≤ q8) (b3 : q8 ≤ 1) (g0 : 0 ≤ b) (g1 : b ≤ 15) (d7 : bits .and .i64 b 7 = x7) (d8 : b / 8 = x8) (b4 : 0 ≤ x7) (b5 : x7 ≤ 7) (b6 : 0 ≤ x8) (b7 : x8 ≤ 1) (x4 : (x7 == 4) = true) (x4b : (x7 != 4) = false) (z0 : d = 0) (z5 : (x7 == 5) = true) (z5b : (x7 != 5) = false) :
    Calls Tryd.prog 16 #[.int .i64 reg, ov 2 0 b (-1) s d false 0] w fun e w' => PutR w (2 + 1) (catF 2 (twoF (bits .or .u8 (bits .or .u8 64 (q7 * 8)) 4) (bits .or .u8 (bits .or .u8 0 32) x7)) (dF d)) (bits .or .u8 (q8 * 4) x8) e w' := by
  subst z0
  have HR : Hid (∀ W, Calls Tryd.prog 19 #[ov 2 0 b (-1) s 0 false 0] W fun e w' => e = .returned (.bool true) ∧ Below W.heap.size W w') := Lib.hid (fun W => (rright_any 2 0 b (-1) s 0 false 0 W).mono fun e w' h => by rw [hr] at h; exact h)
  have HS := Lib.hid (OS.new w 2 0 b (-1) s 0 false 0)
  clear hr
  go_enter Tryd.func16, Tryd.ntmps16
  go_upto_region 1 with fail
  generalize World.alloc _ _ = W0 at *
  obtain ⟨c0, c1, c2, c3, c4, c5, c6, c7⟩ := HS.out.1.c
  go_upto_region 27 with (first | (go_at_call 19; (with_reducible refine (HR.out _).mono ?_); rintro e w1 ⟨rfl, hb1⟩; have HK := Lib.hid (HS.out.keep hb1); clear hb1 c0 c1 c2 c3 c4 c5 c6 c7; obtain ⟨c0, c1, c2, c3, c4, c5, c6, c7⟩ := HK.out.1.c))
  have hlt := HK.out.1.lt
  obtain ⟨ii, i1, i2, i3, i4⟩ := info5a
  have HI := Lib.hid (And.intro i1 (And.intro i2 (And.intro i3 i4)))
  clear i1 i2 i3 i4
  go_wp2_with (first | (go_at_call 50; refine (shown_s 0 1 (by decide) (by decide) _).mono ?_; rintro e w2 ⟨g2, cap2, rfl, hc2, hb2⟩; have HC2 := Lib.hid hc2; have HB2 := Lib.hid hb2; clear hc2 hb2; have HL := Lib.hid (head_lies (f := (twoF (bits .or .u8 (bits .or .u8 64 (q7 * 8)) 4) (bits .or .u8 (bits .or .u8 0 32) x7))) (n := 2) rfl HB2.out); have HR2 := Lib.hid (tail_lies HC2.out)) | (at_builtin; refine wpList_append_grows w2 rfl _ _ 24 rfl 5 ii (.int .u8 0) 1 1 Tryd.underlying24 HI.out.1 HI.out.2.1 HI.out.2.2.1 HI.out.2.2.2 rfl (by decide) (some ⟨w1.heap.size, 0, none⟩) 2 2 (byL (twoF (bits .or .u8 (bits .or .u8 64 (q7 * 8)) 4) (bits .or .u8 (bits .or .u8 0 32) x7)) 2) rfl (fun h => by cases h) (by simp [byL]) HL.out ⟨g2, 0, none⟩ 1 cap2 (byL (dF 0) 1) rfl (by simp [byL]) HR2.out (byL_one _ _) (by omega) (by unfold maxLen; omega) (by omega) ?_))
  intro v' w' hown hgr
  have HE := Lib.hid (put_end (d := 0) (by omega) HK.out.2 HB2.out hown hgr)
  clear hown hgr HL HR2 HI HC2
  obtain ⟨g3, cap3, hv, _, _⟩ := HE.out.1
  subst hv
  go_wp2_with fail
  go_returns
  exact ⟨_, rfl, HE.out.1, HE.out.2⟩
set_option maxRecDepth 100000 in
set_option maxHeartbeats 4000000 in
theorem rput_b4_s (reg d q7 q8 b x7 x8 s : Int) (w : World) (hr : rrB 2 0 b (-1) s d false 0 = true) (h0 : 0 ≤ reg) (h1 : reg ≤ 15) (e7 : bits .and .i64 reg 7 = q7) (e8 : reg / 8 = q8) (b0 : 0 ≤ q7) (b1 : q7 ≤ 7) (b2 : 0 ≤ q8) (b3 : q8 ≤ 1) (g0 : 0 ≤ b) (g1 : b ≤ 15) (d7 : bits .and .i64 b 7 = x7) (d8 : b / 8 = x8) (b4 : 0 ≤ x7) (b5 : x7 ≤ 7) (b6 : 0 ≤ x8) (b7 : x8 ≤ 1) (x4 : (x7 == 4) = true) (x4b : (x7 != 4) = false) (z0 : d ≠ 0) (z1 : -128 ≤ d) (z2 : d < 128) :
    Calls Tryd.prog 16 #[.int .i64 reg, ov 2 0 b (-1) s d false 0] w fun e w' => PutR w (2 + 1) (catF 2 (twoF (bits .or .u8 (bits .or .u8 64 (q7 * 8)) 4) (bits .or .u8 (bits .or .u8 0 32) x7)) (dF d)) (bits .or .u8 (q8 * 4) x8) e w' := by
  have zb : (d == 0) = false := by simpa using z0
  clear z0
  have HR : Hid (∀ W, Calls Tryd.prog 19 #[ov 2 0 b (-1) s d false 0] W fun e w' => e = .returned (.bool true) ∧ Below W.heap.size W w') := Lib.hid (fun W => (rright_any 2 0 b (-1) s d false 0 W).mono fun e w' h => by rw [hr] at h; exact h)
  have HS := Lib.hid (OS.new w 2 0 b (-1) s d false 0)
  clear hr
  go_enter Tryd.func16, Tryd.ntmps16
  go_upto_region 1 with fail
  generalize World.alloc _ _ = W0 at *
  obtain ⟨c0, c1, c2, c3, c4, c5, c6, c7⟩ := HS.out.1.c
  go_upto_region 27 with (first | (go_at_call 19; (with_reducible refine (HR.out _).mono ?_); rintro e w1 ⟨rfl, hb1⟩; have HK := Lib.hid (HS.out.keep hb1); clear hb1 c0 c1 c2 c3 c4 c5 c6 c7; obtain ⟨c0, c1, c2, c3, c4, c5, c6, c7⟩ := HK.out.1.c))
  have hlt := HK.out.1.lt
  obtain ⟨ii, i1, i2, i3, i4⟩ := info5a
  have HI := Lib.hid (And.intro i1 (And.intro i2 (And.intro i3 i4)))
  clear i1 i2 i3 i4
  go_wp2_with (first | (go_at_call 50; refine (shown_s d 1 (by decide) (by decide) _).mono ?_; rintro e w2 ⟨g2, cap2, rfl, hc2, hb2⟩; have HC2 := Lib.hid hc2; have HB2 := Lib.hid hb2; clear hc2 hb2; have HL := Lib.hid (head_lies (f := (twoF (bits .or .u8 (bits .or .u8 64 (q7 * 8)) 4) (bits .or .u8 (bits .or .u8 0 32) x7))) (n := 2) rfl HB2.out); have HR2 := Lib.hid (tail_lies HC2.out)) | (at_builtin; refine wpList_append_grows w2 rfl _ _ 24 rfl 5 ii (.int .u8 0) 1 1 Tryd.underlying24 HI.out.1 HI.out.2.1 HI.out.2.2.1 HI.out.2.2.2 rfl (by decide) (some ⟨w1.heap.size, 0, none⟩) 2 2 (byL (twoF (bits .or .u8 (bits .or .u8 64 (q7 * 8)) 4) (bits .or .u8 (bits .or .u8 0 32) x7)) 2) rfl (fun h => by cases h) (by simp [byL]) HL.out ⟨g2, 0, none⟩ 1 cap2 (byL (dF d) 1) rfl (by simp [byL]) HR2.out (byL_one _ _) (by omega) (by unfold maxLen; omega) (by omega) ?_))
  intro v' w' hown hgr
  have HE := Lib.hid (put_end (d := d) (by omega) HK.out.2 HB2.out hown hgr)
  clear hown hgr HL HR2 HI HC2
  obtain ⟨g3, cap3, hv, _, _⟩ := HE.out.1
  subst hv
  go_wp2_with fail
  go_returns
  exact ⟨_, rfl, HE.out.1, HE.out.2⟩
set_option maxRecDepth 100000 in
set_option maxHeartbeats 4000000 in
theorem rput_b4_l (reg d q7 q8 b x7 x8 s : Int) (w : World) (hr : rrB 2 0 b (-1) s d false 0 = true) (h0 : 0 ≤ reg) (h1 : reg ≤ 15) (e7 : bits .and .i64 reg 7 = q7) (e8 : reg / 8 = q8) (b0 : 0 ≤ q7) (b1 : q7 ≤ 7) (b2 : 0 ≤ q8) (b3 : q8 ≤ 1) (g0 : 0 ≤ b) (g1 : b ≤ 15) (d7 : bits .and .i64 b 7 = x7) (d8 : b / 8 = x8) (b4 : 0 ≤ x7) (b5 : x7 ≤ 7) (b6 : 0 ≤ x8) (b7 : x8 ≤ 1) (x4 : (x7 == 4) = true) (x4b : (x7 != 4) = false) (z0 : d < -128) :
    Calls Tryd.prog 16 #[.int .i64 reg, ov 2 0 b (-1) s d false 0] w fun e w' => PutR w (2 + 4) (catF 2 (twoF (bits .or .u8 (128 + q7 * 8) 4) (bits .or .u8 (bits .or .u8 0 32) x7)) (dF d)) (bits .or .u8 (q8 * 4) x8) e w' := by
  have zb : (d == 0) = false := by simp; omega
  have zc : decide (-128 ≤ d) = false := by simp; omega
  clear z0
  have HR : Hid (∀ W, Calls Tryd.prog 19 #[ov 2 0 b (-1) s d false 0] W fun e w' => e = .returned (.bool true) ∧ Below W.heap.size W w') := Lib.hid (fun W => (rright_any 2 0 b (-1) s d false 0 W).mono fun e w' h => by rw [hr] at h; exact h)
  have HS := Lib.hid (OS.new w 2 0 b (-1) s d false 0)
  clear hr
  go_enter Tryd.func16, Tryd.ntmps16
  go_upto_region 1 with fail
  generalize World.alloc _ _ = W0 at *
  obtain ⟨c0, c1, c2, c3, c4, c5, c6, c7⟩ := HS.out.1.c
  go_upto_region 27 with (first | (go_at_call 19; (with_reducible refine (HR.out _).mono ?_); rintro e w1 ⟨rfl, hb1⟩; have HK := Lib.hid (HS.out.keep hb1); clear hb1 c0 c1 c2 c3 c4 c5 c6 c7; obtain ⟨c0, c1, c2, c3, c4, c5, c6, c7⟩ := HK.out.1.c))
  have hlt := HK.out.1.lt
  obtain ⟨ii, i1, i2, i3, i4⟩ := info5a
  have HI := Lib.hid (And.intro i1 (And.intro i2 (And.intro i3 i4)))
  clear i1 i2 i3 i4
  go_wp2_with (first | (go_at_call 50; refine (shown_s d 4 (by decide) (by decide) _).mono ?_; rintro e w2 ⟨g2, cap2, rfl, hc2, hb2⟩; have HC2 := Lib.hid hc2; have HB2 := Lib.hid hb2; clear hc2 hb2; have HL := Lib.hid (head_lies (f := (twoF (bits .or .u8 (128 + q7 * 8) 4) (bits .or .u8 (bits .or .u8 0 32) x7))) (n := 2) rfl HB2.out); have HR2 := Lib.hid (tail_lies HC2.out)) | (at_builtin; refine wpList_append_grows w2 rfl _ _ 24 rfl 5 ii (.int .u8 0) 1 1 Tryd.underlying24 HI.out.1 HI.out.2.1 HI.out.2.2.1 HI.out.2.2.2 rfl (by decide) (some ⟨w1.heap.size, 0, none⟩) 2 2 (byL (twoF (bits .or .u8 (128 + q7 * 8) 4) (bits .or .u8 (bits .or .u8 0 32) x7)) 2) rfl (fun h => by cases h) (by simp [byL]) HL.out ⟨g2, 0, none⟩ 4 cap2 (byL (dF d) 4) rfl (by simp [byL]) HR2.out (byL_one _ _) (by omega) (by unfold maxLen; omega) (by omega) ?_))
  intro v' w' hown hgr
  have HE := Lib.hid (put_end (d := d) (by omega) HK.out.2 HB2.out hown hgr)
  clear hown hgr HL HR2 HI HC2
  obtain ⟨g3, cap3, hv, _, _⟩ := HE.out.1
  subst hv
  go_wp2_with fail
  go_returns
  exact ⟨_, rfl, HE.out.1, HE.out.2⟩
set_option maxRecDepth 100000 in
set_option maxHeartbeats 4000000 in
theorem rput_b4_g (reg d q7 q8 b x7 x8 s : Int) (w : World) (hr : rrB 2 0 b (-1) s d false 0 = true) (h0 : 0 ≤ reg) (h1 : reg ≤ 15) (e7 : bits .and .i64 reg 7 = q7) (e8 : reg / 8 = q8) (b0 : 0 ≤ q7) (b1 : q7 ≤ 7) (b2 : 0 ≤ q8) (b3 : q8 ≤ 1) (g0 : 0 ≤ b) (g1 : b ≤ 15) (d7 : bits .and .i64 b 7 = x7) (d8 : b / 8 = x8) (b4 : 0 ≤ x7) (b5 : x7 ≤ 7) (b6 : 0 ≤ x8) (b7 : x8 ≤ 1) (x4 : (x7 == 4) = true) (x4b : (x7 != 4) = false) (z0 : 128 ≤ d) :
    Calls Tryd.prog 16 #[.int .i64 reg, ov 2 0 b (-1) s d false 0] w fun e w' => PutR w (2 + 4) (catF 2 (twoF (bits .or .u8 (128 + q7 * 8) 4) (bits .or .u8 (bits .or .u8 0 32) x7)) (dF d)) (bits .or .u8 (q8 * 4) x8) e w' := by
  have zb : (d == 0) = false := by simp; omega
  have zc : decide (-128 ≤ d) = true := by simp; omega
  have zd : decide (d < 128) = false := by simp; omega
  clear z0
  have HR : Hid (∀ W, Calls Tryd.prog 19 #[ov 2 0 b (-1) s d false 0] W fun e w' => e = .returned (.bool true) ∧ Below W.heap.size W w') := Lib.hid (fun W => (rright_any 2 0 b (-1) s d false 0 W).mono fun e w' h => by rw [hr] at h; exact h)
  have HS := Lib.hid (OS.new w 2 0 b (-1) s d false 0)
  clear hr
  go_enter Tryd.func16, Tryd.ntmps16
  go_upto_region 1 with fail
  generalize World.alloc _ _ = W0 at *
  obtain ⟨c0, c1, c2, c3, c4, c5, c6, c7⟩ := HS.out.1.c
  go_upto_region 27 with (first | (go_at_call 19; (with_reducible refine (HR.out _).mono ?_); rintro e w1 ⟨rfl, hb1⟩; have HK := Lib.hid (HS.out.keep hb1); clear hb1 c0 c1 c2 c3 c4 c5 c6 c7; obtain ⟨c0, c1, c2, c3, c4, c5, c6, c7⟩ := HK.out.1.c))
  have hlt := HK.out.1.lt
  obtain ⟨ii, i1, i2, i3, i4⟩ := info5a
  have HI := Lib.hid (And.intro i1 (And.intro i2 (And.intro i3 i4)))
  clear i1 i2 i3 i4
  go_wp2_with (first | (go_at_call 50; refine (shown_s d 4 (by decide) (by decide) _).mono ?_; rintro e w2 ⟨g2, cap2, rfl, hc2, hb2⟩; have HC2 := Lib.hid hc2; have HB2 := Lib.hid hb2; clear hc2 hb2; have HL := Lib.hid (head_lies (f := (twoF (bits .or .u8 (128 + q7 * 8) 4) (bits .or .u8 (bits .or .u8 0 32) x7))) (n := 2) rfl HB2.out); have HR2 := Lib.hid (tail_lies HC2.out)) | (at_builtin; refine wpList_append_grows w2 rfl _ _ 24 rfl 5 ii (.int .u8 0) 1 1 Tryd.underlying24 HI.out.1 HI.out.2.1 HI.out.2.2.1 HI.out.2.2.2 rfl (by decide) (some ⟨w1.heap.size, 0, none⟩) 2 2 (byL (twoF (bits .or .u8 (128 + q7 * 8) 4) (bits .or .u8 (bits .or .u8 0 32) x7)) 2) rfl (fun h => by cases h) (by simp [byL]) HL.out ⟨g2, 0, none⟩ 4 cap2 (byL (dF d) 4) rfl (by simp [byL]) HR2.out (byL_one _ _) (by omega) (by unfold maxLen; omega) (by omega) ?_))
  intro v' w' hown hgr
  have HE := Lib.hid (put_end (d := d) (by omega) HK.out.2 HB2.out hown hgr)
  clear hown hgr HL HR2 HI HC2
  obtain ⟨g3, cap3, hv, _, _⟩ := HE.out.1
  subst hv
  go_wp2_with fail
  go_returns
  exact ⟨_, rfl, HE.out.1, HE.out.2⟩
open Go.RowKit
set_option linter.unusedVariables false
set_option linter.unusedSimpArgs false
set_option maxRecDepth 100000 in
set_option maxHeartbeats 4000000 in
theorem rput_bi_z (reg d q7 q8 b x7 x8 i y7 y8 s : Int) (w : World) (hr : rrB 2 0 b i s d false 0 = true) (h0 : 0 ≤ reg) (h1 : reg ≤ 15) (e7 : bits .and .i64 reg 7 = q7) (e8 : reg / 8 = q8) (b0 : 0 ≤ q7) (b1 : q7 ≤ 7) (b2 : 0 ≤ q8) (b3 : q8 ≤ 1) (g0 : 0 ≤ b) (g1 : b ≤ 15) (d7 : bits .and .i64 b 7 = x7) (d8 : b / 8 = x8) (b4 : 0 ≤ x7) (b5 : x7 ≤ 7) (b6 : 0 ≤ x8) (b7 : x8 ≤ 1) (T : Nat) (t3 : T ≤ 3) (hT : (∀ k : Nat, k < T → wrap64 (2 ^ k) < s) ∧ s ≤ wrap64 (2 ^ T)) (k0 : 0 ≤ i) (k1 : i ≤ 15) (f7 : bits .and .i64 i 7 = y7) (f8 : i / 8 = y8) (b8 : 0 ≤ y7) (b9 : y7 ≤ 7) (b10 : 0 ≤ y8) (b11 : y8 ≤ 1) (z0 : d = 0) (z5 : (x7 == 5) = false) (z5b : (x7 != 5) = true) :
    Calls Tryd.prog 16 #[.int .i64 reg, ov 2 0 b i s d false 0] w fun e w' => PutR w (2 + 0) (catF 2 (twoF (bits .or .u8 (bits .or .u8 0 (q7 * 8)) 4) (bits .or .u8 (bits .or .u8 (T * 64) (y7 * 8)) x7)) (dF d)) (bits .or .u8 (bits .or .u8 (q8 * 4) x8) (y8 * 2)) e w' := by
  subst z0
  have HT := Lib.hid hT
  clear hT
  have HR : Hid (∀ W, Calls Tryd.prog 19 #[ov 2 0 b i s 0 false 0] W fun e w' => e = .returned (.bool true) ∧ Below W.heap.size W w') := Lib.hid (fun W => (rright_any 2 0 b i s 0 false 0 W).mono fun e w' h => by rw [hr] at h; exact h)
  have HS := Lib.hid (OS.new w 2 0 b i s 0 false 0)
  clear hr
  go_enter Tryd.func16, Tryd.ntmps16
  go_upto_region 1 with fail
  generalize World.alloc _ _ = W0 at *
  obtain ⟨c0, c1, c2, c3, c4, c5, c6, c7⟩ := HS.out.1.c
  go_wp2_with (first | (go_at_call 19; (with_reducible refine (HR.out _).mono ?_); rintro e w1 ⟨rfl, hb1⟩; have HK := Lib.hid (HS.out.keep hb1); clear hb1 c0 c1 c2 c3 c4 c5 c6 c7; obtain ⟨c0, c1, c2, c3, c4, c5, c6, c7⟩ := HK.out.1.c))
  go_loop [13] (fun v => ∃ k : Nat, k ≤ T ∧ v = .int .u8 k) (fun v => T - (intOf v).toNat)
  case atStart => exact ⟨0, Nat.zero_le _, rfl⟩
  obtain ⟨k, hk, rfl⟩ := hrel
  by_cases hkt : k < T
  · have hx := HT.out.1 k hkt
    go_wp2
    go_round
    case rel => exact ⟨k + 1, by omega, by go_num⟩
    case measure => simp [intOf]; omega
  obtain rfl : T = k := by omega
  have hx : decide (wrap64 (2 ^ T) < s) = false := decide_eq_false (Int.not_lt.2 HT.out.2)
  go_upto_region 27 with fail
  have hlt := HK.out.1.lt
  have HE := Lib.hid (put_end0 (cs := #[.int .u8 (bits .or .u8 (bits .or .u8 0 (q7 * 8)) 4), .int .u8 (bits .or .u8 (bits .or .u8 (T * 64) (y7 * 8)) x7)]) (f := (twoF (bits .or .u8 (bits .or .u8 0 (q7 * 8)) 4) (bits .or .u8 (bits .or .u8 (T * 64) (y7 * 8)) x7))) (n := 2) (d := 0) rfl HK.out.2)
  go_wp2_with (go_at_call 50; refine (shown_0 0 _).mono ?_; rintro e w2 ⟨rfl, rfl⟩)
  all_goals
    go_returns
    exact ⟨_, rfl, HE.out.1, HE.out.2⟩
set_option maxRecDepth 100000 in
set_option maxHeartbeats 4000000 in
theorem rput_bi_y (reg d q7 q8 b x7 x8 i y7 y8 s : Int) (w : World) (hr : rrB 2 0 b i s d false 0 = true) (h0 : 0 ≤ reg) (h1 : reg ≤ 15) (e7 : bits .and .i64 reg 7 = q7) (e8 : reg / 8 = q8) (b0 : 0 ≤ q7) (b1 : q7 ≤ 7) (b2 : 0 ≤ q8) (b3 : q8 ≤ 1) (g0 : 0 ≤ b) (g1 : b ≤ 15) (d7 : bits .and .i64 b 7 = x7) (d8 : b / 8 = x8) (b4 : 0 ≤ x7) (b5 : x7 ≤ 7) (b6 : 0 ≤ x8) (b7 : x8 ≤ 1) (T : Nat) (t3 : T ≤ 3) (hT : (∀ k : Nat, k < T → wrap64 (2 ^ k) < s) ∧ s ≤ wrap64 (2 ^ T)) (k0 : 0 ≤ i) (k1 : i ≤ 15) (f7 : bits .and .i64 i 7 = y7) (f8 : i / 8 = y8) (b8 : 0 ≤ y7) (b9 : y7 ≤ 7) (b10 : 0 ≤ y8) (b11 : y8 ≤ 1) (z0 : d = 0) (z5 : (x7 == 5) = true) (z5b : (x7 != 5) = false) :
    Calls Tryd.prog 16 #[.int .i64 reg, ov 2 0 b i s d false 0] w fun e w' => PutR w (2 + 1) (catF 2 (twoF (bits .or .u8 (bits .or .u8 64 (q7 * 8)) 4) (bits .or .u8 (bits .or .u8 (T * 64) (y7 * 8)) x7)) (dF d)) (bits .or .u8 (bits .or .u8 (q8 * 4) x8) (y8 * 2)) e w' := by
  subst z0
  have HT := Lib.hid hT
  clear hT
  have HR : Hid (∀ W, Calls Tryd.prog 19 #[ov 2 0 b i s 0 false 0] W fun e w' => e = .returned (.bool true) ∧ Below W.heap.size W w') := Lib.hid (fun W => (rright_any 2 0 b i s 0 false 0 W).mono fun e w' h => by rw [hr] at h; exact h)
  have HS := Lib.hid (OS.new w 2 0 b i s 0 false 0)
  clear hr
  go_enter Tryd.func16, Tryd.ntmps16
  go_upto_region 1 with fail
  generalize World.alloc _ _ = W0 at *
  obtain ⟨c0, c1, c2, c3, c4, c5, c6, c7⟩ := HS.out.1.c
  go_wp2_with (first | (go_at_call 19; (with_reducible refine (HR.out _).mono ?_); rintro e w1 ⟨rfl, hb1⟩; have HK := Lib.hid (HS.out.keep hb1); clear hb1 c0 c1 c2 c3 c4 c5 c6 c7; obtain ⟨c0, c1, c2, c3, c4, c5, c6, c7⟩ := HK.out.1.c))
  go_loop [13] (fun v => ∃ k : Nat, k ≤ T ∧ v = .int .u8 k) (fun v => T - (intOf v).toNat)
  case atStart => exact ⟨0, Nat.zero_le _, rfl⟩
  obtain ⟨k, hk, rfl⟩ := hrel
  by_cases hkt : k < T
  · have hx := HT.out.1 k hkt
    go_wp2
    go_round
    case rel => exact ⟨k + 1, by omega, by go_num⟩
    case measure => simp [intOf]; omega
  obtain rfl : T = k := by omega
  have hx : decide (wrap64 (2 ^ T) < s) = false := decide_eq_false (Int.not_lt.2 HT.out.2)
  go_upto_region 27 with fail
  have hlt := HK.out.1.lt
  obtain ⟨ii, i1, i2, i3, i4⟩ := info5a
  have HI := Lib.hid (And.intro i1 (And.intro i2 (And.intro i3 i4)))
  clear i1 i2 i3 i4
  go_wp2_with (first | (go_at_call 50; refine (shown_s 0 1 (by decide) (by decide) _).mono ?_; rintro e w2 ⟨g2, cap2, rfl, hc2, hb2⟩; have HC2 := Lib.hid hc2; have HB2 := Lib.hid hb2; clear hc2 hb2; have HL := Lib.hid (head_lies (f := (twoF (bits .or .u8 (bits .or .u8 64 (q7 * 8)) 4) (bits .or .u8 (bits .or .u8 (T * 64) (y7 * 8)) x7))) (n := 2) rfl HB2.out); have HR2 := Lib.hid (tail_lies HC2.out)) | (at_builtin; refine wpList_append_grows w2 rfl _ _ 24 rfl 5 ii (.int .u8 0) 1 1 Tryd.underlying24 HI.out.1 HI.out.2.1 HI.out.2.2.1 HI.out.2.2.2 rfl (by decide) (some ⟨w1.heap.size, 0, none⟩) 2 2 (byL (twoF (bits .or .u8 (bits .or .u8 64 (q7 * 8)) 4) (bits .or .u8 (bits .or .u8 (T * 64) (y7 * 8)) x7)) 2) rfl (fun h => by cases h) (by simp [byL]) HL.out ⟨g2, 0, none⟩ 1 cap2 (byL (dF 0) 1) rfl (by simp [byL]) HR2.out (byL_one _ _) (by omega) (by unfold maxLen; omega) (by omega) ?_))
  intro v' w' hown hgr
  have HE := Lib.hid (put_end (d := 0) (by omega) HK.out.2 HB2.out hown hgr)
  clear hown hgr HL HR2 HI HC2
  obtain ⟨g3, cap3, hv, _, _⟩ := HE.out.1
  subst hv
  go_wp2_with fail
  go_returns
  exact ⟨_, rfl, HE.out.1, HE.out.2⟩
open Go.RowKit
set_option linter.unusedVariables false
set_option linter.unusedSimpArgs false
set_option maxRecDepth 100000 in
set_option maxHeartbeats 4000000 in
theorem rput_bi_s (reg d q7 q8 b x7 x8 i y7 y8 s : Int) (w : World) (hr : rrB 2 0 b i s d false 0 = true) (h0 : 0 ≤ reg) (h1 : reg ≤ 15) (e7 : bits .and .i64 reg 7 = q7) (e8 : reg / 8 = q8) (b0 : 0 ≤ q7) (b1 : q7 ≤ 7) (b2 : 0 ≤ q8) (b3 : q8 ≤ 1) (g0 : 0 ≤ b) (g1 : b ≤ 15) (d7 : bits .and .i64 b 7 = x7) (d8 : b / 8 = x8) (b4 : 0 ≤ x7) (b5 : x7 ≤ 7) (b6 : 0 ≤ x8) (b7 : x8 ≤ 1) (T : Nat) (t3 : T ≤ 3) (hT : (∀ k : Nat, k < T → wrap64 (2 ^ k) < s) ∧ s ≤ wrap64 (2 ^ T)) (k0 : 0 ≤ i) (k1 : i ≤ 15) (f7 : bits .and .i64 i 7 = y7) (f8 : i / 8 = y8) (b8 : 0 ≤ y7) (b9 : y7 ≤ 7) (b10 : 0 ≤ y8) (b11 : y8 ≤ 1) (z0 : d ≠ 0) (z1 : -128 ≤ d) (z2 : d < 128) :
    Calls Tryd.prog 16 #[.int .i64 reg, ov 2 0 b i s d false 0] w fun e w' => PutR w (2 + 1) (catF 2 (twoF (bits .or .u8 (bits .or .u8 64 (q7 * 8)) 4) (bits .or .u8 (bits .or .u8 (T * 64) (y7 * 8)) x7)) (dF d)) (bits .or .u8 (bits .or .u8 (q8 * 4) x8) (y8 * 2)) e w' := by
  have zb : (d == 0) = false := by simpa using z0
  clear z0
  have HT := Lib.hid hT
  clear hT
  have HR : Hid (∀ W, Calls Tryd.prog 19 #[ov 2 0 b i s d false 0] W fun e w' => e = .returned (.bool true) ∧ Below W.heap.size W w') := Lib.hid (fun W => (rright_any 2 0 b i s d false 0 W).mono fun e w' h => by rw [hr] at h; exact h)
  have HS := Lib.hid (OS.new w 2 0 b i s d false 0)
  clear hr
  go_enter Tryd.func16, Tryd.ntmps16
  go_upto_region 1 with fail
  generalize World.alloc _ _ = W0 at *
  obtain ⟨c0, c1, c2, c3, c4, c5, c6, c7⟩ := HS.out.1.c
  go_wp2_with (first | (go_at_call 19; (with_reducible refine (HR.out _).mono ?_); rintro e w1 ⟨rfl, hb1⟩; have HK := Lib.hid (HS.out.keep hb1); clear hb1 c0 c1 c2 c3 c4 c5 c6 c7; obtain ⟨c0, c1, c2, c3, c4, c5, c6, c7⟩ := HK.out.1.c))
  go_loop [13] (fun v => ∃ k : Nat, k ≤ T ∧ v = .int .u8 k) (fun v => T - (intOf v).toNat)
  case atStart => exact ⟨0, Nat.zero_le _, rfl⟩
  obtain ⟨k, hk, rfl⟩ := hrel
  by_cases hkt : k < T
  · have hx := HT.out.1 k hkt
    go_wp2
    go_round
    case rel => exact ⟨k + 1, by omega, by go_num⟩
    case measure => simp [intOf]; omega
  obtain rfl : T = k := by omega
  have hx : decide (wrap64 (2 ^ T) < s) = false := decide_eq_false (Int.not_lt.2 HT.out.2)
  go_upto_region 27 with fail
  have hlt := HK.out.1.lt
  obtain ⟨ii, i1, i2, i3, i4⟩ := info5a
  have HI := Lib.hid (And.intro i1 (And.intro i2 (And.intro i3 i4)))
  clear i1 i2 i3 i4
  go_wp2_with (first | (go_at_call 50; refine (shown_s d 1 (by decide) (by decide) _).mono ?_; rintro e w2 ⟨g2, cap2, rfl, hc2, hb2⟩; have HC2 := Lib.hid hc2; have HB2 := Lib.hid hb2; clear hc2 hb2; have HL := Lib.hid (head_lies (f := (twoF (bits .or .u8 (bits .or .u8 64 (q7 * 8)) 4) (bits .or .u8 (bits .or .u8 (T * 64) (y7 * 8)) x7))) (n := 2) rfl HB2.out); have HR2 := Lib.hid (tail_lies HC2.out)) | (at_builtin; refine wpList_append_grows w2 rfl _ _ 24 rfl 5 ii (.int .u8 0) 1 1 Tryd.underlying24 HI.out.1 HI.out.2.1 HI.out.2.2.1 HI.out.2.2.2 rfl (by decide) (some ⟨w1.heap.size, 0, none⟩) 2 2 (byL (twoF (bits .or .u8 (bits .or .u8 64 (q7 * 8)) 4) (bits .or .u8 (bits .or .u8 (T * 64) (y7 * 8)) x7)) 2) rfl (fun h => by cases h) (by simp [byL]) HL.out ⟨g2, 0, none⟩ 1 cap2 (byL (dF d) 1) rfl (by simp [byL]) HR2.out (byL_one _ _) (by omega) (by unfold maxLen; omega) (by omega) ?_))
  intro v' w' hown hgr
  have HE := Lib.hid (put_end (d := d) (by omega) HK.out.2 HB2.out hown hgr)
  clear hown hgr HL HR2 HI HC2
  obtain ⟨g3, cap3, hv, _, _⟩ := HE.out.1
  subst hv
  go_wp2_with fail
  go_returns
  exact ⟨_, rfl, HE.out.1, HE.out.2⟩
set_option maxRecDepth 100000 in
set_option maxHeartbeats 4000000 in
theorem rput_bi_l (reg d q7 q8 b x7 x8 i y7 y8 s : Int) (w : World) (hr : rrB 2 0 b i s d false 0 = true) (h0 : 0 ≤ reg) (h1 : reg ≤ 15) (e7 : bits .and .i64 reg 7 = q7) (e8 : reg / 8 = q8) (b0 : 0 ≤ q7) (b1 : q7 ≤ 7) (b2 : 0 ≤ q8) (b3 : q8 ≤ 1) (g0 : 0 ≤ b) (g1 : b ≤ 15) (d7 : bits .and .i64 b 7 = x7) (d8 : b / 8 = x8) (b4 : 0 ≤ x7) (b5 : x7 ≤ 7) (b6 : 0 ≤ x8) (b7 : x8 ≤ 1) (T : Nat) (t3 : T ≤ 3) (hT : (∀ k : Nat, k < T → wrap64 (2 ^ k) < s) ∧ s ≤ wrap64 (2 ^ T)) (k0 : 0 ≤ i) (k1 : i ≤ 15) (f7 : bits .and .i64 i 7 = y7) (f8 : i / 8 = y8) (b8 : 0 ≤ y7) (b9 : y7 ≤ 7) (b10 : 0 ≤ y8) (b11 : y8 ≤ 1) (z0 : d < -128) :
    Calls Tryd.prog 16 #[.int .i64 reg, ov 2 0 b i s d false 0] w fun e w' => PutR w (2 + 4) (catF 2 (twoF (bits .or .u8 (128 + q7 * 8) 4) (bits .or .u8 (bits .or .u8 (T * 64) (y7 * 8)) x7)) (dF d)) (bits .or .u8 (bits .or .u8 (q8 * 4) x8) (y8 * 2)) e w' := by
  have zb : (d == 0) = false := by simp; omega
  have zc : decide (-128 ≤ d) = false := by simp; omega
  clear z0
  have HT := Lib.hid hT
  clear hT
  have HR : Hid (∀ W, Calls Tryd.prog 19 #[ov 2 0 b i s d false 0] W fun e w' => e = .returned (.bool true) ∧ Below W.heap.size W w') := Lib.hid (fun W => (rright_any 2 0 b i s d false 0 W).mono fun e w' h => by rw [hr] at h; exact h)
  have HS := Lib.hid (OS.new w 2 0 b i s d false 0)
  clear hr
  go_enter Tryd.func16, Tryd.ntmps16
  go_upto_region 1 with fail
  generalize World.alloc _ _ = W0 at *
  obtain ⟨c0, c1, c2, c3, c4, c5, c6, c7⟩ := HS.out.1.c
  go_wp2_with (first | (go_at_call 19; (with_reducible refine (HR.out _).mono ?_); rintro e w1 ⟨rfl, hb1⟩; have HK := Lib.hid (HS.out.keep hb1); clear hb1 c0 c1 c2 c3 c4 c5 c6 c7; obtain ⟨c0, c1, c2, c3, c4, c5, c6, c7⟩ := HK.out.1.c))
  go_loop [13] (fun v => ∃ k : Nat, k ≤ T ∧ v = .int .u8 k) (fun v => T - (intOf v).toNat)
  case atStart => exact ⟨0, Nat.zero_le _, rfl⟩
  obtain ⟨k, hk, rfl⟩ := hrel
  by_cases hkt : k < T
  · have hx := HT.out.1 k hkt
    go_wp2
    go_round
    case rel => exact ⟨k + 1, by omega, by go_num⟩
    case measure => simp [intOf]; omega
  obtain rfl : T = k := by omega
  have hx : decide (wrap64 (2 ^ T) < s) = false := decide_eq_false (Int.not_lt.2 HT.out.2)
  go_upto_region 27 with fail
  have hlt := HK.out.1.lt
  obtain ⟨ii, i1, i2, i3, i4⟩ := info5a
  have HI := Lib.hid (And.intro i1 (And.intro i2 (And.intro i3 i4)))
  clear i1 i2 i3 i4
  go_wp2_with (first | (go_at_call 50; refine (shown_s d 4 (by decide) (by decide) _).mono ?_; rintro e w2 ⟨g2, cap2, rfl, hc2, hb2⟩; have HC2 := Lib.hid hc2; have HB2 := Lib.hid hb2; clear hc2 hb2; have HL := Lib.hid (head_lies (f := (twoF (bits .or .u8 (128 + q7 * 8) 4) (bits .or .u8 (bits .or .u8 (T * 64) (y7 * 8)) x7))) (n := 2) rfl HB2.out); have HR2 := Lib.hid (tail_lies HC2.out)) | (at_builtin; refine wpList_append_grows w2 rfl _ _ 24 rfl 5 ii (.int .u8 0) 1 1 Tryd.underlying24 HI.out.1 HI.out.2.1 HI.out.2.2.1 HI.out.2.2.2 rfl (by decide) (some ⟨w1.heap.size, 0, none⟩) 2 2 (byL (twoF (bits .or .u8 (128 + q7 * 8) 4) (bits .or .u8 (bits .or .u8 (T * 64) (y7 * 8)) x7)) 2) rfl (fun h => by cases h) (by simp [byL]) HL.out ⟨g2, 0, none⟩ 4 cap2 (byL (dF d) 4) rfl (by simp [byL]) HR2.out (byL_one _ _) (by omega) (by unfold maxLen; omega) (by omega) ?_))
  intro v' w' hown hgr
  have HE := Lib.hid (put_end (d := d) (by omega) HK.out.2 HB2.out hown hgr)
  clear hown hgr HL HR2 HI HC2
  obtain ⟨g3, cap3, hv, _, _⟩ := HE.out.1
  subst hv
  go_wp2_with fail
  go_returns
  exact ⟨_, rfl, HE.out.1, HE.out.2⟩
set_option maxRecDepth 100000 in
set_option maxHeartbeats 4000000 in
theorem rput_bi_g (reg d q7 q8 b x7 x8 i y7 y8 s : Int) (w : World) (hr : rrB 2 0 b i s d false 0 = true) (h0 : 0 ≤ reg) (h1 : reg ≤ 15) (e7 : bits .and .i64 reg 7 = q7) (e8 : reg / 8 = q8) (b0 : 0 ≤ q7) (b1 : q7 ≤ 7) (b2 : 0 ≤ q8) (b3 : q8 ≤ 1) (g0 : 0 ≤ b) (g1 : b ≤ 15) (d7 : bits .and .i64 b 7 = x7) (d8 : b / 8 = x8) (b4 : 0 ≤ x7) (b5 : x7 ≤ 7) (b6 : 0 ≤ x8) (b7 : x8 ≤ 1) (T : Nat) (t3 : T ≤ 3) (hT : (∀ k : Nat, k < T → wrap64 (2 ^ k) < s) ∧ s ≤ wrap64 (2 ^ T)) (k0 : 0 ≤ i) (k1 : i ≤ 15) (f7 : bits .and .i64 i 7 = y7) (f8 : i / 8 = y8) (b8 : 0 ≤ y7) (b9 : y7 ≤ 7) (b10 : 0 ≤ y8) (b11 : y8 ≤ 1) (z0 : 128 ≤ d) :
    Calls Tryd.prog 16 #[.int .i64 reg, ov 2 0 b i s d false 0] w fun e w' => PutR w (2 + 4) (catF 2 (twoF (bits .or .u8 (128 + q7 * 8) 4) (bits .or .u8 (bits .or .u8 (T * 64) (y7 * 8)) x7)) (dF d)) (bits .or .u8 (bits .or .u8 (q8 * 4) x8) (y8 * 2)) e w' := by
  have zb : (d == 0) = false := by simp; omega
  have zc : decide (-128 ≤ d) = true := by simp; omega
  have zd : decide (d < 128) = false := by simp; omega
  clear z0
  have HT := Lib.hid hT
  clear hT
  have HR : Hid (∀ W, Calls Tryd.prog 19 #[ov 2 0 b i s d false 0] W fun e w' => e = .returned (.bool true) ∧ Below W.heap.size W w') := Lib.hid (fun W => (rright_any 2 0 b i s d false 0 W).mono fun e w' h => by rw [hr] at h; exact h)
  have HS := Lib.hid (OS.new w 2 0 b i s d false 0)
  clear hr
  go_enter Tryd.func16, Tryd.ntmps16
  go_upto_region 1 with fail
  generalize World.alloc _ _ = W0 at *
  obtain ⟨c0, c1, c2, c3, c4, c5, c6, c7⟩ := HS.out.1.c
  go_wp2_with (first | (go_at_call 19; (with_reducible refine (HR.out _).mono ?_); rintro e w1 ⟨rfl, hb1⟩; have HK := Lib.hid (HS.out.keep hb1); clear hb1 c0 c1 c2 c3 c4 c5 c6 c7; obtain ⟨c0, c1, c2, c3, c4, c5, c6, c7⟩ := HK.out.1.c))
  go_loop [13] (fun v => ∃ k : Nat, k ≤ T ∧ v = .int .u8 k) (fun v => T - (intOf v).toNat)
  case atStart => exact ⟨0, Nat.zero_le _, rfl⟩
  obtain ⟨k, hk, rfl⟩ := hrel
  by_cases hkt : k < T
  · have hx := HT.out.1 k hkt
    go_wp2
    go_round
    case rel => exact ⟨k + 1, by omega, by go_num⟩
    case measure => simp [intOf]; omega
  obtain rfl : T = k := by omega
  have hx : decide (wrap64 (2 ^ T) < s) = false := decide_eq_false (Int.not_lt.2 HT.out.2)
  go_upto_region 27 with fail
  have hlt := HK.out.1.lt
  obtain ⟨ii, i1, i2, i3, i4⟩ := info5a
  have HI := Lib.hid (And.intro i1 (And.intro i2 (And.intro i3 i4)))
  clear i1 i2 i3 i4
  go_wp2_with (first | (go_at_call 50; refine (shown_s d 4 (by decide) (by decide) _).mono ?_; rintro e w2 ⟨g2, cap2, rfl, hc2, hb2⟩; have HC2 := Lib.hid hc2; have HB2 := Lib.hid hb2; clear hc2 hb2; have HL := Lib.hid (head_lies (f := (twoF (bits .or .u8 (128 + q7 * 8) 4) (bits .or .u8 (bits .or .u8 (T * 64) (y7 * 8)) x7))) (n := 2) rfl HB2.out); have HR2 := Lib.hid (tail_lies HC2.out)) | (at_builtin; refine wpList_append_grows w2 rfl _ _ 24 rfl 5 ii (.int .u8 0) 1 1 Tryd.underlying24 HI.out.1 HI.out.2.1 HI.out.2.2.1 HI.out.2.2.2 rfl (by decide) (some ⟨w1.heap.size, 0, none⟩) 2 2 (byL (twoF (bits .or .u8 (128 + q7 * 8) 4) (bits .or .u8 (bits .or .u8 (T * 64) (y7 * 8)) x7)) 2) rfl (fun h => by cases h) (by simp [byL]) HL.out ⟨g2, 0, none⟩ 4 cap2 (byL (dF d) 4) rfl (by simp [byL]) HR2.out (byL_one _ _) (by omega) (by unfold maxLen; omega) (by omega) ?_))
  intro v' w' hown hgr
  have HE := Lib.hid (put_end (d := d) (by omega) HK.out.2 HB2.out hown hgr)
  clear hown hgr HL HR2 HI HC2
  obtain ⟨g3, cap3, hv, _, _⟩ := HE.out.1
  subst hv
  go_wp2_with fail
  go_returns
  exact ⟨_, rfl, HE.out.1, HE.out.2⟩
end Go.Proofs.YtkpnafgmjcnniaaDoor
