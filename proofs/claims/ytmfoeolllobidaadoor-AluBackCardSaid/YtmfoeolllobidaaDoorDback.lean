/- The walk of AluBack. -/
import Derived.Test.YtmfoeolllobidaaDoorAdiv
import Derived.Test.YtmfoeolllobidaaDoorComp
namespace Go.Proofs.YtmfoeolllobidaaDoor
open Go.RowKit
set_option maxHeartbeats 4000000 in
theorem dback_core (high low d : Nat) (wd : Int) (h l c q r x y : Nat) (out v1 v2 k0 k1 k2 k3 k4 : Bool)
    (h1 : ∀ W, Calls Tryd.prog 29 #[.int .u64 high, .int .i64 wd] W fun e w' => e = .returned (.int .u64 h) ∧ W = w')
    (h2 : ∀ W, Calls Tryd.prog 29 #[.int .u64 low, .int .i64 wd] W fun e w' => e = .returned (.int .u64 l) ∧ W = w')
    (h3 : ∀ W, Calls Tryd.prog 29 #[.int .u64 d, .int .i64 wd] W fun e w' => e = .returned (.int .u64 c) ∧ W = w')
    (h4 : ∀ W, Calls Tryd.prog 29 #[.int .u64 q, .int .i64 wd] W fun e w' => e = .returned (.int .u64 q) ∧ W = w')
    (hd : ∀ W, Mk W → Calls Tryd.prog 26 #[.int .i64 wd, .int .u64 high, .int .u64 low, .int .u64 d] W fun e w' => e = .returned (.tuple #[.int .u64 q, .int .u64 r, .bool true]) ∧ Below W.heap.size W w')
    (hM : ∀ W, Mk W → Calls Tryd.prog 24 #[.int .i64 wd, .int .u64 q, .int .u64 c] W fun e w' => e = .returned (.tuple #[.int .u64 x, .int .u64 y, fl k0 k1 k2 k3 k4]) ∧ Below W.heap.size W w')
    (ha1 : ∀ W, Calls Tryd.prog 30 #[.int .u64 x, .int .u64 r, .bool false, .int .i64 wd] W fun e w' => e = .returned (.tuple #[.int .u64 l, .bool out, .bool v1]) ∧ W = w')
    (ha2 : ∀ W, Calls Tryd.prog 30 #[.int .u64 y, .int .u64 0, .bool out, .int .i64 wd] W fun e w' => e = .returned (.tuple #[.int .u64 h, .bool false, .bool v2]) ∧ W = w')
    (c0 : ¬ c = 0) (hlt : decide (h < c) = true) (hr : decide (r < c) = true) (w : World) (hm : Mk w) :
    Calls Tryd.prog 4 #[.int .i64 wd, .int .u64 high, .int .u64 low, .int .u64 d] w fun e w' => e = .returned (.bool true) ∧ Below w.heap.size w w' := by
  have H1 := Lib.hid h1
  have H2 := Lib.hid h2
  have H3 := Lib.hid h3
  have H4 := Lib.hid h4
  have HD := Lib.hid hd
  have HM := Lib.hid hM
  have A1 := Lib.hid ha1
  have A2 := Lib.hid ha2
  clear h1 h2 h3 h4 hd hM ha1 ha2
  have cq : ((c : Int) != 0) = true := by simp; omega
  go_enter Tryd.func4, Tryd.ntmps4
  go_wp2_with (first | (go_at_call 29; ((with_reducible refine (H1.out _).mono ?_); rintro e w' ⟨rfl, rfl⟩)) | (go_at_call 29; ((with_reducible refine (H2.out _).mono ?_); rintro e w' ⟨rfl, rfl⟩)) | (go_at_call 29; ((with_reducible refine (H3.out _).mono ?_); rintro e w' ⟨rfl, rfl⟩)))
  go_at_call 26
  refine (HD.out _ hm).mono ?_
  rintro e w1 ⟨rfl, hb1⟩
  have g1 : Gd w w1 := (Gd.refl hm).step hb1
  clear hb1
  go_wp2_with fail
  go_at_call 24
  refine (HM.out _ g1.1).mono ?_
  rintro e w2 ⟨rfl, hb2⟩
  have g2 : Gd w w2 := g1.step hb2
  have g3 := g2.alloc (Obj.cells #[Value.bool k0, Value.bool k1, Value.bool k2, Value.bool k3, Value.bool k4] 24)
  clear hb2 g1
  go_wp2_with (first | (go_at_call 30; ((with_reducible refine (A1.out _).mono ?_); rintro e w' ⟨rfl, rfl⟩)) | (go_at_call 30; ((with_reducible refine (A2.out _).mono ?_); rintro e w' ⟨rfl, rfl⟩)) | (go_at_call 29; ((with_reducible refine (H4.out _).mono ?_); rintro e w' ⟨rfl, rfl⟩)) | (go_at_call 28; refine (wakes_any _ g3.1).mono ?_; rintro e w6 ⟨rfl, hb6⟩))
  go_ret
  exact ⟨rfl, g3.2.trans (hb6.mono g3.2.size)⟩
set_option maxHeartbeats 4000000 in
theorem dback_none (high low d : Nat) (wd : Int) (h l c : Nat)
    (h1 : ∀ W, Calls Tryd.prog 29 #[.int .u64 high, .int .i64 wd] W fun e w' => e = .returned (.int .u64 h) ∧ W = w')
    (h2 : ∀ W, Calls Tryd.prog 29 #[.int .u64 low, .int .i64 wd] W fun e w' => e = .returned (.int .u64 l) ∧ W = w')
    (h3 : ∀ W, Calls Tryd.prog 29 #[.int .u64 d, .int .i64 wd] W fun e w' => e = .returned (.int .u64 c) ∧ W = w')
    (hd : ∀ W, Mk W → Calls Tryd.prog 26 #[.int .i64 wd, .int .u64 high, .int .u64 low, .int .u64 d] W fun e w' => e = .returned (.tuple #[.int .u64 0, .int .u64 0, .bool false]) ∧ Below W.heap.size W w')
    (hlt : decide (h < c) = false) (w : World) (hm : Mk w) :
    Calls Tryd.prog 4 #[.int .i64 wd, .int .u64 high, .int .u64 low, .int .u64 d] w fun e w' => e = .returned (.bool true) ∧ Below w.heap.size w w' := by
  have H1 := Lib.hid h1
  have H2 := Lib.hid h2
  have H3 := Lib.hid h3
  have HD := Lib.hid hd
  clear h1 h2 h3 hd
  by_cases c0 : c = 0
  all_goals
    go_enter Tryd.func4, Tryd.ntmps4
    go_wp2_with (first | (go_at_call 29; ((with_reducible refine (H1.out _).mono ?_); rintro e w' ⟨rfl, rfl⟩)) | (go_at_call 29; ((with_reducible refine (H2.out _).mono ?_); rintro e w' ⟨rfl, rfl⟩)) | (go_at_call 29; ((with_reducible refine (H3.out _).mono ?_); rintro e w' ⟨rfl, rfl⟩)))
    go_at_call 26
    refine (HD.out _ hm).mono ?_
    rintro e w1 ⟨rfl, hb1⟩
    have g1 : Gd w w1 := (Gd.refl hm).step hb1
    clear hb1
    go_wp2_with (go_at_call 28; refine (wakes_any _ g1.1).mono ?_; rintro e w6 ⟨rfl, hb6⟩)
    go_ret
    exact ⟨rfl, g1.2.trans (hb6.mono g1.2.size)⟩
theorem carry_parts (X r Yh M Lw H : Nat) (hM : 0 < M) (h : X + r + Yh * M = Lw + H * M) (hL : Lw < M) (_ : H < M) (hX : X < M) (hr : r < M) : (X + r) % M = Lw ∧ b1 (decide (M ≤ X + r)) + Yh = H := by
  have e1 : (X + r + Yh * M) % M = (X + r) % M := Nat.add_mul_mod_self_right _ _ _
  have e2 : (Lw + H * M) % M = Lw := by rw [Nat.add_mul_mod_self_right, Nat.mod_eq_of_lt hL]
  have e3 : (X + r + Yh * M) / M = (X + r) / M + Yh := Nat.add_mul_div_right _ _ hM
  have e4 : (Lw + H * M) / M = H := by rw [Nat.add_mul_div_right _ _ hM, Nat.div_eq_of_lt hL, Nat.zero_add]
  rw [h] at e1 e3
  refine ⟨by rw [← e1, e2], ?_⟩
  rw [← e4, e3]
  congr 1
  by_cases hc : M ≤ X + r
  · rw [decide_eq_true hc]
    show 1 = _
    symm
    rw [Nat.div_eq_iff hM]
    omega
  · rw [decide_eq_false hc]
    show 0 = _
    rw [Nat.div_eq_of_lt (by omega)]
theorem law_dback (high low d : Nat) (hh : U high) (hl : U low) (hd : U d) (wd : Int) (w : World) (hm : Mk w) :
    Calls Tryd.prog 4 #[.int .i64 wd, .int .u64 high, .int .u64 low, .int .u64 d] w fun e w' => e = .returned (.bool true) ∧ Below w.heap.size w w' := by
  have c1 := fun W => rcut_any high hh wd W
  have c2 := fun W => rcut_any low hl wd W
  have c3 := fun W => rcut_any d hd wd W
  by_cases hlt : cN high wd < cN d wd
  · have hL := cN_lt low wd
    have hH := cN_lt high wd
    have hC := cN_lt d wd
    have hM := mN_lt wd
    have hc0 : 0 < cN d wd := by omega
    have hq : nD high low wd / cN d wd < 2 ^ (8 * hN wd) := by
      rw [Nat.div_lt_iff_lt_mul hc0]
      unfold nD
      have : (cN high wd + 1) * 2 ^ (8 * hN wd) ≤ cN d wd * 2 ^ (8 * hN wd) := Nat.mul_le_mul_right _ hlt
      rw [Nat.add_mul, Nat.one_mul, Nat.mul_comm (cN d wd)] at this
      omega
    have hr := Nat.mod_lt (nD high low wd) hc0
    have hdm := Nat.div_add_mod' (nD high low wd) (cN d wd)
    have hn : nD high low wd = cN high wd * 2 ^ (8 * hN wd) + cN low wd := rfl
    have hD := fun W hW => adiv_any high low d hh hl hd wd hlt W hW
    generalize nD high low wd / cN d wd = q at *
    generalize nD high low wd % cN d wd = r at *
    have hqU : U q := Nat.lt_of_lt_of_le hq hM
    have hrU : U r := Nat.lt_of_lt_of_le (Nat.lt_trans hr hC) hM
    have eq : cN q wd = q := Nat.mod_eq_of_lt hq
    have ec : cN (cN d wd) wd = cN d wd := cN_cN d wd
    have hcU := cN_U d hd wd
    have hQ := fun W => rcut_any q hqU wd W
    rw [eq] at hQ
    have hMu := fun W hW => amul_any q (cN d wd) hqU hcU wd W hW
    have hxy := Nat.div_add_mod' (pM q (cN d wd) wd) (2 ^ (8 * hN wd))
    have hp : pM q (cN d wd) wd = q * cN d wd := by unfold pM; rw [eq, ec]
    have hx : lowM q (cN d wd) wd < 2 ^ (8 * hN wd) := Nat.mod_lt _ (Nat.two_pow_pos _)
    have hy := highM_lt q (cN d wd) wd
    have hlU := lowM_U q (cN d wd) wd
    have hhU := highM_U q (cN d wd) wd
    change highM q (cN d wd) wd * 2 ^ (8 * hN wd) + lowM q (cN d wd) wd = pM q (cN d wd) wd at hxy
    have ex : cN (lowM q (cN d wd) wd) wd = lowM q (cN d wd) wd := Nat.mod_eq_of_lt hx
    have ey : cN (highM q (cN d wd) wd) wd = highM q (cN d wd) wd := Nat.mod_eq_of_lt hy
    have er : cN r wd = r := Nat.mod_eq_of_lt (Nat.lt_trans hr hC)
    have e0 : cN 0 wd = 0 := Nat.zero_mod _
    have hA1 := fun W => radd_any _ _ hlU hrU false wd W
    have hA2 := fun (o : Bool) W => radd_any (highM q (cN d wd) wd) 0 hhU (by unfold U; decide) o wd W
    have v1 : addR (lowM q (cN d wd) wd) r false wd = (lowM q (cN d wd) wd + r) % 2 ^ (8 * hN wd) := by rw [addR_val, ex, er]; rfl
    have v2 : addO (lowM q (cN d wd) wd) r false wd = decide (2 ^ (8 * hN wd) ≤ lowM q (cN d wd) wd + r) := by rw [addO_val, ex, er]; rfl
    have v3 : ∀ o, addR (highM q (cN d wd) wd) 0 o wd = (highM q (cN d wd) wd + b1 o) % 2 ^ (8 * hN wd) := fun o => by rw [addR_val, ey, e0, Nat.add_zero]
    have v4 : ∀ o, addO (highM q (cN d wd) wd) 0 o wd = decide (2 ^ (8 * hN wd) ≤ highM q (cN d wd) wd + b1 o) := fun o => by rw [addO_val, ey, e0, Nat.add_zero]
    rw [hp] at hxy
    have hM0 : 0 < 2 ^ (8 * hN wd) := Nat.two_pow_pos _
    have hall : lowM q (cN d wd) wd + r + highM q (cN d wd) wd * 2 ^ (8 * hN wd) = cN low wd + cN high wd * 2 ^ (8 * hN wd) := by omega
    obtain ⟨hs1, hs2⟩ := carry_parts _ _ _ _ _ _ hM0 hall hL hH hx (Nat.lt_trans hr hC)
    have ho : b1 (addO (lowM q (cN d wd) wd) r false wd) + highM q (cN d wd) wd = cN high wd := by rw [v2]; exact hs2
    have hA1' := hA1
    rw [v1, hs1] at hA1'
    have hA2' := hA2 (addO (lowM q (cN d wd) wd) r false wd)
    rw [v3, v4, Nat.add_comm (highM q (cN d wd) wd), ho, Nat.mod_eq_of_lt hH, decide_eq_false (by omega : ¬ 2 ^ (8 * hN wd) ≤ cN high wd)] at hA2'
    exact dback_core high low d wd (cN high wd) (cN low wd) (cN d wd) q r _ _ _ _ _ _ _ _ _ _ c1 c2 c3 hQ hD hMu hA1' hA2' (by omega) (decide_eq_true hlt) (decide_eq_true hr) w hm
  · exact dback_none high low d wd (cN high wd) (cN low wd) (cN d wd) c1 c2 c3 (fun W hW => adiv_none high low d hh hl hd wd hlt W hW) (decide_eq_false hlt) w hm
theorem walkIn_dback (a0 a1 a2 a3 : Int) (_ : (Lit.int .i64 a0).wf = true) (w1 : (Lit.int .u64 a1).wf = true) (w2 : (Lit.int .u64 a2).wf = true) (w3 : (Lit.int .u64 a3).wf = true) (w : World) (hm : Mk w) : Calls Tryd.prog 4 #[.int .i64 a0, .int .u64 a1, .int .u64 a2, .int .u64 a3] w fun e w' => e = .returned (.bool true) ∧ Below w.heap.size w w' := by
  obtain ⟨k, rfl, hk⟩ := nat_of_wf w1
  obtain ⟨j, rfl, hj⟩ := nat_of_wf w2
  obtain ⟨i, rfl, hi⟩ := nat_of_wf w3
  exact law_dback k j i hk hj hi a0 w hm
end Go.Proofs.YtmfoeolllobidaaDoor
