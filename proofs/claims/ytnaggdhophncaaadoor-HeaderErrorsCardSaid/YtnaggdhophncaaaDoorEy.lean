/- HeaderErrors' walk. -/
import Derived.Test.YtnaggdhophncaaaDoorEr
namespace Go.Proofs.YtnaggdhophncaaaDoor
open Go.RowKit Go.Shelf
set_option linter.unusedVariables false
set_option linter.unusedSimpArgs false
attribute [local go_sem] Oper.semAt_some
set_option maxRecDepth 100000 in
set_option maxHeartbeats 16000000 in
theorem errors5_walk (en so sc : Nat) (zs : List Sg) (cs : List Sc) (a1 a2 : Option Addr) (p1 p2 : Nat) (at_ : Int) (by_ : Nat) (cut : Int) (hby : by_ < 256) (hcut : -9223372036854775808 ≤ cut ∧ cut ≤ 9223372036854775807) (hat : -9223372036854775808 ≤ at_ ∧ at_ ≤ 9223372036854775807) (hz : ∀ s ∈ zs, s.ok) (hc : ∀ s ∈ cs, s.ok) (hen : U en) (w : World) (hG : GM w)
    (h1 : RX w a1 (zs.flatMap Sg.cs)) (h2 : RX w a2 (cs.flatMap Sc.cs)) :
    Calls Tryd.prog 5 #[.agg #[.int .u64 (en : Nat), .int .u64 (so : Nat), .int .u64 (sc : Nat), .slice a1 zs.length p1, .slice a2 cs.length p2], .int .i64 at_, .int .u8 (by_ : Nat), .int .i64 cut] w fun e W' => e = .returned (.bool true) ∧ Below w.heap.size w W' := by
  have HS0 : SB w [] [(a1, zs.flatMap Sg.cs), (a2, cs.flatMap Sc.cs)] w := ⟨fun x hx => absurd hx (by simp), fun x hx => by
    simp only [List.mem_cons, List.not_mem_nil, or_false] at hx
    rcases hx with rfl | rfl
    · exact h1
    · exact h2, hG, Below.refl _ _⟩
  have HR0 := Lib.hid HS0.2.1
  have HG2 := Lib.hid hG.2
  have HOK := Lib.hid (And.intro hz (And.intro hc (And.intro hen hby)))
  have HS := Lib.hid (HS0.box #[.int .u64 (en : Nat), .int .u64 (so : Nat), .int .u64 (sc : Nat), .slice a1 zs.length p1, .slice a2 cs.length p2] 27)
  clear HS0 hz hc hen hG h1 h2
  go_enter Tryd.func5, Tryd.ntmps5
  go_upto_region 1 with fail
  generalize World.alloc w _ = W1 at HS ⊢
  by_cases hn16 : zs.length ≤ 16
  rotate_left
  · have e1 : decide ((16 : Int) < (zs.length : Int)) = true := decide_eq_true (by omega)
    have c3 : W1.cell? ⟨w.heap.size, 3, none⟩ = some (.slice a1 zs.length p1) := cell_at (HS.out.1 _ (.head _)) rfl
    have c4 : W1.cell? ⟨w.heap.size, 4, none⟩ = some (.slice a2 cs.length p2) := cell_at (HS.out.1 _ (.head _)) rfl
    go_wp2_with (first | (go_at_call 9; refine (wakes_any _ HS.out.2.2.1).mono ?_) | fail)
    first | (rintro e W3 rfl hb) | (rintro e W3 ⟨rfl, hb⟩)
    have HE := Lib.hid (HS.out.keep hb)
    go_wp2_with fail
    go_ret
    exact ⟨rfl, HE.out.2.2.2⟩
  by_cases hm32 : cs.length ≤ 32
  rotate_left
  · have e1 : decide ((16 : Int) < (zs.length : Int)) = false := decide_eq_false (by omega)
    have e2 : decide ((32 : Int) < (cs.length : Int)) = true := decide_eq_true (by omega)
    have c3 : W1.cell? ⟨w.heap.size, 3, none⟩ = some (.slice a1 zs.length p1) := cell_at (HS.out.1 _ (.head _)) rfl
    have c4 : W1.cell? ⟨w.heap.size, 4, none⟩ = some (.slice a2 cs.length p2) := cell_at (HS.out.1 _ (.head _)) rfl
    go_wp2_with (first | (go_at_call 9; refine (wakes_any _ HS.out.2.2.1).mono ?_) | fail)
    first | (rintro e W3 rfl hb) | (rintro e W3 ⟨rfl, hb⟩)
    have HE := Lib.hid (HS.out.keep hb)
    go_wp2_with fail
    go_ret
    exact ⟨rfl, HE.out.2.2.2⟩
  by_cases hb0 : by_ = 0
  · subst hb0
    have e1 : decide ((16 : Int) < (zs.length : Int)) = false := decide_eq_false (by omega)
    have e2 : decide ((32 : Int) < (cs.length : Int)) = false := decide_eq_false (by omega)
    have c3 : W1.cell? ⟨w.heap.size, 3, none⟩ = some (.slice a1 zs.length p1) := cell_at (HS.out.1 _ (.head _)) rfl
    have c4 : W1.cell? ⟨w.heap.size, 4, none⟩ = some (.slice a2 cs.length p2) := cell_at (HS.out.1 _ (.head _)) rfl
    go_wp2_with (first | (go_at_call 9; refine (wakes_any _ HS.out.2.2.1).mono ?_) | fail)
    first | (rintro e W3 rfl hb) | (rintro e W3 ⟨rfl, hb⟩)
    have HE := Lib.hid (HS.out.keep hb)
    go_wp2_with fail
    go_ret
    exact ⟨rfl, HE.out.2.2.2⟩
  have e0 : ((by_ : Int) == 0) = false := by simp [hb0]
  have e1 : decide ((16 : Int) < (zs.length : Int)) = false := decide_eq_false (by omega)
  have e2 : decide ((32 : Int) < (cs.length : Int)) = false := decide_eq_false (by omega)
  have c3 : W1.cell? ⟨w.heap.size, 3, none⟩ = some (.slice a1 zs.length p1) := cell_at (HS.out.1 _ (.head _)) rfl
  have c4 : W1.cell? ⟨w.heap.size, 4, none⟩ = some (.slice a2 cs.length p2) := cell_at (HS.out.1 _ (.head _)) rfl
  go_upto_region 3 with fail
  clear e0 e1 e2 c3 c4
  have HLD := Lib.hid (fun W (h : SB w [(w.heap.size, #[.int .u64 (en : Nat), .int .u64 (so : Nat), .int .u64 (sc : Nat), .slice a1 zs.length p1, .slice a2 cs.length p2], 27)] [(a1, zs.flatMap Sg.cs), (a2, cs.flatMap Sc.cs)] W) => laid_any en so sc zs cs a1 a2 p1 p2 none 0 0 (fun _ => 0) HOK.out.1 HOK.out.2.1 (by omega) (by omega) (by decide) W (h.2.1 _ (.head _)) (h.2.1 _ (.tail _ (.head _))) (.inl ⟨rfl, rfl, rfl⟩))
  obtain ⟨N1, hN1⟩ : ∃ N1, 64 + 56 * zs.length + 64 * cs.length + 0 = N1 := ⟨_, rfl⟩
  rw [hN1] at HLD
  have HN1 := Lib.hid (show 64 + 56 * zs.length + 64 * cs.length = N1 ∧ 64 ≤ N1 ∧ N1 ≤ 131072 by omega)
  have HNN := Lib.hid (And.intro hn16 (And.intro hm32 hb0))
  clear hN1 hn16 hm32 hb0
  generalize hZ : laidZ en zs cs (fun _ => 0) = Z at HLD
  have HZ := Lib.hid hZ
  clear hZ
  have r0 : W1.cell? ⟨w.heap.size, 0, none⟩ = some (.int .u64 (en : Nat)) := cell_at (HS.out.1 _ (.head _)) rfl
  have r1 : W1.cell? ⟨w.heap.size, 1, none⟩ = some (.int .u64 (so : Nat)) := cell_at (HS.out.1 _ (.head _)) rfl
  have r2 : W1.cell? ⟨w.heap.size, 2, none⟩ = some (.int .u64 (sc : Nat)) := cell_at (HS.out.1 _ (.head _)) rfl
  have r3 : W1.cell? ⟨w.heap.size, 3, none⟩ = some (.slice a1 zs.length p1) := cell_at (HS.out.1 _ (.head _)) rfl
  have r4 : W1.cell? ⟨w.heap.size, 4, none⟩ = some (.slice a2 cs.length p2) := cell_at (HS.out.1 _ (.head _)) rfl
  go_wp2_with (first | (go_at_call 24; refine (HLD.out _ HS.out).mono ?_) | fail)
  rintro e W2 ⟨v, rfl, ho, hb⟩
  obtain ⟨gb, cb, rfl, hcb1, hcb2⟩ := owns_some ho (by have := HN1.out; omega)
  have HGB := Lib.hid (show w.heap.size + 1 ≤ gb by
    have h1 := (Array.getElem?_eq_some_iff.1 (HS.out.1 _ (.head _))).1
    obtain ⟨_, h2, _⟩ := own_tk ho
    dsimp only at h1
    omega)
  obtain ⟨curB, _, hcB, tkB⟩ := own_tk ho
  replace HS := Lib.hid ((HS.out.keep hb).row hcB)
  have HTB := Lib.hid (And.intro tkB (And.intro hcb1 hcb2))
  clear ho hb hcB tkB hcb1 hcb2 HLD r0 r1 r2 r3 r4
  have hN := HN1.out.2
  have u1 : IntKind.i64.wrap ((N1 : Int) + 1) = (N1 : Int) + 1 := IntWalk.i64_in _ (by omega)
  obtain ⟨r1, hr1⟩ : ∃ r1, cut.tmod ((N1 : Int) + 1) = r1 := ⟨_, rfl⟩
  have hr2 : -(N1 : Int) ≤ r1 ∧ r1 ≤ (N1 : Int) := by
    have h1 := Int.tmod_lt_of_pos cut (show (0 : Int) < (N1 : Int) + 1 by omega)
    have h2 := Int.lt_tmod_of_pos cut (show (0 : Int) < (N1 : Int) + 1 by omega)
    omega
  obtain ⟨k, hk1, hk2⟩ : ∃ k : Nat, (r1 + (N1 : Int) + 1).tmod ((N1 : Int) + 1) = (k : Int) ∧ k ≤ N1 := by
    have h1 := Int.tmod_lt_of_pos (r1 + (N1 : Int) + 1) (show (0 : Int) < (N1 : Int) + 1 by omega)
    have h2 := Int.tmod_nonneg ((N1 : Int) + 1) (show 0 ≤ r1 + (N1 : Int) + 1 by omega)
    exact ⟨((r1 + (N1 : Int) + 1).tmod ((N1 : Int) + 1)).toNat, by omega, by omega⟩
  have w1 : wrap64 (r1 + (N1 : Int)) = r1 + (N1 : Int) := IntWalk.wrap64_in _ (by omega)
  have w2 : wrap64 (r1 + (N1 : Int) + 1) = r1 + (N1 : Int) + 1 := IntWalk.wrap64_in _ (by omega)
  go_upto_region 5 with fail
  clear w1 w2 u1 hr1 hr2 hk1
  obtain ⟨q1, hq1⟩ : ∃ q1, at_.tmod 24 = q1 := ⟨_, rfl⟩
  have hq2 : -24 < q1 ∧ q1 < 24 := by
    have h1 := Int.tmod_lt_of_pos at_ (show (0 : Int) < 24 by omega)
    have h2 := Int.lt_tmod_of_pos at_ (show (0 : Int) < 24 by omega)
    omega
  obtain ⟨p, hp1, hp2⟩ : ∃ p : Nat, (q1 + 24).tmod 24 = (p : Int) ∧ p < 24 := by
    have h1 := Int.tmod_lt_of_pos (q1 + 24) (show (0 : Int) < 24 by omega)
    have h2 := Int.tmod_nonneg 24 (show 0 ≤ q1 + 24 by omega)
    exact ⟨((q1 + 24).tmod 24).toNat, by omega, by omega⟩
  have hq3 : wrap64 (q1 + 24) = q1 + 24 := IntWalk.wrap64_in _ (by omega)
  obtain ⟨x, hx1, hx2, hx3⟩ := xor_nat (a := Z p) (b := by_) (by rw [← HZ.out]; exact laid_lt (fun _ => Nat.zero_lt_succ _) p) HOK.out.2.2.2 HNN.out.2.2
  have HX := Lib.hid (And.intro hx1 (And.intro hx2 hx3))
  have HQ := Lib.hid (And.intro hq1 (And.intro hp1 hq3))
  clear hx1 hx2 hx3 hq1 hp1 hq3 hq2
  obtain ⟨L, hL⟩ : ∃ L, L = N1 - k := ⟨_, rfl⟩
  have u2 : IntKind.i64.wrap ((N1 : Int) - (k : Int)) = (N1 : Int) - (k : Int) := IntWalk.i64_in _ (by omega)
  have ht : ((N1 : Int) - (k : Int)).toNat = L := by omega
  have hi0 : 0 ≤ (N1 : Int) - (k : Int) := by omega
  have hi1 : (N1 : Int) - (k : Int) ≤ (cb : Int) := by have := HTB.out.2; omega
  have hLc : L ≤ cb := by have := HTB.out.2; omega
  have hBS := (HTB.out.1.bs (HS.out.1 _ (.head _))).less (show L ≤ N1 by omega)
  rw [← HZ.out] at hBS
  have HLL := Lib.hid (And.intro hL hk2)
  have HCC := Lib.hid HTB.out.2
  clear hL hN
  by_cases hA : L < 64
  · have HRC := Lib.hid (cut_short (fun _ => Nat.zero_lt_succ _) hLc HCC.out.2 hA W2 hBS HS.out.2.2.1)
    have d1 : decide ((N1 : Int) - (k : Int) < 64) = true := decide_eq_true (by have := HLL.out; omega)
    clear hA hBS hLc
    go_wp2_with (first | (go_at_call 10; refine HRC.out.mono ?_) | fail)
    rintro e W3 ⟨rfl, hb⟩
    replace HS := Lib.hid (HS.out.keep hb)
    clear hb HRC ht hi0 hi1
    have HD1 := Lib.hid (Array.getElem?_eq_some_iff.1 (HS.out.1 _ (.head _))).1
    go_upto_region 6 with fail
    replace HS := Lib.hid (HS.out.box #[.int .u64 0, .int .u64 0, .int .u64 0, .slice none 0 0, .slice none 0 0] 27)
    generalize World.alloc W3 _ = W4 at HS ⊢
    generalize W3.heap.size = D1 at HS HD1 ⊢
    have hmk : (Instr.makeSlice 22 (.int .i64 131073) (.int .i64 131073)).run Tryd.prog W4 = .ok (.slice (some ⟨W4.heap.size, 0, none⟩) 131073 131073) (W4.alloc (.cells (rowB (fun _ => 0) 131073).toArray 5)) := make_big 131073 (by decide) W4
    have HBG := Lib.hid (big_arg (fun _ => Nat.zero_lt_succ _) (Nat.le_refl 131073) (by decide) (by decide) (W4.alloc (.cells (rowB (fun _ => 0) 131073).toArray 5)) (BR.bs (heap_alloc_last W4 _)) (HS.out.alloc _).2.2.1)
    replace HS := Lib.hid (HS.out.alloc (.cells (rowB (fun _ => 0) 131073).toArray 5))
    generalize (W4.alloc (.cells (rowB (fun _ => 0) 131073).toArray 5)) = W4b at HS HBG hmk
    go_wp2_with (first | (go_at_call 10; refine HBG.out.mono ?_) | fail)
    rintro e W5 ⟨rfl, hb⟩
    replace HS := Lib.hid (HS.out.keep hb)
    clear hb HBG hmk d1 
    have HD2 := Lib.hid (Array.getElem?_eq_some_iff.1 (HS.out.1 _ (.tail _ (.head _)))).1
    go_upto_region 12 with fail
    replace HS := Lib.hid (HS.out.box #[.int .u64 0, .int .u64 0, .int .u64 0, .slice none 0 0, .slice none 0 0] 27)
    generalize World.alloc W5 _ = W6 at HS ⊢
    generalize W5.heap.size = D2 at HS HD2 ⊢
    obtain ⟨hq1, hp1, hq3⟩ := HQ.out
    go_upto_region 13 with fail
    clear hq1 hp1 hq3
    have hx1 := HX.out.1
    have hpN : p < N1 := by have := HN1.out; omega
    have cp : W6.cell? ⟨gb, p, none⟩ = some (.int .u8 (Z p : Nat)) := cell_at (HS.out.1 _ (.tail _ (.tail _ (.head _)))) (HTB.out.1.at_ p hpN)
    have fp := frozen_at (HS.out.1 _ (.tail _ (.tail _ (.head _)))) p
    have HB6 : Hid (W6.heap[gb]? = some (.cells curB 5 (0, 0))) := Lib.hid (HS.out.1 _ (.tail _ (.tail _ (.head _))))
    go_upto_region 14 with fail
    clear hx1 cp fp
    rw [setCell_eq_setRow W6 _ _ _ _ _ _ HB6.out]
    have HTC := Lib.hid (And.intro (HTB.out.1.one hpN x) HTB.out.2)
    have HS7 : Hid (SB w ((gb, curB.setIfInBounds p (.int .u8 (x : Nat)), 5) :: [(D2, #[.int .u64 0, .int .u64 0, .int .u64 0, .slice none 0 0, .slice none 0 0], 27), (D1, #[.int .u64 0, .int .u64 0, .int .u64 0, .slice none 0 0, .slice none 0 0], 27), (w.heap.size, #[.int .u64 (en : Nat), .int .u64 (so : Nat), .int .u64 (sc : Nat), .slice a1 zs.length p1, .slice a2 cs.length p2], 27)]) [(a1, zs.flatMap Sg.cs), (a2, cs.flatMap Sc.cs)] _) := Lib.hid (SB.put (l := [(D2, #[.int .u64 0, .int .u64 0, .int .u64 0, .slice none 0 0, .slice none 0 0], 27), (D1, #[.int .u64 0, .int .u64 0, .int .u64 0, .slice none 0 0, .slice none 0 0], 27), (w.heap.size, #[.int .u64 (en : Nat), .int .u64 (so : Nat), .int .u64 (sc : Nat), .slice a1 zs.length p1, .slice a2 cs.length p2], 27)]) (HS.out.less (fun y hy => by
        simp only [List.mem_cons, List.not_mem_nil, or_false] at hy ⊢
        rcases hy with h | h | h <;> simp [h])) HR0.out (g := gb) (by have := HGB.out; omega) (by have := HGB.out; omega) (by have h1 := HGB.out; have h2 := HG2.out; omega) (fun y hy => by
        simp only [List.mem_cons, List.not_mem_nil, or_false] at hy
        have h1 := HD1.out
        have h2 := HD2.out
        have h3 := HGB.out
        rcases hy with rfl | rfl | rfl <;> dsimp only at h1 h2 ⊢ <;> omega) HB6.out (curB.setIfInBounds p (.int .u8 (x : Nat))))
    generalize W6.setRow gb _ = W7 at HS7 ⊢
    generalize curB.setIfInBounds p _ = curC at HS7 HTC
    clear HS HB6 HTB
    have hBS := HTC.out.1.bs (HS7.out.1 _ (.head _))
    rw [← HZ.out] at hBS
    have hxz := HX.out.2.2
    rw [← HZ.out] at hxz
    have hs1 := HN1.out
    have z0 : W7.cell? ⟨D1, 0, none⟩ = some (.int .u64 0) := cell_at (HS7.out.1 _ (.tail _ (.tail _ (.head _)))) rfl
    have z1 : W7.cell? ⟨D1, 1, none⟩ = some (.int .u64 0) := cell_at (HS7.out.1 _ (.tail _ (.tail _ (.head _)))) rfl
    have z2 : W7.cell? ⟨D1, 2, none⟩ = some (.int .u64 0) := cell_at (HS7.out.1 _ (.tail _ (.tail _ (.head _)))) rfl
    have z3 : W7.cell? ⟨D1, 3, none⟩ = some (.slice none 0 0) := cell_at (HS7.out.1 _ (.tail _ (.tail _ (.head _)))) rfl
    have z4 : W7.cell? ⟨D1, 4, none⟩ = some (.slice none 0 0) := cell_at (HS7.out.1 _ (.tail _ (.tail _ (.head _)))) rfl
    have HSM := Lib.hid (fun W => rsame_any 0 0 0 [] [] none none none none 0 0 0 0 (fun s h => absurd h (by simp)) (fun s h => absurd h (by simp)) (by decide) (by decide) W (fun h => absurd h (by simp)) (fun h => absurd h (by simp)) (fun h => absurd h (by simp)) (fun h => absurd h (by simp)))
    simp only [List.length_nil] at HSM
    by_cases hP : p < 4
    · have HRE := Lib.hid (one_bad31 (fun _ => Nat.zero_lt_succ _) HTC.out.2.1 HTC.out.2.2 (by omega) (by omega) hP hxz HX.out.2.1 W7 hBS HS7.out.2.2.1)
      have g0 : decide ((p : Int) < 4) = true := decide_eq_true (by omega)
      have g1 : decide ((7 : Int) ≤ (p : Int)) = false := decide_eq_false (by omega)
      clear hBS hxz hs1 hpN hP
      go_wp2_with (first | (go_at_call 10; refine HRE.out.mono ?_) | fail)
      rintro e W8 ⟨rfl, hb⟩
      have HS8 := Lib.hid (HS7.out.keep hb)
      clear hb HRE HS7 z0 z1 z2 z3 z4
      go_upto_region 15 with fail
      replace HS8 := Lib.hid (HS8.out.alloc (.cells #[.int .u64 0, .int .u64 0, .int .u64 0, .slice none 0 0, .slice none 0 0] 27))
      generalize World.alloc W8 _ = W9 at HS8 ⊢
      have z0 : W9.cell? ⟨D1, 0, none⟩ = some (.int .u64 0) := cell_at (HS8.out.1 _ (.tail _ (.tail _ (.head _)))) rfl
      have z1 : W9.cell? ⟨D1, 1, none⟩ = some (.int .u64 0) := cell_at (HS8.out.1 _ (.tail _ (.tail _ (.head _)))) rfl
      have z2 : W9.cell? ⟨D1, 2, none⟩ = some (.int .u64 0) := cell_at (HS8.out.1 _ (.tail _ (.tail _ (.head _)))) rfl
      have z3 : W9.cell? ⟨D1, 3, none⟩ = some (.slice none 0 0) := cell_at (HS8.out.1 _ (.tail _ (.tail _ (.head _)))) rfl
      have z4 : W9.cell? ⟨D1, 4, none⟩ = some (.slice none 0 0) := cell_at (HS8.out.1 _ (.tail _ (.tail _ (.head _)))) rfl
      go_wp2_with (first | (go_at_call 12; refine (HSM.out _).mono ?_) | fail)
      first | (rintro e W10 rfl hb) | (rintro e W10 ⟨rfl, hb⟩)
      replace HS8 := Lib.hid (HS8.out.keep hb)
      clear hb z0 z1 z2 z3 z4
      go_wp2_with (first | (go_at_call 9; refine (wakes_any _ HS8.out.2.2.1).mono ?_) | fail)
      first | (rintro e W11 rfl hb) | (rintro e W11 ⟨rfl, hb⟩)
      have HE := Lib.hid (HS8.out.keep hb)
      go_wp2_with fail
      go_ret
      exact ⟨rfl, HE.out.2.2.2⟩
    by_cases hP : p < 7
    · have HRE := Lib.hid (one_bad32 (fun _ => Nat.zero_lt_succ _) HNN.out.1 HNN.out.2.1 HTC.out.2.1 HTC.out.2.2 (by omega) (by omega) (by omega) hxz HX.out.2.1 W7 hBS HS7.out.2.2.1)
      have g0 : decide ((p : Int) < 4) = false := decide_eq_false (by omega)
      have g1 : decide ((7 : Int) ≤ (p : Int)) = false := decide_eq_false (by omega)
      clear hBS hxz hs1 hpN hP
      go_wp2_with (first | (go_at_call 10; refine HRE.out.mono ?_) | fail)
      rintro e W8 ⟨rfl, hb⟩
      have HS8 := Lib.hid (HS7.out.keep hb)
      clear hb HRE HS7 z0 z1 z2 z3 z4
      go_upto_region 15 with fail
      replace HS8 := Lib.hid (HS8.out.alloc (.cells #[.int .u64 0, .int .u64 0, .int .u64 0, .slice none 0 0, .slice none 0 0] 27))
      generalize World.alloc W8 _ = W9 at HS8 ⊢
      have z0 : W9.cell? ⟨D1, 0, none⟩ = some (.int .u64 0) := cell_at (HS8.out.1 _ (.tail _ (.tail _ (.head _)))) rfl
      have z1 : W9.cell? ⟨D1, 1, none⟩ = some (.int .u64 0) := cell_at (HS8.out.1 _ (.tail _ (.tail _ (.head _)))) rfl
      have z2 : W9.cell? ⟨D1, 2, none⟩ = some (.int .u64 0) := cell_at (HS8.out.1 _ (.tail _ (.tail _ (.head _)))) rfl
      have z3 : W9.cell? ⟨D1, 3, none⟩ = some (.slice none 0 0) := cell_at (HS8.out.1 _ (.tail _ (.tail _ (.head _)))) rfl
      have z4 : W9.cell? ⟨D1, 4, none⟩ = some (.slice none 0 0) := cell_at (HS8.out.1 _ (.tail _ (.tail _ (.head _)))) rfl
      go_wp2_with (first | (go_at_call 12; refine (HSM.out _).mono ?_) | fail)
      first | (rintro e W10 rfl hb) | (rintro e W10 ⟨rfl, hb⟩)
      replace HS8 := Lib.hid (HS8.out.keep hb)
      clear hb z0 z1 z2 z3 z4
      go_wp2_with (first | (go_at_call 9; refine (wakes_any _ HS8.out.2.2.1).mono ?_) | fail)
      first | (rintro e W11 rfl hb) | (rintro e W11 ⟨rfl, hb⟩)
      have HE := Lib.hid (HS8.out.keep hb)
      go_wp2_with fail
      go_ret
      exact ⟨rfl, HE.out.2.2.2⟩
    by_cases hP : p < 16
    · have HRE := Lib.hid (one_good (rz := fun _ => 0) HOK.out.1 HOK.out.2.1 HOK.out.2.2.1 (fun _ => Nat.zero_lt_succ _) HNN.out.1 HNN.out.2.1 HTC.out.2.1 HTC.out.2.2 (by omega) (by omega) (by omega) HX.out.2.1 W7 hBS HS7.out.2.2.1)
      obtain ⟨N2, hN2⟩ : ∃ N2, 64 + 56 * zs.length = N2 := ⟨_, rfl⟩
      rw [hN2] at HRE
      clear hN2
      have g0 : decide ((p : Int) < 4) = false := decide_eq_false (by omega)
      have g1 : decide ((7 : Int) ≤ (p : Int)) = true := decide_eq_true (by omega)
      have g2 : decide ((p : Int) < 16) = true := decide_eq_true (by omega)
      clear hBS hxz hs1 hpN hP
      go_wp2_with (first | (go_at_call 10; refine HRE.out.mono ?_) | fail)
      rintro e W8 ⟨u1, v1, u2, v2, rfl, _, _, hb⟩
      have HS8 := Lib.hid (HS7.out.keep hb)
      clear hb HRE HS7 z0 z1 z2 z3 z4
      go_upto_region 15 with fail
      replace HS8 := Lib.hid (HS8.out.alloc (.cells #[.int .u64 (en : Nat), .int .u64 64, .int .u64 (N2 : Nat), .slice u1 zs.length v1, .slice u2 cs.length v2] 27))
      generalize World.alloc W8 _ = W9 at HS8 ⊢
      have z0 : W9.cell? ⟨D1, 0, none⟩ = some (.int .u64 0) := cell_at (HS8.out.1 _ (.tail _ (.tail _ (.head _)))) rfl
      have z1 : W9.cell? ⟨D1, 1, none⟩ = some (.int .u64 0) := cell_at (HS8.out.1 _ (.tail _ (.tail _ (.head _)))) rfl
      have z2 : W9.cell? ⟨D1, 2, none⟩ = some (.int .u64 0) := cell_at (HS8.out.1 _ (.tail _ (.tail _ (.head _)))) rfl
      have z3 : W9.cell? ⟨D1, 3, none⟩ = some (.slice none 0 0) := cell_at (HS8.out.1 _ (.tail _ (.tail _ (.head _)))) rfl
      have z4 : W9.cell? ⟨D1, 4, none⟩ = some (.slice none 0 0) := cell_at (HS8.out.1 _ (.tail _ (.tail _ (.head _)))) rfl
      go_wp2_with (first | (go_at_call 12; refine (HSM.out _).mono ?_) | fail)
      first | (rintro e W10 rfl hb) | (rintro e W10 ⟨rfl, hb⟩)
      replace HS8 := Lib.hid (HS8.out.keep hb)
      clear hb z0 z1 z2 z3 z4
      go_wp2_with (first | (go_at_call 9; refine (wakes_any _ HS8.out.2.2.1).mono ?_) | fail)
      first | (rintro e W11 rfl hb) | (rintro e W11 ⟨rfl, hb⟩)
      have HE := Lib.hid (HS8.out.keep hb)
      go_wp2_with fail
      go_ret
      exact ⟨rfl, HE.out.2.2.2⟩
    have HRE := Lib.hid (one_bad32 (fun _ => Nat.zero_lt_succ _) HNN.out.1 HNN.out.2.1 HTC.out.2.1 HTC.out.2.2 (by omega) (by omega) (by omega) hxz HX.out.2.1 W7 hBS HS7.out.2.2.1)
    have g0 : decide ((p : Int) < 4) = false := decide_eq_false (by omega)
    have g1 : decide ((7 : Int) ≤ (p : Int)) = true := decide_eq_true (by omega)
    have g2 : decide ((p : Int) < 16) = false := decide_eq_false (by omega)
    clear hBS hxz hs1 hpN 
    go_wp2_with (first | (go_at_call 10; refine HRE.out.mono ?_) | fail)
    rintro e W8 ⟨rfl, hb⟩
    have HS8 := Lib.hid (HS7.out.keep hb)
    clear hb HRE HS7 z0 z1 z2 z3 z4
    go_upto_region 15 with fail
    replace HS8 := Lib.hid (HS8.out.alloc (.cells #[.int .u64 0, .int .u64 0, .int .u64 0, .slice none 0 0, .slice none 0 0] 27))
    generalize World.alloc W8 _ = W9 at HS8 ⊢
    have z0 : W9.cell? ⟨D1, 0, none⟩ = some (.int .u64 0) := cell_at (HS8.out.1 _ (.tail _ (.tail _ (.head _)))) rfl
    have z1 : W9.cell? ⟨D1, 1, none⟩ = some (.int .u64 0) := cell_at (HS8.out.1 _ (.tail _ (.tail _ (.head _)))) rfl
    have z2 : W9.cell? ⟨D1, 2, none⟩ = some (.int .u64 0) := cell_at (HS8.out.1 _ (.tail _ (.tail _ (.head _)))) rfl
    have z3 : W9.cell? ⟨D1, 3, none⟩ = some (.slice none 0 0) := cell_at (HS8.out.1 _ (.tail _ (.tail _ (.head _)))) rfl
    have z4 : W9.cell? ⟨D1, 4, none⟩ = some (.slice none 0 0) := cell_at (HS8.out.1 _ (.tail _ (.tail _ (.head _)))) rfl
    go_wp2_with (first | (go_at_call 12; refine (HSM.out _).mono ?_) | fail)
    first | (rintro e W10 rfl hb) | (rintro e W10 ⟨rfl, hb⟩)
    replace HS8 := Lib.hid (HS8.out.keep hb)
    clear hb z0 z1 z2 z3 z4
    go_wp2_with (first | (go_at_call 9; refine (wakes_any _ HS8.out.2.2.1).mono ?_) | fail)
    first | (rintro e W11 rfl hb) | (rintro e W11 ⟨rfl, hb⟩)
    have HE := Lib.hid (HS8.out.keep hb)
    go_wp2_with fail
    go_ret
    exact ⟨rfl, HE.out.2.2.2⟩
  by_cases hk0 : k = 0
  rotate_left
  · have HRC := Lib.hid (cut_place (fun _ => Nat.zero_lt_succ _) HOK.out.2.2.1 HNN.out.1 HNN.out.2.1 hLc HCC.out.2 (by omega) (by have h1 := HLL.out; have h2 := HN1.out; omega) W2 hBS HS.out.2.2.1)
    have d1 : decide ((N1 : Int) - (k : Int) < 64) = false := decide_eq_false (by have := HLL.out; omega)
    have d2 : decide (0 < k) = true := decide_eq_true (by omega)
    clear hA hBS hLc hk0
    go_wp2_with (first | (go_at_call 10; refine HRC.out.mono ?_) | fail)
    rintro e W3 ⟨rfl, hb⟩
    replace HS := Lib.hid (HS.out.keep hb)
    clear hb HRC ht hi0 hi1
    have HD1 := Lib.hid (Array.getElem?_eq_some_iff.1 (HS.out.1 _ (.head _))).1
    go_upto_region 6 with fail
    replace HS := Lib.hid (HS.out.box #[.int .u64 0, .int .u64 0, .int .u64 0, .slice none 0 0, .slice none 0 0] 27)
    generalize World.alloc W3 _ = W4 at HS ⊢
    generalize W3.heap.size = D1 at HS HD1 ⊢
    have hmk : (Instr.makeSlice 22 (.int .i64 131073) (.int .i64 131073)).run Tryd.prog W4 = .ok (.slice (some ⟨W4.heap.size, 0, none⟩) 131073 131073) (W4.alloc (.cells (rowB (fun _ => 0) 131073).toArray 5)) := make_big 131073 (by decide) W4
    have HBG := Lib.hid (big_arg (fun _ => Nat.zero_lt_succ _) (Nat.le_refl 131073) (by decide) (by decide) (W4.alloc (.cells (rowB (fun _ => 0) 131073).toArray 5)) (BR.bs (heap_alloc_last W4 _)) (HS.out.alloc _).2.2.1)
    replace HS := Lib.hid (HS.out.alloc (.cells (rowB (fun _ => 0) 131073).toArray 5))
    generalize (W4.alloc (.cells (rowB (fun _ => 0) 131073).toArray 5)) = W4b at HS HBG hmk
    go_wp2_with (first | (go_at_call 10; refine HBG.out.mono ?_) | fail)
    rintro e W5 ⟨rfl, hb⟩
    replace HS := Lib.hid (HS.out.keep hb)
    clear hb HBG hmk d1 d2
    have HD2 := Lib.hid (Array.getElem?_eq_some_iff.1 (HS.out.1 _ (.tail _ (.head _)))).1
    go_upto_region 12 with fail
    replace HS := Lib.hid (HS.out.box #[.int .u64 0, .int .u64 0, .int .u64 0, .slice none 0 0, .slice none 0 0] 27)
    generalize World.alloc W5 _ = W6 at HS ⊢
    generalize W5.heap.size = D2 at HS HD2 ⊢
    obtain ⟨hq1, hp1, hq3⟩ := HQ.out
    go_upto_region 13 with fail
    clear hq1 hp1 hq3
    have hx1 := HX.out.1
    have hpN : p < N1 := by have := HN1.out; omega
    have cp : W6.cell? ⟨gb, p, none⟩ = some (.int .u8 (Z p : Nat)) := cell_at (HS.out.1 _ (.tail _ (.tail _ (.head _)))) (HTB.out.1.at_ p hpN)
    have fp := frozen_at (HS.out.1 _ (.tail _ (.tail _ (.head _)))) p
    have HB6 : Hid (W6.heap[gb]? = some (.cells curB 5 (0, 0))) := Lib.hid (HS.out.1 _ (.tail _ (.tail _ (.head _))))
    go_upto_region 14 with fail
    clear hx1 cp fp
    rw [setCell_eq_setRow W6 _ _ _ _ _ _ HB6.out]
    have HTC := Lib.hid (And.intro (HTB.out.1.one hpN x) HTB.out.2)
    have HS7 : Hid (SB w ((gb, curB.setIfInBounds p (.int .u8 (x : Nat)), 5) :: [(D2, #[.int .u64 0, .int .u64 0, .int .u64 0, .slice none 0 0, .slice none 0 0], 27), (D1, #[.int .u64 0, .int .u64 0, .int .u64 0, .slice none 0 0, .slice none 0 0], 27), (w.heap.size, #[.int .u64 (en : Nat), .int .u64 (so : Nat), .int .u64 (sc : Nat), .slice a1 zs.length p1, .slice a2 cs.length p2], 27)]) [(a1, zs.flatMap Sg.cs), (a2, cs.flatMap Sc.cs)] _) := Lib.hid (SB.put (l := [(D2, #[.int .u64 0, .int .u64 0, .int .u64 0, .slice none 0 0, .slice none 0 0], 27), (D1, #[.int .u64 0, .int .u64 0, .int .u64 0, .slice none 0 0, .slice none 0 0], 27), (w.heap.size, #[.int .u64 (en : Nat), .int .u64 (so : Nat), .int .u64 (sc : Nat), .slice a1 zs.length p1, .slice a2 cs.length p2], 27)]) (HS.out.less (fun y hy => by
        simp only [List.mem_cons, List.not_mem_nil, or_false] at hy ⊢
        rcases hy with h | h | h <;> simp [h])) HR0.out (g := gb) (by have := HGB.out; omega) (by have := HGB.out; omega) (by have h1 := HGB.out; have h2 := HG2.out; omega) (fun y hy => by
        simp only [List.mem_cons, List.not_mem_nil, or_false] at hy
        have h1 := HD1.out
        have h2 := HD2.out
        have h3 := HGB.out
        rcases hy with rfl | rfl | rfl <;> dsimp only at h1 h2 ⊢ <;> omega) HB6.out (curB.setIfInBounds p (.int .u8 (x : Nat))))
    generalize W6.setRow gb _ = W7 at HS7 ⊢
    generalize curB.setIfInBounds p _ = curC at HS7 HTC
    clear HS HB6 HTB
    have hBS := HTC.out.1.bs (HS7.out.1 _ (.head _))
    rw [← HZ.out] at hBS
    have hxz := HX.out.2.2
    rw [← HZ.out] at hxz
    have hs1 := HN1.out
    have z0 : W7.cell? ⟨D1, 0, none⟩ = some (.int .u64 0) := cell_at (HS7.out.1 _ (.tail _ (.tail _ (.head _)))) rfl
    have z1 : W7.cell? ⟨D1, 1, none⟩ = some (.int .u64 0) := cell_at (HS7.out.1 _ (.tail _ (.tail _ (.head _)))) rfl
    have z2 : W7.cell? ⟨D1, 2, none⟩ = some (.int .u64 0) := cell_at (HS7.out.1 _ (.tail _ (.tail _ (.head _)))) rfl
    have z3 : W7.cell? ⟨D1, 3, none⟩ = some (.slice none 0 0) := cell_at (HS7.out.1 _ (.tail _ (.tail _ (.head _)))) rfl
    have z4 : W7.cell? ⟨D1, 4, none⟩ = some (.slice none 0 0) := cell_at (HS7.out.1 _ (.tail _ (.tail _ (.head _)))) rfl
    have HSM := Lib.hid (fun W => rsame_any 0 0 0 [] [] none none none none 0 0 0 0 (fun s h => absurd h (by simp)) (fun s h => absurd h (by simp)) (by decide) (by decide) W (fun h => absurd h (by simp)) (fun h => absurd h (by simp)) (fun h => absurd h (by simp)) (fun h => absurd h (by simp)))
    simp only [List.length_nil] at HSM
    by_cases hP : p < 4
    · have HRE := Lib.hid (one_bad31 (fun _ => Nat.zero_lt_succ _) HTC.out.2.1 HTC.out.2.2 (by omega) (by omega) hP hxz HX.out.2.1 W7 hBS HS7.out.2.2.1)
      have g0 : decide ((p : Int) < 4) = true := decide_eq_true (by omega)
      have g1 : decide ((7 : Int) ≤ (p : Int)) = false := decide_eq_false (by omega)
      clear hBS hxz hs1 hpN hP
      go_wp2_with (first | (go_at_call 10; refine HRE.out.mono ?_) | fail)
      rintro e W8 ⟨rfl, hb⟩
      have HS8 := Lib.hid (HS7.out.keep hb)
      clear hb HRE HS7 z0 z1 z2 z3 z4
      go_upto_region 15 with fail
      replace HS8 := Lib.hid (HS8.out.alloc (.cells #[.int .u64 0, .int .u64 0, .int .u64 0, .slice none 0 0, .slice none 0 0] 27))
      generalize World.alloc W8 _ = W9 at HS8 ⊢
      have z0 : W9.cell? ⟨D1, 0, none⟩ = some (.int .u64 0) := cell_at (HS8.out.1 _ (.tail _ (.tail _ (.head _)))) rfl
      have z1 : W9.cell? ⟨D1, 1, none⟩ = some (.int .u64 0) := cell_at (HS8.out.1 _ (.tail _ (.tail _ (.head _)))) rfl
      have z2 : W9.cell? ⟨D1, 2, none⟩ = some (.int .u64 0) := cell_at (HS8.out.1 _ (.tail _ (.tail _ (.head _)))) rfl
      have z3 : W9.cell? ⟨D1, 3, none⟩ = some (.slice none 0 0) := cell_at (HS8.out.1 _ (.tail _ (.tail _ (.head _)))) rfl
      have z4 : W9.cell? ⟨D1, 4, none⟩ = some (.slice none 0 0) := cell_at (HS8.out.1 _ (.tail _ (.tail _ (.head _)))) rfl
      go_wp2_with (first | (go_at_call 12; refine (HSM.out _).mono ?_) | fail)
      first | (rintro e W10 rfl hb) | (rintro e W10 ⟨rfl, hb⟩)
      replace HS8 := Lib.hid (HS8.out.keep hb)
      clear hb z0 z1 z2 z3 z4
      go_wp2_with (first | (go_at_call 9; refine (wakes_any _ HS8.out.2.2.1).mono ?_) | fail)
      first | (rintro e W11 rfl hb) | (rintro e W11 ⟨rfl, hb⟩)
      have HE := Lib.hid (HS8.out.keep hb)
      go_wp2_with fail
      go_ret
      exact ⟨rfl, HE.out.2.2.2⟩
    by_cases hP : p < 7
    · have HRE := Lib.hid (one_bad32 (fun _ => Nat.zero_lt_succ _) HNN.out.1 HNN.out.2.1 HTC.out.2.1 HTC.out.2.2 (by omega) (by omega) (by omega) hxz HX.out.2.1 W7 hBS HS7.out.2.2.1)
      have g0 : decide ((p : Int) < 4) = false := decide_eq_false (by omega)
      have g1 : decide ((7 : Int) ≤ (p : Int)) = false := decide_eq_false (by omega)
      clear hBS hxz hs1 hpN hP
      go_wp2_with (first | (go_at_call 10; refine HRE.out.mono ?_) | fail)
      rintro e W8 ⟨rfl, hb⟩
      have HS8 := Lib.hid (HS7.out.keep hb)
      clear hb HRE HS7 z0 z1 z2 z3 z4
      go_upto_region 15 with fail
      replace HS8 := Lib.hid (HS8.out.alloc (.cells #[.int .u64 0, .int .u64 0, .int .u64 0, .slice none 0 0, .slice none 0 0] 27))
      generalize World.alloc W8 _ = W9 at HS8 ⊢
      have z0 : W9.cell? ⟨D1, 0, none⟩ = some (.int .u64 0) := cell_at (HS8.out.1 _ (.tail _ (.tail _ (.head _)))) rfl
      have z1 : W9.cell? ⟨D1, 1, none⟩ = some (.int .u64 0) := cell_at (HS8.out.1 _ (.tail _ (.tail _ (.head _)))) rfl
      have z2 : W9.cell? ⟨D1, 2, none⟩ = some (.int .u64 0) := cell_at (HS8.out.1 _ (.tail _ (.tail _ (.head _)))) rfl
      have z3 : W9.cell? ⟨D1, 3, none⟩ = some (.slice none 0 0) := cell_at (HS8.out.1 _ (.tail _ (.tail _ (.head _)))) rfl
      have z4 : W9.cell? ⟨D1, 4, none⟩ = some (.slice none 0 0) := cell_at (HS8.out.1 _ (.tail _ (.tail _ (.head _)))) rfl
      go_wp2_with (first | (go_at_call 12; refine (HSM.out _).mono ?_) | fail)
      first | (rintro e W10 rfl hb) | (rintro e W10 ⟨rfl, hb⟩)
      replace HS8 := Lib.hid (HS8.out.keep hb)
      clear hb z0 z1 z2 z3 z4
      go_wp2_with (first | (go_at_call 9; refine (wakes_any _ HS8.out.2.2.1).mono ?_) | fail)
      first | (rintro e W11 rfl hb) | (rintro e W11 ⟨rfl, hb⟩)
      have HE := Lib.hid (HS8.out.keep hb)
      go_wp2_with fail
      go_ret
      exact ⟨rfl, HE.out.2.2.2⟩
    by_cases hP : p < 16
    · have HRE := Lib.hid (one_good (rz := fun _ => 0) HOK.out.1 HOK.out.2.1 HOK.out.2.2.1 (fun _ => Nat.zero_lt_succ _) HNN.out.1 HNN.out.2.1 HTC.out.2.1 HTC.out.2.2 (by omega) (by omega) (by omega) HX.out.2.1 W7 hBS HS7.out.2.2.1)
      obtain ⟨N2, hN2⟩ : ∃ N2, 64 + 56 * zs.length = N2 := ⟨_, rfl⟩
      rw [hN2] at HRE
      clear hN2
      have g0 : decide ((p : Int) < 4) = false := decide_eq_false (by omega)
      have g1 : decide ((7 : Int) ≤ (p : Int)) = true := decide_eq_true (by omega)
      have g2 : decide ((p : Int) < 16) = true := decide_eq_true (by omega)
      clear hBS hxz hs1 hpN hP
      go_wp2_with (first | (go_at_call 10; refine HRE.out.mono ?_) | fail)
      rintro e W8 ⟨u1, v1, u2, v2, rfl, _, _, hb⟩
      have HS8 := Lib.hid (HS7.out.keep hb)
      clear hb HRE HS7 z0 z1 z2 z3 z4
      go_upto_region 15 with fail
      replace HS8 := Lib.hid (HS8.out.alloc (.cells #[.int .u64 (en : Nat), .int .u64 64, .int .u64 (N2 : Nat), .slice u1 zs.length v1, .slice u2 cs.length v2] 27))
      generalize World.alloc W8 _ = W9 at HS8 ⊢
      have z0 : W9.cell? ⟨D1, 0, none⟩ = some (.int .u64 0) := cell_at (HS8.out.1 _ (.tail _ (.tail _ (.head _)))) rfl
      have z1 : W9.cell? ⟨D1, 1, none⟩ = some (.int .u64 0) := cell_at (HS8.out.1 _ (.tail _ (.tail _ (.head _)))) rfl
      have z2 : W9.cell? ⟨D1, 2, none⟩ = some (.int .u64 0) := cell_at (HS8.out.1 _ (.tail _ (.tail _ (.head _)))) rfl
      have z3 : W9.cell? ⟨D1, 3, none⟩ = some (.slice none 0 0) := cell_at (HS8.out.1 _ (.tail _ (.tail _ (.head _)))) rfl
      have z4 : W9.cell? ⟨D1, 4, none⟩ = some (.slice none 0 0) := cell_at (HS8.out.1 _ (.tail _ (.tail _ (.head _)))) rfl
      go_wp2_with (first | (go_at_call 12; refine (HSM.out _).mono ?_) | fail)
      first | (rintro e W10 rfl hb) | (rintro e W10 ⟨rfl, hb⟩)
      replace HS8 := Lib.hid (HS8.out.keep hb)
      clear hb z0 z1 z2 z3 z4
      go_wp2_with (first | (go_at_call 9; refine (wakes_any _ HS8.out.2.2.1).mono ?_) | fail)
      first | (rintro e W11 rfl hb) | (rintro e W11 ⟨rfl, hb⟩)
      have HE := Lib.hid (HS8.out.keep hb)
      go_wp2_with fail
      go_ret
      exact ⟨rfl, HE.out.2.2.2⟩
    have HRE := Lib.hid (one_bad32 (fun _ => Nat.zero_lt_succ _) HNN.out.1 HNN.out.2.1 HTC.out.2.1 HTC.out.2.2 (by omega) (by omega) (by omega) hxz HX.out.2.1 W7 hBS HS7.out.2.2.1)
    have g0 : decide ((p : Int) < 4) = false := decide_eq_false (by omega)
    have g1 : decide ((7 : Int) ≤ (p : Int)) = true := decide_eq_true (by omega)
    have g2 : decide ((p : Int) < 16) = false := decide_eq_false (by omega)
    clear hBS hxz hs1 hpN 
    go_wp2_with (first | (go_at_call 10; refine HRE.out.mono ?_) | fail)
    rintro e W8 ⟨rfl, hb⟩
    have HS8 := Lib.hid (HS7.out.keep hb)
    clear hb HRE HS7 z0 z1 z2 z3 z4
    go_upto_region 15 with fail
    replace HS8 := Lib.hid (HS8.out.alloc (.cells #[.int .u64 0, .int .u64 0, .int .u64 0, .slice none 0 0, .slice none 0 0] 27))
    generalize World.alloc W8 _ = W9 at HS8 ⊢
    have z0 : W9.cell? ⟨D1, 0, none⟩ = some (.int .u64 0) := cell_at (HS8.out.1 _ (.tail _ (.tail _ (.head _)))) rfl
    have z1 : W9.cell? ⟨D1, 1, none⟩ = some (.int .u64 0) := cell_at (HS8.out.1 _ (.tail _ (.tail _ (.head _)))) rfl
    have z2 : W9.cell? ⟨D1, 2, none⟩ = some (.int .u64 0) := cell_at (HS8.out.1 _ (.tail _ (.tail _ (.head _)))) rfl
    have z3 : W9.cell? ⟨D1, 3, none⟩ = some (.slice none 0 0) := cell_at (HS8.out.1 _ (.tail _ (.tail _ (.head _)))) rfl
    have z4 : W9.cell? ⟨D1, 4, none⟩ = some (.slice none 0 0) := cell_at (HS8.out.1 _ (.tail _ (.tail _ (.head _)))) rfl
    go_wp2_with (first | (go_at_call 12; refine (HSM.out _).mono ?_) | fail)
    first | (rintro e W10 rfl hb) | (rintro e W10 ⟨rfl, hb⟩)
    replace HS8 := Lib.hid (HS8.out.keep hb)
    clear hb z0 z1 z2 z3 z4
    go_wp2_with (first | (go_at_call 9; refine (wakes_any _ HS8.out.2.2.1).mono ?_) | fail)
    first | (rintro e W11 rfl hb) | (rintro e W11 ⟨rfl, hb⟩)
    have HE := Lib.hid (HS8.out.keep hb)
    go_wp2_with fail
    go_ret
    exact ⟨rfl, HE.out.2.2.2⟩
  have HRC := Lib.hid (read_laid (rz := fun _ => 0) HOK.out.1 HOK.out.2.1 HOK.out.2.2.1 (fun _ => Nat.zero_lt_succ _) HNN.out.1 HNN.out.2.1 hLc HCC.out.2 (by have h1 := HLL.out; have h2 := HN1.out; omega) (by have h1 := HLL.out; have h2 := HN1.out; omega) W2 hBS HS.out.2.2.1)
  have d1 : decide ((N1 : Int) - (k : Int) < 64) = false := decide_eq_false (by have := HLL.out; omega)
  have d2 : decide (0 < k) = false := decide_eq_false (by omega)
  clear hA hBS hLc hk0
  obtain ⟨N0, hN0⟩ : ∃ N0, 64 + 56 * zs.length = N0 := ⟨_, rfl⟩
  have HN0 := Lib.hid hN0
  rw [hN0] at HRC
  clear hN0
  go_wp2_with (first | (go_at_call 10; refine HRC.out.mono ?_) | fail)
  rintro e W3 ⟨x1, y1, x2, y2, rfl, _, _, hb⟩
  replace HS := Lib.hid (HS.out.keep hb)
  clear hb HRC ht hi0 hi1
  have HD1 := Lib.hid (Array.getElem?_eq_some_iff.1 (HS.out.1 _ (.head _))).1
  go_upto_region 6 with fail
  replace HS := Lib.hid (HS.out.box #[.int .u64 (en : Nat), .int .u64 64, .int .u64 (N0 : Nat), .slice x1 zs.length y1, .slice x2 cs.length y2] 27)
  generalize World.alloc W3 _ = W4 at HS ⊢
  generalize W3.heap.size = D1 at HS HD1 ⊢
  have hmk : (Instr.makeSlice 22 (.int .i64 131073) (.int .i64 131073)).run Tryd.prog W4 = .ok (.slice (some ⟨W4.heap.size, 0, none⟩) 131073 131073) (W4.alloc (.cells (rowB (fun _ => 0) 131073).toArray 5)) := make_big 131073 (by decide) W4
  have HBG := Lib.hid (big_arg (fun _ => Nat.zero_lt_succ _) (Nat.le_refl 131073) (by decide) (by decide) (W4.alloc (.cells (rowB (fun _ => 0) 131073).toArray 5)) (BR.bs (heap_alloc_last W4 _)) (HS.out.alloc _).2.2.1)
  replace HS := Lib.hid (HS.out.alloc (.cells (rowB (fun _ => 0) 131073).toArray 5))
  generalize (W4.alloc (.cells (rowB (fun _ => 0) 131073).toArray 5)) = W4b at HS HBG hmk
  go_wp2_with (first | (go_at_call 10; refine HBG.out.mono ?_) | fail)
  rintro e W5 ⟨rfl, hb⟩
  replace HS := Lib.hid (HS.out.keep hb)
  clear hb HBG hmk d1 d2
  have HD2 := Lib.hid (Array.getElem?_eq_some_iff.1 (HS.out.1 _ (.tail _ (.head _)))).1
  go_upto_region 12 with fail
  replace HS := Lib.hid (HS.out.box #[.int .u64 0, .int .u64 0, .int .u64 0, .slice none 0 0, .slice none 0 0] 27)
  generalize World.alloc W5 _ = W6 at HS ⊢
  generalize W5.heap.size = D2 at HS HD2 ⊢
  obtain ⟨hq1, hp1, hq3⟩ := HQ.out
  go_upto_region 13 with fail
  clear hq1 hp1 hq3
  have hx1 := HX.out.1
  have hpN : p < N1 := by have := HN1.out; omega
  have cp : W6.cell? ⟨gb, p, none⟩ = some (.int .u8 (Z p : Nat)) := cell_at (HS.out.1 _ (.tail _ (.tail _ (.head _)))) (HTB.out.1.at_ p hpN)
  have fp := frozen_at (HS.out.1 _ (.tail _ (.tail _ (.head _)))) p
  have HB6 : Hid (W6.heap[gb]? = some (.cells curB 5 (0, 0))) := Lib.hid (HS.out.1 _ (.tail _ (.tail _ (.head _))))
  go_upto_region 14 with fail
  clear hx1 cp fp
  rw [setCell_eq_setRow W6 _ _ _ _ _ _ HB6.out]
  have HTC := Lib.hid (And.intro (HTB.out.1.one hpN x) HTB.out.2)
  have HS7 : Hid (SB w ((gb, curB.setIfInBounds p (.int .u8 (x : Nat)), 5) :: [(D2, #[.int .u64 0, .int .u64 0, .int .u64 0, .slice none 0 0, .slice none 0 0], 27), (D1, #[.int .u64 (en : Nat), .int .u64 64, .int .u64 (N0 : Nat), .slice x1 zs.length y1, .slice x2 cs.length y2], 27), (w.heap.size, #[.int .u64 (en : Nat), .int .u64 (so : Nat), .int .u64 (sc : Nat), .slice a1 zs.length p1, .slice a2 cs.length p2], 27)]) [(a1, zs.flatMap Sg.cs), (a2, cs.flatMap Sc.cs)] _) := Lib.hid (SB.put (l := [(D2, #[.int .u64 0, .int .u64 0, .int .u64 0, .slice none 0 0, .slice none 0 0], 27), (D1, #[.int .u64 (en : Nat), .int .u64 64, .int .u64 (N0 : Nat), .slice x1 zs.length y1, .slice x2 cs.length y2], 27), (w.heap.size, #[.int .u64 (en : Nat), .int .u64 (so : Nat), .int .u64 (sc : Nat), .slice a1 zs.length p1, .slice a2 cs.length p2], 27)]) (HS.out.less (fun y hy => by
      simp only [List.mem_cons, List.not_mem_nil, or_false] at hy ⊢
      rcases hy with h | h | h <;> simp [h])) HR0.out (g := gb) (by have := HGB.out; omega) (by have := HGB.out; omega) (by have h1 := HGB.out; have h2 := HG2.out; omega) (fun y hy => by
      simp only [List.mem_cons, List.not_mem_nil, or_false] at hy
      have h1 := HD1.out
      have h2 := HD2.out
      have h3 := HGB.out
      rcases hy with rfl | rfl | rfl <;> dsimp only at h1 h2 ⊢ <;> omega) HB6.out (curB.setIfInBounds p (.int .u8 (x : Nat))))
  generalize W6.setRow gb _ = W7 at HS7 ⊢
  generalize curB.setIfInBounds p _ = curC at HS7 HTC
  clear HS HB6 HTB
  have hBS := HTC.out.1.bs (HS7.out.1 _ (.head _))
  rw [← HZ.out] at hBS
  have hxz := HX.out.2.2
  rw [← HZ.out] at hxz
  have hs1 := HN1.out
  by_cases hP : p < 4
  · have HRE := Lib.hid (one_bad31 (fun _ => Nat.zero_lt_succ _) HTC.out.2.1 HTC.out.2.2 (by omega) (by omega) hP hxz HX.out.2.1 W7 hBS HS7.out.2.2.1)
    have g0 : decide ((p : Int) < 4) = true := decide_eq_true (by omega)
    have g1 : decide ((7 : Int) ≤ (p : Int)) = false := decide_eq_false (by omega)
    clear hBS hxz hs1 hpN hP
    go_wp2_with (first | (go_at_call 10; refine HRE.out.mono ?_) | fail)
    rintro e W8 ⟨rfl, hb⟩
    have HS8 := Lib.hid (HS7.out.keep hb)
    clear hb HRE HS7 
    go_upto_region 15 with fail
    replace HS8 := Lib.hid (HS8.out.alloc (.cells #[.int .u64 0, .int .u64 0, .int .u64 0, .slice none 0 0, .slice none 0 0] 27))
    generalize World.alloc W8 _ = W9 at HS8 ⊢
    go_wp2_with (first | (go_at_call 9; refine (wakes_any _ HS8.out.2.2.1).mono ?_) | fail)
    first | (rintro e W11 rfl hb) | (rintro e W11 ⟨rfl, hb⟩)
    have HE := Lib.hid (HS8.out.keep hb)
    go_wp2_with fail
    go_ret
    exact ⟨rfl, HE.out.2.2.2⟩
  by_cases hP : p < 7
  · have HRE := Lib.hid (one_bad32 (fun _ => Nat.zero_lt_succ _) HNN.out.1 HNN.out.2.1 HTC.out.2.1 HTC.out.2.2 (by omega) (by omega) (by omega) hxz HX.out.2.1 W7 hBS HS7.out.2.2.1)
    have g0 : decide ((p : Int) < 4) = false := decide_eq_false (by omega)
    have g1 : decide ((7 : Int) ≤ (p : Int)) = false := decide_eq_false (by omega)
    clear hBS hxz hs1 hpN hP
    go_wp2_with (first | (go_at_call 10; refine HRE.out.mono ?_) | fail)
    rintro e W8 ⟨rfl, hb⟩
    have HS8 := Lib.hid (HS7.out.keep hb)
    clear hb HRE HS7 
    go_upto_region 15 with fail
    replace HS8 := Lib.hid (HS8.out.alloc (.cells #[.int .u64 0, .int .u64 0, .int .u64 0, .slice none 0 0, .slice none 0 0] 27))
    generalize World.alloc W8 _ = W9 at HS8 ⊢
    go_wp2_with (first | (go_at_call 9; refine (wakes_any _ HS8.out.2.2.1).mono ?_) | fail)
    first | (rintro e W11 rfl hb) | (rintro e W11 ⟨rfl, hb⟩)
    have HE := Lib.hid (HS8.out.keep hb)
    go_wp2_with fail
    go_ret
    exact ⟨rfl, HE.out.2.2.2⟩
  by_cases hP : p < 16
  · have HRE := Lib.hid (one_good (rz := fun _ => 0) HOK.out.1 HOK.out.2.1 HOK.out.2.2.1 (fun _ => Nat.zero_lt_succ _) HNN.out.1 HNN.out.2.1 HTC.out.2.1 HTC.out.2.2 (by omega) (by omega) (by omega) HX.out.2.1 W7 hBS HS7.out.2.2.1)
    obtain ⟨N2, hN2⟩ : ∃ N2, 64 + 56 * zs.length = N2 := ⟨_, rfl⟩
    rw [hN2] at HRE
    clear hN2
    have g0 : decide ((p : Int) < 4) = false := decide_eq_false (by omega)
    have g1 : decide ((7 : Int) ≤ (p : Int)) = true := decide_eq_true (by omega)
    have g2 : decide ((p : Int) < 16) = true := decide_eq_true (by omega)
    clear hBS hxz hs1 hpN hP
    go_wp2_with (first | (go_at_call 10; refine HRE.out.mono ?_) | fail)
    rintro e W8 ⟨u1, v1, u2, v2, rfl, _, _, hb⟩
    have HS8 := Lib.hid (HS7.out.keep hb)
    clear hb HRE HS7 
    go_upto_region 15 with fail
    replace HS8 := Lib.hid (HS8.out.alloc (.cells #[.int .u64 (en : Nat), .int .u64 64, .int .u64 (N2 : Nat), .slice u1 zs.length v1, .slice u2 cs.length v2] 27))
    generalize World.alloc W8 _ = W9 at HS8 ⊢
    go_wp2_with (first | (go_at_call 9; refine (wakes_any _ HS8.out.2.2.1).mono ?_) | fail)
    first | (rintro e W11 rfl hb) | (rintro e W11 ⟨rfl, hb⟩)
    have HE := Lib.hid (HS8.out.keep hb)
    go_wp2_with fail
    go_ret
    exact ⟨rfl, HE.out.2.2.2⟩
  have HRE := Lib.hid (one_bad32 (fun _ => Nat.zero_lt_succ _) HNN.out.1 HNN.out.2.1 HTC.out.2.1 HTC.out.2.2 (by omega) (by omega) (by omega) hxz HX.out.2.1 W7 hBS HS7.out.2.2.1)
  have g0 : decide ((p : Int) < 4) = false := decide_eq_false (by omega)
  have g1 : decide ((7 : Int) ≤ (p : Int)) = true := decide_eq_true (by omega)
  have g2 : decide ((p : Int) < 16) = false := decide_eq_false (by omega)
  clear hBS hxz hs1 hpN 
  go_wp2_with (first | (go_at_call 10; refine HRE.out.mono ?_) | fail)
  rintro e W8 ⟨rfl, hb⟩
  have HS8 := Lib.hid (HS7.out.keep hb)
  clear hb HRE HS7 
  go_upto_region 15 with fail
  replace HS8 := Lib.hid (HS8.out.alloc (.cells #[.int .u64 0, .int .u64 0, .int .u64 0, .slice none 0 0, .slice none 0 0] 27))
  generalize World.alloc W8 _ = W9 at HS8 ⊢
  go_wp2_with (first | (go_at_call 9; refine (wakes_any _ HS8.out.2.2.1).mono ?_) | fail)
  first | (rintro e W11 rfl hb) | (rintro e W11 ⟨rfl, hb⟩)
  have HE := Lib.hid (HS8.out.keep hb)
  go_wp2_with fail
  go_ret
  exact ⟨rfl, HE.out.2.2.2⟩
end Go.Proofs.YtnaggdhophncaaaDoor
