/- What is put is taken again; what is taken may be. -/
import Derived.Test.YtkpnafgmjcnniaaDoorPa
import Derived.Test.YtkpnafgmjcnniaaDoorFm
namespace Go.Proofs.YtkpnafgmjcnniaaDoor
open Go.RowKit
set_option linter.unusedVariables false
set_option linter.unusedSimpArgs false
theorem dI_rng (z : Nat → Nat) (hz : ∀ j, z j < 256) (k : Nat) : (-128 ≤ dI z k 1 ∧ dI z k 1 ≤ 127) ∧ -2147483648 ≤ dI z k 4 ∧ dI z k 4 ≤ 2147483647 := by
  have h1 := numN_lt (fun j => z (k + j)) (fun _ => hz _) 1
  have h4 := numN_lt (fun j => z (k + j)) (fun _ => hz _) 4
  unfold dI
  generalize numN (fun j => z (k + j)) 1 = a at *
  generalize numN (fun j => z (k + j)) 4 = b at *
  simp only [show (2 : Nat) ^ (8 * 1) = 256 from rfl, show (2 : Nat) ^ (8 * 4) = 4294967296 from rfl] at h1 h4
  have q1 := eN_val a (by unfold U; omega) ((1 : Nat) : Int) 8 (by decide)
  have q4 := eN_val b (by unfold U; omega) ((4 : Nat) : Int) 32 (by decide)
  simp only [show (2 : Nat) ^ (8 - 1) = 128 from rfl, show (2 : Nat) ^ 8 = 256 from rfl] at q1
  simp only [show (2 : Nat) ^ (32 - 1) = 2147483648 from rfl, show (2 : Nat) ^ 32 = 4294967296 from rfl] at q4
  rw [q1, q4]
  unfold wrap64
  refine ⟨?_, ?_⟩
  · split <;> omega
  · split <;> omega
theorem dI_i64 (z : Nat → Nat) (k wd : Nat) : -9223372036854775808 ≤ dI z k wd ∧ dI z k wd ≤ 9223372036854775807 := by
  unfold dI
  generalize eN _ _ = a
  unfold wrap64
  omega
theorem gN_0 (Q b : Nat) (x : Nat) (hb : b ≤ 1) : gN (4 * Q + 2 * x + b) 0 = 8 * (b : Int) := by
  unfold gN; simp only [Nat.pow_zero, Nat.div_one]; split <;> omega
theorem gN_1 (Q b : Nat) (x : Nat) (hb : b ≤ 1) (hx : x ≤ 1) : gN (4 * Q + 2 * x + b) 1 = 8 * (x : Int) := by
  unfold gN; simp only [Nat.pow_one]; split <;> omega
theorem gN_2 (Q b : Nat) (x : Nat) (hb : b ≤ 1) (hx : x ≤ 1) (hQ : Q ≤ 1) : gN (4 * Q + 2 * x + b) 2 = 8 * (Q : Int) := by
  unfold gN; simp only [show (2 : Nat) ^ 2 = 4 from rfl]; split <;> omega
theorem catN_lo {n : Nat} {f g : Nat → Nat} {j : Nat} (h : j < n) : catN n f g j = f j := if_pos h
theorem catN_hi {n : Nat} {f g : Nat → Nat} {j : Nat} : catN n f g (n + j) = g j := by
  unfold catN; rw [if_neg (by omega)]; congr 1; omega
/-- A displacement, as it stands behind. -/
theorem disp (z : Nat → Nat) (k wd : Nat) (d : Int) (h0 : -9223372036854775808 ≤ d) (h1 : d ≤ 9223372036854775807) (hw : (wd = 0 ∧ d = 0) ∨ ((wd = 1 ∨ wd = 4) ∧ fB d wd = true)) (hz : ∀ j, j < wd → z (k + j) = byN (uN d) j) : dI z k wd = d := by
  rcases hw with ⟨rfl, rfl⟩ | ⟨hw, hf⟩
  · exact dI_nil z k
  · exact dI_back z k d h0 h1 wd hw hf hz
theorem puW_ok (o : Opd) (hf : fB o.d 4 = true) : (puW o = 0 ∧ o.d = 0) ∨ ((puW o = 1 ∨ puW o = 4) ∧ fB o.d (puW o : Nat) = true) := by
  unfold puW
  split
  · exact .inr ⟨.inr rfl, hf⟩
  · split
    · rename_i h
      refine .inl ⟨rfl, ?_⟩
      unfold short0 at h
      simp at h
      exact h.1
    · split
      · rename_i h
        exact .inr ⟨.inl rfl, h⟩
      · exact .inr ⟨.inr rfl, hf⟩
theorem puM_W (o : Opd) (hb : o.b ≠ -1) : wdM (puM o) = puW o ∧ puM o < 3 := by
  unfold puM puW
  rw [if_neg hb, if_neg hb]
  split
  · exact ⟨rfl, by decide⟩
  · split <;> exact ⟨rfl, by decide⟩
theorem puM_0 (o : Opd) (hb : o.b ≠ -1) (h : puM o = 0) : o.b.toNat % 8 ≠ 5 := by
  unfold puM at h
  rw [if_neg hb] at h
  split at h
  · rename_i q; unfold short0 at q; simp at q; exact q.2
  · split at h <;> cases h
theorem seS_top (s : Int) (h : s = 1 ∨ s = 2 ∨ s = 4 ∨ s = 8) : (2 : Int) ^ (((topN s : Nat) : Int).toNat) = s := by
  rcases h with rfl | rfl | rfl | rfl <;> rfl
theorem back (Q : Nat) (hQ : Q < 16) (o : Opd) (hok : o.ok = true) (h0 : -9223372036854775808 ≤ o.d) (h1 : o.d ≤ 9223372036854775807) (n : Nat) (z : Nat → Nat) (hn : puN o ≤ n) (hz : ∀ j, j < puN o → z j = puZ Q o j) :
    tkF n z (puR Q o) = some ((Q : Int), o, puN o) := by
  by_cases hk : o.k = 1
  · obtain ⟨ho, hr0, hr1⟩ := ok_reg hok hk
    generalize o.r = r at *
    subst ho
    obtain ⟨R, rfl⟩ := Int.eq_ofNat_of_zero_le hr0
    have hn1 : 1 ≤ n := hn
    have hz0 : z 0 = 192 + 8 * (Q % 8) + R % 8 := hz 0 (show 0 < 1 by decide)
    have hR : puR Q (regO R) = 4 * (Q / 8) + 2 * 0 + R / 8 := rfl
    have hN : puN (regO (R : Int)) = 1 := rfl
    rw [hR, hN]
    unfold tkF
    rw [if_neg (by omega), if_pos (by omega), gN_2 _ _ _ (by omega) (by omega) (by omega), gN_0 _ _ _ (by omega), hz0]
    have e1 : (((192 + 8 * (Q % 8) + R % 8) / 8 % 8 : Nat) : Int) + 8 * ((Q / 8 : Nat) : Int) = Q := by omega
    have e2 : (((192 + 8 * (Q % 8) + R % 8) % 8 : Nat) : Int) + 8 * ((R / 8 : Nat) : Int) = R := by omega
    rw [e1, e2]
  · obtain ⟨ho, hf, hp⟩ := ok_mem hok hk
    have hWk := puW_ok o hf
    cases hpp : o.p
    · rw [hpp] at hp ho
      obtain ⟨hb0, hb1, hi0, hi1, hi4, hs⟩ := ok_parts hp
      have hs4 : o.s = 1 ∨ o.s = 2 ∨ o.s = 4 ∨ o.s = 8 := by omega
      have hsi : o.i = -1 → o.s = 1 := by omega
      have ht := topN_lt o.s
      have hx7 : x7N o < 8 := by unfold x7N; split <;> omega
      have hx8 : x8N o ≤ 1 := by unfold x8N; split <;> omega
      have hy7 : y7N o < 8 := by unfold y7N; split <;> omega
      have hy8 : y8N o ≤ 1 := by unfold y8N; split <;> omega
      have hM3 : puM o < 3 := by
        by_cases hb : o.b = -1
        · unfold puM; rw [if_pos hb]; decide
        · exact (puM_W o hb).2
      have hR : puR Q o = 4 * (Q / 8) + 2 * y8N o + x8N o := by unfold puR; rw [if_neg hk, hpp]; rfl
      have g0 := gN_0 (Q / 8) (x8N o) (y8N o) hx8
      have g1 := gN_1 (Q / 8) (x8N o) (y8N o) hx8 hy8
      have g2 := gN_2 (Q / 8) (x8N o) (y8N o) hx8 hy8 (by omega)
      rw [← hR] at g0 g1 g2
      have hbv : o.b ≠ -1 → ((x7N o : Nat) : Int) + 8 * ((x8N o : Nat) : Int) = o.b := fun hb => by unfold x7N x8N; rw [if_neg hb, if_neg hb]; omega
      have hiv : o.i ≠ -1 → ((y7N o : Nat) : Int) + 8 * ((y8N o : Nat) : Int) = o.i := fun hi => by unfold y7N y8N; rw [if_neg hi, if_neg hi]; omega
      have hin : o.i = -1 → ((y7N o : Nat) : Int) + 8 * ((y8N o : Nat) : Int) = 4 := fun hi => by unfold y7N y8N; rw [if_pos hi, if_pos hi]; rfl
      have hbn : o.b = -1 → x7N o = 5 ∧ puM o = 0 ∧ puW o = 4 := fun hb => by unfold x7N puM puW; rw [if_pos hb, if_pos hb, if_pos hb]; exact ⟨rfl, rfl, rfl⟩
      have hb7 : o.b ≠ -1 → x7N o = o.b.toNat % 8 := fun hb => by unfold x7N; rw [if_neg hb]
      cases hS : sibB o
      · have hN : puN o = 1 + puW o := by unfold puN; rw [if_neg hk, hpp, hS]; rfl
        have hZ : puZ Q o = catN 1 (fun _ => 64 * puM o + 8 * (Q % 8) + x7N o) (byN (uN o.d)) := by unfold puZ; rw [if_neg hk, hpp, hS]; rfl
        have hsb : o.i = -1 ∧ o.b ≠ -1 ∧ x7N o ≠ 4 := by
          unfold sibB at hS
          simp at hS
          exact ⟨hS.1.1, hS.1.2, hS.2⟩
        obtain ⟨hi, hb, h74⟩ := hsb
        have hw := (puM_W o hb).1
        rw [hN] at hn hz ⊢
        rw [hZ] at hz
        have hz0 : z 0 = 64 * puM o + 8 * (Q % 8) + x7N o := hz 0 (by omega)
        have hd : dI z 1 (puW o) = o.d := disp z 1 (puW o) o.d h0 h1 hWk fun j hj => by rw [hz (1 + j) (by omega)]; exact catN_hi
        have hm : z 0 / 64 = puM o := by omega
        have hl : z 0 % 8 = x7N o := by omega
        have hq : z 0 / 8 % 8 = Q % 8 := by omega
        have h50 : ¬ (x7N o = 5 ∧ puM o = 0) := fun h => by
          have := puM_0 o hb h.2
          rw [hb7 hb] at h
          exact this h.1
        unfold tkF
        rw [hm, hl, hq, hw, g0, g2, if_neg (by omega), if_neg (by omega), if_neg h74, if_neg h50, if_neg (by omega), hd, hbv hb]
        have e1 : ((Q % 8 : Nat) : Int) + 8 * ((Q / 8 : Nat) : Int) = Q := by omega
        rw [e1]
        have ho2 : o = memO o.b (-1) 1 o.d false := by rw [← hi, ← hsi hi]; rw [hi, hsi hi] at ho; rw [hi, hsi hi]; exact ho
        exact congrArg some (by rw [← ho2])
      · have hN : puN o = 2 + puW o := by unfold puN; rw [if_neg hk, hpp, hS]; rfl
        have hZ : puZ Q o = catN 2 (fun j => if j = 0 then 64 * puM o + 8 * (Q % 8) + 4 else 64 * topN o.s + 8 * y7N o + x7N o) (byN (uN o.d)) := by unfold puZ; rw [if_neg hk, hpp, hS]; rfl
        rw [hN] at hn hz ⊢
        rw [hZ] at hz
        have hz0 : z 0 = 64 * puM o + 8 * (Q % 8) + 4 := hz 0 (by omega)
        have hz1 : z 1 = 64 * topN o.s + 8 * y7N o + x7N o := hz 1 (by omega)
        have hd : dI z 2 (puW o) = o.d := disp z 2 (puW o) o.d h0 h1 hWk fun j hj => by rw [hz (2 + j) (by omega)]; exact catN_hi
        have hm : z 0 / 64 = puM o := by omega
        have hl : z 0 % 8 = 4 := by omega
        have hq : z 0 / 8 % 8 = Q % 8 := by omega
        have hl1 : z 1 % 8 = x7N o := by omega
        have hq1 : z 1 / 8 % 8 = y7N o := by omega
        have hm1 : z 1 / 64 = topN o.s := by omega
        have hwd : (if x7N o = 5 ∧ puM o = 0 then 4 else wdM (puM o)) = puW o := by
          by_cases hb : o.b = -1
          · obtain ⟨q1, q2, q3⟩ := hbn hb
            rw [if_pos ⟨q1, q2⟩, q3]
          · have h50 : ¬ (x7N o = 5 ∧ puM o = 0) := fun h => by
              have := puM_0 o hb h.2
              rw [hb7 hb] at h
              exact this h.1
            rw [if_neg h50]; exact (puM_W o hb).1
        have eb : seB ((x7N o : Nat) : Int) (8 * ((x8N o : Nat) : Int)) (-1) ((puM o : Nat) : Int) = o.b := by
          unfold seB
          by_cases hb : o.b = -1
          · obtain ⟨q1, q2, q3⟩ := hbn hb
            rw [if_pos (by omega), hb]
          · have h50 : ¬ (x7N o = 5 ∧ puM o = 0) := fun h => by
              have := puM_0 o hb h.2
              rw [hb7 hb] at h
              exact this h.1
            rw [if_neg (by omega)]; exact hbv hb
        have ei : seI ((y7N o : Nat) : Int) (8 * ((y8N o : Nat) : Int)) (-1) = o.i := by
          unfold seI
          by_cases hi : o.i = -1
          · rw [if_pos (hin hi), hi]
          · rw [hiv hi, if_neg hi4]
        have es : seS ((y7N o : Nat) : Int) (8 * ((y8N o : Nat) : Int)) 1 ((topN o.s : Nat) : Int) = o.s := by
          unfold seS
          by_cases hi : o.i = -1
          · rw [if_pos (hin hi), hsi hi]
          · rw [hiv hi, if_neg hi4]; exact seS_top o.s hs4
        unfold tkF
        rw [hm, hl, hq, hl1, hq1, hm1, g0, g1, g2, hwd, eb, ei, es, if_neg (by omega), if_neg (by omega), if_pos rfl, if_neg (by omega)]
        dsimp only
        rw [if_neg (by omega), hd]
        have e1 : ((Q % 8 : Nat) : Int) + 8 * ((Q / 8 : Nat) : Int) = Q := by omega
        rw [e1, ← ho]
    · rw [hpp] at hp ho
      obtain ⟨q1, q2, q3⟩ := ok_rip hp
      have hN : puN o = 5 := by unfold puN; rw [if_neg hk, hpp]; rfl
      have hZ : puZ Q o = catN 1 (fun _ => 8 * (Q % 8) + 5) (byN (uN o.d)) := by unfold puZ; rw [if_neg hk, hpp]; rfl
      have hR : puR Q o = 4 * (Q / 8) + 2 * 0 + 0 := by unfold puR; rw [if_neg hk, hpp]; rfl
      have g2 := gN_2 (Q / 8) 0 0 (by omega) (by omega) (by omega)
      rw [hN] at hn hz ⊢
      rw [hZ] at hz
      rw [hR]
      have hz0 : z 0 = 8 * (Q % 8) + 5 := hz 0 (by omega)
      have hd : dI z 1 4 = o.d := disp z 1 4 o.d h0 h1 (.inr ⟨.inr rfl, hf⟩) fun j hj => by rw [hz (1 + j) (by omega)]; exact catN_hi
      unfold tkF
      rw [g2, if_neg (by omega), if_neg (by omega), if_neg (by omega), if_pos (by omega), if_neg (by omega), hd]
      have e1 : ((z 0 / 8 % 8 : Nat) : Int) + 8 * ((Q / 8 : Nat) : Int) = Q := by omega
      rw [e1]
      have ho2 : o = memO (-1) (-1) 1 o.d true := by rw [q1, q2, q3] at ho; exact ho
      exact congrArg some (by rw [← ho2])
/-- With one byte fewer there is nothing. -/
theorem back_less (Q : Nat) (hQ : Q < 16) (o : Opd) (hok : o.ok = true) (h0 : -9223372036854775808 ≤ o.d) (h1 : o.d ≤ 9223372036854775807) (n : Nat) (z : Nat → Nat) (hn : n + 1 = puN o) (hz : ∀ j, j < n → z j = puZ Q o j) :
    tkF n z (puR Q o) = none := by
  have hb := back Q hQ o hok h0 h1 (puN o) (puZ Q o) (Nat.le_refl _) (fun j _ => rfl)
  by_cases hn0 : n = 0
  · subst hn0; rfl
  generalize hW : puZ Q o = y at *
  have y0 := hz 0 (by omega)
  rw [← hn] at hb
  unfold tkF at hb ⊢
  rw [y0]
  rw [if_neg (by omega)] at hb
  rw [if_neg hn0]
  split at hb
  · simp only [Option.some.injEq, Prod.mk.injEq] at hb; omega
  · rename_i m3
    rw [if_neg m3]
    split at hb
    · rename_i l4
      rw [if_pos l4]
      split at hb
      · cases hb
      · by_cases h2 : n < 2
        · rw [if_pos h2]
        · rw [if_neg h2]
          have y1 := hz 1 (by omega)
          dsimp only at hb ⊢
          rw [y1]
          generalize (if y 1 % 8 = 5 ∧ y 0 / 64 = 0 then 4 else wdM (y 0 / 64)) = wd at hb ⊢
          split at hb
          · cases hb
          · simp only [Option.some.injEq, Prod.mk.injEq] at hb
            rw [if_pos (by omega)]
    · rename_i l4
      rw [if_neg l4]
      split at hb
      · rename_i l5
        rw [if_pos l5]
        split at hb
        · cases hb
        · simp only [Option.some.injEq, Prod.mk.injEq] at hb
          rw [if_pos (by omega)]
      · rename_i l5
        rw [if_neg l5]
        split at hb
        · cases hb
        · simp only [Option.some.injEq, Prod.mk.injEq] at hb
          rw [if_pos (by omega)]
/-- Of six bytes something is taken. -/
theorem tk_six (n : Nat) (z : Nat → Nat) (R : Nat) (h : tkF n z R = none) : n < 6 := by
  unfold tkF at h
  have hw : wdM (z 0 / 64) ≤ 4 := by unfold wdM; split <;> (try split) <;> omega
  split at h
  · omega
  · split at h
    · cases h
    · split at h
      · split at h
        · omega
        · dsimp only at h
          have hw2 : (if z 1 % 8 = 5 ∧ z 0 / 64 = 0 then 4 else wdM (z 0 / 64)) ≤ 4 := by split <;> omega
          generalize (if z 1 % 8 = 5 ∧ z 0 / 64 = 0 then 4 else wdM (z 0 / 64)) = wd at h hw2
          split at h
          · omega
          · cases h
      · split at h
        · split at h
          · omega
          · cases h
        · split at h
          · omega
          · cases h
theorem wdM_disp (z : Nat → Nat) (hz : ∀ j, z j < 256) (k M : Nat) : fB (dI z k (wdM M)) 4 = true ∧ (M = 0 → dI z k (wdM M) = 0) ∧ (M = 1 → fB (dI z k (wdM M)) 1 = true) := by
  have hr := dI_i64 z k (wdM M)
  have h1 := dI_rng z hz k
  rw [fB_four _ hr.1 hr.2, fB_one _ hr.1 hr.2]
  refine ⟨?_, fun h => ?_, fun h => ?_⟩
  · unfold wdM
    split
    · rw [dI_nil]; decide
    · split
      · simp; omega
      · simp; omega
  · subst h; exact dI_nil z k
  · subst h; simp only [wdM]; simp; omega
attribute [local irreducible] dI gN
set_option maxHeartbeats 4000000 in
/-- What is taken may be, and is put with no more bytes. -/
theorem taken (n : Nat) (z : Nat → Nat) (hz : ∀ j, z j < 256) (R : Nat) (reg : Int) (o : Opd) (k : Nat) (h : tkF n z R = some (reg, o, k)) :
    (∃ Q : Nat, reg = Q ∧ Q < 16) ∧ o.ok = true ∧ 1 ≤ k ∧ k ≤ n ∧ puN o ≤ k ∧ -9223372036854775808 ≤ o.d ∧ o.d ≤ 9223372036854775807 := by
  have G : ∀ j, gN R j = 0 ∨ gN R j = 8 := fun j => by unfold gN; split <;> simp
  have g0 := G 0
  have g1 := G 1
  have g2 := G 2
  have hz0 := hz 0
  have hz1 := hz 1
  clear G
  unfold tkF at h
  have hreg : ∃ Q : Nat, ((z 0 / 8 % 8 : Nat) : Int) + gN R 2 = Q ∧ Q < 16 := ⟨(((z 0 / 8 % 8 : Nat) : Int) + gN R 2).toNat, by omega, by omega⟩
  have hM : z 0 / 64 = 0 ∨ z 0 / 64 = 1 ∨ z 0 / 64 = 2 ∨ z 0 / 64 = 3 := by omega
  split at h
  · cases h
  split at h
  · simp only [Option.some.injEq, Prod.mk.injEq] at h
    obtain ⟨rfl, rfl, rfl⟩ := h
    refine ⟨hreg, ?_, by omega, by omega, Nat.le_refl 1, by show -9223372036854775808 ≤ (0 : Int); decide, by show (0 : Int) ≤ 9223372036854775807; decide⟩
    unfold Opd.ok regO rB
    simp
    omega
  rename_i m3
  split at h
  · split at h
    · cases h
    dsimp only at h
    by_cases hk2 : n < 2 + (if z 1 % 8 = 5 ∧ z 0 / 64 = 0 then 4 else wdM (z 0 / 64))
    · rw [if_pos hk2] at h; cases h
    rw [if_neg hk2] at h
    simp only [Option.some.injEq, Prod.mk.injEq] at h
    obtain ⟨rfl, rfl, rfl⟩ := h
    have hi64 := dI_i64 z 2 (if z 1 % 8 = 5 ∧ z 0 / 64 = 0 then 4 else wdM (z 0 / 64))
    have hf4 : fB (dI z 2 (if z 1 % 8 = 5 ∧ z 0 / 64 = 0 then 4 else wdM (z 0 / 64))) 4 = true := by
      split
      · have := (wdM_disp z hz 2 2).1; exact this
      · exact (wdM_disp z hz 2 (z 0 / 64)).1
    generalize hdd : dI z 2 (if z 1 % 8 = 5 ∧ z 0 / 64 = 0 then 4 else wdM (z 0 / 64)) = d at *
    generalize hbb : seB ((z 1 % 8 : Nat) : Int) (gN R 0) (-1) ((z 0 / 64 : Nat) : Int) = b at *
    have hbr : -1 ≤ b ∧ b ≤ 15 := by rw [← hbb]; unfold seB; split <;> omega
    generalize hii : seI ((z 1 / 8 % 8 : Nat) : Int) (gN R 1) (-1) = i at *
    have hir : -1 ≤ i ∧ i ≤ 15 ∧ i ≠ 4 := by rw [← hii]; unfold seI; split <;> omega
    generalize hss : seS ((z 1 / 8 % 8 : Nat) : Int) (gN R 1) 1 ((z 1 / 64 : Nat) : Int) = s at *
    have hsr : s = 1 ∨ (i ≠ -1 ∧ (s = 2 ∨ s = 4 ∨ s = 8)) := by
      rw [← hss, ← hii]; unfold seS seI
      have ht : z 1 / 64 = 0 ∨ z 1 / 64 = 1 ∨ z 1 / 64 = 2 ∨ z 1 / 64 = 3 := by omega
      split
      · exact .inl rfl
      · rcases ht with e | e | e | e <;> rw [e]
        · exact .inl rfl
        · exact .inr ⟨by omega, .inl rfl⟩
        · exact .inr ⟨by omega, .inr (.inl rfl)⟩
        · exact .inr ⟨by omega, .inr (.inr rfl)⟩
    have hok : (memO b i s d false).ok = true := by
      show rB 2 0 b i s d false 0 = true
      have hp : rpB b i s false = true := by
        unfold rpB
        simp only [Bool.false_eq_true, if_false]
        rw [if_neg (by omega)]
        split
        · rfl
        · rw [if_pos (by omega)]; simp; omega
      unfold rB
      rw [if_neg (by decide), if_pos rfl, hf4, hp]; rfl
    refine ⟨hreg, hok, by omega, by omega, ?_, hi64.1, hi64.2⟩
    have hw : puW (memO b i s d false) ≤ (if z 1 % 8 = 5 ∧ z 0 / 64 = 0 then 4 else wdM (z 0 / 64)) := by
      by_cases hb : b = -1
      · have hbc : z 1 % 8 = 5 ∧ z 0 / 64 = 0 := by
          rw [← hbb] at hb; unfold seB at hb
          split at hb <;> omega
        rw [if_pos hbc]
        unfold puW; rw [if_pos (show (memO b i s d false).b = -1 from hb)]; exact Nat.le_refl 4
      · have hbc : ¬ (z 1 % 8 = 5 ∧ z 0 / 64 = 0) := fun hh => by
          rw [← hbb] at hb; unfold seB at hb
          rw [if_pos (by omega)] at hb; exact hb rfl
        rw [if_neg hbc] at hdd ⊢
        obtain ⟨q1, q2, q3⟩ := wdM_disp z hz 2 (z 0 / 64)
        rw [hdd] at q2 q3
        have hbv : b.toNat % 8 = z 1 % 8 := by
          rw [← hbb]; unfold seB; rw [if_neg (by omega)]; omega
        unfold puW
        rw [if_neg (show ¬ (memO b i s d false).b = -1 from hb)]
        rcases hM with e | e | e | e
        · have hd0 := q2 e
          have hs0 : short0 (memO b i s d false) = true := by
            show (decide (d = 0) && decide (b.toNat % 8 ≠ 5)) = true
            rw [hd0, hbv]; simp; omega
          rw [hs0, if_pos rfl]; omega
        · have hd1 := q3 e
          rw [show fB (memO b i s d false).d 1 = true from hd1, e]
          split <;> simp [wdM]
        · rw [e]
          have : wdM 2 = 4 := rfl
          split <;> (try split) <;> omega
        · exact absurd e m3
    unfold puN
    rw [if_neg (show ¬ (memO b i s d false).k = 1 by show ¬ (2 : Int) = 1; decide)]
    have hpf : (memO b i s d false).p = false := rfl
    rw [hpf]
    simp only [Bool.false_eq_true, if_false]
    split <;> omega
  rename_i l4
  split at h
  · split at h
    · cases h
    simp only [Option.some.injEq, Prod.mk.injEq] at h
    obtain ⟨rfl, rfl, rfl⟩ := h
    have hi64 := dI_i64 z 1 4
    have hf4 : fB (dI z 1 4) 4 = true := (wdM_disp z hz 1 2).1
    refine ⟨hreg, ?_, by omega, by omega, Nat.le_refl 5, hi64.1, hi64.2⟩
    show rB 2 0 (-1) (-1) 1 (dI z 1 4) true 0 = true
    unfold rB
    rw [if_neg (by decide), if_pos rfl, hf4]; rfl
  rename_i l5
  split at h
  · cases h
  rename_i hk2
  simp only [Option.some.injEq, Prod.mk.injEq] at h
  obtain ⟨rfl, rfl, rfl⟩ := h
  have hi64 := dI_i64 z 1 (wdM (z 0 / 64))
  obtain ⟨q1, q2, q3⟩ := wdM_disp z hz 1 (z 0 / 64)
  generalize dI z 1 (wdM (z 0 / 64)) = d at *
  generalize hbb : ((z 0 % 8 : Nat) : Int) + gN R 0 = b at *
  have hb : b ≠ -1 := by omega
  have hbv : b.toNat % 8 = z 0 % 8 := by omega
  refine ⟨hreg, ?_, by omega, by omega, ?_, hi64.1, hi64.2⟩
  · show rB 2 0 b (-1) 1 d false 0 = true
    have hp : rpB b (-1) 1 false = true := by
      unfold rpB
      simp only [Bool.false_eq_true, if_false]
      rw [if_neg (by omega)]; simp
    unfold rB
    rw [if_neg (by decide), if_pos rfl, q1, hp]; rfl
  · have hsb : sibB (memO b (-1) 1 d false) = false := by
      have hx : x7N (memO b (-1) 1 d false) = z 0 % 8 := by unfold x7N; rw [if_neg (show ¬ (memO b (-1) 1 d false).b = -1 from hb)]; exact hbv
      have hb2 : (memO b (-1) 1 d false).b ≠ -1 := hb
      have hi2 : (memO b (-1) 1 d false).i = -1 := rfl
      unfold sibB; rw [hx]; simp [hb2, hi2, l4]
    have hw : puW (memO b (-1) 1 d false) ≤ wdM (z 0 / 64) := by
      unfold puW
      rw [if_neg (show ¬ (memO b (-1) 1 d false).b = -1 from hb)]
      rcases hM with e | e | e | e
      · have hd0 := q2 e
        have hs0 : short0 (memO b (-1) 1 d false) = true := by
          show (decide (d = 0) && decide (b.toNat % 8 ≠ 5)) = true
          rw [hd0, hbv]; simp; omega
        rw [hs0, if_pos rfl]; omega
      · have hd1 := q3 e
        rw [show fB (memO b (-1) 1 d false).d 1 = true from hd1, e]
        split <;> simp [wdM]
      · rw [e]
        have : wdM 2 = 4 := rfl
        split <;> (try split) <;> omega
      · exact absurd e m3
    unfold puN
    rw [if_neg (show ¬ (memO b (-1) 1 d false).k = 1 by show ¬ (2 : Int) = 1; decide)]
    have hpf : (memO b (-1) 1 d false).p = false := rfl
    rw [hpf, hsb]
    simp only [Bool.false_eq_true, if_false]
    omega
end Go.Proofs.YtkpnafgmjcnniaaDoor
