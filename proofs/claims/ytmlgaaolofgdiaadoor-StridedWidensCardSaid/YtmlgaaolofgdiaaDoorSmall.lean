/- strided.divisor, Of, All, and the package's words of bits. -/
import Derived.Test.YtmlgaaolofgdiaaDoorIn
import Derived.OpenShut
import Derived.ProofKit
import Derived.LaidMore
import Derived.Lib.LaidTab
import Derived.LoopTactic
namespace Go.Proofs.YtmlgaaolofgdiaaDoor
open Go.RowKit SM
/-- A width, held to one from 1 to 8. -/
def hI (wd : Int) : Int := if wd < 1 then 1 else if 8 < wd then 8 else wd
theorem hI_bd (wd : Int) : 1 ≤ hI wd ∧ hI wd ≤ 8 := by unfold hI; split <;> (try split) <;> omega
def hN (wd : Int) : Nat := (hI wd).toNat
theorem hN_bd (wd : Int) : 1 ≤ hN wd ∧ hN wd ≤ 8 := by have := hI_bd wd; unfold hN; omega
theorem hI_N (wd : Int) : hI wd = (hN wd : Int) := by have := hI_bd wd; unfold hN; omega
/-- The mask of a width. -/
def mN (wd : Int) : Nat := 2 ^ (8 * hN wd) - 1
theorem mN_fin (wd : Int) : 255 ≤ mN wd ∧ mN wd ≤ 18446744073709551615 ∧ (mN wd + 1) ∣ 18446744073709551616 := by
  have hb := hN_bd wd
  unfold mN
  generalize hN wd = n at *
  have h : ∀ i : Fin 9, 1 ≤ i.val → 255 ≤ 2 ^ (8 * i.val) - 1 ∧ 2 ^ (8 * i.val) - 1 ≤ 18446744073709551615 ∧ (2 ^ (8 * i.val) - 1 + 1) ∣ 18446744073709551616 := by decide +kernel
  exact h ⟨n, by omega⟩ hb.1
theorem mN_pos (wd : Int) : 1 ≤ mN wd := by have := (mN_fin wd).1; omega
/-- The table of masks. -/
def Mk (w : World) : Prop := ∀ i : Nat, i < 8 → w.cell? ⟨0, i, none⟩ = some (.int .u64 (((2 : Nat) ^ (8 * (i + 1)) - 1 : Nat) : Int))
theorem lt_of_cell {w : World} {b o : Nat} {v : Value} (h : w.cell? ⟨b, o, none⟩ = some v) : b < w.heap.size := by
  rcases Nat.lt_or_ge b w.heap.size with h0 | h0
  · exact h0
  · unfold World.cell? at h
    rw [Array.getElem?_eq_none (by dsimp only; omega)] at h
    simp at h
theorem Mk.pos {w : World} (h : Mk w) : 0 < w.heap.size := lt_of_cell (h 0 (by decide))
theorem Mk.own {w w' : World} (h : Mk w) (hb : Below w.heap.size w w') : Mk w' := fun i hi => (hb.cell (p := ⟨0, i, none⟩) h.pos).trans (h i hi)
theorem Mk.at {w : World} (h : Mk w) (wd : Int) : w.cell? ⟨0, (hI wd).toNat - 1, none⟩ = some (.int .u64 (mN wd : Nat)) := by
  have hb := hI_bd wd
  have := h ((hI wd).toNat - 1) (by omega)
  rw [this]
  have e : (hI wd).toNat - 1 + 1 = hN wd := by unfold hN; omega
  rw [e]; rfl
set_option maxHeartbeats 400000 in
theorem bheld_any (wd : Int) (w : World) :
    Calls Tryd.prog 43 #[.int .i64 wd] w fun e w' => e = .returned (.int .i64 (hI wd)) ∧ w = w' := by
  go_enter Tryd.func43, Tryd.ntmps43
  go_wp2
  all_goals
    go_ret
    refine ⟨?_, rfl⟩
    show Ending.returned (.int .i64 _) = _
    congr 2
    unfold hI
    repeat' split
    all_goals omega
set_option maxHeartbeats 400000 in
theorem mask_any (wd : Int) (w : World) (hm : Mk w) :
    Calls Tryd.prog 32 #[.int .i64 wd] w fun e w' => e = .returned (.int .u64 (mN wd : Nat)) ∧ w = w' := by
  have hb := hI_bd wd
  have hc := hm.at wd
  clear hm
  go_enter Tryd.func32, Tryd.ntmps32
  go_wp2_with (go_at_call 43; refine (bheld_any _ _).mono ?_; rintro e w' ⟨rfl, rfl⟩)
  go_ret
  exact ⟨rfl, rfl⟩
theorem and_mask (a : Nat) (ha : a < 18446744073709551616) (k : Nat) (hk : k ≤ 64) : bits .and .u64 (a : Int) ((2 ^ k - 1 : Nat) : Int) = ((a % 2 ^ k : Nat) : Int) := by
  have hlt : 2 ^ k - 1 < 18446744073709551616 := by
    have : 2 ^ k ≤ 2 ^ 64 := Nat.pow_le_pow_right (by decide) hk
    have h0 : 0 < 2 ^ k := Nat.two_pow_pos k
    have e64 : (2 : Nat) ^ 64 = 18446744073709551616 := by decide
    omega
  rw [u64_and_nat a _ ha hlt, Nat.and_two_pow_sub_one_eq_mod]
theorem mN_succ (wd : Int) : mN wd + 1 = 2 ^ (8 * hN wd) := by unfold mN; have := Nat.two_pow_pos (8 * hN wd); omega
set_option maxHeartbeats 400000 in
theorem bcut_any (a : Nat) (ha : U a) (wd : Int) (w : World) (hm : Mk w) :
    Calls Tryd.prog 41 #[.int .u64 a, .int .i64 wd] w fun e w' => e = .returned (.int .u64 (a % (mN wd + 1) : Nat)) ∧ w = w' := by
  have hb := hN_bd wd
  have H : Hid (bits .and .u64 (a : Int) (mN wd : Nat) = ((a % (mN wd + 1) : Nat) : Int)) := by rw [mN_succ]; exact and_mask a ha (8 * hN wd) (by omega)
  clear hb
  go_enter Tryd.func41, Tryd.ntmps41
  go_wp2_with (go_at_call 32; refine (mask_any _ _ hm).mono ?_; rintro e w' ⟨rfl, rfl⟩)
  go_ret
  exact ⟨by rw [← H.out]; rfl, rfl⟩
set_option maxHeartbeats 400000 in
theorem all_any (wd : Int) (w : World) (hm : Mk w) :
    Calls Tryd.prog 38 #[.int .i64 wd] w fun e w' => e = .returned (sv 1 0 (mN wd)) ∧ Below w.heap.size w w' := by
  have hm' := hm.own ((Below.refl _ _).alloc (Nat.le_refl _) (sb 0 0 0))
  go_enter Tryd.func38, Tryd.ntmps38
  go_wp2_with (go_at_call 32; refine (mask_any _ _ hm').mono ?_; rintro e w' ⟨rfl, rfl⟩)
  refine bodyPost_ret (v := sv 1 0 (mN wd)) (by simp [results, Tryd.results38, go_sem]) rfl ⟨rfl, by go_grown⟩
set_option maxHeartbeats 1000000 in
theorem divisor_any (a b : Nat) (ua : U a) (ub : U b) (w : World) :
    Calls Tryd.prog 29 #[.int .u64 a, .int .u64 b] w fun e w' => e = .returned (.int .u64 (Nat.gcd a b : Nat)) ∧ ∃ k, w' = w.drewN k := by
  go_enter Tryd.func29, Tryd.ntmps29
  go_wp2
  go_loopw [0, 1] (fun i j wr => ∃ x y : Nat, U x ∧ U y ∧ Nat.gcd x y = Nat.gcd a b ∧ i = .int .u64 x ∧ j = .int .u64 y ∧ ∃ k, wr = w.drewN k) (fun _ j _ => (intOf j).toNat)
  case atStart => exact ⟨a, b, ua, ub, rfl, rfl, rfl, 0, rfl⟩
  case round =>
    obtain ⟨x, y, ux, uy, hg, rfl, rfl, k, rfl⟩ := hrel
    have HG := Lib.hid hg
    clear hg
    by_cases h : y = 0
    · have h0 : ((y : Int) != 0) = false := by simp [h]
      have HH := Lib.hid h
      clear h
      go_wp2
      go_ret
      exact ⟨by rw [← HG.out, HH.out, Nat.gcd_zero_right]; rfl, k, rfl⟩
    · have h0 : ((y : Int) != 0) = true := by simp [h]
      have h1 : (1 : Int) ≤ y := by omega
      have h2 : ¬ (y : Int) ≤ 0 := by omega
      have h3 : ¬ (y : Int) = 0 := by omega
      have h4 : ((y : Int) == 0) = false := by simp; omega
      go_wp2
      go_quiet (fail)
      all_goals
        go_wp2
        go_roundw
        case rel => exact ⟨y, x % y, uy, Nat.lt_of_le_of_lt (Nat.mod_le _ _) ux, by rw [← HG.out, Nat.gcd_comm, ← Nat.gcd_rec, Nat.gcd_comm], rfl, by simp, _, World.drewN_drewN _ _ _⟩
        case measure => simp [intOf]; exact Nat.mod_lt _ (by omega)
theorem divisor_bel (a b : Nat) (ua : U a) (ub : U b) (w : World) :
    Calls Tryd.prog 29 #[.int .u64 a, .int .u64 b] w fun e w' => e = .returned (.int .u64 (Nat.gcd a b : Nat)) ∧ Below w.heap.size w w' :=
  (divisor_any a b ua ub w).mono fun e w' ⟨h, k, hw⟩ => ⟨h, by rw [hw]; exact below_drewN (Below.refl _ _) k⟩
set_option maxHeartbeats 1000000 in
theorem of_none (l h s : Nat) (hl : h < l) (w : World) :
    Calls Tryd.prog 23 #[.int .u64 l, .int .u64 h, .int .u64 s] w fun e w' => e = .returned (sv 0 1 0) ∧ Below w.heap.size w w' := by
  have k1 := Lib.hid (Slot3.new w (.int .u64 0) (.int .u64 0) (.int .u64 0) 24)
  have hb0 : Below w.heap.size w (w.alloc (sb 0 0 0)) := (Below.refl _ _).alloc (Nat.le_refl _) _
  go_enter Tryd.func23, Tryd.ntmps23
  go_wp2_with fail
  go_at_call 26
  refine (none_any _).mono ?_
  rintro e w1 ⟨rfl, hb⟩
  obtain ⟨c0, c1, c2, f0, f1, f2, hz⟩ := k1.out.keep hb
  have hb2 := hb0.trans (hb.mono (by simp))
  clear k1 hb0 hb
  go_wp2_with fail
  refine bodyPost_ret (v := sv 0 1 0) (by simp [results, Tryd.results23, go_sem, *]) rfl ⟨rfl, hb2.trans ?_⟩
  go_grown
set_option maxHeartbeats 1000000 in
theorem of_one (l h s : Nat) (uh : U h) (hl : l ≤ h) (hs : ((s : Int) == 0) = true ∨ (((s : Int) == 0) = false ∧ h - l < s)) (w : World) :
    Calls Tryd.prog 23 #[.int .u64 l, .int .u64 h, .int .u64 s] w fun e w' => e = .returned (sv 0 l l) ∧ Below w.heap.size w w' := by
  have k1 := Lib.hid (Slot3.new w (.int .u64 0) (.int .u64 0) (.int .u64 0) 24)
  have hb0 : Below w.heap.size w (w.alloc (sb 0 0 0)) := (Below.refl _ _).alloc (Nat.le_refl _) _
  have u1 : (h : Int) ≤ 18446744073709551615 := by unfold U at uh; omega
  have h1 : ¬ (h : Int) < l := by omega
  rcases hs with hs | ⟨hs, h2⟩
  all_goals
    go_enter Tryd.func23, Tryd.ntmps23
    go_wp2_with fail
    go_at_call 24
    refine (one_any _ _).mono ?_
    rintro e w1 ⟨rfl, hb⟩
    obtain ⟨c0, c1, c2, f0, f1, f2, hz⟩ := k1.out.keep hb
    have hb2 := hb0.trans (hb.mono (by simp))
    clear k1 hb0 hb
    go_wp2_with fail
    refine bodyPost_ret (v := sv 0 l l) (by simp [results, Tryd.results23, go_sem, *]) rfl ⟨rfl, hb2.trans ?_⟩
    go_grown
set_option maxHeartbeats 1000000 in
theorem of_many (l h s : Nat) (uh : U h) (hl : l ≤ h) (hs : 0 < s) (h2 : ¬ h - l < s) (w : World) :
    Calls Tryd.prog 23 #[.int .u64 l, .int .u64 h, .int .u64 s] w fun e w' => e = .returned (sv s l (h - (h - l) % s)) ∧ Below w.heap.size w w' := by
  have u1 : (h : Int) ≤ 18446744073709551615 := by unfold U at uh; omega
  have h1 : ¬ (h : Int) < l := by omega
  have h0 : ((s : Int) == 0) = false := by simp; omega
  have h3 : ¬ (s : Int) ≤ 0 := by omega
  have h4 : (1 : Int) ≤ s := by omega
  have h5 : ¬ ((h : Int) - l < s) := by omega
  have e1 : ((h : Int) - l) % s = (((h - l) % s : Nat) : Int) := by rw [show (h : Int) - l = ((h - l : Nat) : Int) by omega]; simp
  have e2 : (((h - l) % s : Nat) : Int) ≤ h := by have := Nat.mod_le (h - l) s; omega
  have HE := Lib.hid (show ((h - (h - l) % s : Nat) : Int) = h - ((h : Int) - l) % s by rw [e1]; omega)
  have e3 : 0 ≤ ((h : Int) - l) % s := by rw [e1]; omega
  have e4 : ((h : Int) - l) % s ≤ h := by rw [e1]; exact e2
  clear e1 e2
  go_enter Tryd.func23, Tryd.ntmps23
  go_wp2_with fail
  refine bodyPost_ret (v := sv s l (h - (h - l) % s)) (by simp only [sv]; rw [HE.out]; simp [results, Tryd.results23, go_sem]) rfl ⟨rfl, ?_⟩
  go_grown
/-- Of's answer. -/
abbrev stv (a : St) : Value := sv a.s a.l a.h
theorem of_any (l h s : Nat) (uh : U h) (w : World) :
    Calls Tryd.prog 23 #[.int .u64 l, .int .u64 h, .int .u64 s] w fun e w' => e = .returned (stv (ofS l h s)) ∧ Below w.heap.size w w' := by
  unfold ofS
  by_cases hl : h < l
  · rw [if_pos hl]; exact of_none l h s hl w
  · rw [if_neg hl]
    by_cases hs : s = 0
    · rw [if_pos (.inl hs)]; exact of_one l h s uh (by omega) (.inl (by simp [hs])) w
    · by_cases h2 : h - l < s
      · rw [if_pos (.inr h2)]; exact of_one l h s uh (by omega) (.inr ⟨by simp [hs], h2⟩) w
      · rw [if_neg (by omega)]; exact of_many l h s uh (by omega) (by omega) h2 w
end Go.Proofs.YtmlgaaolofgdiaaDoor
