/- What the document's own answer says of which sets may be; Many; List, called. -/
import Derived.Test.YtmlgaaolofgdiaaDoorList2
namespace Go.Proofs.YtmlgaaolofgdiaaDoor
open Go.RowKit SM
set_option linter.unusedSimpArgs false
attribute [local go_sem ↓] Go.wp_at_zero Go.wp_at_succ
attribute [local go_sem ↓ high] eql_set neq_set run_mx run_mn
set_option maxHeartbeats 400000 in
theorem rnone_any (w : World) :
    Calls Tryd.prog 14 #[] w fun e w' => e = .returned (sv 0 1 0) ∧ Below w.heap.size w w' := by
  go_enter Tryd.func14, Tryd.ntmps14
  go_wp2
  refine bodyPost_ret (v := sv 0 1 0) (by simp [results, Tryd.results14, go_sem]) rfl ⟨rfl, by go_grown⟩
theorem mk1s {w0 W : World} {n b : Nat} {v0 v1 v2 : Value} (k : Slot3 W b v0 v1 v2) (hb : Below n w0 W) :
    W.cell? ⟨b, 0, none⟩ = some v0 ∧ W.cell? ⟨b, 1, none⟩ = some v1 ∧ W.cell? ⟨b, 2, none⟩ = some v2 ∧ W.frozen? ⟨b, 0, none⟩ = false ∧ W.frozen? ⟨b, 1, none⟩ = false ∧ W.frozen? ⟨b, 2, none⟩ = false ∧ b < W.heap.size ∧ Below n w0 W := by
  obtain ⟨c0, c1, c2, c3, c4, c5, c6⟩ := k
  exact ⟨c0, c1, c2, c3, c4, c5, c6, hb⟩
theorem keep1s {w0 W W' : World} {n b : Nat} {v0 v1 v2 : Value} (hb : Below W.heap.size W W') (hS : W.cell? ⟨b, 0, none⟩ = some v0 ∧ W.cell? ⟨b, 1, none⟩ = some v1 ∧ W.cell? ⟨b, 2, none⟩ = some v2 ∧ W.frozen? ⟨b, 0, none⟩ = false ∧ W.frozen? ⟨b, 1, none⟩ = false ∧ W.frozen? ⟨b, 2, none⟩ = false ∧ b < W.heap.size ∧ Below n w0 W) (hn : n ≤ w0.heap.size) :
    W'.cell? ⟨b, 0, none⟩ = some v0 ∧ W'.cell? ⟨b, 1, none⟩ = some v1 ∧ W'.cell? ⟨b, 2, none⟩ = some v2 ∧ W'.frozen? ⟨b, 0, none⟩ = false ∧ W'.frozen? ⟨b, 1, none⟩ = false ∧ W'.frozen? ⟨b, 2, none⟩ = false ∧ b < W'.heap.size ∧ Below n w0 W' := by
  obtain ⟨c0, c1, c2, c3, c4, c5, c6, hg⟩ := hS
  exact mk1s (Slot3.keep ⟨c0, c1, c2, c3, c4, c5, c6⟩ hb) (hg.trans (hb.mono (Nat.le_trans hn hg.size)))
theorem drew1s {w0 W : World} {n b : Nat} {v0 v1 v2 : Value} (hS : W.cell? ⟨b, 0, none⟩ = some v0 ∧ W.cell? ⟨b, 1, none⟩ = some v1 ∧ W.cell? ⟨b, 2, none⟩ = some v2 ∧ W.frozen? ⟨b, 0, none⟩ = false ∧ W.frozen? ⟨b, 1, none⟩ = false ∧ W.frozen? ⟨b, 2, none⟩ = false ∧ b < W.heap.size ∧ Below n w0 W) :
    W.drew.cell? ⟨b, 0, none⟩ = some v0 ∧ W.drew.cell? ⟨b, 1, none⟩ = some v1 ∧ W.drew.cell? ⟨b, 2, none⟩ = some v2 ∧ W.drew.frozen? ⟨b, 0, none⟩ = false ∧ W.drew.frozen? ⟨b, 1, none⟩ = false ∧ W.drew.frozen? ⟨b, 2, none⟩ = false ∧ b < W.drew.heap.size ∧ Below n w0 W.drew := by
  obtain ⟨c0, c1, c2, c3, c4, c5, c6, hg⟩ := hS
  exact mk1s (Slot3.drew ⟨c0, c1, c2, c3, c4, c5, c6⟩) hg.drew
set_option maxHeartbeats 1000000 in
theorem rr_none (s l h : Nat) (q : eq3 s l h 0 1 0 = true) (w : World) :
    Calls Tryd.prog 6 #[sv s l h] w fun e w' => e = .returned (.bool true) ∧ Below w.heap.size w w' := by
  have k1 := Slot3.new w (.int .u64 (s : Int)) (.int .u64 (l : Int)) (.int .u64 (h : Int)) 24
  have hb0 : Below w.heap.size w (w.alloc (sb s l h)) := (Below.refl _ _).alloc (Nat.le_refl _) _
  have HS := Lib.hid (mk1s k1 hb0)
  clear k1 hb0
  go_enter Tryd.func6, Tryd.ntmps6
  go_wp2
  go_region_held3 (fun W => W.cell? ⟨w.heap.size, 0, none⟩ = some (.int .u64 (s : Int)) ∧ W.cell? ⟨w.heap.size, 1, none⟩ = some (.int .u64 (l : Int)) ∧ W.cell? ⟨w.heap.size, 2, none⟩ = some (.int .u64 (h : Int)) ∧ W.frozen? ⟨w.heap.size, 0, none⟩ = false ∧ W.frozen? ⟨w.heap.size, 1, none⟩ = false ∧ W.frozen? ⟨w.heap.size, 2, none⟩ = false ∧ w.heap.size < W.heap.size ∧ Below w.heap.size w W)
    (first | (with_reducible assumption) | (with_reducible exact HS.out) | (with_reducible exact drew1s HS.out) | (with_reducible exact keep1s (by assumption) (by assumption) (Nat.le_refl _)) | fail)
    (first | (go_at_call 14; ((with_reducible refine (rnone_any _).mono ?_); rintro e w1 ⟨rfl, hb1⟩)))
  rename_i hS
  refine anyW (P := fun W => W.cell? ⟨w.heap.size, 0, none⟩ = some (.int .u64 (s : Int)) ∧ W.cell? ⟨w.heap.size, 1, none⟩ = some (.int .u64 (l : Int)) ∧ W.cell? ⟨w.heap.size, 2, none⟩ = some (.int .u64 (h : Int)) ∧ W.frozen? ⟨w.heap.size, 0, none⟩ = false ∧ W.frozen? ⟨w.heap.size, 1, none⟩ = false ∧ W.frozen? ⟨w.heap.size, 2, none⟩ = false ∧ w.heap.size < W.heap.size ∧ Below w.heap.size w W) (Q := fun W => Exit.then _ _ _ _ W) hS ?_
  clear hS HS
  intro W hS
  have HS := Lib.hid hS
  obtain ⟨c0, c1, c2, c3, c4, c5, c6, hg⟩ := hS
  go_wp2_with fail
  go_ret
  exact ⟨rfl, hg⟩
set_option maxHeartbeats 1000000 in
theorem rr_zero (s l h : Nat) (q : eq3 s l h 0 1 0 = false) (g : ((s : Int) == 0) = true) (w : World) :
    Calls Tryd.prog 6 #[sv s l h] w fun e w' => e = .returned (.bool ((l : Int) == h)) ∧ Below w.heap.size w w' := by
  have k1 := Slot3.new w (.int .u64 (s : Int)) (.int .u64 (l : Int)) (.int .u64 (h : Int)) 24
  have hb0 : Below w.heap.size w (w.alloc (sb s l h)) := (Below.refl _ _).alloc (Nat.le_refl _) _
  have HS := Lib.hid (mk1s k1 hb0)
  clear k1 hb0
  go_enter Tryd.func6, Tryd.ntmps6
  go_wp2
  go_region_held3 (fun W => W.cell? ⟨w.heap.size, 0, none⟩ = some (.int .u64 (s : Int)) ∧ W.cell? ⟨w.heap.size, 1, none⟩ = some (.int .u64 (l : Int)) ∧ W.cell? ⟨w.heap.size, 2, none⟩ = some (.int .u64 (h : Int)) ∧ W.frozen? ⟨w.heap.size, 0, none⟩ = false ∧ W.frozen? ⟨w.heap.size, 1, none⟩ = false ∧ W.frozen? ⟨w.heap.size, 2, none⟩ = false ∧ w.heap.size < W.heap.size ∧ Below w.heap.size w W)
    (first | (with_reducible assumption) | (with_reducible exact HS.out) | (with_reducible exact drew1s HS.out) | (with_reducible exact keep1s (by assumption) (by assumption) (Nat.le_refl _)) | fail)
    (first | (go_at_call 14; ((with_reducible refine (rnone_any _).mono ?_); rintro e w1 ⟨rfl, hb1⟩)))
  rename_i hS
  refine anyW (P := fun W => W.cell? ⟨w.heap.size, 0, none⟩ = some (.int .u64 (s : Int)) ∧ W.cell? ⟨w.heap.size, 1, none⟩ = some (.int .u64 (l : Int)) ∧ W.cell? ⟨w.heap.size, 2, none⟩ = some (.int .u64 (h : Int)) ∧ W.frozen? ⟨w.heap.size, 0, none⟩ = false ∧ W.frozen? ⟨w.heap.size, 1, none⟩ = false ∧ W.frozen? ⟨w.heap.size, 2, none⟩ = false ∧ w.heap.size < W.heap.size ∧ Below w.heap.size w W) (Q := fun W => Exit.then _ _ _ _ W) hS ?_
  clear hS HS
  intro W hS
  have HS := Lib.hid hS
  obtain ⟨c0, c1, c2, c3, c4, c5, c6, hg⟩ := hS
  go_wp2_with fail
  go_ret
  exact ⟨rfl, hg⟩
set_option maxHeartbeats 1000000 in
theorem rr_no (s l h : Nat) (q : eq3 s l h 0 1 0 = false) (g : ((s : Int) == 0) = false) (g2 : ¬ (l : Int) < h) (w : World) :
    Calls Tryd.prog 6 #[sv s l h] w fun e w' => e = .returned (.bool false) ∧ Below w.heap.size w w' := by
  have k1 := Slot3.new w (.int .u64 (s : Int)) (.int .u64 (l : Int)) (.int .u64 (h : Int)) 24
  have hb0 : Below w.heap.size w (w.alloc (sb s l h)) := (Below.refl _ _).alloc (Nat.le_refl _) _
  have HS := Lib.hid (mk1s k1 hb0)
  clear k1 hb0
  go_enter Tryd.func6, Tryd.ntmps6
  go_wp2
  go_region_held3 (fun W => W.cell? ⟨w.heap.size, 0, none⟩ = some (.int .u64 (s : Int)) ∧ W.cell? ⟨w.heap.size, 1, none⟩ = some (.int .u64 (l : Int)) ∧ W.cell? ⟨w.heap.size, 2, none⟩ = some (.int .u64 (h : Int)) ∧ W.frozen? ⟨w.heap.size, 0, none⟩ = false ∧ W.frozen? ⟨w.heap.size, 1, none⟩ = false ∧ W.frozen? ⟨w.heap.size, 2, none⟩ = false ∧ w.heap.size < W.heap.size ∧ Below w.heap.size w W)
    (first | (with_reducible assumption) | (with_reducible exact HS.out) | (with_reducible exact drew1s HS.out) | (with_reducible exact keep1s (by assumption) (by assumption) (Nat.le_refl _)) | fail)
    (first | (go_at_call 14; ((with_reducible refine (rnone_any _).mono ?_); rintro e w1 ⟨rfl, hb1⟩)))
  rename_i hS
  refine anyW (P := fun W => W.cell? ⟨w.heap.size, 0, none⟩ = some (.int .u64 (s : Int)) ∧ W.cell? ⟨w.heap.size, 1, none⟩ = some (.int .u64 (l : Int)) ∧ W.cell? ⟨w.heap.size, 2, none⟩ = some (.int .u64 (h : Int)) ∧ W.frozen? ⟨w.heap.size, 0, none⟩ = false ∧ W.frozen? ⟨w.heap.size, 1, none⟩ = false ∧ W.frozen? ⟨w.heap.size, 2, none⟩ = false ∧ w.heap.size < W.heap.size ∧ Below w.heap.size w W) (Q := fun W => Exit.then _ _ _ _ W) hS ?_
  clear hS HS
  intro W hS
  have HS := Lib.hid hS
  obtain ⟨c0, c1, c2, c3, c4, c5, c6, hg⟩ := hS
  go_wp2_with fail
  go_ret
  exact ⟨rfl, hg⟩
set_option maxHeartbeats 1000000 in
theorem rr_yes (s l h : Nat) (q : eq3 s l h 0 1 0 = false) (hs : 0 < s) (uh : U h) (hl : l < h) (w : World) :
    Calls Tryd.prog 6 #[sv s l h] w fun e w' => e = .returned (.bool (decide ((h - l) % s = 0))) ∧ Below w.heap.size w w' := by
  have g : ((s : Int) == 0) = false := by simp; omega
  have g2 : (l : Int) < h := by omega
  have HM := Lib.hid (mod_val l h s uh (Nat.le_of_lt hl))
  have u1 : (h : Int) ≤ 18446744073709551615 := by unfold U at uh; omega
  clear uh hl
  have k1 := Slot3.new w (.int .u64 (s : Int)) (.int .u64 (l : Int)) (.int .u64 (h : Int)) 24
  have hb0 : Below w.heap.size w (w.alloc (sb s l h)) := (Below.refl _ _).alloc (Nat.le_refl _) _
  have HS := Lib.hid (mk1s k1 hb0)
  clear k1 hb0
  go_enter Tryd.func6, Tryd.ntmps6
  go_wp2
  go_region_held3 (fun W => W.cell? ⟨w.heap.size, 0, none⟩ = some (.int .u64 (s : Int)) ∧ W.cell? ⟨w.heap.size, 1, none⟩ = some (.int .u64 (l : Int)) ∧ W.cell? ⟨w.heap.size, 2, none⟩ = some (.int .u64 (h : Int)) ∧ W.frozen? ⟨w.heap.size, 0, none⟩ = false ∧ W.frozen? ⟨w.heap.size, 1, none⟩ = false ∧ W.frozen? ⟨w.heap.size, 2, none⟩ = false ∧ w.heap.size < W.heap.size ∧ Below w.heap.size w W)
    (first | (with_reducible assumption) | (with_reducible exact HS.out) | (with_reducible exact drew1s HS.out) | (with_reducible exact keep1s (by assumption) (by assumption) (Nat.le_refl _)) | fail)
    (first | (go_at_call 14; ((with_reducible refine (rnone_any _).mono ?_); rintro e w1 ⟨rfl, hb1⟩)))
  rename_i hS
  refine anyW (P := fun W => W.cell? ⟨w.heap.size, 0, none⟩ = some (.int .u64 (s : Int)) ∧ W.cell? ⟨w.heap.size, 1, none⟩ = some (.int .u64 (l : Int)) ∧ W.cell? ⟨w.heap.size, 2, none⟩ = some (.int .u64 (h : Int)) ∧ W.frozen? ⟨w.heap.size, 0, none⟩ = false ∧ W.frozen? ⟨w.heap.size, 1, none⟩ = false ∧ W.frozen? ⟨w.heap.size, 2, none⟩ = false ∧ w.heap.size < W.heap.size ∧ Below w.heap.size w W) (Q := fun W => Exit.then _ _ _ _ W) hS ?_
  clear hS HS
  intro W hS
  have HS := Lib.hid hS
  obtain ⟨c0, c1, c2, c3, c4, c5, c6, hg⟩ := hS
  go_wp2_with fail
  go_ret
  exact ⟨by simp [HM.out.2]; rw [← Int.natCast_emod, beq0], hg⟩
instance (a : St) : Decidable (Rt a) := inferInstanceAs (Decidable (_ ∨ _))
theorem rright_any (s l h : Nat) (uh : U h) (w : World) :
    Calls Tryd.prog 6 #[sv s l h] w fun e w' => e = .returned (.bool (decide (Rt ⟨s, l, h⟩))) ∧ Below w.heap.size w w' := by
  by_cases hn : (⟨s, l, h⟩ : St) = noneS
  · rw [decide_eq_true (show Rt ⟨s, l, h⟩ from .inr (.inl hn))]; exact rr_none s l h (eq3_none s l h hn) w
  · have q := eq3_some s l h hn
    by_cases hs : s = 0
    · have e : decide (Rt ⟨s, l, h⟩) = ((l : Int) == h) := by
        rw [Bool.eq_iff_iff]; simp only [decide_eq_true_eq, beq_iff_eq]
        unfold Rt; dsimp only
        constructor
        · rintro (⟨_, e⟩ | e | ⟨e, _⟩)
          · omega
          · exact absurd e hn
          · omega
        · intro e; exact .inl ⟨hs, by omega⟩
      rw [e]; exact rr_zero s l h q (by simp [hs]) w
    · by_cases hl : l < h
      · have e : decide (Rt ⟨s, l, h⟩) = decide ((h - l) % s = 0) := by
          rw [decide_eq_decide]; unfold Rt; dsimp only
          constructor
          · rintro (⟨e, _⟩ | e | ⟨_, _, e⟩)
            · omega
            · exact absurd e hn
            · exact Nat.mod_eq_zero_of_dvd e
          · intro e; exact .inr (.inr ⟨by omega, hl, Nat.dvd_of_mod_eq_zero e⟩)
        rw [e]; exact rr_yes s l h q (by omega) uh hl w
      · have e : decide (Rt ⟨s, l, h⟩) = false := by
          rw [decide_eq_false_iff_not]; unfold Rt; dsimp only
          rintro (⟨e, _⟩ | e | ⟨_, e, _⟩)
          · omega
          · exact absurd e hn
          · omega
        rw [e]; exact rr_no s l h q (by simp; omega) (by omega) w
set_option maxHeartbeats 1000000 in
theorem many_none (s l h : Nat) (uh : U h) (ha : Rt ⟨s, l, h⟩) (q : eq3 s l h 0 1 0 = true) (w : World) :
    Calls Tryd.prog 13 #[sv s l h] w fun e w' => e = .returned (.int .u64 0) ∧ Below w.heap.size w w' := by
  have k1 := Slot3.new w (.int .u64 (s : Int)) (.int .u64 (l : Int)) (.int .u64 (h : Int)) 24
  have hb0 : Below w.heap.size w (w.alloc (sb s l h)) := (Below.refl _ _).alloc (Nat.le_refl _) _
  have HS := Lib.hid (mk1s k1 hb0)
  clear k1 hb0
  go_enter Tryd.func13, Tryd.ntmps13
  go_wp2_with fail
  go_at_call 27
  refine (held_rt _ _ _ uh ha _).mono ?_
  rintro e W0 ⟨rfl, hb1⟩
  replace HS := Lib.hid (keep1s hb1 HS.out (Nat.le_refl _))
  clear hb1
  obtain ⟨c0, c1, c2, c3, c4, c5, c6, hg⟩ := HS.out
  go_wp2_with fail
  rw [put_same c0 c1 c2]
  go_region_held3 (fun W => W.cell? ⟨w.heap.size, 0, none⟩ = some (.int .u64 (s : Int)) ∧ W.cell? ⟨w.heap.size, 1, none⟩ = some (.int .u64 (l : Int)) ∧ W.cell? ⟨w.heap.size, 2, none⟩ = some (.int .u64 (h : Int)) ∧ W.frozen? ⟨w.heap.size, 0, none⟩ = false ∧ W.frozen? ⟨w.heap.size, 1, none⟩ = false ∧ W.frozen? ⟨w.heap.size, 2, none⟩ = false ∧ w.heap.size < W.heap.size ∧ Below w.heap.size w W)
    (first | (with_reducible assumption) | (with_reducible exact HS.out) | (with_reducible exact drew1s HS.out) | (with_reducible exact keep1s (by assumption) (by assumption) (Nat.le_refl _)) | fail)
    (first | (go_at_call 26; ((with_reducible refine (none_any _).mono ?_); rintro e w1 ⟨rfl, hb1⟩)))
  rename_i hS
  refine anyW (P := fun W => W.cell? ⟨w.heap.size, 0, none⟩ = some (.int .u64 (s : Int)) ∧ W.cell? ⟨w.heap.size, 1, none⟩ = some (.int .u64 (l : Int)) ∧ W.cell? ⟨w.heap.size, 2, none⟩ = some (.int .u64 (h : Int)) ∧ W.frozen? ⟨w.heap.size, 0, none⟩ = false ∧ W.frozen? ⟨w.heap.size, 1, none⟩ = false ∧ W.frozen? ⟨w.heap.size, 2, none⟩ = false ∧ w.heap.size < W.heap.size ∧ Below w.heap.size w W) (Q := fun W => Exit.then _ _ _ _ W) hS ?_
  clear hS HS
  intro W hS
  have HS := Lib.hid hS
  obtain ⟨c0, c1, c2, c3, c4, c5, c6, hg⟩ := hS
  go_wp2_with fail
  go_ret
  exact ⟨rfl, hg⟩
set_option maxHeartbeats 1000000 in
theorem many_one (s l h : Nat) (uh : U h) (ha : Rt ⟨s, l, h⟩) (q : eq3 s l h 0 1 0 = false) (g : ((l : Int) == h) = true) (w : World) :
    Calls Tryd.prog 13 #[sv s l h] w fun e w' => e = .returned (.int .u64 1) ∧ Below w.heap.size w w' := by
  have k1 := Slot3.new w (.int .u64 (s : Int)) (.int .u64 (l : Int)) (.int .u64 (h : Int)) 24
  have hb0 : Below w.heap.size w (w.alloc (sb s l h)) := (Below.refl _ _).alloc (Nat.le_refl _) _
  have HS := Lib.hid (mk1s k1 hb0)
  clear k1 hb0
  go_enter Tryd.func13, Tryd.ntmps13
  go_wp2_with fail
  go_at_call 27
  refine (held_rt _ _ _ uh ha _).mono ?_
  rintro e W0 ⟨rfl, hb1⟩
  replace HS := Lib.hid (keep1s hb1 HS.out (Nat.le_refl _))
  clear hb1
  obtain ⟨c0, c1, c2, c3, c4, c5, c6, hg⟩ := HS.out
  go_wp2_with fail
  rw [put_same c0 c1 c2]
  go_region_held3 (fun W => W.cell? ⟨w.heap.size, 0, none⟩ = some (.int .u64 (s : Int)) ∧ W.cell? ⟨w.heap.size, 1, none⟩ = some (.int .u64 (l : Int)) ∧ W.cell? ⟨w.heap.size, 2, none⟩ = some (.int .u64 (h : Int)) ∧ W.frozen? ⟨w.heap.size, 0, none⟩ = false ∧ W.frozen? ⟨w.heap.size, 1, none⟩ = false ∧ W.frozen? ⟨w.heap.size, 2, none⟩ = false ∧ w.heap.size < W.heap.size ∧ Below w.heap.size w W)
    (first | (with_reducible assumption) | (with_reducible exact HS.out) | (with_reducible exact drew1s HS.out) | (with_reducible exact keep1s (by assumption) (by assumption) (Nat.le_refl _)) | fail)
    (first | (go_at_call 26; ((with_reducible refine (none_any _).mono ?_); rintro e w1 ⟨rfl, hb1⟩)))
  rename_i hS
  refine anyW (P := fun W => W.cell? ⟨w.heap.size, 0, none⟩ = some (.int .u64 (s : Int)) ∧ W.cell? ⟨w.heap.size, 1, none⟩ = some (.int .u64 (l : Int)) ∧ W.cell? ⟨w.heap.size, 2, none⟩ = some (.int .u64 (h : Int)) ∧ W.frozen? ⟨w.heap.size, 0, none⟩ = false ∧ W.frozen? ⟨w.heap.size, 1, none⟩ = false ∧ W.frozen? ⟨w.heap.size, 2, none⟩ = false ∧ w.heap.size < W.heap.size ∧ Below w.heap.size w W) (Q := fun W => Exit.then _ _ _ _ W) hS ?_
  clear hS HS
  intro W hS
  have HS := Lib.hid hS
  obtain ⟨c0, c1, c2, c3, c4, c5, c6, hg⟩ := hS
  go_wp2_with fail
  go_at_call 28
  refine (isOne_any _ _ _ _).mono ?_
  rintro e W' ⟨rfl, hb1⟩
  replace HS := Lib.hid (keep1s hb1 HS.out (Nat.le_refl _))
  clear hb1 c0 c1 c2 c3 c4 c5 c6 hg
  obtain ⟨c0, c1, c2, c3, c4, c5, c6, hg⟩ := HS.out
  go_wp2_with fail
  go_ret
  exact ⟨rfl, hg⟩
set_option maxHeartbeats 1000000 in
theorem many_many (s l h : Nat) (uh : U h) (ha : Rt ⟨s, l, h⟩) (q : eq3 s l h 0 1 0 = false) (g : ((l : Int) == h) = false) (hl : l ≤ h) (hs : 0 < s) (hN : stN s l h + 1 < 18446744073709551616) (w : World) :
    Calls Tryd.prog 13 #[sv s l h] w fun e w' => e = .returned (.int .u64 (stN s l h + 1 : Nat)) ∧ Below w.heap.size w w' := by
  have u1 : (h : Int) ≤ 18446744073709551615 := by unfold U at uh; omega
  have g2 : (1 : Int) ≤ s := by omega
  have g3 : ¬ (s : Int) ≤ 0 := by omega
  have e1 : ((h : Int) - l) / s = ((stN s l h : Nat) : Int) := by unfold stN; rw [show (h : Int) - l = ((h - l : Nat) : Int) by omega]; simp
  have u2 : (stN s l h : Int) ≤ 18446744073709551614 := by omega
  have g4 : (stN s l h : Int) < stN s l h + 1 := by omega
  have g5 : ¬ (stN s l h + 1 : Int) ≤ stN s l h := by omega
  have k1 := Slot3.new w (.int .u64 (s : Int)) (.int .u64 (l : Int)) (.int .u64 (h : Int)) 24
  have hb0 : Below w.heap.size w (w.alloc (sb s l h)) := (Below.refl _ _).alloc (Nat.le_refl _) _
  have HS := Lib.hid (mk1s k1 hb0)
  clear k1 hb0
  go_enter Tryd.func13, Tryd.ntmps13
  go_wp2_with fail
  go_at_call 27
  refine (held_rt _ _ _ uh ha _).mono ?_
  rintro e W0 ⟨rfl, hb1⟩
  replace HS := Lib.hid (keep1s hb1 HS.out (Nat.le_refl _))
  clear hb1
  obtain ⟨c0, c1, c2, c3, c4, c5, c6, hg⟩ := HS.out
  go_wp2_with fail
  rw [put_same c0 c1 c2]
  go_region_held3 (fun W => W.cell? ⟨w.heap.size, 0, none⟩ = some (.int .u64 (s : Int)) ∧ W.cell? ⟨w.heap.size, 1, none⟩ = some (.int .u64 (l : Int)) ∧ W.cell? ⟨w.heap.size, 2, none⟩ = some (.int .u64 (h : Int)) ∧ W.frozen? ⟨w.heap.size, 0, none⟩ = false ∧ W.frozen? ⟨w.heap.size, 1, none⟩ = false ∧ W.frozen? ⟨w.heap.size, 2, none⟩ = false ∧ w.heap.size < W.heap.size ∧ Below w.heap.size w W)
    (first | (with_reducible assumption) | (with_reducible exact HS.out) | (with_reducible exact drew1s HS.out) | (with_reducible exact keep1s (by assumption) (by assumption) (Nat.le_refl _)) | fail)
    (first | (go_at_call 26; ((with_reducible refine (none_any _).mono ?_); rintro e w1 ⟨rfl, hb1⟩)))
  rename_i hS
  refine anyW (P := fun W => W.cell? ⟨w.heap.size, 0, none⟩ = some (.int .u64 (s : Int)) ∧ W.cell? ⟨w.heap.size, 1, none⟩ = some (.int .u64 (l : Int)) ∧ W.cell? ⟨w.heap.size, 2, none⟩ = some (.int .u64 (h : Int)) ∧ W.frozen? ⟨w.heap.size, 0, none⟩ = false ∧ W.frozen? ⟨w.heap.size, 1, none⟩ = false ∧ W.frozen? ⟨w.heap.size, 2, none⟩ = false ∧ w.heap.size < W.heap.size ∧ Below w.heap.size w W) (Q := fun W => Exit.then _ _ _ _ W) hS ?_
  clear hS HS
  intro W hS
  have HS := Lib.hid hS
  obtain ⟨c0, c1, c2, c3, c4, c5, c6, hg⟩ := hS
  go_wp2_with fail
  go_at_call 28
  refine (isOne_any _ _ _ _).mono ?_
  rintro e W' ⟨rfl, hb1⟩
  replace HS := Lib.hid (keep1s hb1 HS.out (Nat.le_refl _))
  clear hb1 c0 c1 c2 c3 c4 c5 c6 hg
  obtain ⟨c0, c1, c2, c3, c4, c5, c6, hg⟩ := HS.out
  go_wp2_with fail
  go_ret
  exact ⟨by simp, hg⟩
/-- How many values. -/
def manyN (a : St) : Nat := if a = noneS then 0 else if a.l = a.h then 1 else stN a.s a.l a.h + 1
theorem many_any (s l h : Nat) (uh : U h) (ha : Rt ⟨s, l, h⟩) (hN : stN s l h + 1 < 18446744073709551616) (w : World) :
    Calls Tryd.prog 13 #[sv s l h] w fun e w' => e = .returned (.int .u64 (manyN ⟨s, l, h⟩ : Nat)) ∧ Below w.heap.size w w' := by
  unfold manyN; dsimp only
  by_cases hn : (⟨s, l, h⟩ : St) = noneS
  · rw [if_pos hn]; exact many_none s l h uh ha (eq3_none s l h hn) w
  · rw [if_neg hn]
    by_cases g : l = h
    · rw [if_pos g]; exact many_one s l h uh ha (eq3_some s l h hn) (by simp [g]) w
    · rw [if_neg g]
      have hs : 0 < s := by
        rcases ha.ok hn with ⟨_, e⟩ | ⟨e, _⟩
        · exact absurd e g
        · exact e
      exact many_many s l h uh ha (eq3_some s l h hn) (by simp; omega) (ha.ok hn).le hs hN w
/-- What List's answer is good for. -/
def Listed (s lo hi : Nat) (w : World) (e : Ending) (W' : World) : Prop :=
  ∃ v, e = .returned v ∧ W'.ownsRow w.heap.size 22 1 v (stN s lo hi + 1) ((upto (fun k => lo + k * s) (stN s lo hi + 1)).map (fun x : Nat => Value.int .u64 (x : Int))) ∧ Below w.heap.size w W'
theorem list_any (s lo hi : Nat) (most : Int) (uh : U hi) (ha : Rt ⟨s, lo, hi⟩) (hn : (⟨s, lo, hi⟩ : St) ≠ noneS) (hm : ((stN s lo hi + 1 : Nat) : Int) ≤ most) (hm2 : most ≤ 1000000) (w : World) :
    Calls Tryd.prog 12 #[sv s lo hi, .int .i64 most] w (Listed s lo hi w) :=
  callsIn_wide.1 (list_in Fence.wide (Lib.hid rfl) 5 (by decide) s lo hi most uh ha hn hm hm2 w)
end Go.Proofs.YtmlgaaolofgdiaaDoor
