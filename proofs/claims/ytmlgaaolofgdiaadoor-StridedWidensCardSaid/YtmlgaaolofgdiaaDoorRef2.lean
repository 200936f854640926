/- sundialref22's seen, empty, Many. -/
import Derived.Test.YtmlgaaolofgdiaaDoorRef
namespace Go.Proofs.YtmlgaaolofgdiaaDoor
open Go.RowKit SM
set_option linter.unusedSimpArgs false
attribute [local go_sem ↓] Go.wp_at_zero Go.wp_at_succ
attribute [local go_sem ↓ high] eql_set neq_set
set_option maxHeartbeats 1000000 in
theorem seen_rt (s l h : Nat) (uh : U h) (ha : Rt ⟨s, l, h⟩) (w : World) :
    Calls Tryd.prog 21 #[sv s l h] w fun e w' => e = .returned (sv s l h) ∧ Below w.heap.size w w' := by
  have k1 := Lib.hid ((Slot3.new w (.int .u64 (s : Int)) (.int .u64 (l : Int)) (.int .u64 (h : Int)) 24).alloc (sb 0 0 0))
  have k2 := Lib.hid (Slot3.new (w.alloc (sb s l h)) (.int .u64 0) (.int .u64 0) (.int .u64 0) 24)
  have hb0 : Below w.heap.size w ((w.alloc (sb s l h)).alloc (sb 0 0 0)) := ((Below.refl _ _).alloc (Nat.le_refl _) _).alloc (by simp) _
  have HR := Lib.hid (fun W => rright_any s l h uh W)
  rw [decide_eq_true ha] at HR
  go_enter Tryd.func21, Tryd.ntmps21
  go_wp2_with fail
  go_at_call 6
  refine (HR.out _).mono ?_
  rintro e w1 ⟨rfl, hb⟩
  obtain ⟨c0, c1, c2, f0, f1, f2, hz⟩ := k1.out.keep hb
  obtain ⟨d0, d1, d2, e0, e1, e2, hy⟩ := k2.out.keep hb
  have hb2 := hb0.trans (hb.mono (by simp; omega))
  simp only [World.size_alloc] at d0 d1 d2 e0 e1 e2 hy
  clear k1 k2 hb0 hb
  go_wp2
  refine bodyPost_ret (v := sv s l h) (by simp [results, Tryd.results21, go_sem, *]) rfl ⟨rfl, ?_⟩
  refine hb2.trans ?_
  go_grown
set_option maxHeartbeats 1000000 in
theorem empty_any (s l h : Nat) (w : World) :
    Calls Tryd.prog 22 #[sv s l h] w fun e w' => e = .returned (.bool (eq3 s l h 0 1 0)) ∧ Below w.heap.size w w' := by
  have k1 := Slot3.new w (.int .u64 (s : Int)) (.int .u64 (l : Int)) (.int .u64 (h : Int)) 24
  have hb0 : Below w.heap.size w (w.alloc (sb s l h)) := (Below.refl _ _).alloc (Nat.le_refl _) _
  have HS := Lib.hid (mk1s k1 hb0)
  clear k1 hb0
  go_enter Tryd.func22, Tryd.ntmps22
  go_wp2
  go_region_held3 (fun W => W.cell? ⟨w.heap.size, 0, none⟩ = some (.int .u64 (s : Int)) ∧ W.cell? ⟨w.heap.size, 1, none⟩ = some (.int .u64 (l : Int)) ∧ W.cell? ⟨w.heap.size, 2, none⟩ = some (.int .u64 (h : Int)) ∧ W.frozen? ⟨w.heap.size, 0, none⟩ = false ∧ W.frozen? ⟨w.heap.size, 1, none⟩ = false ∧ W.frozen? ⟨w.heap.size, 2, none⟩ = false ∧ w.heap.size < W.heap.size ∧ Below w.heap.size w W)
    (first | (with_reducible assumption) | (with_reducible exact HS.out) | (with_reducible exact drew1s HS.out) | (with_reducible exact keep1s (by assumption) (by assumption) (Nat.le_refl _)) | fail)
    (first | (go_at_call 14; ((with_reducible refine (rnone_any _).mono ?_); rintro e w1 ⟨rfl, hb1⟩)))
  rename_i hS
  refine anyW (P := fun W => W.cell? ⟨w.heap.size, 0, none⟩ = some (.int .u64 (s : Int)) ∧ W.cell? ⟨w.heap.size, 1, none⟩ = some (.int .u64 (l : Int)) ∧ W.cell? ⟨w.heap.size, 2, none⟩ = some (.int .u64 (h : Int)) ∧ W.frozen? ⟨w.heap.size, 0, none⟩ = false ∧ W.frozen? ⟨w.heap.size, 1, none⟩ = false ∧ W.frozen? ⟨w.heap.size, 2, none⟩ = false ∧ w.heap.size < W.heap.size ∧ Below w.heap.size w W) (Q := fun W => Exit.then _ _ _ _ W) hS ?_
  clear hS HS
  intro W hS
  obtain ⟨c0, c1, c2, c3, c4, c5, c6, hg⟩ := hS
  go_wp2_with fail
  go_ret
  exact ⟨rfl, hg⟩
/-- How many values, 2^64 - 1 if there are more. -/
def manyC (a : St) : Nat := min (manyN a) 18446744073709551615
set_option maxHeartbeats 1000000 in
theorem rmany_none (s l h : Nat) (uh : U h) (ha : Rt ⟨s, l, h⟩) (q : eq3 s l h 0 1 0 = true) (w : World) :
    Calls Tryd.prog 7 #[sv s l h] w fun e w' => e = .returned (.int .u64 0) ∧ Below w.heap.size w w' := by
  have k1 := Slot3.new w (.int .u64 (s : Int)) (.int .u64 (l : Int)) (.int .u64 (h : Int)) 24
  have hb0 : Below w.heap.size w (w.alloc (sb s l h)) := (Below.refl _ _).alloc (Nat.le_refl _) _
  have HS := Lib.hid (mk1s k1 hb0)
  clear k1 hb0
  go_enter Tryd.func7, Tryd.ntmps7
  go_wp2_with fail
  go_at_call 21
  refine (seen_rt _ _ _ uh ha _).mono ?_
  rintro e W0 ⟨rfl, hb1⟩
  replace HS := Lib.hid (keep1s hb1 HS.out (Nat.le_refl _))
  clear hb1
  obtain ⟨c0, c1, c2, c3, c4, c5, c6, hg⟩ := HS.out
  go_wp2_with fail
  rw [put_same c0 c1 c2]
  go_at_call 22
  refine (empty_any _ _ _ _).mono ?_
  rw [q]
  rintro e W1 ⟨rfl, hb1⟩
  replace HS := Lib.hid (keep1s hb1 HS.out (Nat.le_refl _))
  clear hb1 c0 c1 c2 c3 c4 c5 c6 hg
  obtain ⟨c0, c1, c2, c3, c4, c5, c6, hg⟩ := HS.out
  go_wp2_with fail
  go_ret
  exact ⟨rfl, hg⟩
set_option maxHeartbeats 1000000 in
theorem rmany_one (s l h : Nat) (uh : U h) (ha : Rt ⟨s, l, h⟩) (q : eq3 s l h 0 1 0 = false) (g : ((s : Int) == 0) = true) (w : World) :
    Calls Tryd.prog 7 #[sv s l h] w fun e w' => e = .returned (.int .u64 1) ∧ Below w.heap.size w w' := by
  have k1 := Slot3.new w (.int .u64 (s : Int)) (.int .u64 (l : Int)) (.int .u64 (h : Int)) 24
  have hb0 : Below w.heap.size w (w.alloc (sb s l h)) := (Below.refl _ _).alloc (Nat.le_refl _) _
  have HS := Lib.hid (mk1s k1 hb0)
  clear k1 hb0
  go_enter Tryd.func7, Tryd.ntmps7
  go_wp2_with fail
  go_at_call 21
  refine (seen_rt _ _ _ uh ha _).mono ?_
  rintro e W0 ⟨rfl, hb1⟩
  replace HS := Lib.hid (keep1s hb1 HS.out (Nat.le_refl _))
  clear hb1
  obtain ⟨c0, c1, c2, c3, c4, c5, c6, hg⟩ := HS.out
  go_wp2_with fail
  rw [put_same c0 c1 c2]
  go_at_call 22
  refine (empty_any _ _ _ _).mono ?_
  rw [q]
  rintro e W1 ⟨rfl, hb1⟩
  replace HS := Lib.hid (keep1s hb1 HS.out (Nat.le_refl _))
  clear hb1 c0 c1 c2 c3 c4 c5 c6 hg
  obtain ⟨c0, c1, c2, c3, c4, c5, c6, hg⟩ := HS.out
  go_wp2_with fail
  go_ret
  exact ⟨rfl, hg⟩
set_option maxHeartbeats 1000000 in
theorem rmany_many (s l h : Nat) (uh : U h) (ha : Rt ⟨s, l, h⟩) (q : eq3 s l h 0 1 0 = false) (g : ((s : Int) == 0) = false) (hl : l ≤ h) (hs : 0 < s) (hN : stN s l h + 1 < 18446744073709551616) (w : World) :
    Calls Tryd.prog 7 #[sv s l h] w fun e w' => e = .returned (.int .u64 (stN s l h + 1 : Nat)) ∧ Below w.heap.size w w' := by
  have u1 : (h : Int) ≤ 18446744073709551615 := by unfold U at uh; omega
  have g2 : (1 : Int) ≤ s := by omega
  have g3 : ¬ (s : Int) ≤ 0 := by omega
  have e1 : ((h : Int) - l) / s = ((stN s l h : Nat) : Int) := by unfold stN; rw [show (h : Int) - l = ((h - l : Nat) : Int) by omega]; simp
  have u2 : (stN s l h : Int) ≤ 18446744073709551614 := by omega
  have g6 : ((stN s l h : Int) + 1 == 0) = false := by simp; omega
  have k1 := Slot3.new w (.int .u64 (s : Int)) (.int .u64 (l : Int)) (.int .u64 (h : Int)) 24
  have hb0 : Below w.heap.size w (w.alloc (sb s l h)) := (Below.refl _ _).alloc (Nat.le_refl _) _
  have HS := Lib.hid (mk1s k1 hb0)
  clear k1 hb0
  go_enter Tryd.func7, Tryd.ntmps7
  go_wp2_with fail
  go_at_call 21
  refine (seen_rt _ _ _ uh ha _).mono ?_
  rintro e W0 ⟨rfl, hb1⟩
  replace HS := Lib.hid (keep1s hb1 HS.out (Nat.le_refl _))
  clear hb1
  obtain ⟨c0, c1, c2, c3, c4, c5, c6, hg⟩ := HS.out
  go_wp2_with fail
  rw [put_same c0 c1 c2]
  go_at_call 22
  refine (empty_any _ _ _ _).mono ?_
  rw [q]
  rintro e W1 ⟨rfl, hb1⟩
  replace HS := Lib.hid (keep1s hb1 HS.out (Nat.le_refl _))
  clear hb1 c0 c1 c2 c3 c4 c5 c6 hg
  obtain ⟨c0, c1, c2, c3, c4, c5, c6, hg⟩ := HS.out
  go_wp2_with fail
  go_ret
  exact ⟨by simp, hg⟩
set_option maxHeartbeats 1000000 in
theorem rmany_top (s l h : Nat) (uh : U h) (ha : Rt ⟨s, l, h⟩) (q : eq3 s l h 0 1 0 = false) (g : ((s : Int) == 0) = false) (hl : l ≤ h) (hs : 0 < s) (hN : stN s l h = 18446744073709551615) (w : World) :
    Calls Tryd.prog 7 #[sv s l h] w fun e w' => e = .returned (.int .u64 (18446744073709551615 : Nat)) ∧ Below w.heap.size w w' := by
  have u1 : (h : Int) ≤ 18446744073709551615 := by unfold U at uh; omega
  have g2 : (1 : Int) ≤ s := by omega
  have g3 : ¬ (s : Int) ≤ 0 := by omega
  have e1 : ((h : Int) - l) / s = 18446744073709551615 := by rw [← show ((stN s l h : Nat) : Int) = 18446744073709551615 by omega]; unfold stN; rw [show (h : Int) - l = ((h - l : Nat) : Int) by omega]; simp
  have k1 := Slot3.new w (.int .u64 (s : Int)) (.int .u64 (l : Int)) (.int .u64 (h : Int)) 24
  have hb0 : Below w.heap.size w (w.alloc (sb s l h)) := (Below.refl _ _).alloc (Nat.le_refl _) _
  have HS := Lib.hid (mk1s k1 hb0)
  clear k1 hb0
  go_enter Tryd.func7, Tryd.ntmps7
  go_wp2_with fail
  go_at_call 21
  refine (seen_rt _ _ _ uh ha _).mono ?_
  rintro e W0 ⟨rfl, hb1⟩
  replace HS := Lib.hid (keep1s hb1 HS.out (Nat.le_refl _))
  clear hb1
  obtain ⟨c0, c1, c2, c3, c4, c5, c6, hg⟩ := HS.out
  go_wp2_with fail
  rw [put_same c0 c1 c2]
  go_at_call 22
  refine (empty_any _ _ _ _).mono ?_
  rw [q]
  rintro e W1 ⟨rfl, hb1⟩
  replace HS := Lib.hid (keep1s hb1 HS.out (Nat.le_refl _))
  clear hb1 c0 c1 c2 c3 c4 c5 c6 hg
  obtain ⟨c0, c1, c2, c3, c4, c5, c6, hg⟩ := HS.out
  go_wp2_with fail
  go_ret
  exact ⟨by rw [show ((18446744073709551615 : Nat) : Int) = ((h : Int) - l) / s by rw [e1]; rfl]; rfl, hg⟩
theorem rmany_any (s l h : Nat) (uh : U h) (ha : Rt ⟨s, l, h⟩) (w : World) :
    Calls Tryd.prog 7 #[sv s l h] w fun e w' => e = .returned (.int .u64 (manyC ⟨s, l, h⟩ : Nat)) ∧ Below w.heap.size w w' := by
  unfold manyC manyN; dsimp only
  by_cases hn : (⟨s, l, h⟩ : St) = noneS
  · rw [if_pos hn]; exact rmany_none s l h uh ha (eq3_none s l h hn) w
  · rw [if_neg hn]
    have hok := ha.ok hn
    by_cases g : l = h
    · rw [if_pos g]; exact rmany_one s l h uh ha (eq3_some s l h hn) (by have := hok.s0.2 g; dsimp only at this; simp [this]) w
    · rw [if_neg g]
      have hs : 0 < s := by
        rcases hok with ⟨_, e⟩ | ⟨e, _⟩
        · exact absurd e g
        · exact e
      have hq := eq3_some s l h hn
      have hle : stN s l h ≤ h - l := by unfold stN; exact Nat.div_le_self _ _
      by_cases hN : stN s l h + 1 < 18446744073709551616
      · rw [Nat.min_eq_left (by omega)]
        exact rmany_many s l h uh ha hq (by simp; omega) hok.le hs hN w
      · unfold U at uh
        rw [Nat.min_eq_right (by omega)]
        exact rmany_top s l h uh ha hq (by simp; omega) hok.le hs (by omega) w
end Go.Proofs.YtmlgaaolofgdiaaDoor
