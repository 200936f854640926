/- sundialref22's Has and In, where they tell yes. -/
import Derived.Test.YtmlgaaolofgdiaaDoorRef2
namespace Go.Proofs.YtmlgaaolofgdiaaDoor
open Go.RowKit SM
set_option linter.unusedSimpArgs false
set_option linter.unusedVariables false
attribute [local go_sem ↓] Go.wp_at_zero Go.wp_at_succ
attribute [local go_sem ↓ high] eql_set neq_set run_mx run_mn
set_option maxHeartbeats 1000000 in
theorem rhas_0 (s l h x : Nat) (uh : U h) (ha : Rt ⟨s, l, h⟩) (q : eq3 s l h 0 1 0 = false) (h1 : ¬ x < l) (h2 : ¬ h < x) (g : ((s : Int) == 0) = true) (w : World) :
    Calls Tryd.prog 33 #[sv s l h, .int .u64 x] w fun e w' => e = .returned (.bool true) ∧ Below w.heap.size w w' := by
  have k1 := Slot3.new w (.int .u64 (s : Int)) (.int .u64 (l : Int)) (.int .u64 (h : Int)) 24
  have hb0 : Below w.heap.size w (w.alloc (sb s l h)) := (Below.refl _ _).alloc (Nat.le_refl _) _
  have HS := Lib.hid (mk1s k1 hb0)
  clear k1 hb0
  go_enter Tryd.func33, Tryd.ntmps33
  go_wp2_with fail
  go_at_call 21
  refine (seen_rt _ _ _ uh ha _).mono ?_
  rintro e W0 ⟨rfl, hb1⟩
  replace HS := Lib.hid (keep1s hb1 HS.out (Nat.le_refl _))
  clear hb1
  obtain ⟨c0, c1, c2, c3, c4, c5, c6, hg⟩ := HS.out
  go_wp2_with fail
  rw [put_same c0 c1 c2]
  go_at_call 22
  refine (empty_any _ _ _ _).mono ?_
  rw [q]
  rintro e W1 ⟨rfl, hb1⟩
  replace HS := Lib.hid (keep1s hb1 HS.out (Nat.le_refl _))
  clear hb1 c0 c1 c2 c3 c4 c5 c6 hg
  obtain ⟨c0, c1, c2, c3, c4, c5, c6, hg⟩ := HS.out
  go_wp2_with fail
  go_ret
  exact ⟨rfl, hg⟩
set_option maxHeartbeats 1000000 in
theorem rhas_1 (s l h x : Nat) (uh : U h) (ha : Rt ⟨s, l, h⟩) (q : eq3 s l h 0 1 0 = false) (h1 : ¬ x < l) (h2 : ¬ h < x) (g : ((s : Int) == 0) = false) (hs : 0 < s) (hm : (x - l) % s = 0) (w : World) :
    Calls Tryd.prog 33 #[sv s l h, .int .u64 x] w fun e w' => e = .returned (.bool true) ∧ Below w.heap.size w w' := by
  have u1 : (h : Int) ≤ 18446744073709551615 := by unfold U at uh; omega
  have g2 : (1 : Int) ≤ s := by omega
  have e1 : ((x : Int) - l) % s = 0 := by rw [show (x : Int) - l = ((x - l : Nat) : Int) by omega, ← Int.natCast_emod, hm]; rfl
  have k1 := Slot3.new w (.int .u64 (s : Int)) (.int .u64 (l : Int)) (.int .u64 (h : Int)) 24
  have hb0 : Below w.heap.size w (w.alloc (sb s l h)) := (Below.refl _ _).alloc (Nat.le_refl _) _
  have HS := Lib.hid (mk1s k1 hb0)
  clear k1 hb0
  go_enter Tryd.func33, Tryd.ntmps33
  go_wp2_with fail
  go_at_call 21
  refine (seen_rt _ _ _ uh ha _).mono ?_
  rintro e W0 ⟨rfl, hb1⟩
  replace HS := Lib.hid (keep1s hb1 HS.out (Nat.le_refl _))
  clear hb1
  obtain ⟨c0, c1, c2, c3, c4, c5, c6, hg⟩ := HS.out
  go_wp2_with fail
  rw [put_same c0 c1 c2]
  go_at_call 22
  refine (empty_any _ _ _ _).mono ?_
  rw [q]
  rintro e W1 ⟨rfl, hb1⟩
  replace HS := Lib.hid (keep1s hb1 HS.out (Nat.le_refl _))
  clear hb1 c0 c1 c2 c3 c4 c5 c6 hg
  obtain ⟨c0, c1, c2, c3, c4, c5, c6, hg⟩ := HS.out
  go_wp2_with fail
  go_ret
  exact ⟨rfl, hg⟩
theorem rhas_true (a : St) (x : Nat) (uh : U a.h) (ha : Rt a) (h : hasP a x) (w : World) :
    Calls Tryd.prog 33 #[stv a, .int .u64 x] w fun e w' => e = .returned (.bool true) ∧ Below w.heap.size w w' := by
  have hn : a ≠ noneS := fun e => has_none (e ▸ h)
  have hok := ha.ok hn
  have q := eq3_some a.s a.l a.h hn
  obtain ⟨h1, h2, h3⟩ := has_dvd.1 h
  by_cases hs : a.s = 0
  · exact rhas_0 a.s a.l a.h x uh ha q (by omega) (by omega) (by simp [hs]) w
  · exact rhas_1 a.s a.l a.h x uh ha q (by omega) (by omega) (by simp; omega) (by omega) (Nat.mod_eq_zero_of_dvd h3) w
set_option maxRecDepth 100000 in
set_option maxHeartbeats 2000000 in
theorem rin_none (s l h t m k : Nat) (w : World) (uh : U h) (uk : U k) (ha : Rt ⟨s, l, h⟩) (hb : Rt ⟨t, m, k⟩) (HE : Hid (∀ W, Calls Tryd.prog 22 #[sv s l h] W fun e w2 => e = .returned (.bool true) ∧ Below W.heap.size W w2))  :
    Calls Tryd.prog 17 #[sv s l h, sv t m k] w fun e w' => e = .returned (.bool true) ∧ Below w.heap.size w w' := by
  have k1 := (Slot3.new w (.int .u64 (s : Int)) (.int .u64 (l : Int)) (.int .u64 (h : Int)) 24).alloc (sb t m k)
  have k2 := Slot3.new (w.alloc (sb s l h)) (.int .u64 (t : Int)) (.int .u64 (m : Int)) (.int .u64 (k : Int)) 24
  have hb0 : Below w.heap.size w ((w.alloc (sb s l h)).alloc (sb t m k)) := ((Below.refl _ _).alloc (Nat.le_refl _) _).alloc (by simp) _
  have HS := Lib.hid (mk2 k1.drew k2.drew hb0.drew)
  simp only [World.size_alloc] at HS
  clear k1 k2 hb0
  go_enter Tryd.func17, Tryd.ntmps17
  go_wp2
  go_region_held3 (fun W => W.cell? ⟨w.heap.size, 0, none⟩ = some (.int .u64 (s : Int)) ∧ W.cell? ⟨w.heap.size, 1, none⟩ = some (.int .u64 (l : Int)) ∧ W.cell? ⟨w.heap.size, 2, none⟩ = some (.int .u64 (h : Int)) ∧ W.frozen? ⟨w.heap.size, 0, none⟩ = false ∧ W.frozen? ⟨w.heap.size, 1, none⟩ = false ∧ W.frozen? ⟨w.heap.size, 2, none⟩ = false ∧ w.heap.size < W.heap.size ∧ W.cell? ⟨w.heap.size + 1, 0, none⟩ = some (.int .u64 (t : Int)) ∧ W.cell? ⟨w.heap.size + 1, 1, none⟩ = some (.int .u64 (m : Int)) ∧ W.cell? ⟨w.heap.size + 1, 2, none⟩ = some (.int .u64 (k : Int)) ∧ W.frozen? ⟨w.heap.size + 1, 0, none⟩ = false ∧ W.frozen? ⟨w.heap.size + 1, 1, none⟩ = false ∧ W.frozen? ⟨w.heap.size + 1, 2, none⟩ = false ∧ w.heap.size + 1 < W.heap.size ∧ Below w.heap.size w W)
    (first | (with_reducible exact HS.out) | (with_reducible exact st2b (by assumption)) | (with_reducible exact st2c (by assumption)) | (with_reducible exact keep2 (by assumption) (by assumption) (Nat.le_refl _)))
    (first | (go_at_call 21; ((with_reducible refine (seen_rt _ _ _ uh ha _).mono ?_); rintro e w1 ⟨rfl, hb1⟩)) | (go_at_call 21; ((with_reducible refine (seen_rt _ _ _ uk hb _).mono ?_); rintro e w1 ⟨rfl, hb1⟩)))
  rename_i hS
  refine anyW (P := fun W => W.cell? ⟨w.heap.size, 0, none⟩ = some (.int .u64 (s : Int)) ∧ W.cell? ⟨w.heap.size, 1, none⟩ = some (.int .u64 (l : Int)) ∧ W.cell? ⟨w.heap.size, 2, none⟩ = some (.int .u64 (h : Int)) ∧ W.frozen? ⟨w.heap.size, 0, none⟩ = false ∧ W.frozen? ⟨w.heap.size, 1, none⟩ = false ∧ W.frozen? ⟨w.heap.size, 2, none⟩ = false ∧ w.heap.size < W.heap.size ∧ W.cell? ⟨w.heap.size + 1, 0, none⟩ = some (.int .u64 (t : Int)) ∧ W.cell? ⟨w.heap.size + 1, 1, none⟩ = some (.int .u64 (m : Int)) ∧ W.cell? ⟨w.heap.size + 1, 2, none⟩ = some (.int .u64 (k : Int)) ∧ W.frozen? ⟨w.heap.size + 1, 0, none⟩ = false ∧ W.frozen? ⟨w.heap.size + 1, 1, none⟩ = false ∧ W.frozen? ⟨w.heap.size + 1, 2, none⟩ = false ∧ w.heap.size + 1 < W.heap.size ∧ Below w.heap.size w W) (Q := fun W => Exit.then _ _ _ _ W) hS ?_
  clear hS HS
  intro W hS
  have HS := Lib.hid hS
  obtain ⟨c0, c1, c2, c3, c4, c5, c6, d0, d1, d2, d3, d4, d5, d6, hg⟩ := hS
  go_wp2_with fail
  go_at_call 22
  refine (HE.out _).mono ?_
  rintro e W' ⟨rfl, hb1⟩
  replace HS := Lib.hid (keep2 hb1 HS.out (Nat.le_refl _))
  clear hb1 c0 c1 c2 c3 c4 c5 c6 d0 d1 d2 d3 d4 d5 d6 hg
  obtain ⟨c0, c1, c2, c3, c4, c5, c6, d0, d1, d2, d3, d4, d5, d6, hg⟩ := HS.out
  have hG := hg
  go_wp2_with fail
  go_ret
  exact ⟨rfl, hG⟩
set_option maxRecDepth 100000 in
set_option maxHeartbeats 2000000 in
theorem rin_one (s l h t m k : Nat) (w : World) (uh : U h) (uk : U k) (ha : Rt ⟨s, l, h⟩) (hb : Rt ⟨t, m, k⟩) (HE : Hid (∀ W, Calls Tryd.prog 22 #[sv s l h] W fun e w2 => e = .returned (.bool false) ∧ Below W.heap.size W w2)) (H1 : Hid (∀ W, Calls Tryd.prog 33 #[sv t m k, .int .u64 (l : Nat)] W fun e w2 => e = .returned (.bool true) ∧ Below W.heap.size W w2)) (H2 : Hid (∀ W, Calls Tryd.prog 33 #[sv t m k, .int .u64 (h : Nat)] W fun e w2 => e = .returned (.bool true) ∧ Below W.heap.size W w2)) (g : ((s : Int) == 0) = true) :
    Calls Tryd.prog 17 #[sv s l h, sv t m k] w fun e w' => e = .returned (.bool true) ∧ Below w.heap.size w w' := by
  have k1 := (Slot3.new w (.int .u64 (s : Int)) (.int .u64 (l : Int)) (.int .u64 (h : Int)) 24).alloc (sb t m k)
  have k2 := Slot3.new (w.alloc (sb s l h)) (.int .u64 (t : Int)) (.int .u64 (m : Int)) (.int .u64 (k : Int)) 24
  have hb0 : Below w.heap.size w ((w.alloc (sb s l h)).alloc (sb t m k)) := ((Below.refl _ _).alloc (Nat.le_refl _) _).alloc (by simp) _
  have HS := Lib.hid (mk2 k1.drew k2.drew hb0.drew)
  simp only [World.size_alloc] at HS
  clear k1 k2 hb0
  go_enter Tryd.func17, Tryd.ntmps17
  go_wp2
  go_region_held3 (fun W => W.cell? ⟨w.heap.size, 0, none⟩ = some (.int .u64 (s : Int)) ∧ W.cell? ⟨w.heap.size, 1, none⟩ = some (.int .u64 (l : Int)) ∧ W.cell? ⟨w.heap.size, 2, none⟩ = some (.int .u64 (h : Int)) ∧ W.frozen? ⟨w.heap.size, 0, none⟩ = false ∧ W.frozen? ⟨w.heap.size, 1, none⟩ = false ∧ W.frozen? ⟨w.heap.size, 2, none⟩ = false ∧ w.heap.size < W.heap.size ∧ W.cell? ⟨w.heap.size + 1, 0, none⟩ = some (.int .u64 (t : Int)) ∧ W.cell? ⟨w.heap.size + 1, 1, none⟩ = some (.int .u64 (m : Int)) ∧ W.cell? ⟨w.heap.size + 1, 2, none⟩ = some (.int .u64 (k : Int)) ∧ W.frozen? ⟨w.heap.size + 1, 0, none⟩ = false ∧ W.frozen? ⟨w.heap.size + 1, 1, none⟩ = false ∧ W.frozen? ⟨w.heap.size + 1, 2, none⟩ = false ∧ w.heap.size + 1 < W.heap.size ∧ Below w.heap.size w W)
    (first | (with_reducible exact HS.out) | (with_reducible exact st2b (by assumption)) | (with_reducible exact st2c (by assumption)) | (with_reducible exact keep2 (by assumption) (by assumption) (Nat.le_refl _)))
    (first | (go_at_call 21; ((with_reducible refine (seen_rt _ _ _ uh ha _).mono ?_); rintro e w1 ⟨rfl, hb1⟩)) | (go_at_call 21; ((with_reducible refine (seen_rt _ _ _ uk hb _).mono ?_); rintro e w1 ⟨rfl, hb1⟩)))
  rename_i hS
  refine anyW (P := fun W => W.cell? ⟨w.heap.size, 0, none⟩ = some (.int .u64 (s : Int)) ∧ W.cell? ⟨w.heap.size, 1, none⟩ = some (.int .u64 (l : Int)) ∧ W.cell? ⟨w.heap.size, 2, none⟩ = some (.int .u64 (h : Int)) ∧ W.frozen? ⟨w.heap.size, 0, none⟩ = false ∧ W.frozen? ⟨w.heap.size, 1, none⟩ = false ∧ W.frozen? ⟨w.heap.size, 2, none⟩ = false ∧ w.heap.size < W.heap.size ∧ W.cell? ⟨w.heap.size + 1, 0, none⟩ = some (.int .u64 (t : Int)) ∧ W.cell? ⟨w.heap.size + 1, 1, none⟩ = some (.int .u64 (m : Int)) ∧ W.cell? ⟨w.heap.size + 1, 2, none⟩ = some (.int .u64 (k : Int)) ∧ W.frozen? ⟨w.heap.size + 1, 0, none⟩ = false ∧ W.frozen? ⟨w.heap.size + 1, 1, none⟩ = false ∧ W.frozen? ⟨w.heap.size + 1, 2, none⟩ = false ∧ w.heap.size + 1 < W.heap.size ∧ Below w.heap.size w W) (Q := fun W => Exit.then _ _ _ _ W) hS ?_
  clear hS HS
  intro W hS
  have HS := Lib.hid hS
  obtain ⟨c0, c1, c2, c3, c4, c5, c6, d0, d1, d2, d3, d4, d5, d6, hg⟩ := hS
  go_wp2_with fail
  go_at_call 22
  refine (HE.out _).mono ?_
  rintro e W' ⟨rfl, hb1⟩
  replace HS := Lib.hid (keep2 hb1 HS.out (Nat.le_refl _))
  clear hb1 c0 c1 c2 c3 c4 c5 c6 d0 d1 d2 d3 d4 d5 d6 hg
  obtain ⟨c0, c1, c2, c3, c4, c5, c6, d0, d1, d2, d3, d4, d5, d6, hg⟩ := HS.out
  go_wp2_with fail
  go_at_call 33
  refine (H1.out _).mono ?_
  rintro e W' ⟨rfl, hb1⟩
  replace HS := Lib.hid (keep2 hb1 HS.out (Nat.le_refl _))
  clear hb1 c0 c1 c2 c3 c4 c5 c6 d0 d1 d2 d3 d4 d5 d6 hg
  obtain ⟨c0, c1, c2, c3, c4, c5, c6, d0, d1, d2, d3, d4, d5, d6, hg⟩ := HS.out
  go_wp2_with fail
  go_at_call 33
  refine (H2.out _).mono ?_
  rintro e W' ⟨rfl, hb1⟩
  replace HS := Lib.hid (keep2 hb1 HS.out (Nat.le_refl _))
  clear hb1 c0 c1 c2 c3 c4 c5 c6 d0 d1 d2 d3 d4 d5 d6 hg
  obtain ⟨c0, c1, c2, c3, c4, c5, c6, d0, d1, d2, d3, d4, d5, d6, hg⟩ := HS.out
  have hG := hg
  go_wp2_with fail
  go_ret
  exact ⟨rfl, hG⟩
set_option maxRecDepth 100000 in
set_option maxHeartbeats 2000000 in
theorem rin_many (s l h t m k : Nat) (w : World) (uh : U h) (uk : U k) (ha : Rt ⟨s, l, h⟩) (hb : Rt ⟨t, m, k⟩) (HE : Hid (∀ W, Calls Tryd.prog 22 #[sv s l h] W fun e w2 => e = .returned (.bool false) ∧ Below W.heap.size W w2)) (H1 : Hid (∀ W, Calls Tryd.prog 33 #[sv t m k, .int .u64 (l : Nat)] W fun e w2 => e = .returned (.bool true) ∧ Below W.heap.size W w2)) (H2 : Hid (∀ W, Calls Tryd.prog 33 #[sv t m k, .int .u64 (h : Nat)] W fun e w2 => e = .returned (.bool true) ∧ Below W.heap.size W w2)) (H3 : Hid (∀ W, Calls Tryd.prog 33 #[sv t m k, .int .u64 (l + s : Nat)] W fun e w2 => e = .returned (.bool true) ∧ Below W.heap.size W w2)) (g : ((s : Int) == 0) = false) (hls : l + s ≤ h) (hm : s % mx t 1 = 0) :
    Calls Tryd.prog 17 #[sv s l h, sv t m k] w fun e w' => e = .returned (.bool true) ∧ Below w.heap.size w w' := by
  have u1 : (h : Int) ≤ 18446744073709551615 := by unfold U at uh; omega
  have u2 : (l : Int) + s ≤ h := by omega
  have e0 : (l : Int) + s = ((l + s : Nat) : Int) := by omega
  have e1 : (s : Int) % (mx t 1 : Nat) = 0 := by rw [← Int.natCast_emod, hm]; rfl
  have p1 : 1 ≤ mx t 1 := by unfold mx; omega
  have rm : ∀ (w : World) (ts : Array TypeId) (ty : TypeId), (Builtin.max_ ts ty #[.int .u64 (t : Int), .int .u64 1]).run Tryd.prog w = .ok (.int .u64 (mx t 1 : Nat)) w := fun w ts ty => run_mx w ts ty t 1
  generalize mx t 1 = M at e1 p1 rm
  generalize l + s = ls at e0 H3
  have p2 : (1 : Int) ≤ M := by omega
  clear p1 hm hls
  have k1 := (Slot3.new w (.int .u64 (s : Int)) (.int .u64 (l : Int)) (.int .u64 (h : Int)) 24).alloc (sb t m k)
  have k2 := Slot3.new (w.alloc (sb s l h)) (.int .u64 (t : Int)) (.int .u64 (m : Int)) (.int .u64 (k : Int)) 24
  have hb0 : Below w.heap.size w ((w.alloc (sb s l h)).alloc (sb t m k)) := ((Below.refl _ _).alloc (Nat.le_refl _) _).alloc (by simp) _
  have HS := Lib.hid (mk2 k1.drew k2.drew hb0.drew)
  simp only [World.size_alloc] at HS
  clear k1 k2 hb0
  go_enter Tryd.func17, Tryd.ntmps17
  go_wp2
  go_region_held3 (fun W => W.cell? ⟨w.heap.size, 0, none⟩ = some (.int .u64 (s : Int)) ∧ W.cell? ⟨w.heap.size, 1, none⟩ = some (.int .u64 (l : Int)) ∧ W.cell? ⟨w.heap.size, 2, none⟩ = some (.int .u64 (h : Int)) ∧ W.frozen? ⟨w.heap.size, 0, none⟩ = false ∧ W.frozen? ⟨w.heap.size, 1, none⟩ = false ∧ W.frozen? ⟨w.heap.size, 2, none⟩ = false ∧ w.heap.size < W.heap.size ∧ W.cell? ⟨w.heap.size + 1, 0, none⟩ = some (.int .u64 (t : Int)) ∧ W.cell? ⟨w.heap.size + 1, 1, none⟩ = some (.int .u64 (m : Int)) ∧ W.cell? ⟨w.heap.size + 1, 2, none⟩ = some (.int .u64 (k : Int)) ∧ W.frozen? ⟨w.heap.size + 1, 0, none⟩ = false ∧ W.frozen? ⟨w.heap.size + 1, 1, none⟩ = false ∧ W.frozen? ⟨w.heap.size + 1, 2, none⟩ = false ∧ w.heap.size + 1 < W.heap.size ∧ Below w.heap.size w W)
    (first | (with_reducible exact HS.out) | (with_reducible exact st2b (by assumption)) | (with_reducible exact st2c (by assumption)) | (with_reducible exact keep2 (by assumption) (by assumption) (Nat.le_refl _)))
    (first | (go_at_call 21; ((with_reducible refine (seen_rt _ _ _ uh ha _).mono ?_); rintro e w1 ⟨rfl, hb1⟩)) | (go_at_call 21; ((with_reducible refine (seen_rt _ _ _ uk hb _).mono ?_); rintro e w1 ⟨rfl, hb1⟩)))
  rename_i hS
  refine anyW (P := fun W => W.cell? ⟨w.heap.size, 0, none⟩ = some (.int .u64 (s : Int)) ∧ W.cell? ⟨w.heap.size, 1, none⟩ = some (.int .u64 (l : Int)) ∧ W.cell? ⟨w.heap.size, 2, none⟩ = some (.int .u64 (h : Int)) ∧ W.frozen? ⟨w.heap.size, 0, none⟩ = false ∧ W.frozen? ⟨w.heap.size, 1, none⟩ = false ∧ W.frozen? ⟨w.heap.size, 2, none⟩ = false ∧ w.heap.size < W.heap.size ∧ W.cell? ⟨w.heap.size + 1, 0, none⟩ = some (.int .u64 (t : Int)) ∧ W.cell? ⟨w.heap.size + 1, 1, none⟩ = some (.int .u64 (m : Int)) ∧ W.cell? ⟨w.heap.size + 1, 2, none⟩ = some (.int .u64 (k : Int)) ∧ W.frozen? ⟨w.heap.size + 1, 0, none⟩ = false ∧ W.frozen? ⟨w.heap.size + 1, 1, none⟩ = false ∧ W.frozen? ⟨w.heap.size + 1, 2, none⟩ = false ∧ w.heap.size + 1 < W.heap.size ∧ Below w.heap.size w W) (Q := fun W => Exit.then _ _ _ _ W) hS ?_
  clear hS HS
  intro W hS
  have HS := Lib.hid hS
  obtain ⟨c0, c1, c2, c3, c4, c5, c6, d0, d1, d2, d3, d4, d5, d6, hg⟩ := hS
  go_wp2_with fail
  go_at_call 22
  refine (HE.out _).mono ?_
  rintro e W' ⟨rfl, hb1⟩
  replace HS := Lib.hid (keep2 hb1 HS.out (Nat.le_refl _))
  clear hb1 c0 c1 c2 c3 c4 c5 c6 d0 d1 d2 d3 d4 d5 d6 hg
  obtain ⟨c0, c1, c2, c3, c4, c5, c6, d0, d1, d2, d3, d4, d5, d6, hg⟩ := HS.out
  go_wp2_with fail
  go_at_call 33
  refine (H1.out _).mono ?_
  rintro e W' ⟨rfl, hb1⟩
  replace HS := Lib.hid (keep2 hb1 HS.out (Nat.le_refl _))
  clear hb1 c0 c1 c2 c3 c4 c5 c6 d0 d1 d2 d3 d4 d5 d6 hg
  obtain ⟨c0, c1, c2, c3, c4, c5, c6, d0, d1, d2, d3, d4, d5, d6, hg⟩ := HS.out
  go_wp2_with fail
  go_at_call 33
  refine (H2.out _).mono ?_
  rintro e W' ⟨rfl, hb1⟩
  replace HS := Lib.hid (keep2 hb1 HS.out (Nat.le_refl _))
  clear hb1 c0 c1 c2 c3 c4 c5 c6 d0 d1 d2 d3 d4 d5 d6 hg
  obtain ⟨c0, c1, c2, c3, c4, c5, c6, d0, d1, d2, d3, d4, d5, d6, hg⟩ := HS.out
  go_wp2_with fail
  go_at_call 33
  refine (H3.out _).mono ?_
  rintro e W' ⟨rfl, hb1⟩
  replace HS := Lib.hid (keep2 hb1 HS.out (Nat.le_refl _))
  clear hb1 c0 c1 c2 c3 c4 c5 c6 d0 d1 d2 d3 d4 d5 d6 hg
  obtain ⟨c0, c1, c2, c3, c4, c5, c6, d0, d1, d2, d3, d4, d5, d6, hg⟩ := HS.out
  have hG := hg
  go_wp2_with fail
  go_ret
  exact ⟨rfl, hG⟩
theorem rin_true (a b : St) (uh : U a.h) (uk : U b.h) (ha : Rt a) (hb : Rt b) (h : inP a b) (w : World) :
    Calls Tryd.prog 17 #[stv a, stv b] w fun e w' => e = .returned (.bool true) ∧ Below w.heap.size w w' := by
  by_cases hn : a = noneS
  · exact rin_none a.s a.l a.h b.s b.l b.h w uh uk ha hb (Lib.hid fun W => by rw [← eq3_none a.s a.l a.h hn]; exact empty_any _ _ _ W)
  · have HE : Hid (∀ W, Calls Tryd.prog 22 #[stv a] W fun e w2 => e = .returned (.bool false) ∧ Below W.heap.size W w2) := Lib.hid fun W => by rw [← eq3_some a.s a.l a.h hn]; exact empty_any _ _ _ W
    have hok := ha.ok hn
    by_cases hbn : b = noneS
    · rw [hbn] at h; exact absurd h (not_in_none hok)
    · have hw := (in_wi hok (hb.ok hbn)).1 h
      obtain ⟨w1, w2, w3, w4⟩ := hw
      have hle := hok.le
      have hasx : ∀ x, x = a.l ∨ x = a.h ∨ (a.s ≠ 0 ∧ x = a.l + a.s) → hasP b x := by
        intro x hx
        rw [has_dvd]
        rcases hx with rfl | rfl | ⟨hs, rfl⟩
        · exact ⟨w1, by omega, w3⟩
        · refine ⟨by omega, w2, ?_⟩
          rw [show a.h - b.l = (a.l - b.l) + (a.h - a.l) by omega]
          exact Nat.dvd_add w3 (Nat.dvd_trans w4 hok.dvd)
        · have hlt : a.l < a.h := by
            have := hok.s0
            rcases Nat.lt_or_ge a.l a.h with z | z
            · exact z
            · exact absurd (this.2 (by omega)) hs
          have := Nat.le_of_dvd (by omega) hok.dvd
          refine ⟨by omega, by omega, ?_⟩
          rw [show a.l + a.s - b.l = (a.l - b.l) + a.s by omega]
          exact Nat.dvd_add w3 w4
      have H1 := Lib.hid fun W => rhas_true b a.l uk hb (hasx _ (.inl rfl)) W
      have H2 := Lib.hid fun W => rhas_true b a.h uk hb (hasx _ (.inr (.inl rfl))) W
      by_cases hs : a.s = 0
      · exact rin_one a.s a.l a.h b.s b.l b.h w uh uk ha hb HE H1 H2 (by simp [hs])
      · have hlt : a.l < a.h := by
          have := hok.s0
          rcases Nat.lt_or_ge a.l a.h with z | z
          · exact z
          · exact absurd (this.2 (by omega)) hs
        have := Nat.le_of_dvd (by omega) hok.dvd
        have H3 := Lib.hid fun W => rhas_true b (a.l + a.s) uk hb (hasx _ (.inr (.inr ⟨hs, rfl⟩))) W
        refine rin_many a.s a.l a.h b.s b.l b.h w uh uk ha hb HE H1 H2 H3 (by simp; omega) (by omega) ?_
        unfold mx
        have hbs : b.s ≠ 0 := fun z => hs (by rw [z] at w4; exact Nat.eq_zero_of_zero_dvd w4)
        rw [Nat.max_eq_left (by omega)]
        exact Nat.mod_eq_zero_of_dvd w4
end Go.Proofs.YtmlgaaolofgdiaaDoor
