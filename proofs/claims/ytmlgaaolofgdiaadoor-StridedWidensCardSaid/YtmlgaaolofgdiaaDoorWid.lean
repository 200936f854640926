/- strided.Widen. -/
import Derived.Test.YtmlgaaolofgdiaaDoorInB
namespace Go.Proofs.YtmlgaaolofgdiaaDoor
open Go.RowKit SM
set_option linter.unusedSimpArgs false
set_option linter.unusedVariables false
attribute [local go_sem ↓] Go.wp_at_zero Go.wp_at_succ
attribute [local go_sem ↓ high] eql_set neq_set
set_option maxRecDepth 100000 in
set_option maxHeartbeats 4000000 in
theorem wid_none (s l h t m k : Nat) (wd : Int) (uh : U h) (uk : U k) (ha : Rt ⟨s, l, h⟩) (hb : Rt ⟨t, m, k⟩) (hn : (⟨s, l, h⟩ : St) = noneS) (w : World) :
    Calls Tryd.prog 16 #[sv s l h, sv t m k, .int .i64 wd] w fun e w' => e = .returned (sv t m k) ∧ Below w.heap.size w w' := by
  have q := eq3_none s l h hn
  clear hn
  have k1 := ((Slot3.new w (.int .u64 (s : Int)) (.int .u64 (l : Int)) (.int .u64 (h : Int)) 24).alloc (sb t m k)).alloc (z3)
  have k2 := (Slot3.new (w.alloc (sb s l h)) (.int .u64 (t : Int)) (.int .u64 (m : Int)) (.int .u64 (k : Int)) 24).alloc (z3)
  have k3 := Slot3.new ((w.alloc (sb s l h)).alloc (sb t m k)) (.int .u64 0) (.int .u64 0) (.int .u64 0) 24
  have hb0 : Below w.heap.size w (((w.alloc (sb s l h)).alloc (sb t m k)).alloc (z3)) := (((Below.refl _ _).alloc (Nat.le_refl _) _).alloc (by simp) _).alloc (by simp; omega) _
  have HS := Lib.hid (mk3 k1.drew k2.drew k3.drew hb0.drew)
  simp only [World.size_alloc] at HS
  clear k1 k2 k3 hb0
  go_enter Tryd.func16, Tryd.ntmps16
  go_wp2
  go_region_held3 (fun W => W.cell? ⟨w.heap.size, 0, none⟩ = some (.int .u64 (s : Int)) ∧ W.cell? ⟨w.heap.size, 1, none⟩ = some (.int .u64 (l : Int)) ∧ W.cell? ⟨w.heap.size, 2, none⟩ = some (.int .u64 (h : Int)) ∧ W.frozen? ⟨w.heap.size, 0, none⟩ = false ∧ W.frozen? ⟨w.heap.size, 1, none⟩ = false ∧ W.frozen? ⟨w.heap.size, 2, none⟩ = false ∧ w.heap.size < W.heap.size ∧ W.cell? ⟨w.heap.size + 1, 0, none⟩ = some (.int .u64 (t : Int)) ∧ W.cell? ⟨w.heap.size + 1, 1, none⟩ = some (.int .u64 (m : Int)) ∧ W.cell? ⟨w.heap.size + 1, 2, none⟩ = some (.int .u64 (k : Int)) ∧ W.frozen? ⟨w.heap.size + 1, 0, none⟩ = false ∧ W.frozen? ⟨w.heap.size + 1, 1, none⟩ = false ∧ W.frozen? ⟨w.heap.size + 1, 2, none⟩ = false ∧ w.heap.size + 1 < W.heap.size ∧ W.cell? ⟨w.heap.size + 1 + 1, 0, none⟩ = some (.int .u64 (0 : Int)) ∧ W.cell? ⟨w.heap.size + 1 + 1, 1, none⟩ = some (.int .u64 (0 : Int)) ∧ W.cell? ⟨w.heap.size + 1 + 1, 2, none⟩ = some (.int .u64 (0 : Int)) ∧ W.frozen? ⟨w.heap.size + 1 + 1, 0, none⟩ = false ∧ W.frozen? ⟨w.heap.size + 1 + 1, 1, none⟩ = false ∧ W.frozen? ⟨w.heap.size + 1 + 1, 2, none⟩ = false ∧ w.heap.size + 1 + 1 < W.heap.size ∧ Below w.heap.size w W)
    (first | (with_reducible assumption) | (with_reducible exact HS.out) | (with_reducible exact drew3 HS.out) | (with_reducible exact st3b (by assumption)) | (with_reducible exact st3c (by assumption)) | (with_reducible exact keep3 (by assumption) (by assumption) (Nat.le_refl _)) | fail)
    (first | (go_at_call 27; ((with_reducible refine (held_rt _ _ _ uh ha _).mono ?_); rintro e w1 ⟨rfl, hb1⟩)) | (go_at_call 27; ((with_reducible refine (held_rt _ _ _ uk hb _).mono ?_); rintro e w1 ⟨rfl, hb1⟩)))
  rename_i hS
  refine anyW (P := fun W => W.cell? ⟨w.heap.size, 0, none⟩ = some (.int .u64 (s : Int)) ∧ W.cell? ⟨w.heap.size, 1, none⟩ = some (.int .u64 (l : Int)) ∧ W.cell? ⟨w.heap.size, 2, none⟩ = some (.int .u64 (h : Int)) ∧ W.frozen? ⟨w.heap.size, 0, none⟩ = false ∧ W.frozen? ⟨w.heap.size, 1, none⟩ = false ∧ W.frozen? ⟨w.heap.size, 2, none⟩ = false ∧ w.heap.size < W.heap.size ∧ W.cell? ⟨w.heap.size + 1, 0, none⟩ = some (.int .u64 (t : Int)) ∧ W.cell? ⟨w.heap.size + 1, 1, none⟩ = some (.int .u64 (m : Int)) ∧ W.cell? ⟨w.heap.size + 1, 2, none⟩ = some (.int .u64 (k : Int)) ∧ W.frozen? ⟨w.heap.size + 1, 0, none⟩ = false ∧ W.frozen? ⟨w.heap.size + 1, 1, none⟩ = false ∧ W.frozen? ⟨w.heap.size + 1, 2, none⟩ = false ∧ w.heap.size + 1 < W.heap.size ∧ W.cell? ⟨w.heap.size + 1 + 1, 0, none⟩ = some (.int .u64 (0 : Int)) ∧ W.cell? ⟨w.heap.size + 1 + 1, 1, none⟩ = some (.int .u64 (0 : Int)) ∧ W.cell? ⟨w.heap.size + 1 + 1, 2, none⟩ = some (.int .u64 (0 : Int)) ∧ W.frozen? ⟨w.heap.size + 1 + 1, 0, none⟩ = false ∧ W.frozen? ⟨w.heap.size + 1 + 1, 1, none⟩ = false ∧ W.frozen? ⟨w.heap.size + 1 + 1, 2, none⟩ = false ∧ w.heap.size + 1 + 1 < W.heap.size ∧ Below w.heap.size w W) (Q := fun W => Exit.then _ _ _ _ W) hS ?_
  clear hS HS
  intro W hS
  have HS := Lib.hid hS
  obtain ⟨a0, a1, a2, a3, a4, a5, a6, b0, b1, b2, b3, b4, b5, b6, c0, c1, c2, c3, c4, c5, c6, hg⟩ := hS
  go_wp2
  go_region_held3 (fun W => W.cell? ⟨w.heap.size, 0, none⟩ = some (.int .u64 (s : Int)) ∧ W.cell? ⟨w.heap.size, 1, none⟩ = some (.int .u64 (l : Int)) ∧ W.cell? ⟨w.heap.size, 2, none⟩ = some (.int .u64 (h : Int)) ∧ W.frozen? ⟨w.heap.size, 0, none⟩ = false ∧ W.frozen? ⟨w.heap.size, 1, none⟩ = false ∧ W.frozen? ⟨w.heap.size, 2, none⟩ = false ∧ w.heap.size < W.heap.size ∧ W.cell? ⟨w.heap.size + 1, 0, none⟩ = some (.int .u64 (t : Int)) ∧ W.cell? ⟨w.heap.size + 1, 1, none⟩ = some (.int .u64 (m : Int)) ∧ W.cell? ⟨w.heap.size + 1, 2, none⟩ = some (.int .u64 (k : Int)) ∧ W.frozen? ⟨w.heap.size + 1, 0, none⟩ = false ∧ W.frozen? ⟨w.heap.size + 1, 1, none⟩ = false ∧ W.frozen? ⟨w.heap.size + 1, 2, none⟩ = false ∧ w.heap.size + 1 < W.heap.size ∧ W.cell? ⟨w.heap.size + 1 + 1, 0, none⟩ = some (.int .u64 (0 : Int)) ∧ W.cell? ⟨w.heap.size + 1 + 1, 1, none⟩ = some (.int .u64 (0 : Int)) ∧ W.cell? ⟨w.heap.size + 1 + 1, 2, none⟩ = some (.int .u64 (0 : Int)) ∧ W.frozen? ⟨w.heap.size + 1 + 1, 0, none⟩ = false ∧ W.frozen? ⟨w.heap.size + 1 + 1, 1, none⟩ = false ∧ W.frozen? ⟨w.heap.size + 1 + 1, 2, none⟩ = false ∧ w.heap.size + 1 + 1 < W.heap.size ∧ Below w.heap.size w W)
    (first | (with_reducible assumption) | (with_reducible exact HS.out) | (with_reducible exact drew3 HS.out) | (with_reducible exact st3b (by assumption)) | (with_reducible exact st3c (by assumption)) | (with_reducible exact keep3 (by assumption) (by assumption) (Nat.le_refl _)) | fail)
    (first | (go_at_call 26; ((with_reducible refine (none_any _).mono ?_); rintro e w1 ⟨rfl, hb1⟩)))
  clear a0 a1 a2 a3 a4 a5 a6 b0 b1 b2 b3 b4 b5 b6 c0 c1 c2 c3 c4 c5 c6 hg
  rename_i hS
  refine anyW (P := fun W => W.cell? ⟨w.heap.size, 0, none⟩ = some (.int .u64 (s : Int)) ∧ W.cell? ⟨w.heap.size, 1, none⟩ = some (.int .u64 (l : Int)) ∧ W.cell? ⟨w.heap.size, 2, none⟩ = some (.int .u64 (h : Int)) ∧ W.frozen? ⟨w.heap.size, 0, none⟩ = false ∧ W.frozen? ⟨w.heap.size, 1, none⟩ = false ∧ W.frozen? ⟨w.heap.size, 2, none⟩ = false ∧ w.heap.size < W.heap.size ∧ W.cell? ⟨w.heap.size + 1, 0, none⟩ = some (.int .u64 (t : Int)) ∧ W.cell? ⟨w.heap.size + 1, 1, none⟩ = some (.int .u64 (m : Int)) ∧ W.cell? ⟨w.heap.size + 1, 2, none⟩ = some (.int .u64 (k : Int)) ∧ W.frozen? ⟨w.heap.size + 1, 0, none⟩ = false ∧ W.frozen? ⟨w.heap.size + 1, 1, none⟩ = false ∧ W.frozen? ⟨w.heap.size + 1, 2, none⟩ = false ∧ w.heap.size + 1 < W.heap.size ∧ W.cell? ⟨w.heap.size + 1 + 1, 0, none⟩ = some (.int .u64 (0 : Int)) ∧ W.cell? ⟨w.heap.size + 1 + 1, 1, none⟩ = some (.int .u64 (0 : Int)) ∧ W.cell? ⟨w.heap.size + 1 + 1, 2, none⟩ = some (.int .u64 (0 : Int)) ∧ W.frozen? ⟨w.heap.size + 1 + 1, 0, none⟩ = false ∧ W.frozen? ⟨w.heap.size + 1 + 1, 1, none⟩ = false ∧ W.frozen? ⟨w.heap.size + 1 + 1, 2, none⟩ = false ∧ w.heap.size + 1 + 1 < W.heap.size ∧ Below w.heap.size w W) (Q := fun W => Exit.then _ _ _ _ W) hS ?_
  clear hS HS
  intro W hS
  have HS := Lib.hid hS
  obtain ⟨a0, a1, a2, a3, a4, a5, a6, b0, b1, b2, b3, b4, b5, b6, c0, c1, c2, c3, c4, c5, c6, hg⟩ := hS
  go_wp2_with fail
  refine bodyPost_ret (v := sv t m k) (by simp [results, Tryd.results16, go_sem, *]) rfl ⟨rfl, hg.trans ?_⟩
  go_grown
set_option maxRecDepth 100000 in
set_option maxHeartbeats 4000000 in
theorem wid_in (s l h t m k : Nat) (wd : Int) (w : World) (uh : U h) (uk : U k) (ha : Rt ⟨s, l, h⟩) (hb : Rt ⟨t, m, k⟩) (hn : (⟨s, l, h⟩ : St) ≠ noneS) (HI : Hid (∀ W, Below w.heap.size w W → Calls Tryd.prog 11 #[sv t m k, sv s l h] W fun e w2 => e = .returned (.bool true) ∧ Below W.heap.size W w2)) :
    Calls Tryd.prog 16 #[sv s l h, sv t m k, .int .i64 wd] w fun e w' => e = .returned (sv s l h) ∧ Below w.heap.size w w' := by
  have q := eq3_some s l h hn
  clear hn
  have k1 := ((Slot3.new w (.int .u64 (s : Int)) (.int .u64 (l : Int)) (.int .u64 (h : Int)) 24).alloc (sb t m k)).alloc (z3)
  have k2 := (Slot3.new (w.alloc (sb s l h)) (.int .u64 (t : Int)) (.int .u64 (m : Int)) (.int .u64 (k : Int)) 24).alloc (z3)
  have k3 := Slot3.new ((w.alloc (sb s l h)).alloc (sb t m k)) (.int .u64 0) (.int .u64 0) (.int .u64 0) 24
  have hb0 : Below w.heap.size w (((w.alloc (sb s l h)).alloc (sb t m k)).alloc (z3)) := (((Below.refl _ _).alloc (Nat.le_refl _) _).alloc (by simp) _).alloc (by simp; omega) _
  have HS := Lib.hid (mk3 k1.drew k2.drew k3.drew hb0.drew)
  simp only [World.size_alloc] at HS
  clear k1 k2 k3 hb0
  go_enter Tryd.func16, Tryd.ntmps16
  go_wp2
  go_region_held3 (fun W => W.cell? ⟨w.heap.size, 0, none⟩ = some (.int .u64 (s : Int)) ∧ W.cell? ⟨w.heap.size, 1, none⟩ = some (.int .u64 (l : Int)) ∧ W.cell? ⟨w.heap.size, 2, none⟩ = some (.int .u64 (h : Int)) ∧ W.frozen? ⟨w.heap.size, 0, none⟩ = false ∧ W.frozen? ⟨w.heap.size, 1, none⟩ = false ∧ W.frozen? ⟨w.heap.size, 2, none⟩ = false ∧ w.heap.size < W.heap.size ∧ W.cell? ⟨w.heap.size + 1, 0, none⟩ = some (.int .u64 (t : Int)) ∧ W.cell? ⟨w.heap.size + 1, 1, none⟩ = some (.int .u64 (m : Int)) ∧ W.cell? ⟨w.heap.size + 1, 2, none⟩ = some (.int .u64 (k : Int)) ∧ W.frozen? ⟨w.heap.size + 1, 0, none⟩ = false ∧ W.frozen? ⟨w.heap.size + 1, 1, none⟩ = false ∧ W.frozen? ⟨w.heap.size + 1, 2, none⟩ = false ∧ w.heap.size + 1 < W.heap.size ∧ W.cell? ⟨w.heap.size + 1 + 1, 0, none⟩ = some (.int .u64 (0 : Int)) ∧ W.cell? ⟨w.heap.size + 1 + 1, 1, none⟩ = some (.int .u64 (0 : Int)) ∧ W.cell? ⟨w.heap.size + 1 + 1, 2, none⟩ = some (.int .u64 (0 : Int)) ∧ W.frozen? ⟨w.heap.size + 1 + 1, 0, none⟩ = false ∧ W.frozen? ⟨w.heap.size + 1 + 1, 1, none⟩ = false ∧ W.frozen? ⟨w.heap.size + 1 + 1, 2, none⟩ = false ∧ w.heap.size + 1 + 1 < W.heap.size ∧ Below w.heap.size w W)
    (first | (with_reducible assumption) | (with_reducible exact HS.out) | (with_reducible exact drew3 HS.out) | (with_reducible exact st3b (by assumption)) | (with_reducible exact st3c (by assumption)) | (with_reducible exact keep3 (by assumption) (by assumption) (Nat.le_refl _)) | fail)
    (first | (go_at_call 27; ((with_reducible refine (held_rt _ _ _ uh ha _).mono ?_); rintro e w1 ⟨rfl, hb1⟩)) | (go_at_call 27; ((with_reducible refine (held_rt _ _ _ uk hb _).mono ?_); rintro e w1 ⟨rfl, hb1⟩)))
  rename_i hS
  refine anyW (P := fun W => W.cell? ⟨w.heap.size, 0, none⟩ = some (.int .u64 (s : Int)) ∧ W.cell? ⟨w.heap.size, 1, none⟩ = some (.int .u64 (l : Int)) ∧ W.cell? ⟨w.heap.size, 2, none⟩ = some (.int .u64 (h : Int)) ∧ W.frozen? ⟨w.heap.size, 0, none⟩ = false ∧ W.frozen? ⟨w.heap.size, 1, none⟩ = false ∧ W.frozen? ⟨w.heap.size, 2, none⟩ = false ∧ w.heap.size < W.heap.size ∧ W.cell? ⟨w.heap.size + 1, 0, none⟩ = some (.int .u64 (t : Int)) ∧ W.cell? ⟨w.heap.size + 1, 1, none⟩ = some (.int .u64 (m : Int)) ∧ W.cell? ⟨w.heap.size + 1, 2, none⟩ = some (.int .u64 (k : Int)) ∧ W.frozen? ⟨w.heap.size + 1, 0, none⟩ = false ∧ W.frozen? ⟨w.heap.size + 1, 1, none⟩ = false ∧ W.frozen? ⟨w.heap.size + 1, 2, none⟩ = false ∧ w.heap.size + 1 < W.heap.size ∧ W.cell? ⟨w.heap.size + 1 + 1, 0, none⟩ = some (.int .u64 (0 : Int)) ∧ W.cell? ⟨w.heap.size + 1 + 1, 1, none⟩ = some (.int .u64 (0 : Int)) ∧ W.cell? ⟨w.heap.size + 1 + 1, 2, none⟩ = some (.int .u64 (0 : Int)) ∧ W.frozen? ⟨w.heap.size + 1 + 1, 0, none⟩ = false ∧ W.frozen? ⟨w.heap.size + 1 + 1, 1, none⟩ = false ∧ W.frozen? ⟨w.heap.size + 1 + 1, 2, none⟩ = false ∧ w.heap.size + 1 + 1 < W.heap.size ∧ Below w.heap.size w W) (Q := fun W => Exit.then _ _ _ _ W) hS ?_
  clear hS HS
  intro W hS
  have HS := Lib.hid hS
  obtain ⟨a0, a1, a2, a3, a4, a5, a6, b0, b1, b2, b3, b4, b5, b6, c0, c1, c2, c3, c4, c5, c6, hg⟩ := hS
  go_wp2
  go_region_held3 (fun W => W.cell? ⟨w.heap.size, 0, none⟩ = some (.int .u64 (s : Int)) ∧ W.cell? ⟨w.heap.size, 1, none⟩ = some (.int .u64 (l : Int)) ∧ W.cell? ⟨w.heap.size, 2, none⟩ = some (.int .u64 (h : Int)) ∧ W.frozen? ⟨w.heap.size, 0, none⟩ = false ∧ W.frozen? ⟨w.heap.size, 1, none⟩ = false ∧ W.frozen? ⟨w.heap.size, 2, none⟩ = false ∧ w.heap.size < W.heap.size ∧ W.cell? ⟨w.heap.size + 1, 0, none⟩ = some (.int .u64 (t : Int)) ∧ W.cell? ⟨w.heap.size + 1, 1, none⟩ = some (.int .u64 (m : Int)) ∧ W.cell? ⟨w.heap.size + 1, 2, none⟩ = some (.int .u64 (k : Int)) ∧ W.frozen? ⟨w.heap.size + 1, 0, none⟩ = false ∧ W.frozen? ⟨w.heap.size + 1, 1, none⟩ = false ∧ W.frozen? ⟨w.heap.size + 1, 2, none⟩ = false ∧ w.heap.size + 1 < W.heap.size ∧ W.cell? ⟨w.heap.size + 1 + 1, 0, none⟩ = some (.int .u64 (0 : Int)) ∧ W.cell? ⟨w.heap.size + 1 + 1, 1, none⟩ = some (.int .u64 (0 : Int)) ∧ W.cell? ⟨w.heap.size + 1 + 1, 2, none⟩ = some (.int .u64 (0 : Int)) ∧ W.frozen? ⟨w.heap.size + 1 + 1, 0, none⟩ = false ∧ W.frozen? ⟨w.heap.size + 1 + 1, 1, none⟩ = false ∧ W.frozen? ⟨w.heap.size + 1 + 1, 2, none⟩ = false ∧ w.heap.size + 1 + 1 < W.heap.size ∧ Below w.heap.size w W)
    (first | (with_reducible assumption) | (with_reducible exact HS.out) | (with_reducible exact drew3 HS.out) | (with_reducible exact st3b (by assumption)) | (with_reducible exact st3c (by assumption)) | (with_reducible exact keep3 (by assumption) (by assumption) (Nat.le_refl _)) | fail)
    (first | (go_at_call 26; ((with_reducible refine (none_any _).mono ?_); rintro e w1 ⟨rfl, hb1⟩)))
  clear a0 a1 a2 a3 a4 a5 a6 b0 b1 b2 b3 b4 b5 b6 c0 c1 c2 c3 c4 c5 c6 hg
  rename_i hS
  refine anyW (P := fun W => W.cell? ⟨w.heap.size, 0, none⟩ = some (.int .u64 (s : Int)) ∧ W.cell? ⟨w.heap.size, 1, none⟩ = some (.int .u64 (l : Int)) ∧ W.cell? ⟨w.heap.size, 2, none⟩ = some (.int .u64 (h : Int)) ∧ W.frozen? ⟨w.heap.size, 0, none⟩ = false ∧ W.frozen? ⟨w.heap.size, 1, none⟩ = false ∧ W.frozen? ⟨w.heap.size, 2, none⟩ = false ∧ w.heap.size < W.heap.size ∧ W.cell? ⟨w.heap.size + 1, 0, none⟩ = some (.int .u64 (t : Int)) ∧ W.cell? ⟨w.heap.size + 1, 1, none⟩ = some (.int .u64 (m : Int)) ∧ W.cell? ⟨w.heap.size + 1, 2, none⟩ = some (.int .u64 (k : Int)) ∧ W.frozen? ⟨w.heap.size + 1, 0, none⟩ = false ∧ W.frozen? ⟨w.heap.size + 1, 1, none⟩ = false ∧ W.frozen? ⟨w.heap.size + 1, 2, none⟩ = false ∧ w.heap.size + 1 < W.heap.size ∧ W.cell? ⟨w.heap.size + 1 + 1, 0, none⟩ = some (.int .u64 (0 : Int)) ∧ W.cell? ⟨w.heap.size + 1 + 1, 1, none⟩ = some (.int .u64 (0 : Int)) ∧ W.cell? ⟨w.heap.size + 1 + 1, 2, none⟩ = some (.int .u64 (0 : Int)) ∧ W.frozen? ⟨w.heap.size + 1 + 1, 0, none⟩ = false ∧ W.frozen? ⟨w.heap.size + 1 + 1, 1, none⟩ = false ∧ W.frozen? ⟨w.heap.size + 1 + 1, 2, none⟩ = false ∧ w.heap.size + 1 + 1 < W.heap.size ∧ Below w.heap.size w W) (Q := fun W => Exit.then _ _ _ _ W) hS ?_
  clear hS HS
  intro W hS
  have HS := Lib.hid hS
  obtain ⟨a0, a1, a2, a3, a4, a5, a6, b0, b1, b2, b3, b4, b5, b6, c0, c1, c2, c3, c4, c5, c6, hg⟩ := hS
  go_wp2_with fail
  go_at_call 11
  refine (HI.out _ hg).mono ?_
  rintro e W' ⟨rfl, hb1⟩
  replace HS := Lib.hid (keep3 hb1 HS.out (Nat.le_refl _))
  clear hb1 a0 a1 a2 a3 a4 a5 a6 b0 b1 b2 b3 b4 b5 b6 c0 c1 c2 c3 c4 c5 c6 hg
  obtain ⟨a0, a1, a2, a3, a4, a5, a6, b0, b1, b2, b3, b4, b5, b6, c0, c1, c2, c3, c4, c5, c6, hg⟩ := HS.out
  go_wp2_with fail
  refine bodyPost_ret (v := sv s l h) (by simp [results, Tryd.results16, go_sem, *]) rfl ⟨rfl, hg.trans ?_⟩
  go_grown
set_option maxRecDepth 100000 in
set_option maxHeartbeats 4000000 in
theorem wid_00 (s l h t m k : Nat) (wd : Int) (w : World) (uh : U h) (uk : U k) (ha : Rt ⟨s, l, h⟩) (hb : Rt ⟨t, m, k⟩) (hn : (⟨s, l, h⟩ : St) ≠ noneS) (r0 r1 r2 top : Nat) (u0 : r0 ≤ 18446744073709551615) (u1 : r1 ≤ 18446744073709551615) (u2 : r2 ≤ 18446744073709551615) (ut : top ≤ 18446744073709551615) (q1 : ¬ r1 < l) (q2 : ¬ h < r2) (HI : Hid (∀ W, Below w.heap.size w W → Calls Tryd.prog 11 #[sv t m k, sv s l h] W fun e w2 => e = .returned (.bool false) ∧ Below W.heap.size W w2)) (HJ : Hid (∀ W, Below w.heap.size w W → Calls Tryd.prog 10 #[sv s l h, sv t m k] W fun e w2 => e = .returned (sv r0 r1 r2) ∧ Below W.heap.size W w2)) (HT : Hid (∀ W, Below w.heap.size w W → Calls Tryd.prog 32 #[.int .i64 wd] W fun e w2 => e = .returned (.int .u64 (top : Nat)) ∧ W = w2)) :
    Calls Tryd.prog 16 #[sv s l h, sv t m k, .int .i64 wd] w fun e w' => e = .returned (sv r0 r1 r2) ∧ Below w.heap.size w w' := by
  have q := eq3_some s l h hn
  clear hn
  have v1 : (r1 : Int) ≤ 18446744073709551615 := by omega
  have v2 : (r2 : Int) ≤ 18446744073709551615 := by omega
  have vt : (top : Int) ≤ 18446744073709551615 := by omega
  have k1 := ((Slot3.new w (.int .u64 (s : Int)) (.int .u64 (l : Int)) (.int .u64 (h : Int)) 24).alloc (sb t m k)).alloc (z3)
  have k2 := (Slot3.new (w.alloc (sb s l h)) (.int .u64 (t : Int)) (.int .u64 (m : Int)) (.int .u64 (k : Int)) 24).alloc (z3)
  have k3 := Slot3.new ((w.alloc (sb s l h)).alloc (sb t m k)) (.int .u64 0) (.int .u64 0) (.int .u64 0) 24
  have hb0 : Below w.heap.size w (((w.alloc (sb s l h)).alloc (sb t m k)).alloc (z3)) := (((Below.refl _ _).alloc (Nat.le_refl _) _).alloc (by simp) _).alloc (by simp; omega) _
  have HS := Lib.hid (mk3 k1.drew k2.drew k3.drew hb0.drew)
  simp only [World.size_alloc] at HS
  clear k1 k2 k3 hb0
  go_enter Tryd.func16, Tryd.ntmps16
  go_wp2
  go_region_held3 (fun W => W.cell? ⟨w.heap.size, 0, none⟩ = some (.int .u64 (s : Int)) ∧ W.cell? ⟨w.heap.size, 1, none⟩ = some (.int .u64 (l : Int)) ∧ W.cell? ⟨w.heap.size, 2, none⟩ = some (.int .u64 (h : Int)) ∧ W.frozen? ⟨w.heap.size, 0, none⟩ = false ∧ W.frozen? ⟨w.heap.size, 1, none⟩ = false ∧ W.frozen? ⟨w.heap.size, 2, none⟩ = false ∧ w.heap.size < W.heap.size ∧ W.cell? ⟨w.heap.size + 1, 0, none⟩ = some (.int .u64 (t : Int)) ∧ W.cell? ⟨w.heap.size + 1, 1, none⟩ = some (.int .u64 (m : Int)) ∧ W.cell? ⟨w.heap.size + 1, 2, none⟩ = some (.int .u64 (k : Int)) ∧ W.frozen? ⟨w.heap.size + 1, 0, none⟩ = false ∧ W.frozen? ⟨w.heap.size + 1, 1, none⟩ = false ∧ W.frozen? ⟨w.heap.size + 1, 2, none⟩ = false ∧ w.heap.size + 1 < W.heap.size ∧ W.cell? ⟨w.heap.size + 1 + 1, 0, none⟩ = some (.int .u64 (0 : Int)) ∧ W.cell? ⟨w.heap.size + 1 + 1, 1, none⟩ = some (.int .u64 (0 : Int)) ∧ W.cell? ⟨w.heap.size + 1 + 1, 2, none⟩ = some (.int .u64 (0 : Int)) ∧ W.frozen? ⟨w.heap.size + 1 + 1, 0, none⟩ = false ∧ W.frozen? ⟨w.heap.size + 1 + 1, 1, none⟩ = false ∧ W.frozen? ⟨w.heap.size + 1 + 1, 2, none⟩ = false ∧ w.heap.size + 1 + 1 < W.heap.size ∧ Below w.heap.size w W)
    (first | (with_reducible assumption) | (with_reducible exact HS.out) | (with_reducible exact drew3 HS.out) | (with_reducible exact st3b (by assumption)) | (with_reducible exact st3c (by assumption)) | (with_reducible exact keep3 (by assumption) (by assumption) (Nat.le_refl _)) | fail)
    (first | (go_at_call 27; ((with_reducible refine (held_rt _ _ _ uh ha _).mono ?_); rintro e w1 ⟨rfl, hb1⟩)) | (go_at_call 27; ((with_reducible refine (held_rt _ _ _ uk hb _).mono ?_); rintro e w1 ⟨rfl, hb1⟩)))
  rename_i hS
  refine anyW (P := fun W => W.cell? ⟨w.heap.size, 0, none⟩ = some (.int .u64 (s : Int)) ∧ W.cell? ⟨w.heap.size, 1, none⟩ = some (.int .u64 (l : Int)) ∧ W.cell? ⟨w.heap.size, 2, none⟩ = some (.int .u64 (h : Int)) ∧ W.frozen? ⟨w.heap.size, 0, none⟩ = false ∧ W.frozen? ⟨w.heap.size, 1, none⟩ = false ∧ W.frozen? ⟨w.heap.size, 2, none⟩ = false ∧ w.heap.size < W.heap.size ∧ W.cell? ⟨w.heap.size + 1, 0, none⟩ = some (.int .u64 (t : Int)) ∧ W.cell? ⟨w.heap.size + 1, 1, none⟩ = some (.int .u64 (m : Int)) ∧ W.cell? ⟨w.heap.size + 1, 2, none⟩ = some (.int .u64 (k : Int)) ∧ W.frozen? ⟨w.heap.size + 1, 0, none⟩ = false ∧ W.frozen? ⟨w.heap.size + 1, 1, none⟩ = false ∧ W.frozen? ⟨w.heap.size + 1, 2, none⟩ = false ∧ w.heap.size + 1 < W.heap.size ∧ W.cell? ⟨w.heap.size + 1 + 1, 0, none⟩ = some (.int .u64 (0 : Int)) ∧ W.cell? ⟨w.heap.size + 1 + 1, 1, none⟩ = some (.int .u64 (0 : Int)) ∧ W.cell? ⟨w.heap.size + 1 + 1, 2, none⟩ = some (.int .u64 (0 : Int)) ∧ W.frozen? ⟨w.heap.size + 1 + 1, 0, none⟩ = false ∧ W.frozen? ⟨w.heap.size + 1 + 1, 1, none⟩ = false ∧ W.frozen? ⟨w.heap.size + 1 + 1, 2, none⟩ = false ∧ w.heap.size + 1 + 1 < W.heap.size ∧ Below w.heap.size w W) (Q := fun W => Exit.then _ _ _ _ W) hS ?_
  clear hS HS
  intro W hS
  have HS := Lib.hid hS
  obtain ⟨a0, a1, a2, a3, a4, a5, a6, b0, b1, b2, b3, b4, b5, b6, c0, c1, c2, c3, c4, c5, c6, hg⟩ := hS
  go_wp2
  go_region_held3 (fun W => W.cell? ⟨w.heap.size, 0, none⟩ = some (.int .u64 (s : Int)) ∧ W.cell? ⟨w.heap.size, 1, none⟩ = some (.int .u64 (l : Int)) ∧ W.cell? ⟨w.heap.size, 2, none⟩ = some (.int .u64 (h : Int)) ∧ W.frozen? ⟨w.heap.size, 0, none⟩ = false ∧ W.frozen? ⟨w.heap.size, 1, none⟩ = false ∧ W.frozen? ⟨w.heap.size, 2, none⟩ = false ∧ w.heap.size < W.heap.size ∧ W.cell? ⟨w.heap.size + 1, 0, none⟩ = some (.int .u64 (t : Int)) ∧ W.cell? ⟨w.heap.size + 1, 1, none⟩ = some (.int .u64 (m : Int)) ∧ W.cell? ⟨w.heap.size + 1, 2, none⟩ = some (.int .u64 (k : Int)) ∧ W.frozen? ⟨w.heap.size + 1, 0, none⟩ = false ∧ W.frozen? ⟨w.heap.size + 1, 1, none⟩ = false ∧ W.frozen? ⟨w.heap.size + 1, 2, none⟩ = false ∧ w.heap.size + 1 < W.heap.size ∧ W.cell? ⟨w.heap.size + 1 + 1, 0, none⟩ = some (.int .u64 (0 : Int)) ∧ W.cell? ⟨w.heap.size + 1 + 1, 1, none⟩ = some (.int .u64 (0 : Int)) ∧ W.cell? ⟨w.heap.size + 1 + 1, 2, none⟩ = some (.int .u64 (0 : Int)) ∧ W.frozen? ⟨w.heap.size + 1 + 1, 0, none⟩ = false ∧ W.frozen? ⟨w.heap.size + 1 + 1, 1, none⟩ = false ∧ W.frozen? ⟨w.heap.size + 1 + 1, 2, none⟩ = false ∧ w.heap.size + 1 + 1 < W.heap.size ∧ Below w.heap.size w W)
    (first | (with_reducible assumption) | (with_reducible exact HS.out) | (with_reducible exact drew3 HS.out) | (with_reducible exact st3b (by assumption)) | (with_reducible exact st3c (by assumption)) | (with_reducible exact keep3 (by assumption) (by assumption) (Nat.le_refl _)) | fail)
    (first | (go_at_call 26; ((with_reducible refine (none_any _).mono ?_); rintro e w1 ⟨rfl, hb1⟩)))
  clear a0 a1 a2 a3 a4 a5 a6 b0 b1 b2 b3 b4 b5 b6 c0 c1 c2 c3 c4 c5 c6 hg
  rename_i hS
  refine anyW (P := fun W => W.cell? ⟨w.heap.size, 0, none⟩ = some (.int .u64 (s : Int)) ∧ W.cell? ⟨w.heap.size, 1, none⟩ = some (.int .u64 (l : Int)) ∧ W.cell? ⟨w.heap.size, 2, none⟩ = some (.int .u64 (h : Int)) ∧ W.frozen? ⟨w.heap.size, 0, none⟩ = false ∧ W.frozen? ⟨w.heap.size, 1, none⟩ = false ∧ W.frozen? ⟨w.heap.size, 2, none⟩ = false ∧ w.heap.size < W.heap.size ∧ W.cell? ⟨w.heap.size + 1, 0, none⟩ = some (.int .u64 (t : Int)) ∧ W.cell? ⟨w.heap.size + 1, 1, none⟩ = some (.int .u64 (m : Int)) ∧ W.cell? ⟨w.heap.size + 1, 2, none⟩ = some (.int .u64 (k : Int)) ∧ W.frozen? ⟨w.heap.size + 1, 0, none⟩ = false ∧ W.frozen? ⟨w.heap.size + 1, 1, none⟩ = false ∧ W.frozen? ⟨w.heap.size + 1, 2, none⟩ = false ∧ w.heap.size + 1 < W.heap.size ∧ W.cell? ⟨w.heap.size + 1 + 1, 0, none⟩ = some (.int .u64 (0 : Int)) ∧ W.cell? ⟨w.heap.size + 1 + 1, 1, none⟩ = some (.int .u64 (0 : Int)) ∧ W.cell? ⟨w.heap.size + 1 + 1, 2, none⟩ = some (.int .u64 (0 : Int)) ∧ W.frozen? ⟨w.heap.size + 1 + 1, 0, none⟩ = false ∧ W.frozen? ⟨w.heap.size + 1 + 1, 1, none⟩ = false ∧ W.frozen? ⟨w.heap.size + 1 + 1, 2, none⟩ = false ∧ w.heap.size + 1 + 1 < W.heap.size ∧ Below w.heap.size w W) (Q := fun W => Exit.then _ _ _ _ W) hS ?_
  clear hS HS
  intro W hS
  have HS := Lib.hid hS
  obtain ⟨a0, a1, a2, a3, a4, a5, a6, b0, b1, b2, b3, b4, b5, b6, c0, c1, c2, c3, c4, c5, c6, hg⟩ := hS
  go_wp2_with fail
  go_at_call 11
  refine (HI.out _ hg).mono ?_
  rintro e W' ⟨rfl, hb1⟩
  replace HS := Lib.hid (keep3 hb1 HS.out (Nat.le_refl _))
  clear hb1 a0 a1 a2 a3 a4 a5 a6 b0 b1 b2 b3 b4 b5 b6 c0 c1 c2 c3 c4 c5 c6 hg
  obtain ⟨a0, a1, a2, a3, a4, a5, a6, b0, b1, b2, b3, b4, b5, b6, c0, c1, c2, c3, c4, c5, c6, hg⟩ := HS.out
  go_wp2_with fail
  go_at_call 10
  refine (HJ.out _ hg).mono ?_
  rintro e W2 ⟨rfl, hb1⟩
  replace HS := Lib.hid (keep3 hb1 HS.out (Nat.le_refl _))
  clear hb1 a0 a1 a2 a3 a4 a5 a6 b0 b1 b2 b3 b4 b5 b6 c0 c1 c2 c3 c4 c5 c6 hg
  obtain ⟨a0, a1, a2, a3, a4, a5, a6, b0, b1, b2, b3, b4, b5, b6, c0, c1, c2, c3, c4, c5, c6, hg⟩ := HS.out
  go_wp2_with fail
  go_at_call 32
  refine (HT.out _ hg).mono ?_
  rintro e W3 ⟨rfl, rfl⟩
  have hgg := hg.size
  have hcc := c6
  clear a0 a1 a2 a3 a4 a5 a6 b0 b1 b2 b3 b4 b5 b6 c0 c1 c2 c3 c4 c5 c6 hg
  go_upto_region 7 with fail
  replace HS := Lib.hid (new4 (z0 := .int .u64 (r0 : Int)) (z1 := .int .u64 (r1 : Int)) (z2 := .int .u64 (r2 : Int)) (Nat.le_refl _) HS.out)
  generalize W2.alloc (Obj.cells #[.int .u64 (r0 : Int), .int .u64 (r1 : Int), .int .u64 (r2 : Int)] 24) = W4 at HS ⊢
  generalize W2.heap.size = g at HS hgg hcc ⊢
  have n1 : ¬ g = w.heap.size := by omega
  have n2 : ¬ g = w.heap.size + 1 := by omega
  have n3 : ¬ g = w.heap.size + 1 + 1 := by omega
  have n4 : ¬ w.heap.size = g := by omega
  have n5 : ¬ w.heap.size + 1 = g := by omega
  have n6 : ¬ w.heap.size + 1 + 1 = g := by omega
  obtain ⟨ka0, ka1, ka2, ka3, ka4, ka5, ka6, kb0, kb1, kb2, kb3, kb4, kb5, kb6, kc0, kc1, kc2, kc3, kc4, kc5, kc6, kd0, kd1, kd2, kd3, kd4, kd5, kd6, hg⟩ := HS.out
  clear HS
  go_wp2
  refine bodyPost_ret (v := sv r0 r1 r2) (by simp [results, Tryd.results16, go_sem, *]) rfl ⟨rfl, hg.trans ?_⟩
  go_grown
set_option maxRecDepth 100000 in
set_option maxHeartbeats 4000000 in
theorem wid_01 (s l h t m k : Nat) (wd : Int) (w : World) (uh : U h) (uk : U k) (ha : Rt ⟨s, l, h⟩) (hb : Rt ⟨t, m, k⟩) (hn : (⟨s, l, h⟩ : St) ≠ noneS) (r0 r1 r2 top : Nat) (u0 : r0 ≤ 18446744073709551615) (u1 : r1 ≤ 18446744073709551615) (u2 : r2 ≤ 18446744073709551615) (ut : top ≤ 18446744073709551615) (q1 : ¬ r1 < l) (q2 : h < r2) (q3 : ¬ r2 ≤ top) (HI : Hid (∀ W, Below w.heap.size w W → Calls Tryd.prog 11 #[sv t m k, sv s l h] W fun e w2 => e = .returned (.bool false) ∧ Below W.heap.size W w2)) (HJ : Hid (∀ W, Below w.heap.size w W → Calls Tryd.prog 10 #[sv s l h, sv t m k] W fun e w2 => e = .returned (sv r0 r1 r2) ∧ Below W.heap.size W w2)) (HT : Hid (∀ W, Below w.heap.size w W → Calls Tryd.prog 32 #[.int .i64 wd] W fun e w2 => e = .returned (.int .u64 (top : Nat)) ∧ W = w2)) :
    Calls Tryd.prog 16 #[sv s l h, sv t m k, .int .i64 wd] w fun e w' => e = .returned (sv r0 r1 r2) ∧ Below w.heap.size w w' := by
  have q := eq3_some s l h hn
  clear hn
  have v1 : (r1 : Int) ≤ 18446744073709551615 := by omega
  have v2 : (r2 : Int) ≤ 18446744073709551615 := by omega
  have vt : (top : Int) ≤ 18446744073709551615 := by omega
  have k1 := ((Slot3.new w (.int .u64 (s : Int)) (.int .u64 (l : Int)) (.int .u64 (h : Int)) 24).alloc (sb t m k)).alloc (z3)
  have k2 := (Slot3.new (w.alloc (sb s l h)) (.int .u64 (t : Int)) (.int .u64 (m : Int)) (.int .u64 (k : Int)) 24).alloc (z3)
  have k3 := Slot3.new ((w.alloc (sb s l h)).alloc (sb t m k)) (.int .u64 0) (.int .u64 0) (.int .u64 0) 24
  have hb0 : Below w.heap.size w (((w.alloc (sb s l h)).alloc (sb t m k)).alloc (z3)) := (((Below.refl _ _).alloc (Nat.le_refl _) _).alloc (by simp) _).alloc (by simp; omega) _
  have HS := Lib.hid (mk3 k1.drew k2.drew k3.drew hb0.drew)
  simp only [World.size_alloc] at HS
  clear k1 k2 k3 hb0
  go_enter Tryd.func16, Tryd.ntmps16
  go_wp2
  go_region_held3 (fun W => W.cell? ⟨w.heap.size, 0, none⟩ = some (.int .u64 (s : Int)) ∧ W.cell? ⟨w.heap.size, 1, none⟩ = some (.int .u64 (l : Int)) ∧ W.cell? ⟨w.heap.size, 2, none⟩ = some (.int .u64 (h : Int)) ∧ W.frozen? ⟨w.heap.size, 0, none⟩ = false ∧ W.frozen? ⟨w.heap.size, 1, none⟩ = false ∧ W.frozen? ⟨w.heap.size, 2, none⟩ = false ∧ w.heap.size < W.heap.size ∧ W.cell? ⟨w.heap.size + 1, 0, none⟩ = some (.int .u64 (t : Int)) ∧ W.cell? ⟨w.heap.size + 1, 1, none⟩ = some (.int .u64 (m : Int)) ∧ W.cell? ⟨w.heap.size + 1, 2, none⟩ = some (.int .u64 (k : Int)) ∧ W.frozen? ⟨w.heap.size + 1, 0, none⟩ = false ∧ W.frozen? ⟨w.heap.size + 1, 1, none⟩ = false ∧ W.frozen? ⟨w.heap.size + 1, 2, none⟩ = false ∧ w.heap.size + 1 < W.heap.size ∧ W.cell? ⟨w.heap.size + 1 + 1, 0, none⟩ = some (.int .u64 (0 : Int)) ∧ W.cell? ⟨w.heap.size + 1 + 1, 1, none⟩ = some (.int .u64 (0 : Int)) ∧ W.cell? ⟨w.heap.size + 1 + 1, 2, none⟩ = some (.int .u64 (0 : Int)) ∧ W.frozen? ⟨w.heap.size + 1 + 1, 0, none⟩ = false ∧ W.frozen? ⟨w.heap.size + 1 + 1, 1, none⟩ = false ∧ W.frozen? ⟨w.heap.size + 1 + 1, 2, none⟩ = false ∧ w.heap.size + 1 + 1 < W.heap.size ∧ Below w.heap.size w W)
    (first | (with_reducible assumption) | (with_reducible exact HS.out) | (with_reducible exact drew3 HS.out) | (with_reducible exact st3b (by assumption)) | (with_reducible exact st3c (by assumption)) | (with_reducible exact keep3 (by assumption) (by assumption) (Nat.le_refl _)) | fail)
    (first | (go_at_call 27; ((with_reducible refine (held_rt _ _ _ uh ha _).mono ?_); rintro e w1 ⟨rfl, hb1⟩)) | (go_at_call 27; ((with_reducible refine (held_rt _ _ _ uk hb _).mono ?_); rintro e w1 ⟨rfl, hb1⟩)))
  rename_i hS
  refine anyW (P := fun W => W.cell? ⟨w.heap.size, 0, none⟩ = some (.int .u64 (s : Int)) ∧ W.cell? ⟨w.heap.size, 1, none⟩ = some (.int .u64 (l : Int)) ∧ W.cell? ⟨w.heap.size, 2, none⟩ = some (.int .u64 (h : Int)) ∧ W.frozen? ⟨w.heap.size, 0, none⟩ = false ∧ W.frozen? ⟨w.heap.size, 1, none⟩ = false ∧ W.frozen? ⟨w.heap.size, 2, none⟩ = false ∧ w.heap.size < W.heap.size ∧ W.cell? ⟨w.heap.size + 1, 0, none⟩ = some (.int .u64 (t : Int)) ∧ W.cell? ⟨w.heap.size + 1, 1, none⟩ = some (.int .u64 (m : Int)) ∧ W.cell? ⟨w.heap.size + 1, 2, none⟩ = some (.int .u64 (k : Int)) ∧ W.frozen? ⟨w.heap.size + 1, 0, none⟩ = false ∧ W.frozen? ⟨w.heap.size + 1, 1, none⟩ = false ∧ W.frozen? ⟨w.heap.size + 1, 2, none⟩ = false ∧ w.heap.size + 1 < W.heap.size ∧ W.cell? ⟨w.heap.size + 1 + 1, 0, none⟩ = some (.int .u64 (0 : Int)) ∧ W.cell? ⟨w.heap.size + 1 + 1, 1, none⟩ = some (.int .u64 (0 : Int)) ∧ W.cell? ⟨w.heap.size + 1 + 1, 2, none⟩ = some (.int .u64 (0 : Int)) ∧ W.frozen? ⟨w.heap.size + 1 + 1, 0, none⟩ = false ∧ W.frozen? ⟨w.heap.size + 1 + 1, 1, none⟩ = false ∧ W.frozen? ⟨w.heap.size + 1 + 1, 2, none⟩ = false ∧ w.heap.size + 1 + 1 < W.heap.size ∧ Below w.heap.size w W) (Q := fun W => Exit.then _ _ _ _ W) hS ?_
  clear hS HS
  intro W hS
  have HS := Lib.hid hS
  obtain ⟨a0, a1, a2, a3, a4, a5, a6, b0, b1, b2, b3, b4, b5, b6, c0, c1, c2, c3, c4, c5, c6, hg⟩ := hS
  go_wp2
  go_region_held3 (fun W => W.cell? ⟨w.heap.size, 0, none⟩ = some (.int .u64 (s : Int)) ∧ W.cell? ⟨w.heap.size, 1, none⟩ = some (.int .u64 (l : Int)) ∧ W.cell? ⟨w.heap.size, 2, none⟩ = some (.int .u64 (h : Int)) ∧ W.frozen? ⟨w.heap.size, 0, none⟩ = false ∧ W.frozen? ⟨w.heap.size, 1, none⟩ = false ∧ W.frozen? ⟨w.heap.size, 2, none⟩ = false ∧ w.heap.size < W.heap.size ∧ W.cell? ⟨w.heap.size + 1, 0, none⟩ = some (.int .u64 (t : Int)) ∧ W.cell? ⟨w.heap.size + 1, 1, none⟩ = some (.int .u64 (m : Int)) ∧ W.cell? ⟨w.heap.size + 1, 2, none⟩ = some (.int .u64 (k : Int)) ∧ W.frozen? ⟨w.heap.size + 1, 0, none⟩ = false ∧ W.frozen? ⟨w.heap.size + 1, 1, none⟩ = false ∧ W.frozen? ⟨w.heap.size + 1, 2, none⟩ = false ∧ w.heap.size + 1 < W.heap.size ∧ W.cell? ⟨w.heap.size + 1 + 1, 0, none⟩ = some (.int .u64 (0 : Int)) ∧ W.cell? ⟨w.heap.size + 1 + 1, 1, none⟩ = some (.int .u64 (0 : Int)) ∧ W.cell? ⟨w.heap.size + 1 + 1, 2, none⟩ = some (.int .u64 (0 : Int)) ∧ W.frozen? ⟨w.heap.size + 1 + 1, 0, none⟩ = false ∧ W.frozen? ⟨w.heap.size + 1 + 1, 1, none⟩ = false ∧ W.frozen? ⟨w.heap.size + 1 + 1, 2, none⟩ = false ∧ w.heap.size + 1 + 1 < W.heap.size ∧ Below w.heap.size w W)
    (first | (with_reducible assumption) | (with_reducible exact HS.out) | (with_reducible exact drew3 HS.out) | (with_reducible exact st3b (by assumption)) | (with_reducible exact st3c (by assumption)) | (with_reducible exact keep3 (by assumption) (by assumption) (Nat.le_refl _)) | fail)
    (first | (go_at_call 26; ((with_reducible refine (none_any _).mono ?_); rintro e w1 ⟨rfl, hb1⟩)))
  clear a0 a1 a2 a3 a4 a5 a6 b0 b1 b2 b3 b4 b5 b6 c0 c1 c2 c3 c4 c5 c6 hg
  rename_i hS
  refine anyW (P := fun W => W.cell? ⟨w.heap.size, 0, none⟩ = some (.int .u64 (s : Int)) ∧ W.cell? ⟨w.heap.size, 1, none⟩ = some (.int .u64 (l : Int)) ∧ W.cell? ⟨w.heap.size, 2, none⟩ = some (.int .u64 (h : Int)) ∧ W.frozen? ⟨w.heap.size, 0, none⟩ = false ∧ W.frozen? ⟨w.heap.size, 1, none⟩ = false ∧ W.frozen? ⟨w.heap.size, 2, none⟩ = false ∧ w.heap.size < W.heap.size ∧ W.cell? ⟨w.heap.size + 1, 0, none⟩ = some (.int .u64 (t : Int)) ∧ W.cell? ⟨w.heap.size + 1, 1, none⟩ = some (.int .u64 (m : Int)) ∧ W.cell? ⟨w.heap.size + 1, 2, none⟩ = some (.int .u64 (k : Int)) ∧ W.frozen? ⟨w.heap.size + 1, 0, none⟩ = false ∧ W.frozen? ⟨w.heap.size + 1, 1, none⟩ = false ∧ W.frozen? ⟨w.heap.size + 1, 2, none⟩ = false ∧ w.heap.size + 1 < W.heap.size ∧ W.cell? ⟨w.heap.size + 1 + 1, 0, none⟩ = some (.int .u64 (0 : Int)) ∧ W.cell? ⟨w.heap.size + 1 + 1, 1, none⟩ = some (.int .u64 (0 : Int)) ∧ W.cell? ⟨w.heap.size + 1 + 1, 2, none⟩ = some (.int .u64 (0 : Int)) ∧ W.frozen? ⟨w.heap.size + 1 + 1, 0, none⟩ = false ∧ W.frozen? ⟨w.heap.size + 1 + 1, 1, none⟩ = false ∧ W.frozen? ⟨w.heap.size + 1 + 1, 2, none⟩ = false ∧ w.heap.size + 1 + 1 < W.heap.size ∧ Below w.heap.size w W) (Q := fun W => Exit.then _ _ _ _ W) hS ?_
  clear hS HS
  intro W hS
  have HS := Lib.hid hS
  obtain ⟨a0, a1, a2, a3, a4, a5, a6, b0, b1, b2, b3, b4, b5, b6, c0, c1, c2, c3, c4, c5, c6, hg⟩ := hS
  go_wp2_with fail
  go_at_call 11
  refine (HI.out _ hg).mono ?_
  rintro e W' ⟨rfl, hb1⟩
  replace HS := Lib.hid (keep3 hb1 HS.out (Nat.le_refl _))
  clear hb1 a0 a1 a2 a3 a4 a5 a6 b0 b1 b2 b3 b4 b5 b6 c0 c1 c2 c3 c4 c5 c6 hg
  obtain ⟨a0, a1, a2, a3, a4, a5, a6, b0, b1, b2, b3, b4, b5, b6, c0, c1, c2, c3, c4, c5, c6, hg⟩ := HS.out
  go_wp2_with fail
  go_at_call 10
  refine (HJ.out _ hg).mono ?_
  rintro e W2 ⟨rfl, hb1⟩
  replace HS := Lib.hid (keep3 hb1 HS.out (Nat.le_refl _))
  clear hb1 a0 a1 a2 a3 a4 a5 a6 b0 b1 b2 b3 b4 b5 b6 c0 c1 c2 c3 c4 c5 c6 hg
  obtain ⟨a0, a1, a2, a3, a4, a5, a6, b0, b1, b2, b3, b4, b5, b6, c0, c1, c2, c3, c4, c5, c6, hg⟩ := HS.out
  go_wp2_with fail
  go_at_call 32
  refine (HT.out _ hg).mono ?_
  rintro e W3 ⟨rfl, rfl⟩
  have hgg := hg.size
  have hcc := c6
  clear a0 a1 a2 a3 a4 a5 a6 b0 b1 b2 b3 b4 b5 b6 c0 c1 c2 c3 c4 c5 c6 hg
  go_upto_region 7 with fail
  replace HS := Lib.hid (new4 (z0 := .int .u64 (r0 : Int)) (z1 := .int .u64 (r1 : Int)) (z2 := .int .u64 (r2 : Int)) (Nat.le_refl _) HS.out)
  generalize W2.alloc (Obj.cells #[.int .u64 (r0 : Int), .int .u64 (r1 : Int), .int .u64 (r2 : Int)] 24) = W4 at HS ⊢
  generalize W2.heap.size = g at HS hgg hcc ⊢
  have n1 : ¬ g = w.heap.size := by omega
  have n2 : ¬ g = w.heap.size + 1 := by omega
  have n3 : ¬ g = w.heap.size + 1 + 1 := by omega
  have n4 : ¬ w.heap.size = g := by omega
  have n5 : ¬ w.heap.size + 1 = g := by omega
  have n6 : ¬ w.heap.size + 1 + 1 = g := by omega
  obtain ⟨ka0, ka1, ka2, ka3, ka4, ka5, ka6, kb0, kb1, kb2, kb3, kb4, kb5, kb6, kc0, kc1, kc2, kc3, kc4, kc5, kc6, kd0, kd1, kd2, kd3, kd4, kd5, kd6, hg⟩ := HS.out
  clear HS
  go_wp2
  refine bodyPost_ret (v := sv r0 r1 r2) (by simp [results, Tryd.results16, go_sem, *]) rfl ⟨rfl, hg.trans ?_⟩
  go_grown
set_option maxRecDepth 100000 in
set_option maxHeartbeats 4000000 in
theorem wid_02 (s l h t m k : Nat) (wd : Int) (w : World) (uh : U h) (uk : U k) (ha : Rt ⟨s, l, h⟩) (hb : Rt ⟨t, m, k⟩) (hn : (⟨s, l, h⟩ : St) ≠ noneS) (r0 r1 r2 top : Nat) (u0 : r0 ≤ 18446744073709551615) (u1 : r1 ≤ 18446744073709551615) (u2 : r2 ≤ 18446744073709551615) (ut : top ≤ 18446744073709551615) (q1 : ¬ r1 < l) (q2 : h < r2) (q3 : r2 ≤ top) (hp : 0 < r0) (HI : Hid (∀ W, Below w.heap.size w W → Calls Tryd.prog 11 #[sv t m k, sv s l h] W fun e w2 => e = .returned (.bool false) ∧ Below W.heap.size W w2)) (HJ : Hid (∀ W, Below w.heap.size w W → Calls Tryd.prog 10 #[sv s l h, sv t m k] W fun e w2 => e = .returned (sv r0 r1 r2) ∧ Below W.heap.size W w2)) (HT : Hid (∀ W, Below w.heap.size w W → Calls Tryd.prog 32 #[.int .i64 wd] W fun e w2 => e = .returned (.int .u64 (top : Nat)) ∧ W = w2)) :
    Calls Tryd.prog 16 #[sv s l h, sv t m k, .int .i64 wd] w fun e w' => e = .returned (sv r0 r1 (top - (top - r2) % r0)) ∧ Below w.heap.size w w' := by
  have q := eq3_some s l h hn
  clear hn
  have v1 : (r1 : Int) ≤ 18446744073709551615 := by omega
  have v2 : (r2 : Int) ≤ 18446744073709551615 := by omega
  have vt : (top : Int) ≤ 18446744073709551615 := by omega
  have v0 : (1 : Int) ≤ r0 := by omega
  have e2 : ((top : Int) - r2) % r0 = (((top - r2) % r0 : Nat) : Int) := by rw [show (top : Int) - r2 = ((top - r2 : Nat) : Int) by omega]; simp
  have le2 : (top - r2) % r0 ≤ top := Nat.le_trans (Nat.mod_le _ _) (Nat.sub_le _ _)
  generalize (top - r2) % r0 = x2 at e2 le2 ⊢
  have e3 : (top : Int) - x2 = ((top - x2 : Nat) : Int) := by omega
  have k1 := ((Slot3.new w (.int .u64 (s : Int)) (.int .u64 (l : Int)) (.int .u64 (h : Int)) 24).alloc (sb t m k)).alloc (z3)
  have k2 := (Slot3.new (w.alloc (sb s l h)) (.int .u64 (t : Int)) (.int .u64 (m : Int)) (.int .u64 (k : Int)) 24).alloc (z3)
  have k3 := Slot3.new ((w.alloc (sb s l h)).alloc (sb t m k)) (.int .u64 0) (.int .u64 0) (.int .u64 0) 24
  have hb0 : Below w.heap.size w (((w.alloc (sb s l h)).alloc (sb t m k)).alloc (z3)) := (((Below.refl _ _).alloc (Nat.le_refl _) _).alloc (by simp) _).alloc (by simp; omega) _
  have HS := Lib.hid (mk3 k1.drew k2.drew k3.drew hb0.drew)
  simp only [World.size_alloc] at HS
  clear k1 k2 k3 hb0
  go_enter Tryd.func16, Tryd.ntmps16
  go_wp2
  go_region_held3 (fun W => W.cell? ⟨w.heap.size, 0, none⟩ = some (.int .u64 (s : Int)) ∧ W.cell? ⟨w.heap.size, 1, none⟩ = some (.int .u64 (l : Int)) ∧ W.cell? ⟨w.heap.size, 2, none⟩ = some (.int .u64 (h : Int)) ∧ W.frozen? ⟨w.heap.size, 0, none⟩ = false ∧ W.frozen? ⟨w.heap.size, 1, none⟩ = false ∧ W.frozen? ⟨w.heap.size, 2, none⟩ = false ∧ w.heap.size < W.heap.size ∧ W.cell? ⟨w.heap.size + 1, 0, none⟩ = some (.int .u64 (t : Int)) ∧ W.cell? ⟨w.heap.size + 1, 1, none⟩ = some (.int .u64 (m : Int)) ∧ W.cell? ⟨w.heap.size + 1, 2, none⟩ = some (.int .u64 (k : Int)) ∧ W.frozen? ⟨w.heap.size + 1, 0, none⟩ = false ∧ W.frozen? ⟨w.heap.size + 1, 1, none⟩ = false ∧ W.frozen? ⟨w.heap.size + 1, 2, none⟩ = false ∧ w.heap.size + 1 < W.heap.size ∧ W.cell? ⟨w.heap.size + 1 + 1, 0, none⟩ = some (.int .u64 (0 : Int)) ∧ W.cell? ⟨w.heap.size + 1 + 1, 1, none⟩ = some (.int .u64 (0 : Int)) ∧ W.cell? ⟨w.heap.size + 1 + 1, 2, none⟩ = some (.int .u64 (0 : Int)) ∧ W.frozen? ⟨w.heap.size + 1 + 1, 0, none⟩ = false ∧ W.frozen? ⟨w.heap.size + 1 + 1, 1, none⟩ = false ∧ W.frozen? ⟨w.heap.size + 1 + 1, 2, none⟩ = false ∧ w.heap.size + 1 + 1 < W.heap.size ∧ Below w.heap.size w W)
    (first | (with_reducible assumption) | (with_reducible exact HS.out) | (with_reducible exact drew3 HS.out) | (with_reducible exact st3b (by assumption)) | (with_reducible exact st3c (by assumption)) | (with_reducible exact keep3 (by assumption) (by assumption) (Nat.le_refl _)) | fail)
    (first | (go_at_call 27; ((with_reducible refine (held_rt _ _ _ uh ha _).mono ?_); rintro e w1 ⟨rfl, hb1⟩)) | (go_at_call 27; ((with_reducible refine (held_rt _ _ _ uk hb _).mono ?_); rintro e w1 ⟨rfl, hb1⟩)))
  rename_i hS
  refine anyW (P := fun W => W.cell? ⟨w.heap.size, 0, none⟩ = some (.int .u64 (s : Int)) ∧ W.cell? ⟨w.heap.size, 1, none⟩ = some (.int .u64 (l : Int)) ∧ W.cell? ⟨w.heap.size, 2, none⟩ = some (.int .u64 (h : Int)) ∧ W.frozen? ⟨w.heap.size, 0, none⟩ = false ∧ W.frozen? ⟨w.heap.size, 1, none⟩ = false ∧ W.frozen? ⟨w.heap.size, 2, none⟩ = false ∧ w.heap.size < W.heap.size ∧ W.cell? ⟨w.heap.size + 1, 0, none⟩ = some (.int .u64 (t : Int)) ∧ W.cell? ⟨w.heap.size + 1, 1, none⟩ = some (.int .u64 (m : Int)) ∧ W.cell? ⟨w.heap.size + 1, 2, none⟩ = some (.int .u64 (k : Int)) ∧ W.frozen? ⟨w.heap.size + 1, 0, none⟩ = false ∧ W.frozen? ⟨w.heap.size + 1, 1, none⟩ = false ∧ W.frozen? ⟨w.heap.size + 1, 2, none⟩ = false ∧ w.heap.size + 1 < W.heap.size ∧ W.cell? ⟨w.heap.size + 1 + 1, 0, none⟩ = some (.int .u64 (0 : Int)) ∧ W.cell? ⟨w.heap.size + 1 + 1, 1, none⟩ = some (.int .u64 (0 : Int)) ∧ W.cell? ⟨w.heap.size + 1 + 1, 2, none⟩ = some (.int .u64 (0 : Int)) ∧ W.frozen? ⟨w.heap.size + 1 + 1, 0, none⟩ = false ∧ W.frozen? ⟨w.heap.size + 1 + 1, 1, none⟩ = false ∧ W.frozen? ⟨w.heap.size + 1 + 1, 2, none⟩ = false ∧ w.heap.size + 1 + 1 < W.heap.size ∧ Below w.heap.size w W) (Q := fun W => Exit.then _ _ _ _ W) hS ?_
  clear hS HS
  intro W hS
  have HS := Lib.hid hS
  obtain ⟨a0, a1, a2, a3, a4, a5, a6, b0, b1, b2, b3, b4, b5, b6, c0, c1, c2, c3, c4, c5, c6, hg⟩ := hS
  go_wp2
  go_region_held3 (fun W => W.cell? ⟨w.heap.size, 0, none⟩ = some (.int .u64 (s : Int)) ∧ W.cell? ⟨w.heap.size, 1, none⟩ = some (.int .u64 (l : Int)) ∧ W.cell? ⟨w.heap.size, 2, none⟩ = some (.int .u64 (h : Int)) ∧ W.frozen? ⟨w.heap.size, 0, none⟩ = false ∧ W.frozen? ⟨w.heap.size, 1, none⟩ = false ∧ W.frozen? ⟨w.heap.size, 2, none⟩ = false ∧ w.heap.size < W.heap.size ∧ W.cell? ⟨w.heap.size + 1, 0, none⟩ = some (.int .u64 (t : Int)) ∧ W.cell? ⟨w.heap.size + 1, 1, none⟩ = some (.int .u64 (m : Int)) ∧ W.cell? ⟨w.heap.size + 1, 2, none⟩ = some (.int .u64 (k : Int)) ∧ W.frozen? ⟨w.heap.size + 1, 0, none⟩ = false ∧ W.frozen? ⟨w.heap.size + 1, 1, none⟩ = false ∧ W.frozen? ⟨w.heap.size + 1, 2, none⟩ = false ∧ w.heap.size + 1 < W.heap.size ∧ W.cell? ⟨w.heap.size + 1 + 1, 0, none⟩ = some (.int .u64 (0 : Int)) ∧ W.cell? ⟨w.heap.size + 1 + 1, 1, none⟩ = some (.int .u64 (0 : Int)) ∧ W.cell? ⟨w.heap.size + 1 + 1, 2, none⟩ = some (.int .u64 (0 : Int)) ∧ W.frozen? ⟨w.heap.size + 1 + 1, 0, none⟩ = false ∧ W.frozen? ⟨w.heap.size + 1 + 1, 1, none⟩ = false ∧ W.frozen? ⟨w.heap.size + 1 + 1, 2, none⟩ = false ∧ w.heap.size + 1 + 1 < W.heap.size ∧ Below w.heap.size w W)
    (first | (with_reducible assumption) | (with_reducible exact HS.out) | (with_reducible exact drew3 HS.out) | (with_reducible exact st3b (by assumption)) | (with_reducible exact st3c (by assumption)) | (with_reducible exact keep3 (by assumption) (by assumption) (Nat.le_refl _)) | fail)
    (first | (go_at_call 26; ((with_reducible refine (none_any _).mono ?_); rintro e w1 ⟨rfl, hb1⟩)))
  clear a0 a1 a2 a3 a4 a5 a6 b0 b1 b2 b3 b4 b5 b6 c0 c1 c2 c3 c4 c5 c6 hg
  rename_i hS
  refine anyW (P := fun W => W.cell? ⟨w.heap.size, 0, none⟩ = some (.int .u64 (s : Int)) ∧ W.cell? ⟨w.heap.size, 1, none⟩ = some (.int .u64 (l : Int)) ∧ W.cell? ⟨w.heap.size, 2, none⟩ = some (.int .u64 (h : Int)) ∧ W.frozen? ⟨w.heap.size, 0, none⟩ = false ∧ W.frozen? ⟨w.heap.size, 1, none⟩ = false ∧ W.frozen? ⟨w.heap.size, 2, none⟩ = false ∧ w.heap.size < W.heap.size ∧ W.cell? ⟨w.heap.size + 1, 0, none⟩ = some (.int .u64 (t : Int)) ∧ W.cell? ⟨w.heap.size + 1, 1, none⟩ = some (.int .u64 (m : Int)) ∧ W.cell? ⟨w.heap.size + 1, 2, none⟩ = some (.int .u64 (k : Int)) ∧ W.frozen? ⟨w.heap.size + 1, 0, none⟩ = false ∧ W.frozen? ⟨w.heap.size + 1, 1, none⟩ = false ∧ W.frozen? ⟨w.heap.size + 1, 2, none⟩ = false ∧ w.heap.size + 1 < W.heap.size ∧ W.cell? ⟨w.heap.size + 1 + 1, 0, none⟩ = some (.int .u64 (0 : Int)) ∧ W.cell? ⟨w.heap.size + 1 + 1, 1, none⟩ = some (.int .u64 (0 : Int)) ∧ W.cell? ⟨w.heap.size + 1 + 1, 2, none⟩ = some (.int .u64 (0 : Int)) ∧ W.frozen? ⟨w.heap.size + 1 + 1, 0, none⟩ = false ∧ W.frozen? ⟨w.heap.size + 1 + 1, 1, none⟩ = false ∧ W.frozen? ⟨w.heap.size + 1 + 1, 2, none⟩ = false ∧ w.heap.size + 1 + 1 < W.heap.size ∧ Below w.heap.size w W) (Q := fun W => Exit.then _ _ _ _ W) hS ?_
  clear hS HS
  intro W hS
  have HS := Lib.hid hS
  obtain ⟨a0, a1, a2, a3, a4, a5, a6, b0, b1, b2, b3, b4, b5, b6, c0, c1, c2, c3, c4, c5, c6, hg⟩ := hS
  go_wp2_with fail
  go_at_call 11
  refine (HI.out _ hg).mono ?_
  rintro e W' ⟨rfl, hb1⟩
  replace HS := Lib.hid (keep3 hb1 HS.out (Nat.le_refl _))
  clear hb1 a0 a1 a2 a3 a4 a5 a6 b0 b1 b2 b3 b4 b5 b6 c0 c1 c2 c3 c4 c5 c6 hg
  obtain ⟨a0, a1, a2, a3, a4, a5, a6, b0, b1, b2, b3, b4, b5, b6, c0, c1, c2, c3, c4, c5, c6, hg⟩ := HS.out
  go_wp2_with fail
  go_at_call 10
  refine (HJ.out _ hg).mono ?_
  rintro e W2 ⟨rfl, hb1⟩
  replace HS := Lib.hid (keep3 hb1 HS.out (Nat.le_refl _))
  clear hb1 a0 a1 a2 a3 a4 a5 a6 b0 b1 b2 b3 b4 b5 b6 c0 c1 c2 c3 c4 c5 c6 hg
  obtain ⟨a0, a1, a2, a3, a4, a5, a6, b0, b1, b2, b3, b4, b5, b6, c0, c1, c2, c3, c4, c5, c6, hg⟩ := HS.out
  go_wp2_with fail
  go_at_call 32
  refine (HT.out _ hg).mono ?_
  rintro e W3 ⟨rfl, rfl⟩
  have hgg := hg.size
  have hcc := c6
  clear a0 a1 a2 a3 a4 a5 a6 b0 b1 b2 b3 b4 b5 b6 c0 c1 c2 c3 c4 c5 c6 hg
  go_upto_region 7 with fail
  replace HS := Lib.hid (new4 (z0 := .int .u64 (r0 : Int)) (z1 := .int .u64 (r1 : Int)) (z2 := .int .u64 (r2 : Int)) (Nat.le_refl _) HS.out)
  generalize W2.alloc (Obj.cells #[.int .u64 (r0 : Int), .int .u64 (r1 : Int), .int .u64 (r2 : Int)] 24) = W4 at HS ⊢
  generalize W2.heap.size = g at HS hgg hcc ⊢
  have n1 : ¬ g = w.heap.size := by omega
  have n2 : ¬ g = w.heap.size + 1 := by omega
  have n3 : ¬ g = w.heap.size + 1 + 1 := by omega
  have n4 : ¬ w.heap.size = g := by omega
  have n5 : ¬ w.heap.size + 1 = g := by omega
  have n6 : ¬ w.heap.size + 1 + 1 = g := by omega
  obtain ⟨ka0, ka1, ka2, ka3, ka4, ka5, ka6, kb0, kb1, kb2, kb3, kb4, kb5, kb6, kc0, kc1, kc2, kc3, kc4, kc5, kc6, kd0, kd1, kd2, kd3, kd4, kd5, kd6, hg⟩ := HS.out
  clear HS
  go_wp2
  refine bodyPost_ret (v := sv r0 r1 (top - x2)) (by simp [results, Tryd.results16, go_sem, *]) rfl ⟨rfl, hg.trans ?_⟩
  go_grown
set_option maxRecDepth 100000 in
set_option maxHeartbeats 4000000 in
theorem wid_10 (s l h t m k : Nat) (wd : Int) (w : World) (uh : U h) (uk : U k) (ha : Rt ⟨s, l, h⟩) (hb : Rt ⟨t, m, k⟩) (hn : (⟨s, l, h⟩ : St) ≠ noneS) (r0 r1 r2 top : Nat) (u0 : r0 ≤ 18446744073709551615) (u1 : r1 ≤ 18446744073709551615) (u2 : r2 ≤ 18446744073709551615) (ut : top ≤ 18446744073709551615) (q1 : r1 < l) (q2 : ¬ h < r2) (hp : 0 < r0) (HI : Hid (∀ W, Below w.heap.size w W → Calls Tryd.prog 11 #[sv t m k, sv s l h] W fun e w2 => e = .returned (.bool false) ∧ Below W.heap.size W w2)) (HJ : Hid (∀ W, Below w.heap.size w W → Calls Tryd.prog 10 #[sv s l h, sv t m k] W fun e w2 => e = .returned (sv r0 r1 r2) ∧ Below W.heap.size W w2)) (HT : Hid (∀ W, Below w.heap.size w W → Calls Tryd.prog 32 #[.int .i64 wd] W fun e w2 => e = .returned (.int .u64 (top : Nat)) ∧ W = w2)) :
    Calls Tryd.prog 16 #[sv s l h, sv t m k, .int .i64 wd] w fun e w' => e = .returned (sv r0 (r1 % r0) r2) ∧ Below w.heap.size w w' := by
  have q := eq3_some s l h hn
  clear hn
  have v1 : (r1 : Int) ≤ 18446744073709551615 := by omega
  have v2 : (r2 : Int) ≤ 18446744073709551615 := by omega
  have vt : (top : Int) ≤ 18446744073709551615 := by omega
  have v0 : (1 : Int) ≤ r0 := by omega
  have e1 : (r1 : Int) % r0 = ((r1 % r0 : Nat) : Int) := by simp
  generalize r1 % r0 = x1 at e1 ⊢
  have k1 := ((Slot3.new w (.int .u64 (s : Int)) (.int .u64 (l : Int)) (.int .u64 (h : Int)) 24).alloc (sb t m k)).alloc (z3)
  have k2 := (Slot3.new (w.alloc (sb s l h)) (.int .u64 (t : Int)) (.int .u64 (m : Int)) (.int .u64 (k : Int)) 24).alloc (z3)
  have k3 := Slot3.new ((w.alloc (sb s l h)).alloc (sb t m k)) (.int .u64 0) (.int .u64 0) (.int .u64 0) 24
  have hb0 : Below w.heap.size w (((w.alloc (sb s l h)).alloc (sb t m k)).alloc (z3)) := (((Below.refl _ _).alloc (Nat.le_refl _) _).alloc (by simp) _).alloc (by simp; omega) _
  have HS := Lib.hid (mk3 k1.drew k2.drew k3.drew hb0.drew)
  simp only [World.size_alloc] at HS
  clear k1 k2 k3 hb0
  go_enter Tryd.func16, Tryd.ntmps16
  go_wp2
  go_region_held3 (fun W => W.cell? ⟨w.heap.size, 0, none⟩ = some (.int .u64 (s : Int)) ∧ W.cell? ⟨w.heap.size, 1, none⟩ = some (.int .u64 (l : Int)) ∧ W.cell? ⟨w.heap.size, 2, none⟩ = some (.int .u64 (h : Int)) ∧ W.frozen? ⟨w.heap.size, 0, none⟩ = false ∧ W.frozen? ⟨w.heap.size, 1, none⟩ = false ∧ W.frozen? ⟨w.heap.size, 2, none⟩ = false ∧ w.heap.size < W.heap.size ∧ W.cell? ⟨w.heap.size + 1, 0, none⟩ = some (.int .u64 (t : Int)) ∧ W.cell? ⟨w.heap.size + 1, 1, none⟩ = some (.int .u64 (m : Int)) ∧ W.cell? ⟨w.heap.size + 1, 2, none⟩ = some (.int .u64 (k : Int)) ∧ W.frozen? ⟨w.heap.size + 1, 0, none⟩ = false ∧ W.frozen? ⟨w.heap.size + 1, 1, none⟩ = false ∧ W.frozen? ⟨w.heap.size + 1, 2, none⟩ = false ∧ w.heap.size + 1 < W.heap.size ∧ W.cell? ⟨w.heap.size + 1 + 1, 0, none⟩ = some (.int .u64 (0 : Int)) ∧ W.cell? ⟨w.heap.size + 1 + 1, 1, none⟩ = some (.int .u64 (0 : Int)) ∧ W.cell? ⟨w.heap.size + 1 + 1, 2, none⟩ = some (.int .u64 (0 : Int)) ∧ W.frozen? ⟨w.heap.size + 1 + 1, 0, none⟩ = false ∧ W.frozen? ⟨w.heap.size + 1 + 1, 1, none⟩ = false ∧ W.frozen? ⟨w.heap.size + 1 + 1, 2, none⟩ = false ∧ w.heap.size + 1 + 1 < W.heap.size ∧ Below w.heap.size w W)
    (first | (with_reducible assumption) | (with_reducible exact HS.out) | (with_reducible exact drew3 HS.out) | (with_reducible exact st3b (by assumption)) | (with_reducible exact st3c (by assumption)) | (with_reducible exact keep3 (by assumption) (by assumption) (Nat.le_refl _)) | fail)
    (first | (go_at_call 27; ((with_reducible refine (held_rt _ _ _ uh ha _).mono ?_); rintro e w1 ⟨rfl, hb1⟩)) | (go_at_call 27; ((with_reducible refine (held_rt _ _ _ uk hb _).mono ?_); rintro e w1 ⟨rfl, hb1⟩)))
  rename_i hS
  refine anyW (P := fun W => W.cell? ⟨w.heap.size, 0, none⟩ = some (.int .u64 (s : Int)) ∧ W.cell? ⟨w.heap.size, 1, none⟩ = some (.int .u64 (l : Int)) ∧ W.cell? ⟨w.heap.size, 2, none⟩ = some (.int .u64 (h : Int)) ∧ W.frozen? ⟨w.heap.size, 0, none⟩ = false ∧ W.frozen? ⟨w.heap.size, 1, none⟩ = false ∧ W.frozen? ⟨w.heap.size, 2, none⟩ = false ∧ w.heap.size < W.heap.size ∧ W.cell? ⟨w.heap.size + 1, 0, none⟩ = some (.int .u64 (t : Int)) ∧ W.cell? ⟨w.heap.size + 1, 1, none⟩ = some (.int .u64 (m : Int)) ∧ W.cell? ⟨w.heap.size + 1, 2, none⟩ = some (.int .u64 (k : Int)) ∧ W.frozen? ⟨w.heap.size + 1, 0, none⟩ = false ∧ W.frozen? ⟨w.heap.size + 1, 1, none⟩ = false ∧ W.frozen? ⟨w.heap.size + 1, 2, none⟩ = false ∧ w.heap.size + 1 < W.heap.size ∧ W.cell? ⟨w.heap.size + 1 + 1, 0, none⟩ = some (.int .u64 (0 : Int)) ∧ W.cell? ⟨w.heap.size + 1 + 1, 1, none⟩ = some (.int .u64 (0 : Int)) ∧ W.cell? ⟨w.heap.size + 1 + 1, 2, none⟩ = some (.int .u64 (0 : Int)) ∧ W.frozen? ⟨w.heap.size + 1 + 1, 0, none⟩ = false ∧ W.frozen? ⟨w.heap.size + 1 + 1, 1, none⟩ = false ∧ W.frozen? ⟨w.heap.size + 1 + 1, 2, none⟩ = false ∧ w.heap.size + 1 + 1 < W.heap.size ∧ Below w.heap.size w W) (Q := fun W => Exit.then _ _ _ _ W) hS ?_
  clear hS HS
  intro W hS
  have HS := Lib.hid hS
  obtain ⟨a0, a1, a2, a3, a4, a5, a6, b0, b1, b2, b3, b4, b5, b6, c0, c1, c2, c3, c4, c5, c6, hg⟩ := hS
  go_wp2
  go_region_held3 (fun W => W.cell? ⟨w.heap.size, 0, none⟩ = some (.int .u64 (s : Int)) ∧ W.cell? ⟨w.heap.size, 1, none⟩ = some (.int .u64 (l : Int)) ∧ W.cell? ⟨w.heap.size, 2, none⟩ = some (.int .u64 (h : Int)) ∧ W.frozen? ⟨w.heap.size, 0, none⟩ = false ∧ W.frozen? ⟨w.heap.size, 1, none⟩ = false ∧ W.frozen? ⟨w.heap.size, 2, none⟩ = false ∧ w.heap.size < W.heap.size ∧ W.cell? ⟨w.heap.size + 1, 0, none⟩ = some (.int .u64 (t : Int)) ∧ W.cell? ⟨w.heap.size + 1, 1, none⟩ = some (.int .u64 (m : Int)) ∧ W.cell? ⟨w.heap.size + 1, 2, none⟩ = some (.int .u64 (k : Int)) ∧ W.frozen? ⟨w.heap.size + 1, 0, none⟩ = false ∧ W.frozen? ⟨w.heap.size + 1, 1, none⟩ = false ∧ W.frozen? ⟨w.heap.size + 1, 2, none⟩ = false ∧ w.heap.size + 1 < W.heap.size ∧ W.cell? ⟨w.heap.size + 1 + 1, 0, none⟩ = some (.int .u64 (0 : Int)) ∧ W.cell? ⟨w.heap.size + 1 + 1, 1, none⟩ = some (.int .u64 (0 : Int)) ∧ W.cell? ⟨w.heap.size + 1 + 1, 2, none⟩ = some (.int .u64 (0 : Int)) ∧ W.frozen? ⟨w.heap.size + 1 + 1, 0, none⟩ = false ∧ W.frozen? ⟨w.heap.size + 1 + 1, 1, none⟩ = false ∧ W.frozen? ⟨w.heap.size + 1 + 1, 2, none⟩ = false ∧ w.heap.size + 1 + 1 < W.heap.size ∧ Below w.heap.size w W)
    (first | (with_reducible assumption) | (with_reducible exact HS.out) | (with_reducible exact drew3 HS.out) | (with_reducible exact st3b (by assumption)) | (with_reducible exact st3c (by assumption)) | (with_reducible exact keep3 (by assumption) (by assumption) (Nat.le_refl _)) | fail)
    (first | (go_at_call 26; ((with_reducible refine (none_any _).mono ?_); rintro e w1 ⟨rfl, hb1⟩)))
  clear a0 a1 a2 a3 a4 a5 a6 b0 b1 b2 b3 b4 b5 b6 c0 c1 c2 c3 c4 c5 c6 hg
  rename_i hS
  refine anyW (P := fun W => W.cell? ⟨w.heap.size, 0, none⟩ = some (.int .u64 (s : Int)) ∧ W.cell? ⟨w.heap.size, 1, none⟩ = some (.int .u64 (l : Int)) ∧ W.cell? ⟨w.heap.size, 2, none⟩ = some (.int .u64 (h : Int)) ∧ W.frozen? ⟨w.heap.size, 0, none⟩ = false ∧ W.frozen? ⟨w.heap.size, 1, none⟩ = false ∧ W.frozen? ⟨w.heap.size, 2, none⟩ = false ∧ w.heap.size < W.heap.size ∧ W.cell? ⟨w.heap.size + 1, 0, none⟩ = some (.int .u64 (t : Int)) ∧ W.cell? ⟨w.heap.size + 1, 1, none⟩ = some (.int .u64 (m : Int)) ∧ W.cell? ⟨w.heap.size + 1, 2, none⟩ = some (.int .u64 (k : Int)) ∧ W.frozen? ⟨w.heap.size + 1, 0, none⟩ = false ∧ W.frozen? ⟨w.heap.size + 1, 1, none⟩ = false ∧ W.frozen? ⟨w.heap.size + 1, 2, none⟩ = false ∧ w.heap.size + 1 < W.heap.size ∧ W.cell? ⟨w.heap.size + 1 + 1, 0, none⟩ = some (.int .u64 (0 : Int)) ∧ W.cell? ⟨w.heap.size + 1 + 1, 1, none⟩ = some (.int .u64 (0 : Int)) ∧ W.cell? ⟨w.heap.size + 1 + 1, 2, none⟩ = some (.int .u64 (0 : Int)) ∧ W.frozen? ⟨w.heap.size + 1 + 1, 0, none⟩ = false ∧ W.frozen? ⟨w.heap.size + 1 + 1, 1, none⟩ = false ∧ W.frozen? ⟨w.heap.size + 1 + 1, 2, none⟩ = false ∧ w.heap.size + 1 + 1 < W.heap.size ∧ Below w.heap.size w W) (Q := fun W => Exit.then _ _ _ _ W) hS ?_
  clear hS HS
  intro W hS
  have HS := Lib.hid hS
  obtain ⟨a0, a1, a2, a3, a4, a5, a6, b0, b1, b2, b3, b4, b5, b6, c0, c1, c2, c3, c4, c5, c6, hg⟩ := hS
  go_wp2_with fail
  go_at_call 11
  refine (HI.out _ hg).mono ?_
  rintro e W' ⟨rfl, hb1⟩
  replace HS := Lib.hid (keep3 hb1 HS.out (Nat.le_refl _))
  clear hb1 a0 a1 a2 a3 a4 a5 a6 b0 b1 b2 b3 b4 b5 b6 c0 c1 c2 c3 c4 c5 c6 hg
  obtain ⟨a0, a1, a2, a3, a4, a5, a6, b0, b1, b2, b3, b4, b5, b6, c0, c1, c2, c3, c4, c5, c6, hg⟩ := HS.out
  go_wp2_with fail
  go_at_call 10
  refine (HJ.out _ hg).mono ?_
  rintro e W2 ⟨rfl, hb1⟩
  replace HS := Lib.hid (keep3 hb1 HS.out (Nat.le_refl _))
  clear hb1 a0 a1 a2 a3 a4 a5 a6 b0 b1 b2 b3 b4 b5 b6 c0 c1 c2 c3 c4 c5 c6 hg
  obtain ⟨a0, a1, a2, a3, a4, a5, a6, b0, b1, b2, b3, b4, b5, b6, c0, c1, c2, c3, c4, c5, c6, hg⟩ := HS.out
  go_wp2_with fail
  go_at_call 32
  refine (HT.out _ hg).mono ?_
  rintro e W3 ⟨rfl, rfl⟩
  have hgg := hg.size
  have hcc := c6
  clear a0 a1 a2 a3 a4 a5 a6 b0 b1 b2 b3 b4 b5 b6 c0 c1 c2 c3 c4 c5 c6 hg
  go_upto_region 7 with fail
  replace HS := Lib.hid (new4 (z0 := .int .u64 (r0 : Int)) (z1 := .int .u64 (r1 : Int)) (z2 := .int .u64 (r2 : Int)) (Nat.le_refl _) HS.out)
  generalize W2.alloc (Obj.cells #[.int .u64 (r0 : Int), .int .u64 (r1 : Int), .int .u64 (r2 : Int)] 24) = W4 at HS ⊢
  generalize W2.heap.size = g at HS hgg hcc ⊢
  have n1 : ¬ g = w.heap.size := by omega
  have n2 : ¬ g = w.heap.size + 1 := by omega
  have n3 : ¬ g = w.heap.size + 1 + 1 := by omega
  have n4 : ¬ w.heap.size = g := by omega
  have n5 : ¬ w.heap.size + 1 = g := by omega
  have n6 : ¬ w.heap.size + 1 + 1 = g := by omega
  obtain ⟨ka0, ka1, ka2, ka3, ka4, ka5, ka6, kb0, kb1, kb2, kb3, kb4, kb5, kb6, kc0, kc1, kc2, kc3, kc4, kc5, kc6, kd0, kd1, kd2, kd3, kd4, kd5, kd6, hg⟩ := HS.out
  clear HS
  go_wp2
  refine bodyPost_ret (v := sv r0 x1 r2) (by simp [results, Tryd.results16, go_sem, *]) rfl ⟨rfl, hg.trans ?_⟩
  go_grown
set_option maxRecDepth 100000 in
set_option maxHeartbeats 4000000 in
theorem wid_11 (s l h t m k : Nat) (wd : Int) (w : World) (uh : U h) (uk : U k) (ha : Rt ⟨s, l, h⟩) (hb : Rt ⟨t, m, k⟩) (hn : (⟨s, l, h⟩ : St) ≠ noneS) (r0 r1 r2 top : Nat) (u0 : r0 ≤ 18446744073709551615) (u1 : r1 ≤ 18446744073709551615) (u2 : r2 ≤ 18446744073709551615) (ut : top ≤ 18446744073709551615) (q1 : r1 < l) (q2 : h < r2) (q3 : ¬ r2 ≤ top) (hp : 0 < r0) (HI : Hid (∀ W, Below w.heap.size w W → Calls Tryd.prog 11 #[sv t m k, sv s l h] W fun e w2 => e = .returned (.bool false) ∧ Below W.heap.size W w2)) (HJ : Hid (∀ W, Below w.heap.size w W → Calls Tryd.prog 10 #[sv s l h, sv t m k] W fun e w2 => e = .returned (sv r0 r1 r2) ∧ Below W.heap.size W w2)) (HT : Hid (∀ W, Below w.heap.size w W → Calls Tryd.prog 32 #[.int .i64 wd] W fun e w2 => e = .returned (.int .u64 (top : Nat)) ∧ W = w2)) :
    Calls Tryd.prog 16 #[sv s l h, sv t m k, .int .i64 wd] w fun e w' => e = .returned (sv r0 (r1 % r0) r2) ∧ Below w.heap.size w w' := by
  have q := eq3_some s l h hn
  clear hn
  have v1 : (r1 : Int) ≤ 18446744073709551615 := by omega
  have v2 : (r2 : Int) ≤ 18446744073709551615 := by omega
  have vt : (top : Int) ≤ 18446744073709551615 := by omega
  have v0 : (1 : Int) ≤ r0 := by omega
  have e1 : (r1 : Int) % r0 = ((r1 % r0 : Nat) : Int) := by simp
  generalize r1 % r0 = x1 at e1 ⊢
  have k1 := ((Slot3.new w (.int .u64 (s : Int)) (.int .u64 (l : Int)) (.int .u64 (h : Int)) 24).alloc (sb t m k)).alloc (z3)
  have k2 := (Slot3.new (w.alloc (sb s l h)) (.int .u64 (t : Int)) (.int .u64 (m : Int)) (.int .u64 (k : Int)) 24).alloc (z3)
  have k3 := Slot3.new ((w.alloc (sb s l h)).alloc (sb t m k)) (.int .u64 0) (.int .u64 0) (.int .u64 0) 24
  have hb0 : Below w.heap.size w (((w.alloc (sb s l h)).alloc (sb t m k)).alloc (z3)) := (((Below.refl _ _).alloc (Nat.le_refl _) _).alloc (by simp) _).alloc (by simp; omega) _
  have HS := Lib.hid (mk3 k1.drew k2.drew k3.drew hb0.drew)
  simp only [World.size_alloc] at HS
  clear k1 k2 k3 hb0
  go_enter Tryd.func16, Tryd.ntmps16
  go_wp2
  go_region_held3 (fun W => W.cell? ⟨w.heap.size, 0, none⟩ = some (.int .u64 (s : Int)) ∧ W.cell? ⟨w.heap.size, 1, none⟩ = some (.int .u64 (l : Int)) ∧ W.cell? ⟨w.heap.size, 2, none⟩ = some (.int .u64 (h : Int)) ∧ W.frozen? ⟨w.heap.size, 0, none⟩ = false ∧ W.frozen? ⟨w.heap.size, 1, none⟩ = false ∧ W.frozen? ⟨w.heap.size, 2, none⟩ = false ∧ w.heap.size < W.heap.size ∧ W.cell? ⟨w.heap.size + 1, 0, none⟩ = some (.int .u64 (t : Int)) ∧ W.cell? ⟨w.heap.size + 1, 1, none⟩ = some (.int .u64 (m : Int)) ∧ W.cell? ⟨w.heap.size + 1, 2, none⟩ = some (.int .u64 (k : Int)) ∧ W.frozen? ⟨w.heap.size + 1, 0, none⟩ = false ∧ W.frozen? ⟨w.heap.size + 1, 1, none⟩ = false ∧ W.frozen? ⟨w.heap.size + 1, 2, none⟩ = false ∧ w.heap.size + 1 < W.heap.size ∧ W.cell? ⟨w.heap.size + 1 + 1, 0, none⟩ = some (.int .u64 (0 : Int)) ∧ W.cell? ⟨w.heap.size + 1 + 1, 1, none⟩ = some (.int .u64 (0 : Int)) ∧ W.cell? ⟨w.heap.size + 1 + 1, 2, none⟩ = some (.int .u64 (0 : Int)) ∧ W.frozen? ⟨w.heap.size + 1 + 1, 0, none⟩ = false ∧ W.frozen? ⟨w.heap.size + 1 + 1, 1, none⟩ = false ∧ W.frozen? ⟨w.heap.size + 1 + 1, 2, none⟩ = false ∧ w.heap.size + 1 + 1 < W.heap.size ∧ Below w.heap.size w W)
    (first | (with_reducible assumption) | (with_reducible exact HS.out) | (with_reducible exact drew3 HS.out) | (with_reducible exact st3b (by assumption)) | (with_reducible exact st3c (by assumption)) | (with_reducible exact keep3 (by assumption) (by assumption) (Nat.le_refl _)) | fail)
    (first | (go_at_call 27; ((with_reducible refine (held_rt _ _ _ uh ha _).mono ?_); rintro e w1 ⟨rfl, hb1⟩)) | (go_at_call 27; ((with_reducible refine (held_rt _ _ _ uk hb _).mono ?_); rintro e w1 ⟨rfl, hb1⟩)))
  rename_i hS
  refine anyW (P := fun W => W.cell? ⟨w.heap.size, 0, none⟩ = some (.int .u64 (s : Int)) ∧ W.cell? ⟨w.heap.size, 1, none⟩ = some (.int .u64 (l : Int)) ∧ W.cell? ⟨w.heap.size, 2, none⟩ = some (.int .u64 (h : Int)) ∧ W.frozen? ⟨w.heap.size, 0, none⟩ = false ∧ W.frozen? ⟨w.heap.size, 1, none⟩ = false ∧ W.frozen? ⟨w.heap.size, 2, none⟩ = false ∧ w.heap.size < W.heap.size ∧ W.cell? ⟨w.heap.size + 1, 0, none⟩ = some (.int .u64 (t : Int)) ∧ W.cell? ⟨w.heap.size + 1, 1, none⟩ = some (.int .u64 (m : Int)) ∧ W.cell? ⟨w.heap.size + 1, 2, none⟩ = some (.int .u64 (k : Int)) ∧ W.frozen? ⟨w.heap.size + 1, 0, none⟩ = false ∧ W.frozen? ⟨w.heap.size + 1, 1, none⟩ = false ∧ W.frozen? ⟨w.heap.size + 1, 2, none⟩ = false ∧ w.heap.size + 1 < W.heap.size ∧ W.cell? ⟨w.heap.size + 1 + 1, 0, none⟩ = some (.int .u64 (0 : Int)) ∧ W.cell? ⟨w.heap.size + 1 + 1, 1, none⟩ = some (.int .u64 (0 : Int)) ∧ W.cell? ⟨w.heap.size + 1 + 1, 2, none⟩ = some (.int .u64 (0 : Int)) ∧ W.frozen? ⟨w.heap.size + 1 + 1, 0, none⟩ = false ∧ W.frozen? ⟨w.heap.size + 1 + 1, 1, none⟩ = false ∧ W.frozen? ⟨w.heap.size + 1 + 1, 2, none⟩ = false ∧ w.heap.size + 1 + 1 < W.heap.size ∧ Below w.heap.size w W) (Q := fun W => Exit.then _ _ _ _ W) hS ?_
  clear hS HS
  intro W hS
  have HS := Lib.hid hS
  obtain ⟨a0, a1, a2, a3, a4, a5, a6, b0, b1, b2, b3, b4, b5, b6, c0, c1, c2, c3, c4, c5, c6, hg⟩ := hS
  go_wp2
  go_region_held3 (fun W => W.cell? ⟨w.heap.size, 0, none⟩ = some (.int .u64 (s : Int)) ∧ W.cell? ⟨w.heap.size, 1, none⟩ = some (.int .u64 (l : Int)) ∧ W.cell? ⟨w.heap.size, 2, none⟩ = some (.int .u64 (h : Int)) ∧ W.frozen? ⟨w.heap.size, 0, none⟩ = false ∧ W.frozen? ⟨w.heap.size, 1, none⟩ = false ∧ W.frozen? ⟨w.heap.size, 2, none⟩ = false ∧ w.heap.size < W.heap.size ∧ W.cell? ⟨w.heap.size + 1, 0, none⟩ = some (.int .u64 (t : Int)) ∧ W.cell? ⟨w.heap.size + 1, 1, none⟩ = some (.int .u64 (m : Int)) ∧ W.cell? ⟨w.heap.size + 1, 2, none⟩ = some (.int .u64 (k : Int)) ∧ W.frozen? ⟨w.heap.size + 1, 0, none⟩ = false ∧ W.frozen? ⟨w.heap.size + 1, 1, none⟩ = false ∧ W.frozen? ⟨w.heap.size + 1, 2, none⟩ = false ∧ w.heap.size + 1 < W.heap.size ∧ W.cell? ⟨w.heap.size + 1 + 1, 0, none⟩ = some (.int .u64 (0 : Int)) ∧ W.cell? ⟨w.heap.size + 1 + 1, 1, none⟩ = some (.int .u64 (0 : Int)) ∧ W.cell? ⟨w.heap.size + 1 + 1, 2, none⟩ = some (.int .u64 (0 : Int)) ∧ W.frozen? ⟨w.heap.size + 1 + 1, 0, none⟩ = false ∧ W.frozen? ⟨w.heap.size + 1 + 1, 1, none⟩ = false ∧ W.frozen? ⟨w.heap.size + 1 + 1, 2, none⟩ = false ∧ w.heap.size + 1 + 1 < W.heap.size ∧ Below w.heap.size w W)
    (first | (with_reducible assumption) | (with_reducible exact HS.out) | (with_reducible exact drew3 HS.out) | (with_reducible exact st3b (by assumption)) | (with_reducible exact st3c (by assumption)) | (with_reducible exact keep3 (by assumption) (by assumption) (Nat.le_refl _)) | fail)
    (first | (go_at_call 26; ((with_reducible refine (none_any _).mono ?_); rintro e w1 ⟨rfl, hb1⟩)))
  clear a0 a1 a2 a3 a4 a5 a6 b0 b1 b2 b3 b4 b5 b6 c0 c1 c2 c3 c4 c5 c6 hg
  rename_i hS
  refine anyW (P := fun W => W.cell? ⟨w.heap.size, 0, none⟩ = some (.int .u64 (s : Int)) ∧ W.cell? ⟨w.heap.size, 1, none⟩ = some (.int .u64 (l : Int)) ∧ W.cell? ⟨w.heap.size, 2, none⟩ = some (.int .u64 (h : Int)) ∧ W.frozen? ⟨w.heap.size, 0, none⟩ = false ∧ W.frozen? ⟨w.heap.size, 1, none⟩ = false ∧ W.frozen? ⟨w.heap.size, 2, none⟩ = false ∧ w.heap.size < W.heap.size ∧ W.cell? ⟨w.heap.size + 1, 0, none⟩ = some (.int .u64 (t : Int)) ∧ W.cell? ⟨w.heap.size + 1, 1, none⟩ = some (.int .u64 (m : Int)) ∧ W.cell? ⟨w.heap.size + 1, 2, none⟩ = some (.int .u64 (k : Int)) ∧ W.frozen? ⟨w.heap.size + 1, 0, none⟩ = false ∧ W.frozen? ⟨w.heap.size + 1, 1, none⟩ = false ∧ W.frozen? ⟨w.heap.size + 1, 2, none⟩ = false ∧ w.heap.size + 1 < W.heap.size ∧ W.cell? ⟨w.heap.size + 1 + 1, 0, none⟩ = some (.int .u64 (0 : Int)) ∧ W.cell? ⟨w.heap.size + 1 + 1, 1, none⟩ = some (.int .u64 (0 : Int)) ∧ W.cell? ⟨w.heap.size + 1 + 1, 2, none⟩ = some (.int .u64 (0 : Int)) ∧ W.frozen? ⟨w.heap.size + 1 + 1, 0, none⟩ = false ∧ W.frozen? ⟨w.heap.size + 1 + 1, 1, none⟩ = false ∧ W.frozen? ⟨w.heap.size + 1 + 1, 2, none⟩ = false ∧ w.heap.size + 1 + 1 < W.heap.size ∧ Below w.heap.size w W) (Q := fun W => Exit.then _ _ _ _ W) hS ?_
  clear hS HS
  intro W hS
  have HS := Lib.hid hS
  obtain ⟨a0, a1, a2, a3, a4, a5, a6, b0, b1, b2, b3, b4, b5, b6, c0, c1, c2, c3, c4, c5, c6, hg⟩ := hS
  go_wp2_with fail
  go_at_call 11
  refine (HI.out _ hg).mono ?_
  rintro e W' ⟨rfl, hb1⟩
  replace HS := Lib.hid (keep3 hb1 HS.out (Nat.le_refl _))
  clear hb1 a0 a1 a2 a3 a4 a5 a6 b0 b1 b2 b3 b4 b5 b6 c0 c1 c2 c3 c4 c5 c6 hg
  obtain ⟨a0, a1, a2, a3, a4, a5, a6, b0, b1, b2, b3, b4, b5, b6, c0, c1, c2, c3, c4, c5, c6, hg⟩ := HS.out
  go_wp2_with fail
  go_at_call 10
  refine (HJ.out _ hg).mono ?_
  rintro e W2 ⟨rfl, hb1⟩
  replace HS := Lib.hid (keep3 hb1 HS.out (Nat.le_refl _))
  clear hb1 a0 a1 a2 a3 a4 a5 a6 b0 b1 b2 b3 b4 b5 b6 c0 c1 c2 c3 c4 c5 c6 hg
  obtain ⟨a0, a1, a2, a3, a4, a5, a6, b0, b1, b2, b3, b4, b5, b6, c0, c1, c2, c3, c4, c5, c6, hg⟩ := HS.out
  go_wp2_with fail
  go_at_call 32
  refine (HT.out _ hg).mono ?_
  rintro e W3 ⟨rfl, rfl⟩
  have hgg := hg.size
  have hcc := c6
  clear a0 a1 a2 a3 a4 a5 a6 b0 b1 b2 b3 b4 b5 b6 c0 c1 c2 c3 c4 c5 c6 hg
  go_upto_region 7 with fail
  replace HS := Lib.hid (new4 (z0 := .int .u64 (r0 : Int)) (z1 := .int .u64 (r1 : Int)) (z2 := .int .u64 (r2 : Int)) (Nat.le_refl _) HS.out)
  generalize W2.alloc (Obj.cells #[.int .u64 (r0 : Int), .int .u64 (r1 : Int), .int .u64 (r2 : Int)] 24) = W4 at HS ⊢
  generalize W2.heap.size = g at HS hgg hcc ⊢
  have n1 : ¬ g = w.heap.size := by omega
  have n2 : ¬ g = w.heap.size + 1 := by omega
  have n3 : ¬ g = w.heap.size + 1 + 1 := by omega
  have n4 : ¬ w.heap.size = g := by omega
  have n5 : ¬ w.heap.size + 1 = g := by omega
  have n6 : ¬ w.heap.size + 1 + 1 = g := by omega
  obtain ⟨ka0, ka1, ka2, ka3, ka4, ka5, ka6, kb0, kb1, kb2, kb3, kb4, kb5, kb6, kc0, kc1, kc2, kc3, kc4, kc5, kc6, kd0, kd1, kd2, kd3, kd4, kd5, kd6, hg⟩ := HS.out
  clear HS
  go_wp2
  refine bodyPost_ret (v := sv r0 x1 r2) (by simp [results, Tryd.results16, go_sem, *]) rfl ⟨rfl, hg.trans ?_⟩
  go_grown
set_option maxRecDepth 100000 in
set_option maxHeartbeats 4000000 in
theorem wid_12 (s l h t m k : Nat) (wd : Int) (w : World) (uh : U h) (uk : U k) (ha : Rt ⟨s, l, h⟩) (hb : Rt ⟨t, m, k⟩) (hn : (⟨s, l, h⟩ : St) ≠ noneS) (r0 r1 r2 top : Nat) (u0 : r0 ≤ 18446744073709551615) (u1 : r1 ≤ 18446744073709551615) (u2 : r2 ≤ 18446744073709551615) (ut : top ≤ 18446744073709551615) (q1 : r1 < l) (q2 : h < r2) (q3 : r2 ≤ top) (hp : 0 < r0) (HI : Hid (∀ W, Below w.heap.size w W → Calls Tryd.prog 11 #[sv t m k, sv s l h] W fun e w2 => e = .returned (.bool false) ∧ Below W.heap.size W w2)) (HJ : Hid (∀ W, Below w.heap.size w W → Calls Tryd.prog 10 #[sv s l h, sv t m k] W fun e w2 => e = .returned (sv r0 r1 r2) ∧ Below W.heap.size W w2)) (HT : Hid (∀ W, Below w.heap.size w W → Calls Tryd.prog 32 #[.int .i64 wd] W fun e w2 => e = .returned (.int .u64 (top : Nat)) ∧ W = w2)) :
    Calls Tryd.prog 16 #[sv s l h, sv t m k, .int .i64 wd] w fun e w' => e = .returned (sv r0 (r1 % r0) (top - (top - r2) % r0)) ∧ Below w.heap.size w w' := by
  have q := eq3_some s l h hn
  clear hn
  have v1 : (r1 : Int) ≤ 18446744073709551615 := by omega
  have v2 : (r2 : Int) ≤ 18446744073709551615 := by omega
  have vt : (top : Int) ≤ 18446744073709551615 := by omega
  have v0 : (1 : Int) ≤ r0 := by omega
  have e1 : (r1 : Int) % r0 = ((r1 % r0 : Nat) : Int) := by simp
  generalize r1 % r0 = x1 at e1 ⊢
  have e2 : ((top : Int) - r2) % r0 = (((top - r2) % r0 : Nat) : Int) := by rw [show (top : Int) - r2 = ((top - r2 : Nat) : Int) by omega]; simp
  have le2 : (top - r2) % r0 ≤ top := Nat.le_trans (Nat.mod_le _ _) (Nat.sub_le _ _)
  generalize (top - r2) % r0 = x2 at e2 le2 ⊢
  have e3 : (top : Int) - x2 = ((top - x2 : Nat) : Int) := by omega
  have k1 := ((Slot3.new w (.int .u64 (s : Int)) (.int .u64 (l : Int)) (.int .u64 (h : Int)) 24).alloc (sb t m k)).alloc (z3)
  have k2 := (Slot3.new (w.alloc (sb s l h)) (.int .u64 (t : Int)) (.int .u64 (m : Int)) (.int .u64 (k : Int)) 24).alloc (z3)
  have k3 := Slot3.new ((w.alloc (sb s l h)).alloc (sb t m k)) (.int .u64 0) (.int .u64 0) (.int .u64 0) 24
  have hb0 : Below w.heap.size w (((w.alloc (sb s l h)).alloc (sb t m k)).alloc (z3)) := (((Below.refl _ _).alloc (Nat.le_refl _) _).alloc (by simp) _).alloc (by simp; omega) _
  have HS := Lib.hid (mk3 k1.drew k2.drew k3.drew hb0.drew)
  simp only [World.size_alloc] at HS
  clear k1 k2 k3 hb0
  go_enter Tryd.func16, Tryd.ntmps16
  go_wp2
  go_region_held3 (fun W => W.cell? ⟨w.heap.size, 0, none⟩ = some (.int .u64 (s : Int)) ∧ W.cell? ⟨w.heap.size, 1, none⟩ = some (.int .u64 (l : Int)) ∧ W.cell? ⟨w.heap.size, 2, none⟩ = some (.int .u64 (h : Int)) ∧ W.frozen? ⟨w.heap.size, 0, none⟩ = false ∧ W.frozen? ⟨w.heap.size, 1, none⟩ = false ∧ W.frozen? ⟨w.heap.size, 2, none⟩ = false ∧ w.heap.size < W.heap.size ∧ W.cell? ⟨w.heap.size + 1, 0, none⟩ = some (.int .u64 (t : Int)) ∧ W.cell? ⟨w.heap.size + 1, 1, none⟩ = some (.int .u64 (m : Int)) ∧ W.cell? ⟨w.heap.size + 1, 2, none⟩ = some (.int .u64 (k : Int)) ∧ W.frozen? ⟨w.heap.size + 1, 0, none⟩ = false ∧ W.frozen? ⟨w.heap.size + 1, 1, none⟩ = false ∧ W.frozen? ⟨w.heap.size + 1, 2, none⟩ = false ∧ w.heap.size + 1 < W.heap.size ∧ W.cell? ⟨w.heap.size + 1 + 1, 0, none⟩ = some (.int .u64 (0 : Int)) ∧ W.cell? ⟨w.heap.size + 1 + 1, 1, none⟩ = some (.int .u64 (0 : Int)) ∧ W.cell? ⟨w.heap.size + 1 + 1, 2, none⟩ = some (.int .u64 (0 : Int)) ∧ W.frozen? ⟨w.heap.size + 1 + 1, 0, none⟩ = false ∧ W.frozen? ⟨w.heap.size + 1 + 1, 1, none⟩ = false ∧ W.frozen? ⟨w.heap.size + 1 + 1, 2, none⟩ = false ∧ w.heap.size + 1 + 1 < W.heap.size ∧ Below w.heap.size w W)
    (first | (with_reducible assumption) | (with_reducible exact HS.out) | (with_reducible exact drew3 HS.out) | (with_reducible exact st3b (by assumption)) | (with_reducible exact st3c (by assumption)) | (with_reducible exact keep3 (by assumption) (by assumption) (Nat.le_refl _)) | fail)
    (first | (go_at_call 27; ((with_reducible refine (held_rt _ _ _ uh ha _).mono ?_); rintro e w1 ⟨rfl, hb1⟩)) | (go_at_call 27; ((with_reducible refine (held_rt _ _ _ uk hb _).mono ?_); rintro e w1 ⟨rfl, hb1⟩)))
  rename_i hS
  refine anyW (P := fun W => W.cell? ⟨w.heap.size, 0, none⟩ = some (.int .u64 (s : Int)) ∧ W.cell? ⟨w.heap.size, 1, none⟩ = some (.int .u64 (l : Int)) ∧ W.cell? ⟨w.heap.size, 2, none⟩ = some (.int .u64 (h : Int)) ∧ W.frozen? ⟨w.heap.size, 0, none⟩ = false ∧ W.frozen? ⟨w.heap.size, 1, none⟩ = false ∧ W.frozen? ⟨w.heap.size, 2, none⟩ = false ∧ w.heap.size < W.heap.size ∧ W.cell? ⟨w.heap.size + 1, 0, none⟩ = some (.int .u64 (t : Int)) ∧ W.cell? ⟨w.heap.size + 1, 1, none⟩ = some (.int .u64 (m : Int)) ∧ W.cell? ⟨w.heap.size + 1, 2, none⟩ = some (.int .u64 (k : Int)) ∧ W.frozen? ⟨w.heap.size + 1, 0, none⟩ = false ∧ W.frozen? ⟨w.heap.size + 1, 1, none⟩ = false ∧ W.frozen? ⟨w.heap.size + 1, 2, none⟩ = false ∧ w.heap.size + 1 < W.heap.size ∧ W.cell? ⟨w.heap.size + 1 + 1, 0, none⟩ = some (.int .u64 (0 : Int)) ∧ W.cell? ⟨w.heap.size + 1 + 1, 1, none⟩ = some (.int .u64 (0 : Int)) ∧ W.cell? ⟨w.heap.size + 1 + 1, 2, none⟩ = some (.int .u64 (0 : Int)) ∧ W.frozen? ⟨w.heap.size + 1 + 1, 0, none⟩ = false ∧ W.frozen? ⟨w.heap.size + 1 + 1, 1, none⟩ = false ∧ W.frozen? ⟨w.heap.size + 1 + 1, 2, none⟩ = false ∧ w.heap.size + 1 + 1 < W.heap.size ∧ Below w.heap.size w W) (Q := fun W => Exit.then _ _ _ _ W) hS ?_
  clear hS HS
  intro W hS
  have HS := Lib.hid hS
  obtain ⟨a0, a1, a2, a3, a4, a5, a6, b0, b1, b2, b3, b4, b5, b6, c0, c1, c2, c3, c4, c5, c6, hg⟩ := hS
  go_wp2
  go_region_held3 (fun W => W.cell? ⟨w.heap.size, 0, none⟩ = some (.int .u64 (s : Int)) ∧ W.cell? ⟨w.heap.size, 1, none⟩ = some (.int .u64 (l : Int)) ∧ W.cell? ⟨w.heap.size, 2, none⟩ = some (.int .u64 (h : Int)) ∧ W.frozen? ⟨w.heap.size, 0, none⟩ = false ∧ W.frozen? ⟨w.heap.size, 1, none⟩ = false ∧ W.frozen? ⟨w.heap.size, 2, none⟩ = false ∧ w.heap.size < W.heap.size ∧ W.cell? ⟨w.heap.size + 1, 0, none⟩ = some (.int .u64 (t : Int)) ∧ W.cell? ⟨w.heap.size + 1, 1, none⟩ = some (.int .u64 (m : Int)) ∧ W.cell? ⟨w.heap.size + 1, 2, none⟩ = some (.int .u64 (k : Int)) ∧ W.frozen? ⟨w.heap.size + 1, 0, none⟩ = false ∧ W.frozen? ⟨w.heap.size + 1, 1, none⟩ = false ∧ W.frozen? ⟨w.heap.size + 1, 2, none⟩ = false ∧ w.heap.size + 1 < W.heap.size ∧ W.cell? ⟨w.heap.size + 1 + 1, 0, none⟩ = some (.int .u64 (0 : Int)) ∧ W.cell? ⟨w.heap.size + 1 + 1, 1, none⟩ = some (.int .u64 (0 : Int)) ∧ W.cell? ⟨w.heap.size + 1 + 1, 2, none⟩ = some (.int .u64 (0 : Int)) ∧ W.frozen? ⟨w.heap.size + 1 + 1, 0, none⟩ = false ∧ W.frozen? ⟨w.heap.size + 1 + 1, 1, none⟩ = false ∧ W.frozen? ⟨w.heap.size + 1 + 1, 2, none⟩ = false ∧ w.heap.size + 1 + 1 < W.heap.size ∧ Below w.heap.size w W)
    (first | (with_reducible assumption) | (with_reducible exact HS.out) | (with_reducible exact drew3 HS.out) | (with_reducible exact st3b (by assumption)) | (with_reducible exact st3c (by assumption)) | (with_reducible exact keep3 (by assumption) (by assumption) (Nat.le_refl _)) | fail)
    (first | (go_at_call 26; ((with_reducible refine (none_any _).mono ?_); rintro e w1 ⟨rfl, hb1⟩)))
  clear a0 a1 a2 a3 a4 a5 a6 b0 b1 b2 b3 b4 b5 b6 c0 c1 c2 c3 c4 c5 c6 hg
  rename_i hS
  refine anyW (P := fun W => W.cell? ⟨w.heap.size, 0, none⟩ = some (.int .u64 (s : Int)) ∧ W.cell? ⟨w.heap.size, 1, none⟩ = some (.int .u64 (l : Int)) ∧ W.cell? ⟨w.heap.size, 2, none⟩ = some (.int .u64 (h : Int)) ∧ W.frozen? ⟨w.heap.size, 0, none⟩ = false ∧ W.frozen? ⟨w.heap.size, 1, none⟩ = false ∧ W.frozen? ⟨w.heap.size, 2, none⟩ = false ∧ w.heap.size < W.heap.size ∧ W.cell? ⟨w.heap.size + 1, 0, none⟩ = some (.int .u64 (t : Int)) ∧ W.cell? ⟨w.heap.size + 1, 1, none⟩ = some (.int .u64 (m : Int)) ∧ W.cell? ⟨w.heap.size + 1, 2, none⟩ = some (.int .u64 (k : Int)) ∧ W.frozen? ⟨w.heap.size + 1, 0, none⟩ = false ∧ W.frozen? ⟨w.heap.size + 1, 1, none⟩ = false ∧ W.frozen? ⟨w.heap.size + 1, 2, none⟩ = false ∧ w.heap.size + 1 < W.heap.size ∧ W.cell? ⟨w.heap.size + 1 + 1, 0, none⟩ = some (.int .u64 (0 : Int)) ∧ W.cell? ⟨w.heap.size + 1 + 1, 1, none⟩ = some (.int .u64 (0 : Int)) ∧ W.cell? ⟨w.heap.size + 1 + 1, 2, none⟩ = some (.int .u64 (0 : Int)) ∧ W.frozen? ⟨w.heap.size + 1 + 1, 0, none⟩ = false ∧ W.frozen? ⟨w.heap.size + 1 + 1, 1, none⟩ = false ∧ W.frozen? ⟨w.heap.size + 1 + 1, 2, none⟩ = false ∧ w.heap.size + 1 + 1 < W.heap.size ∧ Below w.heap.size w W) (Q := fun W => Exit.then _ _ _ _ W) hS ?_
  clear hS HS
  intro W hS
  have HS := Lib.hid hS
  obtain ⟨a0, a1, a2, a3, a4, a5, a6, b0, b1, b2, b3, b4, b5, b6, c0, c1, c2, c3, c4, c5, c6, hg⟩ := hS
  go_wp2_with fail
  go_at_call 11
  refine (HI.out _ hg).mono ?_
  rintro e W' ⟨rfl, hb1⟩
  replace HS := Lib.hid (keep3 hb1 HS.out (Nat.le_refl _))
  clear hb1 a0 a1 a2 a3 a4 a5 a6 b0 b1 b2 b3 b4 b5 b6 c0 c1 c2 c3 c4 c5 c6 hg
  obtain ⟨a0, a1, a2, a3, a4, a5, a6, b0, b1, b2, b3, b4, b5, b6, c0, c1, c2, c3, c4, c5, c6, hg⟩ := HS.out
  go_wp2_with fail
  go_at_call 10
  refine (HJ.out _ hg).mono ?_
  rintro e W2 ⟨rfl, hb1⟩
  replace HS := Lib.hid (keep3 hb1 HS.out (Nat.le_refl _))
  clear hb1 a0 a1 a2 a3 a4 a5 a6 b0 b1 b2 b3 b4 b5 b6 c0 c1 c2 c3 c4 c5 c6 hg
  obtain ⟨a0, a1, a2, a3, a4, a5, a6, b0, b1, b2, b3, b4, b5, b6, c0, c1, c2, c3, c4, c5, c6, hg⟩ := HS.out
  go_wp2_with fail
  go_at_call 32
  refine (HT.out _ hg).mono ?_
  rintro e W3 ⟨rfl, rfl⟩
  have hgg := hg.size
  have hcc := c6
  clear a0 a1 a2 a3 a4 a5 a6 b0 b1 b2 b3 b4 b5 b6 c0 c1 c2 c3 c4 c5 c6 hg
  go_upto_region 7 with fail
  replace HS := Lib.hid (new4 (z0 := .int .u64 (r0 : Int)) (z1 := .int .u64 (r1 : Int)) (z2 := .int .u64 (r2 : Int)) (Nat.le_refl _) HS.out)
  generalize W2.alloc (Obj.cells #[.int .u64 (r0 : Int), .int .u64 (r1 : Int), .int .u64 (r2 : Int)] 24) = W4 at HS ⊢
  generalize W2.heap.size = g at HS hgg hcc ⊢
  have n1 : ¬ g = w.heap.size := by omega
  have n2 : ¬ g = w.heap.size + 1 := by omega
  have n3 : ¬ g = w.heap.size + 1 + 1 := by omega
  have n4 : ¬ w.heap.size = g := by omega
  have n5 : ¬ w.heap.size + 1 = g := by omega
  have n6 : ¬ w.heap.size + 1 + 1 = g := by omega
  obtain ⟨ka0, ka1, ka2, ka3, ka4, ka5, ka6, kb0, kb1, kb2, kb3, kb4, kb5, kb6, kc0, kc1, kc2, kc3, kc4, kc5, kc6, kd0, kd1, kd2, kd3, kd4, kd5, kd6, hg⟩ := HS.out
  clear HS
  go_wp2
  refine bodyPost_ret (v := sv r0 x1 (top - x2)) (by simp [results, Tryd.results16, go_sem, *]) rfl ⟨rfl, hg.trans ?_⟩
  go_grown
end Go.Proofs.YtmlgaaolofgdiaaDoor
