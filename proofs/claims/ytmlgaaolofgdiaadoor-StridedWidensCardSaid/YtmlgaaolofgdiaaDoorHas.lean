/- strided.Has. -/
import Derived.Test.YtmlgaaolofgdiaaDoorRight
namespace Go.Proofs.YtmlgaaolofgdiaaDoor
open Go.RowKit SM
attribute [local go_sem ↓] Go.wp_at_zero Go.wp_at_succ
set_option maxHeartbeats 2000000 in
theorem has_lo (s l h x : Nat) (uh : U h) (ha : Rt ⟨s, l, h⟩) (hx : x < l) (w : World) :
    Calls Tryd.prog 9 #[sv s l h, .int .u64 x] w fun e w' => e = .returned (.bool false) ∧ Below w.heap.size w w' := by
  have k1 := Lib.hid (Slot3.new w (.int .u64 (s : Int)) (.int .u64 (l : Int)) (.int .u64 (h : Int)) 24)
  have hb0 : Below w.heap.size w (w.alloc (sb s l h)) := (Below.refl _ _).alloc (Nat.le_refl _) _
  go_enter Tryd.func9, Tryd.ntmps9
  go_wp2_with fail
  go_at_call 27
  refine (held_rt _ _ _ uh ha _).mono ?_
  rintro e w1 ⟨rfl, hb⟩
  obtain ⟨c0, c1, c2, f0, f1, f2, hz⟩ := k1.out.keep hb
  have hb2 := hb0.trans (hb.mono (by simp))
  clear k1 hb0 hb ha uh
  go_wp2_with fail
  go_ret
  refine ⟨rfl, hb2.trans ?_⟩
  go_grown
set_option maxHeartbeats 2000000 in
theorem has_hi (s l h x : Nat) (uh : U h) (ha : Rt ⟨s, l, h⟩) (hx : ¬ x < l) (hy : h < x) (w : World) :
    Calls Tryd.prog 9 #[sv s l h, .int .u64 x] w fun e w' => e = .returned (.bool false) ∧ Below w.heap.size w w' := by
  have k1 := Lib.hid (Slot3.new w (.int .u64 (s : Int)) (.int .u64 (l : Int)) (.int .u64 (h : Int)) 24)
  have hb0 : Below w.heap.size w (w.alloc (sb s l h)) := (Below.refl _ _).alloc (Nat.le_refl _) _
  go_enter Tryd.func9, Tryd.ntmps9
  go_wp2_with fail
  go_at_call 27
  refine (held_rt _ _ _ uh ha _).mono ?_
  rintro e w1 ⟨rfl, hb⟩
  obtain ⟨c0, c1, c2, f0, f1, f2, hz⟩ := k1.out.keep hb
  have hb2 := hb0.trans (hb.mono (by simp))
  clear k1 hb0 hb ha uh
  go_wp2_with fail
  go_ret
  refine ⟨rfl, hb2.trans ?_⟩
  go_grown
set_option maxHeartbeats 2000000 in
theorem has_in (s l h x : Nat) (uh : U h) (ha : Rt ⟨s, l, h⟩) (hx : ¬ x < l) (hy : ¬ h < x) (w : World) :
    Calls Tryd.prog 9 #[sv s l h, .int .u64 x] w fun e w' => e = .returned (.bool (decide (l = h ∨ (x - l) % s = 0))) ∧ Below w.heap.size w w' := by
  have k1 := Lib.hid (Slot3.new w (.int .u64 (s : Int)) (.int .u64 (l : Int)) (.int .u64 (h : Int)) 24)
  have hb0 : Below w.heap.size w (w.alloc (sb s l h)) := (Below.refl _ _).alloc (Nat.le_refl _) _
  by_cases hlh : l = h
  · subst hlh
    have hll : ((l : Int) == l) = true := by simp
    go_enter Tryd.func9, Tryd.ntmps9
    go_wp2_with fail
    go_at_call 27
    refine (held_rt _ _ _ uh ha _).mono ?_
    rintro e w1 ⟨rfl, hb⟩
    obtain ⟨c0, c1, c2, f0, f1, f2, hz⟩ := k1.out.keep hb
    have hb2 := hb0.trans (hb.mono (by simp))
    clear k1 hb0 hb ha uh
    go_wp2_with fail
    go_at_call 28
    refine (isOne_any _ _ _ _).mono ?_
    rintro e w3 ⟨rfl, hb3⟩
    go_wp2_with fail
    go_ret
    refine ⟨by simp, hb2.trans (Below.trans ?_ (hb3.mono (by simpa using Nat.le_of_lt hz)))⟩
    go_grown
  · have hll : ((l : Int) == h) = false := by simp; omega
    have hs : 0 < s := by
      rcases ha with ⟨_, h1⟩ | h1 | ⟨h0, _⟩
      · exact absurd h1 hlh
      · simp only [noneS, St.mk.injEq] at h1; omega
      · exact h0
    have h1 : ¬ (s : Int) ≤ 0 := by omega
    have h2 : (l : Int) ≤ x := by omega
    have u1 : (x : Int) ≤ 18446744073709551615 := by unfold U at uh; omega
    have h3 : (1 : Int) ≤ s := by omega
    have e1 : ((x : Int) - l) = ((x - l : Nat) : Int) := by omega
    have HE := Lib.hid e1
    clear e1
    go_enter Tryd.func9, Tryd.ntmps9
    go_wp2_with fail
    go_at_call 27
    refine (held_rt _ _ _ uh ha _).mono ?_
    rintro e w1 ⟨rfl, hb⟩
    have A := Lib.hid (k1.out.keep hb)
    obtain ⟨c0, c1, c2, f0, f1, f2, hz⟩ := k1.out.keep hb
    have hb2 := hb0.trans (hb.mono (by simp))
    clear k1 hb0 hb ha uh
    go_wp2_with fail
    go_at_call 28
    refine (isOne_any _ _ _ _).mono ?_
    rintro e w3 ⟨rfl, hb3⟩
    obtain ⟨d0, d1, d2, -, -, -, -⟩ := (A.out.put (.int .u64 (s : Int)) (.int .u64 (l : Int)) (.int .u64 (h : Int))).keep hb3
    go_wp2_with fail
    go_ret
    refine ⟨by simp [hlh, HE.out]; rw [← Int.natCast_emod, beq0], hb2.trans (Below.trans ?_ (hb3.mono (by simpa using Nat.le_of_lt hz)))⟩
    go_grown
theorem has_any (s l h x : Nat) (uh : U h) (ha : Rt ⟨s, l, h⟩) (w : World) :
    Calls Tryd.prog 9 #[sv s l h, .int .u64 x] w fun e w' => e = .returned (.bool (decide (hasP ⟨s, l, h⟩ x))) ∧ Below w.heap.size w w' := by
  by_cases hx : x < l
  · rw [decide_eq_false (by unfold hasP; dsimp only; omega)]; exact has_lo s l h x uh ha hx w
  · by_cases hy : h < x
    · rw [decide_eq_false (by unfold hasP; dsimp only; omega)]; exact has_hi s l h x uh ha hx hy w
    · have e : decide (hasP ⟨s, l, h⟩ x) = decide (l = h ∨ (x - l) % s = 0) := by
        rw [decide_eq_decide]; unfold hasP; dsimp only; omega
      rw [e]; exact has_in s l h x uh ha hx hy w
end Go.Proofs.YtmlgaaolofgdiaaDoor
