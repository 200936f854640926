/- The law StridedOrder, walked over what its calls answer. -/
import Derived.Test.YtmlgaaolofgdiaaDoorOrdB
import Derived.Deep.DeepCutAuto
namespace Go.Proofs.YtmlgaaolofgdiaaDoor
open Go.RowKit SM
set_option linter.unusedSimpArgs false
set_option linter.unusedVariables false
attribute [local go_sem ↓] Go.wp_at_zero Go.wp_at_succ
attribute [local go_sem ↓ high] eql_set neq_set
theorem rr_dec (s l h : Nat) (uh : U h) {B : Bool} (e : decide (Rt ⟨s, l, h⟩) = B) (w : World) :
    Calls Tryd.prog 6 #[sv s l h] w fun e w' => e = .returned (.bool B) ∧ Below w.heap.size w w' := by rw [← e]; exact rright_any s l h uh w
set_option maxHeartbeats 4000000 in
theorem order_out1 (s l h t m k p q r : Nat) (wd : Int) (w : World)
    (HR1 : Hid (∀ W, Calls Tryd.prog 6 #[sv s l h] W fun e w' => e = .returned (.bool false) ∧ Below W.heap.size W w'))
    (HW : Hid (∀ W, Below w.heap.size w W → Calls Tryd.prog 8 #[] W fun e w2 => e = .returned (.bool true) ∧ Below W.heap.size W w2)) :
    Calls Tryd.prog 5 #[sv s l h, sv t m k, sv p q r, .int .i64 wd] w fun e w' => e = .returned (.bool true) ∧ Below w.heap.size w w' := by
  have k1 := ((Slot3.new w (.int .u64 (s : Int)) (.int .u64 (l : Int)) (.int .u64 (h : Int)) 24).alloc (sb t m k)).alloc (sb p q r)
  have k2 := (Slot3.new (w.alloc (sb s l h)) (.int .u64 (t : Int)) (.int .u64 (m : Int)) (.int .u64 (k : Int)) 24).alloc (sb p q r)
  have k3 := Slot3.new ((w.alloc (sb s l h)).alloc (sb t m k)) (.int .u64 (p : Int)) (.int .u64 (q : Int)) (.int .u64 (r : Int)) 24
  have hb0 : Below w.heap.size w (((w.alloc (sb s l h)).alloc (sb t m k)).alloc (sb p q r)) := (((Below.refl _ _).alloc (Nat.le_refl _) _).alloc (by simp) _).alloc (by simp; omega) _
  simp only [World.size_alloc] at k2 k3
  have HS := Lib.hid (mk3 k1 k2 k3 hb0)
  clear k1 k2 k3 hb0
  go_enter Tryd.func5, Tryd.ntmps5
  go_wp2_with fail
  go_at_call 6
  refine (HR1.out _).mono ?_
  rintro e W' ⟨rfl, hb1⟩
  replace HS := Lib.hid (keep3 hb1 HS.out (Nat.le_refl _))
  clear hb1
  obtain ⟨ka0, ka1, ka2, ka3, ka4, ka5, ka6, kb0, kb1, kb2, kb3, kb4, kb5, kb6, kc0, kc1, kc2, kc3, kc4, kc5, kc6, hg⟩ := HS.out
  go_wp2_with fail
  go_at_call 8
  refine (HW.out _ hg).mono ?_
  rintro e W9 ⟨rfl, hb9⟩
  go_wp2_with fail
  go_ret
  exact ⟨rfl, hg.trans (hb9.mono hg.size)⟩
set_option maxHeartbeats 4000000 in
theorem order_out2 (s l h t m k p q r : Nat) (wd : Int) (w : World)
    (HR1 : Hid (∀ W, Calls Tryd.prog 6 #[sv s l h] W fun e w' => e = .returned (.bool true) ∧ Below W.heap.size W w'))
    (HR2 : Hid (∀ W, Calls Tryd.prog 6 #[sv t m k] W fun e w' => e = .returned (.bool false) ∧ Below W.heap.size W w'))
    (HW : Hid (∀ W, Below w.heap.size w W → Calls Tryd.prog 8 #[] W fun e w2 => e = .returned (.bool true) ∧ Below W.heap.size W w2)) :
    Calls Tryd.prog 5 #[sv s l h, sv t m k, sv p q r, .int .i64 wd] w fun e w' => e = .returned (.bool true) ∧ Below w.heap.size w w' := by
  have k1 := ((Slot3.new w (.int .u64 (s : Int)) (.int .u64 (l : Int)) (.int .u64 (h : Int)) 24).alloc (sb t m k)).alloc (sb p q r)
  have k2 := (Slot3.new (w.alloc (sb s l h)) (.int .u64 (t : Int)) (.int .u64 (m : Int)) (.int .u64 (k : Int)) 24).alloc (sb p q r)
  have k3 := Slot3.new ((w.alloc (sb s l h)).alloc (sb t m k)) (.int .u64 (p : Int)) (.int .u64 (q : Int)) (.int .u64 (r : Int)) 24
  have hb0 : Below w.heap.size w (((w.alloc (sb s l h)).alloc (sb t m k)).alloc (sb p q r)) := (((Below.refl _ _).alloc (Nat.le_refl _) _).alloc (by simp) _).alloc (by simp; omega) _
  simp only [World.size_alloc] at k2 k3
  have HS := Lib.hid (mk3 k1 k2 k3 hb0)
  clear k1 k2 k3 hb0
  go_enter Tryd.func5, Tryd.ntmps5
  go_wp2_with fail
  go_at_call 6
  refine (HR1.out _).mono ?_
  rintro e W' ⟨rfl, hb1⟩
  replace HS := Lib.hid (keep3 hb1 HS.out (Nat.le_refl _))
  clear hb1
  obtain ⟨ka0, ka1, ka2, ka3, ka4, ka5, ka6, kb0, kb1, kb2, kb3, kb4, kb5, kb6, kc0, kc1, kc2, kc3, kc4, kc5, kc6, hg⟩ := HS.out
  go_wp2_with fail
  go_at_call 6
  refine (HR2.out _).mono ?_
  rintro e W' ⟨rfl, hb1⟩
  replace HS := Lib.hid (keep3 hb1 HS.out (Nat.le_refl _))
  clear hb1 ka0 ka1 ka2 ka3 ka4 ka5 ka6 kb0 kb1 kb2 kb3 kb4 kb5 kb6 kc0 kc1 kc2 kc3 kc4 kc5 kc6 hg
  obtain ⟨ka0, ka1, ka2, ka3, ka4, ka5, ka6, kb0, kb1, kb2, kb3, kb4, kb5, kb6, kc0, kc1, kc2, kc3, kc4, kc5, kc6, hg⟩ := HS.out
  go_wp2_with fail
  go_at_call 8
  refine (HW.out _ hg).mono ?_
  rintro e W9 ⟨rfl, hb9⟩
  go_wp2_with fail
  go_ret
  exact ⟨rfl, hg.trans (hb9.mono hg.size)⟩
set_option maxHeartbeats 4000000 in
theorem order_out3 (s l h t m k p q r : Nat) (wd : Int) (w : World)
    (HR1 : Hid (∀ W, Calls Tryd.prog 6 #[sv s l h] W fun e w' => e = .returned (.bool true) ∧ Below W.heap.size W w'))
    (HR2 : Hid (∀ W, Calls Tryd.prog 6 #[sv t m k] W fun e w' => e = .returned (.bool true) ∧ Below W.heap.size W w'))
    (HR3 : Hid (∀ W, Calls Tryd.prog 6 #[sv p q r] W fun e w' => e = .returned (.bool false) ∧ Below W.heap.size W w'))
    (HW : Hid (∀ W, Below w.heap.size w W → Calls Tryd.prog 8 #[] W fun e w2 => e = .returned (.bool true) ∧ Below W.heap.size W w2)) :
    Calls Tryd.prog 5 #[sv s l h, sv t m k, sv p q r, .int .i64 wd] w fun e w' => e = .returned (.bool true) ∧ Below w.heap.size w w' := by
  have k1 := ((Slot3.new w (.int .u64 (s : Int)) (.int .u64 (l : Int)) (.int .u64 (h : Int)) 24).alloc (sb t m k)).alloc (sb p q r)
  have k2 := (Slot3.new (w.alloc (sb s l h)) (.int .u64 (t : Int)) (.int .u64 (m : Int)) (.int .u64 (k : Int)) 24).alloc (sb p q r)
  have k3 := Slot3.new ((w.alloc (sb s l h)).alloc (sb t m k)) (.int .u64 (p : Int)) (.int .u64 (q : Int)) (.int .u64 (r : Int)) 24
  have hb0 : Below w.heap.size w (((w.alloc (sb s l h)).alloc (sb t m k)).alloc (sb p q r)) := (((Below.refl _ _).alloc (Nat.le_refl _) _).alloc (by simp) _).alloc (by simp; omega) _
  simp only [World.size_alloc] at k2 k3
  have HS := Lib.hid (mk3 k1 k2 k3 hb0)
  clear k1 k2 k3 hb0
  go_enter Tryd.func5, Tryd.ntmps5
  go_wp2_with fail
  go_at_call 6
  refine (HR1.out _).mono ?_
  rintro e W' ⟨rfl, hb1⟩
  replace HS := Lib.hid (keep3 hb1 HS.out (Nat.le_refl _))
  clear hb1
  obtain ⟨ka0, ka1, ka2, ka3, ka4, ka5, ka6, kb0, kb1, kb2, kb3, kb4, kb5, kb6, kc0, kc1, kc2, kc3, kc4, kc5, kc6, hg⟩ := HS.out
  go_wp2_with fail
  go_at_call 6
  refine (HR2.out _).mono ?_
  rintro e W' ⟨rfl, hb1⟩
  replace HS := Lib.hid (keep3 hb1 HS.out (Nat.le_refl _))
  clear hb1 ka0 ka1 ka2 ka3 ka4 ka5 ka6 kb0 kb1 kb2 kb3 kb4 kb5 kb6 kc0 kc1 kc2 kc3 kc4 kc5 kc6 hg
  obtain ⟨ka0, ka1, ka2, ka3, ka4, ka5, ka6, kb0, kb1, kb2, kb3, kb4, kb5, kb6, kc0, kc1, kc2, kc3, kc4, kc5, kc6, hg⟩ := HS.out
  go_wp2_with fail
  go_at_call 6
  refine (HR3.out _).mono ?_
  rintro e W' ⟨rfl, hb1⟩
  replace HS := Lib.hid (keep3 hb1 HS.out (Nat.le_refl _))
  clear hb1 ka0 ka1 ka2 ka3 ka4 ka5 ka6 kb0 kb1 kb2 kb3 kb4 kb5 kb6 kc0 kc1 kc2 kc3 kc4 kc5 kc6 hg
  obtain ⟨ka0, ka1, ka2, ka3, ka4, ka5, ka6, kb0, kb1, kb2, kb3, kb4, kb5, kb6, kc0, kc1, kc2, kc3, kc4, kc5, kc6, hg⟩ := HS.out
  go_wp2_with fail
  go_at_call 8
  refine (HW.out _ hg).mono ?_
  rintro e W9 ⟨rfl, hb9⟩
  go_wp2_with fail
  go_ret
  exact ⟨rfl, hg.trans (hb9.mono hg.size)⟩
end Go.Proofs.YtmlgaaolofgdiaaDoor
