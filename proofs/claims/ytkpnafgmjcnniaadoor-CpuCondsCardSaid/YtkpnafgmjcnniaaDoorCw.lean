/- CpuConds, for all flags and numbers. -/
import Derived.Test.YtkpnafgmjcnniaaDoorCo
import Derived.Test.YtkpnafgmjcnniaaDoorCn
import Derived.Test.YtkpnafgmjcnniaaDoorCf
import Derived.Test.YtkpnafgmjcnniaaDoorCq
namespace Go.Proofs.YtkpnafgmjcnniaaDoor
open Go.RowKit
set_option linter.unusedVariables false
set_option linter.unusedSimpArgs false
def x1N (n : Nat) : Nat := if n % 2 = 0 then n + 1 else n - 1
theorem odd_fin : ∀ n : Fin 256, bits .xor .u8 (n.val : Int) 1 = ((x1N n.val : Nat) : Int) ∧ (n.val : Int).tmod 16 = ((n.val % 16 : Nat) : Int) ∧ x1N n.val < 256 := by decide +kernel
theorem cdB_odd (C Z S O P : Bool) (n : Nat) : cdB C Z S O P (x1N n) = !cdB C Z S O P n := by
  unfold cdB
  have e1 : x1N n % 16 / 2 = n % 16 / 2 := by unfold x1N; split <;> omega
  have e2 : decide (x1N n % 2 = 1) = !decide (n % 2 = 1) := by
    unfold x1N
    by_cases h : n % 2 = 0
    · have h1 : (n + 1) % 2 = 1 := by omega
      have h2 : ¬ n % 2 = 1 := by omega
      simp [h, h1]
    · have h1 : n % 2 = 1 := by omega
      have h2 : ¬ (n - 1) % 2 = 1 := by omega
      simp [h1, h2]
  rw [e1, e2]
  cases cdV C Z S O P (n % 16 / 2) <;> cases decide (n % 2 = 1) <;> rfl
theorem cdB_mod (C Z S O P : Bool) (n : Nat) : cdB C Z S O P (n % 16) = cdB C Z S O P n := by
  unfold cdB
  have e1 : n % 16 % 16 / 2 = n % 16 / 2 := by omega
  have e2 : n % 16 % 2 = n % 2 := by omega
  rw [e1, e2]
theorem pack_back : ∀ C Z S O P : Bool, bitB (sumI C Z S O P seqE) 1 = C ∧ bitB (sumI C Z S O P seqE) 64 = Z ∧ bitB (sumI C Z S O P seqE) 128 = S ∧ bitB (sumI C Z S O P seqE) 8 = O ∧ bitB (sumI C Z S O P seqE) 4 = P := by decide +kernel
theorem unpack_fin : ∀ n : Fin 256, (bits .andNot .u8 (sumI (bitB (n.val : Int) 1) (bitB (n.val : Int) 64) (bitB (n.val : Int) 128) (bitB (n.val : Int) 8) (bitB (n.val : Int) 4) seqE) (n.val : Int) == 0) = true := by decide +kernel
theorem packed_any (C Z S O P : Bool) (W : World) : Calls Tryd.prog 37 #[fl C Z S O P] W fun e w' => e = .returned (.int .u8 (sumI C Z S O P seqE)) ∧ Below W.heap.size W w' :=
  callsIn_wide.1 (packed_in Fence.wide (Lib.hid rfl) 3 (Nat.le_refl _) C Z S O P W)
theorem unpacked_any (b : Int) (W : World) : Calls Tryd.prog 39 #[.int .u8 b] W fun e w' => e = .returned (fl (bitB b 1) (bitB b 64) (bitB b 128) (bitB b 8) (bitB b 4)) ∧ Below W.heap.size W w' :=
  callsIn_wide.1 (unpacked_in Fence.wide (Lib.hid rfl) 3 (Nat.le_refl _) b W)
theorem conds_walk (C Z S O P : Bool) (n : Int) {w : World} (hn : (Lit.int .u8 n).wf = true) (_W : World) (hm : Mk w) :
    Calls Tryd.prog 10 #[fl C Z S O P, .int .u8 n] w fun e w' => e = .returned (.bool true) ∧ Below w.heap.size w w' := by
  have hb := Go.bounds_u8 hn
  obtain ⟨N, rfl⟩ := Int.eq_ofNat_of_zero_le hb.1
  have hN : N < 256 := by omega
  obtain ⟨e1, e2, hx⟩ := odd_fin ⟨N, hN⟩
  have e3 := unpack_fin ⟨N, hN⟩
  have hP := packed_any C Z S O P
  have hU := unpacked_any (sumI C Z S O P seqE)
  obtain ⟨p0, p1, p2, p3, p4⟩ := pack_back C Z S O P
  rw [p0, p1, p2, p3, p4] at hU
  clear p0 p1 p2 p3 p4
  have h0 := cond_any C Z S O P N hN
  have h1 := cond_any C Z S O P (x1N N) hx
  have h2 := cond_any C Z S O P (N % 16) (by omega)
  rw [cdB_odd] at h1
  rw [cdB_mod] at h2
  have hb : (cdB C Z S O P N == !cdB C Z S O P N) = false := by cases cdB C Z S O P N <;> rfl
  have k2 : ∀ W, Calls Tryd.prog 35 #[fl C Z S O P, .int .u8 2] W fun e w' => e = .returned (.bool C) ∧ Below W.heap.size W w' := fun W => by
    have h := cond_any C Z S O P 2 (by decide) W
    have e : cdB C Z S O P 2 = C := by cases C <;> rfl
    rw [e] at h; exact h
  have k4 : ∀ W, Calls Tryd.prog 35 #[fl C Z S O P, .int .u8 4] W fun e w' => e = .returned (.bool Z) ∧ Below W.heap.size W w' := fun W => by
    have h := cond_any C Z S O P 4 (by decide) W
    have e : cdB C Z S O P 4 = Z := by cases Z <;> rfl
    rw [e] at h; exact h
  have k12 : ∀ W, Calls Tryd.prog 35 #[fl C Z S O P, .int .u8 12] W fun e w' => e = .returned (.bool (!(S == O))) ∧ Below W.heap.size W w' := fun W => by
    have h := cond_any C Z S O P 12 (by decide) W
    have e : cdB C Z S O P 12 = !(S == O) := by cases S <;> cases O <;> rfl
    rw [e] at h; exact h
  have k6 : ∀ W, Calls Tryd.prog 35 #[fl C Z S O P, .int .u8 6] W fun e w' => e = .returned (.bool (C || Z)) ∧ Below W.heap.size W w' := fun W => by
    have h := cond_any C Z S O P 6 (by decide) W
    have e : cdB C Z S O P 6 = (C || Z) := by cases C <;> cases Z <;> rfl
    rw [e] at h; exact h
  have k14 : ∀ W, Calls Tryd.prog 35 #[fl C Z S O P, .int .u8 14] W fun e w' => e = .returned (.bool (!(S == O) || Z)) ∧ Below W.heap.size W w' := fun W => by
    have h := cond_any C Z S O P 14 (by decide) W
    have e : cdB C Z S O P 14 = (!(S == O) || Z) := by cases S <;> cases O <;> cases Z <;> rfl
    rw [e] at h; exact h
  have k8 : ∀ W, Calls Tryd.prog 35 #[fl C Z S O P, .int .u8 8] W fun e w' => e = .returned (.bool S) ∧ Below W.heap.size W w' := fun W => by
    have h := cond_any C Z S O P 8 (by decide) W
    have e : cdB C Z S O P 8 = S := by cases S <;> rfl
    rw [e] at h; exact h
  have k0 : ∀ W, Calls Tryd.prog 35 #[fl C Z S O P, .int .u8 0] W fun e w' => e = .returned (.bool O) ∧ Below W.heap.size W w' := fun W => by
    have h := cond_any C Z S O P 0 (by decide) W
    have e : cdB C Z S O P 0 = O := by cases O <;> rfl
    rw [e] at h; exact h
  have hV := unpacked_any (N : Int)
  have hQ := packed_any (bitB (N : Int) 1) (bitB (N : Int) 64) (bitB (N : Int) 128) (bitB (N : Int) 8) (bitB (N : Int) 4)
  generalize hL : (!(S == O)) = L at *
  cases C <;> cases L
  · exact conds_ff false Z S O P N _ _ _ _ _ _ Z S O _ _ _ _ _ w hm e1 e2 e3 hb hL h0 h1 h2 hP hU k2 k4 k12 k6 k14 k8 k0 hV hQ
  · exact conds_ft false Z S O P N _ _ _ _ _ _ Z S O _ _ _ _ _ w hm e1 e2 e3 hb hL h0 h1 h2 hP hU k2 k4 k12 k6 k14 k8 k0 hV hQ
  · exact conds_tf true Z S O P N _ _ _ _ _ _ Z S O _ _ _ _ _ w hm e1 e2 e3 hb hL h0 h1 h2 hP hU k2 k4 k12 k6 k14 k8 k0 hV hQ
  · exact conds_tt true Z S O P N _ _ _ _ _ _ Z S O _ _ _ _ _ w hm e1 e2 e3 hb hL h0 h1 h2 hP hU k2 k4 k12 k6 k14 k8 k0 hV hQ
end Go.Proofs.YtkpnafgmjcnniaaDoor
