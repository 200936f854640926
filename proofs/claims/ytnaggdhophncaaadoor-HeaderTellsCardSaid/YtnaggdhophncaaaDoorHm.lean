/- The header's bytes: what is read out of them. -/
import Derived.Test.YtnaggdhophncaaaDoorRd
import Derived.Test.YtnaggdhophncaaaDoorRs
namespace Go.Proofs.YtnaggdhophncaaaDoor
open Go.RowKit Go.Shelf
set_option linter.unusedVariables false
set_option linter.unusedSimpArgs false
attribute [local go_sem] Oper.semAt_some
theorem numN_congr {y z : Nat → Nat} {k : Nat} (h : ∀ j, j < k → y j = z j) : numN y k = numN z k := by
  induction k with
  | zero => rfl
  | succ k ih =>
    unfold numN
    rw [ih (fun j hj => h j (by omega)), h k (by omega)]
theorem numN_by (x k : Nat) : numN (fun j => byN x j) k = x % 2 ^ (8 * k) := by
  induction k with
  | zero => simp [numN, Nat.mod_one]
  | succ k ih =>
    unfold numN
    rw [ih]
    unfold byN
    rw [show 8 * (k + 1) = 8 * k + 8 by omega, Nat.pow_add, Nat.mod_mul]
    simp [Nat.mul_comm]
theorem numZ_congr {y z : Nat → Nat} {o s : Nat} (h : ∀ j, o ≤ j → j < o + s → y j = z j) : numZ y o s = numZ z o s := numN_congr fun j hj => h _ (by omega) (by omega)
theorem numZ_in (f : Nat → Nat) (o s x : Nat) : numZ (putF f o s x) o s = x % 2 ^ (8 * s) := by
  rw [← numN_by x s]
  exact numN_congr fun j hj => putF_in hj
theorem numZ_out {f : Nat → Nat} {p q x o s : Nat} (h : o + s ≤ p ∨ p + q ≤ o) : numZ (putF f p q x) o s = numZ f o s := numZ_congr fun j h1 h2 => putF_out (by omega)
theorem headF_out (en so sc ns nc j : Nat) (h : j < 24 ∨ (48 ≤ j ∧ j < 56) ∨ (58 ≤ j ∧ j < 60) ∨ 62 ≤ j) : headF en so sc ns nc j = headK 10 j := by
  unfold headF
  rw [putF_out (by omega), putF_out (by omega), putF_out (by omega), putF_out (by omega), putF_out (by omega)]
theorem head_en (en so sc ns nc : Nat) : numZ (headF en so sc ns nc) 24 8 = en % 2 ^ (8 * 8) := by
  unfold headF
  rw [numZ_out (by omega), numZ_out (by omega), numZ_out (by omega), numZ_out (by omega), numZ_in]
theorem head_so (en so sc ns nc : Nat) : numZ (headF en so sc ns nc) 32 8 = so % 2 ^ (8 * 8) := by
  unfold headF
  rw [numZ_out (by omega), numZ_out (by omega), numZ_out (by omega), numZ_in]
theorem head_sc (en so sc ns nc : Nat) : numZ (headF en so sc ns nc) 40 8 = sc % 2 ^ (8 * 8) := by
  unfold headF
  rw [numZ_out (by omega), numZ_out (by omega), numZ_in]
theorem head_ns (en so sc ns nc : Nat) : numZ (headF en so sc ns nc) 56 2 = ns % 2 ^ (8 * 2) := by
  unfold headF
  rw [numZ_out (by omega), numZ_in]
theorem head_nc (en so sc ns nc : Nat) : numZ (headF en so sc ns nc) 60 2 = nc % 2 ^ (8 * 2) := by
  unfold headF
  rw [numZ_in]
theorem head_mag (en so sc ns nc : Nat) : magZ (headF en so sc ns nc) = true := by
  unfold magZ
  rw [headF_out _ _ _ _ _ 0 (by omega), headF_out _ _ _ _ _ 1 (by omega), headF_out _ _ _ _ _ 2 (by omega), headF_out _ _ _ _ _ 3 (by omega)]
  decide +kernel
def offs (k : Nat) : Bool := decide (mA k + mS k ≤ 24) || (decide (48 ≤ mA k) && decide (mA k + mS k ≤ 56)) || (decide (58 ≤ mA k) && decide (mA k + mS k ≤ 60))
theorem offs_all : (List.range 10).all (fun k => offs k && (numZ (headK 10) (mA k) (mS k) == mW k)) = true := by decide +kernel
theorem head_musts (en so sc ns nc : Nat) : mustsB (headF en so sc ns nc) = true := by
  unfold mustsB
  rw [List.all_eq_true]
  intro k hk
  have h := List.all_eq_true.1 offs_all k hk
  simp only [Bool.and_eq_true] at h
  obtain ⟨h1, h2⟩ := h
  unfold mustOk
  have e : numZ (headF en so sc ns nc) (mA k) (mS k) = numZ (headK 10) (mA k) (mS k) := numZ_congr fun j hj1 hj2 => headF_out _ _ _ _ _ j (by
    unfold offs at h1
    simp only [Bool.or_eq_true, Bool.and_eq_true, decide_eq_true_eq] at h1
    omega)
  rw [e, h2]
  simp
theorem head_kinds (en so sc ns nc : Nat) : kindsB (headF en so sc ns nc) = (decide (ns % 2 ^ (8 * 2) ≤ 16) && decide (nc % 2 ^ (8 * 2) ≤ 32)) := by
  unfold kindsB
  rw [head_musts, head_ns, head_nc]
  rfl
theorem mu_fits : (List.range 10).all (fun k => decide (mA k + mS k ≤ 64) && decide (mU k + 2 ≤ 64)) = true := by decide
/-- The first 64 bytes alone matter. -/
theorem like_kinds {y z : Nat → Nat} (h : ∀ j, j < 64 → y j = z j) : kindsB y = kindsB z := by
  have hn : ∀ o s, o + s ≤ 64 → numZ y o s = numZ z o s := fun o s ho => numZ_congr fun j _ hj => h j (by omega)
  have hm : mustsB y = mustsB z := by
    unfold mustsB
    rw [Bool.eq_iff_iff, List.all_eq_true, List.all_eq_true]
    have e : ∀ k ∈ List.range 10, mustOk y k = mustOk z k := fun k hk => by
      have hf := List.all_eq_true.1 mu_fits k hk
      simp only [Bool.and_eq_true, decide_eq_true_eq] at hf
      unfold mustOk
      rw [hn _ _ hf.1, hn _ _ hf.2]
    exact ⟨fun a k hk => by rw [← e k hk]; exact a k hk, fun a k hk => by rw [e k hk]; exact a k hk⟩
  unfold kindsB
  rw [hm, hn 56 2 (by decide), hn 60 2 (by decide)]
theorem like_mag {y z : Nat → Nat} (h : ∀ j, j < 64 → y j = z j) : magZ y = magZ z := by
  unfold magZ
  rw [h 0 (by decide), h 1 (by decide), h 2 (by decide), h 3 (by decide)]
theorem putF_lt {f : Nat → Nat} (hf : ∀ j, f j < 256) (o s x j : Nat) : putF f o s x j < 256 := by
  unfold putF
  split
  · exact byN_lt _ _
  · exact hf j
theorem headK_lt (k j : Nat) : headK k j < 256 := by
  induction k generalizing j with
  | zero =>
    unfold headK magF
    split
    · rename_i h
      rcases (by omega : j = 0 ∨ j = 1 ∨ j = 2 ∨ j = 3) with rfl | rfl | rfl | rfl <;> decide
    · decide
  | succ k ih => exact putF_lt ih _ _ _ _
theorem headF_lt (en so sc ns nc j : Nat) : headF en so sc ns nc j < 256 := by
  unfold headF
  exact putF_lt (putF_lt (putF_lt (putF_lt (putF_lt (headK_lt 10) _ _ _) _ _ _) _ _ _) _ _ _) _ _ _ _
theorem segF_lt (a b c d e f g j : Nat) : segF a b c d e f g j < 256 := by
  unfold segF
  exact putF_lt (putF_lt (putF_lt (putF_lt (putF_lt (putF_lt (putF_lt (fun _ => by decide) _ _ _) _ _ _) _ _ _) _ _ _) _ _ _) _ _ _) _ _ _ _
theorem secF_lt (a b c d e j : Nat) : secF a b c d e j < 256 := by
  unfold secF
  exact putF_lt (putF_lt (putF_lt (putF_lt (putF_lt (fun _ => by decide) _ _ _) _ _ _) _ _ _) _ _ _) _ _ _ _
theorem seg_read {z : Nat → Nat} (kind flags off addr file mem align : Nat) (h0 : V32 kind) (h1 : V32 flags) (h2 : U off) (h3 : U addr) (h4 : U file) (h5 : U mem) (h6 : U align) (h : ∀ j, j < 56 → z j = segF kind flags off addr file mem align j) : segC z = [.int .u32 (kind : Nat), .int .u32 (flags : Nat), .int .u64 (off : Nat), .int .u64 (addr : Nat), .int .u64 (file : Nat), .int .u64 (mem : Nat), .int .u64 (align : Nat)] := by
  unfold segC
  have e0 : numZ z 0 4 = kind := by
    rw [numZ_congr (fun j _ hj => h j (by omega))]
    unfold segF
    rw [numZ_out (by omega), numZ_out (by omega), numZ_out (by omega), numZ_out (by omega), numZ_out (by omega), numZ_out (by omega), numZ_in]
    unfold V32 at h0
    exact Nat.mod_eq_of_lt (by omega)
  have e1 : numZ z 4 4 = flags := by
    rw [numZ_congr (fun j _ hj => h j (by omega))]
    unfold segF
    rw [numZ_out (by omega), numZ_out (by omega), numZ_out (by omega), numZ_out (by omega), numZ_out (by omega), numZ_in]
    unfold V32 at h1
    exact Nat.mod_eq_of_lt (by omega)
  have e2 : numZ z 8 8 = off := by
    rw [numZ_congr (fun j _ hj => h j (by omega))]
    unfold segF
    rw [numZ_out (by omega), numZ_out (by omega), numZ_out (by omega), numZ_out (by omega), numZ_in]
    unfold U at h2
    exact Nat.mod_eq_of_lt (by omega)
  have e3 : numZ z 16 8 = addr := by
    rw [numZ_congr (fun j _ hj => h j (by omega))]
    unfold segF
    rw [numZ_out (by omega), numZ_out (by omega), numZ_out (by omega), numZ_in]
    unfold U at h3
    exact Nat.mod_eq_of_lt (by omega)
  have e4 : numZ z 32 8 = file := by
    rw [numZ_congr (fun j _ hj => h j (by omega))]
    unfold segF
    rw [numZ_out (by omega), numZ_out (by omega), numZ_in]
    unfold U at h4
    exact Nat.mod_eq_of_lt (by omega)
  have e5 : numZ z 40 8 = mem := by
    rw [numZ_congr (fun j _ hj => h j (by omega))]
    unfold segF
    rw [numZ_out (by omega), numZ_in]
    unfold U at h5
    exact Nat.mod_eq_of_lt (by omega)
  have e6 : numZ z 48 8 = align := by
    rw [numZ_congr (fun j _ hj => h j (by omega))]
    unfold segF
    rw [numZ_in]
    unfold U at h6
    exact Nat.mod_eq_of_lt (by omega)
  rw [e0, e1, e2, e3, e4, e5, e6]
theorem sec_read {z : Nat → Nat} (kind off size link each : Nat) (h0 : V32 kind) (h1 : U off) (h2 : U size) (h3 : V32 link) (h4 : U each) (h : ∀ j, j < 64 → z j = secF kind off size link each j) : secC z = [.int .u32 (kind : Nat), .int .u64 (off : Nat), .int .u64 (size : Nat), .int .u32 (link : Nat), .int .u64 (each : Nat)] := by
  unfold secC
  have e0 : numZ z 4 4 = kind := by
    rw [numZ_congr (fun j _ hj => h j (by omega))]
    unfold secF
    rw [numZ_out (by omega), numZ_out (by omega), numZ_out (by omega), numZ_out (by omega), numZ_in]
    unfold V32 at h0
    exact Nat.mod_eq_of_lt (by omega)
  have e1 : numZ z 24 8 = off := by
    rw [numZ_congr (fun j _ hj => h j (by omega))]
    unfold secF
    rw [numZ_out (by omega), numZ_out (by omega), numZ_out (by omega), numZ_in]
    unfold U at h1
    exact Nat.mod_eq_of_lt (by omega)
  have e2 : numZ z 32 8 = size := by
    rw [numZ_congr (fun j _ hj => h j (by omega))]
    unfold secF
    rw [numZ_out (by omega), numZ_out (by omega), numZ_in]
    unfold U at h2
    exact Nat.mod_eq_of_lt (by omega)
  have e3 : numZ z 40 4 = link := by
    rw [numZ_congr (fun j _ hj => h j (by omega))]
    unfold secF
    rw [numZ_out (by omega), numZ_in]
    unfold V32 at h3
    exact Nat.mod_eq_of_lt (by omega)
  have e4 : numZ z 56 8 = each := by
    rw [numZ_congr (fun j _ hj => h j (by omega))]
    unfold secF
    rw [numZ_in]
    unfold U at h4
    exact Nat.mod_eq_of_lt (by omega)
  rw [e0, e1, e2, e3, e4]
end Go.Proofs.YtnaggdhophncaaaDoor
