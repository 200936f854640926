/- The program's shifts are the document's own. -/
import Derived.Test.YtmfoeolllobidaaDoorRsn
import Derived.Test.YtmfoeolllobidaaDoorRs5
import Derived.Test.YtmfoeolllobidaaDoorShn
import Derived.Test.YtmfoeolllobidaaDoorShm
namespace Go.Proofs.YtmfoeolllobidaaDoor
open Go.RowKit
set_option linter.unusedVariables false
theorem rcutI (v : Int) (hv : UI v) (wd : Int) (w : World) : Calls Tryd.prog 29 #[.int .u64 v, .int .i64 wd] w fun e w' => e = .returned (.int .u64 (cN v.toNat wd : Nat)) ∧ w = w' := by
  obtain ⟨n, rfl⟩ := Int.eq_ofNat_of_zero_le hv.1
  exact rcut_any n (by have := hv.2; unfold U; omega) wd w
theorem rsignI (v : Int) (hv : UI v) (wd : Int) (w : World) : Calls Tryd.prog 39 #[.int .u64 v, .int .i64 wd] w fun e w' => e = .returned (.bool (sB v.toNat wd)) ∧ w = w' := by
  obtain ⟨n, rfl⟩ := Int.eq_ofNat_of_zero_le hv.1
  exact rsign_any n (by have := hv.2; unfold U; omega) wd w
theorem rsh_shl (x m k : Nat) (hx : U x) (wd : Int) (c z s o p : Bool) (hk0 : 0 < k) (hk64 : k < 64) (hcount : ∀ W, Calls Tryd.prog 44 #[.int .i64 wd, .int .u8 (m : Int)] W fun e w' => e = .returned (.int .i64 (k : Int)) ∧ W = w') (w : World) :
    Calls Tryd.prog 21 #[.int .u8 ((16 + 0 : Nat) : Int), .int .i64 wd, .int .u64 x, .int .u8 (m : Int), fl c z s o p] w fun e w' => e = .returned (.tuple #[.int .u64 (shR 0 (cN x wd) k wd : Nat), fl (fC 0 (cN x wd) k wd c) (fZ 0 (cN x wd) k wd z) (fS 0 (cN x wd) k wd s) (fO 0 (cN x wd) k wd o) (fP 0 (cN x wd) k wd p)]) ∧ Below w.heap.size w w' := by
  have hne : k ≠ 0 := by omega
  have hU : ∀ j, U (it (stp 0 wd) (cN x wd) j).1 := fun j => shR_U 0 x j wd
  have hlow : ∀ j, (bits .and .u64 ((it (stp 0 wd) (cN x wd) j).1 : Int) 1 == 1) = lB (it (stp 0 wd) (cN x wd) j).1 := fun j => by rw [and1 _ (hU j)]; rfl
  simp only [fC, fZ, fS, fO, fP, if_neg hne]
  have hst : ∀ j W, Calls Tryd.prog 29 #[.int .u64 (IntKind.u64.wrap (((it (stp 0 wd) (cN x wd) j).1 : Int) * 2)), .int .i64 wd] W fun e w' => e = .returned (.int .u64 ((it (stp 0 wd) (cN x wd) (j + 1)).1 : Int)) ∧ W = w' := fun j W => rcutI _ (wrap_UI _) wd W
  have hlo := fun W => rlogic_any _ (hU k) wd W
  show Calls _ _ _ _ fun e w' => e = .returned (.tuple #[_, fl (it (stp 0 wd) (cN x wd) k).2 (zB (it (stp 0 wd) (cN x wd) k).1 wd) (sB (it (stp 0 wd) (cN x wd) k).1 wd) (sB (it (stp 0 wd) (cN x wd) k).1 wd != (it (stp 0 wd) (cN x wd) k).2) (pB (it (stp 0 wd) (cN x wd) k).1)]) ∧ _
  cases hc : (it (stp 0 wd) (cN x wd) k).2 <;> cases hs : sB (it (stp 0 wd) (cN x wd) k).1 wd <;> rw [hs] at hlo
  · exact rsh_shl_core_ff x (cN x wd) m k (fun j => (it (stp 0 wd) (cN x wd) j).1) (fun j => eN (it (stp 0 wd) (cN x wd) j).1 wd) (fun j => sB (it (stp 0 wd) (cN x wd) j).1 wd) (fun j => lB (it (stp 0 wd) (cN x wd) j).1) (fun j => (it (stp 0 wd) (cN x wd) j).2) wd c z s o p (zB (it (stp 0 wd) (cN x wd) k).1 wd) false (pB (it (stp 0 wd) (cN x wd) k).1) false hk0 hk64 rfl hcount (fun W => rcut_any x hx wd W) (fun j W => rsign_any _ (hU j) wd W) hlow hst hlo (fun j => rfl) hc w
  · exact rsh_shl_core_ft x (cN x wd) m k (fun j => (it (stp 0 wd) (cN x wd) j).1) (fun j => eN (it (stp 0 wd) (cN x wd) j).1 wd) (fun j => sB (it (stp 0 wd) (cN x wd) j).1 wd) (fun j => lB (it (stp 0 wd) (cN x wd) j).1) (fun j => (it (stp 0 wd) (cN x wd) j).2) wd c z s o p (zB (it (stp 0 wd) (cN x wd) k).1 wd) false (pB (it (stp 0 wd) (cN x wd) k).1) false hk0 hk64 rfl hcount (fun W => rcut_any x hx wd W) (fun j W => rsign_any _ (hU j) wd W) hlow hst hlo (fun j => rfl) hc w
  · exact rsh_shl_core_tf x (cN x wd) m k (fun j => (it (stp 0 wd) (cN x wd) j).1) (fun j => eN (it (stp 0 wd) (cN x wd) j).1 wd) (fun j => sB (it (stp 0 wd) (cN x wd) j).1 wd) (fun j => lB (it (stp 0 wd) (cN x wd) j).1) (fun j => (it (stp 0 wd) (cN x wd) j).2) wd c z s o p (zB (it (stp 0 wd) (cN x wd) k).1 wd) false (pB (it (stp 0 wd) (cN x wd) k).1) false hk0 hk64 rfl hcount (fun W => rcut_any x hx wd W) (fun j W => rsign_any _ (hU j) wd W) hlow hst hlo (fun j => rfl) hc w
  · exact rsh_shl_core_tt x (cN x wd) m k (fun j => (it (stp 0 wd) (cN x wd) j).1) (fun j => eN (it (stp 0 wd) (cN x wd) j).1 wd) (fun j => sB (it (stp 0 wd) (cN x wd) j).1 wd) (fun j => lB (it (stp 0 wd) (cN x wd) j).1) (fun j => (it (stp 0 wd) (cN x wd) j).2) wd c z s o p (zB (it (stp 0 wd) (cN x wd) k).1 wd) false (pB (it (stp 0 wd) (cN x wd) k).1) false hk0 hk64 rfl hcount (fun W => rcut_any x hx wd W) (fun j W => rsign_any _ (hU j) wd W) hlow hst hlo (fun j => rfl) hc w
theorem rsh_shr (x m k : Nat) (hx : U x) (wd : Int) (c z s o p : Bool) (hk0 : 0 < k) (hk64 : k < 64) (hcount : ∀ W, Calls Tryd.prog 44 #[.int .i64 wd, .int .u8 (m : Int)] W fun e w' => e = .returned (.int .i64 (k : Int)) ∧ W = w') (w : World) :
    Calls Tryd.prog 21 #[.int .u8 ((16 + 1 : Nat) : Int), .int .i64 wd, .int .u64 x, .int .u8 (m : Int), fl c z s o p] w fun e w' => e = .returned (.tuple #[.int .u64 (shR 1 (cN x wd) k wd : Nat), fl (fC 1 (cN x wd) k wd c) (fZ 1 (cN x wd) k wd z) (fS 1 (cN x wd) k wd s) (fO 1 (cN x wd) k wd o) (fP 1 (cN x wd) k wd p)]) ∧ Below w.heap.size w w' := by
  have hne : k ≠ 0 := by omega
  have hU : ∀ j, U (it (stp 1 wd) (cN x wd) j).1 := fun j => shR_U 1 x j wd
  have hlow : ∀ j, (bits .and .u64 ((it (stp 1 wd) (cN x wd) j).1 : Int) 1 == 1) = lB (it (stp 1 wd) (cN x wd) j).1 := fun j => by rw [and1 _ (hU j)]; rfl
  simp only [fC, fZ, fS, fO, fP, if_neg hne]
  exact rsh_shr_core x (cN x wd) m k (fun j => (it (stp 1 wd) (cN x wd) j).1) (fun j => eN (it (stp 1 wd) (cN x wd) j).1 wd) (fun j => sB (it (stp 1 wd) (cN x wd) j).1 wd) (fun j => lB (it (stp 1 wd) (cN x wd) j).1) (fun j => (it (stp 1 wd) (cN x wd) j).2) wd c z s o p (zB (it (stp 1 wd) (cN x wd) k).1 wd) (sB (it (stp 1 wd) (cN x wd) k).1 wd) (pB (it (stp 1 wd) (cN x wd) k).1) (sB (cN x wd) wd) hk0 hk64 rfl hcount (fun W => rcut_any x hx wd W) (fun j W => rsign_any _ (hU j) wd W) hlow (fun j => by show ((_ : Nat) : Int) / 2 = ((_ / 2 : Nat) : Int); simp) (fun W => rlogic_any _ (hU k) wd W) (fun j => rfl) (fun W => rsign_any _ (cN_U x hx wd) wd W) w
theorem rsh_sar (x m k : Nat) (hx : U x) (wd : Int) (c z s o p : Bool) (hk0 : 0 < k) (hk64 : k < 64) (hcount : ∀ W, Calls Tryd.prog 44 #[.int .i64 wd, .int .u8 (m : Int)] W fun e w' => e = .returned (.int .i64 (k : Int)) ∧ W = w') (w : World) :
    Calls Tryd.prog 21 #[.int .u8 ((16 + 2 : Nat) : Int), .int .i64 wd, .int .u64 x, .int .u8 (m : Int), fl c z s o p] w fun e w' => e = .returned (.tuple #[.int .u64 (shR 2 (cN x wd) k wd : Nat), fl (fC 2 (cN x wd) k wd c) (fZ 2 (cN x wd) k wd z) (fS 2 (cN x wd) k wd s) (fO 2 (cN x wd) k wd o) (fP 2 (cN x wd) k wd p)]) ∧ Below w.heap.size w w' := by
  have hne : k ≠ 0 := by omega
  have hU : ∀ j, U (it (stp 2 wd) (cN x wd) j).1 := fun j => shR_U 2 x j wd
  have hlow : ∀ j, (bits .and .u64 ((it (stp 2 wd) (cN x wd) j).1 : Int) 1 == 1) = lB (it (stp 2 wd) (cN x wd) j).1 := fun j => by rw [and1 _ (hU j)]; rfl
  simp only [fC, fZ, fS, fO, fP, if_neg hne]
  exact rsh_sar_core x (cN x wd) m k (fun j => (it (stp 2 wd) (cN x wd) j).1) (fun j => eN (it (stp 2 wd) (cN x wd) j).1 wd) (fun j => sB (it (stp 2 wd) (cN x wd) j).1 wd) (fun j => lB (it (stp 2 wd) (cN x wd) j).1) (fun j => (it (stp 2 wd) (cN x wd) j).2) wd c z s o p (zB (it (stp 2 wd) (cN x wd) k).1 wd) (sB (it (stp 2 wd) (cN x wd) k).1 wd) (pB (it (stp 2 wd) (cN x wd) k).1) false hk0 hk64 rfl hcount (fun W => rcut_any x hx wd W) (fun j W => rsign_any _ (hU j) wd W) hlow (fun j W => rext_any _ (hU j) wd W) (fun j W => rcutI _ (wrap_UI _) wd W) (fun W => rlogic_any _ (hU k) wd W) (fun j => rfl) w
theorem rsh_rol (x m k : Nat) (hx : U x) (wd : Int) (c z s o p : Bool) (hk0 : 0 < k) (hk64 : k < 64) (hcount : ∀ W, Calls Tryd.prog 44 #[.int .i64 wd, .int .u8 (m : Int)] W fun e w' => e = .returned (.int .i64 (k : Int)) ∧ W = w') (w : World) :
    Calls Tryd.prog 21 #[.int .u8 ((16 + 3 : Nat) : Int), .int .i64 wd, .int .u64 x, .int .u8 (m : Int), fl c z s o p] w fun e w' => e = .returned (.tuple #[.int .u64 (shR 3 (cN x wd) k wd : Nat), fl (fC 3 (cN x wd) k wd c) (fZ 3 (cN x wd) k wd z) (fS 3 (cN x wd) k wd s) (fO 3 (cN x wd) k wd o) (fP 3 (cN x wd) k wd p)]) ∧ Below w.heap.size w w' := by
  have hne : k ≠ 0 := by omega
  have hU : ∀ j, U (it (stp 3 wd) (cN x wd) j).1 := fun j => shR_U 3 x j wd
  have hlow : ∀ j, (bits .and .u64 ((it (stp 3 wd) (cN x wd) j).1 : Int) 1 == 1) = lB (it (stp 3 wd) (cN x wd) j).1 := fun j => by rw [and1 _ (hU j)]; rfl
  simp only [fC, fZ, fS, fO, fP, if_neg hne]
  exact rsh_rol_core x (cN x wd) m k (fun j => (it (stp 3 wd) (cN x wd) j).1) (fun j => eN (it (stp 3 wd) (cN x wd) j).1 wd) (fun j => sB (it (stp 3 wd) (cN x wd) j).1 wd) (fun j => lB (it (stp 3 wd) (cN x wd) j).1) (fun j => (it (stp 3 wd) (cN x wd) j).2) wd c z s o p (zB (it (stp 3 wd) (cN x wd) k).1 wd) (sB (it (stp 3 wd) (cN x wd) k).1 wd) (pB (it (stp 3 wd) (cN x wd) k).1) false hk0 hk64 rfl hcount (fun W => rcut_any x hx wd W) (fun j W => rsign_any _ (hU j) wd W) hlow (fun j W => rturn_any _ (hU j) 1 wd W) w
theorem rsh_ror (x m k : Nat) (hx : U x) (wd : Int) (c z s o p : Bool) (hk0 : 0 < k) (hk64 : k < 64) (hcount : ∀ W, Calls Tryd.prog 44 #[.int .i64 wd, .int .u8 (m : Int)] W fun e w' => e = .returned (.int .i64 (k : Int)) ∧ W = w') (w : World) :
    Calls Tryd.prog 21 #[.int .u8 ((16 + 4 : Nat) : Int), .int .i64 wd, .int .u64 x, .int .u8 (m : Int), fl c z s o p] w fun e w' => e = .returned (.tuple #[.int .u64 (shR 4 (cN x wd) k wd : Nat), fl (fC 4 (cN x wd) k wd c) (fZ 4 (cN x wd) k wd z) (fS 4 (cN x wd) k wd s) (fO 4 (cN x wd) k wd o) (fP 4 (cN x wd) k wd p)]) ∧ Below w.heap.size w w' := by
  have hne : k ≠ 0 := by omega
  have hU : ∀ j, U (it (stp 4 wd) (cN x wd) j).1 := fun j => shR_U 4 x j wd
  have hlow : ∀ j, (bits .and .u64 ((it (stp 4 wd) (cN x wd) j).1 : Int) 1 == 1) = lB (it (stp 4 wd) (cN x wd) j).1 := fun j => by rw [and1 _ (hU j)]; rfl
  simp only [fC, fZ, fS, fO, fP, if_neg hne]
  have hsa : ∀ W, Calls Tryd.prog 39 #[.int .u64 (IntKind.u64.wrap (((it (stp 4 wd) (cN x wd) k).1 : Int) * 2)), .int .i64 wd] W fun e w' => e = .returned (.bool (sB (shlN (it (stp 4 wd) (cN x wd) k).1 wd) wd)) ∧ W = w' := fun W => by
    have := rsignI _ (wrap_UI (((it (stp 4 wd) (cN x wd) k).1 : Int) * 2)) wd W
    unfold shlN
    rw [sB_cN]
    exact this
  exact rsh_ror_core x (cN x wd) m k (fun j => (it (stp 4 wd) (cN x wd) j).1) (fun j => eN (it (stp 4 wd) (cN x wd) j).1 wd) (fun j => sB (it (stp 4 wd) (cN x wd) j).1 wd) (fun j => lB (it (stp 4 wd) (cN x wd) j).1) (fun j => (it (stp 4 wd) (cN x wd) j).2) wd c z s o p (zB (it (stp 4 wd) (cN x wd) k).1 wd) (sB (it (stp 4 wd) (cN x wd) k).1 wd) (pB (it (stp 4 wd) (cN x wd) k).1) (sB (shlN (it (stp 4 wd) (cN x wd) k).1 wd) wd) hk0 hk64 rfl hcount (fun W => rcut_any x hx wd W) (fun j W => rsign_any _ (hU j) wd W) hlow (fun j W => rturn_any _ (hU j) (-1) wd W) hsa w
theorem shift_both (K m x : Nat) (hK : K < 256) (hm8 : m < 256) (hx : U x) (wd : Int) (c z s o p : Bool) : ∃ (r : Nat) (f0 f1 f2 f3 f4 : Bool), 
    (∀ W, Mk W → Calls Tryd.prog 20 #[.int .u8 (K : Int), .int .i64 wd, .int .u64 x, .int .u8 (m : Int), fl c z s o p] W fun e w' => e = .returned (.tuple #[.int .u64 (r : Nat), fl f0 f1 f2 f3 f4]) ∧ Below W.heap.size W w') ∧
    (∀ W, Calls Tryd.prog 21 #[.int .u8 (K : Int), .int .i64 wd, .int .u64 x, .int .u8 (m : Int), fl c z s o p] W fun e w' => e = .returned (.tuple #[.int .u64 (r : Nat), fl f0 f1 f2 f3 f4]) ∧ Below W.heap.size W w') := by
  obtain ⟨k, hk64, hcount, hsh⟩ : ∃ k : Nat, k < 64 ∧ (∀ W, Calls Tryd.prog 44 #[.int .i64 wd, .int .u8 (m : Int)] W fun e w' => e = .returned (.int .i64 (k : Int)) ∧ W = w') ∧ (∀ d, d < 5 → ∀ W, Mk W → Calls Tryd.prog 20 #[.int .u8 ((16 + d : Nat) : Int), .int .i64 wd, .int .u64 x, .int .u8 (m : Int), fl c z s o p] W fun e w' => e = .returned (.tuple #[.int .u64 (shR d (cN x wd) k wd : Nat), fl (fC d (cN x wd) k wd c) (fZ d (cN x wd) k wd z) (fS d (cN x wd) k wd s) (fO d (cN x wd) k wd o) (fP d (cN x wd) k wd p)]) ∧ Below W.heap.size W w') := by
    cases h8 : (hI wd == 8)
    · exact ⟨m % 32, by omega, fun W => rcount4 wd m hm8 h8 W, fun d hd W hW => shift_any4 d hd wd x hx m _ hm8 rfl c z s o p h8 W hW⟩
    · exact ⟨m % 64, by omega, fun W => rcount8 wd m hm8 h8 W, fun d hd W hW => shift_any8 d hd wd x hx m _ hm8 rfl c z s o p h8 W hW⟩
  have hcut := fun W => rcut_any x hx wd W
  by_cases h5 : K ≠ 16 ∧ K ≠ 17 ∧ K ≠ 18 ∧ K ≠ 19 ∧ K ≠ 20
  · refine ⟨cN x wd, c, z, s, o, p, fun W hW => shift_miss K h5 wd x hx m c z s o p W hW, fun W => ?_⟩
    rcases Nat.eq_zero_or_pos k with h0 | h0
    · exact rsh_none0 x _ m k K wd c z s o p h0 hcount hcut W
    · exact rsh_noneK x _ m k K wd c z s o p (by omega) h0 hcount hcut W
  · obtain ⟨d, hd, rfl⟩ : ∃ d, d < 5 ∧ K = 16 + d := ⟨K - 16, by omega, by omega⟩
    refine ⟨_, _, _, _, _, _, fun W hW => hsh d hd W hW, fun W => ?_⟩
    rcases Nat.eq_zero_or_pos k with h0 | h0
    · have := rsh_none0 x _ m k ((16 + d : Nat) : Int) wd c z s o p h0 hcount hcut W
      subst h0
      exact this
    · obtain rfl | rfl | rfl | rfl | rfl : d = 0 ∨ d = 1 ∨ d = 2 ∨ d = 3 ∨ d = 4 := by omega
      · exact rsh_shl x m k hx wd c z s o p h0 hk64 hcount W
      · exact rsh_shr x m k hx wd c z s o p h0 hk64 hcount W
      · exact rsh_sar x m k hx wd c z s o p h0 hk64 hcount W
      · exact rsh_rol x m k hx wd c z s o p h0 hk64 hcount W
      · exact rsh_ror x m k hx wd c z s o p h0 hk64 hcount W
end Go.Proofs.YtmfoeolllobidaaDoor
