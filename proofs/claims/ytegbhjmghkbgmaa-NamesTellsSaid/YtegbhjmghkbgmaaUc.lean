/- The reference's within, number, name. -/
import Derived.Test.YtegbhjmghkbgmaaRe
namespace Go.Proofs.Ytegbhjmghkbgmaa
open Go.RowKit Go.Shelf
set_option linter.unusedVariables false
set_option linter.unusedSimpArgs false
attribute [local go_sem] Oper.semAt_some
set_option maxRecDepth 100000 in
set_option maxHeartbeats 1000000 in
theorem rwithin_any (ab : Option Addr) (n c at_ m : Nat) (hn : n ≤ 9223372036854775807) (hat : at_ < 18446744073709551616) (hm : m < 18446744073709551616) (w : World) : Calls Try.prog 26 #[.slice ab n c, .int .u64 (at_ : Nat), .int .u64 (m : Nat)] w fun e W' => e = .returned (.bool (decide (at_ ≤ n) && decide (m ≤ n - at_))) ∧ W' = w := by
  have u0 : IntKind.u64.wrap (n : Int) = (n : Int) := IntWalk.u64_in _ (by omega)
  by_cases h1 : at_ ≤ n
  · have h1i : (at_ : Int) ≤ (n : Int) := by omega
    have u1 : IntKind.u64.wrap ((n : Int) - (at_ : Int)) = (n : Int) - (at_ : Int) := IntWalk.u64_in _ (by omega)
    rw [decide_eq_true h1, Bool.true_and]
    by_cases h2 : m ≤ n - at_
    · have d2 : decide ((m : Int) ≤ (n : Int) - (at_ : Int)) = true := decide_eq_true (by omega)
      rw [decide_eq_true h2]
      go_enter Try.func26, Try.ntmps26
      go_wp2_with fail
      go_ret
      exact ⟨rfl, rfl⟩
    · have d2 : decide ((m : Int) ≤ (n : Int) - (at_ : Int)) = false := decide_eq_false (by omega)
      rw [decide_eq_false h2]
      go_enter Try.func26, Try.ntmps26
      go_wp2_with fail
      go_ret
      exact ⟨rfl, rfl⟩
  · have h1i : ¬ (at_ : Int) ≤ (n : Int) := by omega
    rw [decide_eq_false h1, Bool.false_and]
    go_enter Try.func26, Try.ntmps26
    go_wp2_with fail
    go_ret
    exact ⟨rfl, rfl⟩
set_option maxRecDepth 100000 in
set_option maxHeartbeats 1000000 in
theorem rnum_any (ab : Option Addr) (n c : Nat) (z : Nat → Nat) (hz : ∀ j, z j < 256) (at_ m : Nat) (h1 : at_ + m ≤ n) (hm1 : 1 ≤ m) (hm : m ≤ 8) (w : World) (h : BZ w ab n c z) : Calls Try.prog 28 #[.slice ab n c, .int .u64 (at_ : Nat), .int .i64 (m : Nat)] w fun e W' => e = .returned (.int .u64 (numZ z at_ m : Nat)) ∧ W' = w := by
  have hcap := h.2
  obtain ⟨b, off, rfl, hc⟩ := h.bs (by omega)
  have HC := rnumber_any b (off + at_) m (c - at_) (shZ z at_) (fun j => hz _) w (fun j hj => by
    have := hc (at_ + j) (by omega)
    rwa [← Nat.add_assoc] at this) (by omega)
  rw [Nat.min_eq_left hm] at HC
  have hnz : numN (shZ z at_) m = numZ z at_ m := rfl
  rw [hnz] at HC
  have HC := Lib.hid HC
  have u0 : IntKind.u64.wrap (m : Int) = (m : Int) := IntWalk.u64_in _ (by omega)
  have u1 : IntKind.u64.wrap ((at_ : Int) + (m : Int)) = ((at_ + m : Nat) : Int) := by
    rw [IntWalk.u64_in _ (by omega)]
    omega
  generalize hos0 : at_ + m = os at *
  have hso : os - at_ = m := by omega
  have hne : ¬ c = at_ := by omega
  have i1 : (at_ : Int) ≤ (os : Int) := by omega
  have i2 : (os : Int) ≤ (c : Int) := by omega
  have d1 : decide (os ≤ c) = true := decide_eq_true (by omega)
  have d2 : decide (at_ ≤ os) = true := decide_eq_true (by omega)
  clear h hc hz hnz
  go_enter Try.func28, Try.ntmps28
  go_wp2_with (first | (go_at_call 38; (with_reducible refine HC.out.mono ?_)) | fail)
  rintro e w1 ⟨rfl, rfl⟩
  go_wp2_with fail
  go_ret
  exact ⟨rfl, rfl⟩
theorem name_hit {z : Nat → Nat} (hz : ∀ j, z j < 256) {n at_ k : Nat} (ha : at_ ≤ k) (hk : k < n) (h0 : z k = 0) (hb : ∀ j, at_ ≤ j → j < k → z j ≠ 0) : nameZ z n at_ = some (stN (k - at_) (shZ z at_)) := by
  unfold nameZ
  rw [if_pos (by omega)]
  have e0 : shZ z at_ (k - at_) = 0 := by
    unfold shZ
    rw [show at_ + (k - at_) = k by omega]
    exact h0
  rcases idx_spec (z := shZ z at_) (fun j => hz _) (n - at_) with ⟨_, h2⟩ | ⟨i, e, h2, h3, h4⟩
  · exact absurd e0 (h2 _ (by omega))
  · rw [e]
    dsimp only
    have : i = k - at_ := by
      rcases Nat.lt_trichotomy i (k - at_) with h | h | h
      · exact absurd h3 (hb (at_ + i) (by omega) (by omega))
      · exact h
      · exact absurd e0 (h4 _ h)
    rw [this]
theorem name_miss {z : Nat → Nat} (hz : ∀ j, z j < 256) {n at_ : Nat} (hb : ∀ j, at_ ≤ j → j < n → z j ≠ 0) : nameZ z n at_ = none := by
  unfold nameZ
  by_cases ha : at_ < n
  · rw [if_pos ha]
    rcases idx_spec (z := shZ z at_) (fun j => hz _) (n - at_) with ⟨e, _⟩ | ⟨i, e, h2, h3, _⟩
    · rw [e]
      rfl
    · exact absurd h3 (hb (at_ + i) (by omega) (by omega))
  · rw [if_neg ha]
def nameV (o : Option ByteArray) : Value := match o with | some nm => .tuple #[.string nm, .bool true] | none => .tuple #[.string ⟨#[]⟩, .bool false]
set_option maxRecDepth 100000 in
set_option maxHeartbeats 2000000 in
theorem rname_any (a : Option Addr) (n c : Nat) (z : Nat → Nat) (hz : ∀ j, z j < 256) (at_ : Nat) (hat : at_ < 18446744073709551616) (w : World) (h : BZ w a n c z) : Calls Try.prog 27 #[.slice a n c, .int .u64 (at_ : Nat)] w fun e W' => e = .returned (nameV (nameZ z n at_)) ∧ W' = w := by
  have hcap := h.2
  have u0 : IntKind.u64.wrap (n : Int) = (n : Int) := IntWalk.u64_in _ (by omega)
  by_cases h1 : n ≤ at_
  · have hE := name_miss (z := z) hz (n := n) (at_ := at_) (fun j h2 h3 => by omega)
    rw [hE]
    unfold nameV
    dsimp only
    have i1 : (n : Int) ≤ (at_ : Int) := by omega
    have d1 : decide (n ≤ at_) = true := decide_eq_true h1
    go_enter Try.func27, Try.ntmps27
    go_wp2_with fail
    go_returns
    exact ⟨rfl, rfl⟩
  have d1 : decide (n ≤ at_) = false := decide_eq_false h1
  have i1 : ¬ (n : Int) ≤ (at_ : Int) := by omega
  obtain ⟨b, off, rfl, hc⟩ := h.bs (by omega)
  have HC := Lib.hid hc
  clear h hc
  go_enter Try.func27, Try.ntmps27
  go_wp2_with fail
  go_loopw [6] (fun i W => ∃ k : Nat, at_ ≤ k ∧ k ≤ n ∧ i = .int .u64 k ∧ Hid (∀ j, at_ ≤ j → j < k → z j ≠ 0) ∧ W = w) (fun i _ => n - (intOf i).toNat)
  case atStart => exact ⟨at_, Nat.le_refl _, by omega, rfl, Lib.hid (fun j h2 h3 => by omega), rfl⟩
  case round =>
    obtain ⟨k, hk1, hk2, rfl, HZ, rfl⟩ := hrel
    by_cases hlt : k < n
    · have hlti : (k : Int) < (n : Int) := by omega
      have f0 := HC.out k hlt
      have u2 : IntKind.u64.wrap ((k : Int) + 1) = ((k + 1 : Nat) : Int) := by
        rw [IntWalk.u64_in _ (by omega)]
        omega
      by_cases hz0 : z k = 0
      · have HE := Lib.hid (name_hit hz hk1 hlt hz0 HZ.out)
        have hst := st_run wr b (off + at_) (c - at_) (k - at_) (shZ z at_) (fun j => hz _) (fun j hj => by
          have := HC.out (at_ + j) (by omega)
          rwa [← Nat.add_assoc] at this)
        rw [hz0] at f0
        have hne : ¬ c = at_ := by omega
        have j1 : (at_ : Int) ≤ (k : Int) := by omega
        have j2 : (k : Int) ≤ (c : Int) := by omega
        clear hz0 d1 i1 u2
        go_wp2_with fail
        go_returns
        exact ⟨by rw [HE.out]; rfl, rfl⟩
      · have hz1 : ¬ (z k : Int) = 0 := by omega
        have HZ2 : Hid (∀ j, at_ ≤ j → j < k + 1 → z j ≠ 0) := Lib.hid (fun j h2 h3 => by
          by_cases e : j = k
          · subst e; exact hz0
          · exact HZ.out j h2 (by omega))
        have HZ0 := Lib.hid hz0
        clear HZ hz0
        go_wp2_with fail
        go_roundw
        case rel => exact ⟨k + 1, by omega, by omega, by go_num, HZ2, by first | rfl | trivial⟩
        case measure => simp [intOf]; omega
    · obtain rfl : n = k := by omega
      have HE := Lib.hid (name_miss hz (n := n) (at_ := at_) (fun j h2 h3 => HZ.out j h2 h3))
      have hlti : ¬ (n : Int) < (n : Int) := by omega
      go_wp2_with fail
      go_returns
      exact ⟨by rw [HE.out]; rfl, rfl⟩
end Go.Proofs.Ytegbhjmghkbgmaa
