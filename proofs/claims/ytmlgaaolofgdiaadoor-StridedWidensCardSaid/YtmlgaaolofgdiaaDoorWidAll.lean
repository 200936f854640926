/- sundialref01.Mask; Widen of any two sets that may be. -/
import Derived.Test.YtmlgaaolofgdiaaDoorWid
import Derived.Test.YtmlgaaolofgdiaaDoorOrdAll
import Derived.Laws.BitsAllLaws
namespace Go.Proofs.YtmlgaaolofgdiaaDoor
open Go.RowKit SM
set_option linter.unusedVariables false
set_option maxHeartbeats 400000 in
theorem wide_any (wd : Int) (w : World) :
    Calls Tryd.prog 31 #[.int .i64 wd] w fun e w' => e = .returned (.int .i64 (hI wd)) ∧ w = w' := by
  go_enter Tryd.func31, Tryd.ntmps31
  go_wp2
  all_goals
    go_ret
    refine ⟨?_, rfl⟩
    show Ending.returned (.int .i64 _) = _
    congr 2
    unfold hI
    repeat' split
    all_goals omega
theorem mask_step (k : Nat) (hk : k < 64) : bits BinOp.or IntKind.u64 (2 ^ k - 1) (IntKind.u64.wrap (2 ^ k)) = 2 ^ (k + 1) - 1 := by
  have e64 : (2 : Nat) ^ 64 = 18446744073709551616 := by decide
  have h0 : 0 < 2 ^ k := Nat.two_pow_pos k
  have hl : 2 ^ k < 18446744073709551616 := by rw [← e64]; exact Nat.pow_lt_pow_right (by decide) hk
  have e1 : ((2 : Int) ^ k - 1) = ((2 ^ k - 1 : Nat) : Int) := by rw [Int.natCast_sub h0]; simp
  have e2 : IntKind.u64.wrap ((2 : Int) ^ k) = ((2 ^ k : Nat) : Int) := by
    rw [IntKind.wrap_u64, show ((2 : Int) ^ k) = ((2 ^ k : Nat) : Int) by simp]
    exact Int.emod_eq_of_lt (by omega) (by omega)
  have e3 : ((2 : Int) ^ (k + 1) - 1) = ((2 ^ (k + 1) - 1 : Nat) : Int) := by rw [Int.natCast_sub (Nat.two_pow_pos _)]; simp
  rw [e1, e2, e3, u64_or_nat _ _ (by omega) hl]
  congr 1
  rw [Nat.or_comm, nat_join k _ _ (Nat.mod_self _) (by omega), Nat.pow_succ]; omega
set_option maxHeartbeats 1000000 in
theorem rmask_any (wd : Int) (w : World) :
    Calls Tryd.prog 15 #[.int .i64 wd] w fun e w' => e = .returned (.int .u64 ((2 : Int) ^ (8 * hN wd) - 1)) ∧ w = w' := by
  have hb := hN_bd wd
  have hIN := hI_N wd
  go_enter Tryd.func15, Tryd.ntmps15
  go_wp2_with (go_at_call 31; refine (wide_any _ _).mono ?_; rintro e w' ⟨rfl, rfl⟩)
  go_loop [3, 4] (fun x i => ∃ k : Nat, k ≤ 8 * hN wd ∧ i = .int .i64 k ∧ x = .int .u64 (2 ^ k - 1)) (fun _ i => 8 * hN wd - (intOf i).toNat)
  case atStart => exact ⟨0, Nat.zero_le _, rfl, rfl⟩
  case round =>
    obtain ⟨k, hk, rfl, rfl⟩ := hrel
    by_cases hlt : k < 8 * hN wd
    · have HS := mask_step k (by omega)
      have hlt' : (k : Int) < 8 * hI wd := by omega
      go_wp2_with (go_at_call 31; refine (wide_any _ _).mono ?_; rintro e w' ⟨rfl, rfl⟩)
      go_round
      case rel => exact ⟨k + 1, by omega, by go_num, by go_num⟩
      case measure => simp [intOf]; omega
    · obtain rfl : k = 8 * hN wd := by omega
      have hlt' : ¬ ((8 * hN wd : Nat) : Int) < 8 * hI wd := by omega
      go_wp2_with (go_at_call 31; refine (wide_any _ _).mono ?_; rintro e w' ⟨rfl, rfl⟩)
      go_ret
      exact ⟨rfl, rfl⟩
theorem rmask_nat (wd : Int) (w : World) : Calls Tryd.prog 15 #[.int .i64 wd] w fun e w' => e = .returned (.int .u64 (mN wd : Nat)) ∧ w = w' := by
  have := rmask_any wd w
  rw [show ((2 : Int) ^ (8 * hN wd) - 1) = ((mN wd : Nat) : Int) by unfold mN; rw [Int.natCast_sub (Nat.two_pow_pos _)]; simp] at this
  exact this
/-- A set, widened by another one. -/
def widS (m : Nat) (a b : St) : St :=
  if a = noneS then b else if inP b a then a else
    ⟨(joinS a b).s, if (joinS a b).l < a.l then (joinS a b).l % (joinS a b).s else (joinS a b).l, if a.h < (joinS a b).h ∧ (joinS a b).h ≤ m then m - (m - (joinS a b).h) % (joinS a b).s else (joinS a b).h⟩
theorem wid_any (a b : St) (ga : G a) (gb : G b) (wd : Int) (w : World) (hm : Mk w) :
    Calls Tryd.prog 16 #[stv a, stv b, .int .i64 wd] w fun e w' => e = .returned (stv (widS (mN wd) a b)) ∧ Below w.heap.size w w' := by
  have hmk := mN_fin wd
  unfold widS
  by_cases hn : a = noneS
  · rw [if_pos hn]; exact wid_none a.s a.l a.h b.s b.l b.h wd ga.h gb.h ga.r gb.r hn w
  · rw [if_neg hn]
    by_cases hi : inP b a
    · rw [if_pos hi]; exact wid_in a.s a.l a.h b.s b.l b.h wd w ga.h gb.h ga.r gb.r hn (c_in gb ga (decide_eq_true hi))
    · rw [if_neg hi]
      have gj := g_of (ga.r.join gb.r) (u_join ga.h gb.h)
      have cj := c_join (w := w) ga gb
      have cm : Hid (∀ W, Below w.heap.size w W → Calls Tryd.prog 32 #[.int .i64 wd] W fun e w2 => e = .returned (.int .u64 (mN wd : Nat)) ∧ W = w2) := Lib.hid fun W hb => mask_any wd W (hm.own hb)
      have ci := c_in (w := w) gb ga (decide_eq_false hi)
      have hbn : b ≠ noneS := fun e => hi (.inl e)
      have hj : joinS a b = jn a b := by unfold joinS; rw [if_neg hn, if_neg hbn]
      have hok : Ok (joinS a b) := by rw [hj]; exact (ga.r.ok hn).jn (gb.r.ok hbn)
      have hw : Wi a (joinS a b) := by rw [hj]; exact wi_jn_left a b
      have hle := (ga.r.ok hn).le
      have us : (joinS a b).s ≤ 18446744073709551615 := by have := gj.s; unfold U at this; omega
      have ul : (joinS a b).l ≤ 18446744073709551615 := by have := gj.l; unfold U at this; omega
      have uh : (joinS a b).h ≤ 18446744073709551615 := by have := gj.h; unfold U at this; omega
      have hs : (joinS a b).l < a.l ∨ a.h < (joinS a b).h → 0 < (joinS a b).s := by
        intro h
        have := hok.s0
        have h1 := hw.1; have h2 := hw.2.1
        rcases Nat.eq_zero_or_pos (joinS a b).s with z | z
        · have := this.1 z; omega
        · exact z
      clear hj hok hw gj
      generalize joinS a b = r at *
      by_cases q1 : r.l < a.l
      · rw [if_pos q1]
        by_cases q2 : a.h < r.h
        · by_cases q3 : r.h ≤ mN wd
          · rw [if_pos ⟨q2, q3⟩]; exact wid_12 a.s a.l a.h b.s b.l b.h wd w ga.h gb.h ga.r gb.r hn r.s r.l r.h (mN wd) us ul uh hmk.2.1 q1 q2 q3 (hs (.inl q1)) ci cj cm
          · rw [if_neg (fun h => q3 h.2)]; exact wid_11 a.s a.l a.h b.s b.l b.h wd w ga.h gb.h ga.r gb.r hn r.s r.l r.h (mN wd) us ul uh hmk.2.1 q1 q2 q3 (hs (.inl q1)) ci cj cm
        · rw [if_neg (fun h => q2 h.1)]; exact wid_10 a.s a.l a.h b.s b.l b.h wd w ga.h gb.h ga.r gb.r hn r.s r.l r.h (mN wd) us ul uh hmk.2.1 q1 q2 (hs (.inl q1)) ci cj cm
      · rw [if_neg q1]
        by_cases q2 : a.h < r.h
        · by_cases q3 : r.h ≤ mN wd
          · rw [if_pos ⟨q2, q3⟩]; exact wid_02 a.s a.l a.h b.s b.l b.h wd w ga.h gb.h ga.r gb.r hn r.s r.l r.h (mN wd) us ul uh hmk.2.1 q1 q2 q3 (hs (.inr q2)) ci cj cm
          · rw [if_neg (fun h => q3 h.2)]; exact wid_01 a.s a.l a.h b.s b.l b.h wd w ga.h gb.h ga.r gb.r hn r.s r.l r.h (mN wd) us ul uh hmk.2.1 q1 q2 q3 ci cj cm
        · rw [if_neg (fun h => q2 h.1)]; exact wid_00 a.s a.l a.h b.s b.l b.h wd w ga.h gb.h ga.r gb.r hn r.s r.l r.h (mN wd) us ul uh hmk.2.1 q1 q2 ci cj cm
end Go.Proofs.YtmlgaaolofgdiaaDoor
