/- The walk of BitsTurn. -/
import Derived.Test.YtjnojonbaoecmaaDoorBack
import Derived.Test.YtjnojonbaoecmaaDoorCount
namespace Go.Proofs.YtjnojonbaoecmaaDoor
open Go.RowKit
theorem turn_belowT (T : Nat) (a : Nat) (ha : U a) (n : Int) (wd : Int) (hT : turnN a (tN n wd) wd = T) (w : World) (hm : Mk w) :
    Calls Tryd.prog 23 #[.int .u64 a, .int .i64 n, .int .i64 wd] w fun e w' => e = .returned (.int .u64 (T : Nat)) ∧ Mk w' ∧ Below w.heap.size w w' := by
  subst hT; exact turn_below a ha n wd w hm
theorem cut_anyC (C : Nat) (a : Nat) (ha : U a) (wd : Int) (hC : cN a wd = C) (w : World) (hm : Mk w) :
    Calls Tryd.prog 15 #[.int .u64 a, .int .i64 wd] w fun e w' => e = .returned (.int .u64 (C : Nat)) ∧ w = w' := by
  subst hC; exact cut_any a ha wd w hm
set_option maxHeartbeats 1000000 in
theorem law_turn (a : Nat) (ha : U a) (n m wd : Int) (w : World) (hm : Mk w) (hn1 : n ≤ 1099511627776) (hn2 : -1099511627776 ≤ n) (hm1 : m ≤ 1099511627776) (hm2 : -1099511627776 ≤ m) (ho : (m < n ∧ m ≤ n) ∨ (m ≤ n ∧ n ≤ m) ∨ (n < m ∧ n ≤ m)) (hw : (wd < 1 ∧ hI wd = 1) ∨ (8 < wd ∧ 1 ≤ wd ∧ hI wd = 8) ∨ (1 ≤ wd ∧ wd ≤ 8 ∧ hI wd = wd)) :
    Calls Tryd.prog 6 #[.int .u64 a, .int .i64 n, .int .i64 m, .int .i64 wd] w fun e w' => e = .returned (.bool true) ∧ Below w.heap.size w w' := by
  have hz := hm.pos
  have huT := turn_U a (tN n wd) wd (tN_lt n wd)
  have huC := cN_U a ha wd
  have hcnt := turn_count a (tN n wd) wd (tN_lt n wd)
  have hT2 : turnN (turnN a (tN n wd) wd) (tN m wd) wd = turnN a (tN (n + m) wd) wd := by rw [turn_turn _ _ _ _ (tN_lt n wd) (tN_lt m wd), tN_add]
  have hT3 : ∀ L : Int, L % (8 * hN wd) = 0 → turnN a (tN L wd) wd = cN a wd := fun L h => by rw [tN_zero_of _ _ h, turn_zero]
  generalize hX : turnN a (tN n wd) wd = X at huT hcnt hT2
  generalize hC : cN a wd = C at huC hcnt hT3
  have HT2 := Lib.hid hT2; clear hT2
  have HT3 := Lib.hid hT3; clear hT3
  have HX := Lib.hid hX; clear hX
  have HC := Lib.hid hC; clear hC
  have HCN := Lib.hid hcnt; clear hcnt
  rcases ho with ⟨ho, ho'⟩ | ⟨ho, ho'⟩ | ⟨ho, ho'⟩ <;> rcases hw with ⟨hw, hx⟩ | ⟨hw, hw2, hx⟩ | ⟨hw, hw2, hx⟩
  all_goals
    go_enter Tryd.func6, Tryd.ntmps6
    go_wp2_with fail
    go_at_call 23
    refine (turn_belowT X a ha n wd HX.out _ hm).mono ?_
    rintro e w3 ⟨rfl, hm3, hb3⟩
    go_wp2_with fail
    go_loop [11, 12] (fun x i => ∃ k : Nat, k ≤ 64 ∧ i = .int .i64 k ∧ x = .int .i64 ((bS X.testBit k : Int) - (bS C.testBit k : Int))) (fun _ i => 64 - (intOf i).toNat)
    case atStart => exact ⟨0, Nat.zero_le _, rfl, rfl⟩
    case round =>
      obtain ⟨k, hk, rfl, rfl⟩ := hrel
      have b1 := bS_le X.testBit k
      have b2 := bS_le C.testBit k
      by_cases hlt : k < 64
      · have hxb := bit_val X k huT
        have hc := bit_val C k huC
        have t1 := Bool.toNat_le (X.testBit k)
        have t2 := Bool.toNat_le (C.testBit k)
        go_wp2_with (go_at_call 15; ((with_reducible refine (cut_anyC C _ (by assumption) _ HC.out _ hm3).mono ?_); rintro e w' ⟨rfl, rfl⟩))
        go_round
        case rel => exact ⟨k + 1, by omega, by go_num, by simp only [bS]; go_num⟩
        case measure => simp [intOf]; omega
      · obtain rfl : k = 64 := by omega
        rw [HCN.out, Int.sub_self]
        clear b1 b2
        go_wp2_with fail
        go_at_call 23
        refine (turn_belowT _ X huT m wd HT2.out _ hm3).mono ?_
        rintro e w4 ⟨rfl, hm4, hb4⟩
        go_wp2_with fail
        go_at_call 23
        refine (turn_belowT _ a ha _ wd rfl _ hm4).mono ?_
        rintro e w5 ⟨rfl, hm5, hb5⟩
        go_wp2_with fail
        go_at_call 23
        refine (turn_belowT C a ha _ wd (HT3.out _ (by rw [← hI_N, hx]; first | rfl | exact Int.emod_self)) _ hm5).mono ?_
        rintro e w6 ⟨rfl, hm6, hb6⟩
        go_wp2_with (go_at_call 15; ((with_reducible refine (cut_anyC C _ (by assumption) _ HC.out _ hm6).mono ?_); rintro e w' ⟨rfl, rfl⟩))
        go_at_call 23
        refine (turn_belowT C a ha _ wd (HT3.out _ (by rw [← hI_N, hx]; first | rfl | exact Int.neg_emod_self _)) _ hm6).mono ?_
        rintro e w7 ⟨rfl, hm7, hb7⟩
        go_wp2_with (first | (go_at_call 15; ((with_reducible refine (cut_anyC C _ (by assumption) _ HC.out _ hm7).mono ?_); rintro e w' ⟨rfl, rfl⟩)) | (go_at_call 8; ((with_reducible refine (wakes_any _ hm7).mono ?_); rintro e w8 ⟨rfl, hb8⟩)))
        go_ret
        have g3 := hb3.size
        have g4 := hb4.size
        have g5 := hb5.size
        have g6 := hb6.size
        have g7 := hb7.size
        exact ⟨rfl, hb3.trans ((hb4.mono (by omega)).trans ((hb5.mono (by omega)).trans ((hb6.mono (by omega)).trans ((hb7.mono (by omega)).trans (hb8.mono (by omega))))))⟩
set_option maxHeartbeats 4000000 in
theorem law_turn_out (a : Nat) (n m wd : Int) (w : World) (hm : Mk w) (ho : (m < n ∧ m ≤ n) ∨ (m ≤ n ∧ n ≤ m) ∨ (n < m ∧ n ≤ m)) (h : 1099511627776 < n ∨ 1099511627776 < m ∨ (n ≤ 1099511627776 ∧ m ≤ 1099511627776 ∧ n < -1099511627776) ∨ (n ≤ 1099511627776 ∧ m ≤ 1099511627776 ∧ m < -1099511627776)) :
    Calls Tryd.prog 6 #[.int .u64 a, .int .i64 n, .int .i64 m, .int .i64 wd] w fun e w' => e = .returned (.bool true) ∧ Below w.heap.size w w' := by
  rcases ho with ⟨ho, ho'⟩ | ⟨ho, ho'⟩ | ⟨ho, ho'⟩
  · have hh : 1099511627776 < n ∨ (n ≤ 1099511627776 ∧ m < -1099511627776) := by omega
    rcases hh with hh | ⟨hh, hh2⟩
    all_goals
      go_enter Tryd.func6, Tryd.ntmps6
      go_wp2_with (go_at_call 8; ((with_reducible refine (wakes_any _ hm).mono ?_); rintro e w8 ⟨rfl, hb8⟩))
      go_ret
      exact ⟨rfl, by assumption⟩
  · have hh : (1099511627776 < m ∧ 1099511627776 < n) ∨ (m ≤ 1099511627776 ∧ n ≤ 1099511627776 ∧ n < -1099511627776 ∧ m < -1099511627776) := by omega
    rcases hh with ⟨hh, hh2⟩ | ⟨hh, hh2, hh3, hh4⟩
    all_goals
      go_enter Tryd.func6, Tryd.ntmps6
      go_wp2_with (go_at_call 8; ((with_reducible refine (wakes_any _ hm).mono ?_); rintro e w8 ⟨rfl, hb8⟩))
      go_ret
      exact ⟨rfl, by assumption⟩
  · have hh : 1099511627776 < m ∨ (m ≤ 1099511627776 ∧ n < -1099511627776) := by omega
    rcases hh with hh | ⟨hh, hh2⟩
    all_goals
      go_enter Tryd.func6, Tryd.ntmps6
      go_wp2_with (go_at_call 8; ((with_reducible refine (wakes_any _ hm).mono ?_); rintro e w8 ⟨rfl, hb8⟩))
      go_ret
      exact ⟨rfl, by assumption⟩
theorem walkIn_turn (a0 a1 a2 a3 : Int) (w0 : (Lit.int .u64 a0).wf = true) (_ : (Lit.int .i64 a1).wf = true) (_ : (Lit.int .i64 a2).wf = true) (_ : (Lit.int .i64 a3).wf = true) (w : World) (hm : Mk w) : Calls Tryd.prog 6 #[.int .u64 a0, .int .i64 a1, .int .i64 a2, .int .i64 a3] w fun e w' => e = .returned (.bool true) ∧ Below w.heap.size w w' := by
  obtain ⟨k, rfl, hk⟩ := nat_of_wf w0
  have ho : (a2 < a1 ∧ a2 ≤ a1) ∨ (a2 ≤ a1 ∧ a1 ≤ a2) ∨ (a1 < a2 ∧ a1 ≤ a2) := by omega
  by_cases h : a1 ≤ 1099511627776 ∧ -1099511627776 ≤ a1 ∧ a2 ≤ 1099511627776 ∧ -1099511627776 ≤ a2
  · refine law_turn k hk a1 a2 a3 w hm h.1 h.2.1 h.2.2.1 h.2.2.2 ho ?_
    unfold hI
    repeat' split
    all_goals omega
  · exact law_turn_out k a1 a2 a3 w hm ho (by omega)
end Go.Proofs.YtjnojonbaoecmaaDoor
