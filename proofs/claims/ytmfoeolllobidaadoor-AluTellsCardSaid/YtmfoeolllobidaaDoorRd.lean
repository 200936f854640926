/- The document's own quotients: bit by bit. -/
import Derived.Test.YtmfoeolllobidaaDoorRa
import Derived.Deep.DeepCutAuto
namespace Go.Proofs.YtmfoeolllobidaaDoor
open Go.RowKit Go.Shelf
set_option linter.unusedSimpArgs false
set_option linter.unusedVariables false
attribute [local go_sem] Oper.semAt_some
set_option maxRecDepth 100000 in
set_option maxHeartbeats 2000000 in
theorem rdiv_m (high low d H Lw D n : Nat) (Q Rs M : Nat → Nat) (wd : Int) (hn64 : n ≤ 64) (hw1 : ¬ wd < 1) (hw2 : wd < 8) (hn : 8 * wd = (n : Int))
    (hH : ∀ W, Calls Tryd.prog 29 #[.int .u64 (high : Int), .int .i64 wd] W fun e w' => e = .returned (.int .u64 (H : Int)) ∧ W = w')
    (hL : ∀ W, Calls Tryd.prog 29 #[.int .u64 (low : Int), .int .i64 wd] W fun e w' => e = .returned (.int .u64 (Lw : Int)) ∧ W = w')
    (hD : ∀ W, Calls Tryd.prog 29 #[.int .u64 (d : Int), .int .i64 wd] W fun e w' => e = .returned (.int .u64 (D : Int)) ∧ W = w')
    (hD0 : ((D : Int) == 0) = false) (hHD : (H : Int) < D) (hR0 : Rs 0 = H) (hQ0 : Q 0 = 0)
    (hst : ∀ t j, n = t + j + 1 → bits .or .u64 (IntKind.u64.wrap ((Rs t : Int) * 2)) (bits .and .u64 ((Lw : Int) / 2 ^ j) 1) = (M t : Int) ∧
      ((((Rs t : Int) / 9223372036854775808 == 1) = true ∧ IntKind.u64.wrap ((M t : Int) - D) = (Rs (t + 1) : Int) ∧ bits .or .u64 (Q t : Int) (IntKind.u64.wrap (2 ^ j)) = (Q (t + 1) : Int)) ∨
       (((Rs t : Int) / 9223372036854775808 == 1) = false ∧ (D : Int) ≤ M t ∧ IntKind.u64.wrap ((M t : Int) - D) = (Rs (t + 1) : Int) ∧ bits .or .u64 (Q t : Int) (IntKind.u64.wrap (2 ^ j)) = (Q (t + 1) : Int)) ∨
       (((Rs t : Int) / 9223372036854775808 == 1) = false ∧ ¬ (D : Int) ≤ M t ∧ M t = Rs (t + 1) ∧ Q t = Q (t + 1))))
    (w : World) :
    Calls Tryd.prog 27 #[.int .i64 wd, .int .u64 high, .int .u64 low, .int .u64 d] w fun e w' => e = .returned (.tuple #[.int .u64 (Q n : Int), .int .u64 (Rs n : Int), .bool true]) ∧ w = w' := by
  have HH := Lib.hid hH
  have HL := Lib.hid hL
  have HD := Lib.hid hD
  have HST := Lib.hid hst
  have HR0 := Lib.hid hR0
  have HQ0 := Lib.hid hQ0
  have hHD2 : ¬ (H : Int) - D ≥ 0 := by omega
  have hHD3 : ¬ (D : Int) ≤ H := by omega
  clear hH hL hD hst hR0 hQ0 hHD
  have hw3 : ¬ 8 < wd := by omega
  go_enter Tryd.func27, Tryd.ntmps27
  go_wp2_with (first | (go_at_call 29; (with_reducible refine (HH.out _).mono ?_); rintro e w1 ⟨rfl, rfl⟩) | (go_at_call 29; (with_reducible refine (HL.out _).mono ?_); rintro e w1 ⟨rfl, rfl⟩) | (go_at_call 29; (with_reducible refine (HD.out _).mono ?_); rintro e w1 ⟨rfl, rfl⟩))
  go_loop [12, 13, 14] (fun q r i => ∃ t : Nat, t ≤ n ∧ i = .int .i64 (((n - t : Nat) : Int) - 1) ∧ q = .int .u64 (Q t : Int) ∧ r = .int .u64 (Rs t : Int)) (fun _ _ i => (intOf i + 1).toNat)
  case atStart => exact ⟨0, by omega, by simp, by rw [HQ0.out]; rfl, by rw [HR0.out]⟩
  case round =>
    obtain ⟨t, ht, rfl, rfl, rfl⟩ := hrel
    by_cases hlt : t < n
    · obtain ⟨j, hj⟩ : ∃ j, n = t + j + 1 := ⟨n - t - 1, by omega⟩
      have ei : (((n - t : Nat) : Int) - 1) = (j : Int) := by omega
      rw [ei]
      obtain ⟨hM, hcase⟩ := HST.out t j hj
      have hj64 : j < 64 := by omega
      have hjn : ¬ (j : Int) < 0 := by omega
      rcases hcase with ⟨e1, e2, e3⟩ | ⟨e1, e4, e2, e3⟩ | ⟨e1, e4, e2, e3⟩
      · have HJ := Lib.hid hj
        clear hlt hj
        go_wp2
        have hj := HJ.out
        exact ⟨⟨t + 1, by omega, by congr 1; omega, rfl, rfl⟩, by simp [intOf]⟩
      · have HJ := Lib.hid hj
        clear hlt hj
        go_wp2
        have hj := HJ.out
        exact ⟨⟨t + 1, by omega, by congr 1; omega, rfl, rfl⟩, by simp [intOf]⟩
      · have HJ := Lib.hid hj
        have e5 : ¬ (M t : Int) - D ≥ 0 := by omega
        clear hlt hj
        go_wp2
        have hj := HJ.out
        exact ⟨⟨t + 1, by omega, by congr 1; omega, by rw [e3], by rw [← e2]⟩, by simp [intOf]⟩
    · obtain rfl : t = n := by omega
      rw [Nat.sub_self]
      go_wp2
      exact bodyPost_ret (v := .tuple #[.int .u64 (Q t : Int), .int .u64 (Rs t : Int), .bool true]) (by simp [results, Tryd.results27, go_sem]) rfl ⟨rfl, rfl⟩
set_option maxRecDepth 100000 in
set_option maxHeartbeats 2000000 in
theorem rdiv_a (high low d H Lw D n : Nat) (Q Rs M : Nat → Nat) (wd : Int) (hn64 : n ≤ 64) (hw : wd < 1) (hn : n = 8)
    (hH : ∀ W, Calls Tryd.prog 29 #[.int .u64 (high : Int), .int .i64 wd] W fun e w' => e = .returned (.int .u64 (H : Int)) ∧ W = w')
    (hL : ∀ W, Calls Tryd.prog 29 #[.int .u64 (low : Int), .int .i64 wd] W fun e w' => e = .returned (.int .u64 (Lw : Int)) ∧ W = w')
    (hD : ∀ W, Calls Tryd.prog 29 #[.int .u64 (d : Int), .int .i64 wd] W fun e w' => e = .returned (.int .u64 (D : Int)) ∧ W = w')
    (hD0 : ((D : Int) == 0) = false) (hHD : (H : Int) < D) (hR0 : Rs 0 = H) (hQ0 : Q 0 = 0)
    (hst : ∀ t j, n = t + j + 1 → bits .or .u64 (IntKind.u64.wrap ((Rs t : Int) * 2)) (bits .and .u64 ((Lw : Int) / 2 ^ j) 1) = (M t : Int) ∧
      ((((Rs t : Int) / 9223372036854775808 == 1) = true ∧ IntKind.u64.wrap ((M t : Int) - D) = (Rs (t + 1) : Int) ∧ bits .or .u64 (Q t : Int) (IntKind.u64.wrap (2 ^ j)) = (Q (t + 1) : Int)) ∨
       (((Rs t : Int) / 9223372036854775808 == 1) = false ∧ (D : Int) ≤ M t ∧ IntKind.u64.wrap ((M t : Int) - D) = (Rs (t + 1) : Int) ∧ bits .or .u64 (Q t : Int) (IntKind.u64.wrap (2 ^ j)) = (Q (t + 1) : Int)) ∨
       (((Rs t : Int) / 9223372036854775808 == 1) = false ∧ ¬ (D : Int) ≤ M t ∧ M t = Rs (t + 1) ∧ Q t = Q (t + 1))))
    (w : World) :
    Calls Tryd.prog 27 #[.int .i64 wd, .int .u64 high, .int .u64 low, .int .u64 d] w fun e w' => e = .returned (.tuple #[.int .u64 (Q n : Int), .int .u64 (Rs n : Int), .bool true]) ∧ w = w' := by
  have HH := Lib.hid hH
  have HL := Lib.hid hL
  have HD := Lib.hid hD
  have HST := Lib.hid hst
  have HR0 := Lib.hid hR0
  have HQ0 := Lib.hid hQ0
  have hHD2 : ¬ (H : Int) - D ≥ 0 := by omega
  have hHD3 : ¬ (D : Int) ≤ H := by omega
  clear hH hL hD hst hR0 hQ0 hHD
  subst hn
  go_enter Tryd.func27, Tryd.ntmps27
  go_wp2_with (first | (go_at_call 29; (with_reducible refine (HH.out _).mono ?_); rintro e w1 ⟨rfl, rfl⟩) | (go_at_call 29; (with_reducible refine (HL.out _).mono ?_); rintro e w1 ⟨rfl, rfl⟩) | (go_at_call 29; (with_reducible refine (HD.out _).mono ?_); rintro e w1 ⟨rfl, rfl⟩))
  go_loop [12, 13, 14] (fun q r i => ∃ t : Nat, t ≤ 8 ∧ i = .int .i64 (((8 - t : Nat) : Int) - 1) ∧ q = .int .u64 (Q t : Int) ∧ r = .int .u64 (Rs t : Int)) (fun _ _ i => (intOf i + 1).toNat)
  case atStart => exact ⟨0, by omega, by simp, by rw [HQ0.out]; rfl, by rw [HR0.out]⟩
  case round =>
    obtain ⟨t, ht, rfl, rfl, rfl⟩ := hrel
    by_cases hlt : t < 8
    · obtain ⟨j, hj⟩ : ∃ j, 8 = t + j + 1 := ⟨8 - t - 1, by omega⟩
      have ei : (((8 - t : Nat) : Int) - 1) = (j : Int) := by omega
      rw [ei]
      obtain ⟨hM, hcase⟩ := HST.out t j hj
      have hj64 : j < 64 := by omega
      have hjn : ¬ (j : Int) < 0 := by omega
      rcases hcase with ⟨e1, e2, e3⟩ | ⟨e1, e4, e2, e3⟩ | ⟨e1, e4, e2, e3⟩
      · have HJ := Lib.hid hj
        clear hlt hj
        go_wp2
        have hj := HJ.out
        exact ⟨⟨t + 1, by omega, by congr 1; omega, rfl, rfl⟩, by simp [intOf]⟩
      · have HJ := Lib.hid hj
        clear hlt hj
        go_wp2
        have hj := HJ.out
        exact ⟨⟨t + 1, by omega, by congr 1; omega, rfl, rfl⟩, by simp [intOf]⟩
      · have HJ := Lib.hid hj
        have e5 : ¬ (M t : Int) - D ≥ 0 := by omega
        clear hlt hj
        go_wp2
        have hj := HJ.out
        exact ⟨⟨t + 1, by omega, by congr 1; omega, by rw [e3], by rw [← e2]⟩, by simp [intOf]⟩
    · obtain rfl : t = 8 := by omega
      rw [Nat.sub_self]
      go_wp2
      exact bodyPost_ret (v := .tuple #[.int .u64 (Q 8 : Int), .int .u64 (Rs 8 : Int), .bool true]) (by simp [results, Tryd.results27, go_sem]) rfl ⟨rfl, rfl⟩
set_option maxRecDepth 100000 in
set_option maxHeartbeats 2000000 in
theorem rdiv_z (high low d H Lw D n : Nat) (Q Rs M : Nat → Nat) (wd : Int) (hn64 : n ≤ 64) (hw : wd = 8) (hn : n = 64)
    (hH : ∀ W, Calls Tryd.prog 29 #[.int .u64 (high : Int), .int .i64 wd] W fun e w' => e = .returned (.int .u64 (H : Int)) ∧ W = w')
    (hL : ∀ W, Calls Tryd.prog 29 #[.int .u64 (low : Int), .int .i64 wd] W fun e w' => e = .returned (.int .u64 (Lw : Int)) ∧ W = w')
    (hD : ∀ W, Calls Tryd.prog 29 #[.int .u64 (d : Int), .int .i64 wd] W fun e w' => e = .returned (.int .u64 (D : Int)) ∧ W = w')
    (hD0 : ((D : Int) == 0) = false) (hHD : (H : Int) < D) (hR0 : Rs 0 = H) (hQ0 : Q 0 = 0)
    (hst : ∀ t j, n = t + j + 1 → bits .or .u64 (IntKind.u64.wrap ((Rs t : Int) * 2)) (bits .and .u64 ((Lw : Int) / 2 ^ j) 1) = (M t : Int) ∧
      ((((Rs t : Int) / 9223372036854775808 == 1) = true ∧ IntKind.u64.wrap ((M t : Int) - D) = (Rs (t + 1) : Int) ∧ bits .or .u64 (Q t : Int) (IntKind.u64.wrap (2 ^ j)) = (Q (t + 1) : Int)) ∨
       (((Rs t : Int) / 9223372036854775808 == 1) = false ∧ (D : Int) ≤ M t ∧ IntKind.u64.wrap ((M t : Int) - D) = (Rs (t + 1) : Int) ∧ bits .or .u64 (Q t : Int) (IntKind.u64.wrap (2 ^ j)) = (Q (t + 1) : Int)) ∨
       (((Rs t : Int) / 9223372036854775808 == 1) = false ∧ ¬ (D : Int) ≤ M t ∧ M t = Rs (t + 1) ∧ Q t = Q (t + 1))))
    (w : World) :
    Calls Tryd.prog 27 #[.int .i64 wd, .int .u64 high, .int .u64 low, .int .u64 d] w fun e w' => e = .returned (.tuple #[.int .u64 (Q n : Int), .int .u64 (Rs n : Int), .bool true]) ∧ w = w' := by
  have HH := Lib.hid hH
  have HL := Lib.hid hL
  have HD := Lib.hid hD
  have HST := Lib.hid hst
  have HR0 := Lib.hid hR0
  have HQ0 := Lib.hid hQ0
  have hHD2 : ¬ (H : Int) - D ≥ 0 := by omega
  have hHD3 : ¬ (D : Int) ≤ H := by omega
  clear hH hL hD hst hR0 hQ0 hHD
  subst hw
  subst hn
  go_enter Tryd.func27, Tryd.ntmps27
  go_wp2_with (first | (go_at_call 29; (with_reducible refine (HH.out _).mono ?_); rintro e w1 ⟨rfl, rfl⟩) | (go_at_call 29; (with_reducible refine (HL.out _).mono ?_); rintro e w1 ⟨rfl, rfl⟩) | (go_at_call 29; (with_reducible refine (HD.out _).mono ?_); rintro e w1 ⟨rfl, rfl⟩))
  go_loop [12, 13, 14] (fun q r i => ∃ t : Nat, t ≤ 64 ∧ i = .int .i64 (((64 - t : Nat) : Int) - 1) ∧ q = .int .u64 (Q t : Int) ∧ r = .int .u64 (Rs t : Int)) (fun _ _ i => (intOf i + 1).toNat)
  case atStart => exact ⟨0, by omega, by simp, by rw [HQ0.out]; rfl, by rw [HR0.out]⟩
  case round =>
    obtain ⟨t, ht, rfl, rfl, rfl⟩ := hrel
    by_cases hlt : t < 64
    · obtain ⟨j, hj⟩ : ∃ j, 64 = t + j + 1 := ⟨64 - t - 1, by omega⟩
      have ei : (((64 - t : Nat) : Int) - 1) = (j : Int) := by omega
      rw [ei]
      obtain ⟨hM, hcase⟩ := HST.out t j hj
      have hj64 : j < 64 := by omega
      have hjn : ¬ (j : Int) < 0 := by omega
      rcases hcase with ⟨e1, e2, e3⟩ | ⟨e1, e4, e2, e3⟩ | ⟨e1, e4, e2, e3⟩
      · have HJ := Lib.hid hj
        clear hlt hj
        go_wp2
        have hj := HJ.out
        exact ⟨⟨t + 1, by omega, by congr 1; omega, rfl, rfl⟩, by simp [intOf]⟩
      · have HJ := Lib.hid hj
        clear hlt hj
        go_wp2
        have hj := HJ.out
        exact ⟨⟨t + 1, by omega, by congr 1; omega, rfl, rfl⟩, by simp [intOf]⟩
      · have HJ := Lib.hid hj
        have e5 : ¬ (M t : Int) - D ≥ 0 := by omega
        clear hlt hj
        go_wp2
        have hj := HJ.out
        exact ⟨⟨t + 1, by omega, by congr 1; omega, by rw [e3], by rw [← e2]⟩, by simp [intOf]⟩
    · obtain rfl : t = 64 := by omega
      rw [Nat.sub_self]
      go_wp2
      exact bodyPost_ret (v := .tuple #[.int .u64 (Q 64 : Int), .int .u64 (Rs 64 : Int), .bool true]) (by simp [results, Tryd.results27, go_sem]) rfl ⟨rfl, rfl⟩
set_option maxRecDepth 100000 in
set_option maxHeartbeats 2000000 in
theorem rdiv_y (high low d H Lw D n : Nat) (Q Rs M : Nat → Nat) (wd : Int) (hn64 : n ≤ 64) (hw4 : wd - 9 ≥ 0) (hn : n = 64)
    (hH : ∀ W, Calls Tryd.prog 29 #[.int .u64 (high : Int), .int .i64 wd] W fun e w' => e = .returned (.int .u64 (H : Int)) ∧ W = w')
    (hL : ∀ W, Calls Tryd.prog 29 #[.int .u64 (low : Int), .int .i64 wd] W fun e w' => e = .returned (.int .u64 (Lw : Int)) ∧ W = w')
    (hD : ∀ W, Calls Tryd.prog 29 #[.int .u64 (d : Int), .int .i64 wd] W fun e w' => e = .returned (.int .u64 (D : Int)) ∧ W = w')
    (hD0 : ((D : Int) == 0) = false) (hHD : (H : Int) < D) (hR0 : Rs 0 = H) (hQ0 : Q 0 = 0)
    (hst : ∀ t j, n = t + j + 1 → bits .or .u64 (IntKind.u64.wrap ((Rs t : Int) * 2)) (bits .and .u64 ((Lw : Int) / 2 ^ j) 1) = (M t : Int) ∧
      ((((Rs t : Int) / 9223372036854775808 == 1) = true ∧ IntKind.u64.wrap ((M t : Int) - D) = (Rs (t + 1) : Int) ∧ bits .or .u64 (Q t : Int) (IntKind.u64.wrap (2 ^ j)) = (Q (t + 1) : Int)) ∨
       (((Rs t : Int) / 9223372036854775808 == 1) = false ∧ (D : Int) ≤ M t ∧ IntKind.u64.wrap ((M t : Int) - D) = (Rs (t + 1) : Int) ∧ bits .or .u64 (Q t : Int) (IntKind.u64.wrap (2 ^ j)) = (Q (t + 1) : Int)) ∨
       (((Rs t : Int) / 9223372036854775808 == 1) = false ∧ ¬ (D : Int) ≤ M t ∧ M t = Rs (t + 1) ∧ Q t = Q (t + 1))))
    (w : World) :
    Calls Tryd.prog 27 #[.int .i64 wd, .int .u64 high, .int .u64 low, .int .u64 d] w fun e w' => e = .returned (.tuple #[.int .u64 (Q n : Int), .int .u64 (Rs n : Int), .bool true]) ∧ w = w' := by
  have HH := Lib.hid hH
  have HL := Lib.hid hL
  have HD := Lib.hid hD
  have HST := Lib.hid hst
  have HR0 := Lib.hid hR0
  have HQ0 := Lib.hid hQ0
  have hHD2 : ¬ (H : Int) - D ≥ 0 := by omega
  have hHD3 : ¬ (D : Int) ≤ H := by omega
  clear hH hL hD hst hR0 hQ0 hHD
  have hw1 : ¬ wd < 1 := by omega
  subst hn
  go_enter Tryd.func27, Tryd.ntmps27
  go_wp2_with (first | (go_at_call 29; (with_reducible refine (HH.out _).mono ?_); rintro e w1 ⟨rfl, rfl⟩) | (go_at_call 29; (with_reducible refine (HL.out _).mono ?_); rintro e w1 ⟨rfl, rfl⟩) | (go_at_call 29; (with_reducible refine (HD.out _).mono ?_); rintro e w1 ⟨rfl, rfl⟩))
  go_loop [12, 13, 14] (fun q r i => ∃ t : Nat, t ≤ 64 ∧ i = .int .i64 (((64 - t : Nat) : Int) - 1) ∧ q = .int .u64 (Q t : Int) ∧ r = .int .u64 (Rs t : Int)) (fun _ _ i => (intOf i + 1).toNat)
  case atStart => exact ⟨0, by omega, by simp, by rw [HQ0.out]; rfl, by rw [HR0.out]⟩
  case round =>
    obtain ⟨t, ht, rfl, rfl, rfl⟩ := hrel
    by_cases hlt : t < 64
    · obtain ⟨j, hj⟩ : ∃ j, 64 = t + j + 1 := ⟨64 - t - 1, by omega⟩
      have ei : (((64 - t : Nat) : Int) - 1) = (j : Int) := by omega
      rw [ei]
      obtain ⟨hM, hcase⟩ := HST.out t j hj
      have hj64 : j < 64 := by omega
      have hjn : ¬ (j : Int) < 0 := by omega
      rcases hcase with ⟨e1, e2, e3⟩ | ⟨e1, e4, e2, e3⟩ | ⟨e1, e4, e2, e3⟩
      · have HJ := Lib.hid hj
        clear hlt hj
        go_wp2
        have hj := HJ.out
        exact ⟨⟨t + 1, by omega, by congr 1; omega, rfl, rfl⟩, by simp [intOf]⟩
      · have HJ := Lib.hid hj
        clear hlt hj
        go_wp2
        have hj := HJ.out
        exact ⟨⟨t + 1, by omega, by congr 1; omega, rfl, rfl⟩, by simp [intOf]⟩
      · have HJ := Lib.hid hj
        have e5 : ¬ (M t : Int) - D ≥ 0 := by omega
        clear hlt hj
        go_wp2
        have hj := HJ.out
        exact ⟨⟨t + 1, by omega, by congr 1; omega, by rw [e3], by rw [← e2]⟩, by simp [intOf]⟩
    · obtain rfl : t = 64 := by omega
      rw [Nat.sub_self]
      go_wp2
      exact bodyPost_ret (v := .tuple #[.int .u64 (Q 64 : Int), .int .u64 (Rs 64 : Int), .bool true]) (by simp [results, Tryd.results27, go_sem]) rfl ⟨rfl, rfl⟩
theorem rdiv_none0 (high low d H Lw D : Nat) (wd : Int)
    (hH : ∀ W, Calls Tryd.prog 29 #[.int .u64 (high : Int), .int .i64 wd] W fun e w' => e = .returned (.int .u64 (H : Int)) ∧ W = w')
    (hL : ∀ W, Calls Tryd.prog 29 #[.int .u64 (low : Int), .int .i64 wd] W fun e w' => e = .returned (.int .u64 (Lw : Int)) ∧ W = w')
    (hD : ∀ W, Calls Tryd.prog 29 #[.int .u64 (d : Int), .int .i64 wd] W fun e w' => e = .returned (.int .u64 (D : Int)) ∧ W = w') (hD0 : ((D : Int) == 0) = true) (w : World) :
    Calls Tryd.prog 27 #[.int .i64 wd, .int .u64 high, .int .u64 low, .int .u64 d] w fun e w' => e = .returned (.tuple #[.int .u64 0, .int .u64 0, .bool false]) ∧ w = w' := by
  have HH := Lib.hid hH
  have HL := Lib.hid hL
  have HD := Lib.hid hD
  clear hH hL hD
  go_enter Tryd.func27, Tryd.ntmps27
  go_wp2_with (first | (go_at_call 29; (with_reducible refine (HH.out _).mono ?_); rintro e w1 ⟨rfl, rfl⟩) | (go_at_call 29; (with_reducible refine (HL.out _).mono ?_); rintro e w1 ⟨rfl, rfl⟩) | (go_at_call 29; (with_reducible refine (HD.out _).mono ?_); rintro e w1 ⟨rfl, rfl⟩))
  exact bodyPost_ret (v := .tuple #[.int .u64 0, .int .u64 0, .bool false]) (by simp [results, Tryd.results27, go_sem]) rfl ⟨rfl, rfl⟩
theorem rdiv_none1 (high low d H Lw D : Nat) (wd : Int)
    (hH : ∀ W, Calls Tryd.prog 29 #[.int .u64 (high : Int), .int .i64 wd] W fun e w' => e = .returned (.int .u64 (H : Int)) ∧ W = w')
    (hL : ∀ W, Calls Tryd.prog 29 #[.int .u64 (low : Int), .int .i64 wd] W fun e w' => e = .returned (.int .u64 (Lw : Int)) ∧ W = w')
    (hD : ∀ W, Calls Tryd.prog 29 #[.int .u64 (d : Int), .int .i64 wd] W fun e w' => e = .returned (.int .u64 (D : Int)) ∧ W = w') (hD0 : ((D : Int) == 0) = false) (hHD : (H : Int) - D ≥ 0) (w : World) :
    Calls Tryd.prog 27 #[.int .i64 wd, .int .u64 high, .int .u64 low, .int .u64 d] w fun e w' => e = .returned (.tuple #[.int .u64 0, .int .u64 0, .bool false]) ∧ w = w' := by
  have HH := Lib.hid hH
  have HL := Lib.hid hL
  have HD := Lib.hid hD
  clear hH hL hD
  go_enter Tryd.func27, Tryd.ntmps27
  go_wp2_with (first | (go_at_call 29; (with_reducible refine (HH.out _).mono ?_); rintro e w1 ⟨rfl, rfl⟩) | (go_at_call 29; (with_reducible refine (HL.out _).mono ?_); rintro e w1 ⟨rfl, rfl⟩) | (go_at_call 29; (with_reducible refine (HD.out _).mono ?_); rintro e w1 ⟨rfl, rfl⟩))
  exact bodyPost_ret (v := .tuple #[.int .u64 0, .int .u64 0, .bool false]) (by simp [results, Tryd.results27, go_sem]) rfl ⟨rfl, rfl⟩
end Go.Proofs.YtmfoeolllobidaaDoor
