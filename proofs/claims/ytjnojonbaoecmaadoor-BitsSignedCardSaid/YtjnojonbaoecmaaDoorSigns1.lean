/- The walk of BitsSigned with a carry over what its calls answer. -/
import Derived.Test.YtjnojonbaoecmaaDoorBack
import Derived.Test.YtjnojonbaoecmaaDoorSigned
namespace Go.Proofs.YtjnojonbaoecmaaDoor
open Go.RowKit
set_option maxHeartbeats 20000000 in
theorem signed_core1 (a b : Nat) (wd : Int) (E F x y r s : Nat) (X Y P Q C T : Int) (o v l u : Bool)
    (hE : ∀ W, Mk W → Calls Tryd.prog 19 #[.int .u64 a, .int .i64 wd] W fun e w' => e = .returned (.int .u64 E) ∧ W = w')
    (hF : ∀ W, Mk W → Calls Tryd.prog 19 #[.int .u64 b, .int .i64 wd] W fun e w' => e = .returned (.int .u64 F) ∧ W = w')
    (hx : ∀ W, Mk W → Calls Tryd.prog 15 #[.int .u64 a, .int .i64 wd] W fun e w' => e = .returned (.int .u64 x) ∧ W = w')
    (hy : ∀ W, Mk W → Calls Tryd.prog 15 #[.int .u64 b, .int .i64 wd] W fun e w' => e = .returned (.int .u64 y) ∧ W = w')
    (ha : ∀ W, Mk W → Calls Tryd.prog 9 #[.int .u64 a, .int .u64 b, .bool true, .int .i64 wd] W fun e w' => e = .returned (.tuple #[.int .u64 r, .bool o, .bool v]) ∧ W = w')
    (hs : ∀ W, Mk W → Calls Tryd.prog 11 #[.int .u64 a, .int .u64 b, .bool true, .int .i64 wd] W fun e w' => e = .returned (.tuple #[.int .u64 s, .bool l, .bool u]) ∧ W = w')
    (hC : C = 1) (eE : wrap64 (E : Int) = X) (eF : wrap64 (F : Int) = Y) (ex : wrap64 (x : Int) = P) (ey : wrap64 (y : Int) = Q) (eT : wrap64 (2 ^ ((8 * wd).toNat - 1)) = T)
    (bX : -2147483648 ≤ X ∧ X ≤ 2147483647) (bY : -2147483648 ≤ Y ∧ Y ≤ 2147483647) (bP : 0 ≤ P ∧ P ≤ 4294967295) (bQ : 0 ≤ Q ∧ Q ≤ 4294967295) (bT : 128 ≤ T ∧ T ≤ 2147483648)
    (f1 : (T - Y ≤ X + C ∧ v = true) ∨ (decide (T ≤ X + Y + C) = false ∧ X + Y + C < -T ∧ v = true) ∨ (decide (T ≤ X + Y + C) = false ∧ decide (X + Y + C < -T) = false ∧ v = false)) (f2 : o = decide (2 * T ≤ P + Q + C))
    (f3 : (T + Y ≤ X - C ∧ u = true) ∨ (decide (T ≤ X - Y - C) = false ∧ X - Y - C < -T ∧ u = true) ∨ (decide (T ≤ X - Y - C) = false ∧ decide (X - Y - C < -T) = false ∧ u = false)) (f4 : l = decide (P - Q - C < 0))
    (w : World) (hm : Mk w) (hn1 : ¬ wd < 1) (hn2 : ¬ 4 < wd) :
    Calls Tryd.prog 5 #[.int .u64 a, .int .u64 b, .int .i64 wd, .bool true] w fun e w' => e = .returned (.bool true) ∧ Below w.heap.size w w' := by
  have HE := Lib.hid hE
  have HF := Lib.hid hF
  have Hx := Lib.hid hx
  have Hy := Lib.hid hy
  have Ha := Lib.hid ha
  have Hs := Lib.hid hs
  clear hE hF hx hy ha hs
  subst f2 f4
  have F1 := Lib.hid f1
  have F3 := Lib.hid f3
  have BX := Lib.hid bX
  have BY := Lib.hid bY
  have BP := Lib.hid bP
  have BQ := Lib.hid bQ
  have BT := Lib.hid bT
  clear f1 f3 bX bY bP bQ bT
  subst hC
  all_goals
    go_enter Tryd.func5, Tryd.ntmps5
    go_wp2_with (first | (go_at_call 15; ((with_reducible refine (Hx.out _ hm).mono ?_); rintro e w' ⟨rfl, rfl⟩)) | (go_at_call 15; ((with_reducible refine (Hy.out _ hm).mono ?_); rintro e w' ⟨rfl, rfl⟩)) | (go_at_call 19; ((with_reducible refine (HE.out _ hm).mono ?_); rintro e w' ⟨rfl, rfl⟩)) | (go_at_call 19; ((with_reducible refine (HF.out _ hm).mono ?_); rintro e w' ⟨rfl, rfl⟩)) | (go_at_call 9; ((with_reducible refine (Ha.out _ hm).mono ?_); rintro e w' ⟨rfl, rfl⟩)))
    go_at_call 11
    refine (Hs.out _ hm).mono ?_
    rintro e w' ⟨rfl, rfl⟩
    clear Hx Hy HE HF Ha Hs eE eF ex ey eT
    have f1 := F1.out
    have f3 := F3.out
    have bX := BX.out
    have bY := BY.out
    have bP := BP.out
    have bQ := BQ.out
    have bT := BT.out
    clear F1 F3 BX BY BP BQ BT
    rcases f1 with ⟨f1, rfl⟩ | ⟨f1, f1b, rfl⟩ | ⟨f1, f1b, rfl⟩ <;> rcases f3 with ⟨f3, rfl⟩ | ⟨f3, f3b, rfl⟩ | ⟨f3, f3b, rfl⟩
  all_goals
    go_wp2_with (go_at_call 8; ((with_reducible refine (wakes_any _ hm).mono ?_); rintro e w' ⟨rfl, hbw⟩))
    go_ret
    exact ⟨rfl, by assumption⟩
end Go.Proofs.YtjnojonbaoecmaaDoor
