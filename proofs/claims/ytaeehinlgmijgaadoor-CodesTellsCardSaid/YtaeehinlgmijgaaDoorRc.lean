/- The reference's code and Fits. -/
import Derived.Test.YtaeehinlgmijgaaDoorSt
namespace Go.Proofs.YtaeehinlgmijgaaDoor
open Go.RowKit Go.Shelf
set_option linter.unusedVariables false
set_option linter.unusedSimpArgs false
attribute [local go_sem] Oper.semAt_some
def codeZ (f : Fm) (o : Nat) : Bool := if f.plus then bits .and .u8 (o : Int) 248 == bits .and .u8 (f.o : Int) 248 else (o : Int) == (f.o : Int)
def rfitsZ (f : Fm) (p m o : Nat) (d : Int) : Bool := (f.p : Int) == (p : Int) && ((f.m : Int) == (m : Int) && (codeZ f o && (f.d == -1 || f.d == d)))
theorem high5 : ∀ (a : Fin 256), bits .and .u8 (a.val : Int) 248 = ((a.val / 8 * 8 : Nat) : Int) := by decide +kernel
set_option maxHeartbeats 2000000 in
theorem co_f (xp xm xo : Nat) (xd : Int) (xdo xcc : Nat) (xw : Int) (xk : Nat) (xi : Int) (x1 x2 x3 x4 : Bool) (o : Nat) (w : World) (t : Bool) (h : ((o : Int) == (xo : Int)) = t) :
    Calls Tryd.prog 26 #[.agg #[.int .u8 (xp : Nat), .int .u8 (xm : Nat), .int .u8 (xo : Nat), .bool false, .int .i64 xd, .int .u8 (xdo : Nat), .int .u8 (xcc : Nat), .int .i64 xw, .int .u8 (xk : Nat), .int .i64 xi, .bool x1, .bool x2, .bool x3, .bool x4], .int .u8 (o : Nat)] w fun e w' => e = .returned (.bool t) ∧ Below w.heap.size w w' := by
  go_enter Tryd.func26, Tryd.ntmps26
  go_wp2_with fail
  go_ret
  exact ⟨rfl, (Below.refl _ w).alloc (Nat.le_refl _) _⟩
set_option maxHeartbeats 2000000 in
theorem co_t (xp xm xo : Nat) (xd : Int) (xdo xcc : Nat) (xw : Int) (xk : Nat) (xi : Int) (x1 x2 x3 x4 : Bool) (o : Nat) (w : World) (a b : Int) (E1 : bits .and .u8 (o : Int) 248 = a) (E2 : bits .and .u8 (xo : Int) 248 = b) (t : Bool) (h : (a == b) = t) :
    Calls Tryd.prog 26 #[.agg #[.int .u8 (xp : Nat), .int .u8 (xm : Nat), .int .u8 (xo : Nat), .bool true, .int .i64 xd, .int .u8 (xdo : Nat), .int .u8 (xcc : Nat), .int .i64 xw, .int .u8 (xk : Nat), .int .i64 xi, .bool x1, .bool x2, .bool x3, .bool x4], .int .u8 (o : Nat)] w fun e w' => e = .returned (.bool t) ∧ Below w.heap.size w w' := by
  go_enter Tryd.func26, Tryd.ntmps26
  go_wp2_with fail
  go_ret
  exact ⟨rfl, (Below.refl _ w).alloc (Nat.le_refl _) _⟩
theorem code_any (f : Fm) (o : Nat) (w : World) : Calls Tryd.prog 26 #[Fm.v f, .int .u8 (o : Nat)] w fun e w' => e = .returned (.bool (codeZ f o)) ∧ Below w.heap.size w w' := by
  obtain ⟨xp, xm, xo, xl, xd, xdo, xcc, xw, xk, xi, x1, x2, x3, x4⟩ := f
  cases xl
  · exact co_f xp xm xo xd xdo xcc xw xk xi x1 x2 x3 x4 o w _ rfl
  · exact co_t xp xm xo xd xdo xcc xw xk xi x1 x2 x3 x4 o w _ _ rfl rfl _ rfl
set_option maxHeartbeats 2000000 in
theorem rf_n (xp xm xo : Nat) (xl : Bool) (xd : Int) (xdo xcc : Nat) (xw : Int) (xk : Nat) (xi : Int) (x1 x2 x3 x4 : Bool) (p m o : Nat) (d : Int) (w : World) (h1 : ((xp : Int) == (p : Int)) = false) :
    Calls Tryd.prog 13 #[.agg #[.int .u8 (xp : Nat), .int .u8 (xm : Nat), .int .u8 (xo : Nat), .bool xl, .int .i64 xd, .int .u8 (xdo : Nat), .int .u8 (xcc : Nat), .int .i64 xw, .int .u8 (xk : Nat), .int .i64 xi, .bool x1, .bool x2, .bool x3, .bool x4], .int .u8 (p : Nat), .int .u8 (m : Nat), .int .u8 (o : Nat), .int .i64 d] w fun e w' => e = .returned (.bool false) ∧ Below w.heap.size w w' := by
  go_enter Tryd.func13, Tryd.ntmps13
  go_wp2_with fail
  go_ret
  exact ⟨rfl, (Below.refl _ w).alloc (Nat.le_refl _) _⟩
set_option maxHeartbeats 2000000 in
theorem rf_yn (xp xm xo : Nat) (xl : Bool) (xd : Int) (xdo xcc : Nat) (xw : Int) (xk : Nat) (xi : Int) (x1 x2 x3 x4 : Bool) (p m o : Nat) (d : Int) (w : World) (h1 : ((xp : Int) == (p : Int)) = true) (h2 : ((xm : Int) == (m : Int)) = false) :
    Calls Tryd.prog 13 #[.agg #[.int .u8 (xp : Nat), .int .u8 (xm : Nat), .int .u8 (xo : Nat), .bool xl, .int .i64 xd, .int .u8 (xdo : Nat), .int .u8 (xcc : Nat), .int .i64 xw, .int .u8 (xk : Nat), .int .i64 xi, .bool x1, .bool x2, .bool x3, .bool x4], .int .u8 (p : Nat), .int .u8 (m : Nat), .int .u8 (o : Nat), .int .i64 d] w fun e w' => e = .returned (.bool false) ∧ Below w.heap.size w w' := by
  go_enter Tryd.func13, Tryd.ntmps13
  go_wp2_with fail
  go_ret
  exact ⟨rfl, (Below.refl _ w).alloc (Nat.le_refl _) _⟩
set_option maxHeartbeats 2000000 in
theorem rf_yyn (xp xm xo : Nat) (xl : Bool) (xd : Int) (xdo xcc : Nat) (xw : Int) (xk : Nat) (xi : Int) (x1 x2 x3 x4 : Bool) (p m o : Nat) (d : Int) (w : World) (h1 : ((xp : Int) == (p : Int)) = true) (h2 : ((xm : Int) == (m : Int)) = true) (hC : ∀ w : World, Calls Tryd.prog 26 #[.agg #[.int .u8 (xp : Nat), .int .u8 (xm : Nat), .int .u8 (xo : Nat), .bool xl, .int .i64 xd, .int .u8 (xdo : Nat), .int .u8 (xcc : Nat), .int .i64 xw, .int .u8 (xk : Nat), .int .i64 xi, .bool x1, .bool x2, .bool x3, .bool x4], .int .u8 (o : Nat)] w fun e w' => e = .returned (.bool false) ∧ Below w.heap.size w w') :
    Calls Tryd.prog 13 #[.agg #[.int .u8 (xp : Nat), .int .u8 (xm : Nat), .int .u8 (xo : Nat), .bool xl, .int .i64 xd, .int .u8 (xdo : Nat), .int .u8 (xcc : Nat), .int .i64 xw, .int .u8 (xk : Nat), .int .i64 xi, .bool x1, .bool x2, .bool x3, .bool x4], .int .u8 (p : Nat), .int .u8 (m : Nat), .int .u8 (o : Nat), .int .i64 d] w fun e w' => e = .returned (.bool false) ∧ Below w.heap.size w w' := by
  have HC := Lib.hid hC
  clear hC
  go_enter Tryd.func13, Tryd.ntmps13
  go_wp2_with fail
  go_at_call 26
  (with_reducible refine (HC.out _).mono ?_)
  rintro e w2 ⟨rfl, hb⟩
  have hc4 : w2.cell? ⟨w.heap.size, 4, none⟩ = some (.int .i64 xd) := (hb.cell (p := ⟨w.heap.size, 4, none⟩) (by simp)).trans (by go_simp)
  have hB := Lib.hid (((Below.refl _ w).alloc (Nat.le_refl _) _).trans (hb.mono (by simp)))
  clear hb HC
  go_wp2_with fail
  go_ret
  exact ⟨rfl, hB.out⟩
set_option maxHeartbeats 2000000 in
theorem rf_yyyy (xp xm xo : Nat) (xl : Bool) (xd : Int) (xdo xcc : Nat) (xw : Int) (xk : Nat) (xi : Int) (x1 x2 x3 x4 : Bool) (p m o : Nat) (d : Int) (w : World) (h1 : ((xp : Int) == (p : Int)) = true) (h2 : ((xm : Int) == (m : Int)) = true) (hC : ∀ w : World, Calls Tryd.prog 26 #[.agg #[.int .u8 (xp : Nat), .int .u8 (xm : Nat), .int .u8 (xo : Nat), .bool xl, .int .i64 xd, .int .u8 (xdo : Nat), .int .u8 (xcc : Nat), .int .i64 xw, .int .u8 (xk : Nat), .int .i64 xi, .bool x1, .bool x2, .bool x3, .bool x4], .int .u8 (o : Nat)] w fun e w' => e = .returned (.bool true) ∧ Below w.heap.size w w') (h3 : (xd == -1) = true) :
    Calls Tryd.prog 13 #[.agg #[.int .u8 (xp : Nat), .int .u8 (xm : Nat), .int .u8 (xo : Nat), .bool xl, .int .i64 xd, .int .u8 (xdo : Nat), .int .u8 (xcc : Nat), .int .i64 xw, .int .u8 (xk : Nat), .int .i64 xi, .bool x1, .bool x2, .bool x3, .bool x4], .int .u8 (p : Nat), .int .u8 (m : Nat), .int .u8 (o : Nat), .int .i64 d] w fun e w' => e = .returned (.bool true) ∧ Below w.heap.size w w' := by
  have HC := Lib.hid hC
  clear hC
  go_enter Tryd.func13, Tryd.ntmps13
  go_wp2_with fail
  go_at_call 26
  (with_reducible refine (HC.out _).mono ?_)
  rintro e w2 ⟨rfl, hb⟩
  have hc4 : w2.cell? ⟨w.heap.size, 4, none⟩ = some (.int .i64 xd) := (hb.cell (p := ⟨w.heap.size, 4, none⟩) (by simp)).trans (by go_simp)
  have hB := Lib.hid (((Below.refl _ w).alloc (Nat.le_refl _) _).trans (hb.mono (by simp)))
  clear hb HC
  go_wp2_with fail
  go_ret
  exact ⟨rfl, hB.out⟩
set_option maxHeartbeats 2000000 in
theorem rf_yyyn (xp xm xo : Nat) (xl : Bool) (xd : Int) (xdo xcc : Nat) (xw : Int) (xk : Nat) (xi : Int) (x1 x2 x3 x4 : Bool) (p m o : Nat) (d : Int) (w : World) (h1 : ((xp : Int) == (p : Int)) = true) (h2 : ((xm : Int) == (m : Int)) = true) (hC : ∀ w : World, Calls Tryd.prog 26 #[.agg #[.int .u8 (xp : Nat), .int .u8 (xm : Nat), .int .u8 (xo : Nat), .bool xl, .int .i64 xd, .int .u8 (xdo : Nat), .int .u8 (xcc : Nat), .int .i64 xw, .int .u8 (xk : Nat), .int .i64 xi, .bool x1, .bool x2, .bool x3, .bool x4], .int .u8 (o : Nat)] w fun e w' => e = .returned (.bool true) ∧ Below w.heap.size w w') (h3 : (xd == -1) = false) (t : Bool) (h4 : (xd == d) = t) :
    Calls Tryd.prog 13 #[.agg #[.int .u8 (xp : Nat), .int .u8 (xm : Nat), .int .u8 (xo : Nat), .bool xl, .int .i64 xd, .int .u8 (xdo : Nat), .int .u8 (xcc : Nat), .int .i64 xw, .int .u8 (xk : Nat), .int .i64 xi, .bool x1, .bool x2, .bool x3, .bool x4], .int .u8 (p : Nat), .int .u8 (m : Nat), .int .u8 (o : Nat), .int .i64 d] w fun e w' => e = .returned (.bool t) ∧ Below w.heap.size w w' := by
  have HC := Lib.hid hC
  clear hC
  go_enter Tryd.func13, Tryd.ntmps13
  go_wp2_with fail
  go_at_call 26
  (with_reducible refine (HC.out _).mono ?_)
  rintro e w2 ⟨rfl, hb⟩
  have hc4 : w2.cell? ⟨w.heap.size, 4, none⟩ = some (.int .i64 xd) := (hb.cell (p := ⟨w.heap.size, 4, none⟩) (by simp)).trans (by go_simp)
  have hB := Lib.hid (((Below.refl _ w).alloc (Nat.le_refl _) _).trans (hb.mono (by simp)))
  clear hb HC
  go_wp2_with fail
  go_ret
  exact ⟨rfl, hB.out⟩
theorem rfits_any (f : Fm) (p m o : Nat) (d : Int) (w : World) :
    Calls Tryd.prog 13 #[Fm.v f, .int .u8 (p : Nat), .int .u8 (m : Nat), .int .u8 (o : Nat), .int .i64 d] w fun e w' => e = .returned (.bool (rfitsZ f p m o d)) ∧ Below w.heap.size w w' := by
  have hC := fun w => code_any f o w
  unfold rfitsZ
  generalize codeZ f o = c at hC
  obtain ⟨xp, xm, xo, xl, xd, xdo, xcc, xw, xk, xi, x1, x2, x3, x4⟩ := f
  show Calls _ _ _ _ fun e w' => e = .returned (.bool ((xp : Int) == (p : Int) && ((xm : Int) == (m : Int) && (c && (xd == -1 || xd == d))))) ∧ _
  cases h1 : ((xp : Int) == (p : Int))
  · exact rf_n xp xm xo xl xd xdo xcc xw xk xi x1 x2 x3 x4 p m o d w h1
  cases h2 : ((xm : Int) == (m : Int))
  · exact rf_yn xp xm xo xl xd xdo xcc xw xk xi x1 x2 x3 x4 p m o d w h1 h2
  cases c
  · exact rf_yyn xp xm xo xl xd xdo xcc xw xk xi x1 x2 x3 x4 p m o d w h1 h2 hC
  cases h3 : (xd == -1)
  · exact rf_yyyn xp xm xo xl xd xdo xcc xw xk xi x1 x2 x3 x4 p m o d w h1 h2 hC h3 _ rfl
  · exact rf_yyyy xp xm xo xl xd xdo xcc xw xk xi x1 x2 x3 x4 p m o d w h1 h2 hC h3
end Go.Proofs.YtaeehinlgmijgaaDoor
