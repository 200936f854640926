/- codes.stands, codes.Fits. -/
import Derived.Test.YtaeehinlgmijgaaDoorEa
namespace Go.Proofs.YtaeehinlgmijgaaDoor
open Go.RowKit Go.Shelf
set_option linter.unusedVariables false
set_option linter.unusedSimpArgs false
attribute [local go_sem] Oper.semAt_some
def opq (f : Fm) (o : Nat) : Nat := if f.plus then o / 8 * 8 + f.o % 8 else o
def standsB (f : Fm) (p m o : Nat) : Bool := f.p == p && (f.m == m && f.o == opq f o)
def fitsB (f : Fm) (p m o : Nat) (d : Int) : Bool := standsB f p m o && (f.d == -1 || f.d == d)
theorem low7 : ∀ (a : Fin 256), bits .and .u8 (a.val : Int) 7 = ((a.val % 8 : Nat) : Int) := by decide +kernel
theorem high7 : ∀ (a : Fin 256), bits .andNot .u8 (a.val : Int) 7 = ((a.val / 8 * 8 : Nat) : Int) := by decide +kernel
theorem join7 : ∀ (a : Fin 32) (b : Fin 8), bits .or .u8 ((a.val * 8 : Nat) : Int) (b.val : Int) = ((a.val * 8 + b.val : Nat) : Int) := by decide +kernel
theorem opq_bits (a b : Nat) (ha : a < 256) (hb : b < 256) : bits .or .u8 (bits .andNot .u8 (a : Int) 7) (bits .and .u8 (b : Int) 7) = ((a / 8 * 8 + b % 8 : Nat) : Int) := by
  rw [low7 ⟨b, hb⟩, high7 ⟨a, ha⟩]
  exact join7 ⟨a / 8, by omega⟩ ⟨b % 8, by omega⟩
theorem eqB (a b : Nat) : ((a : Int) == (b : Int)) = (a == b) := by
  by_cases h : a = b
  · rw [h, beq_self_eq_true, beq_self_eq_true]
  · rw [beq_eq_false_iff_ne.2 h, beq_eq_false_iff_ne.2 (show (a : Int) ≠ (b : Int) by omega)]
set_option maxRecDepth 100000 in
set_option maxHeartbeats 4000000 in
theorem st_f_n (xp xm xo : Nat) (xd : Int) (xdo xcc : Nat) (xw : Int) (xk : Nat) (xi : Int) (x1 x2 x3 x4 : Bool) (p m o : Nat) (w : World) (h1 : ((xp : Int) == (p : Int)) = false) :
    Calls Tryd.prog 25 #[.agg #[.int .u8 (xp : Nat), .int .u8 (xm : Nat), .int .u8 (xo : Nat), .bool false, .int .i64 xd, .int .u8 (xdo : Nat), .int .u8 (xcc : Nat), .int .i64 xw, .int .u8 (xk : Nat), .int .i64 xi, .bool x1, .bool x2, .bool x3, .bool x4], .int .u8 (p : Nat), .int .u8 (m : Nat), .int .u8 (o : Nat)] w fun e w' => e = .returned (.bool false) ∧ Below w.heap.size w w' := by
  go_enter Tryd.func25, Tryd.ntmps25
  go_wp
  go_ret
  exact ⟨rfl, (Below.refl _ w).alloc (Nat.le_refl _) _⟩
theorem st_f_yn (xp xm xo : Nat) (xd : Int) (xdo xcc : Nat) (xw : Int) (xk : Nat) (xi : Int) (x1 x2 x3 x4 : Bool) (p m o : Nat) (w : World) (h1 : ((xp : Int) == (p : Int)) = true) (h2 : ((xm : Int) == (m : Int)) = false) :
    Calls Tryd.prog 25 #[.agg #[.int .u8 (xp : Nat), .int .u8 (xm : Nat), .int .u8 (xo : Nat), .bool false, .int .i64 xd, .int .u8 (xdo : Nat), .int .u8 (xcc : Nat), .int .i64 xw, .int .u8 (xk : Nat), .int .i64 xi, .bool x1, .bool x2, .bool x3, .bool x4], .int .u8 (p : Nat), .int .u8 (m : Nat), .int .u8 (o : Nat)] w fun e w' => e = .returned (.bool false) ∧ Below w.heap.size w w' := by
  go_enter Tryd.func25, Tryd.ntmps25
  go_wp
  go_ret
  exact ⟨rfl, (Below.refl _ w).alloc (Nat.le_refl _) _⟩
theorem st_f_yy (xp xm xo : Nat) (xd : Int) (xdo xcc : Nat) (xw : Int) (xk : Nat) (xi : Int) (x1 x2 x3 x4 : Bool) (p m o : Nat) (w : World) (h1 : ((xp : Int) == (p : Int)) = true) (h2 : ((xm : Int) == (m : Int)) = true) (t : Bool) (h3 : ((xo : Int) == (o : Int)) = t) :
    Calls Tryd.prog 25 #[.agg #[.int .u8 (xp : Nat), .int .u8 (xm : Nat), .int .u8 (xo : Nat), .bool false, .int .i64 xd, .int .u8 (xdo : Nat), .int .u8 (xcc : Nat), .int .i64 xw, .int .u8 (xk : Nat), .int .i64 xi, .bool x1, .bool x2, .bool x3, .bool x4], .int .u8 (p : Nat), .int .u8 (m : Nat), .int .u8 (o : Nat)] w fun e w' => e = .returned (.bool t) ∧ Below w.heap.size w w' := by
  go_enter Tryd.func25, Tryd.ntmps25
  go_wp
  go_ret
  exact ⟨rfl, (Below.refl _ w).alloc (Nat.le_refl _) _⟩
theorem st_t_n (xp xm xo : Nat) (xd : Int) (xdo xcc : Nat) (xw : Int) (xk : Nat) (xi : Int) (x1 x2 x3 x4 : Bool) (p m o : Nat) (w : World) (q : Int) (h1 : ((xp : Int) == (p : Int)) = false) (E : bits .or .u8 (bits .andNot .u8 (o : Int) 7) (bits .and .u8 (xo : Int) 7) = q) :
    Calls Tryd.prog 25 #[.agg #[.int .u8 (xp : Nat), .int .u8 (xm : Nat), .int .u8 (xo : Nat), .bool true, .int .i64 xd, .int .u8 (xdo : Nat), .int .u8 (xcc : Nat), .int .i64 xw, .int .u8 (xk : Nat), .int .i64 xi, .bool x1, .bool x2, .bool x3, .bool x4], .int .u8 (p : Nat), .int .u8 (m : Nat), .int .u8 (o : Nat)] w fun e w' => e = .returned (.bool false) ∧ Below w.heap.size w w' := by
  go_enter Tryd.func25, Tryd.ntmps25
  go_wp
  go_ret
  exact ⟨rfl, (Below.refl _ w).alloc (Nat.le_refl _) _⟩
theorem st_t_yn (xp xm xo : Nat) (xd : Int) (xdo xcc : Nat) (xw : Int) (xk : Nat) (xi : Int) (x1 x2 x3 x4 : Bool) (p m o : Nat) (w : World) (q : Int) (h1 : ((xp : Int) == (p : Int)) = true) (h2 : ((xm : Int) == (m : Int)) = false) (E : bits .or .u8 (bits .andNot .u8 (o : Int) 7) (bits .and .u8 (xo : Int) 7) = q) :
    Calls Tryd.prog 25 #[.agg #[.int .u8 (xp : Nat), .int .u8 (xm : Nat), .int .u8 (xo : Nat), .bool true, .int .i64 xd, .int .u8 (xdo : Nat), .int .u8 (xcc : Nat), .int .i64 xw, .int .u8 (xk : Nat), .int .i64 xi, .bool x1, .bool x2, .bool x3, .bool x4], .int .u8 (p : Nat), .int .u8 (m : Nat), .int .u8 (o : Nat)] w fun e w' => e = .returned (.bool false) ∧ Below w.heap.size w w' := by
  go_enter Tryd.func25, Tryd.ntmps25
  go_wp
  go_ret
  exact ⟨rfl, (Below.refl _ w).alloc (Nat.le_refl _) _⟩
theorem st_t_yy (xp xm xo : Nat) (xd : Int) (xdo xcc : Nat) (xw : Int) (xk : Nat) (xi : Int) (x1 x2 x3 x4 : Bool) (p m o : Nat) (w : World) (q : Int) (h1 : ((xp : Int) == (p : Int)) = true) (h2 : ((xm : Int) == (m : Int)) = true) (t : Bool) (h3 : ((xo : Int) == (q : Int)) = t) (E : bits .or .u8 (bits .andNot .u8 (o : Int) 7) (bits .and .u8 (xo : Int) 7) = q) :
    Calls Tryd.prog 25 #[.agg #[.int .u8 (xp : Nat), .int .u8 (xm : Nat), .int .u8 (xo : Nat), .bool true, .int .i64 xd, .int .u8 (xdo : Nat), .int .u8 (xcc : Nat), .int .i64 xw, .int .u8 (xk : Nat), .int .i64 xi, .bool x1, .bool x2, .bool x3, .bool x4], .int .u8 (p : Nat), .int .u8 (m : Nat), .int .u8 (o : Nat)] w fun e w' => e = .returned (.bool t) ∧ Below w.heap.size w w' := by
  go_enter Tryd.func25, Tryd.ntmps25
  go_wp
  go_ret
  exact ⟨rfl, (Below.refl _ w).alloc (Nat.le_refl _) _⟩
def opz (f : Fm) (o : Nat) : Int := if f.plus then bits .or .u8 (bits .andNot .u8 (o : Int) 7) (bits .and .u8 (f.o : Int) 7) else (o : Int)
def standsZ (f : Fm) (p m o : Nat) : Bool := (f.p : Int) == (p : Int) && ((f.m : Int) == (m : Int) && (f.o : Int) == opz f o)
def fitsZ (f : Fm) (p m o : Nat) (d : Int) : Bool := standsZ f p m o && (f.d == -1 || f.d == d)
theorem standsZ_eq (f : Fm) (p m o : Nat) (hf : f.o < 256) (ho : o < 256) : standsZ f p m o = standsB f p m o := by
  unfold standsZ standsB
  have : opz f o = ((opq f o : Nat) : Int) := by
    unfold opz opq
    cases f.plus
    · rfl
    · exact opq_bits o f.o ho hf
  rw [this, eqB, eqB, eqB]
theorem fitsZ_eq (f : Fm) (p m o : Nat) (d : Int) (hf : f.o < 256) (ho : o < 256) : fitsZ f p m o d = fitsB f p m o d := by
  unfold fitsZ fitsB; rw [standsZ_eq f p m o hf ho]
theorem stands_any (f : Fm) (p m o : Nat) (w : World) :
    Calls Tryd.prog 25 #[Fm.v f, .int .u8 (p : Nat), .int .u8 (m : Nat), .int .u8 (o : Nat)] w fun e w' => e = .returned (.bool (standsZ f p m o)) ∧ Below w.heap.size w w' := by
  obtain ⟨xp, xm, xo, xl, xd, xdo, xcc, xw, xk, xi, x1, x2, x3, x4⟩ := f
  show Calls _ _ _ _ fun e w' => e = .returned (.bool ((xp : Int) == (p : Int) && ((xm : Int) == (m : Int) && (xo : Int) == opz (xp, xm, xo, xl, xd, xdo, xcc, xw, xk, xi, x1, x2, x3, x4) o))) ∧ _
  cases h1 : ((xp : Int) == (p : Int))
  · cases xl
    · exact st_f_n xp xm xo xd xdo xcc xw xk xi x1 x2 x3 x4 p m o w h1
    · exact st_t_n xp xm xo xd xdo xcc xw xk xi x1 x2 x3 x4 p m o w _ h1 rfl
  · cases h2 : ((xm : Int) == (m : Int))
    · cases xl
      · exact st_f_yn xp xm xo xd xdo xcc xw xk xi x1 x2 x3 x4 p m o w h1 h2
      · exact st_t_yn xp xm xo xd xdo xcc xw xk xi x1 x2 x3 x4 p m o w _ h1 h2 rfl
    · cases xl
      · exact st_f_yy xp xm xo xd xdo xcc xw xk xi x1 x2 x3 x4 p m o w h1 h2 _ rfl
      · exact st_t_yy xp xm xo xd xdo xcc xw xk xi x1 x2 x3 x4 p m o w _ h1 h2 _ rfl rfl
theorem fi_n (xp xm xo : Nat) (xl : Bool) (xd : Int) (xdo xcc : Nat) (xw : Int) (xk : Nat) (xi : Int) (x1 x2 x3 x4 : Bool) (p m o : Nat) (d : Int) (w : World) (hC : ∀ w : World, Calls Tryd.prog 25 #[.agg #[.int .u8 (xp : Nat), .int .u8 (xm : Nat), .int .u8 (xo : Nat), .bool xl, .int .i64 xd, .int .u8 (xdo : Nat), .int .u8 (xcc : Nat), .int .i64 xw, .int .u8 (xk : Nat), .int .i64 xi, .bool x1, .bool x2, .bool x3, .bool x4], .int .u8 (p : Nat), .int .u8 (m : Nat), .int .u8 (o : Nat)] w fun e w' => e = .returned (.bool false) ∧ Below w.heap.size w w') :
    Calls Tryd.prog 12 #[.agg #[.int .u8 (xp : Nat), .int .u8 (xm : Nat), .int .u8 (xo : Nat), .bool xl, .int .i64 xd, .int .u8 (xdo : Nat), .int .u8 (xcc : Nat), .int .i64 xw, .int .u8 (xk : Nat), .int .i64 xi, .bool x1, .bool x2, .bool x3, .bool x4], .int .u8 (p : Nat), .int .u8 (m : Nat), .int .u8 (o : Nat), .int .i64 d] w fun e w' => e = .returned (.bool false) ∧ Below w.heap.size w w' := by
  have HC := Lib.hid hC
  clear hC
  go_enter Tryd.func12, Tryd.ntmps12
  go_wp2_with fail
  go_at_call 25
  (with_reducible refine (HC.out _).mono ?_)
  rintro e w2 ⟨rfl, hb⟩
  have hc4 : w2.cell? ⟨w.heap.size, 4, none⟩ = some (.int .i64 xd) := (hb.cell (p := ⟨w.heap.size, 4, none⟩) (by simp)).trans (by go_simp)
  have hB := Lib.hid (((Below.refl _ w).alloc (Nat.le_refl _) _).trans (hb.mono (by simp)))
  clear hb HC
  go_wp2_with fail
  go_ret
  exact ⟨rfl, hB.out⟩
theorem fi_yy (xp xm xo : Nat) (xl : Bool) (xd : Int) (xdo xcc : Nat) (xw : Int) (xk : Nat) (xi : Int) (x1 x2 x3 x4 : Bool) (p m o : Nat) (d : Int) (w : World) (hC : ∀ w : World, Calls Tryd.prog 25 #[.agg #[.int .u8 (xp : Nat), .int .u8 (xm : Nat), .int .u8 (xo : Nat), .bool xl, .int .i64 xd, .int .u8 (xdo : Nat), .int .u8 (xcc : Nat), .int .i64 xw, .int .u8 (xk : Nat), .int .i64 xi, .bool x1, .bool x2, .bool x3, .bool x4], .int .u8 (p : Nat), .int .u8 (m : Nat), .int .u8 (o : Nat)] w fun e w' => e = .returned (.bool true) ∧ Below w.heap.size w w') (h1 : (xd == -1) = true) :
    Calls Tryd.prog 12 #[.agg #[.int .u8 (xp : Nat), .int .u8 (xm : Nat), .int .u8 (xo : Nat), .bool xl, .int .i64 xd, .int .u8 (xdo : Nat), .int .u8 (xcc : Nat), .int .i64 xw, .int .u8 (xk : Nat), .int .i64 xi, .bool x1, .bool x2, .bool x3, .bool x4], .int .u8 (p : Nat), .int .u8 (m : Nat), .int .u8 (o : Nat), .int .i64 d] w fun e w' => e = .returned (.bool true) ∧ Below w.heap.size w w' := by
  have HC := Lib.hid hC
  clear hC
  go_enter Tryd.func12, Tryd.ntmps12
  go_wp2_with fail
  go_at_call 25
  (with_reducible refine (HC.out _).mono ?_)
  rintro e w2 ⟨rfl, hb⟩
  have hc4 : w2.cell? ⟨w.heap.size, 4, none⟩ = some (.int .i64 xd) := (hb.cell (p := ⟨w.heap.size, 4, none⟩) (by simp)).trans (by go_simp)
  have hB := Lib.hid (((Below.refl _ w).alloc (Nat.le_refl _) _).trans (hb.mono (by simp)))
  clear hb HC
  go_wp2_with fail
  go_ret
  exact ⟨rfl, hB.out⟩
theorem fi_yn (xp xm xo : Nat) (xl : Bool) (xd : Int) (xdo xcc : Nat) (xw : Int) (xk : Nat) (xi : Int) (x1 x2 x3 x4 : Bool) (p m o : Nat) (d : Int) (w : World) (hC : ∀ w : World, Calls Tryd.prog 25 #[.agg #[.int .u8 (xp : Nat), .int .u8 (xm : Nat), .int .u8 (xo : Nat), .bool xl, .int .i64 xd, .int .u8 (xdo : Nat), .int .u8 (xcc : Nat), .int .i64 xw, .int .u8 (xk : Nat), .int .i64 xi, .bool x1, .bool x2, .bool x3, .bool x4], .int .u8 (p : Nat), .int .u8 (m : Nat), .int .u8 (o : Nat)] w fun e w' => e = .returned (.bool true) ∧ Below w.heap.size w w') (h1 : (xd == -1) = false) (t : Bool) (h2 : (xd == d) = t) :
    Calls Tryd.prog 12 #[.agg #[.int .u8 (xp : Nat), .int .u8 (xm : Nat), .int .u8 (xo : Nat), .bool xl, .int .i64 xd, .int .u8 (xdo : Nat), .int .u8 (xcc : Nat), .int .i64 xw, .int .u8 (xk : Nat), .int .i64 xi, .bool x1, .bool x2, .bool x3, .bool x4], .int .u8 (p : Nat), .int .u8 (m : Nat), .int .u8 (o : Nat), .int .i64 d] w fun e w' => e = .returned (.bool t) ∧ Below w.heap.size w w' := by
  have HC := Lib.hid hC
  clear hC
  go_enter Tryd.func12, Tryd.ntmps12
  go_wp2_with fail
  go_at_call 25
  (with_reducible refine (HC.out _).mono ?_)
  rintro e w2 ⟨rfl, hb⟩
  have hc4 : w2.cell? ⟨w.heap.size, 4, none⟩ = some (.int .i64 xd) := (hb.cell (p := ⟨w.heap.size, 4, none⟩) (by simp)).trans (by go_simp)
  have hB := Lib.hid (((Below.refl _ w).alloc (Nat.le_refl _) _).trans (hb.mono (by simp)))
  clear hb HC
  go_wp2_with fail
  go_ret
  exact ⟨rfl, hB.out⟩
theorem fits_any (f : Fm) (p m o : Nat) (d : Int) (w : World) :
    Calls Tryd.prog 12 #[Fm.v f, .int .u8 (p : Nat), .int .u8 (m : Nat), .int .u8 (o : Nat), .int .i64 d] w fun e w' => e = .returned (.bool (fitsZ f p m o d)) ∧ Below w.heap.size w w' := by
  have hC := fun w => stands_any f p m o w
  unfold fitsZ
  obtain ⟨xp, xm, xo, xl, xd, xdo, xcc, xw, xk, xi, x1, x2, x3, x4⟩ := f
  cases hs : standsZ (xp, xm, xo, xl, xd, xdo, xcc, xw, xk, xi, x1, x2, x3, x4) p m o
  · rw [hs] at hC
    exact fi_n xp xm xo xl xd xdo xcc xw xk xi x1 x2 x3 x4 p m o d w hC
  · rw [hs] at hC
    show Calls _ _ _ _ fun e w' => e = .returned (.bool (true && ((xd == -1) || (xd == d)))) ∧ _
    cases h1 : (xd == -1)
    · exact fi_yn xp xm xo xl xd xdo xcc xw xk xi x1 x2 x3 x4 p m o d w hC h1 _ rfl
    · exact fi_yy xp xm xo xl xd xdo xcc xw xk xi x1 x2 x3 x4 p m o d w hC h1
end Go.Proofs.YtaeehinlgmijgaaDoor
