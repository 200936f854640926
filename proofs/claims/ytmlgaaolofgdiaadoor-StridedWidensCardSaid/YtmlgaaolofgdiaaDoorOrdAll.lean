/- The law StridedOrder, of any three sets, any width. -/
import Derived.Test.YtmlgaaolofgdiaaDoorOrdT
import Derived.Test.YtmlgaaolofgdiaaDoorOrdF
import Derived.Test.YtmlgaaolofgdiaaDoorOrdO
namespace Go.Proofs.YtmlgaaolofgdiaaDoor
open Go.RowKit SM
theorem u_of_rt {a : St} (h : Rt a) (u : U a.h) : U a.s ∧ U a.l := by
  unfold U at *
  rcases h with ⟨h0, h1⟩ | h1 | ⟨h0, h1, h2⟩
  · omega
  · rw [h1]; decide
  · have := Nat.le_of_dvd (by omega) h2; omega
theorem u_join {a b : St} (ua : U a.h) (ub : U b.h) : U (joinS a b).h := by
  unfold joinS jn U at *
  split
  · exact ub
  · split
    · exact ua
    · dsimp only; omega
theorem u_cut {m : Nat} {a : St} (hm : m < 18446744073709551616) (ua : U a.h) : U (cutS m a).h := by
  unfold cutS oneS allS U at *
  split
  · dsimp only; have := Nat.mod_lt a.l (show 0 < m + 1 by omega); omega
  · split
    · dsimp only; omega
    · exact ua
theorem of_h (l h s : Nat) (u : U h) : U (ofS l h s).h := by
  unfold ofS noneS oneS U at *
  split
  · decide
  · split <;> (dsimp only; omega)
theorem u_add {m : Nat} {a b : St} (hm : m < 18446744073709551616) : U (addS m a b).h := by
  unfold addS
  split
  · unfold U noneS; decide
  · split
    · unfold U oneS; dsimp only; have := Nat.mod_lt ((a.l + b.l) % 18446744073709551616) (show 0 < m + 1 by omega); omega
    · split
      · exact hm
      · exact of_h _ _ _ (by unfold U; omega)
theorem u_sub {m : Nat} {a b : St} (hm : m < 18446744073709551616) (ua : U a.h) : U (subS m a b).h := by
  unfold subS
  split
  · unfold U noneS; decide
  · split
    · unfold U oneS; dsimp only; have := Nat.mod_lt ((a.l + 18446744073709551616 - b.l) % 18446744073709551616) (show 0 < m + 1 by omega); omega
    · split
      · exact hm
      · refine of_h _ _ _ ?_
        have := u_cut (a := a) hm ua
        unfold U at *; omega
theorem cutS_A {m : Nat} (a : St) : cutS m a = cutA m a := by
  unfold cutA
  split
  · rename_i h; rw [h]; rfl
  · rfl
/-- A set that may be, of words. -/
structure G (a : St) : Prop where
  r : Rt a
  s : U a.s
  l : U a.l
  h : U a.h
theorem g_of {a : St} (h : Rt a) (u : U a.h) : G a := ⟨h, (u_of_rt h u).1, (u_of_rt h u).2, u⟩
theorem c_join {w : World} {a b : St} (ga : G a) (gb : G b) : Hid (∀ W, Below w.heap.size w W → Calls Tryd.prog 10 #[stv a, stv b] W fun e w2 => e = .returned (stv (joinS a b)) ∧ Below W.heap.size W w2) :=
  Lib.hid fun W _ => join_any a.s a.l a.h b.s b.l b.h ga.s ga.l ga.h gb.s gb.l gb.h ga.r gb.r W
theorem c_add {w : World} (hm : Mk w) {a b : St} (ga : G a) (gb : G b) (wd : Int) : Hid (∀ W, Below w.heap.size w W → Calls Tryd.prog 18 #[stv a, stv b, .int .i64 wd] W fun e w2 => e = .returned (stv (addS (mN wd) a b)) ∧ Below W.heap.size W w2) :=
  Lib.hid fun W hb => add_any a.s a.l a.h b.s b.l b.h wd ga.l ga.h gb.l gb.h ga.r gb.r W (hm.own hb)
theorem c_sub {w : World} (hm : Mk w) {a b : St} (ga : G a) (gb : G b) (wd : Int) : Hid (∀ W, Below w.heap.size w W → Calls Tryd.prog 19 #[stv a, stv b, .int .i64 wd] W fun e w2 => e = .returned (stv (subS (mN wd) a b)) ∧ Below W.heap.size W w2) :=
  Lib.hid fun W hb => sub_any a.s a.l a.h b.s b.l b.h wd ga.l ga.h gb.l gb.h ga.r gb.r W (hm.own hb)
theorem c_cut {w : World} (hm : Mk w) {a : St} (ga : G a) (wd : Int) : Hid (∀ W, Below w.heap.size w W → Calls Tryd.prog 20 #[stv a, .int .i64 wd] W fun e w2 => e = .returned (stv (cutA (mN wd) a)) ∧ Below W.heap.size W w2) :=
  Lib.hid fun W hb => by rw [← cutS_A]; exact cut_any a.s a.l a.h wd ga.l ga.h ga.r W (hm.own hb)
theorem c_in {w : World} {a b : St} (ga : G a) (gb : G b) {B : Bool} (e : decide (inP a b) = B) : Hid (∀ W, Below w.heap.size w W → Calls Tryd.prog 11 #[stv a, stv b] W fun e w2 => e = .returned (.bool B) ∧ Below W.heap.size W w2) :=
  Lib.hid fun W _ => by rw [← e]; exact in_any a.s a.l a.h b.s b.l b.h ga.h gb.h ga.r gb.r W
theorem c_wakes {w : World} (hm : Mk w) : Hid (∀ W, Below w.heap.size w W → Calls Tryd.prog 8 #[] W fun e w2 => e = .returned (.bool true) ∧ Below W.heap.size W w2) :=
  Lib.hid fun W hb => wakes_any W (hm.own hb)
theorem order_true' (a b c i o u x z y n q f g d : St) (wd : Int) (w : World)
    (HR1 : Hid (∀ W, Calls Tryd.prog 6 #[stv a] W fun e w' => e = .returned (.bool true) ∧ Below W.heap.size W w'))
    (HR2 : Hid (∀ W, Calls Tryd.prog 6 #[stv b] W fun e w' => e = .returned (.bool true) ∧ Below W.heap.size W w'))
    (HR3 : Hid (∀ W, Calls Tryd.prog 6 #[stv c] W fun e w' => e = .returned (.bool true) ∧ Below W.heap.size W w'))
    (HJ1 : Hid (∀ W, Below w.heap.size w W → Calls Tryd.prog 10 #[stv a, stv b] W fun e w2 => e = .returned (stv i) ∧ Below W.heap.size W w2))
    (HJ2 : Hid (∀ W, Below w.heap.size w W → Calls Tryd.prog 10 #[stv i, stv c] W fun e w2 => e = .returned (stv o) ∧ Below W.heap.size W w2))
    (HJ3 : Hid (∀ W, Below w.heap.size w W → Calls Tryd.prog 10 #[stv c, stv b] W fun e w2 => e = .returned (stv u) ∧ Below W.heap.size W w2))
    (HJ4 : Hid (∀ W, Below w.heap.size w W → Calls Tryd.prog 10 #[stv a, stv u] W fun e w2 => e = .returned (stv o) ∧ Below W.heap.size W w2))
    (HA1 : Hid (∀ W, Below w.heap.size w W → Calls Tryd.prog 18 #[stv a, stv b, .int .i64 wd] W fun e w2 => e = .returned (stv x) ∧ Below W.heap.size W w2))
    (HA2 : Hid (∀ W, Below w.heap.size w W → Calls Tryd.prog 18 #[stv b, stv a, .int .i64 wd] W fun e w2 => e = .returned (stv x) ∧ Below W.heap.size W w2))
    (HI1 : Hid (∀ W, Below w.heap.size w W → Calls Tryd.prog 11 #[stv a, stv o] W fun e w2 => e = .returned (.bool true) ∧ Below W.heap.size W w2))
    (HIB : Hid (∀ W, Below w.heap.size w W → Calls Tryd.prog 11 #[stv a, stv b] W fun e w2 => e = .returned (.bool true) ∧ Below W.heap.size W w2))
    (HC1 : Hid (∀ W, Below w.heap.size w W → Calls Tryd.prog 20 #[stv a, .int .i64 wd] W fun e w2 => e = .returned (stv z) ∧ Below W.heap.size W w2))
    (HC3 : Hid (∀ W, Below w.heap.size w W → Calls Tryd.prog 20 #[stv z, .int .i64 wd] W fun e w2 => e = .returned (stv z) ∧ Below W.heap.size W w2))
    (HW : Hid (∀ W, Below w.heap.size w W → Calls Tryd.prog 8 #[] W fun e w2 => e = .returned (.bool true) ∧ Below W.heap.size W w2))
    (HJ5 : Hid (∀ W, Below w.heap.size w W → Calls Tryd.prog 10 #[stv b, stv c] W fun e w2 => e = .returned (stv y) ∧ Below W.heap.size W w2))
    (HI3 : Hid (∀ W, Below w.heap.size w W → Calls Tryd.prog 11 #[stv a, stv y] W fun e w2 => e = .returned (.bool true) ∧ Below W.heap.size W w2))
    (HA3 : Hid (∀ W, Below w.heap.size w W → Calls Tryd.prog 18 #[stv a, stv c, .int .i64 wd] W fun e w2 => e = .returned (stv n) ∧ Below W.heap.size W w2))
    (HA4 : Hid (∀ W, Below w.heap.size w W → Calls Tryd.prog 18 #[stv b, stv c, .int .i64 wd] W fun e w2 => e = .returned (stv q) ∧ Below W.heap.size W w2))
    (HI4 : Hid (∀ W, Below w.heap.size w W → Calls Tryd.prog 11 #[stv n, stv q] W fun e w2 => e = .returned (.bool true) ∧ Below W.heap.size W w2))
    (HS1 : Hid (∀ W, Below w.heap.size w W → Calls Tryd.prog 19 #[stv a, stv c, .int .i64 wd] W fun e w2 => e = .returned (stv f) ∧ Below W.heap.size W w2))
    (HS2 : Hid (∀ W, Below w.heap.size w W → Calls Tryd.prog 19 #[stv b, stv c, .int .i64 wd] W fun e w2 => e = .returned (stv g) ∧ Below W.heap.size W w2))
    (HI5 : Hid (∀ W, Below w.heap.size w W → Calls Tryd.prog 11 #[stv f, stv g] W fun e w2 => e = .returned (.bool true) ∧ Below W.heap.size W w2))
    (HC2 : Hid (∀ W, Below w.heap.size w W → Calls Tryd.prog 20 #[stv b, .int .i64 wd] W fun e w2 => e = .returned (stv d) ∧ Below W.heap.size W w2))
    (HI6 : Hid (∀ W, Below w.heap.size w W → Calls Tryd.prog 11 #[stv z, stv d] W fun e w2 => e = .returned (.bool true) ∧ Below W.heap.size W w2))
    :
    Calls Tryd.prog 5 #[stv a, stv b, stv c, .int .i64 wd] w fun e w' => e = .returned (.bool true) ∧ Below w.heap.size w w' :=
  order_true a.s a.l a.h b.s b.l b.h c.s c.l c.h i.s i.l i.h o.s o.l o.h u.s u.l u.h x.s x.l x.h z.s z.l z.h y.s y.l y.h n.s n.l n.h q.s q.l q.h f.s f.l f.h g.s g.l g.h d.s d.l d.h wd w HR1 HR2 HR3 HJ1 HJ2 HJ3 HJ4 HA1 HA2 HI1 HIB HC1 HC3 HW HJ5 HI3 HA3 HA4 HI4 HS1 HS2 HI5 HC2 HI6
theorem order_false' (a b c i o u x z : St) (wd : Int) (w : World)
    (HR1 : Hid (∀ W, Calls Tryd.prog 6 #[stv a] W fun e w' => e = .returned (.bool true) ∧ Below W.heap.size W w'))
    (HR2 : Hid (∀ W, Calls Tryd.prog 6 #[stv b] W fun e w' => e = .returned (.bool true) ∧ Below W.heap.size W w'))
    (HR3 : Hid (∀ W, Calls Tryd.prog 6 #[stv c] W fun e w' => e = .returned (.bool true) ∧ Below W.heap.size W w'))
    (HJ1 : Hid (∀ W, Below w.heap.size w W → Calls Tryd.prog 10 #[stv a, stv b] W fun e w2 => e = .returned (stv i) ∧ Below W.heap.size W w2))
    (HJ2 : Hid (∀ W, Below w.heap.size w W → Calls Tryd.prog 10 #[stv i, stv c] W fun e w2 => e = .returned (stv o) ∧ Below W.heap.size W w2))
    (HJ3 : Hid (∀ W, Below w.heap.size w W → Calls Tryd.prog 10 #[stv c, stv b] W fun e w2 => e = .returned (stv u) ∧ Below W.heap.size W w2))
    (HJ4 : Hid (∀ W, Below w.heap.size w W → Calls Tryd.prog 10 #[stv a, stv u] W fun e w2 => e = .returned (stv o) ∧ Below W.heap.size W w2))
    (HA1 : Hid (∀ W, Below w.heap.size w W → Calls Tryd.prog 18 #[stv a, stv b, .int .i64 wd] W fun e w2 => e = .returned (stv x) ∧ Below W.heap.size W w2))
    (HA2 : Hid (∀ W, Below w.heap.size w W → Calls Tryd.prog 18 #[stv b, stv a, .int .i64 wd] W fun e w2 => e = .returned (stv x) ∧ Below W.heap.size W w2))
    (HI1 : Hid (∀ W, Below w.heap.size w W → Calls Tryd.prog 11 #[stv a, stv o] W fun e w2 => e = .returned (.bool true) ∧ Below W.heap.size W w2))
    (HIB : Hid (∀ W, Below w.heap.size w W → Calls Tryd.prog 11 #[stv a, stv b] W fun e w2 => e = .returned (.bool false) ∧ Below W.heap.size W w2))
    (HC1 : Hid (∀ W, Below w.heap.size w W → Calls Tryd.prog 20 #[stv a, .int .i64 wd] W fun e w2 => e = .returned (stv z) ∧ Below W.heap.size W w2))
    (HC3 : Hid (∀ W, Below w.heap.size w W → Calls Tryd.prog 20 #[stv z, .int .i64 wd] W fun e w2 => e = .returned (stv z) ∧ Below W.heap.size W w2))
    (HW : Hid (∀ W, Below w.heap.size w W → Calls Tryd.prog 8 #[] W fun e w2 => e = .returned (.bool true) ∧ Below W.heap.size W w2))
    :
    Calls Tryd.prog 5 #[stv a, stv b, stv c, .int .i64 wd] w fun e w' => e = .returned (.bool true) ∧ Below w.heap.size w w' :=
  order_false a.s a.l a.h b.s b.l b.h c.s c.l c.h i.s i.l i.h o.s o.l o.h u.s u.l u.h x.s x.l x.h z.s z.l z.h wd w HR1 HR2 HR3 HJ1 HJ2 HJ3 HJ4 HA1 HA2 HI1 HIB HC1 HC3 HW
set_option maxHeartbeats 1000000 in
theorem order_right (a b c : St) (ga : G a) (gb : G b) (gc : G c) (wd : Int) (w : World) (hm : Mk w) :
    Calls Tryd.prog 5 #[stv a, stv b, stv c, .int .i64 wd] w fun e w' => e = .returned (.bool true) ∧ Below w.heap.size w w' := by
  obtain ⟨m1, m2, m3⟩ := mN_fin wd
  have mp : 1 ≤ mN wd := by omega
  have ml : mN wd < 18446744073709551616 := by omega
  have r1 := Lib.hid fun W => rr_dec a.s a.l a.h ga.h (decide_eq_true (show Rt ⟨a.s, a.l, a.h⟩ from ga.r)) W
  have r2 := Lib.hid fun W => rr_dec b.s b.l b.h gb.h (decide_eq_true (show Rt ⟨b.s, b.l, b.h⟩ from gb.r)) W
  have r3 := Lib.hid fun W => rr_dec c.s c.l c.h gc.h (decide_eq_true (show Rt ⟨c.s, c.l, c.h⟩ from gc.r)) W
  have gj := g_of (ga.r.join gb.r) (u_join ga.h gb.h)
  have gu := g_of (gc.r.join gb.r) (u_join gc.h gb.h)
  have go := g_of (gj.r.join gc.r) (u_join gj.h gc.h)
  have gs := g_of (ga.r.cutA mp) (by rw [← cutS_A]; exact u_cut ml ga.h)
  have hj4 : Hid (∀ W, Below w.heap.size w W → Calls Tryd.prog 10 #[stv a, stv (joinS c b)] W fun e w2 => e = .returned (stv (joinS (joinS a b) c)) ∧ Below W.heap.size W w2) := by
    rw [join_assoc ga.r gb.r gc.r]; exact c_join ga gu
  have ha2 : Hid (∀ W, Below w.heap.size w W → Calls Tryd.prog 18 #[stv b, stv a, .int .i64 wd] W fun e w2 => e = .returned (stv (addS (mN wd) a b)) ∧ Below W.heap.size W w2) := by
    rw [add_comm]; exact c_add hm gb ga wd
  have hc3 : Hid (∀ W, Below w.heap.size w W → Calls Tryd.prog 20 #[stv (cutA (mN wd) a), .int .i64 wd] W fun e w2 => e = .returned (stv (cutA (mN wd) a)) ∧ Below W.heap.size W w2) := by
    have := c_cut hm gs wd
    rw [cutA_cutA mp ga.r] at this; exact this
  have hin := in_trans ga.r gj.r go.r (in_join_left ga.r gb.r) (in_join_left gj.r gc.r)
  by_cases h : inP a b
  · have gy := g_of (gb.r.join gc.r) (u_join gb.h gc.h)
    have gn := g_of (ga.r.add (b := c) mp gc.r) (u_add ml)
    have ge := g_of (gb.r.add (b := c) mp gc.r) (u_add ml)
    have gf := g_of (ga.r.sub (b := c) mp gc.r) (u_sub ml ga.h)
    have gg := g_of (gb.r.sub (b := c) mp gc.r) (u_sub ml gb.h)
    have gd := g_of (gb.r.cutA mp) (by rw [← cutS_A]; exact u_cut ml gb.h)
    exact order_true' a b c (joinS a b) (joinS (joinS a b) c) (joinS c b) (addS (mN wd) a b) (cutA (mN wd) a) (joinS b c) (addS (mN wd) a c) (addS (mN wd) b c) (subS (mN wd) a c) (subS (mN wd) b c) (cutA (mN wd) b) wd w r1 r2 r3
      (c_join ga gb) (c_join gj gc) (c_join gc gb) hj4 (c_add hm ga gb wd) ha2 (c_in ga go (decide_eq_true hin)) (c_in ga gb (decide_eq_true h)) (c_cut hm ga wd) hc3 (c_wakes hm)
      (c_join gb gc) (c_in ga gy (decide_eq_true (in_trans ga.r gb.r gy.r h (in_join_left gb.r gc.r)))) (c_add hm ga gc wd) (c_add hm gb gc wd) (c_in gn ge (decide_eq_true (in_add mp m3 ga.r gb.r gc.r h)))
      (c_sub hm ga gc wd) (c_sub hm gb gc wd) (c_in gf gg (decide_eq_true (in_sub mp m3 ga.r gb.r gc.r gc.h h))) (c_cut hm gb wd) (c_in gs gd (decide_eq_true (in_cut mp ga.r gb.r h)))
  · exact order_false' a b c (joinS a b) (joinS (joinS a b) c) (joinS c b) (addS (mN wd) a b) (cutA (mN wd) a) wd w r1 r2 r3
      (c_join ga gb) (c_join gj gc) (c_join gc gb) hj4 (c_add hm ga gb wd) ha2 (c_in ga go (decide_eq_true hin)) (c_in ga gb (decide_eq_false h)) (c_cut hm ga wd) hc3 (c_wakes hm)
theorem order_any (s l h t m k p q r : Nat) (wd : Int) (us : U s) (ul : U l) (uh : U h) (ut : U t) (um : U m) (uk : U k) (up : U p) (uq : U q) (ur : U r) (w : World) (hm : Mk w) :
    Calls Tryd.prog 5 #[sv s l h, sv t m k, sv p q r, .int .i64 wd] w fun e w' => e = .returned (.bool true) ∧ Below w.heap.size w w' := by
  by_cases ha : Rt ⟨s, l, h⟩
  · by_cases hb : Rt ⟨t, m, k⟩
    · by_cases hc : Rt ⟨p, q, r⟩
      · exact order_right ⟨s, l, h⟩ ⟨t, m, k⟩ ⟨p, q, r⟩ ⟨ha, us, ul, uh⟩ ⟨hb, ut, um, uk⟩ ⟨hc, up, uq, ur⟩ wd w hm
      · exact order_out3 s l h t m k p q r wd w (Lib.hid fun W => rr_dec s l h uh (decide_eq_true ha) W) (Lib.hid fun W => rr_dec t m k uk (decide_eq_true hb) W) (Lib.hid fun W => rr_dec p q r ur (decide_eq_false hc) W) (c_wakes hm)
    · exact order_out2 s l h t m k p q r wd w (Lib.hid fun W => rr_dec s l h uh (decide_eq_true ha) W) (Lib.hid fun W => rr_dec t m k uk (decide_eq_false hb) W) (c_wakes hm)
  · exact order_out1 s l h t m k p q r wd w (Lib.hid fun W => rr_dec s l h uh (decide_eq_false ha) W) (c_wakes hm)
theorem order_law (s l h t m k p q r : Nat) (wd : Int) (us : U s) (ul : U l) (uh : U h) (ut : U t) (um : U m) (uk : U k) (up : U p) (uq : U q) (ur : U r) (_ : (Lit.int .i64 wd).wf = true) (w : World) (hm : Mk w) :
    Calls Tryd.prog 5 #[sv s l h, sv t m k, sv p q r, .int .i64 wd] w fun e w' => e = .returned (.bool true) ∧ Below w.heap.size w w' :=
  order_any s l h t m k p q r wd us ul uh ut um uk up uq ur w hm
end Go.Proofs.YtmlgaaolofgdiaaDoor
