/- The walk of OperandParts. -/
import Derived.Test.YtkpnafgmjcnniaaDoorPa
import Derived.Test.YtkpnafgmjcnniaaDoorUs
import Derived.LoopN
namespace Go.Proofs.YtkpnafgmjcnniaaDoor
open Go.RowKit
set_option linter.unusedVariables false
set_option linter.unusedSimpArgs false
set_option maxRecDepth 100000 in
set_option maxHeartbeats 16000000 in
theorem pl_some0 (sp : Option Addr) (n cap : Nat) (R R7 Q t x2 : Int) (kk : Nat) (k r b i s d : Int) (p : Bool) (m r' b' i' s' m' : Int) (w : World) (hm : Mk w) (h20 : (n : Int) ≤ 20) (e7 : bits .and .u8 R 7 = R7) (e2 : bits .and .u8 (R / 4) 1 = x2) (z0 : 0 ≤ x2) (z1 : x2 ≤ 1) (t0 : 0 ≤ t) (t1 : t ≤ 7) (hQ : Q = t + 8 * x2)
    (ur0 : 0 ≤ r') (ur1 : r' ≤ 15) (ub0 : -1 ≤ b') (ub1 : b' ≤ 15) (ui0 : -1 ≤ i') (ui1 : i' ≤ 15) (hr : r = r' ∨ r = r' + 8) (hb : b = b' ∨ b = b' + 8) (hi : i = i' ∨ i = i' + 8 ∨ (i' = -1 ∧ i = 12))
    (h1 : ∀ W, Below w.heap.size w W → Calls Tryd.prog 13 #[.slice sp n cap, .int .u8 R] W fun e w' => e = .returned (.tuple #[.int .i64 Q, ov k r b i s d p m, .int .i64 kk, .int .i64 0]) ∧ Below W.heap.size W w')
    (h2 : ∀ W, Below w.heap.size w W → Calls Tryd.prog 13 #[.slice sp n cap, .int .u8 R7] W fun e w' => e = .returned (.tuple #[.int .i64 Q, ov k r b i s d p m, .int .i64 kk, .int .i64 0]) ∧ Below W.heap.size W w')
    (h3 : ∀ W, Below w.heap.size w W → Calls Tryd.prog 13 #[.slice sp n cap, .int .u8 0] W fun e w' => e = .returned (.tuple #[.int .i64 t, ov k r' b' i' s' d p m', .int .i64 kk, .int .i64 0]) ∧ Below W.heap.size W w')
    (hU : ∀ W, Calls Tryd.prog 21 #[ov k r b i s d p m] W fun e w' => (∃ v, e = .returned v ∧ (∃ sp' cap', v = .slice sp' 0 cap')) ∧ Below W.heap.size W w') :
    Calls Tryd.prog 6 #[.slice sp n cap, .int .u8 R] w fun e w' => e = .returned (.bool true) ∧ Below w.heap.size w w' := by
  have HM := Lib.hid hm
  have H1 := Lib.hid h1
  have H2 := Lib.hid h2
  have H3 := Lib.hid h3
  have HU := Lib.hid hU
  have HQ := Lib.hid hQ
  have HR := Lib.hid hr
  have HBb := Lib.hid hb
  have HI := Lib.hid hi
  clear hm h1 h2 h3 hU hQ hr hb hi
  go_enter Tryd.func6, Tryd.ntmps6
  go_wp2_with fail
  go_at_call 13
  with_reducible refine (H1.out _ (Below.refl _ _)).mono ?_
  rintro e w1 ⟨rfl, hb1⟩
  have HB1 := Lib.hid (hb1.alloc (o := ob k r b i s d p m) hb1.size)
  have HO1 := Lib.hid (O8.new w1 k r b i s d p m)
  clear hb1
  go_upto_region 4 with fail
  generalize World.alloc w1 _ = V1 at *
  generalize w1.heap.size = b1 at *
  go_wp2_with fail
  go_at_call 13
  with_reducible refine (H2.out _ HB1.out).mono ?_
  rintro e w2 ⟨rfl, hb2⟩
  have hc2 := HB1.out.trans (hb2.mono HB1.out.size)
  have HB2 := Lib.hid (hc2.alloc (o := ob k r b i s d p m) hc2.size)
  have HO2 := Lib.hid ((HO1.out.keep hb2).keep ((Below.refl _ _).alloc (Nat.le_refl _) (ob k r b i s d p m)))
  have HP2 := Lib.hid (O8.new w2 k r b i s d p m)
  clear hb2 hc2 HO1 HB1
  go_upto_region 5 with fail
  generalize World.alloc w2 _ = V2 at *
  generalize w2.heap.size = b2 at *
  go_wp2_with fail
  go_at_call 13
  with_reducible refine (H3.out _ HB2.out).mono ?_
  rintro e w3 ⟨rfl, hb3⟩
  have hc3 := HB2.out.trans (hb3.mono HB2.out.size)
  have HB3 := Lib.hid (hc3.alloc (o := ob k r' b' i' s' d p m') hc3.size)
  have HO3 := Lib.hid ((HO2.out.keep hb3).keep ((Below.refl _ _).alloc (Nat.le_refl _) (ob k r' b' i' s' d p m')))
  have HP3 := Lib.hid ((HP2.out.keep hb3).keep ((Below.refl _ _).alloc (Nat.le_refl _) (ob k r' b' i' s' d p m')))
  have HQ3 := Lib.hid (O8.new w3 k r' b' i' s' d p m')
  clear hb3 hc3 HO2 HP2 HB2
  go_upto_region 6 with fail
  generalize World.alloc w3 _ = V3 at *
  generalize w3.heap.size = b3 at *
  obtain ⟨c0, c1, c2, c3, c4, c5, c6, c7⟩ := HO3.out.c
  obtain ⟨d0, d1, d2, d3, d4, d5, d6, d7⟩ := HP3.out.c
  obtain ⟨g0, g1, g2, g3, g4, g5, g6, g7⟩ := HQ3.out.c
  go_wp2_with (go_at_call 21; subst_vars; (with_reducible refine (HU.out _).mono ?_); rintro e w4 ⟨⟨v, rfl, ⟨sq, cq, rfl⟩⟩, hb4⟩; have HB4 := Lib.hid (HB3.out.trans (hb4.mono HB3.out.size)); have HO4 := Lib.hid (HO3.out.keep hb4); have HQ4 := Lib.hid (HQ3.out.keep hb4); clear hb4 c0 c1 c2 c3 c4 c5 c6 c7 d0 d1 d2 d3 d4 d5 d6 d7 g0 g1 g2 g3 g4 g5 g6 g7; obtain ⟨c0, c1, c2, c3, c4, c5, c6, c7⟩ := HO4.out.c; obtain ⟨g0, g1, g2, g3, g4, g5, g6, g7⟩ := HQ4.out.c)
  all_goals try (refine wp_loop_rounds 3 ?_; repeat any_goals (rw [rounds_succ]; go_wp2_with (go_at_call 12; refine (wakes_any _ (HM.out.below HB4.out)).mono ?_; rintro e w5 ⟨rfl, hb5⟩)))
  all_goals
    first
    | (go_ret; exact ⟨rfl, HB4.out.trans (hb5.mono HB4.out.size)⟩)
    | (exfalso
       try clear z0 z1
       first
       | (have q3 := HI.out; omega)
       | (have q2 := HBb.out; omega)
       | (have q1 := HR.out; omega)
       | (have q4 := HQ.out; omega)
       | (rename_i hla; simp only [bne_iff_ne, ne_eq] at hla; have q2 := HBb.out; omega))
    | fail "open"
end Go.Proofs.YtkpnafgmjcnniaaDoor
