/- The walk of OperandParts. -/
import Derived.Test.YtkpnafgmjcnniaaDoorPa
import Derived.Test.YtkpnafgmjcnniaaDoorUs
namespace Go.Proofs.YtkpnafgmjcnniaaDoor
open Go.RowKit
set_option linter.unusedVariables false
set_option linter.unusedSimpArgs false
set_option maxRecDepth 100000 in
theorem pl_out (sp : Option Addr) (n cap : Nat) (R : Int) (w : World) (hm : Mk w) (h : (20 : Int) < n) :
    Calls Tryd.prog 6 #[.slice sp n cap, .int .u8 R] w fun e w' => e = .returned (.bool true) ∧ Below w.heap.size w w' := by
  have HM := Lib.hid hm
  clear hm
  go_enter Tryd.func6, Tryd.ntmps6
  go_wp2_with (go_at_call 12; refine (wakes_any _ HM.out).mono ?_; rintro e w3 ⟨rfl, hb3⟩)
  go_ret
  exact ⟨rfl, hb3⟩
set_option maxRecDepth 100000 in
set_option maxHeartbeats 4000000 in
theorem pl_none (sp : Option Addr) (n cap : Nat) (R R7 : Int) (w : World) (hm : Mk w) (h20 : (n : Int) ≤ 20) (e7 : bits .and .u8 R 7 = R7)
    (h1 : ∀ W, Below w.heap.size w W → Calls Tryd.prog 13 #[.slice sp n cap, .int .u8 R] W fun e w' => e = .returned (.tuple #[.int .i64 0, ov 0 0 0 0 0 0 false 0, .int .i64 0, .int .i64 80]) ∧ Below W.heap.size W w')
    (h2 : ∀ W, Below w.heap.size w W → Calls Tryd.prog 13 #[.slice sp n cap, .int .u8 R7] W fun e w' => e = .returned (.tuple #[.int .i64 0, ov 0 0 0 0 0 0 false 0, .int .i64 0, .int .i64 80]) ∧ Below W.heap.size W w')
    (h3 : ∀ W, Below w.heap.size w W → Calls Tryd.prog 13 #[.slice sp n cap, .int .u8 0] W fun e w' => e = .returned (.tuple #[.int .i64 0, ov 0 0 0 0 0 0 false 0, .int .i64 0, .int .i64 80]) ∧ Below W.heap.size W w') :
    Calls Tryd.prog 6 #[.slice sp n cap, .int .u8 R] w fun e w' => e = .returned (.bool true) ∧ Below w.heap.size w w' := by
  have HM := Lib.hid hm
  have H1 := Lib.hid h1
  have H2 := Lib.hid h2
  have H3 := Lib.hid h3
  clear hm h1 h2 h3
  go_enter Tryd.func6, Tryd.ntmps6
  go_wp2_with fail
  go_at_call 13
  with_reducible refine (H1.out _ (Below.refl _ _)).mono ?_
  rintro e w1 ⟨rfl, hb1⟩
  have HB1 := Lib.hid (hb1.alloc (o := ob 0 0 0 0 0 0 false 0) hb1.size)
  have HO1 := Lib.hid (O8.new w1 0 0 0 0 0 0 false 0)
  clear hb1
  go_upto_region 4 with fail
  generalize World.alloc w1 _ = V1 at *
  generalize w1.heap.size = b1 at *
  go_wp2_with fail
  go_at_call 13
  with_reducible refine (H2.out _ HB1.out).mono ?_
  rintro e w2 ⟨rfl, hb2⟩
  have hc2 := HB1.out.trans (hb2.mono HB1.out.size)
  have HB2 := Lib.hid (hc2.alloc (o := ob 0 0 0 0 0 0 false 0) hc2.size)
  have HO2 := Lib.hid ((HO1.out.keep hb2).keep ((Below.refl _ _).alloc (Nat.le_refl _) (ob 0 0 0 0 0 0 false 0)))
  have HP2 := Lib.hid (O8.new w2 0 0 0 0 0 0 false 0)
  clear hb2 hc2 HO1 HB1
  go_upto_region 5 with fail
  generalize World.alloc w2 _ = V2 at *
  generalize w2.heap.size = b2 at *
  go_wp2_with fail
  go_at_call 13
  with_reducible refine (H3.out _ HB2.out).mono ?_
  rintro e w3 ⟨rfl, hb3⟩
  have hc3 := HB2.out.trans (hb3.mono HB2.out.size)
  have HB3 := Lib.hid (hc3.alloc (o := ob 0 0 0 0 0 0 false 0) hc3.size)
  have HO3 := Lib.hid ((HO2.out.keep hb3).keep ((Below.refl _ _).alloc (Nat.le_refl _) (ob 0 0 0 0 0 0 false 0)))
  have HP3 := Lib.hid ((HP2.out.keep hb3).keep ((Below.refl _ _).alloc (Nat.le_refl _) (ob 0 0 0 0 0 0 false 0)))
  have HQ3 := Lib.hid (O8.new w3 0 0 0 0 0 0 false 0)
  clear hb3 hc3 HO2 HP2 HB2
  go_upto_region 6 with fail
  generalize World.alloc w3 _ = V3 at *
  generalize w3.heap.size = b3 at *
  obtain ⟨c0, c1, c2, c3, c4, c5, c6, c7⟩ := HO3.out.c
  obtain ⟨d0, d1, d2, d3, d4, d5, d6, d7⟩ := HP3.out.c
  obtain ⟨g0, g1, g2, g3, g4, g5, g6, g7⟩ := HQ3.out.c
  go_wp2_with (go_at_call 12; refine (wakes_any _ (HM.out.below HB3.out)).mono ?_; rintro e w5 ⟨rfl, hb5⟩)
  go_ret
  exact ⟨rfl, HB3.out.trans (hb5.mono HB3.out.size)⟩
end Go.Proofs.YtkpnafgmjcnniaaDoor
