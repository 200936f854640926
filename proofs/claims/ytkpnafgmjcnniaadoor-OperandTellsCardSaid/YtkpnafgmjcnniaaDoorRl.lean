/- The walk of OperandRight. -/
import Derived.Test.YtkpnafgmjcnniaaDoorPa
import Derived.Test.YtkpnafgmjcnniaaDoorRr
namespace Go.Proofs.YtkpnafgmjcnniaaDoor
open Go.RowKit
set_option linter.unusedVariables false
set_option linter.unusedSimpArgs false
theorem rl_out (sp : Option Addr) (n cap : Nat) (R : Int) (w : World) (hm : Mk w) (h : (20 : Int) < n) :
    Calls Tryd.prog 5 #[.slice sp n cap, .int .u8 R] w fun e w' => e = .returned (.bool true) ∧ Below w.heap.size w w' := by
  have HM := Lib.hid hm
  clear hm
  go_enter Tryd.func5, Tryd.ntmps5
  go_wp2_with (go_at_call 12; refine (wakes_any _ HM.out).mono ?_; rintro e w3 ⟨rfl, hb3⟩)
  go_ret
  exact ⟨rfl, hb3⟩
set_option maxRecDepth 100000 in
set_option maxHeartbeats 4000000 in
theorem rl_none (sp : Option Addr) (n cap : Nat) (R : Int) (w : World) (hm : Mk w) (h : (n : Int) < 6)
    (hT : Calls Tryd.prog 13 #[.slice sp n cap, .int .u8 R] w fun e w' => e = .returned (.tuple #[.int .i64 0, ov 0 0 0 0 0 0 false 0, .int .i64 0, .int .i64 80]) ∧ Below w.heap.size w w') :
    Calls Tryd.prog 5 #[.slice sp n cap, .int .u8 R] w fun e w' => e = .returned (.bool true) ∧ Below w.heap.size w w' := by
  have HM := Lib.hid hm
  have HT := Lib.hid hT
  have h20 : (n : Int) ≤ 20 := by omega
  clear hm hT
  go_enter Tryd.func5, Tryd.ntmps5
  go_wp2_with fail
  go_at_call 13
  with_reducible refine HT.out.mono ?_
  rintro e w1 ⟨rfl, hb1⟩
  have HB := Lib.hid (hb1.alloc (o := ob 0 0 0 0 0 0 false 0) hb1.size)
  clear hb1
  go_wp2_with (go_at_call 12; refine (wakes_any _ (HM.out.below HB.out)).mono ?_; rintro e w3 ⟨rfl, hb3⟩)
  go_ret
  exact ⟨rfl, HB.out.trans (hb3.mono HB.out.size)⟩
set_option maxRecDepth 100000 in
set_option maxHeartbeats 8000000 in
theorem rl_some (sp : Option Addr) (n cap : Nat) (R : Int) (Q k r b i s d : Int) (p : Bool) (m : Int) (kk c : Nat) (f : Nat → Int) (R2 : Int) (w : World) (hm : Mk w) (h20 : (n : Int) ≤ 20) (q0 : 0 ≤ Q) (q1 : Q < 16) (k1 : (1 : Int) ≤ kk) (k2 : (kk : Int) ≤ n) (k3 : (c : Int) ≤ kk)
    (hT : Calls Tryd.prog 13 #[.slice sp n cap, .int .u8 R] w fun e w' => e = .returned (.tuple #[.int .i64 Q, ov k r b i s d p m, .int .i64 kk, .int .i64 0]) ∧ Below w.heap.size w w')
    (hP : ∀ W, Mk W → Calls Tryd.prog 15 #[.int .i64 Q, ov k r b i s d p m] W fun e w' => PutR W c f R2 e w')
    (hT2 : ∀ W g cap2, Mk W → SL W (.slice (some ⟨g, 0, none⟩) c cap2) c f → Calls Tryd.prog 13 #[.slice (some ⟨g, 0, none⟩) c cap2, .int .u8 R2] W fun e w' => e = .returned (.tuple #[.int .i64 Q, ov k r b i s d p m, .int .i64 c, .int .i64 0]) ∧ Below W.heap.size W w')
    (hR : ∀ W, Calls Tryd.prog 19 #[ov k r b i s d p m] W fun e w' => e = .returned (.bool true) ∧ Below W.heap.size W w') :
    Calls Tryd.prog 5 #[.slice sp n cap, .int .u8 R] w fun e w' => e = .returned (.bool true) ∧ Below w.heap.size w w' := by
  have HM := Lib.hid hm
  have HT := Lib.hid hT
  have HP := Lib.hid hP
  have HT2 := Lib.hid hT2
  have HR := Lib.hid hR
  clear hm hT hP hT2 hR
  go_enter Tryd.func5, Tryd.ntmps5
  go_wp2_with fail
  go_at_call 13
  with_reducible refine HT.out.mono ?_
  rintro e w1 ⟨rfl, hb1⟩
  have HB := Lib.hid (hb1.alloc (o := ob k r b i s d p m) hb1.size)
  have HO := Lib.hid (O8.new w1 k r b i s d p m)
  clear hb1
  go_upto_region 4 with fail
  generalize World.alloc w1 _ = V1 at *
  generalize w1.heap.size = b1 at *
  obtain ⟨c0, c1, c2, c3, c4, c5, c6, c7⟩ := HO.out.c
  go_wp2_with fail
  go_at_call 15
  with_reducible refine (HP.out _ (HM.out.below HB.out)).mono ?_
  rintro e w2 ⟨v, rfl, hv, hb2⟩
  have HB2 := Lib.hid (HB.out.trans (hb2.mono HB.out.size))
  have HO2 := Lib.hid (HO.out.keep hb2)
  obtain ⟨g, cap2, rfl, hcap2, hcell⟩ := hv
  have HV := Lib.hid (show SL w2 (.slice (some ⟨g, 0, none⟩) c cap2) c f from ⟨g, cap2, rfl, hcap2, hcell⟩)
  clear hcell hb2 c0 c1 c2 c3 c4 c5 c6 c7 HO HB
  go_wp2_with fail
  go_at_call 13
  with_reducible refine (HT2.out _ _ _ (HM.out.below HB2.out) HV.out).mono ?_
  rintro e w3 ⟨rfl, hb3⟩
  have hB3 := HB2.out.trans (hb3.mono HB2.out.size)
  have HB3 := Lib.hid (hB3.alloc (o := ob k r b i s d p m) hB3.size)
  have HO3 := Lib.hid ((HO2.out.keep hb3).keep ((Below.refl _ _).alloc (Nat.le_refl _) (ob k r b i s d p m)))
  have HN3 := Lib.hid (O8.new w3 k r b i s d p m)
  clear hb3 hB3 HO2 HV HB2
  go_upto_region 8 with fail
  generalize World.alloc w3 _ = V3 at *
  generalize w3.heap.size = b3 at *
  obtain ⟨c0, c1, c2, c3, c4, c5, c6, c7⟩ := HO3.out.c
  go_wp2_with (first | (go_at_call 19; (with_reducible refine (HR.out _).mono ?_); rintro e w4 ⟨rfl, hb4⟩; have HB4 := Lib.hid (HB3.out.trans (hb4.mono HB3.out.size)); have HO4 := Lib.hid (HO3.out.keep hb4); have HN4 := Lib.hid (HN3.out.keep hb4); clear hb4 c0 c1 c2 c3 c4 c5 c6 c7; obtain ⟨c0, c1, c2, c3, c4, c5, c6, c7⟩ := HO4.out.c; obtain ⟨d0, d1, d2, d3, d4, d5, d6, d7⟩ := HN4.out.c) | (go_at_call 12; refine (wakes_any _ (HM.out.below HB4.out)).mono ?_; rintro e w5 ⟨rfl, hb5⟩))
  go_ret
  exact ⟨rfl, HB4.out.trans (hb5.mono HB4.out.size)⟩
end Go.Proofs.YtkpnafgmjcnniaaDoor
