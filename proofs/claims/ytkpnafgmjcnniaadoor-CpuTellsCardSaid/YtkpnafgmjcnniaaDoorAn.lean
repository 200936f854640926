/- The walk of CpuAddress. -/
import Derived.Test.YtkpnafgmjcnniaaDoorAm
import Derived.Test.YtkpnafgmjcnniaaDoorAw
import Derived.Test.YtkpnafgmjcnniaaDoorCv
import Derived.Test.YtkpnafgmjcnniaaDoorRr
import Derived.Test.YtkpnafgmjcnniaaDoorRu
import Derived.BigQuiet
namespace Go.Proofs.YtkpnafgmjcnniaaDoor
open Go.RowKit
set_option linter.unusedVariables false
set_option linter.unusedSimpArgs false
/-- The CPU and the operand, boxed. -/
def AO (w : World) (c : Array Value) (k r b i s d : Int) (p : Bool) (m : Int) (W : World) : Prop := CB W w.heap.size c ∧ O8 W (w.heap.size + 1) k r b i s d p m ∧ Below w.heap.size w W
theorem AO.keep {w W W' : World} {c : Array Value} {k r b i s d : Int} {p : Bool} {m : Int} (h : AO w c k r b i s d p m W) (hb : Below W.heap.size W W') : AO w c k r b i s d p m W' :=
  ⟨h.1.keep hb, h.2.1.keep hb, h.2.2.trans (hb.mono h.2.2.size)⟩
theorem AO.new (w : World) (c : Array Value) (k r b i s d : Int) (p : Bool) (m : Int) : AO w c k r b i s d p m ((w.alloc (.cells c 50)).alloc (ob k r b i s d p m)) := by
  have h1 := O8.new (w.alloc (.cells c 50)) k r b i s d p m
  have h2 := (CB.new w c).keep ((Below.refl _ _).alloc (Nat.le_refl _) (ob k r b i s d p m))
  simp only [World.size_alloc] at h1
  exact ⟨h2, h1, ((Below.refl _ _).alloc (Nat.le_refl _) _).alloc (by simp only [World.size_alloc]; omega) _⟩
theorem AO.b {w W : World} {c : Array Value} {k r b i s d : Int} {p : Bool} {m : Int} (h : AO w c k r b i s d p m W) : Below w.heap.size w W := h.2.2
theorem AO.o {w W : World} {c : Array Value} {k r b i s d : Int} {p : Bool} {m : Int} (h : AO w c k r b i s d p m W) : O8 W (w.heap.size + 1) k r b i s d p m := h.2.1
theorem AO.cp {w W : World} {c : Array Value} {k r b i s d : Int} {p : Bool} {m : Int} (h : AO w c k r b i s d p m W) : CB W w.heap.size c := h.1
set_option maxRecDepth 100000 in
theorem adc_no (c : Array Value) (hs : c.size = 278) (k r b i s d : Int) (p : Bool) (m x y : Int) (w : World) (hm : Mk w) (hk : (k != 2) = true) :
    Calls Tryd.prog 11 #[.agg c, ov k r b i s d p m, .int .u64 x, .int .u64 y] w fun e w' => e = .returned (.bool true) ∧ Below w.heap.size w w' := by
  have HM := Lib.hid hm
  have HA := Lib.hid (AO.new w c k r b i s d p m)
  clear hm
  go_enter Tryd.func11, Tryd.ntmps11
  go_upto_region 1 with fail
  generalize World.alloc (World.alloc _ _) _ = W1 at *
  obtain ⟨c0, c1, c2, c3, c4, c5, c6, c7⟩ := HA.out.o.c
  refine wp_region_list ?_
  refine wpList_load50 rfl rfl rfl HA.out.cp hs ?_
  go_wp2_with fail
  go_at_call 27
  (with_reducible refine (addr_no k r b i s d p m _ c hk W1).mono ?_)
  rintro e w2 ⟨rfl, hb2⟩
  have HA2 := Lib.hid (HA.out.keep hb2)
  clear hb2 c0 c1 c2 c3 c4 c5 c6 c7
  obtain ⟨c0, c1, c2, c3, c4, c5, c6, c7⟩ := HA2.out.o.c
  have HMz := Lib.hid (HM.out.below HA2.out.b)
  go_wp2_with (go_at_call 41; (refine (cwakes_any _ HMz.out).mono ?_); rintro e w6 ⟨rfl, hb6⟩)
  go_ret
  exact ⟨rfl, HA2.out.b.trans (hb6.mono HA2.out.b.size)⟩
set_option maxRecDepth 100000 in
theorem adc_bad (c : Array Value) (hs : c.size = 278) (r b i s d : Int) (p : Bool) (m x y : Int) (w : World) (hm : Mk w) (hr : rB 2 r b i s d p m = false) (hR : ∀ W, Calls Tryd.prog 19 #[ov 2 r b i s d p m] W fun e w' => e = .returned (.bool false) ∧ Below W.heap.size W w') :
    Calls Tryd.prog 11 #[.agg c, ov 2 r b i s d p m, .int .u64 x, .int .u64 y] w fun e w' => e = .returned (.bool true) ∧ Below w.heap.size w w' := by
  have HM := Lib.hid hm
  have HA := Lib.hid (AO.new w c 2 r b i s d p m)
  clear hm
  go_enter Tryd.func11, Tryd.ntmps11
  go_upto_region 1 with fail
  generalize World.alloc (World.alloc _ _) _ = W1 at *
  obtain ⟨c0, c1, c2, c3, c4, c5, c6, c7⟩ := HA.out.o.c
  refine wp_region_list ?_
  refine wpList_load50 rfl rfl rfl HA.out.cp hs ?_
  go_wp2_with fail
  go_at_call 27
  (with_reducible refine (addr_bad r b i s d p m _ c W1 (HM.out.below HA.out.b) hr).mono ?_)
  rintro e w2 ⟨rfl, hb2⟩
  have HA2 := Lib.hid (HA.out.keep hb2)
  clear hb2 c0 c1 c2 c3 c4 c5 c6 c7
  obtain ⟨c0, c1, c2, c3, c4, c5, c6, c7⟩ := HA2.out.o.c
  go_wp2_with fail
  go_at_call 19
  (with_reducible refine (hR _).mono ?_)
  rintro e w3 ⟨rfl, hb3⟩
  have HA3 := Lib.hid (HA2.out.keep hb3)
  clear hb3
  have HMz := Lib.hid (HM.out.below HA3.out.b)
  go_wp2_with (go_at_call 41; (refine (cwakes_any _ HMz.out).mono ?_); rintro e w6 ⟨rfl, hb6⟩)
  go_ret
  exact ⟨rfl, HA3.out.b.trans (hb6.mono HA3.out.b.size)⟩
set_option maxRecDepth 100000 in
set_option maxHeartbeats 4000000 in
theorem adc_f1 (c : Array Value) (R : Nat → Nat) (hc : CPU c R) (b i s d : Int) (x y : Nat) (A L : Int) (n : Nat) (w : World) (hm : Mk w)
    (hA : ∀ W, Mk W → Calls Tryd.prog 27 #[.agg c, ov 2 0 b i s d false 0, .int .u64 (x : Nat)] W fun e w' => e = .returned (.tuple #[.int .u64 A, .int .i64 0]) ∧ Below W.heap.size W w')
    (hL : ∀ W, Mk W → Calls Tryd.prog 27 #[.agg c, ov 2 0 b i s d false 0, .int .u64 (IntKind.u64.wrap ((x : Int) + (y : Int)))] W fun e w' => e = .returned (.tuple #[.int .u64 L, .int .i64 0]) ∧ Below W.heap.size W w')
    (hM : ∀ k : Nat, k < 16 → ∀ W, Mk W → Calls Tryd.prog 27 #[.agg (c.setIfInBounds k (.int .u64 (IntKind.u64.wrap ((R k : Int) + (y : Int))))), ov 2 0 b i s d false 0, .int .u64 (x : Nat)] W fun e w' => e = .returned (.tuple #[.int .u64 (IntKind.u64.wrap (A + mo b i s k y)), .int .i64 0]) ∧ Below W.heap.size W w')
    (hR : ∀ W, Calls Tryd.prog 19 #[ov 2 0 b i s d false 0] W fun e w' => e = .returned (.bool true) ∧ Below W.heap.size W w')
    (hU : ∀ W, Calls Tryd.prog 22 #[ov 2 0 b i s d false 0] W fun e w' => ∃ sp cc, e = .returned (.slice sp n cc) ∧ Below W.heap.size W w')
    (hn : ((n : Int) == 0) = false) (hLA : L = A) :
    Calls Tryd.prog 11 #[.agg c, ov 2 0 b i s d false 0, .int .u64 (x : Nat), .int .u64 (y : Nat)] w fun e w' => e = .returned (.bool true) ∧ Below w.heap.size w w' := by
  have HM := Lib.hid hm
  have HC := Lib.hid hc
  have H27a := Lib.hid hA
  have H27b := Lib.hid hL
  have H27c := Lib.hid hM
  have HA := Lib.hid (AO.new w c 2 0 b i s d false 0)
  have HD : Hid (∀ k : Nat, k < 16 → (c.setIfInBounds k (.int .u64 (IntKind.u64.wrap ((R k : Int) + (y : Int))))).size = 278 ∧ c[k]? = some (.int .u64 (R k : Nat))) := Lib.hid (fun k hk => ⟨by rw [Array.size_setIfInBounds]; exact hc.size, hc.reg k hk⟩)
  clear hm hc hA hL hM
  go_enter Tryd.func11, Tryd.ntmps11
  go_upto_region 1 with fail
  generalize World.alloc (World.alloc _ _) _ = W1 at *
  obtain ⟨c0, c1, c2, c3, c4, c5, c6, c7⟩ := HA.out.o.c
  refine wp_region_list ?_
  refine wpList_load50 rfl rfl rfl HA.out.cp HC.out.size ?_
  go_wp2_with fail
  go_at_call 27
  (with_reducible refine (H27a.out W1 (HM.out.below HA.out.b)).mono ?_)
  rintro e w2 ⟨rfl, hb2⟩
  have HA2 := Lib.hid (HA.out.keep hb2)
  clear hb2 c0 c1 c2 c3 c4 c5 c6 c7 HA
  obtain ⟨c0, c1, c2, c3, c4, c5, c6, c7⟩ := HA2.out.o.c
  go_wp2_with fail
  go_at_call 19
  (with_reducible refine (hR _).mono ?_)
  rintro e w3 ⟨rfl, hb3⟩
  have HA3 := Lib.hid (HA2.out.keep hb3)
  clear hb3 c0 c1 c2 c3 c4 c5 c6 c7 HA2
  obtain ⟨c0, c1, c2, c3, c4, c5, c6, c7⟩ := HA3.out.o.c
  go_wp2_with fail
  go_at_call 22
  (with_reducible refine (hU _).mono ?_)
  rintro e w4 ⟨sp, cc, rfl, hb4⟩
  have HA4 := Lib.hid (HA3.out.keep hb4)
  clear hb4 c0 c1 c2 c3 c4 c5 c6 c7 HA3
  obtain ⟨c0, c1, c2, c3, c4, c5, c6, c7⟩ := HA4.out.o.c
  subst hLA
  go_upto_region 7 with fail
  refine wp_region_list ?_
  refine wpList_load50 rfl rfl rfl HA4.out.cp HC.out.size ?_
  go_wp2_with fail
  go_at_call 27
  (with_reducible refine (H27b.out w4 (HM.out.below HA4.out.b)).mono ?_)
  rintro e w5 ⟨rfl, hb5⟩
  have HA5 := Lib.hid (HA4.out.keep hb5)
  clear hb5 c0 c1 c2 c3 c4 c5 c6 c7 HA4
  obtain ⟨c0, c1, c2, c3, c4, c5, c6, c7⟩ := HA5.out.o.c
  go_wp2_with fail
  clear c0 c1 c2 c3 c4 c5 c6 c7
  go_loopw [14] (fun v W => ∃ k : Nat, k ≤ 16 ∧ v = .int .i64 k ∧ Hid (AO w c 2 0 b i s d false 0 W)) (fun v _ => 16 - (intOf v).toNat)
  case atStart => exact ⟨0, by omega, rfl, HA5⟩
  obtain ⟨k, hk, rfl, HL⟩ := hrel
  by_cases hlt : k < 16
  · go_upto_region 13 with fail
    refine wp_region_list ?_
    refine wpList_load50 rfl rfl rfl HL.out.cp HC.out.size ?_
    go_upto_region 14 with (first | (refine wpList_store50 rfl rfl rfl rfl (CB.new _ _) zc50 HC.out.size HC.out.one ?_) | fail)
    have HB := Lib.hid (row_below wr Tryd.zeroCells50 c)
    have HQ : Hid (CB ((wr.alloc (.cells Tryd.zeroCells50 50)).setRow wr.heap.size c) wr.heap.size c) := Lib.hid (CB.new _ _).row
    generalize World.setRow _ _ _ = W3 at *
    have d1 := (HQ.out.cell k).trans (HD.out k hlt).2
    have d2 := HQ.out.froz k
    go_upto_region 15 with fail
    have HQ2 := Lib.hid (HQ.out.set k (.int .u64 (IntKind.u64.wrap ((R k : Int) + (y : Int)))))
    have HB2 := Lib.hid (HB.out.setCell (p := ⟨wr.heap.size, k, none⟩) (Nat.le_refl _) (.int .u64 (IntKind.u64.wrap ((R k : Int) + (y : Int)))))
    clear d1 d2 HQ HB
    generalize World.setCell _ _ _ = W4 at *
    have HL2 := Lib.hid (HL.out.keep HB2.out)
    clear HB2
    obtain ⟨c0, c1, c2, c3, c4, c5, c6, c7⟩ := HL2.out.o.c
    refine wp_region_list ?_
    refine wpList_load50 rfl rfl rfl HQ2.out (HD.out k hlt).1 ?_
    go_wp2_with fail
    go_at_call 27
    (with_reducible refine (H27c.out k hlt W4 (HM.out.below HL2.out.b)).mono ?_)
    rintro e w6 ⟨rfl, hb6⟩
    have HL3 := Lib.hid (HL2.out.keep hb6)
    clear hb6 c0 c1 c2 c3 c4 c5 c6 c7 HL2
    obtain ⟨c0, c1, c2, c3, c4, c5, c6, c7⟩ := HL3.out.o.c
    by_cases hbk : b = k
    · have hbB : (b == (k : Int)) = true := by simp [hbk]
      by_cases hik : i = k
      · have hiB : (i == (k : Int)) = true := by simp [hik]
        have hmo : mo b i s k y = IntKind.u64.wrap (IntKind.u64.wrap (0 + (y : Int)) + IntKind.u64.wrap ((y : Int) * IntKind.u64.wrap s)) := by simp only [mo, mo1, if_pos hbk, if_pos hik]
        rw [hmo]
        clear hbk hik
        go_wp2_with fail
        go_roundw
        case rel => exact ⟨k + 1, by omega, by go_num, HL3⟩
        case measure => simp [intOf]; omega
      · have hiB : (i == (k : Int)) = false := by simp [hik]
        have hmo : mo b i s k y = IntKind.u64.wrap (0 + (y : Int)) := by simp only [mo, mo1, if_pos hbk, if_neg hik]
        rw [hmo]
        clear hbk hik
        go_wp2_with fail
        go_roundw
        case rel => exact ⟨k + 1, by omega, by go_num, HL3⟩
        case measure => simp [intOf]; omega
    · have hbB : (b == (k : Int)) = false := by simp [hbk]
      by_cases hik : i = k
      · have hiB : (i == (k : Int)) = true := by simp [hik]
        have hmo : mo b i s k y = IntKind.u64.wrap (0 + IntKind.u64.wrap ((y : Int) * IntKind.u64.wrap s)) := by simp only [mo, mo1, if_neg hbk, if_pos hik]
        rw [hmo]
        clear hbk hik
        go_wp2_with fail
        go_roundw
        case rel => exact ⟨k + 1, by omega, by go_num, HL3⟩
        case measure => simp [intOf]; omega
      · have hiB : (i == (k : Int)) = false := by simp [hik]
        have hmo : mo b i s k y = 0 := by simp only [mo, mo1, if_neg hbk, if_neg hik]
        rw [hmo]
        clear hbk hik
        go_wp2_with fail
        go_roundw
        case rel => exact ⟨k + 1, by omega, by go_num, HL3⟩
        case measure => simp [intOf]; omega
  obtain rfl : k = 16 := by omega
  have HMz := Lib.hid (HM.out.below HL.out.b)
  go_wp2_with (go_at_call 41; (refine (cwakes_any _ HMz.out).mono ?_); rintro e w6 ⟨rfl, hb6⟩)
  go_ret
  exact ⟨rfl, HL.out.b.trans (hb6.mono HL.out.b.size)⟩
set_option maxRecDepth 100000 in
set_option maxHeartbeats 4000000 in
theorem adc_f0 (c : Array Value) (R : Nat → Nat) (hc : CPU c R) (b i s d : Int) (x y : Nat) (A L : Int) (n : Nat) (w : World) (hm : Mk w)
    (hA : ∀ W, Mk W → Calls Tryd.prog 27 #[.agg c, ov 2 0 b i s d false 0, .int .u64 (x : Nat)] W fun e w' => e = .returned (.tuple #[.int .u64 A, .int .i64 0]) ∧ Below W.heap.size W w')
    (hL : ∀ W, Mk W → Calls Tryd.prog 27 #[.agg c, ov 2 0 b i s d false 0, .int .u64 (IntKind.u64.wrap ((x : Int) + (y : Int)))] W fun e w' => e = .returned (.tuple #[.int .u64 L, .int .i64 0]) ∧ Below W.heap.size W w')
    (hM : ∀ k : Nat, k < 16 → ∀ W, Mk W → Calls Tryd.prog 27 #[.agg (c.setIfInBounds k (.int .u64 (IntKind.u64.wrap ((R k : Int) + (y : Int))))), ov 2 0 b i s d false 0, .int .u64 (x : Nat)] W fun e w' => e = .returned (.tuple #[.int .u64 (IntKind.u64.wrap (A + mo b i s k y)), .int .i64 0]) ∧ Below W.heap.size W w')
    (hR : ∀ W, Calls Tryd.prog 19 #[ov 2 0 b i s d false 0] W fun e w' => e = .returned (.bool true) ∧ Below W.heap.size W w')
    (hU : ∀ W, Calls Tryd.prog 22 #[ov 2 0 b i s d false 0] W fun e w' => ∃ sp cc, e = .returned (.slice sp n cc) ∧ Below W.heap.size W w')
    (hn : n = 0) (hLA : L = A) (hd : A = IntKind.u64.wrap d) :
    Calls Tryd.prog 11 #[.agg c, ov 2 0 b i s d false 0, .int .u64 (x : Nat), .int .u64 (y : Nat)] w fun e w' => e = .returned (.bool true) ∧ Below w.heap.size w w' := by
  have HM := Lib.hid hm
  have HC := Lib.hid hc
  have H27a := Lib.hid hA
  have H27b := Lib.hid hL
  have H27c := Lib.hid hM
  have HA := Lib.hid (AO.new w c 2 0 b i s d false 0)
  have HD : Hid (∀ k : Nat, k < 16 → (c.setIfInBounds k (.int .u64 (IntKind.u64.wrap ((R k : Int) + (y : Int))))).size = 278 ∧ c[k]? = some (.int .u64 (R k : Nat))) := Lib.hid (fun k hk => ⟨by rw [Array.size_setIfInBounds]; exact hc.size, hc.reg k hk⟩)
  clear hm hc hA hL hM
  go_enter Tryd.func11, Tryd.ntmps11
  go_upto_region 1 with fail
  generalize World.alloc (World.alloc _ _) _ = W1 at *
  obtain ⟨c0, c1, c2, c3, c4, c5, c6, c7⟩ := HA.out.o.c
  refine wp_region_list ?_
  refine wpList_load50 rfl rfl rfl HA.out.cp HC.out.size ?_
  go_wp2_with fail
  go_at_call 27
  (with_reducible refine (H27a.out W1 (HM.out.below HA.out.b)).mono ?_)
  rintro e w2 ⟨rfl, hb2⟩
  have HA2 := Lib.hid (HA.out.keep hb2)
  clear hb2 c0 c1 c2 c3 c4 c5 c6 c7 HA
  obtain ⟨c0, c1, c2, c3, c4, c5, c6, c7⟩ := HA2.out.o.c
  go_wp2_with fail
  go_at_call 19
  (with_reducible refine (hR _).mono ?_)
  rintro e w3 ⟨rfl, hb3⟩
  have HA3 := Lib.hid (HA2.out.keep hb3)
  clear hb3 c0 c1 c2 c3 c4 c5 c6 c7 HA2
  obtain ⟨c0, c1, c2, c3, c4, c5, c6, c7⟩ := HA3.out.o.c
  go_wp2_with fail
  go_at_call 22
  (with_reducible refine (hU _).mono ?_)
  rintro e w4 ⟨sp, cc, rfl, hb4⟩
  have HA4 := Lib.hid (HA3.out.keep hb4)
  clear hb4 c0 c1 c2 c3 c4 c5 c6 c7 HA3
  obtain ⟨c0, c1, c2, c3, c4, c5, c6, c7⟩ := HA4.out.o.c
  subst hLA hn
  go_upto_region 7 with fail
  refine wp_region_list ?_
  refine wpList_load50 rfl rfl rfl HA4.out.cp HC.out.size ?_
  go_wp2_with fail
  go_at_call 27
  (with_reducible refine (H27b.out w4 (HM.out.below HA4.out.b)).mono ?_)
  rintro e w5 ⟨rfl, hb5⟩
  have HA5 := Lib.hid (HA4.out.keep hb5)
  clear hb5 c0 c1 c2 c3 c4 c5 c6 c7 HA4
  obtain ⟨c0, c1, c2, c3, c4, c5, c6, c7⟩ := HA5.out.o.c
  go_wp2_with fail
  clear c0 c1 c2 c3 c4 c5 c6 c7
  go_loopw [14] (fun v W => ∃ k : Nat, k ≤ 16 ∧ v = .int .i64 k ∧ Hid (AO w c 2 0 b i s d false 0 W)) (fun v _ => 16 - (intOf v).toNat)
  case atStart => exact ⟨0, by omega, rfl, HA5⟩
  obtain ⟨k, hk, rfl, HL⟩ := hrel
  by_cases hlt : k < 16
  · go_upto_region 13 with fail
    refine wp_region_list ?_
    refine wpList_load50 rfl rfl rfl HL.out.cp HC.out.size ?_
    go_upto_region 14 with (first | (refine wpList_store50 rfl rfl rfl rfl (CB.new _ _) zc50 HC.out.size HC.out.one ?_) | fail)
    have HB := Lib.hid (row_below wr Tryd.zeroCells50 c)
    have HQ : Hid (CB ((wr.alloc (.cells Tryd.zeroCells50 50)).setRow wr.heap.size c) wr.heap.size c) := Lib.hid (CB.new _ _).row
    generalize World.setRow _ _ _ = W3 at *
    have d1 := (HQ.out.cell k).trans (HD.out k hlt).2
    have d2 := HQ.out.froz k
    go_upto_region 15 with fail
    have HQ2 := Lib.hid (HQ.out.set k (.int .u64 (IntKind.u64.wrap ((R k : Int) + (y : Int)))))
    have HB2 := Lib.hid (HB.out.setCell (p := ⟨wr.heap.size, k, none⟩) (Nat.le_refl _) (.int .u64 (IntKind.u64.wrap ((R k : Int) + (y : Int)))))
    clear d1 d2 HQ HB
    generalize World.setCell _ _ _ = W4 at *
    have HL2 := Lib.hid (HL.out.keep HB2.out)
    clear HB2
    obtain ⟨c0, c1, c2, c3, c4, c5, c6, c7⟩ := HL2.out.o.c
    refine wp_region_list ?_
    refine wpList_load50 rfl rfl rfl HQ2.out (HD.out k hlt).1 ?_
    go_wp2_with fail
    go_at_call 27
    (with_reducible refine (H27c.out k hlt W4 (HM.out.below HL2.out.b)).mono ?_)
    rintro e w6 ⟨rfl, hb6⟩
    have HL3 := Lib.hid (HL2.out.keep hb6)
    clear hb6 c0 c1 c2 c3 c4 c5 c6 c7 HL2
    obtain ⟨c0, c1, c2, c3, c4, c5, c6, c7⟩ := HL3.out.o.c
    by_cases hbk : b = k
    · have hbB : (b == (k : Int)) = true := by simp [hbk]
      by_cases hik : i = k
      · have hiB : (i == (k : Int)) = true := by simp [hik]
        have hmo : mo b i s k y = IntKind.u64.wrap (IntKind.u64.wrap (0 + (y : Int)) + IntKind.u64.wrap ((y : Int) * IntKind.u64.wrap s)) := by simp only [mo, mo1, if_pos hbk, if_pos hik]
        rw [hmo]
        clear hbk hik
        go_wp2_with fail
        go_roundw
        case rel => exact ⟨k + 1, by omega, by go_num, HL3⟩
        case measure => simp [intOf]; omega
      · have hiB : (i == (k : Int)) = false := by simp [hik]
        have hmo : mo b i s k y = IntKind.u64.wrap (0 + (y : Int)) := by simp only [mo, mo1, if_pos hbk, if_neg hik]
        rw [hmo]
        clear hbk hik
        go_wp2_with fail
        go_roundw
        case rel => exact ⟨k + 1, by omega, by go_num, HL3⟩
        case measure => simp [intOf]; omega
    · have hbB : (b == (k : Int)) = false := by simp [hbk]
      by_cases hik : i = k
      · have hiB : (i == (k : Int)) = true := by simp [hik]
        have hmo : mo b i s k y = IntKind.u64.wrap (0 + IntKind.u64.wrap ((y : Int) * IntKind.u64.wrap s)) := by simp only [mo, mo1, if_neg hbk, if_pos hik]
        rw [hmo]
        clear hbk hik
        go_wp2_with fail
        go_roundw
        case rel => exact ⟨k + 1, by omega, by go_num, HL3⟩
        case measure => simp [intOf]; omega
      · have hiB : (i == (k : Int)) = false := by simp [hik]
        have hmo : mo b i s k y = 0 := by simp only [mo, mo1, if_neg hbk, if_neg hik]
        rw [hmo]
        clear hbk hik
        go_wp2_with fail
        go_roundw
        case rel => exact ⟨k + 1, by omega, by go_num, HL3⟩
        case measure => simp [intOf]; omega
  obtain rfl : k = 16 := by omega
  have HMz := Lib.hid (HM.out.below HL.out.b)
  go_wp2_with (go_at_call 41; (refine (cwakes_any _ HMz.out).mono ?_); rintro e w6 ⟨rfl, hb6⟩)
  go_ret
  exact ⟨rfl, HL.out.b.trans (hb6.mono HL.out.b.size)⟩
set_option maxRecDepth 100000 in
set_option maxHeartbeats 4000000 in
theorem adc_t (c : Array Value) (R : Nat → Nat) (hc : CPU c R) (b i s d : Int) (x y : Nat) (A L : Int) (n : Nat) (w : World) (hm : Mk w)
    (hA : ∀ W, Mk W → Calls Tryd.prog 27 #[.agg c, ov 2 0 b i s d true 0, .int .u64 (x : Nat)] W fun e w' => e = .returned (.tuple #[.int .u64 A, .int .i64 0]) ∧ Below W.heap.size W w')
    (hL : ∀ W, Mk W → Calls Tryd.prog 27 #[.agg c, ov 2 0 b i s d true 0, .int .u64 (IntKind.u64.wrap ((x : Int) + (y : Int)))] W fun e w' => e = .returned (.tuple #[.int .u64 L, .int .i64 0]) ∧ Below W.heap.size W w')
    (hM : ∀ k : Nat, k < 16 → ∀ W, Mk W → Calls Tryd.prog 27 #[.agg (c.setIfInBounds k (.int .u64 (IntKind.u64.wrap ((R k : Int) + (y : Int))))), ov 2 0 b i s d true 0, .int .u64 (x : Nat)] W fun e w' => e = .returned (.tuple #[.int .u64 (IntKind.u64.wrap (A + mo b i s k y)), .int .i64 0]) ∧ Below W.heap.size W w')
    (hR : ∀ W, Calls Tryd.prog 19 #[ov 2 0 b i s d true 0] W fun e w' => e = .returned (.bool true) ∧ Below W.heap.size W w')
    (hU : ∀ W, Calls Tryd.prog 22 #[ov 2 0 b i s d true 0] W fun e w' => ∃ sp cc, e = .returned (.slice sp n cc) ∧ Below W.heap.size W w')
    (hn : n = 0) (hLA : L = IntKind.u64.wrap (A + y)) :
    Calls Tryd.prog 11 #[.agg c, ov 2 0 b i s d true 0, .int .u64 (x : Nat), .int .u64 (y : Nat)] w fun e w' => e = .returned (.bool true) ∧ Below w.heap.size w w' := by
  have HM := Lib.hid hm
  have HC := Lib.hid hc
  have H27a := Lib.hid hA
  have H27b := Lib.hid hL
  have H27c := Lib.hid hM
  have HA := Lib.hid (AO.new w c 2 0 b i s d true 0)
  have HD : Hid (∀ k : Nat, k < 16 → (c.setIfInBounds k (.int .u64 (IntKind.u64.wrap ((R k : Int) + (y : Int))))).size = 278 ∧ c[k]? = some (.int .u64 (R k : Nat))) := Lib.hid (fun k hk => ⟨by rw [Array.size_setIfInBounds]; exact hc.size, hc.reg k hk⟩)
  clear hm hc hA hL hM
  go_enter Tryd.func11, Tryd.ntmps11
  go_upto_region 1 with fail
  generalize World.alloc (World.alloc _ _) _ = W1 at *
  obtain ⟨c0, c1, c2, c3, c4, c5, c6, c7⟩ := HA.out.o.c
  refine wp_region_list ?_
  refine wpList_load50 rfl rfl rfl HA.out.cp HC.out.size ?_
  go_wp2_with fail
  go_at_call 27
  (with_reducible refine (H27a.out W1 (HM.out.below HA.out.b)).mono ?_)
  rintro e w2 ⟨rfl, hb2⟩
  have HA2 := Lib.hid (HA.out.keep hb2)
  clear hb2 c0 c1 c2 c3 c4 c5 c6 c7 HA
  obtain ⟨c0, c1, c2, c3, c4, c5, c6, c7⟩ := HA2.out.o.c
  go_wp2_with fail
  go_at_call 19
  (with_reducible refine (hR _).mono ?_)
  rintro e w3 ⟨rfl, hb3⟩
  have HA3 := Lib.hid (HA2.out.keep hb3)
  clear hb3 c0 c1 c2 c3 c4 c5 c6 c7 HA2
  obtain ⟨c0, c1, c2, c3, c4, c5, c6, c7⟩ := HA3.out.o.c
  go_wp2_with fail
  go_at_call 22
  (with_reducible refine (hU _).mono ?_)
  rintro e w4 ⟨sp, cc, rfl, hb4⟩
  have HA4 := Lib.hid (HA3.out.keep hb4)
  clear hb4 c0 c1 c2 c3 c4 c5 c6 c7 HA3
  obtain ⟨c0, c1, c2, c3, c4, c5, c6, c7⟩ := HA4.out.o.c
  subst hLA hn
  go_upto_region 7 with fail
  refine wp_region_list ?_
  refine wpList_load50 rfl rfl rfl HA4.out.cp HC.out.size ?_
  go_wp2_with fail
  go_at_call 27
  (with_reducible refine (H27b.out w4 (HM.out.below HA4.out.b)).mono ?_)
  rintro e w5 ⟨rfl, hb5⟩
  have HA5 := Lib.hid (HA4.out.keep hb5)
  clear hb5 c0 c1 c2 c3 c4 c5 c6 c7 HA4
  obtain ⟨c0, c1, c2, c3, c4, c5, c6, c7⟩ := HA5.out.o.c
  go_wp2_with fail
  clear c0 c1 c2 c3 c4 c5 c6 c7
  go_loopw [14] (fun v W => ∃ k : Nat, k ≤ 16 ∧ v = .int .i64 k ∧ Hid (AO w c 2 0 b i s d true 0 W)) (fun v _ => 16 - (intOf v).toNat)
  case atStart => exact ⟨0, by omega, rfl, HA5⟩
  obtain ⟨k, hk, rfl, HL⟩ := hrel
  by_cases hlt : k < 16
  · go_upto_region 13 with fail
    refine wp_region_list ?_
    refine wpList_load50 rfl rfl rfl HL.out.cp HC.out.size ?_
    go_upto_region 14 with (first | (refine wpList_store50 rfl rfl rfl rfl (CB.new _ _) zc50 HC.out.size HC.out.one ?_) | fail)
    have HB := Lib.hid (row_below wr Tryd.zeroCells50 c)
    have HQ : Hid (CB ((wr.alloc (.cells Tryd.zeroCells50 50)).setRow wr.heap.size c) wr.heap.size c) := Lib.hid (CB.new _ _).row
    generalize World.setRow _ _ _ = W3 at *
    have d1 := (HQ.out.cell k).trans (HD.out k hlt).2
    have d2 := HQ.out.froz k
    go_upto_region 15 with fail
    have HQ2 := Lib.hid (HQ.out.set k (.int .u64 (IntKind.u64.wrap ((R k : Int) + (y : Int)))))
    have HB2 := Lib.hid (HB.out.setCell (p := ⟨wr.heap.size, k, none⟩) (Nat.le_refl _) (.int .u64 (IntKind.u64.wrap ((R k : Int) + (y : Int)))))
    clear d1 d2 HQ HB
    generalize World.setCell _ _ _ = W4 at *
    have HL2 := Lib.hid (HL.out.keep HB2.out)
    clear HB2
    obtain ⟨c0, c1, c2, c3, c4, c5, c6, c7⟩ := HL2.out.o.c
    refine wp_region_list ?_
    refine wpList_load50 rfl rfl rfl HQ2.out (HD.out k hlt).1 ?_
    go_wp2_with fail
    go_at_call 27
    (with_reducible refine (H27c.out k hlt W4 (HM.out.below HL2.out.b)).mono ?_)
    rintro e w6 ⟨rfl, hb6⟩
    have HL3 := Lib.hid (HL2.out.keep hb6)
    clear hb6 c0 c1 c2 c3 c4 c5 c6 c7 HL2
    obtain ⟨c0, c1, c2, c3, c4, c5, c6, c7⟩ := HL3.out.o.c
    by_cases hbk : b = k
    · have hbB : (b == (k : Int)) = true := by simp [hbk]
      by_cases hik : i = k
      · have hiB : (i == (k : Int)) = true := by simp [hik]
        have hmo : mo b i s k y = IntKind.u64.wrap (IntKind.u64.wrap (0 + (y : Int)) + IntKind.u64.wrap ((y : Int) * IntKind.u64.wrap s)) := by simp only [mo, mo1, if_pos hbk, if_pos hik]
        rw [hmo]
        clear hbk hik
        go_wp2_with fail
        go_roundw
        case rel => exact ⟨k + 1, by omega, by go_num, HL3⟩
        case measure => simp [intOf]; omega
      · have hiB : (i == (k : Int)) = false := by simp [hik]
        have hmo : mo b i s k y = IntKind.u64.wrap (0 + (y : Int)) := by simp only [mo, mo1, if_pos hbk, if_neg hik]
        rw [hmo]
        clear hbk hik
        go_wp2_with fail
        go_roundw
        case rel => exact ⟨k + 1, by omega, by go_num, HL3⟩
        case measure => simp [intOf]; omega
    · have hbB : (b == (k : Int)) = false := by simp [hbk]
      by_cases hik : i = k
      · have hiB : (i == (k : Int)) = true := by simp [hik]
        have hmo : mo b i s k y = IntKind.u64.wrap (0 + IntKind.u64.wrap ((y : Int) * IntKind.u64.wrap s)) := by simp only [mo, mo1, if_neg hbk, if_pos hik]
        rw [hmo]
        clear hbk hik
        go_wp2_with fail
        go_roundw
        case rel => exact ⟨k + 1, by omega, by go_num, HL3⟩
        case measure => simp [intOf]; omega
      · have hiB : (i == (k : Int)) = false := by simp [hik]
        have hmo : mo b i s k y = 0 := by simp only [mo, mo1, if_neg hbk, if_neg hik]
        rw [hmo]
        clear hbk hik
        go_wp2_with fail
        go_roundw
        case rel => exact ⟨k + 1, by omega, by go_num, HL3⟩
        case measure => simp [intOf]; omega
  obtain rfl : k = 16 := by omega
  have HMz := Lib.hid (HM.out.below HL.out.b)
  go_wp2_with (go_at_call 41; (refine (cwakes_any _ HMz.out).mono ?_); rintro e w6 ⟨rfl, hb6⟩)
  go_ret
  exact ⟨rfl, HL.out.b.trans (hb6.mono HL.out.b.size)⟩
end Go.Proofs.YtkpnafgmjcnniaaDoor
