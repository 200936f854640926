/- The walk of CpuBack. -/
import Derived.Test.YtkpnafgmjcnniaaDoorAw
import Derived.Test.YtkpnafgmjcnniaaDoorCv
import Derived.Deep.MidRow
import Derived.Deep.QuietTactic
import Derived.BigQuiet
namespace Go.Proofs.YtkpnafgmjcnniaaDoor
open Go.RowKit
set_option linter.unusedVariables false
set_option linter.unusedSimpArgs false
theorem info46 : (Tryd.prog.info? 46).map (·.size) = some 256 := by kernel_rfl
theorem vec_range {W : World} {b : Nat} {c : Array Value} (h : CB W b c) (hs : c.size = 278) : W.rangeAt b 16 (vecL c) := fun j v hj => by
  rw [h.cell]
  have hj2 : j < 256 := by rw [← vecL_len hs]; exact (List.getElem?_eq_some_iff.1 hj).1
  rw [← vecL_at j hj2]; exact hj
theorem wpList_load46w {ops : Array Oper} {Q : Exit → Act → World → Prop} {o : Oper} {rest : List Oper} {a : Act} {W : World} {x : Operand} {b : Nat} {c : Array Value}
    (ho : o.op = .load 46 x) (hw : Region.wanted o (yielded ops a.tmps) = true) (hx : a.eval x = .pointer (some ⟨b, 16, none⟩)) (h : CB W b c) (hs : c.size = 278)
    (hn : wpList Tryd.prog ops Q rest (a.put o.dst (.agg (vecL c).toArray)) W) : wpList Tryd.prog ops Q (o :: rest) a W := by
  refine wpList_step fun K hK => ?_
  rw [if_pos hw]
  have e : (execOp a.eval o).run Tryd.prog W = .ok (.value (.agg (vecL c).toArray)) W := by
    unfold execOp
    rw [ho]
    simp only [hx, Instr.loadAt, Instr.sureAddr, Sem.run_bind, Sem.run_pure, Result.andThen, run_loadVar_mid W b 16 46 (vecL c) _ (vec_range h hs) Tryd.underlying46 rfl (by rw [vecL_len hs]; exact info46)]
  unfold Oper.wp
  rw [e, Oper.upon_value]
  exact hK _ _ hn
/-- The CPU that came, and the one that Set made. -/
def WB (w : World) (c d : Array Value) (b : Nat) (W : World) : Prop := WC w c W ∧ CB W b d
theorem WB.keep {w W W' : World} {c d : Array Value} {b : Nat} (h : WB w c d b W) (hb : Below W.heap.size W W') : WB w c d b W' := ⟨h.1.keep hb, h.2.keep hb⟩
theorem set_vec (c : Array Value) (i : Nat) (v : Value) (hi : i < 16) (hs : c.size = 278) : vecL (c.setIfInBounds i v) = vecL c := by
  apply List.ext_getElem?
  intro j
  by_cases hj : j < 256
  · rw [vecL_at j hj, vecL_at j hj, Array.getElem?_setIfInBounds_ne (by omega)]
  · rw [List.getElem?_eq_none (by rw [vecL_len (by simpa using hs)]; omega), List.getElem?_eq_none (by rw [vecL_len hs]; omega)]
set_option maxRecDepth 100000 in
theorem cback_out (c : Array Value) (r wd x : Int) (w : World) (hm : Mk w) (h : r < 0 ∨ 15 < r ∨ ((wd == 1) = false ∧ (wd == 2) = false ∧ (wd == 4) = false ∧ (wd == 8) = false)) :
    Calls Tryd.prog 9 #[.agg c, .int .i64 r, .int .i64 wd, .int .u64 x] w fun e w' => e = .returned (.bool true) ∧ Below w.heap.size w w' := by
  have HM := Lib.hid (hm.alloc (.cells c 50))
  have HB := Lib.hid ((Below.refl w.heap.size w).alloc (Nat.le_refl _) (.cells c 50))
  clear hm
  rcases h with h | h | ⟨h1, h2, h4, h8⟩
  all_goals
    try have h1' : (wd != 1) = true := by simpa using h1
    try have h2' : (wd != 2) = true := by simpa using h2
    try have h4' : (wd != 4) = true := by simpa using h4
    try have h8' : (wd != 8) = true := by simpa using h8
    go_enter Tryd.func9, Tryd.ntmps9
    go_upto_region 3 with (go_at_call 41; refine (cwakes_any _ HM.out).mono ?_; rintro e w3 ⟨rfl, hb3⟩)
    all_goals
      go_ret
      exact ⟨rfl, HB.out.trans (hb3.mono HB.out.size)⟩
theorem field_R (E : Array Value) (W : World) : (Instr.field 50 (.agg E) 0).run Tryd.prog W = .ok (.agg (E.extract 0 16)) W := by
  unfold Instr.field
  simp [go_sem, Result.andThen, asAgg]
theorem index_R (E : Array Value) (i : Nat) (hi : i < 16) (v : Value) (hv : E[i]? = some v) (W : World) : (Instr.index 44 (.agg (E.extract 0 16)) (.int .i64 (i : Int))).run Tryd.prog W = .ok v W := by
  have h0 : (0 : Int) ≤ (i : Int) ∧ (i : Int) < 16 := by omega
  have he : (E.extract 0 16)[i]? = some v := by
    rw [Array.getElem?_extract]
    have : i < min 16 E.size - 0 := by
      have := (Array.getElem?_eq_some_iff.1 hv).1
      omega
    rw [if_pos this, Nat.zero_add]
    exact hv
  unfold Instr.index
  simp [go_sem, Result.andThen, asIntOf, run_underlying Tryd.underlying44, h0, he]
  intro h
  omega
theorem gt_st (a x : Nat) (w : Int) : gtN (stN a x w) w = gtN x w := by
  unfold gtN stN
  by_cases h1 : w = 1
  · simp only [if_pos h1]; omega
  · by_cases h2 : w = 2
    · simp only [if_neg h1, if_pos h2]; omega
    · by_cases h4 : w = 4
      · simp only [if_neg h1, if_neg h2, if_pos h4]; omega
      · simp only [if_neg h1, if_neg h2, if_neg h4]
set_option maxRecDepth 100000 in
set_option maxHeartbeats 4000000 in
theorem cback_4 (c : Array Value) (R : Nat → Nat) (hF : CPUF c) (hc : CPU c R) (i : Nat) (hi : i < 16) (x y V : Nat) (hy : bits .and .u64 (x : Nat) 4294967295 = (y : Nat)) (hx : x < 18446744073709551616) (hV : V < 18446744073709551616) (w : World) (hm : Mk w) (hX : bits .xor .u64 (V : Nat) (y : Nat) = 0)
    (hS : ∀ W, Calls Tryd.prog 31 #[.agg c, .int .i64 i, .int .i64 4, .int .u64 x] W fun e w' => e = .returned (.agg (c.setIfInBounds i (.int .u64 (V : Nat)))) ∧ Below W.heap.size W w')
    (hG : ∀ W, Calls Tryd.prog 29 #[.agg (c.setIfInBounds i (.int .u64 (V : Nat))), .int .i64 i, .int .i64 4] W fun e w' => e = .returned (.int .u64 (y : Nat)) ∧ Below W.heap.size W w') :
    Calls Tryd.prog 9 #[.agg c, .int .i64 i, .int .i64 4, .int .u64 x] w fun e w' => e = .returned (.bool true) ∧ Below w.heap.size w w' := by
  have HM := Lib.hid hm
  have HC := Lib.hid hc
  have HD := Lib.hid (hc.set i V hi hV)
  have HVc := Lib.hid (set_vec c i (.int .u64 (V : Nat)) hi hF.size)
  have HE := Lib.hid (eq46 hF)
  have HW : Hid (WC w c (w.alloc (.cells c 50))) := Lib.hid ⟨CB.new w _, (Below.refl _ _).alloc (Nat.le_refl _) _⟩
  have HSt := Lib.hid hS
  have HGt := Lib.hid hG
  have far : ∀ j, i ≠ j → (c.setIfInBounds i (.int .u64 (V : Nat)))[j]? = c[j]? := fun j h => Array.getElem?_setIfInBounds_ne h
  have HF := Lib.hid far
  obtain ⟨f0, hf0⟩ := hF.fla 272 (by omega) (by omega)
  obtain ⟨f1, hf1⟩ := hF.fla 273 (by omega) (by omega)
  obtain ⟨f2, hf2⟩ := hF.fla 274 (by omega) (by omega)
  obtain ⟨f3, hf3⟩ := hF.fla 275 (by omega) (by omega)
  obtain ⟨f4, hf4⟩ := hF.fla 276 (by omega) (by omega)
  obtain ⟨ip, hip, hip2⟩ := hF.ip
  have HFL := Lib.hid (And.intro hf0 (And.intro hf1 (And.intro hf2 (And.intro hf3 (And.intro hf4 hip)))))
  clear hm hc hS hG far hf0 hf1 hf2 hf3 hf4 hip hip2 hF
  generalize hDD : c.setIfInBounds i (.int .u64 (V : Nat)) = D at *
  have HDD := Lib.hid hDD
  clear hDD
  go_enter Tryd.func9, Tryd.ntmps9
  go_upto_region 3 with fail
  generalize w.alloc (.cells c 50) = W1 at *
  refine wp_region_list ?_
  refine wpList_load50 rfl rfl rfl HW.out.1 HC.out.size ?_
  go_wp2_with fail
  go_at_call 31
  (with_reducible refine (HSt.out W1).mono ?_)
  rintro e w2 ⟨rfl, hb2⟩
  have HW2 := Lib.hid (HW.out.keep hb2)
  clear hb2 HW
  go_upto_region 4 with (first | (refine wpList_store50 rfl rfl rfl rfl (CB.new _ _) zc50 HD.out.size HD.out.one ?_) | fail)
  have HW3 : Hid (WB w c D w2.heap.size ((w2.alloc (.cells Tryd.zeroCells50 50)).setRow w2.heap.size D)) := Lib.hid ⟨HW2.out.keep (row_below _ _ _), (CB.new _ _).row⟩
  clear HW2
  generalize World.setRow _ _ _ = W3 at *
  generalize w2.heap.size = b2 at *
  go_upto_region 7 with fail
  refine wp_region_list ?_
  refine wpList_load50 rfl rfl rfl HW3.out.2 HD.out.size ?_
  go_wp2_with fail
  go_at_call 29
  (with_reducible refine (HGt.out W3).mono ?_)
  rintro e w4 ⟨rfl, hb4⟩
  have HW4 := Lib.hid (HW3.out.keep hb4)
  clear hb4 HW3
  have q0 := (HW4.out.1.1.cell 272).trans HFL.out.1
  have q1 := (HW4.out.1.1.cell 273).trans HFL.out.2.1
  have q2 := (HW4.out.1.1.cell 274).trans HFL.out.2.2.1
  have q3 := (HW4.out.1.1.cell 275).trans HFL.out.2.2.2.1
  have q4 := (HW4.out.1.1.cell 276).trans HFL.out.2.2.2.2.1
  have q5 := (HW4.out.1.1.cell 277).trans HFL.out.2.2.2.2.2
  have r0 := ((HW4.out.2.cell 272).trans (HF.out 272 (by omega))).trans HFL.out.1
  have r1 := ((HW4.out.2.cell 273).trans (HF.out 273 (by omega))).trans HFL.out.2.1
  have r2 := ((HW4.out.2.cell 274).trans (HF.out 274 (by omega))).trans HFL.out.2.2.1
  have r3 := ((HW4.out.2.cell 275).trans (HF.out 275 (by omega))).trans HFL.out.2.2.2.1
  have r4 := ((HW4.out.2.cell 276).trans (HF.out 276 (by omega))).trans HFL.out.2.2.2.2.1
  have r5 := ((HW4.out.2.cell 277).trans (HF.out 277 (by omega))).trans HFL.out.2.2.2.2.2
  have he := HE.out
  have hl1 : ∀ (ops : Array Oper) (Q : Exit → Act → World → Prop) (o : Oper) (rest : List Oper) (a : Act) (x : Operand), o.op = .load 46 x → Region.wanted o (yielded ops a.tmps) = true → a.eval x = .pointer (some ⟨b2, 16, none⟩) → wpList Tryd.prog ops Q rest (a.put o.dst (.agg (vecL c).toArray)) w4 → wpList Tryd.prog ops Q (o :: rest) a w4 := fun ops Q o rest a x ho hw hx hn => wpList_load46w ho hw hx HW4.out.2 HD.out.size (by rw [HVc.out]; exact hn)
  have HL1 := Lib.hid hl1
  clear hl1
  go_upto_region 9 with (first | (refine wpList_load46w rfl ?_ rfl HW4.out.1.1 HC.out.size ?_) | (refine HL1.out _ _ _ _ _ _ rfl ?_ rfl ?_) | fail)
  clear q0 q1 q2 q3 q4 q5 r0 r1 r2 r3 r4 r5 he HL1 HE HGt HVc HFL
  have HR1 : Hid (∀ k, k < 16 → w4.cell? ⟨w.heap.size, k, none⟩ = some (.int .u64 (R k : Nat))) := Lib.hid (fun k hk => (HW4.out.1.1.cell k).trans (HC.out.reg k hk))
  have HR2 : Hid (∀ k, k < 16 → w4.cell? ⟨b2, k, none⟩ = some (.int .u64 ((if k = i then V else R k : Nat) : Int))) := Lib.hid (fun k hk => (HW4.out.2.cell k).trans (HD.out.reg k hk))
  go_wp2_with fail
  go_loopw [11] (fun v W => ∃ k q : Nat, k ≤ 16 ∧ v = .int .i64 k ∧ W = w4.drewN q) (fun v _ => 16 - (intOf v).toNat)
  case atStart => exact ⟨0, 0, by omega, rfl, rfl⟩
  obtain ⟨k, q, hk, rfl, rfl⟩ := hrel
  by_cases hlt : k < 16
  · by_cases hki : k = i
    · have hb : ((k : Int) != (i : Int)) = false := by simp [hki]
      go_wp2_with fail
      go_quiet (fail)
      go_wp2_with fail
      go_roundw
      case rel => exact ⟨k + 1, _, by omega, by go_num, rfl⟩
      case measure => simp [intOf]; omega
    · have hb : ((k : Int) != (i : Int)) = true := by simp; omega
      have c1 := HR1.out k hlt
      have c2 := HR2.out k hlt
      rw [if_neg hki] at c2
      go_wp2_with fail
      go_quiet (fail)
      go_wp2_with fail
      go_roundw
      case rel => exact ⟨k + 1, _, by omega, by go_num, rfl⟩
      case measure => simp [intOf]; omega
  obtain rfl : k = 16 := by omega
  have c1 := HR1.out i hi
  have c2 := HR2.out i hi
  rw [if_pos rfl] at c2
  have HMz := Lib.hid (HM.out.below ((HW4.out.1.2).trans (below_drewN (Below.refl _ _) q)))
  go_wp2_with (go_at_call 41; (refine (cwakes_any _ HMz.out).mono ?_); rintro e w6 ⟨rfl, hb6⟩)
  go_ret
  have hz := (HW4.out.1.2).trans (below_drewN (Below.refl w.heap.size w4) q)
  exact ⟨rfl, hz.trans (hb6.mono hz.size)⟩
set_option maxRecDepth 100000 in
set_option maxHeartbeats 4000000 in
theorem cback_8 (c : Array Value) (R : Nat → Nat) (hF : CPUF c) (hc : CPU c R) (i : Nat) (hi : i < 16) (x y V : Nat) (hy : x = y) (hx : x < 18446744073709551616) (hV : V < 18446744073709551616) (w : World) (hm : Mk w) (hX : bits .xor .u64 (V : Nat) (x : Nat) = 0)
    (hS : ∀ W, Calls Tryd.prog 31 #[.agg c, .int .i64 i, .int .i64 8, .int .u64 x] W fun e w' => e = .returned (.agg (c.setIfInBounds i (.int .u64 (V : Nat)))) ∧ Below W.heap.size W w')
    (hG : ∀ W, Calls Tryd.prog 29 #[.agg (c.setIfInBounds i (.int .u64 (V : Nat))), .int .i64 i, .int .i64 8] W fun e w' => e = .returned (.int .u64 (y : Nat)) ∧ Below W.heap.size W w') :
    Calls Tryd.prog 9 #[.agg c, .int .i64 i, .int .i64 8, .int .u64 x] w fun e w' => e = .returned (.bool true) ∧ Below w.heap.size w w' := by
  subst hy
  have HM := Lib.hid hm
  have HC := Lib.hid hc
  have HD := Lib.hid (hc.set i V hi hV)
  have HVc := Lib.hid (set_vec c i (.int .u64 (V : Nat)) hi hF.size)
  have HE := Lib.hid (eq46 hF)
  have HW : Hid (WC w c (w.alloc (.cells c 50))) := Lib.hid ⟨CB.new w _, (Below.refl _ _).alloc (Nat.le_refl _) _⟩
  have HSt := Lib.hid hS
  have HGt := Lib.hid hG
  have far : ∀ j, i ≠ j → (c.setIfInBounds i (.int .u64 (V : Nat)))[j]? = c[j]? := fun j h => Array.getElem?_setIfInBounds_ne h
  have HF := Lib.hid far
  obtain ⟨f0, hf0⟩ := hF.fla 272 (by omega) (by omega)
  obtain ⟨f1, hf1⟩ := hF.fla 273 (by omega) (by omega)
  obtain ⟨f2, hf2⟩ := hF.fla 274 (by omega) (by omega)
  obtain ⟨f3, hf3⟩ := hF.fla 275 (by omega) (by omega)
  obtain ⟨f4, hf4⟩ := hF.fla 276 (by omega) (by omega)
  obtain ⟨ip, hip, hip2⟩ := hF.ip
  have HFL := Lib.hid (And.intro hf0 (And.intro hf1 (And.intro hf2 (And.intro hf3 (And.intro hf4 hip)))))
  clear hm hc hS hG far hf0 hf1 hf2 hf3 hf4 hip hip2 hF
  generalize hDD : c.setIfInBounds i (.int .u64 (V : Nat)) = D at *
  have HDD := Lib.hid hDD
  clear hDD
  go_enter Tryd.func9, Tryd.ntmps9
  go_upto_region 3 with fail
  generalize w.alloc (.cells c 50) = W1 at *
  refine wp_region_list ?_
  refine wpList_load50 rfl rfl rfl HW.out.1 HC.out.size ?_
  go_wp2_with fail
  go_at_call 31
  (with_reducible refine (HSt.out W1).mono ?_)
  rintro e w2 ⟨rfl, hb2⟩
  have HW2 := Lib.hid (HW.out.keep hb2)
  clear hb2 HW
  go_upto_region 4 with (first | (refine wpList_store50 rfl rfl rfl rfl (CB.new _ _) zc50 HD.out.size HD.out.one ?_) | fail)
  have HW3 : Hid (WB w c D w2.heap.size ((w2.alloc (.cells Tryd.zeroCells50 50)).setRow w2.heap.size D)) := Lib.hid ⟨HW2.out.keep (row_below _ _ _), (CB.new _ _).row⟩
  clear HW2
  generalize World.setRow _ _ _ = W3 at *
  generalize w2.heap.size = b2 at *
  go_upto_region 7 with fail
  refine wp_region_list ?_
  refine wpList_load50 rfl rfl rfl HW3.out.2 HD.out.size ?_
  go_wp2_with fail
  go_at_call 29
  (with_reducible refine (HGt.out W3).mono ?_)
  rintro e w4 ⟨rfl, hb4⟩
  have HW4 := Lib.hid (HW3.out.keep hb4)
  clear hb4 HW3
  have q0 := (HW4.out.1.1.cell 272).trans HFL.out.1
  have q1 := (HW4.out.1.1.cell 273).trans HFL.out.2.1
  have q2 := (HW4.out.1.1.cell 274).trans HFL.out.2.2.1
  have q3 := (HW4.out.1.1.cell 275).trans HFL.out.2.2.2.1
  have q4 := (HW4.out.1.1.cell 276).trans HFL.out.2.2.2.2.1
  have q5 := (HW4.out.1.1.cell 277).trans HFL.out.2.2.2.2.2
  have r0 := ((HW4.out.2.cell 272).trans (HF.out 272 (by omega))).trans HFL.out.1
  have r1 := ((HW4.out.2.cell 273).trans (HF.out 273 (by omega))).trans HFL.out.2.1
  have r2 := ((HW4.out.2.cell 274).trans (HF.out 274 (by omega))).trans HFL.out.2.2.1
  have r3 := ((HW4.out.2.cell 275).trans (HF.out 275 (by omega))).trans HFL.out.2.2.2.1
  have r4 := ((HW4.out.2.cell 276).trans (HF.out 276 (by omega))).trans HFL.out.2.2.2.2.1
  have r5 := ((HW4.out.2.cell 277).trans (HF.out 277 (by omega))).trans HFL.out.2.2.2.2.2
  have he := HE.out
  have hl1 : ∀ (ops : Array Oper) (Q : Exit → Act → World → Prop) (o : Oper) (rest : List Oper) (a : Act) (x : Operand), o.op = .load 46 x → Region.wanted o (yielded ops a.tmps) = true → a.eval x = .pointer (some ⟨b2, 16, none⟩) → wpList Tryd.prog ops Q rest (a.put o.dst (.agg (vecL c).toArray)) w4 → wpList Tryd.prog ops Q (o :: rest) a w4 := fun ops Q o rest a x ho hw hx hn => wpList_load46w ho hw hx HW4.out.2 HD.out.size (by rw [HVc.out]; exact hn)
  have HL1 := Lib.hid hl1
  clear hl1
  go_upto_region 9 with (first | (refine wpList_load46w rfl ?_ rfl HW4.out.1.1 HC.out.size ?_) | (refine HL1.out _ _ _ _ _ _ rfl ?_ rfl ?_) | fail)
  clear q0 q1 q2 q3 q4 q5 r0 r1 r2 r3 r4 r5 he HL1 HE HGt HVc HFL
  have HR1 : Hid (∀ k, k < 16 → w4.cell? ⟨w.heap.size, k, none⟩ = some (.int .u64 (R k : Nat))) := Lib.hid (fun k hk => (HW4.out.1.1.cell k).trans (HC.out.reg k hk))
  have HR2 : Hid (∀ k, k < 16 → w4.cell? ⟨b2, k, none⟩ = some (.int .u64 ((if k = i then V else R k : Nat) : Int))) := Lib.hid (fun k hk => (HW4.out.2.cell k).trans (HD.out.reg k hk))
  go_wp2_with fail
  go_loopw [11] (fun v W => ∃ k q : Nat, k ≤ 16 ∧ v = .int .i64 k ∧ W = w4.drewN q) (fun v _ => 16 - (intOf v).toNat)
  case atStart => exact ⟨0, 0, by omega, rfl, rfl⟩
  obtain ⟨k, q, hk, rfl, rfl⟩ := hrel
  by_cases hlt : k < 16
  · by_cases hki : k = i
    · have hb : ((k : Int) != (i : Int)) = false := by simp [hki]
      go_wp2_with fail
      go_quiet (fail)
      go_wp2_with fail
      go_roundw
      case rel => exact ⟨k + 1, _, by omega, by go_num, rfl⟩
      case measure => simp [intOf]; omega
    · have hb : ((k : Int) != (i : Int)) = true := by simp; omega
      have c1 := HR1.out k hlt
      have c2 := HR2.out k hlt
      rw [if_neg hki] at c2
      go_wp2_with fail
      go_quiet (fail)
      go_wp2_with fail
      go_roundw
      case rel => exact ⟨k + 1, _, by omega, by go_num, rfl⟩
      case measure => simp [intOf]; omega
  obtain rfl : k = 16 := by omega
  have c1 := HR1.out i hi
  have c2 := HR2.out i hi
  rw [if_pos rfl] at c2
  have HMz := Lib.hid (HM.out.below ((HW4.out.1.2).trans (below_drewN (Below.refl _ _) q)))
  go_wp2_with (go_at_call 41; (refine (cwakes_any _ HMz.out).mono ?_); rintro e w6 ⟨rfl, hb6⟩)
  go_ret
  have hz := (HW4.out.1.2).trans (below_drewN (Below.refl w.heap.size w4) q)
  exact ⟨rfl, hz.trans (hb6.mono hz.size)⟩
end Go.Proofs.YtkpnafgmjcnniaaDoor
