/- The walk of CpuBack. -/
import Derived.Test.YtkpnafgmjcnniaaDoorCy
import Derived.Deep.MidRow
import Derived.Deep.QuietTactic
import Derived.BigQuiet
namespace Go.Proofs.YtkpnafgmjcnniaaDoor
open Go.RowKit
set_option linter.unusedVariables false
set_option linter.unusedSimpArgs false
set_option maxRecDepth 100000 in
set_option maxHeartbeats 4000000 in
theorem cback_2 (c : Array Value) (R : Nat → Nat) (hF : CPUF c) (hc : CPU c R) (i : Nat) (hi : i < 16) (x y V : Nat) (hy : bits .and .u64 (x : Nat) 65535 = (y : Nat)) (hx : x < 18446744073709551616) (hV : V < 18446744073709551616) (w : World) (hm : Mk w) (A : Int) (hX : bits .xor .u64 (V : Nat) (y : Nat) = A) (hA : bits .andNot .u64 (R i : Nat) 65535 = A) (E : Array Value) (hE : E[i]? = some (.int .u64 (R i : Nat))) (hEs : E.size = 278) (hS2 : ∀ W, Calls Tryd.prog 31 #[.agg (c.setIfInBounds i (.int .u64 (V : Nat))), .int .i64 i, .int .i64 2, .int .u64 (R i : Nat)] W fun e w' => e = .returned (.agg E) ∧ Below W.heap.size W w')
    (hS : ∀ W, Calls Tryd.prog 31 #[.agg c, .int .i64 i, .int .i64 2, .int .u64 x] W fun e w' => e = .returned (.agg (c.setIfInBounds i (.int .u64 (V : Nat)))) ∧ Below W.heap.size W w')
    (hG : ∀ W, Calls Tryd.prog 29 #[.agg (c.setIfInBounds i (.int .u64 (V : Nat))), .int .i64 i, .int .i64 2] W fun e w' => e = .returned (.int .u64 (y : Nat)) ∧ Below W.heap.size W w') :
    Calls Tryd.prog 9 #[.agg c, .int .i64 i, .int .i64 2, .int .u64 x] w fun e w' => e = .returned (.bool true) ∧ Below w.heap.size w w' := by
  have HM := Lib.hid hm
  have HC := Lib.hid hc
  have HD := Lib.hid (hc.set i V hi hV)
  have HVc := Lib.hid (set_vec c i (.int .u64 (V : Nat)) hi hF.size)
  have HE := Lib.hid (eq46 hF)
  have HW : Hid (WC w c (w.alloc (.cells c 50))) := Lib.hid ⟨CB.new w _, (Below.refl _ _).alloc (Nat.le_refl _) _⟩
  have HSt := Lib.hid hS
  have HGt := Lib.hid hG
  have HS2 := Lib.hid hS2
  clear hS2
  have HEE := Lib.hid (And.intro hE hEs)
  clear hE hEs
  have far : ∀ j, i ≠ j → (c.setIfInBounds i (.int .u64 (V : Nat)))[j]? = c[j]? := fun j h => Array.getElem?_setIfInBounds_ne h
  have HF := Lib.hid far
  obtain ⟨f0, hf0⟩ := hF.fla 272 (by omega) (by omega)
  obtain ⟨f1, hf1⟩ := hF.fla 273 (by omega) (by omega)
  obtain ⟨f2, hf2⟩ := hF.fla 274 (by omega) (by omega)
  obtain ⟨f3, hf3⟩ := hF.fla 275 (by omega) (by omega)
  obtain ⟨f4, hf4⟩ := hF.fla 276 (by omega) (by omega)
  obtain ⟨ip, hip, hip2⟩ := hF.ip
  have HFL := Lib.hid (And.intro hf0 (And.intro hf1 (And.intro hf2 (And.intro hf3 (And.intro hf4 hip)))))
  clear hm hc hS hG far hf0 hf1 hf2 hf3 hf4 hip hip2 hF
  generalize hDD : c.setIfInBounds i (.int .u64 (V : Nat)) = D at *
  have HDD := Lib.hid hDD
  clear hDD
  go_enter Tryd.func9, Tryd.ntmps9
  go_upto_region 3 with fail
  generalize w.alloc (.cells c 50) = W1 at *
  refine wp_region_list ?_
  refine wpList_load50 rfl rfl rfl HW.out.1 HC.out.size ?_
  go_wp2_with fail
  go_at_call 31
  (with_reducible refine (HSt.out W1).mono ?_)
  rintro e w2 ⟨rfl, hb2⟩
  have HW2 := Lib.hid (HW.out.keep hb2)
  clear hb2 HW
  go_upto_region 4 with (first | (refine wpList_store50 rfl rfl rfl rfl (CB.new _ _) zc50 HD.out.size HD.out.one ?_) | fail)
  have HW3 : Hid (WB w c D w2.heap.size ((w2.alloc (.cells Tryd.zeroCells50 50)).setRow w2.heap.size D)) := Lib.hid ⟨HW2.out.keep (row_below _ _ _), (CB.new _ _).row⟩
  clear HW2
  generalize World.setRow _ _ _ = W3 at *
  generalize w2.heap.size = b2 at *
  go_upto_region 7 with fail
  refine wp_region_list ?_
  refine wpList_load50 rfl rfl rfl HW3.out.2 HD.out.size ?_
  go_wp2_with fail
  go_at_call 29
  (with_reducible refine (HGt.out W3).mono ?_)
  rintro e w4 ⟨rfl, hb4⟩
  have HW4 := Lib.hid (HW3.out.keep hb4)
  clear hb4 HW3
  have q0 := (HW4.out.1.1.cell 272).trans HFL.out.1
  have q1 := (HW4.out.1.1.cell 273).trans HFL.out.2.1
  have q2 := (HW4.out.1.1.cell 274).trans HFL.out.2.2.1
  have q3 := (HW4.out.1.1.cell 275).trans HFL.out.2.2.2.1
  have q4 := (HW4.out.1.1.cell 276).trans HFL.out.2.2.2.2.1
  have q5 := (HW4.out.1.1.cell 277).trans HFL.out.2.2.2.2.2
  have r0 := ((HW4.out.2.cell 272).trans (HF.out 272 (by omega))).trans HFL.out.1
  have r1 := ((HW4.out.2.cell 273).trans (HF.out 273 (by omega))).trans HFL.out.2.1
  have r2 := ((HW4.out.2.cell 274).trans (HF.out 274 (by omega))).trans HFL.out.2.2.1
  have r3 := ((HW4.out.2.cell 275).trans (HF.out 275 (by omega))).trans HFL.out.2.2.2.1
  have r4 := ((HW4.out.2.cell 276).trans (HF.out 276 (by omega))).trans HFL.out.2.2.2.2.1
  have r5 := ((HW4.out.2.cell 277).trans (HF.out 277 (by omega))).trans HFL.out.2.2.2.2.2
  have he := HE.out
  have hl1 : ∀ (ops : Array Oper) (Q : Exit → Act → World → Prop) (o : Oper) (rest : List Oper) (a : Act) (x : Operand), o.op = .load 46 x → Region.wanted o (yielded ops a.tmps) = true → a.eval x = .pointer (some ⟨b2, 16, none⟩) → wpList Tryd.prog ops Q rest (a.put o.dst (.agg (vecL c).toArray)) w4 → wpList Tryd.prog ops Q (o :: rest) a w4 := fun ops Q o rest a x ho hw hx hn => wpList_load46w ho hw hx HW4.out.2 HD.out.size (by rw [HVc.out]; exact hn)
  have HL1 := Lib.hid hl1
  clear hl1
  go_upto_region 9 with (first | (refine wpList_load46w rfl ?_ rfl HW4.out.1.1 HC.out.size ?_) | (refine HL1.out _ _ _ _ _ _ rfl ?_ rfl ?_) | fail)
  clear q0 q1 q2 q3 q4 q5 r0 r1 r2 r3 r4 r5 he HL1 HE HGt HVc HFL
  have HR1 : Hid (∀ k, k < 16 → w4.cell? ⟨w.heap.size, k, none⟩ = some (.int .u64 (R k : Nat))) := Lib.hid (fun k hk => (HW4.out.1.1.cell k).trans (HC.out.reg k hk))
  have HR2 : Hid (∀ k, k < 16 → w4.cell? ⟨b2, k, none⟩ = some (.int .u64 ((if k = i then V else R k : Nat) : Int))) := Lib.hid (fun k hk => (HW4.out.2.cell k).trans (HD.out.reg k hk))
  go_wp2_with fail
  go_loopw [11] (fun v W => ∃ k q : Nat, k ≤ 16 ∧ v = .int .i64 k ∧ W = w4.drewN q) (fun v _ => 16 - (intOf v).toNat)
  case atStart => exact ⟨0, 0, by omega, rfl, rfl⟩
  obtain ⟨k, q, hk, rfl, rfl⟩ := hrel
  by_cases hlt : k < 16
  · by_cases hki : k = i
    · have hb : ((k : Int) != (i : Int)) = false := by simp [hki]
      go_wp2_with fail
      go_quiet (fail)
      go_wp2_with fail
      go_roundw
      case rel => exact ⟨k + 1, _, by omega, by go_num, rfl⟩
      case measure => simp [intOf]; omega
    · have hb : ((k : Int) != (i : Int)) = true := by simp; omega
      have c1 := HR1.out k hlt
      have c2 := HR2.out k hlt
      rw [if_neg hki] at c2
      go_wp2_with fail
      go_quiet (fail)
      go_wp2_with fail
      go_roundw
      case rel => exact ⟨k + 1, _, by omega, by go_num, rfl⟩
      case measure => simp [intOf]; omega
  obtain rfl : k = 16 := by omega
  have c1 := HR1.out i hi
  have c2 := HR2.out i hi
  rw [if_pos rfl] at c2
  go_upto_region 17 with fail
  clear c1 c2
  have HWq : Hid (WB w c D b2 (w4.drewN q)) := Lib.hid (HW4.out.keep (below_drewN (Below.refl _ _) q))
  generalize w4.drewN q = W6 at *
  have hi2 : (i : Int) < 16 := by omega
  have hMk : IntKind.u64.wrap (IntKind.u64.wrap (2 ^ min (IntKind.u64.wrap (IntKind.i64.wrap 16)).toNat 64) - 1) = 65535 := by decide +kernel
  refine wp_region_noPanic ?_
  refine wp_region_held_drew (S := fun W => WB w c D b2 W) (by kernel_rfl) ?_ (fun hHeld => ?_)
  · exact HWq.out.keep ((Below.refl _ _).drew)
  generalize World.drew _ = v0 at hHeld ⊢
  clear HWq
  refine wpAnyH_take (i := 0) (v := ?_) rfl (by kernel_rfl) (by kernel_rfl) (by kernel_rfl) (fun _ _ _ h => h) (Or.inl ⟨by kernel_rfl, ?_⟩) (by assumption) ?_
  rotate_left
  · intro w hSw
    go_simp
    try with_reducible rfl
  simp only [Act.put, List.setIfInBounds_toArray, List.set_cons_zero, List.set_cons_succ, List.getElem_toArray, List.getElem_cons_succ, List.getElem_cons_zero]
  refine wpAnyH_take (i := 1) (v := ?_) rfl (by kernel_rfl) (by kernel_rfl) (by kernel_rfl) (fun _ _ _ h => h) (Or.inl ⟨by kernel_rfl, ?_⟩) (by assumption) ?_
  rotate_left
  · intro w hSw
    go_simp
    try with_reducible rfl
  simp only [Act.put, List.setIfInBounds_toArray, List.set_cons_zero, List.set_cons_succ, List.getElem_toArray, List.getElem_cons_succ, List.getElem_cons_zero]
  refine wpAnyH_take (i := 2) (v := ?_) rfl (by kernel_rfl) (by kernel_rfl) (by kernel_rfl) (fun _ _ _ h => h) (Or.inl ⟨by kernel_rfl, ?_⟩) (by assumption) ?_
  rotate_left
  · intro w hSw
    go_simp
    try with_reducible rfl
  simp only [Act.put, List.setIfInBounds_toArray, List.set_cons_zero, List.set_cons_succ, List.getElem_toArray, List.getElem_cons_succ, List.getElem_cons_zero]
  refine wpAnyH_take (i := 3) (v := ?_) rfl (by kernel_rfl) (by kernel_rfl) (by kernel_rfl) (fun _ _ _ h => h) (Or.inl ⟨by kernel_rfl, ?_⟩) (by assumption) ?_
  rotate_left
  · intro w hSw
    go_simp
    try with_reducible rfl
  simp only [Act.put, List.setIfInBounds_toArray, List.set_cons_zero, List.set_cons_succ, List.getElem_toArray, List.getElem_cons_succ, List.getElem_cons_zero]
  refine wpAnyH_take (i := 4) (v := ?_) rfl (by kernel_rfl) (by kernel_rfl) (by kernel_rfl) (fun _ _ _ h => h) (Or.inl ⟨by kernel_rfl, ?_⟩) (by assumption) ?_
  rotate_left
  · intro w hSw
    have c1 := (hSw.1.1.cell i).trans (HC.out.reg i hi)
    go_simp
    try with_reducible rfl
  simp only [Act.put, List.setIfInBounds_toArray, List.set_cons_zero, List.set_cons_succ, List.getElem_toArray, List.getElem_cons_succ, List.getElem_cons_zero]
  refine wpAnyH_take (i := 5) (v := ?_) rfl (by kernel_rfl) (by kernel_rfl) (by kernel_rfl) (fun _ _ _ h => h) (Or.inl ⟨by kernel_rfl, ?_⟩) (by assumption) ?_
  rotate_left
  · intro w hSw
    go_simp
    try with_reducible rfl
  simp only [Act.put, List.setIfInBounds_toArray, List.set_cons_zero, List.set_cons_succ, List.getElem_toArray, List.getElem_cons_succ, List.getElem_cons_zero]
  refine wpAnyH_take (i := 6) (v := ?_) rfl (by kernel_rfl) (by kernel_rfl) (by kernel_rfl) (fun _ _ _ h => h) (Or.inl ⟨by kernel_rfl, ?_⟩) (by assumption) ?_
  rotate_left
  · intro w hSw
    go_simp
    try with_reducible rfl
  simp only [Act.put, List.setIfInBounds_toArray, List.set_cons_zero, List.set_cons_succ, List.getElem_toArray, List.getElem_cons_succ, List.getElem_cons_zero]
  refine wpAnyH_take (i := 7) (v := ?_) rfl (by kernel_rfl) (by kernel_rfl) (by kernel_rfl) (fun _ _ _ h => h) (Or.inl ⟨by kernel_rfl, ?_⟩) (by assumption) ?_
  rotate_left
  · intro w hSw
    go_simp
    try with_reducible rfl
  simp only [Act.put, List.setIfInBounds_toArray, List.set_cons_zero, List.set_cons_succ, List.getElem_toArray, List.getElem_cons_succ, List.getElem_cons_zero]
  refine wpAnyH_take (i := 8) (v := ?_) rfl (by kernel_rfl) (by kernel_rfl) (by kernel_rfl) (fun _ _ _ h => h) (Or.inl ⟨by kernel_rfl, ?_⟩) (by assumption) ?_
  rotate_left
  · intro w hSw
    go_simp
    try with_reducible rfl
  simp only [Act.put, List.setIfInBounds_toArray, List.set_cons_zero, List.set_cons_succ, List.getElem_toArray, List.getElem_cons_succ, List.getElem_cons_zero]
  refine wpAnyH_take (i := 9) (v := ?_) rfl (by kernel_rfl) (by kernel_rfl) (by kernel_rfl) (fun _ _ _ h => h) (Or.inl ⟨by kernel_rfl, ?_⟩) (by assumption) ?_
  rotate_left
  · intro w hSw
    go_simp
    try with_reducible rfl
  simp only [Act.put, List.setIfInBounds_toArray, List.set_cons_zero, List.set_cons_succ, List.getElem_toArray, List.getElem_cons_succ, List.getElem_cons_zero]
  refine wpAnyH_take (i := 10) (v := ?_) rfl (by kernel_rfl) (by kernel_rfl) (by kernel_rfl) (fun _ _ _ h => h) (Or.inl ⟨by kernel_rfl, ?_⟩) (by assumption) ?_
  rotate_left
  · intro w hSw
    go_simp
    try with_reducible rfl
  simp only [Act.put, List.setIfInBounds_toArray, List.set_cons_zero, List.set_cons_succ, List.getElem_toArray, List.getElem_cons_succ, List.getElem_cons_zero]
  refine wpAnyH_take (i := 11) (v := ?_) rfl (by kernel_rfl) (by kernel_rfl) (by kernel_rfl) (fun _ _ _ h => h) (Or.inl ⟨by kernel_rfl, ?_⟩) (by assumption) ?_
  rotate_left
  · intro w hSw
    go_simp
    try with_reducible rfl
  simp only [Act.put, List.setIfInBounds_toArray, List.set_cons_zero, List.set_cons_succ, List.getElem_toArray, List.getElem_cons_succ, List.getElem_cons_zero]
  refine wpAnyH_take (i := 12) (v := ?_) rfl (by kernel_rfl) (by kernel_rfl) (by kernel_rfl) (fun _ _ _ h => h) (Or.inl ⟨by kernel_rfl, ?_⟩) (by assumption) ?_
  rotate_left
  · intro w hSw
    go_simp
    try with_reducible rfl
  simp only [Act.put, List.setIfInBounds_toArray, List.set_cons_zero, List.set_cons_succ, List.getElem_toArray, List.getElem_cons_succ, List.getElem_cons_zero]
  refine wpAnyH_take (i := 13) (v := ?_) rfl (by kernel_rfl) (by kernel_rfl) (by kernel_rfl) (fun _ _ _ h => h) (Or.inl ⟨by kernel_rfl, ?_⟩) (by assumption) ?_
  rotate_left
  · intro w hSw
    refine exec_load50 (x := .tmp 9) ?_ ?_ hSw.2 HD.out.size
    · rfl
    · rfl
    try with_reducible rfl
  simp only [Act.put, List.setIfInBounds_toArray, List.set_cons_zero, List.set_cons_succ, List.getElem_toArray, List.getElem_cons_succ, List.getElem_cons_zero]
  refine wpAnyH_take (i := 14) (v := ?_) rfl (by kernel_rfl) (by kernel_rfl) (by kernel_rfl) (fun _ _ _ h => h) (Or.inl ⟨by kernel_rfl, ?_⟩) (by assumption) ?_
  rotate_left
  · intro w hSw
    go_simp
    try with_reducible rfl
  simp only [Act.put, List.setIfInBounds_toArray, List.set_cons_zero, List.set_cons_succ, List.getElem_toArray, List.getElem_cons_succ, List.getElem_cons_zero]
  refine wpAnyH_take (i := 15) (v := ?_) rfl (by kernel_rfl) (by kernel_rfl) (by kernel_rfl) (fun _ _ _ h => h) (Or.inl ⟨by kernel_rfl, ?_⟩) (by assumption) ?_
  rotate_left
  · intro w hSw
    go_simp
    try with_reducible rfl
  simp only [Act.put, List.setIfInBounds_toArray, List.set_cons_zero, List.set_cons_succ, List.getElem_toArray, List.getElem_cons_succ, List.getElem_cons_zero]
  refine wpAnyH_take (i := 16) (v := ?_) rfl (by kernel_rfl) (by kernel_rfl) (by kernel_rfl) (fun _ _ _ h => h) (Or.inl ⟨by kernel_rfl, ?_⟩) (by assumption) ?_
  rotate_left
  · intro w hSw
    go_simp
    try with_reducible rfl
  simp only [Act.put, List.setIfInBounds_toArray, List.set_cons_zero, List.set_cons_succ, List.getElem_toArray, List.getElem_cons_succ, List.getElem_cons_zero]
  refine wpAnyH_take (i := 17) (v := ?_) rfl (by kernel_rfl) (by kernel_rfl) (by kernel_rfl) (fun _ _ _ h => h) (Or.inl ⟨by kernel_rfl, ?_⟩) (by assumption) ?_
  rotate_left
  · intro w hSw
    go_simp
    try with_reducible rfl
  simp only [Act.put, List.setIfInBounds_toArray, List.set_cons_zero, List.set_cons_succ, List.getElem_toArray, List.getElem_cons_succ, List.getElem_cons_zero]
  refine wpAnyH_take (i := 18) (v := ?_) rfl (by kernel_rfl) (by kernel_rfl) (by kernel_rfl) (fun _ _ _ h => h) (Or.inl ⟨by kernel_rfl, ?_⟩) (by assumption) ?_
  rotate_left
  · intro w hSw
    go_simp
    try with_reducible rfl
  simp only [Act.put, List.setIfInBounds_toArray, List.set_cons_zero, List.set_cons_succ, List.getElem_toArray, List.getElem_cons_succ, List.getElem_cons_zero]
  refine wpAnyH_take (i := 19) (v := ?_) rfl (by kernel_rfl) (by kernel_rfl) (by kernel_rfl) (fun _ _ _ h => h) (Or.inl ⟨by kernel_rfl, ?_⟩) (by assumption) ?_
  rotate_left
  · intro w hSw
    have c1 := (hSw.1.1.cell i).trans (HC.out.reg i hi)
    go_simp
    try with_reducible rfl
  simp only [Act.put, List.setIfInBounds_toArray, List.set_cons_zero, List.set_cons_succ, List.getElem_toArray, List.getElem_cons_succ, List.getElem_cons_zero]
  refine wpAnyH_take (i := 22) (v := ?_) rfl (by kernel_rfl) (by kernel_rfl) (by kernel_rfl) (fun _ _ _ h => h) (Or.inl ⟨by kernel_rfl, ?_⟩) (by assumption) ?_
  rotate_left
  · intro w hSw
    go_simp
    try with_reducible rfl
  simp only [Act.put, List.setIfInBounds_toArray, List.set_cons_zero, List.set_cons_succ, List.getElem_toArray, List.getElem_cons_succ, List.getElem_cons_zero]
  refine wpAnyH_take (i := 24) (v := ?_) rfl (by kernel_rfl) (by kernel_rfl) (by kernel_rfl) (fun _ _ _ h => h) (Or.inl ⟨by kernel_rfl, ?_⟩) (by assumption) ?_
  rotate_left
  · intro w hSw
    go_simp
    try with_reducible rfl
  simp only [Act.put, List.setIfInBounds_toArray, List.set_cons_zero, List.set_cons_succ, List.getElem_toArray, List.getElem_cons_succ, List.getElem_cons_zero]
  refine wpAnyH_take (i := 25) (v := ?_) rfl (by kernel_rfl) (by kernel_rfl) (by kernel_rfl) (fun _ _ _ h => h) (Or.inl ⟨by kernel_rfl, ?_⟩) (by assumption) ?_
  rotate_left
  · intro w hSw
    go_simp
    try with_reducible rfl
  simp only [Act.put, List.setIfInBounds_toArray, List.set_cons_zero, List.set_cons_succ, List.getElem_toArray, List.getElem_cons_succ, List.getElem_cons_zero]
  refine wpAnyH_take (i := 26) (v := ?_) rfl (by kernel_rfl) (by kernel_rfl) (by kernel_rfl) (fun _ _ _ h => h) (Or.inl ⟨by kernel_rfl, ?_⟩) (by assumption) ?_
  rotate_left
  · intro w hSw
    go_simp
    try with_reducible rfl
  simp only [Act.put, List.setIfInBounds_toArray, List.set_cons_zero, List.set_cons_succ, List.getElem_toArray, List.getElem_cons_succ, List.getElem_cons_zero]
  refine wpAnyH_take (i := 27) (v := ?_) rfl (by kernel_rfl) (by kernel_rfl) (by kernel_rfl) (fun _ _ _ h => h) (Or.inl ⟨by kernel_rfl, ?_⟩) (by assumption) ?_
  rotate_left
  · intro w hSw
    have c1 := (hSw.1.1.cell i).trans (HC.out.reg i hi)
    go_simp
    try with_reducible rfl
  simp only [Act.put, List.setIfInBounds_toArray, List.set_cons_zero, List.set_cons_succ, List.getElem_toArray, List.getElem_cons_succ, List.getElem_cons_zero]
  refine wpAnyH_ready (rs := [20]) (by kernel_rfl) (by simp) ?_
  refine AllReadyH.cons rfl (fun K hK => ?_) AllReadyH.nil
  go_simp
  go_at_call 31
  have hz : Mk _ := HM.out.below (show Below w.heap.size w _ from hHeld.1.2)
  (with_reducible refine (HS2.out _).mono ?_)
  clear hz
  rintro e w9 ⟨rfl, hb9⟩
  refine hK.out _ _ (hHeld.keep hb9) (fun hHeld2 => ?_)
  clear hK K hHeld hb9
  have hHeld := hHeld2
  clear hHeld2
  try simp only [Act.put, List.setIfInBounds_toArray, List.set_cons_zero, List.set_cons_succ, List.getElem_toArray, List.getElem_cons_succ, List.getElem_cons_zero]
  refine wpAnyH_take (i := 21) (v := ?_) rfl (by kernel_rfl) (by kernel_rfl) (by kernel_rfl) (fun _ _ _ h => h) (Or.inl ⟨by kernel_rfl, ?_⟩) (by assumption) ?_
  rotate_left
  · intro w hSw
    have e1 := field_R E
    go_simp
    try with_reducible rfl
  simp only [Act.put, List.setIfInBounds_toArray, List.set_cons_zero, List.set_cons_succ, List.getElem_toArray, List.getElem_cons_succ, List.getElem_cons_zero]
  refine wpAnyH_take (i := 23) (v := ?_) rfl (by kernel_rfl) (by kernel_rfl) (by kernel_rfl) (fun _ _ _ h => h) (Or.inl ⟨by kernel_rfl, ?_⟩) (by assumption) ?_
  rotate_left
  · intro w hSw
    have e1 := index_R E i hi _ HEE.out.1
    go_simp
    try with_reducible rfl
  simp only [Act.put, List.setIfInBounds_toArray, List.set_cons_zero, List.set_cons_succ, List.getElem_toArray, List.getElem_cons_succ, List.getElem_cons_zero]
  refine wpAnyH_take (i := 28) (v := ?_) rfl (by kernel_rfl) (by kernel_rfl) (by kernel_rfl) (fun _ _ _ h => h) (Or.inl ⟨by kernel_rfl, ?_⟩) (by assumption) ?_
  rotate_left
  · intro w hSw
    go_simp
    try with_reducible rfl
  simp only [Act.put, List.setIfInBounds_toArray, List.set_cons_zero, List.set_cons_succ, List.getElem_toArray, List.getElem_cons_succ, List.getElem_cons_zero]
  refine wpAnyH_take (i := 29) (v := ?_) rfl (by kernel_rfl) (by kernel_rfl) (by kernel_rfl) (fun _ _ _ h => h) (Or.inl ⟨by kernel_rfl, ?_⟩) (by assumption) ?_
  rotate_left
  · intro w hSw
    go_simp
    try with_reducible rfl
  simp only [Act.put, List.setIfInBounds_toArray, List.set_cons_zero, List.set_cons_succ, List.getElem_toArray, List.getElem_cons_succ, List.getElem_cons_zero]
  refine wpAnyH_take (i := 30) (v := ?_) rfl (by kernel_rfl) (by kernel_rfl) (by kernel_rfl) (fun _ _ _ h => h) (Or.inl ⟨by kernel_rfl, ?_⟩) (by assumption) ?_
  rotate_left
  · intro w hSw
    go_simp
    try with_reducible rfl
  simp only [Act.put, List.setIfInBounds_toArray, List.set_cons_zero, List.set_cons_succ, List.getElem_toArray, List.getElem_cons_succ, List.getElem_cons_zero]
  refine wpAnyH_ready (rs := [31]) (by kernel_rfl) (by simp) ?_
  refine AllReadyH.cons rfl (fun K hK => ?_) AllReadyH.nil
  go_simp
  go_at_call 41
  have hz : Mk _ := HM.out.below (show Below w.heap.size w _ from hHeld.1.2)
  (with_reducible refine (cwakes_any _ hz).mono ?_)
  clear hz
  rintro e w9 ⟨rfl, hb9⟩
  refine hK.out _ _ (hHeld.keep hb9) (fun hHeld2 => ?_)
  clear hK K hHeld hb9
  have hHeld := hHeld2
  clear hHeld2
  try simp only [Act.put, List.setIfInBounds_toArray, List.set_cons_zero, List.set_cons_succ, List.getElem_toArray, List.getElem_cons_succ, List.getElem_cons_zero]
  refine wpAnyH_take (i := 32) (v := ?_) rfl (by kernel_rfl) (by kernel_rfl) (by kernel_rfl) (fun _ _ _ h => h) (Or.inl ⟨by kernel_rfl, ?_⟩) (by assumption) ?_
  rotate_left
  · intro w hSw
    go_simp
    try with_reducible rfl
  simp only [Act.put, List.setIfInBounds_toArray, List.set_cons_zero, List.set_cons_succ, List.getElem_toArray, List.getElem_cons_succ, List.getElem_cons_zero]
  refine wpAnyH_take (i := 33) (v := ?_) rfl (by kernel_rfl) (by kernel_rfl) (by kernel_rfl) (fun _ _ _ h => h) (Or.inl ⟨by kernel_rfl, ?_⟩) (by assumption) ?_
  rotate_left
  · intro w hSw
    go_simp
    try with_reducible rfl
  simp only [Act.put, List.setIfInBounds_toArray, List.set_cons_zero, List.set_cons_succ, List.getElem_toArray, List.getElem_cons_succ, List.getElem_cons_zero]
  refine wpAnyH_done (by kernel_rfl) ?_ _
  refine NoPanic.normal ?_
  go_wp2_with fail
  go_ret
  exact ⟨rfl, hHeld.1.2⟩
end Go.Proofs.YtkpnafgmjcnniaaDoor
