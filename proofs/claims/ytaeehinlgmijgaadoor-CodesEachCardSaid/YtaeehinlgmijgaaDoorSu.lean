/- codes.sumForms: the forms of sums. -/
import Derived.Test.YtaeehinlgmijgaaDoorPa
namespace Go.Proofs.YtaeehinlgmijgaaDoor
open Go.RowKit Go.Shelf
set_option linter.unusedVariables false
set_option linter.unusedSimpArgs false
attribute [local go_sem] Oper.semAt_some
theorem flat_succ (g : Nat → List Fm) (k : Nat) : (List.range (k + 1)).flatMap g = (List.range k).flatMap g ++ g k := by rw [List.range_succ, List.flatMap_append]; simp
theorem flat_pre (g : Nat → List Fm) (m : Nat) : ∀ d, (List.range m).flatMap g <+: (List.range (m + d)).flatMap g := by
  intro d
  induction d with
  | zero => exact List.prefix_rfl
  | succ d ih => rw [← Nat.add_assoc, flat_succ]; exact ih.trans (List.prefix_append _ _)
theorem pre_flat (g : Nat → List Fm) (m k : Nat) (hk : k < m) (ys : List Fm) (hy : ys <+: g k) : (List.range k).flatMap g ++ ys <+: (List.range m).flatMap g := by
  have h1 : (List.range k).flatMap g ++ ys <+: (List.range (k + 1)).flatMap g := by rw [flat_succ]; exact (List.prefix_append_right_inj _).2 hy
  have h2 := flat_pre g (k + 1) (m - (k + 1))
  rw [show k + 1 + (m - (k + 1)) = m by omega] at h2
  exact h1.trans h2
theorem pre_mid {A X Y C : List Fm} (h : X <+: Y) : A ++ X <+: A ++ Y ++ C := ((List.prefix_append_right_inj A).2 h).trans (List.prefix_append _ _)
theorem sum_at (k : Nat) (hk : k < 8) (W : World) : (Instr.index 50 (.agg #[.int .u8 3, .int .u8 4, .int .u8 5, .int .u8 6, .int .u8 7, .int .u8 8, .int .u8 9, .int .u8 10]) (.int .i64 (k : Int))).run Tryd.prog W = .ok (.int .u8 ((sumV.getD k 0 : Nat) : Int)) W := by
  obtain rfl | rfl | rfl | rfl | rfl | rfl | rfl | rfl : k = 0 ∨ k = 1 ∨ k = 2 ∨ k = 3 ∨ k = 4 ∨ k = 5 ∨ k = 6 ∨ k = 7 := by omega
  all_goals kernel_rfl
set_option maxRecDepth 100000 in
set_option maxHeartbeats 4000000 in
theorem sum_in (F : Fence) (HF : Hid (F = Fence.wide)) (n : Nat) (hn : 1 ≤ n) (h31 : F.fn 31) (hro : F.round = none) (l N B : Nat) (J Jx : List Fm → World → Prop) (hJg : ∀ pre W W', J pre W → W.grownBy W' none → J pre W')
    (hY : YC F l N B J Jx) (pre : List Fm) (hlen : pre.length + sumL.length ≤ N) (W : World) (hG : GL W) (hJ : J pre W) :
    CallsIn F n Tryd.prog 31 #[.func (.yield l) #[] #[]] W fun e W' =>
      (e = .returned (.bool true) ∧ J (pre ++ sumL) W' ∧ KpC B W W') ∨ (e = .returned (.bool false) ∧ ∃ q, q <+: sumL ∧ Jx (pre ++ q) W') := by
  have HJ := Lib.hid hJg
  have HY := Lib.hid hY
  clear hJg hY
  refine callsIn_of_wp Tryd.func31 rfl h31 ?_ hro
  simp only [Tryd.ntmps31, List.size_toArray, List.length_cons, List.length_nil, Nat.reduceAdd, Nat.reduceSub, Array.replicate_succ, Array.replicate_zero, List.push_toArray, List.append_toArray, List.nil_append, List.cons_append]
  have c0 : W.cell? ⟨0, 0, none⟩ = some (.int .u8 3) := hG.1 0 (by decide)
  have c1 : W.cell? ⟨0, 1, none⟩ = some (.int .u8 4) := hG.1 1 (by decide)
  have c2 : W.cell? ⟨0, 2, none⟩ = some (.int .u8 5) := hG.1 2 (by decide)
  have c3 : W.cell? ⟨0, 3, none⟩ = some (.int .u8 6) := hG.1 3 (by decide)
  have c4 : W.cell? ⟨0, 4, none⟩ = some (.int .u8 7) := hG.1 4 (by decide)
  have c5 : W.cell? ⟨0, 5, none⟩ = some (.int .u8 8) := hG.1 5 (by decide)
  have c6 : W.cell? ⟨0, 6, none⟩ = some (.int .u8 9) := hG.1 6 (by decide)
  have c7 : W.cell? ⟨0, 7, none⟩ = some (.int .u8 10) := hG.1 7 (by decide)
  gi_wp2
  clear c0 c1 c2 c3 c4 c5 c6 c7
  gi_loopw [8] (fun i wr => ∃ k : Nat, k ≤ 8 ∧ i = .int .i64 k ∧ J (pre ++ (([] : List Fm) ++ (List.range k).flatMap sum1)) wr ∧ KpC B W wr) (fun i _ => 8 - (intOf i).toNat)
  case atStart => exact ⟨0, Nat.zero_le _, rfl, by simpa using hJ, kpC_refl _ _⟩
  case round =>
    obtain ⟨k, hk, rfl, hJs, hKp⟩ := hrel
    by_cases hlt : k < 8
    · have hp : ∀ zs, zs <+: sum1 k → ([] : List Fm) ++ ((List.range k).flatMap sum1 ++ zs) <+: sumL := fun zs hz => by
        have h := pre_mid (A := ([] : List Fm)) (C := ((List.range 8).flatMap sum2)) (pre_flat sum1 8 k hlt zs hz)
        have e : ([] : List Fm) ++ (List.range 8).flatMap sum1 ++ ((List.range 8).flatMap sum2) = sumL := rfl
        rwa [e] at h
      have HP := Lib.hid hp
      have HFS := Lib.hid (flat_succ sum1 k)
      have HKp := Lib.hid hKp
      clear hp hKp
      have hix := fun W => sum_at k hlt W
      obtain ⟨dv, hdv⟩ : ∃ d, sumV.getD k 0 = d := ⟨_, rfl⟩
      have HDV := Lib.hid hdv
      rw [hdv] at hix
      clear hdv
      have hp0 := HP.out [mkF 0 0 (8 * k + 1) false (-1) dv 0 0 1 0 false] (by unfold sum1; rw [HDV.out]; exact ⟨[mkF 0 0 (8 * k + 3) false (-1) dv 0 0 2 0 false], rfl⟩)
      have hl0 := hp0.length_le
      have hx := HY.out (n - 1) _ (mkF 0 0 (8 * k + 1) false (-1) dv 0 0 1 0 false) _ hJs (by simp only [List.length_append, List.length_cons, List.length_nil] at hl0 ⊢; omega)
      have HPP0 := Lib.hid hp0
      obtain ⟨fn0, tmps0, assign0, body0, hy0, hR0⟩ := hx
      have HRR0 := Lib.hid hR0
      clear hR0 hp0 hl0
      simp only [Fm.v, Fm.cs, fcs, Fm.p, Fm.m, Fm.o, Fm.plus, Fm.d, Fm.deed, Fm.cc, Fm.wide, Fm.kind, Fm.imm, Fm.must, Fm.vec, Fm.byte, Fm.mem, mkF, Int.natCast_add, Int.natCast_mul, Int.cast_ofNat_Int, Int.natCast_one, Int.natCast_zero] at hy0
      gi_wp2
      refine HRR0.out.mono ?_
      rintro e W3 (⟨rfl, hJ1, hk3⟩ | ⟨rfl, hJx3⟩)
      rotate_left
      · gi_wp2
        repeat (refine ⟨(fun f h => nomatch h), ?_⟩; gi_wp2)
        go_ret
        refine .inr ⟨rfl, _, HPP0.out, ?_⟩
        simpa only [List.append_assoc, List.cons_append, List.nil_append] using hJx3
      have HK3 := Lib.hid hk3
      clear hk3
      have hp1 := HP.out [mkF 0 0 (8 * k + 1) false (-1) dv 0 0 1 0 false, mkF 0 0 (8 * k + 3) false (-1) dv 0 0 2 0 false] (by unfold sum1; rw [HDV.out]; exact ⟨[], rfl⟩)
      have hl1 := hp1.length_le
      have hx := HY.out (n - 1) _ (mkF 0 0 (8 * k + 3) false (-1) dv 0 0 2 0 false) _ hJ1 (by simp only [List.length_append, List.length_cons, List.length_nil] at hl1 ⊢; omega)
      have HPP1 := Lib.hid hp1
      obtain ⟨fn1, tmps1, assign1, body1, hy1, hR1⟩ := hx
      have HRR1 := Lib.hid hR1
      clear hR1 hp1 hl1
      simp only [Fm.v, Fm.cs, fcs, Fm.p, Fm.m, Fm.o, Fm.plus, Fm.d, Fm.deed, Fm.cc, Fm.wide, Fm.kind, Fm.imm, Fm.must, Fm.vec, Fm.byte, Fm.mem, mkF, Int.natCast_add, Int.natCast_mul, Int.cast_ofNat_Int, Int.natCast_one, Int.natCast_zero] at hy1
      gi_wp2
      refine HRR1.out.mono ?_
      rintro e W4 (⟨rfl, hJ2, hk4⟩ | ⟨rfl, hJx4⟩)
      rotate_left
      · gi_wp2
        repeat (refine ⟨(fun f h => nomatch h), ?_⟩; gi_wp2)
        go_ret
        refine .inr ⟨rfl, _, HPP1.out, ?_⟩
        simpa only [List.append_assoc, List.cons_append, List.nil_append] using hJx4
      have HK4 := Lib.hid hk4
      clear hk4
      gi_wp2
      go_roundw
      case rel =>
        have e : sum1 k = [mkF 0 0 (8 * k + 1) false (-1) dv 0 0 1 0 false, mkF 0 0 (8 * k + 3) false (-1) dv 0 0 2 0 false] := by unfold sum1; rw [HDV.out]
        exact ⟨k + 1, by omega, by go_num, by rw [HFS.out, e]; simpa only [List.append_assoc, List.cons_append, List.nil_append, List.append_nil] using hJ2, (kpC_t (kpC_t HKp.out HK3.out) HK4.out)⟩
      case measure => simp [intOf]; omega
    · obtain rfl : k = 8 := by omega
      try simp only [Int.cast_ofNat_Int]
      have hG2 := hKp.2.2 hG
      have c0 : wr.cell? ⟨0, 0, none⟩ = some (.int .u8 3) := hG2.1 0 (by decide)
      have c1 : wr.cell? ⟨0, 1, none⟩ = some (.int .u8 4) := hG2.1 1 (by decide)
      have c2 : wr.cell? ⟨0, 2, none⟩ = some (.int .u8 5) := hG2.1 2 (by decide)
      have c3 : wr.cell? ⟨0, 3, none⟩ = some (.int .u8 6) := hG2.1 3 (by decide)
      have c4 : wr.cell? ⟨0, 4, none⟩ = some (.int .u8 7) := hG2.1 4 (by decide)
      have c5 : wr.cell? ⟨0, 5, none⟩ = some (.int .u8 8) := hG2.1 5 (by decide)
      have c6 : wr.cell? ⟨0, 6, none⟩ = some (.int .u8 9) := hG2.1 6 (by decide)
      have c7 : wr.cell? ⟨0, 7, none⟩ = some (.int .u8 10) := hG2.1 7 (by decide)
      gi_wp2
      clear c0 c1 c2 c3 c4 c5 c6 c7
      gi_loopw [34] (fun i wr => ∃ k : Nat, k ≤ 8 ∧ i = .int .i64 k ∧ J (pre ++ (((List.range 8).flatMap sum1) ++ (List.range k).flatMap sum2)) wr ∧ KpC B W wr) (fun i _ => 8 - (intOf i).toNat)
      case atStart => exact ⟨0, Nat.zero_le _, rfl, by simpa using hJs, hKp⟩
      case round =>
        obtain ⟨k, hk, rfl, hJs, hKp⟩ := hrel
        by_cases hlt : k < 8
        · have hp : ∀ zs, zs <+: sum2 k → ((List.range 8).flatMap sum1) ++ ((List.range k).flatMap sum2 ++ zs) <+: sumL := fun zs hz => by
            have h := pre_mid (A := ((List.range 8).flatMap sum1)) (C := ([] : List Fm)) (pre_flat sum2 8 k hlt zs hz)
            have e : ((List.range 8).flatMap sum1) ++ (List.range 8).flatMap sum2 ++ ([] : List Fm) = sumL := by rw [List.append_nil]; rfl
            rwa [e] at h
          have HP := Lib.hid hp
          have HFS := Lib.hid (flat_succ sum2 k)
          have HKp := Lib.hid hKp
          clear hp hKp
          have hix := fun W => sum_at k hlt W
          obtain ⟨dv, hdv⟩ : ∃ d, sumV.getD k 0 = d := ⟨_, rfl⟩
          have HDV := Lib.hid hdv
          rw [hdv] at hix
          clear hdv
          have hp0 := HP.out [mkF 0 0 0x83 false k dv 0 0 4 1 false] (by unfold sum2; rw [HDV.out]; exact ⟨[mkF 0 0 0x81 false k dv 0 0 4 4 false], rfl⟩)
          have hl0 := hp0.length_le
          have hx := HY.out (n - 1) _ (mkF 0 0 0x83 false k dv 0 0 4 1 false) _ hJs (by simp only [List.length_append, List.length_cons, List.length_nil] at hl0 ⊢; omega)
          have HPP0 := Lib.hid hp0
          obtain ⟨fn0, tmps0, assign0, body0, hy0, hR0⟩ := hx
          have HRR0 := Lib.hid hR0
          clear hR0 hp0 hl0
          simp only [Fm.v, Fm.cs, fcs, Fm.p, Fm.m, Fm.o, Fm.plus, Fm.d, Fm.deed, Fm.cc, Fm.wide, Fm.kind, Fm.imm, Fm.must, Fm.vec, Fm.byte, Fm.mem, mkF, Int.natCast_add, Int.natCast_mul, Int.cast_ofNat_Int, Int.natCast_one, Int.natCast_zero] at hy0
          gi_wp2
          refine HRR0.out.mono ?_
          rintro e W3 (⟨rfl, hJ1, hk3⟩ | ⟨rfl, hJx3⟩)
          rotate_left
          · gi_wp2
            repeat (refine ⟨(fun f h => nomatch h), ?_⟩; gi_wp2)
            go_ret
            refine .inr ⟨rfl, _, HPP0.out, ?_⟩
            simpa only [List.append_assoc, List.cons_append, List.nil_append] using hJx3
          have HK3 := Lib.hid hk3
          clear hk3
          have hp1 := HP.out [mkF 0 0 0x83 false k dv 0 0 4 1 false, mkF 0 0 0x81 false k dv 0 0 4 4 false] (by unfold sum2; rw [HDV.out]; exact ⟨[], rfl⟩)
          have hl1 := hp1.length_le
          have hx := HY.out (n - 1) _ (mkF 0 0 0x81 false k dv 0 0 4 4 false) _ hJ1 (by simp only [List.length_append, List.length_cons, List.length_nil] at hl1 ⊢; omega)
          have HPP1 := Lib.hid hp1
          obtain ⟨fn1, tmps1, assign1, body1, hy1, hR1⟩ := hx
          have HRR1 := Lib.hid hR1
          clear hR1 hp1 hl1
          simp only [Fm.v, Fm.cs, fcs, Fm.p, Fm.m, Fm.o, Fm.plus, Fm.d, Fm.deed, Fm.cc, Fm.wide, Fm.kind, Fm.imm, Fm.must, Fm.vec, Fm.byte, Fm.mem, mkF, Int.natCast_add, Int.natCast_mul, Int.cast_ofNat_Int, Int.natCast_one, Int.natCast_zero] at hy1
          gi_wp2
          refine HRR1.out.mono ?_
          rintro e W4 (⟨rfl, hJ2, hk4⟩ | ⟨rfl, hJx4⟩)
          rotate_left
          · gi_wp2
            repeat (refine ⟨(fun f h => nomatch h), ?_⟩; gi_wp2)
            go_ret
            refine .inr ⟨rfl, _, HPP1.out, ?_⟩
            simpa only [List.append_assoc, List.cons_append, List.nil_append] using hJx4
          have HK4 := Lib.hid hk4
          clear hk4
          gi_wp2
          go_roundw
          case rel =>
            have e : sum2 k = [mkF 0 0 0x83 false k dv 0 0 4 1 false, mkF 0 0 0x81 false k dv 0 0 4 4 false] := by unfold sum2; rw [HDV.out]
            exact ⟨k + 1, by omega, by go_num, by rw [HFS.out, e]; simpa only [List.append_assoc, List.cons_append, List.nil_append, List.append_nil] using hJ2, (kpC_t (kpC_t HKp.out HK3.out) HK4.out)⟩
          case measure => simp [intOf]; omega
        · obtain rfl : k = 8 := by omega
          try simp only [Int.cast_ofNat_Int]
          gi_wp2
          go_ret
          refine .inl ⟨rfl, ?_, hKp⟩
          have e : sumL = ((List.range 8).flatMap sum1) ++ ((List.range 8).flatMap sum2) := rfl
          simpa only [e, List.append_assoc, List.nil_append, List.append_nil] using hJs
end Go.Proofs.YtaeehinlgmijgaaDoor
