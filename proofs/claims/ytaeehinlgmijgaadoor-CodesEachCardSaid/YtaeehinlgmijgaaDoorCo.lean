/- codes.conditionForms: the forms that go by a condition. -/
import Derived.Test.YtaeehinlgmijgaaDoorSu
namespace Go.Proofs.YtaeehinlgmijgaaDoor
open Go.RowKit Go.Shelf
set_option linter.unusedVariables false
set_option linter.unusedSimpArgs false
attribute [local go_sem] Oper.semAt_some
set_option maxRecDepth 100000 in
set_option maxHeartbeats 4000000 in
theorem cond_in (F : Fence) (HF : Hid (F = Fence.wide)) (n : Nat) (hn : 1 ≤ n) (h33 : F.fn 33) (hro : F.round = none) (l N B : Nat) (J Jx : List Fm → World → Prop) (hJg : ∀ pre W W', J pre W → W.grownBy W' none → J pre W')
    (hY : YC F l N B J Jx) (pre : List Fm) (hlen : pre.length + condL.length ≤ N) (W : World) (hJ : J pre W) :
    CallsIn F n Tryd.prog 33 #[.func (.yield l) #[] #[]] W fun e W' =>
      (e = .returned (.bool true) ∧ J (pre ++ condL) W' ∧ KpC B W W') ∨ (e = .returned (.bool false) ∧ ∃ q, q <+: condL ∧ Jx (pre ++ q) W') := by
  have HJ := Lib.hid hJg
  have HY := Lib.hid hY
  clear hJg hY
  refine callsIn_of_wp Tryd.func33 rfl h33 ?_ hro
  simp only [Tryd.ntmps33, List.size_toArray, List.length_cons, List.length_nil, Nat.reduceAdd, Nat.reduceSub, Array.replicate_succ, Array.replicate_zero, List.push_toArray, List.append_toArray, List.nil_append, List.cons_append]
  gi_wp2
  gi_loopw [6] (fun i wr => ∃ k : Nat, k ≤ 16 ∧ i = .int .u8 k ∧ J (pre ++ (([] : List Fm) ++ (List.range k).flatMap cond1)) wr ∧ KpC B W wr) (fun i _ => 16 - (intOf i).toNat)
  case atStart => exact ⟨0, Nat.zero_le _, rfl, by simpa using hJ, kpC_refl _ _⟩
  case round =>
    obtain ⟨k, hk, rfl, hJs, hKp⟩ := hrel
    by_cases hlt : k < 16
    · have hp : ∀ zs, zs <+: cond1 k → ([] : List Fm) ++ ((List.range k).flatMap cond1 ++ zs) <+: condL := fun zs hz => by
        have h := pre_mid (A := ([] : List Fm)) (C := (((List.range 16).flatMap cond2) ++ ((List.range 16).flatMap cond3))) (pre_flat cond1 16 k hlt zs hz)
        have e : ([] : List Fm) ++ (List.range 16).flatMap cond1 ++ (((List.range 16).flatMap cond2) ++ ((List.range 16).flatMap cond3)) = condL := by rw [List.nil_append, ← List.append_assoc]; rfl
        rwa [e] at h
      have HP := Lib.hid hp
      have HFS := Lib.hid (flat_succ cond1 k)
      have HKp := Lib.hid hKp
      clear hp hKp
      have hp0 := HP.out [mkF 0 1 (0x80 + k) false (-1) 29 k 8 8 4 false] (by unfold cond1; exact ⟨[mkF 0 0 (0x70 + k) false (-1) 29 k 8 8 1 false], rfl⟩)
      have hl0 := hp0.length_le
      have hx := HY.out (n - 1) _ (mkF 0 1 (0x80 + k) false (-1) 29 k 8 8 4 false) _ hJs (by simp only [List.length_append, List.length_cons, List.length_nil] at hl0 ⊢; omega)
      have HPP0 := Lib.hid hp0
      obtain ⟨fn0, tmps0, assign0, body0, hy0, hR0⟩ := hx
      have HRR0 := Lib.hid hR0
      clear hR0 hp0 hl0
      simp only [Fm.v, Fm.cs, fcs, Fm.p, Fm.m, Fm.o, Fm.plus, Fm.d, Fm.deed, Fm.cc, Fm.wide, Fm.kind, Fm.imm, Fm.must, Fm.vec, Fm.byte, Fm.mem, mkF, Int.natCast_add, Int.natCast_mul, Int.cast_ofNat_Int, Int.natCast_one, Int.natCast_zero] at hy0
      gi_wp2
      refine HRR0.out.mono ?_
      rintro e W3 (⟨rfl, hJ1, hk3⟩ | ⟨rfl, hJx3⟩)
      rotate_left
      · gi_wp2
        repeat (refine ⟨(fun f h => nomatch h), ?_⟩; gi_wp2)
        go_ret
        refine .inr ⟨rfl, _, HPP0.out, ?_⟩
        simpa only [List.append_assoc, List.cons_append, List.nil_append] using hJx3
      have HK3 := Lib.hid hk3
      clear hk3
      have hp1 := HP.out [mkF 0 1 (0x80 + k) false (-1) 29 k 8 8 4 false, mkF 0 0 (0x70 + k) false (-1) 29 k 8 8 1 false] (by unfold cond1; exact ⟨[], rfl⟩)
      have hl1 := hp1.length_le
      have hx := HY.out (n - 1) _ (mkF 0 0 (0x70 + k) false (-1) 29 k 8 8 1 false) _ hJ1 (by simp only [List.length_append, List.length_cons, List.length_nil] at hl1 ⊢; omega)
      have HPP1 := Lib.hid hp1
      obtain ⟨fn1, tmps1, assign1, body1, hy1, hR1⟩ := hx
      have HRR1 := Lib.hid hR1
      clear hR1 hp1 hl1
      simp only [Fm.v, Fm.cs, fcs, Fm.p, Fm.m, Fm.o, Fm.plus, Fm.d, Fm.deed, Fm.cc, Fm.wide, Fm.kind, Fm.imm, Fm.must, Fm.vec, Fm.byte, Fm.mem, mkF, Int.natCast_add, Int.natCast_mul, Int.cast_ofNat_Int, Int.natCast_one, Int.natCast_zero] at hy1
      gi_wp2
      refine HRR1.out.mono ?_
      rintro e W4 (⟨rfl, hJ2, hk4⟩ | ⟨rfl, hJx4⟩)
      rotate_left
      · gi_wp2
        repeat (refine ⟨(fun f h => nomatch h), ?_⟩; gi_wp2)
        go_ret
        refine .inr ⟨rfl, _, HPP1.out, ?_⟩
        simpa only [List.append_assoc, List.cons_append, List.nil_append] using hJx4
      have HK4 := Lib.hid hk4
      clear hk4
      gi_wp2
      go_roundw
      case rel =>
        have e : cond1 k = [mkF 0 1 (0x80 + k) false (-1) 29 k 8 8 4 false, mkF 0 0 (0x70 + k) false (-1) 29 k 8 8 1 false] := rfl
        exact ⟨k + 1, by omega, by go_num, by rw [HFS.out, e]; simpa only [List.append_assoc, List.cons_append, List.nil_append, List.append_nil] using hJ2, (kpC_t (kpC_t HKp.out HK3.out) HK4.out)⟩
      case measure => simp [intOf]; omega
    · obtain rfl : k = 16 := by omega
      try simp only [Int.cast_ofNat_Int]
      gi_wp2
      gi_loopw [26] (fun i wr => ∃ k : Nat, k ≤ 16 ∧ i = .int .u8 k ∧ J (pre ++ (((List.range 16).flatMap cond1) ++ (List.range k).flatMap cond2)) wr ∧ KpC B W wr) (fun i _ => 16 - (intOf i).toNat)
      case atStart => exact ⟨0, Nat.zero_le _, rfl, by simpa using hJs, hKp⟩
      case round =>
        obtain ⟨k, hk, rfl, hJs, hKp⟩ := hrel
        by_cases hlt : k < 16
        · have hp : ∀ zs, zs <+: cond2 k → ((List.range 16).flatMap cond1) ++ ((List.range k).flatMap cond2 ++ zs) <+: condL := fun zs hz => by
            have h := pre_mid (A := ((List.range 16).flatMap cond1)) (C := ((List.range 16).flatMap cond3)) (pre_flat cond2 16 k hlt zs hz)
            have e : ((List.range 16).flatMap cond1) ++ (List.range 16).flatMap cond2 ++ ((List.range 16).flatMap cond3) = condL := rfl
            rwa [e] at h
          have HP := Lib.hid hp
          have HFS := Lib.hid (flat_succ cond2 k)
          have HKp := Lib.hid hKp
          clear hp hKp
          have hp0 := HP.out [mkF 0 1 (0x40 + k) false (-1) 30 k 0 2 0 false] (by unfold cond2; exact ⟨[], rfl⟩)
          have hl0 := hp0.length_le
          have hx := HY.out (n - 1) _ (mkF 0 1 (0x40 + k) false (-1) 30 k 0 2 0 false) _ hJs (by simp only [List.length_append, List.length_cons, List.length_nil] at hl0 ⊢; omega)
          have HPP0 := Lib.hid hp0
          obtain ⟨fn0, tmps0, assign0, body0, hy0, hR0⟩ := hx
          have HRR0 := Lib.hid hR0
          clear hR0 hp0 hl0
          simp only [Fm.v, Fm.cs, fcs, Fm.p, Fm.m, Fm.o, Fm.plus, Fm.d, Fm.deed, Fm.cc, Fm.wide, Fm.kind, Fm.imm, Fm.must, Fm.vec, Fm.byte, Fm.mem, mkF, Int.natCast_add, Int.natCast_mul, Int.cast_ofNat_Int, Int.natCast_one, Int.natCast_zero] at hy0
          gi_wp2
          refine HRR0.out.mono ?_
          rintro e W3 (⟨rfl, hJ1, hk3⟩ | ⟨rfl, hJx3⟩)
          rotate_left
          · gi_wp2
            repeat (refine ⟨(fun f h => nomatch h), ?_⟩; gi_wp2)
            go_ret
            refine .inr ⟨rfl, _, HPP0.out, ?_⟩
            simpa only [List.append_assoc, List.cons_append, List.nil_append] using hJx3
          have HK3 := Lib.hid hk3
          clear hk3
          gi_wp2
          go_roundw
          case rel =>
            have e : cond2 k = [mkF 0 1 (0x40 + k) false (-1) 30 k 0 2 0 false] := rfl
            exact ⟨k + 1, by omega, by go_num, by rw [HFS.out, e]; simpa only [List.append_assoc, List.cons_append, List.nil_append, List.append_nil] using hJ1, (kpC_t HKp.out HK3.out)⟩
          case measure => simp [intOf]; omega
        · obtain rfl : k = 16 := by omega
          try simp only [Int.cast_ofNat_Int]
          gi_wp2
          gi_loopw [37] (fun i wr => ∃ k : Nat, k ≤ 16 ∧ i = .int .u8 k ∧ J (pre ++ ((((List.range 16).flatMap cond1) ++ ((List.range 16).flatMap cond2)) ++ (List.range k).flatMap cond3)) wr ∧ KpC B W wr) (fun i _ => 16 - (intOf i).toNat)
          case atStart => exact ⟨0, Nat.zero_le _, rfl, by simpa using hJs, hKp⟩
          case round =>
            obtain ⟨k, hk, rfl, hJs, hKp⟩ := hrel
            by_cases hlt : k < 16
            · have hp : ∀ zs, zs <+: cond3 k → (((List.range 16).flatMap cond1) ++ ((List.range 16).flatMap cond2)) ++ ((List.range k).flatMap cond3 ++ zs) <+: condL := fun zs hz => by
                have h := pre_mid (A := (((List.range 16).flatMap cond1) ++ ((List.range 16).flatMap cond2))) (C := ([] : List Fm)) (pre_flat cond3 16 k hlt zs hz)
                have e : (((List.range 16).flatMap cond1) ++ ((List.range 16).flatMap cond2)) ++ (List.range 16).flatMap cond3 ++ ([] : List Fm) = condL := by rw [List.append_nil]; rfl
                rwa [e] at h
              have HP := Lib.hid hp
              have HFS := Lib.hid (flat_succ cond3 k)
              have HKp := Lib.hid hKp
              clear hp hKp
              have hp0 := HP.out [mkF 0 1 (0x90 + k) false 0 31 k 1 3 0 true] (by unfold cond3; exact ⟨[], rfl⟩)
              have hl0 := hp0.length_le
              have hx := HY.out (n - 1) _ (mkF 0 1 (0x90 + k) false 0 31 k 1 3 0 true) _ hJs (by simp only [List.length_append, List.length_cons, List.length_nil] at hl0 ⊢; omega)
              have HPP0 := Lib.hid hp0
              obtain ⟨fn0, tmps0, assign0, body0, hy0, hR0⟩ := hx
              have HRR0 := Lib.hid hR0
              clear hR0 hp0 hl0
              simp only [Fm.v, Fm.cs, fcs, Fm.p, Fm.m, Fm.o, Fm.plus, Fm.d, Fm.deed, Fm.cc, Fm.wide, Fm.kind, Fm.imm, Fm.must, Fm.vec, Fm.byte, Fm.mem, mkF, Int.natCast_add, Int.natCast_mul, Int.cast_ofNat_Int, Int.natCast_one, Int.natCast_zero] at hy0
              gi_wp2
              refine HRR0.out.mono ?_
              rintro e W3 (⟨rfl, hJ1, hk3⟩ | ⟨rfl, hJx3⟩)
              rotate_left
              · gi_wp2
                repeat (refine ⟨(fun f h => nomatch h), ?_⟩; gi_wp2)
                go_ret
                refine .inr ⟨rfl, _, HPP0.out, ?_⟩
                simpa only [List.append_assoc, List.cons_append, List.nil_append] using hJx3
              have HK3 := Lib.hid hk3
              clear hk3
              gi_wp2
              go_roundw
              case rel =>
                have e : cond3 k = [mkF 0 1 (0x90 + k) false 0 31 k 1 3 0 true] := rfl
                exact ⟨k + 1, by omega, by go_num, by rw [HFS.out, e]; simpa only [List.append_assoc, List.cons_append, List.nil_append, List.append_nil] using hJ1, (kpC_t HKp.out HK3.out)⟩
              case measure => simp [intOf]; omega
            · obtain rfl : k = 16 := by omega
              try simp only [Int.cast_ofNat_Int]
              gi_wp2
              go_ret
              refine .inl ⟨rfl, ?_, hKp⟩
              have e : condL = ((List.range 16).flatMap cond1) ++ ((List.range 16).flatMap cond2) ++ ((List.range 16).flatMap cond3) := rfl
              simpa only [e, List.append_assoc, List.nil_append, List.append_nil] using hJs
end Go.Proofs.YtaeehinlgmijgaaDoor
