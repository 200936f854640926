/- codes.shiftForms: the forms of shifts. -/
import Derived.Test.YtaeehinlgmijgaaDoorSu
namespace Go.Proofs.YtaeehinlgmijgaaDoor
open Go.RowKit Go.Shelf
set_option linter.unusedVariables false
set_option linter.unusedSimpArgs false
attribute [local go_sem] Oper.semAt_some
theorem shift_at (k : Nat) (hk : k < 8) (W : World) : (Instr.index 50 (.agg #[.int .u8 19, .int .u8 20, .int .u8 0, .int .u8 0, .int .u8 16, .int .u8 17, .int .u8 0, .int .u8 18]) (.int .i64 (k : Int))).run Tryd.prog W = .ok (.int .u8 ((shiftV.getD k 0 : Nat) : Int)) W := by
  obtain rfl | rfl | rfl | rfl | rfl | rfl | rfl | rfl : k = 0 ∨ k = 1 ∨ k = 2 ∨ k = 3 ∨ k = 4 ∨ k = 5 ∨ k = 6 ∨ k = 7 := by omega
  all_goals kernel_rfl
set_option maxRecDepth 100000 in
set_option maxHeartbeats 4000000 in
theorem shift_in (F : Fence) (HF : Hid (F = Fence.wide)) (n : Nat) (hn : 1 ≤ n) (h32 : F.fn 32) (hro : F.round = none) (l N B : Nat) (J Jx : List Fm → World → Prop) (hJg : ∀ pre W W', J pre W → W.grownBy W' none → J pre W')
    (hY : YC F l N B J Jx) (pre : List Fm) (hlen : pre.length + shiftL.length ≤ N) (W : World) (hG : GL W) (hJ : J pre W) :
    CallsIn F n Tryd.prog 32 #[.func (.yield l) #[] #[]] W fun e W' =>
      (e = .returned (.bool true) ∧ J (pre ++ shiftL) W' ∧ KpC B W W') ∨ (e = .returned (.bool false) ∧ ∃ q, q <+: shiftL ∧ Jx (pre ++ q) W') := by
  have HJ := Lib.hid hJg
  have HY := Lib.hid hY
  clear hJg hY
  refine callsIn_of_wp Tryd.func32 rfl h32 ?_ hro
  simp only [Tryd.ntmps32, List.size_toArray, List.length_cons, List.length_nil, Nat.reduceAdd, Nat.reduceSub, Array.replicate_succ, Array.replicate_zero, List.push_toArray, List.append_toArray, List.nil_append, List.cons_append]
  have c0 : W.cell? ⟨1, 0, none⟩ = some (.int .u8 19) := hG.2 0 (by decide)
  have c1 : W.cell? ⟨1, 1, none⟩ = some (.int .u8 20) := hG.2 1 (by decide)
  have c2 : W.cell? ⟨1, 2, none⟩ = some (.int .u8 0) := hG.2 2 (by decide)
  have c3 : W.cell? ⟨1, 3, none⟩ = some (.int .u8 0) := hG.2 3 (by decide)
  have c4 : W.cell? ⟨1, 4, none⟩ = some (.int .u8 16) := hG.2 4 (by decide)
  have c5 : W.cell? ⟨1, 5, none⟩ = some (.int .u8 17) := hG.2 5 (by decide)
  have c6 : W.cell? ⟨1, 6, none⟩ = some (.int .u8 0) := hG.2 6 (by decide)
  have c7 : W.cell? ⟨1, 7, none⟩ = some (.int .u8 18) := hG.2 7 (by decide)
  gi_wp2
  clear c0 c1 c2 c3 c4 c5 c6 c7
  gi_loopw [6] (fun i wr => ∃ k : Nat, k ≤ 8 ∧ i = .int .i64 k ∧ J (pre ++ (([] : List Fm) ++ (List.range k).flatMap shift1)) wr ∧ KpC B W wr) (fun i _ => 8 - (intOf i).toNat)
  case atStart => exact ⟨0, Nat.zero_le _, rfl, by simpa using hJ, kpC_refl _ _⟩
  case round =>
    obtain ⟨k, hk, rfl, hJs, hKp⟩ := hrel
    by_cases hlt : k < 8
    · have hp : ∀ zs, zs <+: shift1 k → ([] : List Fm) ++ ((List.range k).flatMap shift1 ++ zs) <+: shiftL := fun zs hz => by
        have h := pre_mid (A := ([] : List Fm)) (C := ([] : List Fm)) (pre_flat shift1 8 k hlt zs hz)
        have e : ([] : List Fm) ++ (List.range 8).flatMap shift1 ++ ([] : List Fm) = shiftL := by rw [List.append_nil]; rfl
        rwa [e] at h
      have HP := Lib.hid hp
      have HFS := Lib.hid (flat_succ shift1 k)
      have HKp := Lib.hid hKp
      clear hp hKp
      have hix := fun W => shift_at k hlt W
      obtain ⟨dv, hdv⟩ : ∃ d, shiftV.getD k 0 = d := ⟨_, rfl⟩
      have HDV := Lib.hid hdv
      rw [hdv] at hix
      clear hdv
      by_cases hz : dv = 0
      · have hzb : (((dv : Nat) : Int) == 0) = true := by rw [hz]; rfl
        have HZ := Lib.hid hz
        clear hz
        gi_wp2
        go_roundw
        case rel =>
          have e : shift1 k = [] := by unfold shift1; rw [HDV.out, if_pos HZ.out]
          exact ⟨k + 1, by omega, by go_num, by rw [HFS.out, e]; simpa only [List.append_assoc, List.cons_append, List.nil_append, List.append_nil] using hJs, HKp.out⟩
        case measure => simp [intOf]; omega
      · have hzb : (((dv : Nat) : Int) == 0) = false := by simp; omega
        have HZ := Lib.hid hz
        clear hz
        have hp0 := HP.out [mkF 0 0 0xc1 false k dv 0 0 4 1 false] (by unfold shift1; rw [HDV.out, if_neg HZ.out]; exact ⟨[mkF 0 0 0xd3 false k dv 0 0 5 0 false], rfl⟩)
        have hl0 := hp0.length_le
        have hx := HY.out (n - 1) _ (mkF 0 0 0xc1 false k dv 0 0 4 1 false) _ hJs (by simp only [List.length_append, List.length_cons, List.length_nil] at hl0 ⊢; omega)
        have HPP0 := Lib.hid hp0
        obtain ⟨fn0, tmps0, assign0, body0, hy0, hR0⟩ := hx
        have HRR0 := Lib.hid hR0
        clear hR0 hp0 hl0
        simp only [Fm.v, Fm.cs, fcs, Fm.p, Fm.m, Fm.o, Fm.plus, Fm.d, Fm.deed, Fm.cc, Fm.wide, Fm.kind, Fm.imm, Fm.must, Fm.vec, Fm.byte, Fm.mem, mkF, Int.natCast_add, Int.natCast_mul, Int.cast_ofNat_Int, Int.natCast_one, Int.natCast_zero] at hy0
        gi_wp2
        refine HRR0.out.mono ?_
        rintro e W3 (⟨rfl, hJ1, hk3⟩ | ⟨rfl, hJx3⟩)
        rotate_left
        · gi_wp2
          repeat (refine ⟨(fun f h => nomatch h), ?_⟩; gi_wp2)
          go_ret
          refine .inr ⟨rfl, _, HPP0.out, ?_⟩
          simpa only [List.append_assoc, List.cons_append, List.nil_append] using hJx3
        have HK3 := Lib.hid hk3
        clear hk3
        have hp1 := HP.out [mkF 0 0 0xc1 false k dv 0 0 4 1 false, mkF 0 0 0xd3 false k dv 0 0 5 0 false] (by unfold shift1; rw [HDV.out, if_neg HZ.out]; exact ⟨[], rfl⟩)
        have hl1 := hp1.length_le
        have hx := HY.out (n - 1) _ (mkF 0 0 0xd3 false k dv 0 0 5 0 false) _ hJ1 (by simp only [List.length_append, List.length_cons, List.length_nil] at hl1 ⊢; omega)
        have HPP1 := Lib.hid hp1
        obtain ⟨fn1, tmps1, assign1, body1, hy1, hR1⟩ := hx
        have HRR1 := Lib.hid hR1
        clear hR1 hp1 hl1
        simp only [Fm.v, Fm.cs, fcs, Fm.p, Fm.m, Fm.o, Fm.plus, Fm.d, Fm.deed, Fm.cc, Fm.wide, Fm.kind, Fm.imm, Fm.must, Fm.vec, Fm.byte, Fm.mem, mkF, Int.natCast_add, Int.natCast_mul, Int.cast_ofNat_Int, Int.natCast_one, Int.natCast_zero] at hy1
        gi_wp2
        refine HRR1.out.mono ?_
        rintro e W4 (⟨rfl, hJ2, hk4⟩ | ⟨rfl, hJx4⟩)
        rotate_left
        · gi_wp2
          repeat (refine ⟨(fun f h => nomatch h), ?_⟩; gi_wp2)
          go_ret
          refine .inr ⟨rfl, _, HPP1.out, ?_⟩
          simpa only [List.append_assoc, List.cons_append, List.nil_append] using hJx4
        have HK4 := Lib.hid hk4
        clear hk4
        gi_wp2
        go_roundw
        case rel =>
          have e : shift1 k = [mkF 0 0 0xc1 false k dv 0 0 4 1 false, mkF 0 0 0xd3 false k dv 0 0 5 0 false] := by unfold shift1; rw [HDV.out, if_neg HZ.out]
          exact ⟨k + 1, by omega, by go_num, by rw [HFS.out, e]; simpa only [List.append_assoc, List.cons_append, List.nil_append, List.append_nil] using hJ2, (kpC_t (kpC_t HKp.out HK3.out) HK4.out)⟩
        case measure => simp [intOf]; omega
    · obtain rfl : k = 8 := by omega
      try simp only [Int.cast_ofNat_Int]
      gi_wp2
      go_ret
      refine .inl ⟨rfl, ?_, hKp⟩
      have e : shiftL = (List.range 8).flatMap shift1 := rfl
      simpa only [e, List.append_assoc, List.nil_append, List.append_nil] using hJs
end Go.Proofs.YtaeehinlgmijgaaDoor
