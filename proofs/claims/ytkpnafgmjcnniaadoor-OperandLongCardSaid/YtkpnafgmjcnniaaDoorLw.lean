/- OperandLong, for every operand. -/
import Derived.Test.YtkpnafgmjcnniaaDoorLo
import Derived.Test.YtkpnafgmjcnniaaDoorOp
namespace Go.Proofs.YtkpnafgmjcnniaaDoor
open Go.RowKit
set_option linter.unusedVariables false
set_option linter.unusedSimpArgs false
theorem long_lo (reg k r b i s d : Int) (p : Bool) (m : Int) (w : World) (hm : Mk w) (h : reg < 0) :
    Calls Tryd.prog 7 #[.int .i64 reg, ov k r b i s d p m] w fun e w' => e = .returned (.bool true) ∧ Below w.heap.size w w' := by
  have HB := Lib.hid ((Below.refl w.heap.size w).alloc (Nat.le_refl _) (ob k r b i s d p m))
  have HM := Lib.hid hm
  clear hm
  go_enter Tryd.func7, Tryd.ntmps7
  go_wp2_with (go_at_call 12; refine (wakes_any _ (HM.out.below HB.out)).mono ?_; rintro e w3 ⟨rfl, hb3⟩)
  go_ret
  exact ⟨rfl, HB.out.trans (hb3.mono HB.out.size)⟩
theorem long_hi (reg k r b i s d : Int) (p : Bool) (m : Int) (w : World) (hm : Mk w) (h : 15 < reg) :
    Calls Tryd.prog 7 #[.int .i64 reg, ov k r b i s d p m] w fun e w' => e = .returned (.bool true) ∧ Below w.heap.size w w' := by
  have HB := Lib.hid ((Below.refl w.heap.size w).alloc (Nat.le_refl _) (ob k r b i s d p m))
  have HM := Lib.hid hm
  clear hm
  go_enter Tryd.func7, Tryd.ntmps7
  go_wp2_with (go_at_call 12; refine (wakes_any _ (HM.out.below HB.out)).mono ?_; rintro e w3 ⟨rfl, hb3⟩)
  go_ret
  exact ⟨rfl, HB.out.trans (hb3.mono HB.out.size)⟩
theorem long_no (reg k r b i s d : Int) (p : Bool) (m : Int) (w : World) (hm : Mk w) (h0 : 0 ≤ reg) (h1 : reg ≤ 15)
    (hR : ∀ W, Calls Tryd.prog 19 #[ov k r b i s d p m] W fun e w' => e = .returned (.bool false) ∧ Below W.heap.size W w') :
    Calls Tryd.prog 7 #[.int .i64 reg, ov k r b i s d p m] w fun e w' => e = .returned (.bool true) ∧ Below w.heap.size w w' := by
  have HB := Lib.hid ((Below.refl w.heap.size w).alloc (Nat.le_refl _) (ob k r b i s d p m))
  have HM := Lib.hid hm
  have HR := Lib.hid hR
  clear hm hR
  go_enter Tryd.func7, Tryd.ntmps7
  go_wp2_with (first | (go_at_call 19; (with_reducible refine (HR.out _).mono ?_); rintro e w1 ⟨rfl, hb1⟩; have HB1 := Lib.hid (HB.out.trans (hb1.mono HB.out.size)); clear hb1) | (go_at_call 12; refine (wakes_any _ (HM.out.below HB1.out)).mono ?_; rintro e w3 ⟨rfl, hb3⟩))
  go_ret
  exact ⟨rfl, HB1.out.trans (hb3.mono HB1.out.size)⟩
theorem len_eq (o : Opd) (hok : o.ok = true) (h0 : -9223372036854775808 ≤ o.d) (h1 : o.d ≤ 9223372036854775807) : ((puN o : Nat) : Int) = lenL o.k o.b o.i o.d (bits .and .i64 o.b 7) o.p := by
  by_cases hk : o.k = 1
  · unfold puN lenL; rw [if_pos hk, if_neg (by omega)]; rfl
  · obtain ⟨ho, hf, hp⟩ := ok_mem hok hk
    generalize o.b = b at *
    generalize o.i = i at *
    generalize o.s = s at *
    generalize o.d = d at *
    generalize o.p = p at *
    subst ho
    cases p
    · obtain ⟨hb0, hb1, hi0, hi1, hi4, hs⟩ := ok_parts hp
      show ((puN (memO b i s d false) : Nat) : Int) = lenL 2 b i d (bits .and .i64 b 7) false
      rw [lenL_f, if_pos rfl]
      have hN : puN (memO b i s d false) = if sibB (memO b i s d false) then 2 + puW (memO b i s d false) else 1 + puW (memO b i s d false) := rfl
      rw [hN]
      by_cases hb : b = -1
      · subst hb
        have e1 : sibB (memO (-1) i s d false) = true := by simp [sibB, memO]
        have e2 : puW (memO (-1) i s d false) = 4 := by simp [puW, memO]
        rw [e1, e2]
        simp
      · have hb0' : 0 ≤ b := by omega
        obtain ⟨B, rfl⟩ := Int.eq_ofNat_of_zero_le hb0'
        have c7 := and7 ⟨B, by omega⟩
        dsimp only at c7
        rw [c7]
        have e1 : sibB (memO B i s d false) = decide (0 ≤ i ∨ B % 8 = 4) := by
          have hx : x7N (memO B i s d false) = B % 8 := by simp [x7N, memO, hb]
          unfold sibB
          rw [hx]
          clear hN
          have hb2 : (memO B i s d false).b ≠ -1 := hb
          by_cases q1 : i = -1
          · have q1' : (memO B i s d false).i = -1 := q1
            by_cases q2 : B % 8 = 4
            · simp [q1', hb2, q2]
            · have q3 : ¬ (0 ≤ i ∨ B % 8 = 4) := by omega
              rw [decide_eq_false q3]; simp [q1', hb2, q2]
          · have q1' : (memO B i s d false).i ≠ -1 := q1
            have q3 : (0 ≤ i ∨ B % 8 = 4) := by omega
            rw [decide_eq_true q3]; simp [q1']
        have e2 : puW (memO B i s d false) = if d = 0 ∧ B % 8 ≠ 5 then 0 else if -128 ≤ d ∧ d ≤ 127 then 1 else 4 := by
          have hs0 : short0 (memO B i s d false) = decide (d = 0 ∧ B % 8 ≠ 5) := by
            show (decide (d = 0) && decide ((B : Int).toNat % 8 ≠ 5)) = _
            rw [Int.toNat_natCast, Bool.eq_iff_iff]; simp
          have hf1 : fB (memO B i s d false).d 1 = decide (-128 ≤ d ∧ d ≤ 127) := fB_one d h0 h1
          unfold puW
          rw [if_neg (show ¬ (memO B i s d false).b = -1 from hb), hs0, hf1]
          simp only [decide_eq_true_eq]
        rw [e1, e2]
        simp only [decide_eq_true_eq]
        (repeat' split) <;> omega
    · obtain ⟨rfl, rfl, rfl⟩ := ok_rip hp
      show ((puN (memO (-1) (-1) 1 d true) : Nat) : Int) = lenL 2 (-1) (-1) d (bits .and .i64 (-1) 7) true
      rw [lenL_t]; rfl
theorem long_any (reg k r b i s d : Int) (p : Bool) (m : Int) (hd : (Lit.int .i64 d).wf = true) (w : World) (hm : Mk w) :
    Calls Tryd.prog 7 #[.int .i64 reg, ov k r b i s d p m] w fun e w' => e = .returned (.bool true) ∧ Below w.heap.size w w' := by
  have hdb := Go.bounds_i64 hd
  by_cases h0 : reg < 0
  · exact long_lo reg k r b i s d p m w hm h0
  by_cases h1 : 15 < reg
  · exact long_hi reg k r b i s d p m w hm h1
  have hR := fun W => rright_any k r b i s d p m W
  rw [rrB_eq k r b i s d p m (by omega) (by omega)] at hR
  cases hq : rB k r b i s d p m
  · rw [hq] at hR
    exact long_no reg k r b i s d p m w hm (by omega) (by omega) hR
  · rw [hq] at hR
    have h0' : 0 ≤ reg := by omega
    obtain ⟨Q, rfl⟩ := Int.eq_ofNat_of_zero_le h0'
    have hQ : Q < 16 := by omega
    exact long_core Q k r b i s d p m (bits .and .i64 b 7) (puR Q ⟨k, r, b, i, s, d, p, m⟩ : Nat) (puN ⟨k, r, b, i, s, d, p, m⟩) w hm (by omega) (by omega) rfl hR
      (fun W hW => (put_any Q hQ ⟨k, r, b, i, s, d, p, m⟩ hq W hW).mono fun e w' ⟨v, h1, ⟨g, cap, h2, _, _⟩, h3⟩ => ⟨g, cap, by rw [h1, h2], h3⟩)
      (len_eq ⟨k, r, b, i, s, d, p, m⟩ hq (by dsimp only; omega) (by dsimp only; omega))
theorem long_walk (reg k r b i s d : Int) (p : Bool) (m : Int) (w0 : (Lit.int .i64 reg).wf = true) (w1 : (Lit.int .u8 k).wf = true) (w2 : (Lit.int .i64 r).wf = true) (w3 : (Lit.int .i64 b).wf = true) (w4 : (Lit.int .i64 i).wf = true) (w5 : (Lit.int .i64 s).wf = true) (w6 : (Lit.int .i64 d).wf = true) (w7 : (Lit.int .i64 m).wf = true) (w : World) (hm : Mk w) :
    Calls Tryd.prog 7 #[.int .i64 reg, ov k r b i s d p m] w fun e w' => e = .returned (.bool true) ∧ Below w.heap.size w w' := long_any reg k r b i s d p m w6 w hm
end Go.Proofs.YtkpnafgmjcnniaaDoor
