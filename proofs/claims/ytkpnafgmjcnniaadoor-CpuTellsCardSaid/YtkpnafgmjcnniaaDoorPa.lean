/- operand.Put, one contract; wakes. -/
import Derived.Test.YtkpnafgmjcnniaaDoorWk
namespace Go.Proofs.YtkpnafgmjcnniaaDoor
open Go.RowKit
set_option linter.unusedVariables false
set_option linter.unusedSimpArgs false
theorem PutR.congr {w : World} {n : Nat} {f g : Nat → Int} {x : Int} {e : Ending} {W : World} (h : PutR w n f x e W) (hc : ∀ j, j < n → f j = g j) : PutR w n g x e W := by
  obtain ⟨v, h1, ⟨b, cap, h2, h3, h4⟩, h5⟩ := h
  exact ⟨v, h1, ⟨b, cap, h2, h3, fun j hj => by rw [h4 j hj, hc j hj]⟩, h5⟩
theorem and7 : ∀ n : Fin 16, bits .and .i64 ((n.val : Nat) : Int) 7 = ((n.val % 8 : Nat) : Int) := by decide +kernel
theorem or_first : ∀ (a : Fin 8) (m : Fin 4) (c : Fin 8), bits .or .u8 (bits .or .u8 (((a.val : Nat) : Int) * 8) (((m.val : Nat) : Int) * 64)) ((c.val : Nat) : Int) = ((64 * m.val + 8 * a.val + c.val : Nat) : Int) := by decide +kernel
theorem or_first0 : ∀ (a : Fin 8) (c : Fin 8), bits .or .u8 (bits .or .u8 (((a.val : Nat) : Int) * 8) 0) ((c.val : Nat) : Int) = ((8 * a.val + c.val : Nat) : Int) ∧ bits .or .u8 (((a.val : Nat) : Int) * 8) ((c.val : Nat) : Int) = ((8 * a.val + c.val : Nat) : Int) ∧ bits .or .u8 (bits .or .u8 192 (((a.val : Nat) : Int) * 8)) ((c.val : Nat) : Int) = ((192 + 8 * a.val + c.val : Nat) : Int) := by decide +kernel
theorem or_second : ∀ (t : Fin 4) (a : Fin 8) (c : Fin 8), bits .or .u8 (bits .or .u8 (((t.val : Nat) : Int) * 64) (((a.val : Nat) : Int) * 8)) ((c.val : Nat) : Int) = ((64 * t.val + 8 * a.val + c.val : Nat) : Int) := by decide +kernel
theorem or_rex : ∀ (a b c : Fin 2), bits .or .u8 (bits .or .u8 (((a.val : Nat) : Int) * 4) ((b.val : Nat) : Int)) (((c.val : Nat) : Int) * 2) = ((4 * a.val + 2 * c.val + b.val : Nat) : Int) ∧ bits .or .u8 (((a.val : Nat) : Int) * 4) ((b.val : Nat) : Int) = ((4 * a.val + b.val : Nat) : Int) ∧ bits .or .u8 (((a.val : Nat) : Int) * 4) (((c.val : Nat) : Int) * 2) = ((4 * a.val + 2 * c.val : Nat) : Int) := by decide +kernel
def catN (n : Nat) (f g : Nat → Nat) (j : Nat) : Nat := if j < n then f j else g (j - n)
theorem catF_N (n : Nat) (f g : Nat → Nat) (f' g' : Nat → Int) (hf : ∀ j, f' j = f j) (hg : ∀ j, g' j = g j) (j : Nat) : catF n f' g' j = (catN n f g j : Nat) := by
  unfold catF catN; split
  · exact hf _
  · exact hg _
def topN (s : Int) : Nat := if s = 2 then 1 else if s = 4 then 2 else if s = 8 then 3 else 0
theorem scI_top (s : Int) : scI s = ((topN s : Nat) : Int) * 64 := by
  unfold scI topN
  split
  · rfl
  · split
    · rfl
    · split <;> rfl
theorem topN_lt (s : Int) : topN s < 4 := by
  unfold topN; split
  · decide
  · split
    · decide
    · split <;> decide
def short0 (o : Opd) : Bool := decide (o.d = 0) && decide (o.b.toNat % 8 ≠ 5)
def puM (o : Opd) : Nat := if o.b = -1 then 0 else if short0 o then 0 else if fB o.d 1 then 1 else 2
def puW (o : Opd) : Nat := if o.b = -1 then 4 else if short0 o then 0 else if fB o.d 1 then 1 else 4
def x7N (o : Opd) : Nat := if o.b = -1 then 5 else o.b.toNat % 8
def x8N (o : Opd) : Nat := if o.b = -1 then 0 else o.b.toNat / 8
def y7N (o : Opd) : Nat := if o.i = -1 then 4 else o.i.toNat % 8
def y8N (o : Opd) : Nat := if o.i = -1 then 0 else o.i.toNat / 8
def sibB (o : Opd) : Bool := !(decide (o.i = -1) && decide (o.b ≠ -1) && decide (x7N o ≠ 4))
def puN (o : Opd) : Nat := if o.k = 1 then 1 else if o.p then 5 else if sibB o then 2 + puW o else 1 + puW o
def puZ (Q : Nat) (o : Opd) : Nat → Nat := if o.k = 1 then fun _ => 192 + 8 * (Q % 8) + o.r.toNat % 8 else if o.p then catN 1 (fun _ => 8 * (Q % 8) + 5) (byN (uN o.d))
  else if sibB o then catN 2 (fun j => if j = 0 then 64 * puM o + 8 * (Q % 8) + 4 else 64 * topN o.s + 8 * y7N o + x7N o) (byN (uN o.d)) else catN 1 (fun _ => 64 * puM o + 8 * (Q % 8) + x7N o) (byN (uN o.d))
def puR (Q : Nat) (o : Opd) : Nat := if o.k = 1 then 4 * (Q / 8) + o.r.toNat / 8 else if o.p then 4 * (Q / 8) else 4 * (Q / 8) + 2 * y8N o + x8N o
def Opd.ok (o : Opd) : Bool := rB o.k o.r o.b o.i o.s o.d o.p o.m
theorem twoF_N (x y : Nat) (j : Nat) : twoF (x : Nat) (y : Nat) j = ((if j = 0 then x else y : Nat) : Int) := by unfold twoF; split <;> rfl
theorem ok_reg {o : Opd} (h : o.ok = true) (hk : o.k = 1) : o = regO o.r ∧ 0 ≤ o.r ∧ o.r ≤ 15 := by
  obtain ⟨k, r, b, i, s, d, p, m⟩ := o
  dsimp only at hk
  subst hk
  unfold Opd.ok rB at h
  simp at h
  obtain ⟨⟨⟨rfl, rfl, rfl, rfl, rfl, rfl⟩, h0⟩, h1⟩ := h
  exact ⟨rfl, h0, h1⟩
theorem ok_mem {o : Opd} (h : o.ok = true) (hk : o.k ≠ 1) : o = memO o.b o.i o.s o.d o.p ∧ fB o.d 4 = true ∧ rpB o.b o.i o.s o.p = true := by
  obtain ⟨k, r, b, i, s, d, p, m⟩ := o
  dsimp only at hk
  unfold Opd.ok rB at h
  dsimp only at h
  rw [if_neg hk] at h
  by_cases h2 : k = 2
  · subst h2
    simp at h
    obtain ⟨⟨⟨rfl, rfl⟩, h3⟩, h4⟩ := h
    exact ⟨rfl, h3, h4⟩
  · rw [if_neg h2] at h; cases h
theorem ok_rip {b i s : Int} (h : rpB b i s true = true) : b = -1 ∧ i = -1 ∧ s = 1 := by
  unfold rpB at h; simp at h; omega
theorem ok_parts {b i s : Int} (h : rpB b i s false = true) : -1 ≤ b ∧ b ≤ 15 ∧ -1 ≤ i ∧ i ≤ 15 ∧ i ≠ 4 ∧ (s = 1 ∨ (i ≠ -1 ∧ (s = 2 ∨ s = 4 ∨ s = 8))) := by
  unfold rpB at h
  simp only [Bool.false_eq_true, if_false] at h
  split at h
  · cases h
  · split at h
    · omega
    · split at h
      · simp at h; omega
      · cases h
theorem put_any (Q : Nat) (hQ : Q < 16) (o : Opd) (hok : o.ok = true) (w : World) (hm : Mk w) :
    Calls Tryd.prog 15 #[.int .i64 Q, o.v] w fun e w' => PutR w (puN o) (fun j => (puZ Q o j : Nat)) (puR Q o : Nat) e w' := by
  have a7 := and7 ⟨Q, hQ⟩
  by_cases hk : o.k = 1
  · obtain ⟨ho, h0, h1⟩ := ok_reg hok hk
    generalize o.r = r at *
    subst ho
    obtain ⟨R, rfl⟩ := Int.eq_ofNat_of_zero_le h0
    have b7 := and7 ⟨R, by omega⟩
    refine (put_reg Q R (Q % 8 : Nat) (Q / 8 : Nat) (R % 8 : Nat) (R / 8 : Nat) w hm (by omega) (by omega) h0 h1 a7 (by omega) b7 (by omega) (by omega) (by omega) (by omega) (by omega) (by omega) (by omega) (by omega) (by omega)).mono fun e w' h => ?_
    have q1 := (or_first0 ⟨Q % 8, by omega⟩ ⟨R % 8, by omega⟩).2.2
    have q2 := (or_rex ⟨Q / 8, by omega⟩ ⟨R / 8, by omega⟩ ⟨0, by omega⟩).2.1
    dsimp only at q1 q2
    rw [q1, q2] at h
    exact h
  · obtain ⟨ho, hf, hp⟩ := ok_mem hok hk
    generalize o.b = b at *
    generalize o.i = i at *
    generalize o.s = s at *
    generalize o.d = d at *
    generalize o.p = p at *
    subst ho
    have hr : rB 2 0 b i s d p 0 = true := hok
    cases p
    · obtain ⟨hb0, hb1, hi0, hi1, hi4, hs⟩ := ok_parts hp
      have dfN : ∀ j, dF d j = (byN (uN d) j : Nat) := fun j => rfl
      have ht := topN_lt s
      by_cases hb : b = -1
      · subst hb
        by_cases hi : i = -1
        · subst hi
          refine (put_0 Q d (Q % 8 : Nat) (Q / 8 : Nat) s w hm hr (by omega) (by omega) a7 (by omega) (by omega) (by omega) (by omega) (by omega)).mono fun e w' h => ?_
          have q1 := (or_first0 ⟨Q % 8, by omega⟩ ⟨4, by omega⟩).1
          have q2 := or_second ⟨topN s, ht⟩ ⟨4, by omega⟩ ⟨5, by omega⟩
          have q3 := (or_rex ⟨Q / 8, by omega⟩ ⟨0, by omega⟩ ⟨0, by omega⟩).2.1
          dsimp only at q1 q2 q3
          rw [scI_top] at h
          have e1 : puR Q (memO (-1) (-1) s d false) = 4 * (Q / 8) := by simp [puR, memO, y8N, x8N]
          have e2 : puN (memO (-1) (-1) s d false) = 2 + 4 := by simp [puN, memO, sibB, puW]
          have e3 : puZ Q (memO (-1) (-1) s d false) = catN 2 (fun j => if j = 0 then 8 * (Q % 8) + 4 else 64 * topN s + 8 * 4 + 5) (byN (uN d)) := by simp [puZ, memO, sibB, puM, x7N, y7N]
          have e4 : (((4 * (Q / 8) : Nat)) : Int) = ((Q / 8 : Nat) : Int) * 4 := by omega
          rw [e1, e2, e3, e4]
          refine h.congr fun j _ => catF_N 2 _ _ _ _ (fun j => ?_) dfN j
          rw [← twoF_N, ← q1, ← q2]; rfl
        · have hi0' : 0 ≤ i := by omega
          obtain ⟨I, rfl⟩ := Int.eq_ofNat_of_zero_le hi0'
          have c7 := and7 ⟨I, by omega⟩
          refine (put_i Q d (Q % 8 : Nat) (Q / 8 : Nat) I (I % 8 : Nat) (I / 8 : Nat) s w hm hr (by omega) (by omega) a7 (by omega) (by omega) (by omega) (by omega) (by omega) (by omega) (by omega) c7 (by omega) (by omega) (by omega) (by omega) (by omega)).mono fun e w' h => ?_
          have q1 := (or_first0 ⟨Q % 8, by omega⟩ ⟨4, by omega⟩).1
          have q2 := or_second ⟨topN s, ht⟩ ⟨I % 8, by omega⟩ ⟨5, by omega⟩
          have q3 := (or_rex ⟨Q / 8, by omega⟩ ⟨0, by omega⟩ ⟨I / 8, by omega⟩).2.2
          dsimp only at q1 q2 q3
          rw [scI_top] at h
          have e1 : puR Q (memO (-1) I s d false) = 4 * (Q / 8) + 2 * (I / 8) := by simp [puR, memO, y8N, x8N, hi]
          have e2 : puN (memO (-1) I s d false) = 2 + 4 := by simp [puN, memO, sibB, puW]
          have e3 : puZ Q (memO (-1) I s d false) = catN 2 (fun j => if j = 0 then 8 * (Q % 8) + 4 else 64 * topN s + 8 * (I % 8) + 5) (byN (uN d)) := by simp [puZ, memO, sibB, puM, x7N, y7N, hi]
          rw [e1, e2, e3, ← q3]
          refine h.congr fun j _ => catF_N 2 _ _ _ _ (fun j => ?_) dfN j
          rw [← twoF_N, ← q1, ← q2]; rfl
      · have hb0' : 0 ≤ b := by omega
        obtain ⟨B, rfl⟩ := Int.eq_ofNat_of_zero_le hb0'
        have c7 := and7 ⟨B, by omega⟩
        have hsh := fun W hW => short_any (B : Int) d (B % 8 : Nat) W hW c7
        have eM : shM (B % 8 : Nat) d = ((puM (memO B i s d false) : Nat) : Int) := by
          have hb2 : ¬ (memO B i s d false).b = -1 := hb
          unfold shM puM
          rw [if_neg hb2]
          by_cases q : d = 0 ∧ B % 8 ≠ 5
          · have q1 : d = 0 ∧ ((B % 8 : Nat) : Int) ≠ 5 := by omega
            have q2 : short0 (memO B i s d false) = true := by simp [short0, memO, q.1, q.2]
            rw [if_pos q1, q2]; rfl
          · have q1 : ¬ (d = 0 ∧ ((B % 8 : Nat) : Int) ≠ 5) := by omega
            have q2 : short0 (memO B i s d false) = false := by rw [Bool.eq_false_iff]; intro h; simp only [short0, memO, Int.toNat_natCast, Bool.and_eq_true] at h; exact q ⟨of_decide_eq_true h.1, of_decide_eq_true h.2⟩
            rw [if_neg q1, q2]; show (if fB d 1 then _ else _) = ((if fB d 1 then _ else _ : Nat) : Int); split <;> rfl
        have eW : shW (B % 8 : Nat) d = ((puW (memO B i s d false) : Nat) : Int) := by
          have hb2 : ¬ (memO B i s d false).b = -1 := hb
          unfold shW puW
          rw [if_neg hb2]
          by_cases q : d = 0 ∧ B % 8 ≠ 5
          · have q1 : d = 0 ∧ ((B % 8 : Nat) : Int) ≠ 5 := by omega
            have q2 : short0 (memO B i s d false) = true := by simp [short0, memO, q.1, q.2]
            rw [if_pos q1, q2]; rfl
          · have q1 : ¬ (d = 0 ∧ ((B % 8 : Nat) : Int) ≠ 5) := by omega
            have q2 : short0 (memO B i s d false) = false := by rw [Bool.eq_false_iff]; intro h; simp only [short0, memO, Int.toNat_natCast, Bool.and_eq_true] at h; exact q ⟨of_decide_eq_true h.1, of_decide_eq_true h.2⟩
            rw [if_neg q1, q2]; show (if fB d 1 then _ else _) = ((if fB d 1 then _ else _ : Nat) : Int); split <;> rfl
        rw [eM, eW] at hsh
        have hMl : puM (memO B i s d false) < 3 := by unfold puM; split <;> (try split) <;> (try split) <;> omega
        have hWl : puW (memO B i s d false) = 0 ∨ puW (memO B i s d false) = 1 ∨ puW (memO B i s d false) = 4 := by unfold puW; split <;> (try split) <;> (try split) <;> omega
        have HSH := Lib.hid hsh
        clear hsh eM eW
        have q1 := or_first ⟨Q % 8, by omega⟩ ⟨puM (memO B i s d false), by omega⟩ ⟨4, by omega⟩
        have q1b := or_first ⟨Q % 8, by omega⟩ ⟨puM (memO B i s d false), by omega⟩ ⟨B % 8, by omega⟩
        dsimp only at q1 q1b
        by_cases hi : i = -1
        · subst hi
          have q3 := (or_rex ⟨Q / 8, by omega⟩ ⟨B / 8, by omega⟩ ⟨0, by omega⟩).2.1
          have q2 := or_second ⟨topN s, ht⟩ ⟨4, by omega⟩ ⟨B % 8, by omega⟩
          dsimp only at q2 q3
          have e1 : puR Q (memO B (-1) s d false) = 4 * (Q / 8) + B / 8 := by simp [puR, memO, y8N, x8N, hb]
          have Q1 := Lib.hid q1
          have Q1b := Lib.hid q1b
          have Q2 := Lib.hid q2
          have Q3 := Lib.hid q3
          have A7 := Lib.hid a7
          have C7 := Lib.hid c7
          clear q1 q1b q2 q3 a7 c7
          by_cases h4 : B % 8 = 4
          · have x4 : (((B % 8 : Nat) : Int) == 4) = true := by rw [h4]; rfl
            have x4b : (((B % 8 : Nat) : Int) != 4) = false := by rw [h4]; rfl
            have e2 : puN (memO B (-1) s d false) = 2 + puW (memO B (-1) s d false) := by simp [puN, memO, sibB, x7N, hb, h4]
            have e3 : puZ Q (memO B (-1) s d false) = catN 2 (fun j => if j = 0 then 64 * puM (memO B (-1) s d false) + 8 * (Q % 8) + 4 else 64 * topN s + 8 * 4 + B % 8) (byN (uN d)) := by simp [puZ, memO, sibB, x7N, y7N, hb, h4]
            refine (put_b4 Q d (Q % 8 : Nat) (Q / 8 : Nat) B (B % 8 : Nat) (B / 8 : Nat) (puM (memO B (-1) s d false) : Nat) s w hm hr (by omega) (by omega) A7.out (by omega) (by omega) (by omega) (by omega) (by omega) (by omega) (by omega) C7.out (by omega) (by omega) (by omega) (by omega) (by omega) (by omega) (by omega) x4 x4b (puW (memO B (-1) s d false)) hWl HSH.out).mono fun e w' h => ?_
            rw [scI_top] at h
            rw [e1, e2, e3, ← Q3.out]
            refine h.congr fun j _ => catF_N 2 _ _ _ _ (fun j => ?_) dfN j
            rw [← twoF_N, ← Q1.out, ← Q2.out]; rfl
          · have x4 : (((B % 8 : Nat) : Int) == 4) = false := by simp; omega
            have x4b : (((B % 8 : Nat) : Int) != 4) = true := by simp; omega
            have e2 : puN (memO B (-1) s d false) = 1 + puW (memO B (-1) s d false) := by simp [puN, memO, sibB, x7N, hb, h4]
            have e3 : puZ Q (memO B (-1) s d false) = catN 1 (fun j => 64 * puM (memO B (-1) s d false) + 8 * (Q % 8) + B % 8) (byN (uN d)) := by simp [puZ, memO, sibB, x7N, y7N, hb, h4]
            refine (put_b Q d (Q % 8 : Nat) (Q / 8 : Nat) B (B % 8 : Nat) (B / 8 : Nat) (puM (memO B (-1) s d false) : Nat) s w hm hr (by omega) (by omega) A7.out (by omega) (by omega) (by omega) (by omega) (by omega) (by omega) (by omega) C7.out (by omega) (by omega) (by omega) (by omega) (by omega) (by omega) (by omega) x4 x4b (puW (memO B (-1) s d false)) hWl HSH.out).mono fun e w' h => ?_
            rw [e1, e2, e3, ← Q3.out]
            refine h.congr fun j _ => catF_N 1 _ _ _ _ (fun j => ?_) dfN j
            exact Q1b.out
        · have hi0' : 0 ≤ i := by omega
          obtain ⟨I, rfl⟩ := Int.eq_ofNat_of_zero_le hi0'
          have k7 := and7 ⟨I, by omega⟩
          have q3 := (or_rex ⟨Q / 8, by omega⟩ ⟨B / 8, by omega⟩ ⟨I / 8, by omega⟩).1
          have q2 := or_second ⟨topN s, ht⟩ ⟨I % 8, by omega⟩ ⟨B % 8, by omega⟩
          dsimp only at q2 q3
          have e1 : puR Q (memO B I s d false) = 4 * (Q / 8) + 2 * (I / 8) + B / 8 := by simp [puR, memO, y8N, x8N, hb, hi]
          have e2 : puN (memO B I s d false) = 2 + puW (memO B I s d false) := by simp [puN, memO, sibB, hi]
          have e3 : puZ Q (memO B I s d false) = catN 2 (fun j => if j = 0 then 64 * puM (memO B I s d false) + 8 * (Q % 8) + 4 else 64 * topN s + 8 * (I % 8) + B % 8) (byN (uN d)) := by simp [puZ, memO, sibB, x7N, y7N, hb, hi]
          have Q1 := Lib.hid q1
          have Q2 := Lib.hid q2
          have Q3 := Lib.hid q3
          have A7 := Lib.hid a7
          have C7 := Lib.hid c7
          have K7 := Lib.hid k7
          clear q1 q1b q2 q3 a7 c7 k7
          refine (put_bi Q d (Q % 8 : Nat) (Q / 8 : Nat) B (B % 8 : Nat) (B / 8 : Nat) (puM (memO B I s d false) : Nat) I (I % 8 : Nat) (I / 8 : Nat) s w hm hr (by omega) (by omega) A7.out (by omega) (by omega) (by omega) (by omega) (by omega) (by omega) (by omega) C7.out (by omega) (by omega) (by omega) (by omega) (by omega) (by omega) (by omega) (by omega) (by omega) K7.out (by omega) (by omega) (by omega) (by omega) (by omega) (puW (memO B I s d false)) hWl HSH.out).mono fun e w' h => ?_
          rw [scI_top] at h
          rw [e1, e2, e3, ← Q3.out]
          refine h.congr fun j _ => catF_N 2 _ _ _ _ (fun j => ?_) dfN j
          rw [← twoF_N, ← Q1.out, ← Q2.out]; rfl
    · obtain ⟨rfl, rfl, rfl⟩ := ok_rip hp
      refine (put_rip Q d (Q % 8 : Nat) (Q / 8 : Nat) w hm hr (by omega) (by omega) a7 (by omega) (by omega) (by omega) (by omega) (by omega)).mono fun e w' h => ?_
      have q1 := (or_first0 ⟨Q % 8, by omega⟩ ⟨5, by omega⟩).2.1
      dsimp only at q1
      have e3 : puZ Q (memO (-1) (-1) 1 d true) = catN 1 (fun j => 8 * (Q % 8) + 5) (byN (uN d)) := by simp [puZ, memO]
      have e1 : puR Q (memO (-1) (-1) 1 d true) = 4 * (Q / 8) := by simp [puR, memO]
      have e4 : (((4 * (Q / 8) : Nat)) : Int) = ((Q / 8 : Nat) : Int) * 4 := by omega
      rw [e1, e3, e4]
      refine PutR.congr (n := 1 + 4) h fun j _ => catF_N 1 _ _ _ _ (fun j => ?_) (fun j => rfl) j
      exact q1
/-- Bytes in a block of their own. -/
theorem bs_new (W : World) (cs : Array Value) (n : Nat) (z : Nat → Nat) (h : ∀ j, j < n → cs[j]? = some (.int .u8 (z j : Nat))) : BS (W.alloc (.cells cs 5)) (some ⟨W.heap.size, 0, none⟩) n z := fun _ =>
  ⟨W.heap.size, 0, rfl, fun j hj => by rw [World.cell?_alloc_new, Nat.zero_add]; simpa using h j hj⟩
def z1w (j : Nat) : Nat := 193
def z4w (j : Nat) : Nat := if j = 0 then 68 else if j = 1 then 36 else if j = 2 then 8 else 99
theorem tk1 : tkV (tkF 1 z1w 0) = .tuple #[.int .i64 0, ov 1 1 (-1) (-1) 0 0 false 0, .int .i64 1, .int .i64 0] := by rfl
theorem dI_w : dI z4w 2 1 = 8 := by decide +kernel
theorem tk4 : tkV (tkF 4 z4w 0) = .tuple #[.int .i64 0, ov 2 0 4 (-1) 1 8 false 0, .int .i64 3, .int .i64 0] := by
  have h : tkF 4 z4w 0 = some (0, memO 4 (-1) 1 (dI z4w 2 1) false, 3) := by rfl
  rw [h, dI_w]; rfl
theorem wakes_any (w : World) (hm : Mk w) : Calls Tryd.prog 12 #[] w fun e w' => e = .returned (.bool true) ∧ Below w.heap.size w w' := by
  refine wakes_core w hm (fun W hW => ?_) (fun W hW => ?_) (fun W => mem_any 4 8 W) (fun W hW => ?_) (fun W hW => take_0 none 0 0 W hW) (fun W => reg_any 1 W)
  · have hB : Below W.heap.size W (W.alloc (.cells #[.int .u8 193] 5)) := (Below.refl _ _).alloc (Nat.le_refl _) _
    have h := take_any (some ⟨W.heap.size, 0, none⟩) 1 1 z1w 0 (by decide) (W.alloc (.cells #[.int .u8 193] 5)) (fun j => by unfold z1w; decide) (hW.alloc _) (bs_new W _ 1 z1w (fun j hj => by obtain rfl : j = 0 := (by omega); rfl)) (by decide) (by decide)
    rw [tk1] at h
    exact h.mono fun e w' ⟨h1, h2⟩ => ⟨h1, hB.trans (h2.mono hB.size)⟩
  · have hB : Below W.heap.size W (W.alloc (.cells #[.int .u8 68, .int .u8 36, .int .u8 8, .int .u8 99] 5)) := (Below.refl _ _).alloc (Nat.le_refl _) _
    have h := take_any (some ⟨W.heap.size, 0, none⟩) 4 4 z4w 0 (by decide) (W.alloc (.cells #[.int .u8 68, .int .u8 36, .int .u8 8, .int .u8 99] 5)) (fun j => by unfold z4w; (repeat' split) <;> decide) (hW.alloc _)
      (bs_new W _ 4 z4w (fun j hj => by
        match j, hj with
        | 0, _ => rfl
        | 1, _ => rfl
        | 2, _ => rfl
        | 3, _ => rfl)) (by decide) (by decide)
    rw [tk4] at h
    exact h.mono fun e w' ⟨h1, h2⟩ => ⟨h1, hB.trans (h2.mono hB.size)⟩
  · have f8 : fB 8 1 = true := by decide +kernel
    have f84 : fB 8 4 = true := by decide +kernel
    have hok : (memO 4 (-1) 1 8 false).ok = true := by unfold Opd.ok memO rB; rw [f84]; rfl
    have h := put_any 9 (by decide) (memO 4 (-1) 1 8 false) hok W hW
    refine h.mono fun e w' hp => ?_
    have hW1 : puW (memO 4 (-1) 1 8 false) = 1 := by unfold puW; rw [if_neg (by decide), show short0 (memO 4 (-1) 1 8 false) = false from rfl, show fB (memO 4 (-1) 1 8 false).d 1 = true from f8]; rfl
    have hM1 : puM (memO 4 (-1) 1 8 false) = 1 := by unfold puM; rw [if_neg (by decide), show short0 (memO 4 (-1) 1 8 false) = false from rfl, show fB (memO 4 (-1) 1 8 false).d 1 = true from f8]; rfl
    have hn : puN (memO 4 (-1) 1 8 false) = 3 := by unfold puN; rw [hW1]; rfl
    rw [hn] at hp
    refine hp.congr fun j hj => ?_
    have hz : puZ 9 (memO 4 (-1) 1 8 false) = catN 2 (fun j => if j = 0 then 64 * 1 + 8 * (9 % 8) + 4 else 36) (byN (uN 8)) := by unfold puZ; rw [hM1]; rfl
    rw [hz]
    match j, hj with
    | 0, _ => rfl
    | 1, _ => rfl
    | 2, _ => decide +kernel
end Go.Proofs.YtkpnafgmjcnniaaDoor
