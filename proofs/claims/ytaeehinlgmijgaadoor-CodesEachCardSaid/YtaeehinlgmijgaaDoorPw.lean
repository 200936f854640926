/- The walk of CodesPrefix, every input. -/
import Derived.Test.YtaeehinlgmijgaaDoorPf
import Derived.Test.YtaeehinlgmijgaaDoorLa
namespace Go.Proofs.YtaeehinlgmijgaaDoor
open Go.RowKit
set_option linter.unusedVariables false
set_option linter.unusedSimpArgs false
theorem nat_u8 {a : Int} (h : (Lit.int .u8 a).wf = true) : ∃ k : Nat, a = k ∧ k < 256 := by
  have hb := Go.bounds_u8 h
  obtain ⟨k, rfl⟩ := Int.eq_ofNat_of_zero_le hb.1
  exact ⟨k, rfl, by omega⟩
theorem cs_all (f : Fm) : f.cs[0]? = some (.int .u8 (f.p : Nat)) ∧ f.cs[1]? = some (.int .u8 (f.m : Nat)) ∧ f.cs[7]? = some (.int .i64 f.wide) ∧ f.cs[11]? = some (.bool f.vec) := ⟨rfl, rfl, rfl, rfl⟩
theorem zf_deed : zf.deed = 0 := rfl
theorem prefix_walk (p m o d : Int) (hp : (Lit.int .u8 p).wf = true) (hm : (Lit.int .u8 m).wf = true) (ho : (Lit.int .u8 o).wf = true) (hd : (Lit.int .i64 d).wf = true) (w : World) (hG : GL w) :
    Calls Tryd.prog 7 #[.int .u8 p, .int .u8 m, .int .u8 o, .int .i64 d] w fun e w' => e = .returned (.bool true) ∧ Below w.heap.size w w' := by
  obtain ⟨p, rfl, hp1⟩ := nat_u8 hp
  obtain ⟨m, rfl, hm1⟩ := nat_u8 hm
  obtain ⟨o, rfl, ho1⟩ := nat_u8 ho
  have hF : ∀ b, (findR (fun f => fitsZ f p m o d)).2 = b → FindAny p m o d (findR (fun f => fitsZ f p m o d)).1 b := fun b hb w hG => by
    have h := find_any p m o d w hG
    rw [hb] at h
    exact h
  have hD : ((p ≠ 0 ∧ p ≠ 0x66 ∧ p ≠ 0xf3) ∨ 3 < m) → DigAny p m o false := fun hb w hG => by
    have h := digits_any p m o w hG
    rw [(none_found (o := o) (d := d) hb).2] at h
    exact h
  cases hr : (findR (fun f => fitsZ f p m o d)).2
  · have hz := findR_no hr
    have hF := hF _ hr
    generalize (findR (fun f => fitsZ f p m o d)).1 = x at hz hF
    by_cases h0 : p = 0
    · subst h0
      by_cases hm3 : 3 < m
      · exact pf_f0b m o d x hz (by simp; omega) (Lib.hid hF) (Lib.hid (hD (.inr hm3))) w hG
      · exact pf_f0a m o d x hz (by simp; omega) (Lib.hid hF) w hG
    by_cases h1 : p = 0x66
    · subst h1
      by_cases hm3 : 3 < m
      · exact pf_f66b m o d x hz (by simp; omega) (Lib.hid hF) (Lib.hid (hD (.inr hm3))) w hG
      · exact pf_f66a m o d x hz (by simp; omega) (Lib.hid hF) w hG
    by_cases h2 : p = 0xf3
    · subst h2
      by_cases hm3 : 3 < m
      · exact pf_ff3b m o d x hz (by simp; omega) (Lib.hid hF) (Lib.hid (hD (.inr hm3))) w hG
      · exact pf_ff3a m o d x hz (by simp; omega) (Lib.hid hF) w hG
    have hD := hD (.inl ⟨h0, h1, h2⟩)
    by_cases hm3 : 3 < m
    · exact pf_fnb p m o d x hz (by omega) (by omega) (by omega) (by simp; omega) (Lib.hid hF) (Lib.hid hD) w hG
    · exact pf_fna p m o d x hz (by omega) (by omega) (by omega) (by simp; omega) (Lib.hid hF) (Lib.hid hD) w hG
  · have hx := findR_mem hr
    have hF := hF _ hr
    generalize (findR (fun f => fitsZ f p m o d)).1 = x at hx hF
    obtain ⟨hxf, hfit⟩ := hx
    obtain ⟨ep, em⟩ := stands_pm (fits_stands hfit)
    have hg := good_of hxf
    obtain ⟨c0, c1, c7, c11⟩ := cs_all x
    rw [ep] at c0
    rw [em] at c1
    have hne : x ≠ zf := fun e => by
      subst e
      simp [goodF, zf_deed] at hg
    simp only [goodF, Bool.and_eq_true, Bool.or_eq_true, beq_iff_eq, decide_eq_true_eq, ep, em] at hg
    obtain ⟨⟨⟨⟨⟨hpp, hm3⟩, hv⟩, hw⟩, _⟩, _⟩ := hg
    have hM : decide ((3 : Int) < m) = false := by simp; omega
    rcases hpp with (h | h) | h
    · subst h
      have hv0 : x.vec = false := by simpa using hv
      have hw0 : (x.wide == 16) = false := by rw [← hw, hv0]
      rw [hv0] at c11
      exact pf_t0 m o d x (mem_z hxf) hne hM c0 c1 c11 x.wide c7 hw0 (Lib.hid hF) w hG
    · subst h
      have hv0 : x.vec = true := by simpa using hv
      have hw0 : x.wide = 16 := by simpa [hv0] using hw
      rw [hv0] at c11
      rw [hw0] at c7
      exact pf_t66 m o d x (mem_z hxf) hne hM c0 c1 c11 c7 (Lib.hid hF) w hG
    · subst h
      have hv0 : x.vec = true := by simpa using hv
      have hw0 : x.wide = 16 := by simpa [hv0] using hw
      rw [hv0] at c11
      rw [hw0] at c7
      exact pf_tf3 m o d x (mem_z hxf) hne hM c0 c1 c11 c7 (Lib.hid hF) w hG
theorem prefix7_walk (p m o d : Int) (hp : (Lit.int .u8 p).wf = true) (hm : (Lit.int .u8 m).wf = true) (ho : (Lit.int .u8 o).wf = true) (hd : (Lit.int .i64 d).wf = true) {w : World} (_W : World) (hG : GL w) :
    Calls Tryd.prog 7 #[.int .u8 p, .int .u8 m, .int .u8 o, .int .i64 d] w fun e w' => e = .returned (.bool true) ∧ Below w.heap.size w w' := prefix_walk p m o d hp hm ho hd w hG
end Go.Proofs.YtaeehinlgmijgaaDoor
