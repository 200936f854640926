/- vector.Of: the block of a slice's first bytes. -/
import Derived.Test.YtldicconopcipaaD
import Derived.Laws.CopyOwn
namespace Go.Proofs.Ytldicconopcipaa
open Go.RowKit Go.Shelf
set_option linter.unusedVariables false
set_option linter.unusedSimpArgs false
attribute [local go_sem] Oper.semAt_some
def ofF (len : Nat) (z : Nat → Int) (i : Nat) : Int := if i < len then z i else 0
def cpN (len : Nat) (z : Nat → Int) : List Value := (List.range (Nat.min len 16)).map fun j => .int .u8 (z j)
theorem cpN_len (len : Nat) (z : Nat → Int) : (cpN len z).length = Nat.min len 16 := by simp [cpN]
theorem splice_of (len : Nat) (z : Nat → Int) : (splice z16.toList 0 (cpN len z)).toArray = bA (ofF len z) := by
  have hz : z16.toList = (List.range 16).map fun _ => Value.int .u8 0 := rfl
  unfold splice bA
  congr 1
  rw [hz]
  apply List.ext_getElem?
  intro i
  simp only [List.take_zero, List.nil_append, Nat.zero_add, cpN_len]
  by_cases h : i < Nat.min len 16
  · have h1 : i < len := Nat.lt_of_lt_of_le h (Nat.min_le_left _ _)
    have h2 : i < 16 := Nat.lt_of_lt_of_le h (Nat.min_le_right _ _)
    rw [List.getElem?_append_left (by rw [cpN_len]; exact h)]
    simp only [cpN, List.getElem?_map, List.getElem?_range h, List.getElem?_range h2, Option.map_some, ofF, if_pos h1]
  · rw [List.getElem?_append_right (by rw [cpN_len]; omega), cpN_len, List.getElem?_drop, show Nat.min len 16 + (i - Nat.min len 16) = i by omega]
    by_cases h2 : i < 16
    · have h1 : ¬ i < len := fun x => h (Nat.lt_min.2 ⟨x, h2⟩)
      simp only [List.getElem?_map, List.getElem?_range h2, Option.map_some, ofF, if_neg h1]
    · have hn : (List.range 16)[i]? = none := List.getElem?_eq_none (by simp; omega)
      simp only [List.getElem?_map, hn, Option.map_none]
theorem info5s : (Try.prog.info? 5).map (·.size) = some 1 := by kernel_rfl
set_option maxHeartbeats 1000000 in
theorem of_any (sp : Option Addr) (len cap : Nat) (z : Nat → Int) (w : World) (hc : 0 < len → ∃ b off, sp = some ⟨b, off, none⟩ ∧ ∀ j, j < len → w.cell? ⟨b, off + j, none⟩ = some (.int .u8 (z j))) :
    Calls Try.prog 15 #[.slice sp len cap] w fun e w' => e = .returned (.agg (bA (ofF len z))) ∧ Below w.heap.size w w' := by
  have h2 := (R16.newz w).alloc (.cells #[.int .u8 0, .int .u8 0, .int .u8 0, .int .u8 0, .int .u8 0, .int .u8 0, .int .u8 0, .int .u8 0, .int .u8 0, .int .u8 0, .int .u8 0, .int .u8 0, .int .u8 0, .int .u8 0, .int .u8 0, .int .u8 0] 22)
  have h3 := R16.newz (w.alloc (.cells #[.int .u8 0, .int .u8 0, .int .u8 0, .int .u8 0, .int .u8 0, .int .u8 0, .int .u8 0, .int .u8 0, .int .u8 0, .int .u8 0, .int .u8 0, .int .u8 0, .int .u8 0, .int .u8 0, .int .u8 0, .int .u8 0] 22))
  have hB : Below w.heap.size w ((w.alloc (.cells #[.int .u8 0, .int .u8 0, .int .u8 0, .int .u8 0, .int .u8 0, .int .u8 0, .int .u8 0, .int .u8 0, .int .u8 0, .int .u8 0, .int .u8 0, .int .u8 0, .int .u8 0, .int .u8 0, .int .u8 0, .int .u8 0] 22)).alloc (.cells #[.int .u8 0, .int .u8 0, .int .u8 0, .int .u8 0, .int .u8 0, .int .u8 0, .int .u8 0, .int .u8 0, .int .u8 0, .int .u8 0, .int .u8 0, .int .u8 0, .int .u8 0, .int .u8 0, .int .u8 0, .int .u8 0] 22)) := ((Below.refl _ w).alloc (Nat.le_refl _) _).alloc (by simp) _
  simp only [World.size_alloc] at h3
  have hpos : 0 < (cpN len z).length → (some (⟨w.heap.size + 1, 0, none⟩ : Addr)) = some ⟨w.heap.size + 1, 0, none⟩ ∧ ∃ ad, sp = some ad ∧ ∀ j v, (cpN len z)[j]? = some v → ((w.alloc (.cells #[.int .u8 0, .int .u8 0, .int .u8 0, .int .u8 0, .int .u8 0, .int .u8 0, .int .u8 0, .int .u8 0, .int .u8 0, .int .u8 0, .int .u8 0, .int .u8 0, .int .u8 0, .int .u8 0, .int .u8 0, .int .u8 0] 22)).alloc (.cells #[.int .u8 0, .int .u8 0, .int .u8 0, .int .u8 0, .int .u8 0, .int .u8 0, .int .u8 0, .int .u8 0, .int .u8 0, .int .u8 0, .int .u8 0, .int .u8 0, .int .u8 0, .int .u8 0, .int .u8 0, .int .u8 0] 22)).cell? (ad.add j) = some v := fun h => by
    rw [cpN_len] at h
    have hlt := Nat.lt_min.1 h
    obtain ⟨b, off, e, hcell⟩ := hc hlt.1
    refine ⟨rfl, ⟨b, off, none⟩, e, fun j v hv => ?_⟩
    have hj : j < Nat.min len 16 := by
      have := (List.getElem?_eq_some_iff.1 hv).1
      rwa [cpN_len] at this
    have hj1 : j < len := Nat.lt_of_lt_of_le hj (Nat.min_le_left _ _)
    have hv2 : v = .int .u8 (z j) := by
      simp only [cpN, List.getElem?_map, List.getElem?_range hj, Option.map_some, Option.some.injEq] at hv
      exact hv.symm
    rw [hv2]
    have hc1 := hcell j hj1
    have hadd : (⟨b, off, none⟩ : Addr).add j = ⟨b, off + j, none⟩ := by unfold Addr.add; split <;> simp_all
    rw [hadd]
    have hlt2 : b < w.heap.size := by
      by_cases hh : b < w.heap.size
      · exact hh
      · exfalso
        have : w.heap[b]? = none := Array.getElem?_eq_none (by omega)
        simp [World.cell?, this] at hc1
    exact (hB.cell (p := ⟨b, off + j, none⟩) hlt2).trans hc1
  have HP := Lib.hid hpos
  have H2 := Lib.hid h2
  have H3 := Lib.hid h3
  have HB := Lib.hid hB
  clear hpos h2 h3 hB hc
  obtain ⟨cs, hcs⟩ : ∃ cs, cs = cpN len z := ⟨_, rfl⟩
  rw [← hcs] at HP
  have HCS := Lib.hid hcs
  clear hcs
  go_enter Try.func15, Try.ntmps15
  go_upto_region 2 with fail
  generalize World.alloc (World.alloc _ _) _ = W0 at *
  have hz3 : W0.heap[w.heap.size + 1]? = some (.cells z16.toList.toArray 22 (0, 0)) := H3.out.1
  have HZ3 := Lib.hid hz3
  clear hz3
  have hl1 : cs.length = Nat.min len 16 := by rw [HCS.out]; exact cpN_len _ _
  have HL1 := Lib.hid hl1
  clear hl1
  have hone : ∀ v ∈ cs, v.oneCell' = true := by rw [HCS.out]; intro v hv; simp only [cpN, List.mem_map] at hv; obtain ⟨q, _, rfl⟩ := hv; rfl
  have HONE := Lib.hid hone
  clear hone
  have hrun : ∃ W2, (Builtin.copy_ #[24, 24] 3 #[.slice (some ⟨w.heap.size + 1, 0, none⟩) 16 16, .slice sp len cap]).run Try.prog W0 = .ok (goInt cs.length) W2 ∧ R16 W2 (w.heap.size + 1) (bA (ofF len z)) ∧ R16 W2 w.heap.size z16 ∧ Below w.heap.size w W2 := by
    by_cases h0 : len = 0
    · subst h0
      have e0 : cs = [] := by rw [HCS.out]; rfl
      have := run_copy_none (P := Try.prog) W0 24 24 3 5 (some ⟨w.heap.size + 1, 0, none⟩) sp 16 16 0 cap Try.underlying24 info5s rfl
      rw [e0]
      refine ⟨W0, this, ?_, H2.out, HB.out⟩
      have e : bA (ofF 0 z) = z16 := bA_congr (g := fun _ => 0) (fun i _ => rfl)
      rw [e]
      exact H3.out
    · obtain ⟨_, ad, rfl, hsrc⟩ := HP.out (by rw [HCS.out, cpN_len]; exact Nat.lt_min.2 ⟨by omega, by decide⟩)
      have := run_copy_row (P := Try.prog) W0 24 24 3 5 (w.heap.size + 1) 0 16 16 ad len cap z16 22 cs Try.underlying24 info5s H3.out.1 HL1.out hsrc (by have := HL1.out; have h16 : Nat.min len 16 ≤ 16 := Nat.min_le_right _ _; show 0 + cs.length ≤ 16; omega) HONE.out
      have e : (z16.toList.take 0 ++ cs ++ z16.toList.drop (0 + cs.length)).toArray = bA (ofF len z) := by rw [List.append_assoc, HCS.out]; exact splice_of len z
      rw [e] at this
      exact ⟨_, this, H3.out.row (bA_size _) (bA_one _), H2.out.far (by omega), below_row HB.out (by omega)⟩
  obtain ⟨W2, hrun, hr3, hr2, hb2⟩ := hrun
  have R3 := Lib.hid hr3
  have R2 := Lib.hid hr2
  have B2 := Lib.hid hb2
  clear hr3 hr2 hb2 HP H2 H3 HB HZ3 HL1 HONE
  go_wp2_with (first | (refine wpList_load22 rfl rfl rfl R3.out ?_) | (refine wpList_store22 rfl rfl rfl rfl R2.out (bA_size _) (bA_one _) ?_))
  simp only [Act.put, List.setIfInBounds_toArray, List.set_cons_zero, List.set_cons_succ, List.getElem_toArray, List.getElem_cons_succ, List.getElem_cons_zero]
  have h9 := Lib.hid (R2.out.row (bA_size (ofF len z)) (bA_one _))
  have hB9 := Lib.hid (below_row (vs := bA (ofF len z)) B2.out (Nat.le_refl _))
  clear R2 R3 B2 hrun
  generalize World.setRow _ _ _ = W3 at *
  exact bodyPost_ret (v := .agg (bA (ofF len z))) (results_cell_row rfl _ _ _ 22 _ (0, 0) _ rfl h9.out.1 Try.underlying22 rfl (by rw [h9.out.2.1]; exact info22)) rfl ⟨rfl, hB9.out⟩
end Go.Proofs.Ytldicconopcipaa
