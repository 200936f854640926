/- Two blocks put together, byte by byte. -/
import Derived.Test.YtldicconopcipaaB
namespace Go.Proofs.Ytldicconopcipaa
open Go.RowKit
set_option linter.unusedVariables false
set_option linter.unusedSimpArgs false
attribute [local go_sem] Oper.semAt_some
/-- A block of these bytes. -/
def bA (f : Nat → Int) : Array Value := ((List.range 16).map fun i => Value.int .u8 (f i)).toArray
theorem bA_size (f : Nat → Int) : (bA f).size = 16 := by simp [bA]
theorem bA_one (f : Nat → Int) : (bA f).all (·.oneCell') = true := by simp [bA, Value.oneCell']
theorem bA_at (f : Nat → Int) (i : Nat) (h : i < 16) : (bA f)[i]? = some (.int .u8 (f i)) := by simp [bA, h]
theorem bA_set (f : Nat → Int) (i : Nat) (h : i < 16) (v : Int) : (bA f).setIfInBounds i (.int .u8 v) = bA (fun j => if j = i then v else f j) := by
  apply Array.ext_getElem?
  intro j
  rw [Array.getElem?_setIfInBounds]
  by_cases e : i = j
  · subst e; simp [bA, h]
  · have e' : ¬ j = i := fun x => e x.symm
    simp only [if_neg e]
    by_cases hj : j < 16
    · simp [bA, hj, e']
    · simp [bA, hj]
theorem bA_congr {f g : Nat → Int} (h : ∀ i, i < 16 → f i = g i) : bA f = bA g := by
  unfold bA
  congr 1
  exact List.map_congr_left fun i hi => by rw [h i (List.mem_range.1 hi)]
theorem bA_zero : z16 = bA (fun _ => 0) := rfl
theorem RB.cell {W : World} {b : Nat} {f : Nat → Int} (h : R16 W b (bA f)) (i : Nat) (hi : i < 16) : W.cell? ⟨b, i, none⟩ = some (.int .u8 (f i)) := by
  rw [cell_of_row W b i _ 22 (0, 0) h.1]; exact bA_at f i hi
theorem RB.froz {W : World} {b : Nat} {vs : Array Value} (h : R16 W b vs) (i : Nat) : W.frozen? ⟨b, i, none⟩ = false := by
  have := h.1
  simp [World.frozen?, this]
theorem RB.set {W : World} {b : Nat} {f : Nat → Int} (h : R16 W b (bA f)) (i : Nat) (hi : i < 16) (v : Int) : R16 (W.setCell ⟨b, i, none⟩ (.int .u8 v)) b (bA (fun j => if j = i then v else f j)) := by
  obtain ⟨hlt, hk⟩ := Array.getElem?_eq_some_iff.1 h.1
  refine ⟨?_, bA_size _, bA_one _⟩
  show (W.heap.modify b _)[b]? = _
  rw [Array.getElem?_eq_getElem (by rw [Array.size_modify]; exact hlt), Array.getElem_modify_self, hk, ← bA_set f i hi v]
  rfl
theorem RB.far {W : World} {b p i : Nat} {vs : Array Value} {v : Value} (h : R16 W b vs) (hn : b ≠ p) : R16 (W.setCell ⟨p, i, none⟩ v) b vs := ⟨(Below.heap_setCell W ⟨p, i, none⟩ v b hn).trans h.1, h.2⟩
def xF (f g : Nat → Int) (j : Nat) : Int := bits .xor .u8 (f j) (g j)
/-- What lies where byte k's turn is. -/
def XS (w : World) (f g : Nat → Int) (k : Nat) (W : World) : Prop :=
  R16 W w.heap.size (bA (fun j => if j < k then xF f g j else f j)) ∧ R16 W (w.heap.size + 1) (bA g) ∧ R16 W (w.heap.size + 1 + 1) z16 ∧ Below w.heap.size w W
theorem XS.drew {w : World} {f g : Nat → Int} {k : Nat} {W : World} (h : XS w f g k W) : XS w f g k W.drew := ⟨h.1, h.2.1, h.2.2.1, h.2.2.2.drew⟩
theorem XS.next {w : World} {f g : Nat → Int} {k : Nat} {W : World} (h : XS w f g k W) (hk : k < 16) : XS w f g (k + 1) (W.setCell ⟨w.heap.size, k, none⟩ (.int .u8 (xF f g k))) := by
  obtain ⟨h1, h2, h3, h4⟩ := h
  refine ⟨?_, RB.far h2 (by omega), RB.far h3 (by omega), h4.setCell (p := ⟨w.heap.size, k, none⟩) (Nat.le_refl _) _⟩
  have := RB.set h1 k hk (xF f g k)
  rwa [bA_congr (fun j hj => show (if j = k then xF f g k else if j < k then xF f g j else f j) = (if j < k + 1 then xF f g j else f j) from by
    by_cases e : j = k
    · subst e; simp
    · by_cases e2 : j < k
      · simp [e, e2, show j < k + 1 by omega]
      · simp [e, e2, show ¬ j < k + 1 by omega])] at this
set_option maxRecDepth 100000 in
set_option maxHeartbeats 1000000 in
theorem xor_any (f g : Nat → Int) (i : Int) (w : World) :
    Calls Try.prog 27 #[.agg (bA f), .agg (bA g), .int .u8 i] w fun e w' => e = .returned (.agg (bA (xF f g))) ∧ Below w.heap.size w w' := by
  have h5 := ((R16.new w (bA f) (bA_size f) (bA_one f)).alloc (.cells (bA g) 22)).alloc (.cells #[.int .u8 0, .int .u8 0, .int .u8 0, .int .u8 0, .int .u8 0, .int .u8 0, .int .u8 0, .int .u8 0, .int .u8 0, .int .u8 0, .int .u8 0, .int .u8 0, .int .u8 0, .int .u8 0, .int .u8 0, .int .u8 0] 22)
  have h6 := (R16.new (w.alloc (.cells (bA f) 22)) (bA g) (bA_size g) (bA_one g)).alloc (.cells #[.int .u8 0, .int .u8 0, .int .u8 0, .int .u8 0, .int .u8 0, .int .u8 0, .int .u8 0, .int .u8 0, .int .u8 0, .int .u8 0, .int .u8 0, .int .u8 0, .int .u8 0, .int .u8 0, .int .u8 0, .int .u8 0] 22)
  have h8 := R16.newz ((w.alloc (.cells (bA f) 22)).alloc (.cells (bA g) 22))
  have hB := (((Below.refl _ w).alloc (Nat.le_refl _) (.cells (bA f) 22)).alloc (by simp) (.cells (bA g) 22)).alloc (by simp; omega) (.cells #[.int .u8 0, .int .u8 0, .int .u8 0, .int .u8 0, .int .u8 0, .int .u8 0, .int .u8 0, .int .u8 0, .int .u8 0, .int .u8 0, .int .u8 0, .int .u8 0, .int .u8 0, .int .u8 0, .int .u8 0, .int .u8 0] 22)
  simp only [World.size_alloc] at h5 h6 h8
  have HS : Hid (XS w f g 0 (((w.alloc (.cells (bA f) 22)).alloc (.cells (bA g) 22)).alloc (.cells #[.int .u8 0, .int .u8 0, .int .u8 0, .int .u8 0, .int .u8 0, .int .u8 0, .int .u8 0, .int .u8 0, .int .u8 0, .int .u8 0, .int .u8 0, .int .u8 0, .int .u8 0, .int .u8 0, .int .u8 0, .int .u8 0] 22))) := Lib.hid ⟨h5, h6, h8, hB⟩
  clear h5 h6 h8 hB
  go_enter Try.func27, Try.ntmps27
  go_upto_region 1 with fail
  generalize World.alloc (World.alloc (World.alloc _ _) _) _ = W1 at *
  go_wp2_with fail
  go_loopw [8] (fun i W => ∃ k : Nat, k ≤ 16 ∧ i = .int .i64 k ∧ XS w f g k W) (fun i _ => 16 - (intOf i).toNat)
  case atStart => exact ⟨0, by omega, rfl, HS.out⟩
  case round =>
    obtain ⟨k, hk, rfl, hX⟩ := hrel
    have hS := Lib.hid hX
    clear hX
    by_cases hk16 : k < 16
    · go_upto_region 4 with fail
      have c0 := RB.cell hS.out.1 k hk16
      simp only [Nat.lt_irrefl, if_false] at c0
      have f0 := RB.froz hS.out.1 k
      have d0 := RB.cell hS.out.2.1 k hk16
      go_region
      have hS2 : Hid (XS w f g (k + 1) _) := Lib.hid (hS.out.next hk16).drew
      clear c0 f0 d0 hS
      simp only [xF] at hS2
      generalize World.drew _ = W5 at hS2 ⊢
      go_wp2
      exact ⟨⟨k + 1, by omega, by simp, hS2.out⟩, by simp [intOf]; omega⟩
    · obtain rfl : k = 16 := by omega
      have h5 := hS.out.1
      have h8 := hS.out.2.2.1
      rw [bA_congr (fun j hj => show (if j < 16 then xF f g j else f j) = xF f g j from if_pos hj)] at h5
      go_wp2_with (first | (refine wpList_load22 rfl rfl rfl h5 ?_) | (refine wpList_store22 rfl rfl rfl rfl h8 (bA_size _) (bA_one _) ?_))
      simp only [Act.put, List.setIfInBounds_toArray, List.set_cons_zero, List.set_cons_succ, List.getElem_toArray, List.getElem_cons_succ, List.getElem_cons_zero]
      have h9 := Lib.hid (h8.row (bA_size (xF f g)) (bA_one (xF f g)))
      have hB9 := Lib.hid (below_row (vs := bA (xF f g)) hS.out.2.2.2 (show w.heap.size ≤ w.heap.size + 1 + 1 by omega))
      clear hS h5 h8
      generalize World.setRow _ _ _ = W2 at *
      exact bodyPost_ret (v := .agg (bA (xF f g))) (results_cell_row rfl _ _ _ 22 _ (0, 0) _ rfl h9.out.1 Try.underlying22 rfl (by rw [h9.out.2.1]; exact info22)) rfl ⟨rfl, hB9.out⟩
end Go.Proofs.Ytldicconopcipaa
