/- vector.Block: the block of two words. -/
import Derived.Test.YtldicconopcipaaE
import Derived.ArgAppend
import Derived.Laws.OwnMore
namespace Go.Proofs.Ytldicconopcipaa
open Go.RowKit Go.Shelf
set_option linter.unusedVariables false
set_option linter.unusedSimpArgs false
attribute [local go_sem] Oper.semAt_some
theorem bytes_any (a : Nat) (w : World) :
    Calls Try.prog 23 #[.int .u64 a, .int .i64 8] w fun e W' => e = .returned (.slice (some ⟨w.heap.size, 0, none⟩) 8 8) ∧ (∀ j, j < 8 → W'.cell? ⟨w.heap.size, j, none⟩ = some (.int .u8 (byN a j : Nat))) ∧ Below w.heap.size w W' ∧ w.heap.size < W'.heap.size :=
  (callsIn_wide.1 (bytes_in Fence.wide 3 trivial trivial trivial trivial rfl (Nat.le_refl _) a 8 w)).mono fun e W' ⟨h1, h2, h3⟩ => ⟨h1, h2, h3, by
    have := h2 0 (by decide)
    by_cases hh : w.heap.size < W'.heap.size
    · exact hh
    · exfalso
      have h0 : W'.heap[w.heap.size]? = none := Array.getElem?_eq_none (by omega)
      simp [World.cell?, h0] at this⟩
def blF (low high i : Nat) : Nat := if i < 8 then byN low i else byN high (i - 8)
def by8 (a : Nat) : List Value := (List.range 8).map fun j => .int .u8 (byN a j : Nat)
theorem by8_at (a j : Nat) (v : Value) (h : (by8 a)[j]? = some v) : j < 8 ∧ v = .int .u8 (byN a j : Nat) := by
  have hj : j < 8 := by
    have := (List.getElem?_eq_some_iff.1 h).1
    simpa [by8] using this
  refine ⟨hj, ?_⟩
  simp only [by8, List.getElem?_map, List.getElem?_range hj, Option.map_some, Option.some.injEq] at h
  exact h.symm
theorem by8_both (low high j : Nat) (hj : j < 16) : (by8 low ++ by8 high)[j]? = some (.int .u8 (blF low high j : Nat)) := by
  unfold blF
  by_cases h : j < 8
  · rw [List.getElem?_append_left (by simp [by8]; exact h), if_pos h]
    simp only [by8, List.getElem?_map, List.getElem?_range h, Option.map_some]
  · rw [List.getElem?_append_right (by simp [by8]; omega), if_neg h]
    have h2 : j - (by8 low).length < 8 := by simp [by8]; omega
    have h3 : j - (by8 low).length = j - 8 := by simp [by8]
    rw [h3] at h2 ⊢
    simp only [by8, List.getElem?_map, List.getElem?_range h2, Option.map_some]
theorem info5a : ∃ i, Try.prog.info? 5 = some i ∧ i.zero = some (.int .u8 0) ∧ i.size = 1 ∧ i.bytes = 1 := by
  have := info5
  cases h : Try.prog.info? 5 with
  | none => rw [h] at this; cases this
  | some i => rw [h] at this; simp at this; exact ⟨i, rfl, this.1, this.2.1, this.2.2⟩
theorem block_any (low high : Nat) (w : World) :
    Calls Try.prog 13 #[.int .u64 low, .int .u64 high] w fun e W' => e = .returned (.agg (bN (blF low high))) ∧ Below w.heap.size w W' := by
  have H0 := Lib.hid (R16.newz w)
  have HB := Lib.hid ((Below.refl _ w).alloc (Nat.le_refl _) (.cells #[.int .u8 0, .int .u8 0, .int .u8 0, .int .u8 0, .int .u8 0, .int .u8 0, .int .u8 0, .int .u8 0, .int .u8 0, .int .u8 0, .int .u8 0, .int .u8 0, .int .u8 0, .int .u8 0, .int .u8 0, .int .u8 0] 22))
  go_enter Try.func13, Try.ntmps13
  go_upto_region 1 with fail
  generalize World.alloc _ _ = W0 at *
  go_wp2_with fail
  go_at_call 23
  refine (bytes_any low _).mono ?_
  rintro e w1 ⟨rfl, hc1, hb1, hs1⟩
  have K0 := Lib.hid (H0.out.keep hb1)
  have KB := Lib.hid (HB.out.trans (hb1.mono HB.out.size))
  have HC1 := Lib.hid hc1
  clear H0 HB hb1 hc1
  generalize W0.heap.size = b1 at *
  go_wp2_with fail
  go_at_call 23
  refine (bytes_any high _).mono ?_
  rintro e w2 ⟨rfl, hc2, hb2, hs2⟩
  have L0 := Lib.hid (K0.out.keep hb2)
  have LB := Lib.hid (KB.out.trans (hb2.mono KB.out.size))
  obtain ⟨i, i1, i2, i3, i4⟩ := info5a
  have hL : ∀ b, (some (⟨b1, 0, none⟩ : Addr)) = some b → ∀ j u, (by8 low)[j]? = some u → w2.cell? (b.add j) = some u := fun b hb j u hj => by
    cases hb
    obtain ⟨h8, rfl⟩ := by8_at _ _ _ hj
    rw [Addr.add_lit, Nat.zero_add]
    exact (hb2.cell (p := ⟨b1, j, none⟩) hs1).trans (HC1.out j h8)
  have hR : ∀ j u, (by8 high)[j]? = some u → w2.cell? ((⟨w1.heap.size, 0, none⟩ : Addr).add j) = some u := fun j u hj => by
    obtain ⟨h8, rfl⟩ := by8_at _ _ _ hj
    rw [Addr.add_lit, Nat.zero_add]
    exact hc2 j h8
  have hO : ∀ u ∈ by8 high, u.oneCell' = true := fun u hu => by
    simp only [by8, List.mem_map] at hu
    obtain ⟨q, _, rfl⟩ := hu
    rfl
  have HL := Lib.hid hL
  have HR := Lib.hid hR
  have HO := Lib.hid hO
  have HI := Lib.hid (And.intro i1 (And.intro i2 (And.intro i3 i4)))
  clear hL hR hO i1 i2 i3 i4 hc2 hb2 HC1 K0 KB
  go_wp2_with (at_builtin; refine wpList_append_grows w2 rfl _ _ 24 rfl 5 i (.int .u8 0) 1 1 Try.underlying24 HI.out.1 HI.out.2.1 HI.out.2.2.1 HI.out.2.2.2 rfl (by decide) (some ⟨b1, 0, none⟩) 8 8 (by8 low) rfl (fun h => by cases h) (by simp [by8]) HL.out ⟨w1.heap.size, 0, none⟩ 8 8 (by8 high) rfl (by simp [by8]) HR.out HO.out (by decide) (by decide) (by decide) ?_)
  intro v' w' hown hgr
  obtain ⟨g, cap, hv⟩ : ∃ g cap, v' = .slice (some ⟨g, 0, none⟩) 16 cap := by
    rcases hown.2 with ⟨_, h⟩ | ⟨g, cap, cur, h, _⟩
    · exact absurd h (by decide)
    · exact ⟨g, cap, h⟩
  subst hv
  have hcell : ∀ j, j < 16 → w'.cell? ⟨g, j, none⟩ = some (.int .u8 (blF low high j : Nat)) := fun j hj => (hown.cellAt j (by omega)).trans (by8_both low high j hj)
  have M0 := Lib.hid (L0.out.keep ((Below.refl w2.heap.size w2).grown hgr (Nat.le_refl _) (fun k e => by cases e)))
  have MB := Lib.hid (LB.out.trans (((Below.refl w2.heap.size w2).grown hgr (Nat.le_refl _) (fun k e => by cases e)).mono LB.out.size))
  have HOF := Lib.hid (of_any (some ⟨g, 0, none⟩) 16 cap (fun i => (blF low high i : Int)) w' (fun _ => ⟨g, 0, rfl, fun j hj => by rw [Nat.zero_add]; exact hcell j hj⟩))
  clear hcell hown hgr L0 LB HL HR HO HI
  go_wp2_with fail
  go_at_call 15
  refine HOF.out.mono ?_
  rintro e w3 ⟨rfl, hb3⟩
  have N0 := Lib.hid (M0.out.keep hb3)
  have NB := Lib.hid (MB.out.trans (hb3.mono MB.out.size))
  have ebl : bA (ofF 16 fun i => (blF low high i : Int)) = bN (blF low high) := bA_congr fun i hi => if_pos hi
  rw [ebl]
  clear M0 MB HOF hb3 ebl
  generalize hVS : bN (blF low high) = vs
  have hvs : vs.size = 16 := by rw [← hVS]; exact bA_size _
  have hvs1 : vs.all (·.oneCell') = true := by rw [← hVS]; exact bA_one _
  have HVS := Lib.hid hVS
  clear hVS
  go_wp2_with (refine wpList_store22 rfl rfl rfl rfl N0.out hvs hvs1 ?_)
  simp only [Act.put, List.setIfInBounds_toArray, List.set_cons_zero, List.set_cons_succ, List.getElem_toArray, List.getElem_cons_succ, List.getElem_cons_zero]
  have h9 := Lib.hid (N0.out.row hvs hvs1)
  have hB9 := Lib.hid (below_row (vs := vs) NB.out (Nat.le_refl _))
  clear N0 NB
  generalize World.setRow _ _ _ = W3 at *
  exact bodyPost_ret (v := .agg vs) (results_cell_row rfl _ _ _ 22 _ (0, 0) _ rfl h9.out.1 Try.underlying22 rfl (by rw [h9.out.2.1]; exact info22)) rfl ⟨by rw [← HVS.out], hB9.out⟩
end Go.Proofs.Ytldicconopcipaa
