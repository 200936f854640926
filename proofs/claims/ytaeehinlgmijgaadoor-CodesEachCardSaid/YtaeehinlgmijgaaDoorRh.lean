/- The reference's Forms. -/
import Derived.Test.YtaeehinlgmijgaaDoorRg
namespace Go.Proofs.YtaeehinlgmijgaaDoor
open Go.RowKit Go.Shelf
set_option linter.unusedVariables false
set_option linter.unusedSimpArgs false
attribute [local go_sem] Oper.semAt_some
theorem RowOf.sr {w W : World} {L : List Fm} {v : Value} (h : RowOf w.heap.size L v W) (hb : Below w.heap.size w W) (hL : L.length ≤ 1000) : SR w L v W := by
  obtain ⟨g, hv, hg, hh⟩ := h
  refine ⟨⟨cellsL_len _, .inr ⟨g, L.length, _, hv, hg, hh, Nat.le_refl _, by unfold maxLen; omega, ?_, ?_⟩⟩, hb⟩
  · simp [cellsL_len]
  · rw [← cellsL_len, List.take_length]
theorem SR.keep {w W W' : World} {L : List Fm} {v : Value} (h : SR w L v W) (hb : Below W.heap.size W W') : SR w L v W' := by
  refine ⟨⟨h.1.1, ?_⟩, h.2.trans (hb.mono h.2.size)⟩
  rcases h.1.2 with ⟨hv, hn⟩ | ⟨g, cap, cur, hv, hg, hh, h2⟩
  · exact .inl ⟨hv, hn⟩
  · exact .inr ⟨g, cap, cur, hv, hg, (hb.block g (Array.getElem?_eq_some_iff.1 hh).1).trans hh, h2⟩
theorem SR.cells {w W : World} {L : List Fm} {v : Value} (h : SR w L v W) (hL : 0 < L.length) : ∃ g cap, v = .slice (some ⟨g, 0, none⟩) L.length cap ∧ w.heap.size ≤ g ∧ ∀ j u, (cellsL L)[j]? = some u → W.cell? ((⟨g, 0, none⟩ : Addr).add j) = some u := by
  rcases h.1.2 with ⟨hv, hn⟩ | ⟨g, cap, cur, hv, hg, hh, h2, h3, h4, h5⟩
  · omega
  · refine ⟨g, cap, hv, hg, fun j u hu => ?_⟩
    have hc : cur[j]? = some u := by
      rw [← h5, List.getElem?_take] at hu
      split at hu
      · simpa using hu
      · cases hu
    by_cases hj : j = 0
    · subst hj
      simp [Addr.add, World.cell?, hh, hc]
    · simp [Addr.add, hj, World.cell?, hh, hc]
theorem ones_all (L : List Fm) : ∀ u ∈ cellsL L, u.oneCell' = true := by
  intro u hu
  obtain ⟨x, _, hx⟩ := List.mem_flatMap.1 hu
  exact x.ones u hx
theorem cellsL_app (a b : List Fm) : cellsL (a ++ b) = cellsL a ++ cellsL b := by simp [cellsL]
theorem SR.nextL {w W W1 : World} {L M : List Fm} {v v' : Value} (h : SR w L v W) (ho : W1.ownsRow w.heap.size 23 14 v' (L.length + M.length) (cellsL L ++ cellsL M)) (hg : W.grownBy W1 v.ownBlock) : SR w (L ++ M) v' W1 := by
  refine ⟨by rw [cellsL_app, List.length_append]; exact ho, ?_⟩
  exact h.2.grown hg h.2.size (fun q e => by
    rcases h.1.2 with ⟨h, _⟩ | ⟨g', cap', cur, h, hle, _⟩
    · rw [h] at e; cases e
    · rw [h] at e; cases e; exact hle)
def SC (f : Nat) (L : List Fm) : Prop := ∀ w : World, Calls Tryd.prog f #[] w fun e w' => ∃ v, e = .returned v ∧ SR w L v w'
theorem SC.at {f : Nat} {L : List Fm} (h : SC f L) (w : World) : Calls Tryd.prog f #[] w fun e w' => ∃ v, e = .returned v ∧ SR w L v w' := h w
set_option maxRecDepth 1000000 in
set_option maxHeartbeats 4000000 in
theorem rforms_core (L1 L2 L3 L4 : List Fm) (h1 : Hid (SC 21 L1)) (h2 : Hid (SC 22 L2)) (h3 : Hid (SC 23 L3)) (h4 : Hid (SC 24 L4)) (n1 : L1.length ≤ 200) (n2 : 0 < L2.length ∧ L2.length ≤ 200) (n3 : 0 < L3.length ∧ L3.length ≤ 200) (n4 : 0 < L4.length ∧ L4.length ≤ 200) :
    SC 9 (L1 ++ L2 ++ L3 ++ L4) := by
  intro w
  obtain ⟨i0, hi, hz0, hz1, hz2⟩ := info_parts infoE23
  have HI0 := Lib.hid (And.intro hi (And.intro hz0 (And.intro hz1 hz2)))
  clear hi hz0 hz1 hz2
  go_enter Tryd.func9, Tryd.ntmps9
  go_wp2_with (first | (go_at_call 21; (with_reducible refine (SC.at h1.out _).mono ?_)) | fail)
  rintro e W1 ⟨v1, rfl, hA⟩
  have HA1 := Lib.hid hA
  clear hA
  go_wp2_with (first | (go_at_call 22; (with_reducible refine (SC.at h2.out _).mono ?_)) | fail)
  rintro e X2 ⟨u2, rfl, hB⟩
  obtain ⟨g2, cap2, rfl, hg2, hcs⟩ := hB.cells n2.1
  have HB2 := Lib.hid hcs
  have HA := Lib.hid (HA1.out.keep hB.2)
  clear hB hcs HA1
  go_wp2_with (first | (at_builtin; refine wpList_append_own _ rfl _ _ 24 rfl w.heap.size 23 i0 zf.v 14 56 Tryd.underlying24 HI0.out.1 HI0.out.2.1 HI0.out.2.2.1 HI0.out.2.2.2 rfl (by decide) _ (L1).length (cellsL (L1)) rfl HA.out.1 ⟨g2, 0, none⟩ L2.length cap2 (cellsL L2) rfl (cellsL_len _) HB2.out (ones_all _) (by unfold maxLen; first | omega | (simp only [List.length_append]; omega)) (by first | omega | (simp only [List.length_append]; omega)) HA.out.2.size ?_) | fail)
  intro v2 W2 hown hgr _
  have HA2 := Lib.hid (SR.nextL (M := L2) HA.out (by first | exact hown | (simp only [List.length_append]; exact hown) | (simp only [List.length_append, List.append_assoc, Nat.add_assoc] at hown ⊢; exact hown)) hgr)
  clear hown hgr HA HB2
  go_wp2_with (first | (go_at_call 23; (with_reducible refine (SC.at h3.out _).mono ?_)) | fail)
  rintro e X3 ⟨u3, rfl, hB⟩
  obtain ⟨g3, cap3, rfl, hg3, hcs⟩ := hB.cells n3.1
  have HB3 := Lib.hid hcs
  have HA := Lib.hid (HA2.out.keep hB.2)
  clear hB hcs HA2
  go_wp2_with (first | (at_builtin; refine wpList_append_own _ rfl _ _ 24 rfl w.heap.size 23 i0 zf.v 14 56 Tryd.underlying24 HI0.out.1 HI0.out.2.1 HI0.out.2.2.1 HI0.out.2.2.2 rfl (by decide) _ (L1 ++ L2).length (cellsL (L1 ++ L2)) rfl HA.out.1 ⟨g3, 0, none⟩ L3.length cap3 (cellsL L3) rfl (cellsL_len _) HB3.out (ones_all _) (by unfold maxLen; first | omega | (simp only [List.length_append]; omega)) (by first | omega | (simp only [List.length_append]; omega)) HA.out.2.size ?_) | fail)
  intro v3 W3 hown hgr _
  have HA3 := Lib.hid (SR.nextL (M := L3) HA.out (by first | exact hown | (simp only [List.length_append]; exact hown) | (simp only [List.length_append, List.append_assoc, Nat.add_assoc] at hown ⊢; exact hown)) hgr)
  clear hown hgr HA HB3
  go_wp2_with (first | (go_at_call 24; (with_reducible refine (SC.at h4.out _).mono ?_)) | fail)
  rintro e X4 ⟨u4, rfl, hB⟩
  obtain ⟨g4, cap4, rfl, hg4, hcs⟩ := hB.cells n4.1
  have HB4 := Lib.hid hcs
  have HA := Lib.hid (HA3.out.keep hB.2)
  clear hB hcs HA3
  go_wp2_with (first | (at_builtin; refine wpList_append_own _ rfl _ _ 24 rfl w.heap.size 23 i0 zf.v 14 56 Tryd.underlying24 HI0.out.1 HI0.out.2.1 HI0.out.2.2.1 HI0.out.2.2.2 rfl (by decide) _ (L1 ++ L2 ++ L3).length (cellsL (L1 ++ L2 ++ L3)) rfl HA.out.1 ⟨g4, 0, none⟩ L4.length cap4 (cellsL L4) rfl (cellsL_len _) HB4.out (ones_all _) (by unfold maxLen; first | omega | (simp only [List.length_append]; omega)) (by first | omega | (simp only [List.length_append]; omega)) HA.out.2.size ?_) | fail)
  intro v4 W4 hown hgr _
  have HA4 := Lib.hid (SR.nextL (M := L4) HA.out (by first | exact hown | (simp only [List.length_append]; exact hown) | (simp only [List.length_append, List.append_assoc, Nat.add_assoc] at hown ⊢; exact hown)) hgr)
  clear hown hgr HA HB4
  go_wp2_with fail
  go_ret
  exact ⟨_, rfl, HA4.out⟩
theorem rforms_any : SC 9 formsL := by
  have e : movesL ++ rsumL ++ flowH3 ++ othersL = formsL := by kernel_rfl
  rw [← e]
  exact rforms_core _ _ _ _ (Lib.hid fun w => (moves_any w).mono fun e w' h => ⟨_, h.1.choose_spec.1, h.1.choose_spec.2.sr h.2 (by decide +kernel)⟩) (Lib.hid sums_any) (Lib.hid flows_any) (Lib.hid fun w => (others_any w).mono fun e w' h => ⟨_, h.1.choose_spec.1, h.1.choose_spec.2.sr h.2 (by decide +kernel)⟩) (by decide +kernel) (by decide +kernel) (by decide +kernel) (by decide +kernel)
end Go.Proofs.YtaeehinlgmijgaaDoor
