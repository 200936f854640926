/- The reference's Find. -/
import Derived.Test.YtaeehinlgmijgaaDoorOw
namespace Go.Proofs.YtaeehinlgmijgaaDoor
open Go.RowKit Go.Shelf
set_option linter.unusedVariables false
set_option linter.unusedSimpArgs false
attribute [local go_sem] Oper.semAt_some
theorem rforms_call (w : World) : Calls Tryd.prog 9 #[] w fun e W' => (∃ g cap, e = .returned (.slice (some ⟨g, 0, none⟩) 139 cap) ∧ w.heap.size ≤ g ∧ RF W' g) ∧ Below w.heap.size w W' :=
  (rforms_any w).mono fun e W' h => by
    obtain ⟨v, rfl, hr⟩ := h
    have h1 := hr.1
    rw [forms_len] at h1
    obtain ⟨g, cap, rfl, hg, hh⟩ := RF.of h1
    exact ⟨⟨g, cap, rfl, hg, hh⟩, hr.2⟩
def LX (w : World) (g b : Nat) (f : Fm) (W : World) : Prop := RF W g ∧ FB W b f ∧ Below w.heap.size w W ∧ b ≠ g ∧ w.heap.size ≤ b
theorem LX.keep {w W W' : World} {g b : Nat} {f : Fm} (h : LX w g b f W) (hb : Below W.heap.size W W') : LX w g b f W' :=
  ⟨h.1.keep hb, h.2.1.keep hb, h.2.2.1.trans (hb.mono h.2.2.1.size), h.2.2.2⟩
theorem LX.put {w W : World} {g b : Nat} {f : Fm} (h : LX w g b f W) (x : Fm) : LX w g b x (W.setRow b x.cs.toArray) :=
  ⟨h.1.row h.2.2.2.1.symm, h.2.1.row, below_row h.2.2.1 h.2.2.2.2, h.2.2.2⟩
def RFitAny (p m o d : Int) (fit : Fm → Bool) : Prop := ∀ f w, Calls Tryd.prog 13 #[Fm.v f, .int .u8 p, .int .u8 m, .int .u8 o, .int .i64 d] w fun e w' => e = .returned (.bool (fit f)) ∧ Below w.heap.size w w'
theorem rfit_as {p m o d : Int} {fit : Fm → Bool} (h : RFitAny p m o d fit) {f : Fm} {t : Bool} (ht : fit f = t) (w : World) : Calls Tryd.prog 13 #[Fm.v f, .int .u8 p, .int .u8 m, .int .u8 o, .int .i64 d] w fun e w' => e = .returned (.bool t) ∧ Below w.heap.size w w' := by
  rw [← ht]
  exact h f w
theorem res11 {W : World} {b : Nat} {f : Fm} {r : Bool} {tm : Array Value} (hp : tm.getD 8 undef = .pointer (some ⟨b, 0, none⟩)) (hr : tm.getD 9 undef = .bool r) (h : FB W b f) : (results Tryd.f11 tm).run Tryd.prog W = .ok (.tuple #[f.v, .bool r]) W := by
  rw [results_cell_tmp (fn := Tryd.f11) (p := 8) (u := 9) (ty := 23) rfl, hp, hr]
  simp [asAddr, load23_run h, Result.andThen]
theorem any_succ (h : Fm → Bool) (k : Nat) (hk : k < 139) : (formsL.take (k + 1)).any h = ((formsL.take k).any h || h (fAt k)) := by
  rw [take_succ k hk, List.any_append]
  simp
theorem found_at (h : Fm → Bool) (k : Nat) (hk : k < 139) (ha : (formsL.take k).any h = false) (hx : h (fAt k) = true) : findR h = (fAt k, true) :=
  find_some ha hx (by rw [← take_succ k hk]; exact List.take_prefix _ _)
set_option maxRecDepth 1000000 in
set_option maxHeartbeats 4000000 in
theorem rfind_core (p m o d : Int) (fit : Fm → Bool) (hFit : Hid (RFitAny p m o d fit)) (w : World) :
    Calls Tryd.prog 11 #[.int .u8 p, .int .u8 m, .int .u8 o, .int .i64 d] w fun e w' => e = .returned (.tuple #[(findR fit).1.v, .bool (findR fit).2]) ∧ Below w.heap.size w w' := by
  have HA := Lib.hid (heap_alloc_last w (.cells zf.cs.toArray 23))
  have HBA := Lib.hid ((Below.refl w.heap.size w).alloc (Nat.le_refl _) (.cells zf.cs.toArray 23))
  go_enter Tryd.func11, Tryd.ntmps11
  go_wp2_with (first | (go_at_call 9; refine (rforms_call _).mono ?_) | fail)
  rintro e W1 ⟨⟨g, cap, rfl, hg, hR⟩, hb⟩
  have HL0 : Hid (LX w g w.heap.size zf W1) := Lib.hid ⟨hR, FB.keep (show FB _ _ zf from HA.out) hb, HBA.out.trans (hb.mono HBA.out.size), by have h := hg; simp at h; omega, Nat.le_refl _⟩
  clear hg hR hb HA HBA
  go_wp2_with fail
  go_loopw [11] (fun i W => ∃ k : Nat, k ≤ 139 ∧ i = .int .i64 k ∧ Hid ((formsL.take k).any fit = false) ∧ Hid (LX w g w.heap.size zf W)) (fun i _ => 139 - (intOf i).toNat)
  case atStart => exact ⟨0, by omega, rfl, Lib.hid rfl, HL0⟩
  case round =>
    clear HL0
    obtain ⟨k, hk, rfl, HN, HL⟩ := hrel
    by_cases hlt : k < 139
    · obtain ⟨t, ht⟩ : ∃ t, fit (fAt k) = t := ⟨_, rfl⟩
      have HT := Lib.hid (fun W => rfit_as hFit.out ht W)
      have HTT := Lib.hid ht
      clear ht
      cases t
      · go_wp2_with (first | (refine wpList_loadF (.tmp 21) rfl (by kernel_rfl) g (k * 14) k (by kernel_rfl) HL.out.1 hlt rfl ?_) | (go_at_call 13; refine (HT.out _).mono ?_) | fail)
        rintro e W3 ⟨rfl, hb⟩
        have HL3 := Lib.hid (HL.out.keep hb)
        clear hb HL
        go_wp2_with fail
        go_roundw
        case rel => exact ⟨k + 1, by omega, by go_num, Lib.hid (by rw [any_succ fit k hlt, HN.out, HTT.out]; rfl), HL3⟩
        case measure => simp [intOf]; omega
      · go_wp2_with (first | (refine wpList_loadF (.tmp 21) rfl (by kernel_rfl) g (k * 14) k (by kernel_rfl) HL.out.1 hlt rfl ?_) | (go_at_call 13; refine (HT.out _).mono ?_) | fail)
        rintro e W3 ⟨rfl, hb⟩
        have HL3 := Lib.hid (HL.out.keep hb)
        clear hb HL
        have HE := Lib.hid (found_at fit k hlt HN.out HTT.out)
        go_wp2_with (first | (refine wpList_loadF (.tmp 30) rfl (by kernel_rfl) g (k * 14) k (by kernel_rfl) HL3.out.1 hlt rfl ?_) | (refine wpList_store23 (u := zf) (f := fAt k) rfl rfl rfl rfl HL3.out.2.1 ?_; generalize hW : World.setRow _ _ _ = W4; have HL4 : Hid (LX w g w.heap.size (fAt k) W4) := Lib.hid (by rw [← hW]; exact HL3.out.put _); clear hW) | fail)
        exact bodyPost_ret (res11 rfl rfl HL4.out.2.1) rfl ⟨by rw [HE.out], HL4.out.2.2.1⟩
    · obtain rfl : k = 139 := by omega
      have HE := Lib.hid (find_none (h := fit) (by rw [← take_all]; exact HN.out))
      go_wp2_with (first | (refine wpList_zero23 rfl (by kernel_rfl) ?_) | (refine wpList_store23 (u := zf) (f := zf) rfl rfl rfl rfl HL.out.2.1 ?_; generalize hW : World.setRow _ _ _ = W4; have HL4 : Hid (LX w g w.heap.size zf W4) := Lib.hid (by rw [← hW]; exact HL.out.put _); clear hW) | fail)
      exact bodyPost_ret (res11 rfl rfl HL4.out.2.1) rfl ⟨by rw [HE.out], HL4.out.2.2.1⟩
end Go.Proofs.YtaeehinlgmijgaaDoor
