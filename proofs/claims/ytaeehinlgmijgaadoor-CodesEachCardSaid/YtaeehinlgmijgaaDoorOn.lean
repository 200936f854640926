/- CodesOne's walk. -/
import Derived.Test.YtaeehinlgmijgaaDoorLp
namespace Go.Proofs.YtaeehinlgmijgaaDoor
open Go.RowKit Go.Shelf
set_option linter.unusedVariables false
set_option linter.unusedSimpArgs false
attribute [local go_sem] Oper.semAt_some
def cntK (h : Fm → Bool) (k : Nat) : Nat := ((formsL.take k).filter h).length
def lastK (h : Fm → Bool) (k : Nat) : Fm := ((formsL.take k).filter h).getLastD zf
theorem cntK_succ (h : Fm → Bool) (k : Nat) (hk : k < 139) : cntK h (k + 1) = cntK h k + (if h (fAt k) then 1 else 0) := by
  unfold cntK
  rw [take_succ k hk, List.filter_append, List.length_append]
  cases hh : h (fAt k) <;> simp [hh]
theorem lastK_succ (h : Fm → Bool) (k : Nat) (hk : k < 139) : lastK h (k + 1) = if h (fAt k) then fAt k else lastK h k := by
  unfold lastK
  rw [take_succ k hk, List.filter_append]
  cases hh : h (fAt k) <;> simp [hh]
theorem cntK_le (h : Fm → Bool) (k : Nat) : cntK h k ≤ k := by
  unfold cntK
  refine Nat.le_trans (List.length_filter_le _ _) ?_
  rw [List.length_take]
  omega
def LW (w : World) (g b : Nat) (f : Fm) (W : World) : Prop := RF W g ∧ FB W b f ∧ GL W ∧ Below w.heap.size w W ∧ b ≠ g ∧ w.heap.size ≤ b
theorem LW.keep {w W W' : World} {g b : Nat} {f : Fm} (h : LW w g b f W) (hb : Below W.heap.size W W') : LW w g b f W' :=
  ⟨h.1.keep hb, h.2.1.keep hb, h.2.2.1.below hb, h.2.2.2.1.trans (hb.mono h.2.2.2.1.size), h.2.2.2.2⟩
theorem GL.row {W : World} {b : Nat} {c : Array Value} (h : GL W) (hb : 2 ≤ b) : GL (W.setRow b c) := h.block (setRow_other (by omega)) (setRow_other (by omega))
theorem LW.put {w W : World} {g b : Nat} {f : Fm} (h : LW w g b f W) (hw : 2 ≤ w.heap.size) (x : Fm) : LW w g b x (W.setRow b x.cs.toArray) :=
  ⟨h.1.row h.2.2.2.2.1.symm, h.2.1.row, h.2.2.1.row (by have := h.2.2.2.2.2; omega), below_row h.2.2.2.1 h.2.2.2.2.2, h.2.2.2.2⟩
def FitAny (p m o d : Int) (fit : Fm → Bool) : Prop := ∀ f w, Calls Tryd.prog 12 #[Fm.v f, .int .u8 p, .int .u8 m, .int .u8 o, .int .i64 d] w fun e w' => e = .returned (.bool (fit f)) ∧ Below w.heap.size w w'
theorem FitAny.at {p m o d : Int} {fit : Fm → Bool} (h : FitAny p m o d fit) (f : Fm) (w : World) : Calls Tryd.prog 12 #[Fm.v f, .int .u8 p, .int .u8 m, .int .u8 o, .int .i64 d] w fun e w' => e = .returned (.bool (fit f)) ∧ Below w.heap.size w w' := h f w
theorem forms_call (w : World) (hG : GL w) : Calls Tryd.prog 8 #[] w fun e W' => (∃ g cap, e = .returned (.slice (some ⟨g, 0, none⟩) 139 cap) ∧ w.heap.size ≤ g ∧ RF W' g) ∧ Below w.heap.size w W' :=
  (forms_any w hG).mono fun e W' h => ⟨by
    obtain ⟨v, rfl, hr⟩ := h.1
    obtain ⟨g, cap, rfl, hg, hh⟩ := RF.of hr
    exact ⟨g, cap, rfl, hg, hh⟩, h.2⟩
set_option maxRecDepth 1000000 in
set_option maxHeartbeats 4000000 in
theorem fit_as {p m o d : Int} {fit : Fm → Bool} (h : FitAny p m o d fit) {f : Fm} {t : Bool} (ht : fit f = t) (w : World) : Calls Tryd.prog 12 #[Fm.v f, .int .u8 p, .int .u8 m, .int .u8 o, .int .i64 d] w fun e w' => e = .returned (.bool t) ∧ Below w.heap.size w w' := by
  rw [← ht]
  exact h f w
set_option maxRecDepth 1000000 in
set_option maxHeartbeats 4000000 in
theorem one_core (p m o d : Int) (fit : Int → Fm → Bool) (x : Int → Fm) (ok : Int → Bool) (hFit : ∀ d, Hid (FitAny p m o d (fit d))) (hFind : ∀ d, Hid (FindAny p m o d (x d) (ok d)))
    (hcnt : ∀ d, cntK (fit d) 139 = if ok d then 1 else 0) (hlast : ∀ d, lastK (fit d) 139 = x d) (hz : ∀ d, x d ∈ zformsL) (w : World) (hG : GL w) :
    Calls Tryd.prog 4 #[.int .u8 p, .int .u8 m, .int .u8 o, .int .i64 d] w fun e w' => e = .returned (.bool true) ∧ Below w.heap.size w w' := by
  have h2 : 2 ≤ w.heap.size := hG.lt
  have HG := Lib.hid hG
  have HA := Lib.hid (heap_alloc_last w (.cells zf.cs.toArray 23))
  have HGA := Lib.hid (hG.below ((Below.refl w.heap.size w).alloc (Nat.le_refl _) (.cells zf.cs.toArray 23)))
  have HBA := Lib.hid ((Below.refl w.heap.size w).alloc (Nat.le_refl _) (.cells zf.cs.toArray 23))
  have hsz : (w.alloc (.cells zf.cs.toArray 23)).heap.size = w.heap.size + 1 := by simp
  have HSZ := Lib.hid hsz
  clear hG hsz
  go_enter Tryd.func4, Tryd.ntmps4
  go_upto_region 2 with fail
  generalize (wrap64 (Int.tmod d 8 + 8)).tmod 8 = D
  have HFit := hFit D
  have HFind := hFind D
  have HC := Lib.hid (hcnt D)
  have HLa := Lib.hid (hlast D)
  have EQ := fun W => eq23_same (hz D) W
  clear hFit hFind hcnt hlast hz
  generalize fit D = ft at *
  generalize x D = y at *
  generalize ok D = b at *
  go_wp2_with (first | (go_at_call 8; refine (forms_call _ HGA.out).mono ?_) | fail)
  rintro e W1 ⟨⟨g, cap, rfl, hg, hR⟩, hb⟩
  have HL0 : Hid (LW w g w.heap.size (lastK ft 0) W1) := Lib.hid ⟨hR, FB.keep (show FB _ _ zf from HA.out) hb, HGA.out.below hb, HBA.out.trans (hb.mono HBA.out.size), by have := HSZ.out; omega, Nat.le_refl _⟩
  clear hg hR hb HG HA HGA HBA HSZ
  go_wp2_with fail
  go_loopw [9, 12] (fun n i W => ∃ k : Nat, k ≤ 139 ∧ i = .int .i64 k ∧ n = .int .i64 (cntK ft k) ∧ Hid (LW w g w.heap.size (lastK ft k) W)) (fun _ i _ => 139 - (intOf i).toNat)
  case atStart => exact ⟨0, by omega, rfl, rfl, HL0⟩
  case round =>
    clear HL0
    obtain ⟨k, hk, rfl, rfl, HL⟩ := hrel
    by_cases hlt : k < 139
    · have hc0 := cntK_le ft k
      have HC1 := Lib.hid (cntK_succ ft k hlt)
      have HL1 := Lib.hid (lastK_succ ft k hlt)
      generalize cntK ft k = c at *
      generalize lastK ft k = z at *
      obtain ⟨t, ht⟩ : ∃ t, ft (fAt k) = t := ⟨_, rfl⟩
      have HT := Lib.hid (fun W => fit_as HFit.out ht W)
      have HTT := Lib.hid ht
      clear ht
      cases t
      · go_wp2_with (first | (refine wpList_loadF (.tmp 28) rfl (by kernel_rfl) g (k * 14) k (by kernel_rfl) HL.out.1 hlt rfl ?_) | (go_at_call 12; refine (HT.out _).mono ?_) | fail)
        rintro e W3 ⟨rfl, hb⟩
        have HL3 := Lib.hid (HL.out.keep hb)
        clear hb HL
        go_wp2_with fail
        go_roundw
        case rel => exact ⟨k + 1, by omega, by go_num, by rw [HC1.out, HTT.out]; rfl, by rw [HL1.out, HTT.out]; exact HL3⟩
        case measure => simp [intOf]; omega
      · go_wp2_with (first | (refine wpList_loadF (.tmp 28) rfl (by kernel_rfl) g (k * 14) k (by kernel_rfl) HL.out.1 hlt rfl ?_) | (go_at_call 12; refine (HT.out _).mono ?_) | fail)
        rintro e W3 ⟨rfl, hb⟩
        have HL3 := Lib.hid (HL.out.keep hb)
        clear hb HL
        go_wp2_with (first | (refine wpList_loadF (.tmp 39) rfl (by kernel_rfl) g (k * 14) k (by kernel_rfl) HL3.out.1 hlt rfl ?_) | (refine wpList_store23 (u := z) (f := fAt k) rfl rfl rfl rfl HL3.out.2.1 ?_; generalize hW : World.setRow _ _ _ = W4; have HL4 : Hid (LW w g w.heap.size (fAt k) W4) := Lib.hid (by rw [← hW]; exact HL3.out.put h2 _); clear hW) | fail)
        go_roundw
        case rel => exact ⟨k + 1, by omega, by go_num, by rw [HC1.out, HTT.out]; simp, by rw [HL1.out, HTT.out]; exact HL4⟩
        case measure => simp [intOf]; omega
    · obtain rfl : k = 139 := by omega
      have HW0 : Hid (WS w ((w.heap.size, y) :: []) _) := Lib.hid ⟨fun q hq => by rw [List.mem_singleton.1 hq, ← HLa.out]; exact HL.out.2.1, HL.out.2.2.1, HL.out.2.2.2.1⟩
      rw [HC.out]
      clear HL HC HLa
      have HEQ := Lib.hid EQ
      clear EQ
      cases b
      · simp only [if_true, if_false, Bool.false_eq_true, if_neg, Int.natCast_zero, Int.natCast_one, Int.cast_ofNat_Int]
        go_wp2_with (first | (go_at_call 10; refine (FindAny.at HFind.out HW0.out.2.1).mono ?_) | fail)
        rintro e W5 ⟨rfl, hb⟩
        have HW1 := Lib.hid (HW0.out.keep hb)
        clear hb
        go_upto_region 12 with (first | (refine wpList_store23 (u := zf) (f := y) rfl rfl rfl rfl (show FB _ _ zf from heap_alloc_last _ _) ?_; generalize hW : World.setRow _ _ _ = W6; have HW2 : Hid (WS w ((W5.heap.size, y) :: (w.heap.size, y) :: []) W6) := Lib.hid (by rw [← hW]; exact WS.store HW1.out y _ _ rfl); clear hW) | fail)
        have EQ := HEQ.out
        go_wp2_with (first | (refine wpList_load23 (x := .tmp 13) (b := W5.heap.size) (f := y) rfl (by kernel_rfl) (by kernel_rfl) (HW2.out.1 (W5.heap.size, y) (by simp)) ?_) | (refine wpList_load23 (x := .tmp 10) (b := w.heap.size) (f := y) rfl (by kernel_rfl) (by kernel_rfl) (HW2.out.1 (w.heap.size, y) (by simp)) ?_) | (refine wpList_eql23 (f := y) (g := y) rfl (by kernel_rfl) (by kernel_rfl) (by kernel_rfl) (EQ _) ?_) | (go_at_call 18; refine (wakes_any _ HW2.out.2.1).mono ?_) | fail)
        first | (rintro e W7 rfl hb) | (rintro e W7 ⟨rfl, hb⟩)
        have HW3 := Lib.hid (HW2.out.keep hb)
        clear hb
        go_wp2_with fail
        go_ret
        exact ⟨rfl, HW3.out.2.2⟩
      · simp only [if_true, if_false, Bool.false_eq_true, if_neg, Int.natCast_zero, Int.natCast_one, Int.cast_ofNat_Int]
        go_wp2_with (first | (go_at_call 10; refine (FindAny.at HFind.out HW0.out.2.1).mono ?_) | fail)
        rintro e W5 ⟨rfl, hb⟩
        have HW1 := Lib.hid (HW0.out.keep hb)
        clear hb
        go_upto_region 12 with (first | (refine wpList_store23 (u := zf) (f := y) rfl rfl rfl rfl (show FB _ _ zf from heap_alloc_last _ _) ?_; generalize hW : World.setRow _ _ _ = W6; have HW2 : Hid (WS w ((W5.heap.size, y) :: (w.heap.size, y) :: []) W6) := Lib.hid (by rw [← hW]; exact WS.store HW1.out y _ _ rfl); clear hW) | fail)
        have EQ := HEQ.out
        go_wp2_with (first | (refine wpList_load23 (x := .tmp 13) (b := W5.heap.size) (f := y) rfl (by kernel_rfl) (by kernel_rfl) (HW2.out.1 (W5.heap.size, y) (by simp)) ?_) | (refine wpList_load23 (x := .tmp 10) (b := w.heap.size) (f := y) rfl (by kernel_rfl) (by kernel_rfl) (HW2.out.1 (w.heap.size, y) (by simp)) ?_) | (refine wpList_eql23 (f := y) (g := y) rfl (by kernel_rfl) (by kernel_rfl) (by kernel_rfl) (EQ _) ?_) | (go_at_call 18; refine (wakes_any _ HW2.out.2.1).mono ?_) | fail)
        first | (rintro e W7 rfl hb) | (rintro e W7 ⟨rfl, hb⟩)
        have HW3 := Lib.hid (HW2.out.keep hb)
        clear hb
        go_wp2_with fail
        go_ret
        exact ⟨rfl, HW3.out.2.2⟩
end Go.Proofs.YtaeehinlgmijgaaDoor
