/- The reference's Digits. -/
import Derived.Test.YtaeehinlgmijgaaDoorRn
namespace Go.Proofs.YtaeehinlgmijgaaDoor
open Go.RowKit Go.Shelf
set_option linter.unusedVariables false
set_option linter.unusedSimpArgs false
attribute [local go_sem] Oper.semAt_some
def CodeAny (o : Int) (cd : Fm → Bool) : Prop := ∀ f w, Calls Tryd.prog 26 #[Fm.v f, .int .u8 o] w fun e w' => e = .returned (.bool (cd f)) ∧ Below w.heap.size w w'
theorem code_as {o : Int} {cd : Fm → Bool} (h : CodeAny o cd) {f : Fm} {t : Bool} (ht : cd f = t) (w : World) : Calls Tryd.prog 26 #[Fm.v f, .int .u8 o] w fun e w' => e = .returned (.bool t) ∧ Below w.heap.size w w' := by
  rw [← ht]
  exact h f w
def rdig (p m : Int) (cd : Fm → Bool) (f : Fm) : Bool := ((f.p : Nat) : Int) == p && (((f.m : Nat) : Int) == m && (cd f && !(f.d == -1)))
def LY (w : World) (g : Nat) (W : World) : Prop := RF W g ∧ Below w.heap.size w W
theorem LY.keep {w W W' : World} {g : Nat} (h : LY w g W) (hb : Below W.heap.size W W') : LY w g W' := ⟨h.1.keep hb, h.2.trans (hb.mono h.2.size)⟩
theorem LY.c {w W : World} {g : Nat} (h : LY w g W) (k : Nat) (hk : k < 139) (j : Nat) (v : Value) (hv : (fAt k).cs[j]? = some v) : W.cell? ⟨g, k * 14 + j, none⟩ = some v := h.1.at k hk j v hv
theorem LY.c0 {w W : World} {g : Nat} (h : LY w g W) (k : Nat) (hk : k < 139) (v : Value) (hv : (fAt k).cs[0]? = some v) : W.cell? ⟨g, k * 14, none⟩ = some v := h.1.at k hk 0 v hv
theorem cs_014 (f : Fm) : f.cs[0]? = some (.int .u8 (f.p : Nat)) ∧ f.cs[1]? = some (.int .u8 (f.m : Nat)) ∧ f.cs[4]? = some (.int .i64 f.d) := ⟨rfl, rfl, rfl⟩
set_option maxRecDepth 1000000 in
set_option maxHeartbeats 4000000 in
theorem rdigits_core (p m o : Int) (cd : Fm → Bool) (hC : Hid (CodeAny o cd)) (w : World) :
    Calls Tryd.prog 15 #[.int .u8 p, .int .u8 m, .int .u8 o] w fun e w' => e = .returned (.bool (formsL.any (rdig p m cd))) ∧ Below w.heap.size w w' := by
  go_enter Tryd.func15, Tryd.ntmps15
  go_wp2_with (first | (go_at_call 9; refine (rforms_call _).mono ?_) | fail)
  rintro e W1 ⟨⟨g, cap, rfl, hg, hR⟩, hb⟩
  have HL0 : Hid (LY w g W1) := Lib.hid ⟨hR, hb⟩
  clear hg hR hb
  go_wp2_with fail
  go_loopw [8] (fun i W => ∃ k : Nat, k ≤ 139 ∧ i = .int .i64 k ∧ Hid ((formsL.take k).any (rdig p m cd) = false) ∧ Hid (LY w g W)) (fun i _ => 139 - (intOf i).toNat)
  case atStart => exact ⟨0, by omega, rfl, Lib.hid rfl, HL0⟩
  case round =>
    clear HL0
    obtain ⟨k, hk, rfl, HN, HL⟩ := hrel
    by_cases hlt : k < 139
    · obtain ⟨c0, c1, c4⟩ := cs_014 (fAt k)
      have d0 := HL.out.c0 k hlt _ c0
      have d1 := HL.out.c k hlt 1 _ c1
      have D4 := Lib.hid c4
      clear c0 c1 c4
      obtain ⟨P, hP⟩ : ∃ P : Int, (((fAt k).p : Nat) : Int) = P := ⟨_, rfl⟩
      obtain ⟨M, hM⟩ : ∃ P : Int, (((fAt k).m : Nat) : Int) = P := ⟨_, rfl⟩
      obtain ⟨D, hD⟩ : ∃ P : Int, (fAt k).d = P := ⟨_, rfl⟩
      obtain ⟨t, ht⟩ : ∃ t, cd (fAt k) = t := ⟨_, rfl⟩
      rw [hP] at d0
      rw [hM] at d1
      rw [hD] at D4
      have HT := Lib.hid (fun W => code_as hC.out ht W)
      have HS := Lib.hid (any_succ (rdig p m cd) k hlt)
      have hr : rdig p m cd (fAt k) = (P == p && (M == m && (t && !(D == -1)))) := by unfold rdig; rw [hP, hM, hD, ht]
      have HR := Lib.hid hr
      clear hr hP hM hD ht
      cases e0 : (P == p)
      · go_wp2_with fail
        go_roundw
        case rel => exact ⟨k + 1, by omega, by go_num, Lib.hid (by rw [HS.out, HN.out, HR.out]; simp [*]), HL⟩
        case measure => simp [intOf]; omega
      cases e1 : (M == m)
      · go_wp2_with fail
        go_roundw
        case rel => exact ⟨k + 1, by omega, by go_num, Lib.hid (by rw [HS.out, HN.out, HR.out]; simp [*]), HL⟩
        case measure => simp [intOf]; omega
      cases t
      · go_wp2_with (first | (refine wpList_loadF (.tmp 35) rfl (by kernel_rfl) g (k * 14) k (by kernel_rfl) HL.out.1 hlt rfl ?_) | (go_at_call 26; refine (HT.out _).mono ?_) | fail)
        first | (rintro e W3 rfl hb) | (rintro e W3 ⟨rfl, hb⟩)
        have HL3 := Lib.hid (HL.out.keep hb)
        have d4 := HL3.out.c k hlt 4 _ D4.out
        clear hb d0 d1
        go_wp2_with fail
        go_roundw
        case rel => exact ⟨k + 1, by omega, by go_num, Lib.hid (by rw [HS.out, HN.out, HR.out]; simp [*]), HL3⟩
        case measure => simp [intOf]; omega
      cases e4 : (D == -1)
      · go_wp2_with (first | (refine wpList_loadF (.tmp 35) rfl (by kernel_rfl) g (k * 14) k (by kernel_rfl) HL.out.1 hlt rfl ?_) | (go_at_call 26; refine (HT.out _).mono ?_) | fail)
        first | (rintro e W3 rfl hb) | (rintro e W3 ⟨rfl, hb⟩)
        have HL3 := Lib.hid (HL.out.keep hb)
        have d4 := HL3.out.c k hlt 4 _ D4.out
        clear hb d0 d1
        go_wp2_with fail
        go_ret
        have hfin : formsL.any (rdig p m cd) = true := by
          rw [List.any_eq_true]
          exact ⟨fAt k, fAt_mem k hlt, by rw [HR.out]; simp [*]⟩
        exact ⟨by rw [hfin]; rfl, HL3.out.2⟩
      · go_wp2_with (first | (refine wpList_loadF (.tmp 35) rfl (by kernel_rfl) g (k * 14) k (by kernel_rfl) HL.out.1 hlt rfl ?_) | (go_at_call 26; refine (HT.out _).mono ?_) | fail)
        first | (rintro e W3 rfl hb) | (rintro e W3 ⟨rfl, hb⟩)
        have HL3 := Lib.hid (HL.out.keep hb)
        have d4 := HL3.out.c k hlt 4 _ D4.out
        clear hb d0 d1
        go_wp2_with fail
        go_roundw
        case rel => exact ⟨k + 1, by omega, by go_num, Lib.hid (by rw [HS.out, HN.out, HR.out]; simp [*]), HL3⟩
        case measure => simp [intOf]; omega
    · obtain rfl : k = 139 := by omega
      have ha : formsL.any (rdig p m cd) = false := by rw [← take_all]; exact HN.out
      have HA := Lib.hid ha
      clear ha HN
      go_wp2_with fail
      go_ret
      exact ⟨by rw [HA.out]; rfl, HL.out.2⟩
end Go.Proofs.YtaeehinlgmijgaaDoor
