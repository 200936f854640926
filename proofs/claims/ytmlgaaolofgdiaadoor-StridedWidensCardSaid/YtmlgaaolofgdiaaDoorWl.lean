/- The law StridedWidens, walked. -/
import Derived.Test.YtmlgaaolofgdiaaDoorWlB
import Derived.Deep.DeepCutAuto
import Derived.Deep.CutRange
namespace Go.Proofs.YtmlgaaolofgdiaaDoor
open Go.RowKit SM
set_option linter.unusedSimpArgs false
set_option linter.unusedVariables false
attribute [local go_sem ↓] Go.wp_at_zero Go.wp_at_succ
attribute [local go_sem ↓ high] eql_set neq_set
set_option maxRecDepth 100000 in
set_option maxHeartbeats 40000000 in
theorem wl_walk (eb eo n cap : Nat) (wd : Int) (el : Nat → St) (hu : ∀ x, x < n → U (el x).s ∧ U (el x).l ∧ U (el x).h) (hn : n ≤ 300) (w : World) (heb : eb < w.heap.size) (hel : Els w eb eo n el) (hm : Mk w) :
    Calls Tryd.prog 4 #[.slice (some ⟨eb, eo, none⟩) n cap, .int .i64 wd] w fun e w' => e = .returned (.bool true) ∧ Below w.heap.size w w' := by
  have HM := Lib.hid hm
  have HEL := Lib.hid hel
  have HU := Lib.hid hu
  clear hm hel hu
  go_enter Tryd.func4, Tryd.ntmps4
  go_wp2_with fail
  go_at_call 14
  refine (rnone_any _).mono ?_
  rintro e W0 ⟨rfl, hb0⟩
  go_wp2
  have hgg := hb0.size
  have k0 := Slot3.new W0 (.int .u64 0) (.int .u64 1) (.int .u64 0) 24
  have hB0 : Below w.heap.size w (W0.alloc (Obj.cells #[Value.int IntKind.u64 0, Value.int IntKind.u64 1, Value.int IntKind.u64 0] 24)) := hb0.trans (((Below.refl _ _).alloc (Nat.le_refl _) _).mono hgg)
  have K0 := Lib.hid k0
  have B0 := Lib.hid hB0
  clear k0 hB0 hb0
  generalize W0.alloc (Obj.cells #[Value.int IntKind.u64 0, Value.int IntKind.u64 1, Value.int IntKind.u64 0] 24) = W1 at K0 B0 ⊢
  generalize W0.heap.size = gs at K0 hgg ⊢
  go_loopw [6, 7] (fun mv iv W => ∃ (x q : Nat) (a : St), x ≤ n ∧ iv = .int .i64 (x : Int) ∧ mv = .int .i64 (q : Int) ∧ Fit (mN wd) a ∧ q + room (mN wd) a ≤ 193 ∧ Slot3 W gs (.int .u64 (a.s : Int)) (.int .u64 (a.l : Int)) (.int .u64 (a.h : Int)) ∧ Below w.heap.size w W) (fun _ iv _ => n - (intOf iv).toNat)
  case atStart => exact ⟨0, 0, noneS, Nat.zero_le _, rfl, rfl, ⟨.inr (.inl rfl), .inl rfl⟩, by simp [room], K0.out, B0.out⟩
  case round =>
    clear K0 B0
    obtain ⟨x, q, a, hx, rfl, rfl, hfit, hroom, hS, hB⟩ := hrel
    by_cases hlt : x < n
    · obtain ⟨h0, h1, h2⟩ := HEL.out x hlt
      have hbz := hB.size
      have HS := Lib.hid (mkE (eb := eb) (ei := eo + x * 3) hS ((hB.cell (p := ⟨eb, eo + x * 3, none⟩) heb).trans h0) ((hB.cell (p := ⟨eb, eo + x * 3 + 1, none⟩) heb).trans h1) ((hB.cell (p := ⟨eb, eo + x * 3 + 2, none⟩) heb).trans h2) (by omega) hB)
      clear h0 h1 h2 hS
      obtain ⟨u0, u1, u2⟩ := HU.out x hlt
      obtain ⟨a0, a1, a2⟩ := a
      generalize el x = b at *
      obtain ⟨v0, v1, v2⟩ := b
      generalize hE : eo + x * 3 = ei at *
      have HR := (Lib.hid fun W _ => rr_dec v0 v1 v2 u2 (B := decide (Rt ⟨v0, v1, v2⟩)) rfl W : Hid (∀ W, Below w.heap.size w W → Calls Tryd.prog 6 #[sv v0 v1 v2] W fun e w2 => e = .returned (.bool (decide (Rt ⟨v0, v1, v2⟩))) ∧ Below W.heap.size W w2))
      have HN := (Lib.hid fun W _ => rnone_any W : Hid (∀ W, Below w.heap.size w W → Calls Tryd.prog 14 #[] W fun e w2 => e = .returned (sv 0 1 0) ∧ Below W.heap.size W w2))
      have HK := (Lib.hid fun W _ => (rmask_nat wd W).mono fun e w2 h => ⟨h.1, h.2 ▸ Below.refl _ _⟩ : Hid (∀ W, Below w.heap.size w W → Calls Tryd.prog 15 #[.int .i64 wd] W fun e w2 => e = .returned (.int .u64 (mN wd : Nat)) ∧ Below W.heap.size W w2))
      obtain ⟨s0, s1, s2, s3, s4, s5, s6, t0, t1, t2, t3, hg⟩ := HS.out
      clear HEL HU
      have hmb := mN_fin wd
      by_cases hr : Rt ⟨v0, v1, v2⟩
      · by_cases hvn : (⟨v0, v1, v2⟩ : St) ≠ noneS ∧ mN wd < v2
        · obtain ⟨hvn, hgt⟩ := hvn
          rw [decide_eq_true hr] at HR
          have q8 := eq3_some v0 v1 v2 hvn
          go_wp2
          refine wp_region_noPanic ?_
          refine wp_region_held_drew (S := fun W => W.cell? ⟨gs, 0, none⟩ = some (.int .u64 (a0 : Int)) ∧ W.cell? ⟨gs, 1, none⟩ = some (.int .u64 (a1 : Int)) ∧ W.cell? ⟨gs, 2, none⟩ = some (.int .u64 (a2 : Int)) ∧ W.frozen? ⟨gs, 0, none⟩ = false ∧ W.frozen? ⟨gs, 1, none⟩ = false ∧ W.frozen? ⟨gs, 2, none⟩ = false ∧ gs < W.heap.size ∧ W.cell? ⟨eb, ei, none⟩ = some (.int .u64 (v0 : Int)) ∧ W.cell? ⟨eb, ei + 1, none⟩ = some (.int .u64 (v1 : Int)) ∧ W.cell? ⟨eb, ei + 2, none⟩ = some (.int .u64 (v2 : Int)) ∧ eb < W.heap.size ∧ Below w.heap.size w W) (by kernel_rfl) ?_ (fun hHeld => ?_)
          · (first | (with_reducible assumption) | (with_reducible exact drewE HS.out (Nat.le_refl _)) | (with_reducible exact keepE (by assumption) (by assumption) (Nat.le_refl _)) | fail)
          refine wpAnyH_take (i := 0) (v := ?_) rfl (by kernel_rfl) (by kernel_rfl) (by kernel_rfl) (fun _ _ _ h => h) (Or.inl ⟨by kernel_rfl, ?_⟩) (by assumption) ?_
          rotate_left
          · intro w hSw
            go_simp
            try with_reducible rfl
          simp only [Act.put, List.setIfInBounds_toArray, List.set_cons_zero, List.set_cons_succ, List.getElem_toArray, List.getElem_cons_succ, List.getElem_cons_zero]
          refine wpAnyH_take (i := 1) (v := ?_) rfl (by kernel_rfl) (by kernel_rfl) (by kernel_rfl) (fun _ _ _ h => h) (Or.inl ⟨by kernel_rfl, ?_⟩) (by assumption) ?_
          rotate_left
          · intro w hSw
            go_simp
            try with_reducible rfl
          simp only [Act.put, List.setIfInBounds_toArray, List.set_cons_zero, List.set_cons_succ, List.getElem_toArray, List.getElem_cons_succ, List.getElem_cons_zero]
          refine wpAnyH_take (i := 2) (v := ?_) rfl (by kernel_rfl) (by kernel_rfl) (by kernel_rfl) (fun _ _ _ h => h) (Or.inl ⟨by kernel_rfl, ?_⟩) (by assumption) ?_
          rotate_left
          · intro w hSw
            go_simp
            try with_reducible rfl
          simp only [Act.put, List.setIfInBounds_toArray, List.set_cons_zero, List.set_cons_succ, List.getElem_toArray, List.getElem_cons_succ, List.getElem_cons_zero]
          refine wpAnyH_take (i := 3) (v := ?_) rfl (by kernel_rfl) (by kernel_rfl) (by kernel_rfl) (fun _ _ _ h => h) (Or.inl ⟨by kernel_rfl, ?_⟩) (by assumption) ?_
          rotate_left
          · intro w hSw
            go_simp
            try with_reducible rfl
          simp only [Act.put, List.setIfInBounds_toArray, List.set_cons_zero, List.set_cons_succ, List.getElem_toArray, List.getElem_cons_succ, List.getElem_cons_zero]
          refine wpAnyH_ready (rs := [4]) (by kernel_rfl) (by simp) ?_
          refine AllReadyH.cons rfl (fun K hK => ?_) AllReadyH.nil
          rw [if_pos (by kernel_rfl)]; go_simp; go_at_call 6; (with_reducible refine (HR.out _ hHeld.2.2.2.2.2.2.2.2.2.2.2).mono ?_); rintro e w1 ⟨rfl, hb1⟩
          refine hK.out _ _ ?_ (fun hHeld => ?_)
          · (first | (with_reducible assumption) | (with_reducible exact drewE HS.out (Nat.le_refl _)) | (with_reducible exact keepE (by assumption) (by assumption) (Nat.le_refl _)) | fail)
          clear hK K
          try simp only [Act.put, List.setIfInBounds_toArray, List.set_cons_zero, List.set_cons_succ, List.getElem_toArray, List.getElem_cons_succ, List.getElem_cons_zero]
          refine wpAnyH_take (i := 5) (v := ?_) rfl (by kernel_rfl) (by kernel_rfl) (by kernel_rfl) (fun _ _ _ h => h) (Or.inl ⟨by kernel_rfl, ?_⟩) (by assumption) ?_
          rotate_left
          · intro w hSw
            go_simp
            try with_reducible rfl
          simp only [Act.put, List.setIfInBounds_toArray, List.set_cons_zero, List.set_cons_succ, List.getElem_toArray, List.getElem_cons_succ, List.getElem_cons_zero]
          refine wpAnyH_take (i := 6) (v := ?_) rfl (by kernel_rfl) (by kernel_rfl) (by kernel_rfl) (fun _ _ _ h => h) (Or.inl ⟨by kernel_rfl, ?_⟩) (by assumption) ?_
          rotate_left
          · intro w hSw
            go_simp
            try with_reducible rfl
          simp only [Act.put, List.setIfInBounds_toArray, List.set_cons_zero, List.set_cons_succ, List.getElem_toArray, List.getElem_cons_succ, List.getElem_cons_zero]
          refine wpAnyH_take (i := 7) (v := ?_) rfl (by kernel_rfl) (by kernel_rfl) (by kernel_rfl) (fun _ _ _ h => h) (Or.inl ⟨by kernel_rfl, ?_⟩) (by assumption) ?_
          rotate_left
          · intro w hSw
            go_simp
            try with_reducible rfl
          simp only [Act.put, List.setIfInBounds_toArray, List.set_cons_zero, List.set_cons_succ, List.getElem_toArray, List.getElem_cons_succ, List.getElem_cons_zero]
          refine wpAnyH_take (i := 8) (v := ?_) rfl (by kernel_rfl) (by kernel_rfl) (by kernel_rfl) (fun _ _ _ h => h) (Or.inl ⟨by kernel_rfl, ?_⟩) (by assumption) ?_
          rotate_left
          · intro w hSw
            go_simp
            try with_reducible rfl
          simp only [Act.put, List.setIfInBounds_toArray, List.set_cons_zero, List.set_cons_succ, List.getElem_toArray, List.getElem_cons_succ, List.getElem_cons_zero]
          refine wpAnyH_take (i := 9) (v := ?_) rfl (by kernel_rfl) (by kernel_rfl) (by kernel_rfl) (fun _ _ _ h => h) (Or.inl ⟨by kernel_rfl, ?_⟩) (by assumption) ?_
          rotate_left
          · intro w hSw
            go_simp
            try with_reducible rfl
          simp only [Act.put, List.setIfInBounds_toArray, List.set_cons_zero, List.set_cons_succ, List.getElem_toArray, List.getElem_cons_succ, List.getElem_cons_zero]
          refine wpAnyH_take (i := 10) (v := ?_) rfl (by kernel_rfl) (by kernel_rfl) (by kernel_rfl) (fun _ _ _ h => h) (Or.inl ⟨by kernel_rfl, ?_⟩) (by assumption) ?_
          rotate_left
          · intro w hSw
            go_simp
            try with_reducible rfl
          simp only [Act.put, List.setIfInBounds_toArray, List.set_cons_zero, List.set_cons_succ, List.getElem_toArray, List.getElem_cons_succ, List.getElem_cons_zero]
          refine wpAnyH_ready (rs := [11]) (by kernel_rfl) (by simp) ?_
          refine AllReadyH.cons rfl (fun K hK => ?_) AllReadyH.nil
          rw [if_pos (by kernel_rfl)]; go_simp; go_at_call 14; (with_reducible refine (HN.out _ hHeld.2.2.2.2.2.2.2.2.2.2.2).mono ?_); rintro e w1 ⟨rfl, hb1⟩
          refine hK.out _ _ ?_ (fun hHeld => ?_)
          · (first | (with_reducible assumption) | (with_reducible exact drewE HS.out (Nat.le_refl _)) | (with_reducible exact keepE (by assumption) (by assumption) (Nat.le_refl _)) | fail)
          clear hK K
          try simp only [Act.put, List.setIfInBounds_toArray, List.set_cons_zero, List.set_cons_succ, List.getElem_toArray, List.getElem_cons_succ, List.getElem_cons_zero]
          refine wpAnyH_take (i := 12) (v := ?_) rfl (by kernel_rfl) (by kernel_rfl) (by kernel_rfl) (fun _ _ _ h => h) (Or.inl ⟨by kernel_rfl, ?_⟩) (by assumption) ?_
          rotate_left
          · intro w hSw
            go_simp
            try with_reducible rfl
          simp only [Act.put, List.setIfInBounds_toArray, List.set_cons_zero, List.set_cons_succ, List.getElem_toArray, List.getElem_cons_succ, List.getElem_cons_zero]
          refine wpAnyH_take (i := 13) (v := ?_) rfl (by kernel_rfl) (by kernel_rfl) (by kernel_rfl) (fun _ _ _ h => h) (Or.inl ⟨by kernel_rfl, ?_⟩) (by assumption) ?_
          rotate_left
          · intro w hSw
            go_simp
            try with_reducible rfl
          simp only [Act.put, List.setIfInBounds_toArray, List.set_cons_zero, List.set_cons_succ, List.getElem_toArray, List.getElem_cons_succ, List.getElem_cons_zero]
          refine wpAnyH_take (i := 14) (v := ?_) rfl (by kernel_rfl) (by kernel_rfl) (by kernel_rfl) (fun _ _ _ h => h) (Or.inl ⟨by kernel_rfl, ?_⟩) (by assumption) ?_
          rotate_left
          · intro w hSw
            go_simp
            try with_reducible rfl
          simp only [Act.put, List.setIfInBounds_toArray, List.set_cons_zero, List.set_cons_succ, List.getElem_toArray, List.getElem_cons_succ, List.getElem_cons_zero]
          refine wpAnyH_take (i := 15) (v := ?_) rfl (by kernel_rfl) (by kernel_rfl) (by kernel_rfl) (fun _ _ _ h => h) (Or.inl ⟨by kernel_rfl, ?_⟩) (by assumption) ?_
          rotate_left
          · intro w hSw
            go_simp
            try with_reducible rfl
          simp only [Act.put, List.setIfInBounds_toArray, List.set_cons_zero, List.set_cons_succ, List.getElem_toArray, List.getElem_cons_succ, List.getElem_cons_zero]
          refine wpAnyH_take (i := 16) (v := ?_) rfl (by kernel_rfl) (by kernel_rfl) (by kernel_rfl) (fun _ _ _ h => h) (Or.inl ⟨by kernel_rfl, ?_⟩) (by assumption) ?_
          rotate_left
          · intro w hSw
            go_simp
            try with_reducible rfl
          simp only [Act.put, List.setIfInBounds_toArray, List.set_cons_zero, List.set_cons_succ, List.getElem_toArray, List.getElem_cons_succ, List.getElem_cons_zero]
          refine wpAnyH_take (i := 17) (v := ?_) rfl (by kernel_rfl) (by kernel_rfl) (by kernel_rfl) (fun _ _ _ h => h) (Or.inl ⟨by kernel_rfl, ?_⟩) (by assumption) ?_
          rotate_left
          · intro w hSw
            go_simp
            try with_reducible rfl
          simp only [Act.put, List.setIfInBounds_toArray, List.set_cons_zero, List.set_cons_succ, List.getElem_toArray, List.getElem_cons_succ, List.getElem_cons_zero]
          refine wpAnyH_take (i := 18) (v := ?_) rfl (by kernel_rfl) (by kernel_rfl) (by kernel_rfl) (fun _ _ _ h => h) (Or.inl ⟨by kernel_rfl, ?_⟩) (by assumption) ?_
          rotate_left
          · intro w hSw
            go_simp
            try with_reducible rfl
          simp only [Act.put, List.setIfInBounds_toArray, List.set_cons_zero, List.set_cons_succ, List.getElem_toArray, List.getElem_cons_succ, List.getElem_cons_zero]
          refine wpAnyH_take (i := 19) (v := ?_) rfl (by kernel_rfl) (by kernel_rfl) (by kernel_rfl) (fun _ _ _ h => h) (Or.inl ⟨by kernel_rfl, ?_⟩) (by assumption) ?_
          rotate_left
          · intro w hSw
            go_simp
            try with_reducible rfl
          simp only [Act.put, List.setIfInBounds_toArray, List.set_cons_zero, List.set_cons_succ, List.getElem_toArray, List.getElem_cons_succ, List.getElem_cons_zero]
          refine wpAnyH_ready (rs := [20]) (by kernel_rfl) (by simp) ?_
          refine AllReadyH.cons rfl (fun K hK => ?_) AllReadyH.nil
          rw [if_pos (by kernel_rfl)]; go_simp; go_at_call 15; (with_reducible refine (HK.out _ hHeld.2.2.2.2.2.2.2.2.2.2.2).mono ?_); rintro e w1 ⟨rfl, hb1⟩
          refine hK.out _ _ ?_ (fun hHeld => ?_)
          · (first | (with_reducible assumption) | (with_reducible exact drewE HS.out (Nat.le_refl _)) | (with_reducible exact keepE (by assumption) (by assumption) (Nat.le_refl _)) | fail)
          clear hK K
          try simp only [Act.put, List.setIfInBounds_toArray, List.set_cons_zero, List.set_cons_succ, List.getElem_toArray, List.getElem_cons_succ, List.getElem_cons_zero]
          refine wpAnyH_take (i := 21) (v := ?_) rfl (by kernel_rfl) (by kernel_rfl) (by kernel_rfl) (fun _ _ _ h => h) (Or.inl ⟨by kernel_rfl, ?_⟩) (by assumption) ?_
          rotate_left
          · intro w hSw
            go_simp
            try with_reducible rfl
          simp only [Act.put, List.setIfInBounds_toArray, List.set_cons_zero, List.set_cons_succ, List.getElem_toArray, List.getElem_cons_succ, List.getElem_cons_zero]
          refine wpAnyH_take (i := 22) (v := ?_) rfl (by kernel_rfl) (by kernel_rfl) (by kernel_rfl) (fun _ _ _ h => h) (Or.inl ⟨by kernel_rfl, ?_⟩) (by assumption) ?_
          rotate_left
          · intro w hSw
            go_simp
            try with_reducible rfl
          simp only [Act.put, List.setIfInBounds_toArray, List.set_cons_zero, List.set_cons_succ, List.getElem_toArray, List.getElem_cons_succ, List.getElem_cons_zero]
          refine wpAnyH_take (i := 23) (v := ?_) rfl (by kernel_rfl) (by kernel_rfl) (by kernel_rfl) (fun _ _ _ h => h) (Or.inl ⟨by kernel_rfl, ?_⟩) (by assumption) ?_
          rotate_left
          · intro w hSw
            go_simp
            try with_reducible rfl
          simp only [Act.put, List.setIfInBounds_toArray, List.set_cons_zero, List.set_cons_succ, List.getElem_toArray, List.getElem_cons_succ, List.getElem_cons_zero]
          refine wpAnyH_done (by kernel_rfl) ?_ _
          refine NoPanic.normal ?_
          have hS := hHeld
          refine anyW (P := fun W => W.cell? ⟨gs, 0, none⟩ = some (.int .u64 (a0 : Int)) ∧ W.cell? ⟨gs, 1, none⟩ = some (.int .u64 (a1 : Int)) ∧ W.cell? ⟨gs, 2, none⟩ = some (.int .u64 (a2 : Int)) ∧ W.frozen? ⟨gs, 0, none⟩ = false ∧ W.frozen? ⟨gs, 1, none⟩ = false ∧ W.frozen? ⟨gs, 2, none⟩ = false ∧ gs < W.heap.size ∧ W.cell? ⟨eb, ei, none⟩ = some (.int .u64 (v0 : Int)) ∧ W.cell? ⟨eb, ei + 1, none⟩ = some (.int .u64 (v1 : Int)) ∧ W.cell? ⟨eb, ei + 2, none⟩ = some (.int .u64 (v2 : Int)) ∧ eb < W.heap.size ∧ Below w.heap.size w W) (Q := fun W => Exit.then _ _ _ _ W) hS ?_
          clear hS HS hHeld s0 s1 s2 s3 s4 s5 s6 t0 t1 t2 t3 hg
          intro W hS
          have HS := Lib.hid hS
          obtain ⟨s0, s1, s2, s3, s4, s5, s6, t0, t1, t2, t3, hg⟩ := hS
          clear q8
          go_wp2
          go_roundw
          case rel => exact ⟨x + 1, q, ⟨a0, a1, a2⟩, by omega, by go_num, by first | rfl | go_num, hfit, hroom, ⟨s0, s1, s2, s3, s4, s5, s6⟩, hg⟩
          case measure => simp [intOf]; omega
        · have hfb : Fit (mN wd) ⟨v0, v1, v2⟩ := ⟨hr, by
            by_cases z : (⟨v0, v1, v2⟩ : St) = noneS
            · exact .inl z
            · exact .inr (Nat.not_lt.1 fun g => hvn ⟨z, g⟩)⟩
          have hgood := wid_good (by omega) hfit hfb
          have hga := hfit.g (by omega)
          have hgb := hfb.g (by omega)
          have HWID := (Lib.hid fun W hb => wid_any ⟨a0, a1, a2⟩ ⟨v0, v1, v2⟩ hga hgb wd W (HM.out.own hb) : Hid (∀ W, Below w.heap.size w W → Calls Tryd.prog 16 #[sv a0 a1 a2, sv v0 v1 v2, .int .i64 wd] W fun e w2 => e = .returned (stv (widS (mN wd) ⟨a0, a1, a2⟩ ⟨v0, v1, v2⟩)) ∧ Below W.heap.size W w2))
          have hgo := hgood.fit.g (by omega)
          have HAG := (Lib.hid fun W hb => wid_any (widS (mN wd) ⟨a0, a1, a2⟩ ⟨v0, v1, v2⟩) ⟨v0, v1, v2⟩ hgo hgb wd W (HM.out.own hb) : Hid (∀ W, Below w.heap.size w W → Calls Tryd.prog 16 #[stv (widS (mN wd) ⟨a0, a1, a2⟩ ⟨v0, v1, v2⟩), sv v0 v1 v2, .int .i64 wd] W fun e w2 => e = .returned (stv (widS (mN wd) (widS (mN wd) ⟨a0, a1, a2⟩ ⟨v0, v1, v2⟩) ⟨v0, v1, v2⟩)) ∧ Below W.heap.size W w2))
          rw [hgood.again] at HAG
          generalize widS (mN wd) ⟨a0, a1, a2⟩ ⟨v0, v1, v2⟩ = o at *
          obtain ⟨o0, o1, o2⟩ := o
          have HIA := (Lib.hid fun W _ => rin_true ⟨a0, a1, a2⟩ ⟨o0, o1, o2⟩ hga.h hgo.h hga.r hgo.r hgood.ina W : Hid (∀ W, Below w.heap.size w W → Calls Tryd.prog 17 #[sv a0 a1 a2, sv o0 o1 o2] W fun e w2 => e = .returned (.bool true) ∧ Below W.heap.size W w2))
          have HIB := (Lib.hid fun W _ => rin_true ⟨v0, v1, v2⟩ ⟨o0, o1, o2⟩ hgb.h hgo.h hgb.r hgo.r hgood.inb W : Hid (∀ W, Below w.heap.size w W → Calls Tryd.prog 17 #[sv v0 v1 v2, sv o0 o1 o2] W fun e w2 => e = .returned (.bool true) ∧ Below W.heap.size W w2))
          have hfo := hgood.fit.le
          dsimp only at hfo
          go_upto_region 8 with fail
          go_cut [43] from 14 to 90 (fun c W => c = .bool false ∧ W.cell? ⟨gs, 0, none⟩ = some (.int .u64 (a0 : Int)) ∧ W.cell? ⟨gs, 1, none⟩ = some (.int .u64 (a1 : Int)) ∧ W.cell? ⟨gs, 2, none⟩ = some (.int .u64 (a2 : Int)) ∧ W.frozen? ⟨gs, 0, none⟩ = false ∧ W.frozen? ⟨gs, 1, none⟩ = false ∧ W.frozen? ⟨gs, 2, none⟩ = false ∧ gs < W.heap.size ∧ W.cell? ⟨eb, ei, none⟩ = some (.int .u64 (v0 : Int)) ∧ W.cell? ⟨eb, ei + 1, none⟩ = some (.int .u64 (v1 : Int)) ∧ W.cell? ⟨eb, ei + 2, none⟩ = some (.int .u64 (v2 : Int)) ∧ eb < W.heap.size ∧ Below w.heap.size w W)
          case first =>
            rw [decide_eq_true hr] at HR
            by_cases hvz : (⟨v0, v1, v2⟩ : St) = noneS
            · have q8 := eq3_none v0 v1 v2 hvz
              go_wp2
              refine wp_region_noPanic ?_
              refine wp_region_held_drew (S := fun W => W.cell? ⟨gs, 0, none⟩ = some (.int .u64 (a0 : Int)) ∧ W.cell? ⟨gs, 1, none⟩ = some (.int .u64 (a1 : Int)) ∧ W.cell? ⟨gs, 2, none⟩ = some (.int .u64 (a2 : Int)) ∧ W.frozen? ⟨gs, 0, none⟩ = false ∧ W.frozen? ⟨gs, 1, none⟩ = false ∧ W.frozen? ⟨gs, 2, none⟩ = false ∧ gs < W.heap.size ∧ W.cell? ⟨eb, ei, none⟩ = some (.int .u64 (v0 : Int)) ∧ W.cell? ⟨eb, ei + 1, none⟩ = some (.int .u64 (v1 : Int)) ∧ W.cell? ⟨eb, ei + 2, none⟩ = some (.int .u64 (v2 : Int)) ∧ eb < W.heap.size ∧ Below w.heap.size w W) (by kernel_rfl) ?_ (fun hHeld => ?_)
              · (first | (with_reducible assumption) | (with_reducible exact drewE HS.out (Nat.le_refl _)) | (with_reducible exact keepE (by assumption) (by assumption) (Nat.le_refl _)) | fail)
              refine wpAnyH_take (i := 0) (v := ?_) rfl (by kernel_rfl) (by kernel_rfl) (by kernel_rfl) (fun _ _ _ h => h) (Or.inl ⟨by kernel_rfl, ?_⟩) (by assumption) ?_
              rotate_left
              · intro w hSw
                go_simp
                try with_reducible rfl
              simp only [Act.put, List.setIfInBounds_toArray, List.set_cons_zero, List.set_cons_succ, List.getElem_toArray, List.getElem_cons_succ, List.getElem_cons_zero]
              refine wpAnyH_take (i := 1) (v := ?_) rfl (by kernel_rfl) (by kernel_rfl) (by kernel_rfl) (fun _ _ _ h => h) (Or.inl ⟨by kernel_rfl, ?_⟩) (by assumption) ?_
              rotate_left
              · intro w hSw
                go_simp
                try with_reducible rfl
              simp only [Act.put, List.setIfInBounds_toArray, List.set_cons_zero, List.set_cons_succ, List.getElem_toArray, List.getElem_cons_succ, List.getElem_cons_zero]
              refine wpAnyH_take (i := 2) (v := ?_) rfl (by kernel_rfl) (by kernel_rfl) (by kernel_rfl) (fun _ _ _ h => h) (Or.inl ⟨by kernel_rfl, ?_⟩) (by assumption) ?_
              rotate_left
              · intro w hSw
                go_simp
                try with_reducible rfl
              simp only [Act.put, List.setIfInBounds_toArray, List.set_cons_zero, List.set_cons_succ, List.getElem_toArray, List.getElem_cons_succ, List.getElem_cons_zero]
              refine wpAnyH_take (i := 3) (v := ?_) rfl (by kernel_rfl) (by kernel_rfl) (by kernel_rfl) (fun _ _ _ h => h) (Or.inl ⟨by kernel_rfl, ?_⟩) (by assumption) ?_
              rotate_left
              · intro w hSw
                go_simp
                try with_reducible rfl
              simp only [Act.put, List.setIfInBounds_toArray, List.set_cons_zero, List.set_cons_succ, List.getElem_toArray, List.getElem_cons_succ, List.getElem_cons_zero]
              refine wpAnyH_ready (rs := [4]) (by kernel_rfl) (by simp) ?_
              refine AllReadyH.cons rfl (fun K hK => ?_) AllReadyH.nil
              rw [if_pos (by kernel_rfl)]; go_simp; go_at_call 6; (with_reducible refine (HR.out _ hHeld.2.2.2.2.2.2.2.2.2.2.2).mono ?_); rintro e w1 ⟨rfl, hb1⟩
              refine hK.out _ _ ?_ (fun hHeld => ?_)
              · (first | (with_reducible assumption) | (with_reducible exact drewE HS.out (Nat.le_refl _)) | (with_reducible exact keepE (by assumption) (by assumption) (Nat.le_refl _)) | fail)
              clear hK K
              try simp only [Act.put, List.setIfInBounds_toArray, List.set_cons_zero, List.set_cons_succ, List.getElem_toArray, List.getElem_cons_succ, List.getElem_cons_zero]
              refine wpAnyH_take (i := 5) (v := ?_) rfl (by kernel_rfl) (by kernel_rfl) (by kernel_rfl) (fun _ _ _ h => h) (Or.inl ⟨by kernel_rfl, ?_⟩) (by assumption) ?_
              rotate_left
              · intro w hSw
                go_simp
                try with_reducible rfl
              simp only [Act.put, List.setIfInBounds_toArray, List.set_cons_zero, List.set_cons_succ, List.getElem_toArray, List.getElem_cons_succ, List.getElem_cons_zero]
              refine wpAnyH_take (i := 6) (v := ?_) rfl (by kernel_rfl) (by kernel_rfl) (by kernel_rfl) (fun _ _ _ h => h) (Or.inl ⟨by kernel_rfl, ?_⟩) (by assumption) ?_
              rotate_left
              · intro w hSw
                go_simp
                try with_reducible rfl
              simp only [Act.put, List.setIfInBounds_toArray, List.set_cons_zero, List.set_cons_succ, List.getElem_toArray, List.getElem_cons_succ, List.getElem_cons_zero]
              refine wpAnyH_take (i := 7) (v := ?_) rfl (by kernel_rfl) (by kernel_rfl) (by kernel_rfl) (fun _ _ _ h => h) (Or.inl ⟨by kernel_rfl, ?_⟩) (by assumption) ?_
              rotate_left
              · intro w hSw
                go_simp
                try with_reducible rfl
              simp only [Act.put, List.setIfInBounds_toArray, List.set_cons_zero, List.set_cons_succ, List.getElem_toArray, List.getElem_cons_succ, List.getElem_cons_zero]
              refine wpAnyH_take (i := 8) (v := ?_) rfl (by kernel_rfl) (by kernel_rfl) (by kernel_rfl) (fun _ _ _ h => h) (Or.inl ⟨by kernel_rfl, ?_⟩) (by assumption) ?_
              rotate_left
              · intro w hSw
                go_simp
                try with_reducible rfl
              simp only [Act.put, List.setIfInBounds_toArray, List.set_cons_zero, List.set_cons_succ, List.getElem_toArray, List.getElem_cons_succ, List.getElem_cons_zero]
              refine wpAnyH_take (i := 9) (v := ?_) rfl (by kernel_rfl) (by kernel_rfl) (by kernel_rfl) (fun _ _ _ h => h) (Or.inl ⟨by kernel_rfl, ?_⟩) (by assumption) ?_
              rotate_left
              · intro w hSw
                go_simp
                try with_reducible rfl
              simp only [Act.put, List.setIfInBounds_toArray, List.set_cons_zero, List.set_cons_succ, List.getElem_toArray, List.getElem_cons_succ, List.getElem_cons_zero]
              refine wpAnyH_take (i := 10) (v := ?_) rfl (by kernel_rfl) (by kernel_rfl) (by kernel_rfl) (fun _ _ _ h => h) (Or.inl ⟨by kernel_rfl, ?_⟩) (by assumption) ?_
              rotate_left
              · intro w hSw
                go_simp
                try with_reducible rfl
              simp only [Act.put, List.setIfInBounds_toArray, List.set_cons_zero, List.set_cons_succ, List.getElem_toArray, List.getElem_cons_succ, List.getElem_cons_zero]
              refine wpAnyH_ready (rs := [11]) (by kernel_rfl) (by simp) ?_
              refine AllReadyH.cons rfl (fun K hK => ?_) AllReadyH.nil
              rw [if_pos (by kernel_rfl)]; go_simp; go_at_call 14; (with_reducible refine (HN.out _ hHeld.2.2.2.2.2.2.2.2.2.2.2).mono ?_); rintro e w1 ⟨rfl, hb1⟩
              refine hK.out _ _ ?_ (fun hHeld => ?_)
              · (first | (with_reducible assumption) | (with_reducible exact drewE HS.out (Nat.le_refl _)) | (with_reducible exact keepE (by assumption) (by assumption) (Nat.le_refl _)) | fail)
              clear hK K
              try simp only [Act.put, List.setIfInBounds_toArray, List.set_cons_zero, List.set_cons_succ, List.getElem_toArray, List.getElem_cons_succ, List.getElem_cons_zero]
              refine wpAnyH_take (i := 12) (v := ?_) rfl (by kernel_rfl) (by kernel_rfl) (by kernel_rfl) (fun _ _ _ h => h) (Or.inl ⟨by kernel_rfl, ?_⟩) (by assumption) ?_
              rotate_left
              · intro w hSw
                go_simp
                try with_reducible rfl
              simp only [Act.put, List.setIfInBounds_toArray, List.set_cons_zero, List.set_cons_succ, List.getElem_toArray, List.getElem_cons_succ, List.getElem_cons_zero]
              refine wpAnyH_take (i := 13) (v := ?_) rfl (by kernel_rfl) (by kernel_rfl) (by kernel_rfl) (fun _ _ _ h => h) (Or.inl ⟨by kernel_rfl, ?_⟩) (by assumption) ?_
              rotate_left
              · intro w hSw
                go_simp
                try with_reducible rfl
              simp only [Act.put, List.setIfInBounds_toArray, List.set_cons_zero, List.set_cons_succ, List.getElem_toArray, List.getElem_cons_succ, List.getElem_cons_zero]
              refine wpAnyH_take (i := 14) (v := undef) rfl (by kernel_rfl) (by kernel_rfl) (by kernel_rfl) (fun _ _ _ h => h) (Or.inr ⟨by kernel_rfl, rfl⟩) (by assumption) ?_
              simp only [Act.put, List.setIfInBounds_toArray, List.set_cons_zero, List.set_cons_succ, List.getElem_toArray, List.getElem_cons_succ, List.getElem_cons_zero]
              refine wpAnyH_take (i := 15) (v := undef) rfl (by kernel_rfl) (by kernel_rfl) (by kernel_rfl) (fun _ _ _ h => h) (Or.inr ⟨by kernel_rfl, rfl⟩) (by assumption) ?_
              simp only [Act.put, List.setIfInBounds_toArray, List.set_cons_zero, List.set_cons_succ, List.getElem_toArray, List.getElem_cons_succ, List.getElem_cons_zero]
              refine wpAnyH_take (i := 16) (v := undef) rfl (by kernel_rfl) (by kernel_rfl) (by kernel_rfl) (fun _ _ _ h => h) (Or.inr ⟨by kernel_rfl, rfl⟩) (by assumption) ?_
              simp only [Act.put, List.setIfInBounds_toArray, List.set_cons_zero, List.set_cons_succ, List.getElem_toArray, List.getElem_cons_succ, List.getElem_cons_zero]
              refine wpAnyH_take (i := 17) (v := undef) rfl (by kernel_rfl) (by kernel_rfl) (by kernel_rfl) (fun _ _ _ h => h) (Or.inr ⟨by kernel_rfl, rfl⟩) (by assumption) ?_
              simp only [Act.put, List.setIfInBounds_toArray, List.set_cons_zero, List.set_cons_succ, List.getElem_toArray, List.getElem_cons_succ, List.getElem_cons_zero]
              refine wpAnyH_take (i := 18) (v := undef) rfl (by kernel_rfl) (by kernel_rfl) (by kernel_rfl) (fun _ _ _ h => h) (Or.inr ⟨by kernel_rfl, rfl⟩) (by assumption) ?_
              simp only [Act.put, List.setIfInBounds_toArray, List.set_cons_zero, List.set_cons_succ, List.getElem_toArray, List.getElem_cons_succ, List.getElem_cons_zero]
              refine wpAnyH_take (i := 19) (v := undef) rfl (by kernel_rfl) (by kernel_rfl) (by kernel_rfl) (fun _ _ _ h => h) (Or.inr ⟨by kernel_rfl, rfl⟩) (by assumption) ?_
              simp only [Act.put, List.setIfInBounds_toArray, List.set_cons_zero, List.set_cons_succ, List.getElem_toArray, List.getElem_cons_succ, List.getElem_cons_zero]
              refine wpAnyH_take (i := 20) (v := undef) rfl (by kernel_rfl) (by kernel_rfl) (by kernel_rfl) (fun _ _ _ h => h) (Or.inr ⟨by kernel_rfl, rfl⟩) (by assumption) ?_
              simp only [Act.put, List.setIfInBounds_toArray, List.set_cons_zero, List.set_cons_succ, List.getElem_toArray, List.getElem_cons_succ, List.getElem_cons_zero]
              refine wpAnyH_take (i := 21) (v := undef) rfl (by kernel_rfl) (by kernel_rfl) (by kernel_rfl) (fun _ _ _ h => h) (Or.inr ⟨by kernel_rfl, rfl⟩) (by assumption) ?_
              simp only [Act.put, List.setIfInBounds_toArray, List.set_cons_zero, List.set_cons_succ, List.getElem_toArray, List.getElem_cons_succ, List.getElem_cons_zero]
              refine wpAnyH_take (i := 22) (v := ?_) rfl (by kernel_rfl) (by kernel_rfl) (by kernel_rfl) (fun _ _ _ h => h) (Or.inl ⟨by kernel_rfl, ?_⟩) (by assumption) ?_
              rotate_left
              · intro w hSw
                go_simp
                try with_reducible rfl
              simp only [Act.put, List.setIfInBounds_toArray, List.set_cons_zero, List.set_cons_succ, List.getElem_toArray, List.getElem_cons_succ, List.getElem_cons_zero]
              refine wpAnyH_take (i := 23) (v := ?_) rfl (by kernel_rfl) (by kernel_rfl) (by kernel_rfl) (fun _ _ _ h => h) (Or.inl ⟨by kernel_rfl, ?_⟩) (by assumption) ?_
              rotate_left
              · intro w hSw
                go_simp
                try with_reducible rfl
              simp only [Act.put, List.setIfInBounds_toArray, List.set_cons_zero, List.set_cons_succ, List.getElem_toArray, List.getElem_cons_succ, List.getElem_cons_zero]
              refine wpAnyH_done (by kernel_rfl) ?_ _
              refine NoPanic.normal ?_
              go_wp2_with fail
              go_meet
              exact ⟨rfl, hHeld⟩
            · have q8 := eq3_some v0 v1 v2 hvz
              have hle : ¬ mN wd < v2 := fun z => hvn ⟨hvz, z⟩
              go_wp2
              refine wp_region_noPanic ?_
              refine wp_region_held_drew (S := fun W => W.cell? ⟨gs, 0, none⟩ = some (.int .u64 (a0 : Int)) ∧ W.cell? ⟨gs, 1, none⟩ = some (.int .u64 (a1 : Int)) ∧ W.cell? ⟨gs, 2, none⟩ = some (.int .u64 (a2 : Int)) ∧ W.frozen? ⟨gs, 0, none⟩ = false ∧ W.frozen? ⟨gs, 1, none⟩ = false ∧ W.frozen? ⟨gs, 2, none⟩ = false ∧ gs < W.heap.size ∧ W.cell? ⟨eb, ei, none⟩ = some (.int .u64 (v0 : Int)) ∧ W.cell? ⟨eb, ei + 1, none⟩ = some (.int .u64 (v1 : Int)) ∧ W.cell? ⟨eb, ei + 2, none⟩ = some (.int .u64 (v2 : Int)) ∧ eb < W.heap.size ∧ Below w.heap.size w W) (by kernel_rfl) ?_ (fun hHeld => ?_)
              · (first | (with_reducible assumption) | (with_reducible exact drewE HS.out (Nat.le_refl _)) | (with_reducible exact keepE (by assumption) (by assumption) (Nat.le_refl _)) | fail)
              refine wpAnyH_take (i := 0) (v := ?_) rfl (by kernel_rfl) (by kernel_rfl) (by kernel_rfl) (fun _ _ _ h => h) (Or.inl ⟨by kernel_rfl, ?_⟩) (by assumption) ?_
              rotate_left
              · intro w hSw
                go_simp
                try with_reducible rfl
              simp only [Act.put, List.setIfInBounds_toArray, List.set_cons_zero, List.set_cons_succ, List.getElem_toArray, List.getElem_cons_succ, List.getElem_cons_zero]
              refine wpAnyH_take (i := 1) (v := ?_) rfl (by kernel_rfl) (by kernel_rfl) (by kernel_rfl) (fun _ _ _ h => h) (Or.inl ⟨by kernel_rfl, ?_⟩) (by assumption) ?_
              rotate_left
              · intro w hSw
                go_simp
                try with_reducible rfl
              simp only [Act.put, List.setIfInBounds_toArray, List.set_cons_zero, List.set_cons_succ, List.getElem_toArray, List.getElem_cons_succ, List.getElem_cons_zero]
              refine wpAnyH_take (i := 2) (v := ?_) rfl (by kernel_rfl) (by kernel_rfl) (by kernel_rfl) (fun _ _ _ h => h) (Or.inl ⟨by kernel_rfl, ?_⟩) (by assumption) ?_
              rotate_left
              · intro w hSw
                go_simp
                try with_reducible rfl
              simp only [Act.put, List.setIfInBounds_toArray, List.set_cons_zero, List.set_cons_succ, List.getElem_toArray, List.getElem_cons_succ, List.getElem_cons_zero]
              refine wpAnyH_take (i := 3) (v := ?_) rfl (by kernel_rfl) (by kernel_rfl) (by kernel_rfl) (fun _ _ _ h => h) (Or.inl ⟨by kernel_rfl, ?_⟩) (by assumption) ?_
              rotate_left
              · intro w hSw
                go_simp
                try with_reducible rfl
              simp only [Act.put, List.setIfInBounds_toArray, List.set_cons_zero, List.set_cons_succ, List.getElem_toArray, List.getElem_cons_succ, List.getElem_cons_zero]
              refine wpAnyH_ready (rs := [4]) (by kernel_rfl) (by simp) ?_
              refine AllReadyH.cons rfl (fun K hK => ?_) AllReadyH.nil
              rw [if_pos (by kernel_rfl)]; go_simp; go_at_call 6; (with_reducible refine (HR.out _ hHeld.2.2.2.2.2.2.2.2.2.2.2).mono ?_); rintro e w1 ⟨rfl, hb1⟩
              refine hK.out _ _ ?_ (fun hHeld => ?_)
              · (first | (with_reducible assumption) | (with_reducible exact drewE HS.out (Nat.le_refl _)) | (with_reducible exact keepE (by assumption) (by assumption) (Nat.le_refl _)) | fail)
              clear hK K
              try simp only [Act.put, List.setIfInBounds_toArray, List.set_cons_zero, List.set_cons_succ, List.getElem_toArray, List.getElem_cons_succ, List.getElem_cons_zero]
              refine wpAnyH_take (i := 5) (v := ?_) rfl (by kernel_rfl) (by kernel_rfl) (by kernel_rfl) (fun _ _ _ h => h) (Or.inl ⟨by kernel_rfl, ?_⟩) (by assumption) ?_
              rotate_left
              · intro w hSw
                go_simp
                try with_reducible rfl
              simp only [Act.put, List.setIfInBounds_toArray, List.set_cons_zero, List.set_cons_succ, List.getElem_toArray, List.getElem_cons_succ, List.getElem_cons_zero]
              refine wpAnyH_take (i := 6) (v := ?_) rfl (by kernel_rfl) (by kernel_rfl) (by kernel_rfl) (fun _ _ _ h => h) (Or.inl ⟨by kernel_rfl, ?_⟩) (by assumption) ?_
              rotate_left
              · intro w hSw
                go_simp
                try with_reducible rfl
              simp only [Act.put, List.setIfInBounds_toArray, List.set_cons_zero, List.set_cons_succ, List.getElem_toArray, List.getElem_cons_succ, List.getElem_cons_zero]
              refine wpAnyH_take (i := 7) (v := ?_) rfl (by kernel_rfl) (by kernel_rfl) (by kernel_rfl) (fun _ _ _ h => h) (Or.inl ⟨by kernel_rfl, ?_⟩) (by assumption) ?_
              rotate_left
              · intro w hSw
                go_simp
                try with_reducible rfl
              simp only [Act.put, List.setIfInBounds_toArray, List.set_cons_zero, List.set_cons_succ, List.getElem_toArray, List.getElem_cons_succ, List.getElem_cons_zero]
              refine wpAnyH_take (i := 8) (v := ?_) rfl (by kernel_rfl) (by kernel_rfl) (by kernel_rfl) (fun _ _ _ h => h) (Or.inl ⟨by kernel_rfl, ?_⟩) (by assumption) ?_
              rotate_left
              · intro w hSw
                go_simp
                try with_reducible rfl
              simp only [Act.put, List.setIfInBounds_toArray, List.set_cons_zero, List.set_cons_succ, List.getElem_toArray, List.getElem_cons_succ, List.getElem_cons_zero]
              refine wpAnyH_take (i := 9) (v := ?_) rfl (by kernel_rfl) (by kernel_rfl) (by kernel_rfl) (fun _ _ _ h => h) (Or.inl ⟨by kernel_rfl, ?_⟩) (by assumption) ?_
              rotate_left
              · intro w hSw
                go_simp
                try with_reducible rfl
              simp only [Act.put, List.setIfInBounds_toArray, List.set_cons_zero, List.set_cons_succ, List.getElem_toArray, List.getElem_cons_succ, List.getElem_cons_zero]
              refine wpAnyH_take (i := 10) (v := ?_) rfl (by kernel_rfl) (by kernel_rfl) (by kernel_rfl) (fun _ _ _ h => h) (Or.inl ⟨by kernel_rfl, ?_⟩) (by assumption) ?_
              rotate_left
              · intro w hSw
                go_simp
                try with_reducible rfl
              simp only [Act.put, List.setIfInBounds_toArray, List.set_cons_zero, List.set_cons_succ, List.getElem_toArray, List.getElem_cons_succ, List.getElem_cons_zero]
              refine wpAnyH_ready (rs := [11]) (by kernel_rfl) (by simp) ?_
              refine AllReadyH.cons rfl (fun K hK => ?_) AllReadyH.nil
              rw [if_pos (by kernel_rfl)]; go_simp; go_at_call 14; (with_reducible refine (HN.out _ hHeld.2.2.2.2.2.2.2.2.2.2.2).mono ?_); rintro e w1 ⟨rfl, hb1⟩
              refine hK.out _ _ ?_ (fun hHeld => ?_)
              · (first | (with_reducible assumption) | (with_reducible exact drewE HS.out (Nat.le_refl _)) | (with_reducible exact keepE (by assumption) (by assumption) (Nat.le_refl _)) | fail)
              clear hK K
              try simp only [Act.put, List.setIfInBounds_toArray, List.set_cons_zero, List.set_cons_succ, List.getElem_toArray, List.getElem_cons_succ, List.getElem_cons_zero]
              refine wpAnyH_take (i := 12) (v := ?_) rfl (by kernel_rfl) (by kernel_rfl) (by kernel_rfl) (fun _ _ _ h => h) (Or.inl ⟨by kernel_rfl, ?_⟩) (by assumption) ?_
              rotate_left
              · intro w hSw
                go_simp
                try with_reducible rfl
              simp only [Act.put, List.setIfInBounds_toArray, List.set_cons_zero, List.set_cons_succ, List.getElem_toArray, List.getElem_cons_succ, List.getElem_cons_zero]
              refine wpAnyH_take (i := 13) (v := ?_) rfl (by kernel_rfl) (by kernel_rfl) (by kernel_rfl) (fun _ _ _ h => h) (Or.inl ⟨by kernel_rfl, ?_⟩) (by assumption) ?_
              rotate_left
              · intro w hSw
                go_simp
                try with_reducible rfl
              simp only [Act.put, List.setIfInBounds_toArray, List.set_cons_zero, List.set_cons_succ, List.getElem_toArray, List.getElem_cons_succ, List.getElem_cons_zero]
              refine wpAnyH_take (i := 14) (v := ?_) rfl (by kernel_rfl) (by kernel_rfl) (by kernel_rfl) (fun _ _ _ h => h) (Or.inl ⟨by kernel_rfl, ?_⟩) (by assumption) ?_
              rotate_left
              · intro w hSw
                go_simp
                try with_reducible rfl
              simp only [Act.put, List.setIfInBounds_toArray, List.set_cons_zero, List.set_cons_succ, List.getElem_toArray, List.getElem_cons_succ, List.getElem_cons_zero]
              refine wpAnyH_take (i := 15) (v := ?_) rfl (by kernel_rfl) (by kernel_rfl) (by kernel_rfl) (fun _ _ _ h => h) (Or.inl ⟨by kernel_rfl, ?_⟩) (by assumption) ?_
              rotate_left
              · intro w hSw
                go_simp
                try with_reducible rfl
              simp only [Act.put, List.setIfInBounds_toArray, List.set_cons_zero, List.set_cons_succ, List.getElem_toArray, List.getElem_cons_succ, List.getElem_cons_zero]
              refine wpAnyH_take (i := 16) (v := ?_) rfl (by kernel_rfl) (by kernel_rfl) (by kernel_rfl) (fun _ _ _ h => h) (Or.inl ⟨by kernel_rfl, ?_⟩) (by assumption) ?_
              rotate_left
              · intro w hSw
                go_simp
                try with_reducible rfl
              simp only [Act.put, List.setIfInBounds_toArray, List.set_cons_zero, List.set_cons_succ, List.getElem_toArray, List.getElem_cons_succ, List.getElem_cons_zero]
              refine wpAnyH_take (i := 17) (v := ?_) rfl (by kernel_rfl) (by kernel_rfl) (by kernel_rfl) (fun _ _ _ h => h) (Or.inl ⟨by kernel_rfl, ?_⟩) (by assumption) ?_
              rotate_left
              · intro w hSw
                go_simp
                try with_reducible rfl
              simp only [Act.put, List.setIfInBounds_toArray, List.set_cons_zero, List.set_cons_succ, List.getElem_toArray, List.getElem_cons_succ, List.getElem_cons_zero]
              refine wpAnyH_take (i := 18) (v := ?_) rfl (by kernel_rfl) (by kernel_rfl) (by kernel_rfl) (fun _ _ _ h => h) (Or.inl ⟨by kernel_rfl, ?_⟩) (by assumption) ?_
              rotate_left
              · intro w hSw
                go_simp
                try with_reducible rfl
              simp only [Act.put, List.setIfInBounds_toArray, List.set_cons_zero, List.set_cons_succ, List.getElem_toArray, List.getElem_cons_succ, List.getElem_cons_zero]
              refine wpAnyH_take (i := 19) (v := ?_) rfl (by kernel_rfl) (by kernel_rfl) (by kernel_rfl) (fun _ _ _ h => h) (Or.inl ⟨by kernel_rfl, ?_⟩) (by assumption) ?_
              rotate_left
              · intro w hSw
                go_simp
                try with_reducible rfl
              simp only [Act.put, List.setIfInBounds_toArray, List.set_cons_zero, List.set_cons_succ, List.getElem_toArray, List.getElem_cons_succ, List.getElem_cons_zero]
              refine wpAnyH_ready (rs := [20]) (by kernel_rfl) (by simp) ?_
              refine AllReadyH.cons rfl (fun K hK => ?_) AllReadyH.nil
              rw [if_pos (by kernel_rfl)]; go_simp; go_at_call 15; (with_reducible refine (HK.out _ hHeld.2.2.2.2.2.2.2.2.2.2.2).mono ?_); rintro e w1 ⟨rfl, hb1⟩
              refine hK.out _ _ ?_ (fun hHeld => ?_)
              · (first | (with_reducible assumption) | (with_reducible exact drewE HS.out (Nat.le_refl _)) | (with_reducible exact keepE (by assumption) (by assumption) (Nat.le_refl _)) | fail)
              clear hK K
              try simp only [Act.put, List.setIfInBounds_toArray, List.set_cons_zero, List.set_cons_succ, List.getElem_toArray, List.getElem_cons_succ, List.getElem_cons_zero]
              refine wpAnyH_take (i := 21) (v := ?_) rfl (by kernel_rfl) (by kernel_rfl) (by kernel_rfl) (fun _ _ _ h => h) (Or.inl ⟨by kernel_rfl, ?_⟩) (by assumption) ?_
              rotate_left
              · intro w hSw
                go_simp
                try with_reducible rfl
              simp only [Act.put, List.setIfInBounds_toArray, List.set_cons_zero, List.set_cons_succ, List.getElem_toArray, List.getElem_cons_succ, List.getElem_cons_zero]
              refine wpAnyH_take (i := 22) (v := ?_) rfl (by kernel_rfl) (by kernel_rfl) (by kernel_rfl) (fun _ _ _ h => h) (Or.inl ⟨by kernel_rfl, ?_⟩) (by assumption) ?_
              rotate_left
              · intro w hSw
                go_simp
                try with_reducible rfl
              simp only [Act.put, List.setIfInBounds_toArray, List.set_cons_zero, List.set_cons_succ, List.getElem_toArray, List.getElem_cons_succ, List.getElem_cons_zero]
              refine wpAnyH_take (i := 23) (v := ?_) rfl (by kernel_rfl) (by kernel_rfl) (by kernel_rfl) (fun _ _ _ h => h) (Or.inl ⟨by kernel_rfl, ?_⟩) (by assumption) ?_
              rotate_left
              · intro w hSw
                go_simp
                try with_reducible rfl
              simp only [Act.put, List.setIfInBounds_toArray, List.set_cons_zero, List.set_cons_succ, List.getElem_toArray, List.getElem_cons_succ, List.getElem_cons_zero]
              refine wpAnyH_done (by kernel_rfl) ?_ _
              refine NoPanic.normal ?_
              go_wp2_with fail
              go_meet
              exact ⟨rfl, hHeld⟩
          case rest =>
            obtain ⟨rfl, hS⟩ := hcut
            clear HS s0 s1 s2 s3 s4 s5 s6 t0 t1 t2 t3 hg HR
            have HS := Lib.hid hS
            clear hS
            obtain ⟨s0, s1, s2, s3, s4, s5, s6, t0, t1, t2, t3, hg⟩ := HS.out
            go_upto_region 9 with fail
            go_cut [8] from 14 to 90 (fun c W => ∃ go : Nat, c = .pointer (some ⟨go, 0, none⟩) ∧ gs < go ∧ eb < go ∧ w.heap.size ≤ go ∧ Slot3 W go (.int .u64 (o0 : Int)) (.int .u64 (o1 : Int)) (.int .u64 (o2 : Int)) ∧ W.cell? ⟨gs, 0, none⟩ = some (.int .u64 (a0 : Int)) ∧ W.cell? ⟨gs, 1, none⟩ = some (.int .u64 (a1 : Int)) ∧ W.cell? ⟨gs, 2, none⟩ = some (.int .u64 (a2 : Int)) ∧ W.frozen? ⟨gs, 0, none⟩ = false ∧ W.frozen? ⟨gs, 1, none⟩ = false ∧ W.frozen? ⟨gs, 2, none⟩ = false ∧ gs < W.heap.size ∧ W.cell? ⟨eb, ei, none⟩ = some (.int .u64 (v0 : Int)) ∧ W.cell? ⟨eb, ei + 1, none⟩ = some (.int .u64 (v1 : Int)) ∧ W.cell? ⟨eb, ei + 2, none⟩ = some (.int .u64 (v2 : Int)) ∧ eb < W.heap.size ∧ Below w.heap.size w W)
            case first =>
              refine wp_region_noPanic ?_
              refine wp_region_held_drew (S := fun W => W.cell? ⟨gs, 0, none⟩ = some (.int .u64 (a0 : Int)) ∧ W.cell? ⟨gs, 1, none⟩ = some (.int .u64 (a1 : Int)) ∧ W.cell? ⟨gs, 2, none⟩ = some (.int .u64 (a2 : Int)) ∧ W.frozen? ⟨gs, 0, none⟩ = false ∧ W.frozen? ⟨gs, 1, none⟩ = false ∧ W.frozen? ⟨gs, 2, none⟩ = false ∧ gs < W.heap.size ∧ W.cell? ⟨eb, ei, none⟩ = some (.int .u64 (v0 : Int)) ∧ W.cell? ⟨eb, ei + 1, none⟩ = some (.int .u64 (v1 : Int)) ∧ W.cell? ⟨eb, ei + 2, none⟩ = some (.int .u64 (v2 : Int)) ∧ eb < W.heap.size ∧ Below w.heap.size w W) (by kernel_rfl) ?_ (fun hHeld => ?_)
              · (first | (with_reducible assumption) | (with_reducible exact drewE HS.out (Nat.le_refl _)) | (with_reducible exact keepE (by assumption) (by assumption) (Nat.le_refl _)) | fail)
              refine wpAnyH_take (i := 0) (v := ?_) rfl (by kernel_rfl) (by kernel_rfl) (by kernel_rfl) (fun _ _ _ h => h) (Or.inl ⟨by kernel_rfl, ?_⟩) (by assumption) ?_
              rotate_left
              · intro w hSw
                go_simp
                try with_reducible rfl
              simp only [Act.put, List.setIfInBounds_toArray, List.set_cons_zero, List.set_cons_succ, List.getElem_toArray, List.getElem_cons_succ, List.getElem_cons_zero]
              refine wpAnyH_take (i := 1) (v := ?_) rfl (by kernel_rfl) (by kernel_rfl) (by kernel_rfl) (fun _ _ _ h => h) (Or.inl ⟨by kernel_rfl, ?_⟩) (by assumption) ?_
              rotate_left
              · intro w hSw
                go_simp
                try with_reducible rfl
              simp only [Act.put, List.setIfInBounds_toArray, List.set_cons_zero, List.set_cons_succ, List.getElem_toArray, List.getElem_cons_succ, List.getElem_cons_zero]
              refine wpAnyH_take (i := 2) (v := ?_) rfl (by kernel_rfl) (by kernel_rfl) (by kernel_rfl) (fun _ _ _ h => h) (Or.inl ⟨by kernel_rfl, ?_⟩) (by assumption) ?_
              rotate_left
              · intro w hSw
                go_simp
                try with_reducible rfl
              simp only [Act.put, List.setIfInBounds_toArray, List.set_cons_zero, List.set_cons_succ, List.getElem_toArray, List.getElem_cons_succ, List.getElem_cons_zero]
              refine wpAnyH_take (i := 3) (v := ?_) rfl (by kernel_rfl) (by kernel_rfl) (by kernel_rfl) (fun _ _ _ h => h) (Or.inl ⟨by kernel_rfl, ?_⟩) (by assumption) ?_
              rotate_left
              · intro w hSw
                go_simp
                try with_reducible rfl
              simp only [Act.put, List.setIfInBounds_toArray, List.set_cons_zero, List.set_cons_succ, List.getElem_toArray, List.getElem_cons_succ, List.getElem_cons_zero]
              refine wpAnyH_take (i := 4) (v := ?_) rfl (by kernel_rfl) (by kernel_rfl) (by kernel_rfl) (fun _ _ _ h => h) (Or.inl ⟨by kernel_rfl, ?_⟩) (by assumption) ?_
              rotate_left
              · intro w hSw
                go_simp
                try with_reducible rfl
              simp only [Act.put, List.setIfInBounds_toArray, List.set_cons_zero, List.set_cons_succ, List.getElem_toArray, List.getElem_cons_succ, List.getElem_cons_zero]
              refine wpAnyH_take (i := 5) (v := ?_) rfl (by kernel_rfl) (by kernel_rfl) (by kernel_rfl) (fun _ _ _ h => h) (Or.inl ⟨by kernel_rfl, ?_⟩) (by assumption) ?_
              rotate_left
              · intro w hSw
                go_simp
                try with_reducible rfl
              simp only [Act.put, List.setIfInBounds_toArray, List.set_cons_zero, List.set_cons_succ, List.getElem_toArray, List.getElem_cons_succ, List.getElem_cons_zero]
              refine wpAnyH_ready (rs := [6, 7]) (by kernel_rfl) (by simp) ?_
              refine AllReadyH.cons rfl (fun K hK => ?_) (AllReadyH.cons rfl (fun K hK => ?_) AllReadyH.nil)
              · rw [if_pos (by kernel_rfl)]; go_simp; go_at_call 16; (with_reducible refine (HWID.out _ hHeld.2.2.2.2.2.2.2.2.2.2.2).mono ?_); rintro e w1 ⟨rfl, hb1⟩
                refine hK.out _ _ (keepE hb1 hHeld (Nat.le_refl _)) (fun hHeld2 => ?_)
                clear hK K hHeld hb1
                have hHeld := hHeld2
                clear hHeld2
                try simp only [Act.put, List.setIfInBounds_toArray, List.set_cons_zero, List.set_cons_succ, List.getElem_toArray, List.getElem_cons_succ, List.getElem_cons_zero]
                refine wpAnyH_ready (rs := [7]) (by kernel_rfl) (by simp) ?_
                refine AllReadyH.cons rfl (fun K hK => ?_) AllReadyH.nil
                have k8 := Slot3.new w1 (.int .u64 0) (.int .u64 0) (.int .u64 0) 24
                have z1 : gs < w1.heap.size := hHeld.2.2.2.2.2.2.1
                have z2 : eb < w1.heap.size := hHeld.2.2.2.2.2.2.2.2.2.2.1
                have z3 : w.heap.size ≤ w1.heap.size := hHeld.2.2.2.2.2.2.2.2.2.2.2.size
                have hal : Below w1.heap.size w1 (w1.alloc (Obj.cells #[Value.int IntKind.u64 0, Value.int IntKind.u64 0, Value.int IntKind.u64 0] 24)) := (Below.refl _ _).alloc (Nat.le_refl _) _
                go_simp
                refine hK.out _ _ (keepE hal hHeld (Nat.le_refl _)) (fun hHeld2 => ?_)
                clear hK K hHeld hal
                generalize w1.alloc (Obj.cells #[Value.int IntKind.u64 0, Value.int IntKind.u64 0, Value.int IntKind.u64 0] 24) = A1 at hHeld2 k8 ⊢
                generalize w1.heap.size = go at k8 z1 z2 z3 ⊢
                have hHeld := hHeld2
                clear hHeld2
                try simp only [Act.put, List.setIfInBounds_toArray, List.set_cons_zero, List.set_cons_succ, List.getElem_toArray, List.getElem_cons_succ, List.getElem_cons_zero]
                refine wpAnyH_ready (rs := [8]) (by kernel_rfl) (by simp) ?_
                refine AllReadyH.cons rfl (fun K hK => ?_) AllReadyH.nil
                have K8 := Lib.hid k8
                obtain ⟨e0, e1, e2, e3, e4, e5, e6⟩ := k8
                go_simp
                refine hK.out _ _ (farE hHeld (by omega) (by omega) (by omega)) (fun hHeld2 => ?_)
                have k9 := Lib.hid (K8.out.put (.int .u64 (o0 : Int)) (.int .u64 (o1 : Int)) (.int .u64 (o2 : Int)))
                clear e0 e1 e2 e3 e4 e5 e6 K8 hK K hHeld
                try simp only [Act.put, List.setIfInBounds_toArray, List.set_cons_zero, List.set_cons_succ, List.getElem_toArray, List.getElem_cons_succ, List.getElem_cons_zero]
                refine wpAnyH_done (by kernel_rfl) ?_ _
                refine NoPanic.normal ?_
                go_wp2_with fail
                go_meet
                exact ⟨go, rfl, z1, z2, z3, k9.out, hHeld2⟩
              · generalize hWW : World.drew _ = V1 at hHeld ⊢
                have k8 := Slot3.new V1 (.int .u64 0) (.int .u64 0) (.int .u64 0) 24
                have z1 : gs < V1.heap.size := hHeld.2.2.2.2.2.2.1
                have z2 : eb < V1.heap.size := hHeld.2.2.2.2.2.2.2.2.2.2.1
                have z3 : w.heap.size ≤ V1.heap.size := hHeld.2.2.2.2.2.2.2.2.2.2.2.size
                have hal : Below V1.heap.size V1 (V1.alloc (Obj.cells #[Value.int IntKind.u64 0, Value.int IntKind.u64 0, Value.int IntKind.u64 0] 24)) := (Below.refl _ _).alloc (Nat.le_refl _) _
                clear hWW
                go_simp
                refine hK.out _ _ (keepE hal hHeld (Nat.le_refl _)) (fun hHeld2 => ?_)
                clear hK K hHeld hal
                generalize V1.alloc (Obj.cells #[Value.int IntKind.u64 0, Value.int IntKind.u64 0, Value.int IntKind.u64 0] 24) = A0 at hHeld2 k8 ⊢
                generalize V1.heap.size = go at k8 z1 z2 z3 ⊢
                have hHeld := hHeld2
                clear hHeld2
                have K8 := Lib.hid k8
                clear k8
                try simp only [Act.put, List.setIfInBounds_toArray, List.set_cons_zero, List.set_cons_succ, List.getElem_toArray, List.getElem_cons_succ, List.getElem_cons_zero]
                refine wpAnyH_ready (rs := [6]) (by kernel_rfl) (by simp) ?_
                refine AllReadyH.cons rfl (fun K hK => ?_) AllReadyH.nil
                rw [if_pos (by kernel_rfl)]; go_simp; go_at_call 16; (with_reducible refine (HWID.out _ hHeld.2.2.2.2.2.2.2.2.2.2.2).mono ?_); rintro e w1 ⟨rfl, hb1⟩
                refine hK.out _ _ (keepE hb1 hHeld (Nat.le_refl _)) (fun hHeld2 => ?_)
                have k8 := K8.out.keep hb1
                clear hK K hHeld hb1 K8
                have hHeld := hHeld2
                clear hHeld2
                try simp only [Act.put, List.setIfInBounds_toArray, List.set_cons_zero, List.set_cons_succ, List.getElem_toArray, List.getElem_cons_succ, List.getElem_cons_zero]
                refine wpAnyH_ready (rs := [8]) (by kernel_rfl) (by simp) ?_
                refine AllReadyH.cons rfl (fun K hK => ?_) AllReadyH.nil
                have K8 := Lib.hid k8
                obtain ⟨e0, e1, e2, e3, e4, e5, e6⟩ := k8
                go_simp
                refine hK.out _ _ (farE hHeld (by omega) (by omega) (by omega)) (fun hHeld2 => ?_)
                have k9 := Lib.hid (K8.out.put (.int .u64 (o0 : Int)) (.int .u64 (o1 : Int)) (.int .u64 (o2 : Int)))
                clear e0 e1 e2 e3 e4 e5 e6 K8 hK K hHeld
                try simp only [Act.put, List.setIfInBounds_toArray, List.set_cons_zero, List.set_cons_succ, List.getElem_toArray, List.getElem_cons_succ, List.getElem_cons_zero]
                refine wpAnyH_done (by kernel_rfl) ?_ _
                refine NoPanic.normal ?_
                go_wp2_with fail
                go_meet
                exact ⟨go, rfl, z1, z2, z3, k9.out, hHeld2⟩
            case rest =>
              obtain ⟨go, rfl, z1, z2, z3, k8, hS⟩ := hcut
              clear HS s0 s1 s2 s3 s4 s5 s6 t0 t1 t2 t3 hg HWID
              have HS := Lib.hid (mkE2 k8 hS)
              clear hS k8
              obtain ⟨p0, p1, p2, p3, p4, p5, p6, s0, s1, s2, s3, s4, s5, s6, t0, t1, t2, t3, hg⟩ := HS.out
              go_upto_region 10 with fail
              go_cut [75] from 14 to 90 (fun c W => c = .bool false ∧ W.cell? ⟨go, 0, none⟩ = some (.int .u64 (o0 : Int)) ∧ W.cell? ⟨go, 1, none⟩ = some (.int .u64 (o1 : Int)) ∧ W.cell? ⟨go, 2, none⟩ = some (.int .u64 (o2 : Int)) ∧ W.frozen? ⟨go, 0, none⟩ = false ∧ W.frozen? ⟨go, 1, none⟩ = false ∧ W.frozen? ⟨go, 2, none⟩ = false ∧ go < W.heap.size ∧ W.cell? ⟨gs, 0, none⟩ = some (.int .u64 (a0 : Int)) ∧ W.cell? ⟨gs, 1, none⟩ = some (.int .u64 (a1 : Int)) ∧ W.cell? ⟨gs, 2, none⟩ = some (.int .u64 (a2 : Int)) ∧ W.frozen? ⟨gs, 0, none⟩ = false ∧ W.frozen? ⟨gs, 1, none⟩ = false ∧ W.frozen? ⟨gs, 2, none⟩ = false ∧ gs < W.heap.size ∧ W.cell? ⟨eb, ei, none⟩ = some (.int .u64 (v0 : Int)) ∧ W.cell? ⟨eb, ei + 1, none⟩ = some (.int .u64 (v1 : Int)) ∧ W.cell? ⟨eb, ei + 2, none⟩ = some (.int .u64 (v2 : Int)) ∧ eb < W.heap.size ∧ Below w.heap.size w W)
              case first =>
                by_cases hoz : (⟨o0, o1, o2⟩ : St) = noneS
                · have q8 := eq3_none o0 o1 o2 hoz
                  go_wp2
                  refine wp_region_noPanic ?_
                  refine wp_region_held_drew (S := fun W => W.cell? ⟨go, 0, none⟩ = some (.int .u64 (o0 : Int)) ∧ W.cell? ⟨go, 1, none⟩ = some (.int .u64 (o1 : Int)) ∧ W.cell? ⟨go, 2, none⟩ = some (.int .u64 (o2 : Int)) ∧ W.frozen? ⟨go, 0, none⟩ = false ∧ W.frozen? ⟨go, 1, none⟩ = false ∧ W.frozen? ⟨go, 2, none⟩ = false ∧ go < W.heap.size ∧ W.cell? ⟨gs, 0, none⟩ = some (.int .u64 (a0 : Int)) ∧ W.cell? ⟨gs, 1, none⟩ = some (.int .u64 (a1 : Int)) ∧ W.cell? ⟨gs, 2, none⟩ = some (.int .u64 (a2 : Int)) ∧ W.frozen? ⟨gs, 0, none⟩ = false ∧ W.frozen? ⟨gs, 1, none⟩ = false ∧ W.frozen? ⟨gs, 2, none⟩ = false ∧ gs < W.heap.size ∧ W.cell? ⟨eb, ei, none⟩ = some (.int .u64 (v0 : Int)) ∧ W.cell? ⟨eb, ei + 1, none⟩ = some (.int .u64 (v1 : Int)) ∧ W.cell? ⟨eb, ei + 2, none⟩ = some (.int .u64 (v2 : Int)) ∧ eb < W.heap.size ∧ Below w.heap.size w W) (by kernel_rfl) ?_ (fun hHeld => ?_)
                  · (first | (with_reducible assumption) | (with_reducible exact drewE2 HS.out (Nat.le_refl _)) | (with_reducible exact keepE2 (by assumption) (by assumption) (Nat.le_refl _)) | fail)
                  refine wpAnyH_take (i := 0) (v := ?_) rfl (by kernel_rfl) (by kernel_rfl) (by kernel_rfl) (fun _ _ _ h => h) (Or.inl ⟨by kernel_rfl, ?_⟩) (by assumption) ?_
                  rotate_left
                  · intro w hSw
                    go_simp
                    try with_reducible rfl
                  simp only [Act.put, List.setIfInBounds_toArray, List.set_cons_zero, List.set_cons_succ, List.getElem_toArray, List.getElem_cons_succ, List.getElem_cons_zero]
                  refine wpAnyH_take (i := 1) (v := ?_) rfl (by kernel_rfl) (by kernel_rfl) (by kernel_rfl) (fun _ _ _ h => h) (Or.inl ⟨by kernel_rfl, ?_⟩) (by assumption) ?_
                  rotate_left
                  · intro w hSw
                    go_simp
                    try with_reducible rfl
                  simp only [Act.put, List.setIfInBounds_toArray, List.set_cons_zero, List.set_cons_succ, List.getElem_toArray, List.getElem_cons_succ, List.getElem_cons_zero]
                  refine wpAnyH_ready (rs := [2]) (by kernel_rfl) (by simp) ?_
                  refine AllReadyH.cons rfl (fun K hK => ?_) AllReadyH.nil
                  rw [if_pos (by kernel_rfl)]; go_simp; go_at_call 17; (with_reducible refine (HIA.out _ hHeld.2.2.2.2.2.2.2.2.2.2.2.2.2.2.2.2.2.2).mono ?_); rintro e w1 ⟨rfl, hb1⟩
                  refine hK.out _ _ ?_ (fun hHeld => ?_)
                  · (first | (with_reducible assumption) | (with_reducible exact drewE2 HS.out (Nat.le_refl _)) | (with_reducible exact keepE2 (by assumption) (by assumption) (Nat.le_refl _)) | fail)
                  clear hK K
                  try simp only [Act.put, List.setIfInBounds_toArray, List.set_cons_zero, List.set_cons_succ, List.getElem_toArray, List.getElem_cons_succ, List.getElem_cons_zero]
                  refine wpAnyH_take (i := 3) (v := ?_) rfl (by kernel_rfl) (by kernel_rfl) (by kernel_rfl) (fun _ _ _ h => h) (Or.inl ⟨by kernel_rfl, ?_⟩) (by assumption) ?_
                  rotate_left
                  · intro w hSw
                    go_simp
                    try with_reducible rfl
                  simp only [Act.put, List.setIfInBounds_toArray, List.set_cons_zero, List.set_cons_succ, List.getElem_toArray, List.getElem_cons_succ, List.getElem_cons_zero]
                  refine wpAnyH_take (i := 4) (v := ?_) rfl (by kernel_rfl) (by kernel_rfl) (by kernel_rfl) (fun _ _ _ h => h) (Or.inl ⟨by kernel_rfl, ?_⟩) (by assumption) ?_
                  rotate_left
                  · intro w hSw
                    go_simp
                    try with_reducible rfl
                  simp only [Act.put, List.setIfInBounds_toArray, List.set_cons_zero, List.set_cons_succ, List.getElem_toArray, List.getElem_cons_succ, List.getElem_cons_zero]
                  refine wpAnyH_take (i := 5) (v := ?_) rfl (by kernel_rfl) (by kernel_rfl) (by kernel_rfl) (fun _ _ _ h => h) (Or.inl ⟨by kernel_rfl, ?_⟩) (by assumption) ?_
                  rotate_left
                  · intro w hSw
                    go_simp
                    try with_reducible rfl
                  simp only [Act.put, List.setIfInBounds_toArray, List.set_cons_zero, List.set_cons_succ, List.getElem_toArray, List.getElem_cons_succ, List.getElem_cons_zero]
                  refine wpAnyH_take (i := 6) (v := ?_) rfl (by kernel_rfl) (by kernel_rfl) (by kernel_rfl) (fun _ _ _ h => h) (Or.inl ⟨by kernel_rfl, ?_⟩) (by assumption) ?_
                  rotate_left
                  · intro w hSw
                    go_simp
                    try with_reducible rfl
                  simp only [Act.put, List.setIfInBounds_toArray, List.set_cons_zero, List.set_cons_succ, List.getElem_toArray, List.getElem_cons_succ, List.getElem_cons_zero]
                  refine wpAnyH_take (i := 7) (v := ?_) rfl (by kernel_rfl) (by kernel_rfl) (by kernel_rfl) (fun _ _ _ h => h) (Or.inl ⟨by kernel_rfl, ?_⟩) (by assumption) ?_
                  rotate_left
                  · intro w hSw
                    go_simp
                    try with_reducible rfl
                  simp only [Act.put, List.setIfInBounds_toArray, List.set_cons_zero, List.set_cons_succ, List.getElem_toArray, List.getElem_cons_succ, List.getElem_cons_zero]
                  refine wpAnyH_take (i := 8) (v := ?_) rfl (by kernel_rfl) (by kernel_rfl) (by kernel_rfl) (fun _ _ _ h => h) (Or.inl ⟨by kernel_rfl, ?_⟩) (by assumption) ?_
                  rotate_left
                  · intro w hSw
                    go_simp
                    try with_reducible rfl
                  simp only [Act.put, List.setIfInBounds_toArray, List.set_cons_zero, List.set_cons_succ, List.getElem_toArray, List.getElem_cons_succ, List.getElem_cons_zero]
                  refine wpAnyH_take (i := 9) (v := ?_) rfl (by kernel_rfl) (by kernel_rfl) (by kernel_rfl) (fun _ _ _ h => h) (Or.inl ⟨by kernel_rfl, ?_⟩) (by assumption) ?_
                  rotate_left
                  · intro w hSw
                    go_simp
                    try with_reducible rfl
                  simp only [Act.put, List.setIfInBounds_toArray, List.set_cons_zero, List.set_cons_succ, List.getElem_toArray, List.getElem_cons_succ, List.getElem_cons_zero]
                  refine wpAnyH_ready (rs := [10]) (by kernel_rfl) (by simp) ?_
                  refine AllReadyH.cons rfl (fun K hK => ?_) AllReadyH.nil
                  rw [if_pos (by kernel_rfl)]; go_simp; go_at_call 17; (with_reducible refine (HIB.out _ hHeld.2.2.2.2.2.2.2.2.2.2.2.2.2.2.2.2.2.2).mono ?_); rintro e w1 ⟨rfl, hb1⟩
                  refine hK.out _ _ ?_ (fun hHeld => ?_)
                  · (first | (with_reducible assumption) | (with_reducible exact drewE2 HS.out (Nat.le_refl _)) | (with_reducible exact keepE2 (by assumption) (by assumption) (Nat.le_refl _)) | fail)
                  clear hK K
                  try simp only [Act.put, List.setIfInBounds_toArray, List.set_cons_zero, List.set_cons_succ, List.getElem_toArray, List.getElem_cons_succ, List.getElem_cons_zero]
                  refine wpAnyH_take (i := 11) (v := ?_) rfl (by kernel_rfl) (by kernel_rfl) (by kernel_rfl) (fun _ _ _ h => h) (Or.inl ⟨by kernel_rfl, ?_⟩) (by assumption) ?_
                  rotate_left
                  · intro w hSw
                    go_simp
                    try with_reducible rfl
                  simp only [Act.put, List.setIfInBounds_toArray, List.set_cons_zero, List.set_cons_succ, List.getElem_toArray, List.getElem_cons_succ, List.getElem_cons_zero]
                  refine wpAnyH_take (i := 12) (v := ?_) rfl (by kernel_rfl) (by kernel_rfl) (by kernel_rfl) (fun _ _ _ h => h) (Or.inl ⟨by kernel_rfl, ?_⟩) (by assumption) ?_
                  rotate_left
                  · intro w hSw
                    go_simp
                    try with_reducible rfl
                  simp only [Act.put, List.setIfInBounds_toArray, List.set_cons_zero, List.set_cons_succ, List.getElem_toArray, List.getElem_cons_succ, List.getElem_cons_zero]
                  refine wpAnyH_take (i := 13) (v := ?_) rfl (by kernel_rfl) (by kernel_rfl) (by kernel_rfl) (fun _ _ _ h => h) (Or.inl ⟨by kernel_rfl, ?_⟩) (by assumption) ?_
                  rotate_left
                  · intro w hSw
                    go_simp
                    try with_reducible rfl
                  simp only [Act.put, List.setIfInBounds_toArray, List.set_cons_zero, List.set_cons_succ, List.getElem_toArray, List.getElem_cons_succ, List.getElem_cons_zero]
                  refine wpAnyH_take (i := 14) (v := ?_) rfl (by kernel_rfl) (by kernel_rfl) (by kernel_rfl) (fun _ _ _ h => h) (Or.inl ⟨by kernel_rfl, ?_⟩) (by assumption) ?_
                  rotate_left
                  · intro w hSw
                    go_simp
                    try with_reducible rfl
                  simp only [Act.put, List.setIfInBounds_toArray, List.set_cons_zero, List.set_cons_succ, List.getElem_toArray, List.getElem_cons_succ, List.getElem_cons_zero]
                  refine wpAnyH_ready (rs := [15]) (by kernel_rfl) (by simp) ?_
                  refine AllReadyH.cons rfl (fun K hK => ?_) AllReadyH.nil
                  rw [if_pos (by kernel_rfl)]; go_simp; go_at_call 14; (with_reducible refine (HN.out _ hHeld.2.2.2.2.2.2.2.2.2.2.2.2.2.2.2.2.2.2).mono ?_); rintro e w1 ⟨rfl, hb1⟩
                  refine hK.out _ _ ?_ (fun hHeld => ?_)
                  · (first | (with_reducible assumption) | (with_reducible exact drewE2 HS.out (Nat.le_refl _)) | (with_reducible exact keepE2 (by assumption) (by assumption) (Nat.le_refl _)) | fail)
                  clear hK K
                  try simp only [Act.put, List.setIfInBounds_toArray, List.set_cons_zero, List.set_cons_succ, List.getElem_toArray, List.getElem_cons_succ, List.getElem_cons_zero]
                  refine wpAnyH_take (i := 16) (v := ?_) rfl (by kernel_rfl) (by kernel_rfl) (by kernel_rfl) (fun _ _ _ h => h) (Or.inl ⟨by kernel_rfl, ?_⟩) (by assumption) ?_
                  rotate_left
                  · intro w hSw
                    go_simp
                    try with_reducible rfl
                  simp only [Act.put, List.setIfInBounds_toArray, List.set_cons_zero, List.set_cons_succ, List.getElem_toArray, List.getElem_cons_succ, List.getElem_cons_zero]
                  refine wpAnyH_take (i := 17) (v := ?_) rfl (by kernel_rfl) (by kernel_rfl) (by kernel_rfl) (fun _ _ _ h => h) (Or.inl ⟨by kernel_rfl, ?_⟩) (by assumption) ?_
                  rotate_left
                  · intro w hSw
                    go_simp
                    try with_reducible rfl
                  simp only [Act.put, List.setIfInBounds_toArray, List.set_cons_zero, List.set_cons_succ, List.getElem_toArray, List.getElem_cons_succ, List.getElem_cons_zero]
                  refine wpAnyH_take (i := 18) (v := undef) rfl (by kernel_rfl) (by kernel_rfl) (by kernel_rfl) (fun _ _ _ h => h) (Or.inr ⟨by kernel_rfl, rfl⟩) (by assumption) ?_
                  simp only [Act.put, List.setIfInBounds_toArray, List.set_cons_zero, List.set_cons_succ, List.getElem_toArray, List.getElem_cons_succ, List.getElem_cons_zero]
                  refine wpAnyH_take (i := 19) (v := undef) rfl (by kernel_rfl) (by kernel_rfl) (by kernel_rfl) (fun _ _ _ h => h) (Or.inr ⟨by kernel_rfl, rfl⟩) (by assumption) ?_
                  simp only [Act.put, List.setIfInBounds_toArray, List.set_cons_zero, List.set_cons_succ, List.getElem_toArray, List.getElem_cons_succ, List.getElem_cons_zero]
                  refine wpAnyH_take (i := 20) (v := undef) rfl (by kernel_rfl) (by kernel_rfl) (by kernel_rfl) (fun _ _ _ h => h) (Or.inr ⟨by kernel_rfl, rfl⟩) (by assumption) ?_
                  simp only [Act.put, List.setIfInBounds_toArray, List.set_cons_zero, List.set_cons_succ, List.getElem_toArray, List.getElem_cons_succ, List.getElem_cons_zero]
                  refine wpAnyH_take (i := 21) (v := undef) rfl (by kernel_rfl) (by kernel_rfl) (by kernel_rfl) (fun _ _ _ h => h) (Or.inr ⟨by kernel_rfl, rfl⟩) (by assumption) ?_
                  simp only [Act.put, List.setIfInBounds_toArray, List.set_cons_zero, List.set_cons_succ, List.getElem_toArray, List.getElem_cons_succ, List.getElem_cons_zero]
                  refine wpAnyH_take (i := 22) (v := undef) rfl (by kernel_rfl) (by kernel_rfl) (by kernel_rfl) (fun _ _ _ h => h) (Or.inr ⟨by kernel_rfl, rfl⟩) (by assumption) ?_
                  simp only [Act.put, List.setIfInBounds_toArray, List.set_cons_zero, List.set_cons_succ, List.getElem_toArray, List.getElem_cons_succ, List.getElem_cons_zero]
                  refine wpAnyH_take (i := 23) (v := ?_) rfl (by kernel_rfl) (by kernel_rfl) (by kernel_rfl) (fun _ _ _ h => h) (Or.inl ⟨by kernel_rfl, ?_⟩) (by assumption) ?_
                  rotate_left
                  · intro w hSw
                    go_simp
                    try with_reducible rfl
                  simp only [Act.put, List.setIfInBounds_toArray, List.set_cons_zero, List.set_cons_succ, List.getElem_toArray, List.getElem_cons_succ, List.getElem_cons_zero]
                  refine wpAnyH_take (i := 24) (v := ?_) rfl (by kernel_rfl) (by kernel_rfl) (by kernel_rfl) (fun _ _ _ h => h) (Or.inl ⟨by kernel_rfl, ?_⟩) (by assumption) ?_
                  rotate_left
                  · intro w hSw
                    go_simp
                    try with_reducible rfl
                  simp only [Act.put, List.setIfInBounds_toArray, List.set_cons_zero, List.set_cons_succ, List.getElem_toArray, List.getElem_cons_succ, List.getElem_cons_zero]
                  refine wpAnyH_done (by kernel_rfl) ?_ _
                  refine NoPanic.normal ?_
                  go_wp2_with fail
                  go_meet
                  exact ⟨rfl, hHeld⟩
                · have q8 := eq3_some o0 o1 o2 hoz
                  have hle : ¬ mN wd < o2 := by have := hfo.resolve_left hoz; omega
                  go_wp2
                  refine wp_region_noPanic ?_
                  refine wp_region_held_drew (S := fun W => W.cell? ⟨go, 0, none⟩ = some (.int .u64 (o0 : Int)) ∧ W.cell? ⟨go, 1, none⟩ = some (.int .u64 (o1 : Int)) ∧ W.cell? ⟨go, 2, none⟩ = some (.int .u64 (o2 : Int)) ∧ W.frozen? ⟨go, 0, none⟩ = false ∧ W.frozen? ⟨go, 1, none⟩ = false ∧ W.frozen? ⟨go, 2, none⟩ = false ∧ go < W.heap.size ∧ W.cell? ⟨gs, 0, none⟩ = some (.int .u64 (a0 : Int)) ∧ W.cell? ⟨gs, 1, none⟩ = some (.int .u64 (a1 : Int)) ∧ W.cell? ⟨gs, 2, none⟩ = some (.int .u64 (a2 : Int)) ∧ W.frozen? ⟨gs, 0, none⟩ = false ∧ W.frozen? ⟨gs, 1, none⟩ = false ∧ W.frozen? ⟨gs, 2, none⟩ = false ∧ gs < W.heap.size ∧ W.cell? ⟨eb, ei, none⟩ = some (.int .u64 (v0 : Int)) ∧ W.cell? ⟨eb, ei + 1, none⟩ = some (.int .u64 (v1 : Int)) ∧ W.cell? ⟨eb, ei + 2, none⟩ = some (.int .u64 (v2 : Int)) ∧ eb < W.heap.size ∧ Below w.heap.size w W) (by kernel_rfl) ?_ (fun hHeld => ?_)
                  · (first | (with_reducible assumption) | (with_reducible exact drewE2 HS.out (Nat.le_refl _)) | (with_reducible exact keepE2 (by assumption) (by assumption) (Nat.le_refl _)) | fail)
                  refine wpAnyH_take (i := 0) (v := ?_) rfl (by kernel_rfl) (by kernel_rfl) (by kernel_rfl) (fun _ _ _ h => h) (Or.inl ⟨by kernel_rfl, ?_⟩) (by assumption) ?_
                  rotate_left
                  · intro w hSw
                    go_simp
                    try with_reducible rfl
                  simp only [Act.put, List.setIfInBounds_toArray, List.set_cons_zero, List.set_cons_succ, List.getElem_toArray, List.getElem_cons_succ, List.getElem_cons_zero]
                  refine wpAnyH_take (i := 1) (v := ?_) rfl (by kernel_rfl) (by kernel_rfl) (by kernel_rfl) (fun _ _ _ h => h) (Or.inl ⟨by kernel_rfl, ?_⟩) (by assumption) ?_
                  rotate_left
                  · intro w hSw
                    go_simp
                    try with_reducible rfl
                  simp only [Act.put, List.setIfInBounds_toArray, List.set_cons_zero, List.set_cons_succ, List.getElem_toArray, List.getElem_cons_succ, List.getElem_cons_zero]
                  refine wpAnyH_ready (rs := [2]) (by kernel_rfl) (by simp) ?_
                  refine AllReadyH.cons rfl (fun K hK => ?_) AllReadyH.nil
                  rw [if_pos (by kernel_rfl)]; go_simp; go_at_call 17; (with_reducible refine (HIA.out _ hHeld.2.2.2.2.2.2.2.2.2.2.2.2.2.2.2.2.2.2).mono ?_); rintro e w1 ⟨rfl, hb1⟩
                  refine hK.out _ _ ?_ (fun hHeld => ?_)
                  · (first | (with_reducible assumption) | (with_reducible exact drewE2 HS.out (Nat.le_refl _)) | (with_reducible exact keepE2 (by assumption) (by assumption) (Nat.le_refl _)) | fail)
                  clear hK K
                  try simp only [Act.put, List.setIfInBounds_toArray, List.set_cons_zero, List.set_cons_succ, List.getElem_toArray, List.getElem_cons_succ, List.getElem_cons_zero]
                  refine wpAnyH_take (i := 3) (v := ?_) rfl (by kernel_rfl) (by kernel_rfl) (by kernel_rfl) (fun _ _ _ h => h) (Or.inl ⟨by kernel_rfl, ?_⟩) (by assumption) ?_
                  rotate_left
                  · intro w hSw
                    go_simp
                    try with_reducible rfl
                  simp only [Act.put, List.setIfInBounds_toArray, List.set_cons_zero, List.set_cons_succ, List.getElem_toArray, List.getElem_cons_succ, List.getElem_cons_zero]
                  refine wpAnyH_take (i := 4) (v := ?_) rfl (by kernel_rfl) (by kernel_rfl) (by kernel_rfl) (fun _ _ _ h => h) (Or.inl ⟨by kernel_rfl, ?_⟩) (by assumption) ?_
                  rotate_left
                  · intro w hSw
                    go_simp
                    try with_reducible rfl
                  simp only [Act.put, List.setIfInBounds_toArray, List.set_cons_zero, List.set_cons_succ, List.getElem_toArray, List.getElem_cons_succ, List.getElem_cons_zero]
                  refine wpAnyH_take (i := 5) (v := ?_) rfl (by kernel_rfl) (by kernel_rfl) (by kernel_rfl) (fun _ _ _ h => h) (Or.inl ⟨by kernel_rfl, ?_⟩) (by assumption) ?_
                  rotate_left
                  · intro w hSw
                    go_simp
                    try with_reducible rfl
                  simp only [Act.put, List.setIfInBounds_toArray, List.set_cons_zero, List.set_cons_succ, List.getElem_toArray, List.getElem_cons_succ, List.getElem_cons_zero]
                  refine wpAnyH_take (i := 6) (v := ?_) rfl (by kernel_rfl) (by kernel_rfl) (by kernel_rfl) (fun _ _ _ h => h) (Or.inl ⟨by kernel_rfl, ?_⟩) (by assumption) ?_
                  rotate_left
                  · intro w hSw
                    go_simp
                    try with_reducible rfl
                  simp only [Act.put, List.setIfInBounds_toArray, List.set_cons_zero, List.set_cons_succ, List.getElem_toArray, List.getElem_cons_succ, List.getElem_cons_zero]
                  refine wpAnyH_take (i := 7) (v := ?_) rfl (by kernel_rfl) (by kernel_rfl) (by kernel_rfl) (fun _ _ _ h => h) (Or.inl ⟨by kernel_rfl, ?_⟩) (by assumption) ?_
                  rotate_left
                  · intro w hSw
                    go_simp
                    try with_reducible rfl
                  simp only [Act.put, List.setIfInBounds_toArray, List.set_cons_zero, List.set_cons_succ, List.getElem_toArray, List.getElem_cons_succ, List.getElem_cons_zero]
                  refine wpAnyH_take (i := 8) (v := ?_) rfl (by kernel_rfl) (by kernel_rfl) (by kernel_rfl) (fun _ _ _ h => h) (Or.inl ⟨by kernel_rfl, ?_⟩) (by assumption) ?_
                  rotate_left
                  · intro w hSw
                    go_simp
                    try with_reducible rfl
                  simp only [Act.put, List.setIfInBounds_toArray, List.set_cons_zero, List.set_cons_succ, List.getElem_toArray, List.getElem_cons_succ, List.getElem_cons_zero]
                  refine wpAnyH_take (i := 9) (v := ?_) rfl (by kernel_rfl) (by kernel_rfl) (by kernel_rfl) (fun _ _ _ h => h) (Or.inl ⟨by kernel_rfl, ?_⟩) (by assumption) ?_
                  rotate_left
                  · intro w hSw
                    go_simp
                    try with_reducible rfl
                  simp only [Act.put, List.setIfInBounds_toArray, List.set_cons_zero, List.set_cons_succ, List.getElem_toArray, List.getElem_cons_succ, List.getElem_cons_zero]
                  refine wpAnyH_ready (rs := [10]) (by kernel_rfl) (by simp) ?_
                  refine AllReadyH.cons rfl (fun K hK => ?_) AllReadyH.nil
                  rw [if_pos (by kernel_rfl)]; go_simp; go_at_call 17; (with_reducible refine (HIB.out _ hHeld.2.2.2.2.2.2.2.2.2.2.2.2.2.2.2.2.2.2).mono ?_); rintro e w1 ⟨rfl, hb1⟩
                  refine hK.out _ _ ?_ (fun hHeld => ?_)
                  · (first | (with_reducible assumption) | (with_reducible exact drewE2 HS.out (Nat.le_refl _)) | (with_reducible exact keepE2 (by assumption) (by assumption) (Nat.le_refl _)) | fail)
                  clear hK K
                  try simp only [Act.put, List.setIfInBounds_toArray, List.set_cons_zero, List.set_cons_succ, List.getElem_toArray, List.getElem_cons_succ, List.getElem_cons_zero]
                  refine wpAnyH_take (i := 11) (v := ?_) rfl (by kernel_rfl) (by kernel_rfl) (by kernel_rfl) (fun _ _ _ h => h) (Or.inl ⟨by kernel_rfl, ?_⟩) (by assumption) ?_
                  rotate_left
                  · intro w hSw
                    go_simp
                    try with_reducible rfl
                  simp only [Act.put, List.setIfInBounds_toArray, List.set_cons_zero, List.set_cons_succ, List.getElem_toArray, List.getElem_cons_succ, List.getElem_cons_zero]
                  refine wpAnyH_take (i := 12) (v := ?_) rfl (by kernel_rfl) (by kernel_rfl) (by kernel_rfl) (fun _ _ _ h => h) (Or.inl ⟨by kernel_rfl, ?_⟩) (by assumption) ?_
                  rotate_left
                  · intro w hSw
                    go_simp
                    try with_reducible rfl
                  simp only [Act.put, List.setIfInBounds_toArray, List.set_cons_zero, List.set_cons_succ, List.getElem_toArray, List.getElem_cons_succ, List.getElem_cons_zero]
                  refine wpAnyH_take (i := 13) (v := ?_) rfl (by kernel_rfl) (by kernel_rfl) (by kernel_rfl) (fun _ _ _ h => h) (Or.inl ⟨by kernel_rfl, ?_⟩) (by assumption) ?_
                  rotate_left
                  · intro w hSw
                    go_simp
                    try with_reducible rfl
                  simp only [Act.put, List.setIfInBounds_toArray, List.set_cons_zero, List.set_cons_succ, List.getElem_toArray, List.getElem_cons_succ, List.getElem_cons_zero]
                  refine wpAnyH_take (i := 14) (v := ?_) rfl (by kernel_rfl) (by kernel_rfl) (by kernel_rfl) (fun _ _ _ h => h) (Or.inl ⟨by kernel_rfl, ?_⟩) (by assumption) ?_
                  rotate_left
                  · intro w hSw
                    go_simp
                    try with_reducible rfl
                  simp only [Act.put, List.setIfInBounds_toArray, List.set_cons_zero, List.set_cons_succ, List.getElem_toArray, List.getElem_cons_succ, List.getElem_cons_zero]
                  refine wpAnyH_ready (rs := [15]) (by kernel_rfl) (by simp) ?_
                  refine AllReadyH.cons rfl (fun K hK => ?_) AllReadyH.nil
                  rw [if_pos (by kernel_rfl)]; go_simp; go_at_call 14; (with_reducible refine (HN.out _ hHeld.2.2.2.2.2.2.2.2.2.2.2.2.2.2.2.2.2.2).mono ?_); rintro e w1 ⟨rfl, hb1⟩
                  refine hK.out _ _ ?_ (fun hHeld => ?_)
                  · (first | (with_reducible assumption) | (with_reducible exact drewE2 HS.out (Nat.le_refl _)) | (with_reducible exact keepE2 (by assumption) (by assumption) (Nat.le_refl _)) | fail)
                  clear hK K
                  try simp only [Act.put, List.setIfInBounds_toArray, List.set_cons_zero, List.set_cons_succ, List.getElem_toArray, List.getElem_cons_succ, List.getElem_cons_zero]
                  refine wpAnyH_take (i := 16) (v := ?_) rfl (by kernel_rfl) (by kernel_rfl) (by kernel_rfl) (fun _ _ _ h => h) (Or.inl ⟨by kernel_rfl, ?_⟩) (by assumption) ?_
                  rotate_left
                  · intro w hSw
                    go_simp
                    try with_reducible rfl
                  simp only [Act.put, List.setIfInBounds_toArray, List.set_cons_zero, List.set_cons_succ, List.getElem_toArray, List.getElem_cons_succ, List.getElem_cons_zero]
                  refine wpAnyH_take (i := 17) (v := ?_) rfl (by kernel_rfl) (by kernel_rfl) (by kernel_rfl) (fun _ _ _ h => h) (Or.inl ⟨by kernel_rfl, ?_⟩) (by assumption) ?_
                  rotate_left
                  · intro w hSw
                    go_simp
                    try with_reducible rfl
                  simp only [Act.put, List.setIfInBounds_toArray, List.set_cons_zero, List.set_cons_succ, List.getElem_toArray, List.getElem_cons_succ, List.getElem_cons_zero]
                  refine wpAnyH_take (i := 18) (v := ?_) rfl (by kernel_rfl) (by kernel_rfl) (by kernel_rfl) (fun _ _ _ h => h) (Or.inl ⟨by kernel_rfl, ?_⟩) (by assumption) ?_
                  rotate_left
                  · intro w hSw
                    go_simp
                    try with_reducible rfl
                  simp only [Act.put, List.setIfInBounds_toArray, List.set_cons_zero, List.set_cons_succ, List.getElem_toArray, List.getElem_cons_succ, List.getElem_cons_zero]
                  refine wpAnyH_take (i := 19) (v := ?_) rfl (by kernel_rfl) (by kernel_rfl) (by kernel_rfl) (fun _ _ _ h => h) (Or.inl ⟨by kernel_rfl, ?_⟩) (by assumption) ?_
                  rotate_left
                  · intro w hSw
                    go_simp
                    try with_reducible rfl
                  simp only [Act.put, List.setIfInBounds_toArray, List.set_cons_zero, List.set_cons_succ, List.getElem_toArray, List.getElem_cons_succ, List.getElem_cons_zero]
                  refine wpAnyH_take (i := 20) (v := ?_) rfl (by kernel_rfl) (by kernel_rfl) (by kernel_rfl) (fun _ _ _ h => h) (Or.inl ⟨by kernel_rfl, ?_⟩) (by assumption) ?_
                  rotate_left
                  · intro w hSw
                    go_simp
                    try with_reducible rfl
                  simp only [Act.put, List.setIfInBounds_toArray, List.set_cons_zero, List.set_cons_succ, List.getElem_toArray, List.getElem_cons_succ, List.getElem_cons_zero]
                  refine wpAnyH_ready (rs := [21]) (by kernel_rfl) (by simp) ?_
                  refine AllReadyH.cons rfl (fun K hK => ?_) AllReadyH.nil
                  rw [if_pos (by kernel_rfl)]; go_simp; go_at_call 15; (with_reducible refine (HK.out _ hHeld.2.2.2.2.2.2.2.2.2.2.2.2.2.2.2.2.2.2).mono ?_); rintro e w1 ⟨rfl, hb1⟩
                  refine hK.out _ _ ?_ (fun hHeld => ?_)
                  · (first | (with_reducible assumption) | (with_reducible exact drewE2 HS.out (Nat.le_refl _)) | (with_reducible exact keepE2 (by assumption) (by assumption) (Nat.le_refl _)) | fail)
                  clear hK K
                  try simp only [Act.put, List.setIfInBounds_toArray, List.set_cons_zero, List.set_cons_succ, List.getElem_toArray, List.getElem_cons_succ, List.getElem_cons_zero]
                  refine wpAnyH_take (i := 22) (v := ?_) rfl (by kernel_rfl) (by kernel_rfl) (by kernel_rfl) (fun _ _ _ h => h) (Or.inl ⟨by kernel_rfl, ?_⟩) (by assumption) ?_
                  rotate_left
                  · intro w hSw
                    go_simp
                    try with_reducible rfl
                  simp only [Act.put, List.setIfInBounds_toArray, List.set_cons_zero, List.set_cons_succ, List.getElem_toArray, List.getElem_cons_succ, List.getElem_cons_zero]
                  refine wpAnyH_take (i := 23) (v := ?_) rfl (by kernel_rfl) (by kernel_rfl) (by kernel_rfl) (fun _ _ _ h => h) (Or.inl ⟨by kernel_rfl, ?_⟩) (by assumption) ?_
                  rotate_left
                  · intro w hSw
                    go_simp
                    try with_reducible rfl
                  simp only [Act.put, List.setIfInBounds_toArray, List.set_cons_zero, List.set_cons_succ, List.getElem_toArray, List.getElem_cons_succ, List.getElem_cons_zero]
                  refine wpAnyH_take (i := 24) (v := ?_) rfl (by kernel_rfl) (by kernel_rfl) (by kernel_rfl) (fun _ _ _ h => h) (Or.inl ⟨by kernel_rfl, ?_⟩) (by assumption) ?_
                  rotate_left
                  · intro w hSw
                    go_simp
                    try with_reducible rfl
                  simp only [Act.put, List.setIfInBounds_toArray, List.set_cons_zero, List.set_cons_succ, List.getElem_toArray, List.getElem_cons_succ, List.getElem_cons_zero]
                  refine wpAnyH_done (by kernel_rfl) ?_ _
                  refine NoPanic.normal ?_
                  go_wp2_with fail
                  go_meet
                  exact ⟨rfl, hHeld⟩
              case rest =>
                obtain ⟨rfl, hS⟩ := hcut
                clear HS p0 p1 p2 p3 p4 p5 p6 s0 s1 s2 s3 s4 s5 s6 t0 t1 t2 t3 hg HIA HIB
                have HS := Lib.hid hS
                clear hS
                obtain ⟨p0, p1, p2, p3, p4, p5, p6, s0, s1, s2, s3, s4, s5, s6, t0, t1, t2, t3, hg⟩ := HS.out
                by_cases hoa : (⟨o0, o1, o2⟩ : St) = ⟨a0, a1, a2⟩
                · have q9 : eq3 o0 o1 o2 a0 a1 a2 = true := by simp only [St.mk.injEq] at hoa; obtain ⟨rfl, rfl, rfl⟩ := hoa; exact eq3_self _ _ _
                  have HOA := Lib.hid hoa
                  clear hoa
                  have q7 := eq3_self o0 o1 o2
                  go_wp2
                  refine wp_region_noPanic ?_
                  refine wp_region_held_drew (S := fun W => W.cell? ⟨go, 0, none⟩ = some (.int .u64 (o0 : Int)) ∧ W.cell? ⟨go, 1, none⟩ = some (.int .u64 (o1 : Int)) ∧ W.cell? ⟨go, 2, none⟩ = some (.int .u64 (o2 : Int)) ∧ W.frozen? ⟨go, 0, none⟩ = false ∧ W.frozen? ⟨go, 1, none⟩ = false ∧ W.frozen? ⟨go, 2, none⟩ = false ∧ go < W.heap.size ∧ W.cell? ⟨gs, 0, none⟩ = some (.int .u64 (a0 : Int)) ∧ W.cell? ⟨gs, 1, none⟩ = some (.int .u64 (a1 : Int)) ∧ W.cell? ⟨gs, 2, none⟩ = some (.int .u64 (a2 : Int)) ∧ W.frozen? ⟨gs, 0, none⟩ = false ∧ W.frozen? ⟨gs, 1, none⟩ = false ∧ W.frozen? ⟨gs, 2, none⟩ = false ∧ gs < W.heap.size ∧ W.cell? ⟨eb, ei, none⟩ = some (.int .u64 (v0 : Int)) ∧ W.cell? ⟨eb, ei + 1, none⟩ = some (.int .u64 (v1 : Int)) ∧ W.cell? ⟨eb, ei + 2, none⟩ = some (.int .u64 (v2 : Int)) ∧ eb < W.heap.size ∧ Below w.heap.size w W) (by kernel_rfl) ?_ (fun hHeld => ?_)
                  · (first | (with_reducible assumption) | (with_reducible exact drewE2 HS.out (Nat.le_refl _)) | (with_reducible exact keepE2 (by assumption) (by assumption) (Nat.le_refl _)) | fail)
                  refine wpAnyH_take (i := 0) (v := ?_) rfl (by kernel_rfl) (by kernel_rfl) (by kernel_rfl) (fun _ _ _ h => h) (Or.inl ⟨by kernel_rfl, ?_⟩) (by assumption) ?_
                  rotate_left
                  · intro w hSw
                    go_simp
                    try with_reducible rfl
                  simp only [Act.put, List.setIfInBounds_toArray, List.set_cons_zero, List.set_cons_succ, List.getElem_toArray, List.getElem_cons_succ, List.getElem_cons_zero]
                  refine wpAnyH_take (i := 1) (v := ?_) rfl (by kernel_rfl) (by kernel_rfl) (by kernel_rfl) (fun _ _ _ h => h) (Or.inl ⟨by kernel_rfl, ?_⟩) (by assumption) ?_
                  rotate_left
                  · intro w hSw
                    go_simp
                    try with_reducible rfl
                  simp only [Act.put, List.setIfInBounds_toArray, List.set_cons_zero, List.set_cons_succ, List.getElem_toArray, List.getElem_cons_succ, List.getElem_cons_zero]
                  refine wpAnyH_take (i := 2) (v := ?_) rfl (by kernel_rfl) (by kernel_rfl) (by kernel_rfl) (fun _ _ _ h => h) (Or.inl ⟨by kernel_rfl, ?_⟩) (by assumption) ?_
                  rotate_left
                  · intro w hSw
                    go_simp
                    try with_reducible rfl
                  simp only [Act.put, List.setIfInBounds_toArray, List.set_cons_zero, List.set_cons_succ, List.getElem_toArray, List.getElem_cons_succ, List.getElem_cons_zero]
                  refine wpAnyH_take (i := 3) (v := ?_) rfl (by kernel_rfl) (by kernel_rfl) (by kernel_rfl) (fun _ _ _ h => h) (Or.inl ⟨by kernel_rfl, ?_⟩) (by assumption) ?_
                  rotate_left
                  · intro w hSw
                    go_simp
                    try with_reducible rfl
                  simp only [Act.put, List.setIfInBounds_toArray, List.set_cons_zero, List.set_cons_succ, List.getElem_toArray, List.getElem_cons_succ, List.getElem_cons_zero]
                  refine wpAnyH_take (i := 4) (v := ?_) rfl (by kernel_rfl) (by kernel_rfl) (by kernel_rfl) (fun _ _ _ h => h) (Or.inl ⟨by kernel_rfl, ?_⟩) (by assumption) ?_
                  rotate_left
                  · intro w hSw
                    go_simp
                    try with_reducible rfl
                  simp only [Act.put, List.setIfInBounds_toArray, List.set_cons_zero, List.set_cons_succ, List.getElem_toArray, List.getElem_cons_succ, List.getElem_cons_zero]
                  refine wpAnyH_take (i := 5) (v := ?_) rfl (by kernel_rfl) (by kernel_rfl) (by kernel_rfl) (fun _ _ _ h => h) (Or.inl ⟨by kernel_rfl, ?_⟩) (by assumption) ?_
                  rotate_left
                  · intro w hSw
                    go_simp
                    try with_reducible rfl
                  simp only [Act.put, List.setIfInBounds_toArray, List.set_cons_zero, List.set_cons_succ, List.getElem_toArray, List.getElem_cons_succ, List.getElem_cons_zero]
                  refine wpAnyH_take (i := 7) (v := ?_) rfl (by kernel_rfl) (by kernel_rfl) (by kernel_rfl) (fun _ _ _ h => h) (Or.inl ⟨by kernel_rfl, ?_⟩) (by assumption) ?_
                  rotate_left
                  · intro w hSw
                    go_simp
                    try with_reducible rfl
                  simp only [Act.put, List.setIfInBounds_toArray, List.set_cons_zero, List.set_cons_succ, List.getElem_toArray, List.getElem_cons_succ, List.getElem_cons_zero]
                  refine wpAnyH_ready (rs := [6]) (by kernel_rfl) (by simp) ?_
                  refine AllReadyH.cons rfl (fun K hK => ?_) AllReadyH.nil
                  rw [if_pos (by kernel_rfl)]; go_simp; go_at_call 16; (with_reducible refine (HAG.out _ hHeld.2.2.2.2.2.2.2.2.2.2.2.2.2.2.2.2.2.2).mono ?_); rintro e w1 ⟨rfl, hb1⟩
                  refine hK.out _ _ ?_ (fun hHeld => ?_)
                  · (first | (with_reducible assumption) | (with_reducible exact drewE2 HS.out (Nat.le_refl _)) | (with_reducible exact keepE2 (by assumption) (by assumption) (Nat.le_refl _)) | fail)
                  clear hK K
                  try simp only [Act.put, List.setIfInBounds_toArray, List.set_cons_zero, List.set_cons_succ, List.getElem_toArray, List.getElem_cons_succ, List.getElem_cons_zero]
                  refine wpAnyH_take (i := 8) (v := ?_) rfl (by kernel_rfl) (by kernel_rfl) (by kernel_rfl) (fun _ _ _ h => h) (Or.inl ⟨by kernel_rfl, ?_⟩) (by assumption) ?_
                  rotate_left
                  · intro w hSw
                    go_simp
                    try with_reducible rfl
                  simp only [Act.put, List.setIfInBounds_toArray, List.set_cons_zero, List.set_cons_succ, List.getElem_toArray, List.getElem_cons_succ, List.getElem_cons_zero]
                  refine wpAnyH_done (by kernel_rfl) ?_ _
                  refine NoPanic.normal ?_
                  have hS := hHeld
                  refine anyW (P := fun W => W.cell? ⟨go, 0, none⟩ = some (.int .u64 (o0 : Int)) ∧ W.cell? ⟨go, 1, none⟩ = some (.int .u64 (o1 : Int)) ∧ W.cell? ⟨go, 2, none⟩ = some (.int .u64 (o2 : Int)) ∧ W.frozen? ⟨go, 0, none⟩ = false ∧ W.frozen? ⟨go, 1, none⟩ = false ∧ W.frozen? ⟨go, 2, none⟩ = false ∧ go < W.heap.size ∧ W.cell? ⟨gs, 0, none⟩ = some (.int .u64 (a0 : Int)) ∧ W.cell? ⟨gs, 1, none⟩ = some (.int .u64 (a1 : Int)) ∧ W.cell? ⟨gs, 2, none⟩ = some (.int .u64 (a2 : Int)) ∧ W.frozen? ⟨gs, 0, none⟩ = false ∧ W.frozen? ⟨gs, 1, none⟩ = false ∧ W.frozen? ⟨gs, 2, none⟩ = false ∧ gs < W.heap.size ∧ W.cell? ⟨eb, ei, none⟩ = some (.int .u64 (v0 : Int)) ∧ W.cell? ⟨eb, ei + 1, none⟩ = some (.int .u64 (v1 : Int)) ∧ W.cell? ⟨eb, ei + 2, none⟩ = some (.int .u64 (v2 : Int)) ∧ eb < W.heap.size ∧ Below w.heap.size w W) (Q := fun W => Exit.then _ _ _ _ W) hS ?_
                  clear hS HS hHeld p0 p1 p2 p3 p4 p5 p6 s0 s1 s2 s3 s4 s5 s6 t0 t1 t2 t3 hg
                  intro W hS
                  have HS := Lib.hid hS
                  obtain ⟨p0, p1, p2, p3, p4, p5, p6, s0, s1, s2, s3, s4, s5, s6, t0, t1, t2, t3, hg⟩ := hS
                  have HS2 := Lib.hid (Slot3.put ⟨s0, s1, s2, s3, s4, s5, s6⟩ (.int .u64 (o0 : Int)) (.int .u64 (o1 : Int)) (.int .u64 (o2 : Int)))
                  have HB2 := Lib.hid (((hg.setCell (p := ⟨gs, 0, none⟩) hgg (.int .u64 (o0 : Int))).setCell (p := ⟨gs, 1, none⟩) hgg (.int .u64 (o1 : Int))).setCell (p := ⟨gs, 2, none⟩) hgg (.int .u64 (o2 : Int)))
                  go_wp2
                  go_roundw
                  case rel => exact ⟨x + 1, q, ⟨o0, o1, o2⟩, by omega, by go_num, by first | rfl | go_num, hgood.fit, by rw [HOA.out]; exact hroom, HS2.out, HB2.out⟩
                  case measure => simp [intOf]; omega
                · have q9 : eq3 o0 o1 o2 a0 a1 a2 = false := by have := eq3_val ⟨o0, o1, o2⟩ ⟨a0, a1, a2⟩; rw [decide_eq_false hoa] at this; exact this
                  have HOA := Lib.hid hoa
                  clear hoa
                  have q7 := eq3_self o0 o1 o2
                  have hq : (q : Int) ≤ 193 := by omega
                  go_wp2
                  refine wp_region_noPanic ?_
                  refine wp_region_held_drew (S := fun W => W.cell? ⟨go, 0, none⟩ = some (.int .u64 (o0 : Int)) ∧ W.cell? ⟨go, 1, none⟩ = some (.int .u64 (o1 : Int)) ∧ W.cell? ⟨go, 2, none⟩ = some (.int .u64 (o2 : Int)) ∧ W.frozen? ⟨go, 0, none⟩ = false ∧ W.frozen? ⟨go, 1, none⟩ = false ∧ W.frozen? ⟨go, 2, none⟩ = false ∧ go < W.heap.size ∧ W.cell? ⟨gs, 0, none⟩ = some (.int .u64 (a0 : Int)) ∧ W.cell? ⟨gs, 1, none⟩ = some (.int .u64 (a1 : Int)) ∧ W.cell? ⟨gs, 2, none⟩ = some (.int .u64 (a2 : Int)) ∧ W.frozen? ⟨gs, 0, none⟩ = false ∧ W.frozen? ⟨gs, 1, none⟩ = false ∧ W.frozen? ⟨gs, 2, none⟩ = false ∧ gs < W.heap.size ∧ W.cell? ⟨eb, ei, none⟩ = some (.int .u64 (v0 : Int)) ∧ W.cell? ⟨eb, ei + 1, none⟩ = some (.int .u64 (v1 : Int)) ∧ W.cell? ⟨eb, ei + 2, none⟩ = some (.int .u64 (v2 : Int)) ∧ eb < W.heap.size ∧ Below w.heap.size w W) (by kernel_rfl) ?_ (fun hHeld => ?_)
                  · (first | (with_reducible assumption) | (with_reducible exact drewE2 HS.out (Nat.le_refl _)) | (with_reducible exact keepE2 (by assumption) (by assumption) (Nat.le_refl _)) | fail)
                  refine wpAnyH_take (i := 0) (v := ?_) rfl (by kernel_rfl) (by kernel_rfl) (by kernel_rfl) (fun _ _ _ h => h) (Or.inl ⟨by kernel_rfl, ?_⟩) (by assumption) ?_
                  rotate_left
                  · intro w hSw
                    go_simp
                    try with_reducible rfl
                  simp only [Act.put, List.setIfInBounds_toArray, List.set_cons_zero, List.set_cons_succ, List.getElem_toArray, List.getElem_cons_succ, List.getElem_cons_zero]
                  refine wpAnyH_take (i := 1) (v := ?_) rfl (by kernel_rfl) (by kernel_rfl) (by kernel_rfl) (fun _ _ _ h => h) (Or.inl ⟨by kernel_rfl, ?_⟩) (by assumption) ?_
                  rotate_left
                  · intro w hSw
                    go_simp
                    try with_reducible rfl
                  simp only [Act.put, List.setIfInBounds_toArray, List.set_cons_zero, List.set_cons_succ, List.getElem_toArray, List.getElem_cons_succ, List.getElem_cons_zero]
                  refine wpAnyH_take (i := 2) (v := ?_) rfl (by kernel_rfl) (by kernel_rfl) (by kernel_rfl) (fun _ _ _ h => h) (Or.inl ⟨by kernel_rfl, ?_⟩) (by assumption) ?_
                  rotate_left
                  · intro w hSw
                    go_simp
                    try with_reducible rfl
                  simp only [Act.put, List.setIfInBounds_toArray, List.set_cons_zero, List.set_cons_succ, List.getElem_toArray, List.getElem_cons_succ, List.getElem_cons_zero]
                  refine wpAnyH_take (i := 3) (v := ?_) rfl (by kernel_rfl) (by kernel_rfl) (by kernel_rfl) (fun _ _ _ h => h) (Or.inl ⟨by kernel_rfl, ?_⟩) (by assumption) ?_
                  rotate_left
                  · intro w hSw
                    go_simp
                    try with_reducible rfl
                  simp only [Act.put, List.setIfInBounds_toArray, List.set_cons_zero, List.set_cons_succ, List.getElem_toArray, List.getElem_cons_succ, List.getElem_cons_zero]
                  refine wpAnyH_take (i := 4) (v := ?_) rfl (by kernel_rfl) (by kernel_rfl) (by kernel_rfl) (fun _ _ _ h => h) (Or.inl ⟨by kernel_rfl, ?_⟩) (by assumption) ?_
                  rotate_left
                  · intro w hSw
                    go_simp
                    try with_reducible rfl
                  simp only [Act.put, List.setIfInBounds_toArray, List.set_cons_zero, List.set_cons_succ, List.getElem_toArray, List.getElem_cons_succ, List.getElem_cons_zero]
                  refine wpAnyH_take (i := 5) (v := ?_) rfl (by kernel_rfl) (by kernel_rfl) (by kernel_rfl) (fun _ _ _ h => h) (Or.inl ⟨by kernel_rfl, ?_⟩) (by assumption) ?_
                  rotate_left
                  · intro w hSw
                    go_simp
                    try with_reducible rfl
                  simp only [Act.put, List.setIfInBounds_toArray, List.set_cons_zero, List.set_cons_succ, List.getElem_toArray, List.getElem_cons_succ, List.getElem_cons_zero]
                  refine wpAnyH_take (i := 7) (v := ?_) rfl (by kernel_rfl) (by kernel_rfl) (by kernel_rfl) (fun _ _ _ h => h) (Or.inl ⟨by kernel_rfl, ?_⟩) (by assumption) ?_
                  rotate_left
                  · intro w hSw
                    go_simp
                    try with_reducible rfl
                  simp only [Act.put, List.setIfInBounds_toArray, List.set_cons_zero, List.set_cons_succ, List.getElem_toArray, List.getElem_cons_succ, List.getElem_cons_zero]
                  refine wpAnyH_ready (rs := [6]) (by kernel_rfl) (by simp) ?_
                  refine AllReadyH.cons rfl (fun K hK => ?_) AllReadyH.nil
                  rw [if_pos (by kernel_rfl)]; go_simp; go_at_call 16; (with_reducible refine (HAG.out _ hHeld.2.2.2.2.2.2.2.2.2.2.2.2.2.2.2.2.2.2).mono ?_); rintro e w1 ⟨rfl, hb1⟩
                  refine hK.out _ _ ?_ (fun hHeld => ?_)
                  · (first | (with_reducible assumption) | (with_reducible exact drewE2 HS.out (Nat.le_refl _)) | (with_reducible exact keepE2 (by assumption) (by assumption) (Nat.le_refl _)) | fail)
                  clear hK K
                  try simp only [Act.put, List.setIfInBounds_toArray, List.set_cons_zero, List.set_cons_succ, List.getElem_toArray, List.getElem_cons_succ, List.getElem_cons_zero]
                  refine wpAnyH_take (i := 8) (v := ?_) rfl (by kernel_rfl) (by kernel_rfl) (by kernel_rfl) (fun _ _ _ h => h) (Or.inl ⟨by kernel_rfl, ?_⟩) (by assumption) ?_
                  rotate_left
                  · intro w hSw
                    go_simp
                    try with_reducible rfl
                  simp only [Act.put, List.setIfInBounds_toArray, List.set_cons_zero, List.set_cons_succ, List.getElem_toArray, List.getElem_cons_succ, List.getElem_cons_zero]
                  refine wpAnyH_done (by kernel_rfl) ?_ _
                  refine NoPanic.normal ?_
                  have hS := hHeld
                  refine anyW (P := fun W => W.cell? ⟨go, 0, none⟩ = some (.int .u64 (o0 : Int)) ∧ W.cell? ⟨go, 1, none⟩ = some (.int .u64 (o1 : Int)) ∧ W.cell? ⟨go, 2, none⟩ = some (.int .u64 (o2 : Int)) ∧ W.frozen? ⟨go, 0, none⟩ = false ∧ W.frozen? ⟨go, 1, none⟩ = false ∧ W.frozen? ⟨go, 2, none⟩ = false ∧ go < W.heap.size ∧ W.cell? ⟨gs, 0, none⟩ = some (.int .u64 (a0 : Int)) ∧ W.cell? ⟨gs, 1, none⟩ = some (.int .u64 (a1 : Int)) ∧ W.cell? ⟨gs, 2, none⟩ = some (.int .u64 (a2 : Int)) ∧ W.frozen? ⟨gs, 0, none⟩ = false ∧ W.frozen? ⟨gs, 1, none⟩ = false ∧ W.frozen? ⟨gs, 2, none⟩ = false ∧ gs < W.heap.size ∧ W.cell? ⟨eb, ei, none⟩ = some (.int .u64 (v0 : Int)) ∧ W.cell? ⟨eb, ei + 1, none⟩ = some (.int .u64 (v1 : Int)) ∧ W.cell? ⟨eb, ei + 2, none⟩ = some (.int .u64 (v2 : Int)) ∧ eb < W.heap.size ∧ Below w.heap.size w W) (Q := fun W => Exit.then _ _ _ _ W) hS ?_
                  clear hS HS hHeld p0 p1 p2 p3 p4 p5 p6 s0 s1 s2 s3 s4 s5 s6 t0 t1 t2 t3 hg
                  intro W hS
                  have HS := Lib.hid hS
                  obtain ⟨p0, p1, p2, p3, p4, p5, p6, s0, s1, s2, s3, s4, s5, s6, t0, t1, t2, t3, hg⟩ := hS
                  have HS2 := Lib.hid (Slot3.put ⟨s0, s1, s2, s3, s4, s5, s6⟩ (.int .u64 (o0 : Int)) (.int .u64 (o1 : Int)) (.int .u64 (o2 : Int)))
                  have HB2 := Lib.hid (((hg.setCell (p := ⟨gs, 0, none⟩) hgg (.int .u64 (o0 : Int))).setCell (p := ⟨gs, 1, none⟩) hgg (.int .u64 (o1 : Int))).setCell (p := ⟨gs, 2, none⟩) hgg (.int .u64 (o2 : Int)))
                  go_wp2
                  go_roundw
                  case rel => exact ⟨x + 1, (q + 1), ⟨o0, o1, o2⟩, by omega, by go_num, by first | rfl | go_num, hgood.fit, by have := hgood.less HOA.out; omega, HS2.out, HB2.out⟩
                  case measure => simp [intOf]; omega
      · clear hmb
        rw [decide_eq_false hr] at HR
        go_wp2
        refine wp_region_noPanic ?_
        refine wp_region_held_drew (S := fun W => W.cell? ⟨gs, 0, none⟩ = some (.int .u64 (a0 : Int)) ∧ W.cell? ⟨gs, 1, none⟩ = some (.int .u64 (a1 : Int)) ∧ W.cell? ⟨gs, 2, none⟩ = some (.int .u64 (a2 : Int)) ∧ W.frozen? ⟨gs, 0, none⟩ = false ∧ W.frozen? ⟨gs, 1, none⟩ = false ∧ W.frozen? ⟨gs, 2, none⟩ = false ∧ gs < W.heap.size ∧ W.cell? ⟨eb, ei, none⟩ = some (.int .u64 (v0 : Int)) ∧ W.cell? ⟨eb, ei + 1, none⟩ = some (.int .u64 (v1 : Int)) ∧ W.cell? ⟨eb, ei + 2, none⟩ = some (.int .u64 (v2 : Int)) ∧ eb < W.heap.size ∧ Below w.heap.size w W) (by kernel_rfl) ?_ (fun hHeld => ?_)
        · (first | (with_reducible assumption) | (with_reducible exact drewE HS.out (Nat.le_refl _)) | (with_reducible exact keepE (by assumption) (by assumption) (Nat.le_refl _)) | fail)
        refine wpAnyH_take (i := 0) (v := ?_) rfl (by kernel_rfl) (by kernel_rfl) (by kernel_rfl) (fun _ _ _ h => h) (Or.inl ⟨by kernel_rfl, ?_⟩) (by assumption) ?_
        rotate_left
        · intro w hSw
          go_simp
          try with_reducible rfl
        simp only [Act.put, List.setIfInBounds_toArray, List.set_cons_zero, List.set_cons_succ, List.getElem_toArray, List.getElem_cons_succ, List.getElem_cons_zero]
        refine wpAnyH_take (i := 1) (v := ?_) rfl (by kernel_rfl) (by kernel_rfl) (by kernel_rfl) (fun _ _ _ h => h) (Or.inl ⟨by kernel_rfl, ?_⟩) (by assumption) ?_
        rotate_left
        · intro w hSw
          go_simp
          try with_reducible rfl
        simp only [Act.put, List.setIfInBounds_toArray, List.set_cons_zero, List.set_cons_succ, List.getElem_toArray, List.getElem_cons_succ, List.getElem_cons_zero]
        refine wpAnyH_take (i := 2) (v := ?_) rfl (by kernel_rfl) (by kernel_rfl) (by kernel_rfl) (fun _ _ _ h => h) (Or.inl ⟨by kernel_rfl, ?_⟩) (by assumption) ?_
        rotate_left
        · intro w hSw
          go_simp
          try with_reducible rfl
        simp only [Act.put, List.setIfInBounds_toArray, List.set_cons_zero, List.set_cons_succ, List.getElem_toArray, List.getElem_cons_succ, List.getElem_cons_zero]
        refine wpAnyH_take (i := 3) (v := ?_) rfl (by kernel_rfl) (by kernel_rfl) (by kernel_rfl) (fun _ _ _ h => h) (Or.inl ⟨by kernel_rfl, ?_⟩) (by assumption) ?_
        rotate_left
        · intro w hSw
          go_simp
          try with_reducible rfl
        simp only [Act.put, List.setIfInBounds_toArray, List.set_cons_zero, List.set_cons_succ, List.getElem_toArray, List.getElem_cons_succ, List.getElem_cons_zero]
        refine wpAnyH_ready (rs := [4]) (by kernel_rfl) (by simp) ?_
        refine AllReadyH.cons rfl (fun K hK => ?_) AllReadyH.nil
        rw [if_pos (by kernel_rfl)]; go_simp; go_at_call 6; (with_reducible refine (HR.out _ hHeld.2.2.2.2.2.2.2.2.2.2.2).mono ?_); rintro e w1 ⟨rfl, hb1⟩
        refine hK.out _ _ ?_ (fun hHeld => ?_)
        · (first | (with_reducible assumption) | (with_reducible exact drewE HS.out (Nat.le_refl _)) | (with_reducible exact keepE (by assumption) (by assumption) (Nat.le_refl _)) | fail)
        clear hK K
        try simp only [Act.put, List.setIfInBounds_toArray, List.set_cons_zero, List.set_cons_succ, List.getElem_toArray, List.getElem_cons_succ, List.getElem_cons_zero]
        refine wpAnyH_take (i := 5) (v := ?_) rfl (by kernel_rfl) (by kernel_rfl) (by kernel_rfl) (fun _ _ _ h => h) (Or.inl ⟨by kernel_rfl, ?_⟩) (by assumption) ?_
        rotate_left
        · intro w hSw
          go_simp
          try with_reducible rfl
        simp only [Act.put, List.setIfInBounds_toArray, List.set_cons_zero, List.set_cons_succ, List.getElem_toArray, List.getElem_cons_succ, List.getElem_cons_zero]
        refine wpAnyH_take (i := 6) (v := ?_) rfl (by kernel_rfl) (by kernel_rfl) (by kernel_rfl) (fun _ _ _ h => h) (Or.inl ⟨by kernel_rfl, ?_⟩) (by assumption) ?_
        rotate_left
        · intro w hSw
          go_simp
          try with_reducible rfl
        simp only [Act.put, List.setIfInBounds_toArray, List.set_cons_zero, List.set_cons_succ, List.getElem_toArray, List.getElem_cons_succ, List.getElem_cons_zero]
        refine wpAnyH_take (i := 7) (v := undef) rfl (by kernel_rfl) (by kernel_rfl) (by kernel_rfl) (fun _ _ _ h => h) (Or.inr ⟨by kernel_rfl, rfl⟩) (by assumption) ?_
        simp only [Act.put, List.setIfInBounds_toArray, List.set_cons_zero, List.set_cons_succ, List.getElem_toArray, List.getElem_cons_succ, List.getElem_cons_zero]
        refine wpAnyH_take (i := 8) (v := undef) rfl (by kernel_rfl) (by kernel_rfl) (by kernel_rfl) (fun _ _ _ h => h) (Or.inr ⟨by kernel_rfl, rfl⟩) (by assumption) ?_
        simp only [Act.put, List.setIfInBounds_toArray, List.set_cons_zero, List.set_cons_succ, List.getElem_toArray, List.getElem_cons_succ, List.getElem_cons_zero]
        refine wpAnyH_take (i := 9) (v := undef) rfl (by kernel_rfl) (by kernel_rfl) (by kernel_rfl) (fun _ _ _ h => h) (Or.inr ⟨by kernel_rfl, rfl⟩) (by assumption) ?_
        simp only [Act.put, List.setIfInBounds_toArray, List.set_cons_zero, List.set_cons_succ, List.getElem_toArray, List.getElem_cons_succ, List.getElem_cons_zero]
        refine wpAnyH_take (i := 10) (v := undef) rfl (by kernel_rfl) (by kernel_rfl) (by kernel_rfl) (fun _ _ _ h => h) (Or.inr ⟨by kernel_rfl, rfl⟩) (by assumption) ?_
        simp only [Act.put, List.setIfInBounds_toArray, List.set_cons_zero, List.set_cons_succ, List.getElem_toArray, List.getElem_cons_succ, List.getElem_cons_zero]
        refine wpAnyH_take (i := 11) (v := undef) rfl (by kernel_rfl) (by kernel_rfl) (by kernel_rfl) (fun _ _ _ h => h) (Or.inr ⟨by kernel_rfl, rfl⟩) (by assumption) ?_
        simp only [Act.put, List.setIfInBounds_toArray, List.set_cons_zero, List.set_cons_succ, List.getElem_toArray, List.getElem_cons_succ, List.getElem_cons_zero]
        refine wpAnyH_take (i := 12) (v := undef) rfl (by kernel_rfl) (by kernel_rfl) (by kernel_rfl) (fun _ _ _ h => h) (Or.inr ⟨by kernel_rfl, rfl⟩) (by assumption) ?_
        simp only [Act.put, List.setIfInBounds_toArray, List.set_cons_zero, List.set_cons_succ, List.getElem_toArray, List.getElem_cons_succ, List.getElem_cons_zero]
        refine wpAnyH_take (i := 13) (v := undef) rfl (by kernel_rfl) (by kernel_rfl) (by kernel_rfl) (fun _ _ _ h => h) (Or.inr ⟨by kernel_rfl, rfl⟩) (by assumption) ?_
        simp only [Act.put, List.setIfInBounds_toArray, List.set_cons_zero, List.set_cons_succ, List.getElem_toArray, List.getElem_cons_succ, List.getElem_cons_zero]
        refine wpAnyH_take (i := 14) (v := undef) rfl (by kernel_rfl) (by kernel_rfl) (by kernel_rfl) (fun _ _ _ h => h) (Or.inr ⟨by kernel_rfl, rfl⟩) (by assumption) ?_
        simp only [Act.put, List.setIfInBounds_toArray, List.set_cons_zero, List.set_cons_succ, List.getElem_toArray, List.getElem_cons_succ, List.getElem_cons_zero]
        refine wpAnyH_take (i := 15) (v := undef) rfl (by kernel_rfl) (by kernel_rfl) (by kernel_rfl) (fun _ _ _ h => h) (Or.inr ⟨by kernel_rfl, rfl⟩) (by assumption) ?_
        simp only [Act.put, List.setIfInBounds_toArray, List.set_cons_zero, List.set_cons_succ, List.getElem_toArray, List.getElem_cons_succ, List.getElem_cons_zero]
        refine wpAnyH_take (i := 16) (v := undef) rfl (by kernel_rfl) (by kernel_rfl) (by kernel_rfl) (fun _ _ _ h => h) (Or.inr ⟨by kernel_rfl, rfl⟩) (by assumption) ?_
        simp only [Act.put, List.setIfInBounds_toArray, List.set_cons_zero, List.set_cons_succ, List.getElem_toArray, List.getElem_cons_succ, List.getElem_cons_zero]
        refine wpAnyH_take (i := 17) (v := undef) rfl (by kernel_rfl) (by kernel_rfl) (by kernel_rfl) (fun _ _ _ h => h) (Or.inr ⟨by kernel_rfl, rfl⟩) (by assumption) ?_
        simp only [Act.put, List.setIfInBounds_toArray, List.set_cons_zero, List.set_cons_succ, List.getElem_toArray, List.getElem_cons_succ, List.getElem_cons_zero]
        refine wpAnyH_take (i := 18) (v := undef) rfl (by kernel_rfl) (by kernel_rfl) (by kernel_rfl) (fun _ _ _ h => h) (Or.inr ⟨by kernel_rfl, rfl⟩) (by assumption) ?_
        simp only [Act.put, List.setIfInBounds_toArray, List.set_cons_zero, List.set_cons_succ, List.getElem_toArray, List.getElem_cons_succ, List.getElem_cons_zero]
        refine wpAnyH_take (i := 19) (v := undef) rfl (by kernel_rfl) (by kernel_rfl) (by kernel_rfl) (fun _ _ _ h => h) (Or.inr ⟨by kernel_rfl, rfl⟩) (by assumption) ?_
        simp only [Act.put, List.setIfInBounds_toArray, List.set_cons_zero, List.set_cons_succ, List.getElem_toArray, List.getElem_cons_succ, List.getElem_cons_zero]
        refine wpAnyH_take (i := 20) (v := undef) rfl (by kernel_rfl) (by kernel_rfl) (by kernel_rfl) (fun _ _ _ h => h) (Or.inr ⟨by kernel_rfl, rfl⟩) (by assumption) ?_
        simp only [Act.put, List.setIfInBounds_toArray, List.set_cons_zero, List.set_cons_succ, List.getElem_toArray, List.getElem_cons_succ, List.getElem_cons_zero]
        refine wpAnyH_take (i := 21) (v := undef) rfl (by kernel_rfl) (by kernel_rfl) (by kernel_rfl) (fun _ _ _ h => h) (Or.inr ⟨by kernel_rfl, rfl⟩) (by assumption) ?_
        simp only [Act.put, List.setIfInBounds_toArray, List.set_cons_zero, List.set_cons_succ, List.getElem_toArray, List.getElem_cons_succ, List.getElem_cons_zero]
        refine wpAnyH_take (i := 22) (v := undef) rfl (by kernel_rfl) (by kernel_rfl) (by kernel_rfl) (fun _ _ _ h => h) (Or.inr ⟨by kernel_rfl, rfl⟩) (by assumption) ?_
        simp only [Act.put, List.setIfInBounds_toArray, List.set_cons_zero, List.set_cons_succ, List.getElem_toArray, List.getElem_cons_succ, List.getElem_cons_zero]
        refine wpAnyH_take (i := 23) (v := ?_) rfl (by kernel_rfl) (by kernel_rfl) (by kernel_rfl) (fun _ _ _ h => h) (Or.inl ⟨by kernel_rfl, ?_⟩) (by assumption) ?_
        rotate_left
        · intro w hSw
          go_simp
          try with_reducible rfl
        simp only [Act.put, List.setIfInBounds_toArray, List.set_cons_zero, List.set_cons_succ, List.getElem_toArray, List.getElem_cons_succ, List.getElem_cons_zero]
        refine wpAnyH_done (by kernel_rfl) ?_ _
        refine NoPanic.normal ?_
        have hS := hHeld
        refine anyW (P := fun W => W.cell? ⟨gs, 0, none⟩ = some (.int .u64 (a0 : Int)) ∧ W.cell? ⟨gs, 1, none⟩ = some (.int .u64 (a1 : Int)) ∧ W.cell? ⟨gs, 2, none⟩ = some (.int .u64 (a2 : Int)) ∧ W.frozen? ⟨gs, 0, none⟩ = false ∧ W.frozen? ⟨gs, 1, none⟩ = false ∧ W.frozen? ⟨gs, 2, none⟩ = false ∧ gs < W.heap.size ∧ W.cell? ⟨eb, ei, none⟩ = some (.int .u64 (v0 : Int)) ∧ W.cell? ⟨eb, ei + 1, none⟩ = some (.int .u64 (v1 : Int)) ∧ W.cell? ⟨eb, ei + 2, none⟩ = some (.int .u64 (v2 : Int)) ∧ eb < W.heap.size ∧ Below w.heap.size w W) (Q := fun W => Exit.then _ _ _ _ W) hS ?_
        clear hS HS hHeld s0 s1 s2 s3 s4 s5 s6 t0 t1 t2 t3 hg
        intro W hS
        have HS := Lib.hid hS
        obtain ⟨s0, s1, s2, s3, s4, s5, s6, t0, t1, t2, t3, hg⟩ := hS
        go_wp2
        go_roundw
        case rel => exact ⟨x + 1, q, ⟨a0, a1, a2⟩, by omega, by go_num, by first | rfl | go_num, hfit, hroom, ⟨s0, s1, s2, s3, s4, s5, s6⟩, hg⟩
        case measure => simp [intOf]; omega
    · have hxn : x = n := by omega
      have hq : (q : Int) ≤ 193 := by omega
      have HW := Lib.hid fun W (hb : Below w.heap.size w W) => wakes_any W (HM.out.own hb)
      have HB := Lib.hid hB
      clear hS hB hxn
      go_wp2_with fail
      go_at_call 8
      refine (HW.out _ HB.out).mono ?_
      rintro e W9 ⟨rfl, hb9⟩
      have hG := HB.out.trans (hb9.mono HB.out.size)
      clear hb9
      go_wp2_with fail
      go_ret
      exact ⟨rfl, hG⟩
end Go.Proofs.YtmlgaaolofgdiaaDoor
