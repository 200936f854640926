/- DirtOne's walk. -/
import Derived.Test.YtaaflkjdcablcaaOa
namespace Go.Proofs.Ytaaflkjdcablcaa
open Go.RowKit Go.Shelf
set_option linter.unusedVariables false
set_option linter.unusedSimpArgs false
attribute [local go_sem] Oper.semAt_some
/-- What the walk keeps: both rows. -/
def LO (w : World) (a : Option Addr) (k cap : Nat) (zs : List Rg) (a2 : Option Addr) (k2 cap2 : Nat) (z2 : List Rg) (W : World) : Prop := RW W a k cap zs ∧ RW W a2 k2 cap2 z2 ∧ Below w.heap.size w W
theorem LO.keep {w W W' : World} {a a2 : Option Addr} {k cap k2 cap2 : Nat} {zs z2 : List Rg} (h : LO w a k cap zs a2 k2 cap2 z2 W) (hb : Below W.heap.size W W') : LO w a k cap zs a2 k2 cap2 z2 W' := ⟨h.1.keep hb, h.2.1.keep hb, h.2.2.trans (hb.mono h.2.2.size)⟩
theorem rd_cells {w W : World} {b off n cap : Nat} {zs : List Rg} {k : Nat} {y : Rg} (h : RW w (some ⟨b, off, none⟩) n cap zs) (hb : Below w.heap.size w W) (hk : k < zs.length) (e : zl zs k = y.1 ∧ zh zs k = y.2) : W.cell? ⟨b, off + k * 2, none⟩ = some (.int .u64 (y.1 : Nat)) ∧ W.cell? ⟨b, off + k * 2 + 1, none⟩ = some (.int .u64 (y.2 : Nat)) := by
  obtain ⟨b', off', ha, c0, c1⟩ := h.2.1.keep hb k hk
  cases ha
  rw [e.1] at c0
  rw [e.2] at c1
  exact ⟨c0, c1⟩
set_option maxRecDepth 100000 in
set_option maxHeartbeats 16000000 in
theorem one_small (a : Option Addr) (n cap : Nat) (zs : List Rg) (hn : n ≤ 40) (a2 : Option Addr) (n2 cap2 : Nat) (z2 : List Rg) (hn2 : n2 ≤ 40) (x : Nat) (hx : U x) (w : World) (hR : RW w a n cap zs) (hR2 : RW w a2 n2 cap2 z2) :
    Calls Try.prog 5 #[.slice a n cap, .slice a2 n2 cap2, .int .u64 (x : Nat)] w fun e w' => e = .returned (.bool true) ∧ Below w.heap.size w w' := by
  obtain ⟨i0, hi, hz0, hz1, hz2⟩ := info_parts infoE25
  have HI0 := Lib.hid (And.intro hi (And.intro hz0 (And.intro hz1 hz2)))
  clear hi hz0 hz1 hz2
  have HR := Lib.hid hR
  have HR2 := Lib.hid hR2
  have HX := Lib.hid hx
  have hlz : zs.length = n := hR.1
  have HL := Lib.hid hlz
  have HBE : Hid (backL x zs n = []) := Lib.hid (by rw [← hlz]; exact backL_end x zs)
  have HS0 : Hid (SR w (backL x zs n) (.slice none 0 0) w) := Lib.hid (by rw [HBE.out]; exact SR.nil w w (Below.refl _ _))
  have hlen : ∀ j, (backL x zs j).length ≤ 120 := fun j => by have := backL_len x zs j; omega
  have HLE := Lib.hid hlen
  have hn3 := hn
  have hn4 := hn2
  clear hlen hR hR2 hx hlz
  go_enter Try.func5, Try.ntmps5
  go_wp2_with fail
  go_loopw [7, 8] (fun v i W => ∃ j : Nat, j ≤ n ∧ i = .int .i64 ((j : Int) - 1) ∧ Hid (SR w (backL x zs j) v W)) (fun _ i _ => (intOf i + 1).toNat)
  case atStart => exact ⟨n, Nat.le_refl _, rfl, HS0⟩
  case round =>
    clear HS0
    obtain ⟨j, hj, rfl, HS⟩ := hrel
    cases j with
    | succ k =>
      have ek : ((k + 1 : Nat) : Int) - 1 = (k : Nat) := by omega
      rw [ek]
      have hlt' : k < zs.length := by rw [HL.out]; omega
      have hkn : k < n := by omega
      obtain ⟨b, off, ha, c0, c1⟩ := HR.out.2.1.keep HS.out.2 k hlt'
      subst ha
      have HK := Lib.hid (backL_succ x zs k hlt')
      have hlen := HLE.out (k + 1)
      obtain ⟨y, hy⟩ : ∃ y, rAt zs k = y := ⟨_, rfl⟩
      have e0 : zl zs k = y.1 := by rw [← hy]; rfl
      have e1 : zh zs k = y.2 := by rw [← hy]; rfl
      have HY : Hid (U y.1 ∧ U y.2) := Lib.hid (by rw [← e0, ← e1]; exact z_ok HR.out.2.2.2.1 hlt')
      have HYE := Lib.hid (And.intro e0 e1)
      rw [e0] at c0
      rw [e1] at c1
      rw [hy] at HK
      clear hy e0 e1
      generalize hpre : backL x zs (k + 1) = pre at *
      clear hpre
      go_wp2_with (first | (at_builtin; refine wpList_append_own _ rfl _ _ 22 rfl w.heap.size 25 i0 (.agg #[.int .u64 0, .int .u64 0]) 2 16 Try.underlying22 HI0.out.1 HI0.out.2.1 HI0.out.2.2.1 HI0.out.2.2.2 rfl (by decide) _ pre.length (cellsR pre) rfl (HS.out.1.alloc _) ⟨_, 0, none⟩ 1 1 y.cs rfl rfl (cells_new2 _ y) (ones_x _) (by unfold maxLen; omega) (by omega) (by have := HS.out.2.size; simp; omega) ?_) | fail)
      intro v5 W5 hown hgr _
      have HS5 := Lib.hid (SR.next (x := y) HS.out hown hgr)
      clear hown hgr c0 c1 HS
      obtain ⟨c0, c1⟩ := rd_cells HR.out HS5.out.2 hlt' HYE.out
      by_cases h1 : y.1 < x
      · by_cases h2 : x ≤ y.2
        · have HP : Hid (pcs x y = [y] ++ [(x, y.2), (y.1, x - 1)]) := Lib.hid (by unfold pcs; rw [if_pos ⟨h1, h2⟩])
          have hwl : IntKind.u64.wrap ((x : Int) - 1) = ((x - 1 : Nat) : Int) := by
            have := HX.out
            unfold U at this
            rw [IntWalk.u64_in _ (by omega)]
            omega
          go_upto_region 9 with fail
          have HSd := Lib.hid (HS5.out.drew)
          refine wp_region_noPanic ?_
          refine wp_region_held_drew (S := fun W : World => (∃ L v, SR w L v W) ∧ W.cell? ⟨b, off + k * 2, none⟩ = some (.int .u64 (y.1 : Nat)) ∧ W.cell? ⟨b, off + k * 2 + 1, none⟩ = some (.int .u64 (y.2 : Nat))) (by kernel_rfl) ?_ (fun hHeld => ?_)
          · exact ⟨⟨_, _, HSd.out⟩, c0, c1⟩
          clear c0 c1 HS5
          generalize World.drew _ = W6 at HSd hHeld ⊢
          refine wpAnyH_take (i := 0) (v := ?_) rfl (by kernel_rfl) (by kernel_rfl) (by kernel_rfl) (fun _ _ _ h => h) (Or.inl ⟨by kernel_rfl, ?_⟩) (by assumption) ?_
          rotate_left
          · intro wv hSw
            go_simp
            try with_reducible rfl
          simp only [Act.put, List.setIfInBounds_toArray, List.set_cons_zero, List.set_cons_succ, List.getElem_toArray, List.getElem_cons_succ, List.getElem_cons_zero]
          refine wpAnyH_take (i := 1) (v := ?_) rfl (by kernel_rfl) (by kernel_rfl) (by kernel_rfl) (fun _ _ _ h => h) (Or.inl ⟨by kernel_rfl, ?_⟩) (by assumption) ?_
          rotate_left
          · intro wv hSw
            go_simp
            try with_reducible rfl
          simp only [Act.put, List.setIfInBounds_toArray, List.set_cons_zero, List.set_cons_succ, List.getElem_toArray, List.getElem_cons_succ, List.getElem_cons_zero]
          refine wpAnyH_take (i := 2) (v := ?_) rfl (by kernel_rfl) (by kernel_rfl) (by kernel_rfl) (fun _ _ _ h => h) (Or.inl ⟨by kernel_rfl, ?_⟩) (by assumption) ?_
          rotate_left
          · intro wv hSw
            go_simp
            try with_reducible rfl
          simp only [Act.put, List.setIfInBounds_toArray, List.set_cons_zero, List.set_cons_succ, List.getElem_toArray, List.getElem_cons_succ, List.getElem_cons_zero]
          refine wpAnyH_take (i := 3) (v := ?_) rfl (by kernel_rfl) (by kernel_rfl) (by kernel_rfl) (fun _ _ _ h => h) (Or.inl ⟨by kernel_rfl, ?_⟩) (by assumption) ?_
          rotate_left
          · intro wv hSw
            go_simp
            try with_reducible rfl
          simp only [Act.put, List.setIfInBounds_toArray, List.set_cons_zero, List.set_cons_succ, List.getElem_toArray, List.getElem_cons_succ, List.getElem_cons_zero]
          refine wpAnyH_take (i := 4) (v := ?_) rfl (by kernel_rfl) (by kernel_rfl) (by kernel_rfl) (fun _ _ _ h => h) (Or.inl ⟨by kernel_rfl, ?_⟩) (by assumption) ?_
          rotate_left
          · intro wv hSw
            go_simp
            try with_reducible rfl
          simp only [Act.put, List.setIfInBounds_toArray, List.set_cons_zero, List.set_cons_succ, List.getElem_toArray, List.getElem_cons_succ, List.getElem_cons_zero]
          refine wpAnyH_take (i := 5) (v := ?_) rfl (by kernel_rfl) (by kernel_rfl) (by kernel_rfl) (fun _ _ _ h => h) (Or.inl ⟨by kernel_rfl, ?_⟩) (by assumption) ?_
          rotate_left
          · intro wv hSw
            go_simp
            try with_reducible rfl
          simp only [Act.put, List.setIfInBounds_toArray, List.set_cons_zero, List.set_cons_succ, List.getElem_toArray, List.getElem_cons_succ, List.getElem_cons_zero]
          refine wpAnyH_take (i := 6) (v := ?_) rfl (by kernel_rfl) (by kernel_rfl) (by kernel_rfl) (fun _ _ _ h => h) (Or.inl ⟨by kernel_rfl, ?_⟩) (by assumption) ?_
          rotate_left
          · intro wv hSw
            obtain ⟨_, s0, s1⟩ := hSw
            go_simp
            try with_reducible rfl
          simp only [Act.put, List.setIfInBounds_toArray, List.set_cons_zero, List.set_cons_succ, List.getElem_toArray, List.getElem_cons_succ, List.getElem_cons_zero]
          refine wpAnyH_take (i := 7) (v := ?_) rfl (by kernel_rfl) (by kernel_rfl) (by kernel_rfl) (fun _ _ _ h => h) (Or.inl ⟨by kernel_rfl, ?_⟩) (by assumption) ?_
          rotate_left
          · intro wv hSw
            go_simp
            try with_reducible rfl
          simp only [Act.put, List.setIfInBounds_toArray, List.set_cons_zero, List.set_cons_succ, List.getElem_toArray, List.getElem_cons_succ, List.getElem_cons_zero]
          refine wpAnyH_take (i := 8) (v := ?_) rfl (by kernel_rfl) (by kernel_rfl) (by kernel_rfl) (fun _ _ _ h => h) (Or.inl ⟨by kernel_rfl, ?_⟩) (by assumption) ?_
          rotate_left
          · intro wv hSw
            go_simp
            try with_reducible rfl
          simp only [Act.put, List.setIfInBounds_toArray, List.set_cons_zero, List.set_cons_succ, List.getElem_toArray, List.getElem_cons_succ, List.getElem_cons_zero]
          refine wpAnyH_take (i := 9) (v := ?_) rfl (by kernel_rfl) (by kernel_rfl) (by kernel_rfl) (fun _ _ _ h => h) (Or.inl ⟨by kernel_rfl, ?_⟩) (by assumption) ?_
          rotate_left
          · intro wv hSw
            go_simp
            try with_reducible rfl
          simp only [Act.put, List.setIfInBounds_toArray, List.set_cons_zero, List.set_cons_succ, List.getElem_toArray, List.getElem_cons_succ, List.getElem_cons_zero]
          refine wpAnyH_take (i := 10) (v := ?_) rfl (by kernel_rfl) (by kernel_rfl) (by kernel_rfl) (fun _ _ _ h => h) (Or.inl ⟨by kernel_rfl, ?_⟩) (by assumption) ?_
          rotate_left
          · intro wv hSw
            go_simp
            try with_reducible rfl
          simp only [Act.put, List.setIfInBounds_toArray, List.set_cons_zero, List.set_cons_succ, List.getElem_toArray, List.getElem_cons_succ, List.getElem_cons_zero]
          refine wpAnyH_take (i := 11) (v := ?_) rfl (by kernel_rfl) (by kernel_rfl) (by kernel_rfl) (fun _ _ _ h => h) (Or.inl ⟨by kernel_rfl, ?_⟩) (by assumption) ?_
          rotate_left
          · intro wv hSw
            go_simp
            try with_reducible rfl
          simp only [Act.put, List.setIfInBounds_toArray, List.set_cons_zero, List.set_cons_succ, List.getElem_toArray, List.getElem_cons_succ, List.getElem_cons_zero]
          refine wpAnyH_take (i := 12) (v := ?_) rfl (by kernel_rfl) (by kernel_rfl) (by kernel_rfl) (fun _ _ _ h => h) (Or.inl ⟨by kernel_rfl, ?_⟩) (by assumption) ?_
          rotate_left
          · intro wv hSw
            obtain ⟨_, s0, s1⟩ := hSw
            go_simp
            try with_reducible rfl
          simp only [Act.put, List.setIfInBounds_toArray, List.set_cons_zero, List.set_cons_succ, List.getElem_toArray, List.getElem_cons_succ, List.getElem_cons_zero]
          refine wpAnyH_take (i := 13) (v := ?_) rfl (by kernel_rfl) (by kernel_rfl) (by kernel_rfl) (fun _ _ _ h => h) (Or.inl ⟨by kernel_rfl, ?_⟩) (by assumption) ?_
          rotate_left
          · intro wv hSw
            go_simp
            try with_reducible rfl
          simp only [Act.put, List.setIfInBounds_toArray, List.set_cons_zero, List.set_cons_succ, List.getElem_toArray, List.getElem_cons_succ, List.getElem_cons_zero]
          refine wpAnyH_take (i := 14) (v := ?_) rfl (by kernel_rfl) (by kernel_rfl) (by kernel_rfl) (fun _ _ _ h => h) (Or.inl ⟨by kernel_rfl, ?_⟩) (by assumption) ?_
          rotate_left
          · intro wv hSw
            go_simp
            try with_reducible rfl
          simp only [Act.put, List.setIfInBounds_toArray, List.set_cons_zero, List.set_cons_succ, List.getElem_toArray, List.getElem_cons_succ, List.getElem_cons_zero]
          refine wpAnyH_take (i := 15) (v := ?_) rfl (by kernel_rfl) (by kernel_rfl) (by kernel_rfl) (fun _ _ _ h => h) (Or.inl ⟨by kernel_rfl, ?_⟩) (by assumption) ?_
          rotate_left
          · intro wv hSw
            go_simp
            try with_reducible rfl
          simp only [Act.put, List.setIfInBounds_toArray, List.set_cons_zero, List.set_cons_succ, List.getElem_toArray, List.getElem_cons_succ, List.getElem_cons_zero]
          have HSA := Lib.hid (HSd.out.alloc (.cells #[.int .u64 (x : Nat), .int .u64 (y.2 : Nat), .int .u64 (y.1 : Nat), .int .u64 ((x - 1 : Nat) : Nat)] 25))
          clear HSd
          refine wpAnyH_ready (rs := [16]) (by kernel_rfl) (by simp) ?_
          refine AllReadyH.cons rfl (fun K hK => ?_) AllReadyH.nil
          go_simp
          refine hK.out _ _ ⟨⟨_, _, HSA.out⟩, rd_cells HR.out HSA.out.2 hlt' HYE.out⟩ (fun hHeld2 => ?_)
          clear hK K hHeld
          have hHeld := hHeld2
          clear hHeld2
          try simp only [Act.put, List.setIfInBounds_toArray, List.set_cons_zero, List.set_cons_succ, List.getElem_toArray, List.getElem_cons_succ, List.getElem_cons_zero]
          refine wpAnyH_ready (rs := [17]) (by kernel_rfl) (by simp) ?_
          refine AllReadyH.cons rfl (fun K hK => ?_) AllReadyH.nil
          rw [if_pos (by kernel_rfl)]
          refine wp_append_own _ _ _ 22 rfl w.heap.size 25 i0 (.agg #[.int .u64 0, .int .u64 0]) 2 16 Try.underlying22 HI0.out.1 HI0.out.2.1 HI0.out.2.2.1 HI0.out.2.2.2 rfl (by decide) _ (pre ++ [y]).length (cellsR (pre ++ [y])) rfl HSA.out.1 ⟨_, 0, none⟩ 2 2 (cellsR [(x, y.2), (y.1, x - 1)]) rfl rfl (cells_new4 _ (x, y.2) (y.1, x - 1)) (ones_R _) (by unfold maxLen; simp only [List.length_append, List.length_singleton]; omega) (by simp only [List.length_append, List.length_singleton]; omega) HSA.out.2.size ?_
          intro v7 W7 hown hgr _
          have HS7 := Lib.hid (SR.nextL (M := [(x, y.2), (y.1, x - 1)]) HSA.out hown hgr)
          clear hown hgr
          refine hK.out _ _ ⟨⟨_, _, HS7.out⟩, rd_cells HR.out HS7.out.2 hlt' HYE.out⟩ (fun hHeld2 => ?_)
          clear hK K hHeld HSA
          have hHeld := hHeld2
          clear hHeld2
          try simp only [Act.put, List.setIfInBounds_toArray, List.set_cons_zero, List.set_cons_succ, List.getElem_toArray, List.getElem_cons_succ, List.getElem_cons_zero]
          refine wpAnyH_take (i := 18) (v := ?_) rfl (by kernel_rfl) (by kernel_rfl) (by kernel_rfl) (fun _ _ _ h => h) (Or.inl ⟨by kernel_rfl, ?_⟩) (by assumption) ?_
          rotate_left
          · intro wv hSw
            go_simp
            try with_reducible rfl
          simp only [Act.put, List.setIfInBounds_toArray, List.set_cons_zero, List.set_cons_succ, List.getElem_toArray, List.getElem_cons_succ, List.getElem_cons_zero]
          refine wpAnyH_done (by kernel_rfl) ?_ _
          refine NoPanic.normal ?_
          clear hHeld
          go_wp2_with fail
          go_roundw
          case rel => exact ⟨k, by omega, by go_num, by rw [HK.out, HP.out, ← List.append_assoc]; exact HS7⟩
          case measure => simp [intOf]
        · have HP : Hid (pcs x y = [y] ++ []) := Lib.hid (by unfold pcs; rw [if_neg (by omega)])
          go_wp2_with fail
          go_roundw
          case rel => exact ⟨k, by omega, by go_num, by rw [HK.out, HP.out, List.append_nil]; exact HS5⟩
          case measure => simp [intOf]
      · have HP : Hid (pcs x y = [y] ++ []) := Lib.hid (by unfold pcs; rw [if_neg (by omega)])
        go_wp2_with fail
        go_roundw
        case rel => exact ⟨k, by omega, by go_num, by rw [HK.out, HP.out, List.append_nil]; exact HS5⟩
        case measure => simp [intOf]
    | zero =>
      have e0 : ((0 : Nat) : Int) - 1 = -1 := by omega
      rw [e0]
      obtain ⟨a1, cap1, rfl, hrd1, hc1⟩ := HS.out.rdc
      have G1 : Hid (RW wr a1 (backL x zs 0).length cap1 (backL x zs 0)) := Lib.hid ⟨rfl, hrd1, by have := HLE.out 0; omega, backL_ok HX.out HR.out.2.2.2.1 0, hc1⟩
      have HSS : Hid (LO w a n cap zs a2 n2 cap2 z2 wr) := Lib.hid ⟨HR.out.keep HS.out.2, HR2.out.keep HS.out.2, HS.out.2⟩
      have HBK : Hid (∀ y, hasL (backL x zs 0) y = hasL zs y) := Lib.hid (backL_has x zs)
      have hk1 := HLE.out 0
      clear HS hrd1 hc1 HBE HLE e0
      have HS := HSS
      clear HSS
      generalize hbl : (backL x zs 0).length = k1 at *
      clear hbl
      generalize backL x zs 0 = ns1 at *
      go_wp2_with (first | (go_at_call 11; refine (q11 _ _ _ _ zs HS.out.1).mono ?_) | fail)
      rintro e W21 ⟨a3, k3, cap3, ns3, rfl, hg, hk, hr, hp, hb⟩
      have G3 := Lib.hid hg
      have P3 := Lib.hid (And.intro hk (And.intro hr hp))
      clear hg hk hr hp
      replace HS := Lib.hid (HS.out.keep hb)
      replace G1 := Lib.hid (G1.out.keep hb)
      clear hb
      obtain ⟨t, ht⟩ := sub_ex zs z2
      have HT := Lib.hid ht
      clear ht
      have hk3 : k3 ≤ 40 := by have := P3.out.1; omega
      have HRR : Hid (rightL zs = true ∨ rightL zs = false) := Lib.hid (by cases rightL zs <;> simp)
      rcases HRR.out with hrr | hrr
      · have HRZ := Lib.hid hrr
        clear hrr
        go_wp2_with (first | (go_at_call 11; refine (q11 _ _ _ _ ns1 G1.out).mono ?_) | fail)
        rintro e W22 ⟨a4, k4, cap4, ns4, rfl, hg, hk, hr, hp, hb⟩
        have G4 := Lib.hid hg
        have P4 := Lib.hid (And.intro hk (And.intro hr hp))
        clear hg hk hr hp
        replace HS := Lib.hid (HS.out.keep hb)
        replace G1 := Lib.hid (G1.out.keep hb)
        replace G3 := Lib.hid (G3.out.keep hb)
        clear hb
        go_wp2_with (first | (go_at_call 10; refine (q10 _ _ _ _ ns4 _ _ _ ns3 true (same_of P4.out.2.1 P3.out.2.1 (fun y => by rw [P4.out.2.2, HBK.out, P3.out.2.2])) G4.out G3.out).mono ?_) | fail)
        rintro e W23 ⟨rfl, hb⟩
        replace HS := Lib.hid (HS.out.keep hb)
        replace G1 := Lib.hid (G1.out.keep hb)
        replace G3 := Lib.hid (G3.out.keep hb)
        replace G4 := Lib.hid (G4.out.keep hb)
        clear hb
        go_wp2_with (first | (go_at_call 11; refine (q11 _ _ _ _ ns3 G3.out).mono ?_) | fail)
        rintro e W24 ⟨a5, k5, cap5, ns5, rfl, hg, hk, hr, hp, hb⟩
        have G5 := Lib.hid hg
        have P5 := Lib.hid (And.intro hk (And.intro hr hp))
        clear hg hk hr hp
        replace HS := Lib.hid (HS.out.keep hb)
        replace G1 := Lib.hid (G1.out.keep hb)
        replace G3 := Lib.hid (G3.out.keep hb)
        replace G4 := Lib.hid (G4.out.keep hb)
        clear hb
        go_wp2_with (first | (go_at_call 10; refine (q10 _ _ _ _ ns5 _ _ _ ns3 true (same_of P5.out.2.1 P3.out.2.1 (fun y => P5.out.2.2 y)) G5.out G3.out).mono ?_) | fail)
        rintro e W25 ⟨rfl, hb⟩
        replace HS := Lib.hid (HS.out.keep hb)
        replace G1 := Lib.hid (G1.out.keep hb)
        replace G3 := Lib.hid (G3.out.keep hb)
        replace G4 := Lib.hid (G4.out.keep hb)
        replace G5 := Lib.hid (G5.out.keep hb)
        clear hb
        go_wp2_with (first | (go_at_call 17; refine (q13 17 (Or.inr rfl) _ _ _ _ zs _ _ _ z2 HS.out.1 HS.out.2.1 (by omega)).mono ?_) | fail)
        rintro e W26 ⟨a6, k6, cap6, ns6, rfl, hg, hk, hr, hp, hb⟩
        have G6 := Lib.hid hg
        have P6 := Lib.hid (And.intro hk (And.intro hr hp))
        clear hg hk hr hp
        replace HS := Lib.hid (HS.out.keep hb)
        replace G1 := Lib.hid (G1.out.keep hb)
        replace G3 := Lib.hid (G3.out.keep hb)
        replace G4 := Lib.hid (G4.out.keep hb)
        replace G5 := Lib.hid (G5.out.keep hb)
        clear hb
        go_wp2_with (first | (go_at_call 17; refine (q13 17 (Or.inr rfl) _ _ _ _ z2 _ _ _ zs HS.out.2.1 HS.out.1 (by omega)).mono ?_) | fail)
        rintro e W27 ⟨a7, k7, cap7, ns7, rfl, hg, hk, hr, hp, hb⟩
        have G7 := Lib.hid hg
        have P7 := Lib.hid (And.intro hk (And.intro hr hp))
        clear hg hk hr hp
        replace HS := Lib.hid (HS.out.keep hb)
        replace G1 := Lib.hid (G1.out.keep hb)
        replace G3 := Lib.hid (G3.out.keep hb)
        replace G4 := Lib.hid (G4.out.keep hb)
        replace G5 := Lib.hid (G5.out.keep hb)
        replace G6 := Lib.hid (G6.out.keep hb)
        clear hb
        go_wp2_with (first | (go_at_call 10; refine (q10 _ _ _ _ ns6 _ _ _ ns7 true (same_of P6.out.2.1 P7.out.2.1 (fun y => by rw [P6.out.2.2, P7.out.2.2, Bool.or_comm])) G6.out G7.out).mono ?_) | fail)
        rintro e W28 ⟨rfl, hb⟩
        replace HS := Lib.hid (HS.out.keep hb)
        replace G1 := Lib.hid (G1.out.keep hb)
        replace G3 := Lib.hid (G3.out.keep hb)
        replace G4 := Lib.hid (G4.out.keep hb)
        replace G5 := Lib.hid (G5.out.keep hb)
        replace G6 := Lib.hid (G6.out.keep hb)
        replace G7 := Lib.hid (G7.out.keep hb)
        clear hb
        go_wp2_with (first | (go_at_call 13; refine (q13 13 (Or.inl rfl) _ _ _ _ ns3 _ _ _ [] G3.out (rw0 _) (by omega)).mono ?_) | fail)
        rintro e W29 ⟨a8, k8, cap8, ns8, rfl, hg, hk, hr, hp, hb⟩
        have G8 := Lib.hid hg
        have P8 := Lib.hid (And.intro hk (And.intro hr hp))
        clear hg hk hr hp
        replace HS := Lib.hid (HS.out.keep hb)
        replace G1 := Lib.hid (G1.out.keep hb)
        replace G3 := Lib.hid (G3.out.keep hb)
        replace G4 := Lib.hid (G4.out.keep hb)
        replace G5 := Lib.hid (G5.out.keep hb)
        replace G6 := Lib.hid (G6.out.keep hb)
        replace G7 := Lib.hid (G7.out.keep hb)
        clear hb
        go_wp2_with (first | (go_at_call 10; refine (q10 _ _ _ _ ns8 _ _ _ ns3 true (same_of P8.out.2.1 P3.out.2.1 (fun y => by rw [P8.out.2.2]; simp [hasL])) G8.out G3.out).mono ?_) | fail)
        rintro e W30 ⟨rfl, hb⟩
        replace HS := Lib.hid (HS.out.keep hb)
        replace G1 := Lib.hid (G1.out.keep hb)
        replace G3 := Lib.hid (G3.out.keep hb)
        replace G4 := Lib.hid (G4.out.keep hb)
        replace G5 := Lib.hid (G5.out.keep hb)
        replace G6 := Lib.hid (G6.out.keep hb)
        replace G7 := Lib.hid (G7.out.keep hb)
        replace G8 := Lib.hid (G8.out.keep hb)
        clear hb
        go_wp2_with (first | (go_at_call 8; refine (q8 _ _ _ _ zs true HRZ.out HS.out.1).mono ?_) | fail)
        rintro e W31 ⟨rfl, hb⟩
        replace HS := Lib.hid (HS.out.keep hb)
        replace G1 := Lib.hid (G1.out.keep hb)
        replace G3 := Lib.hid (G3.out.keep hb)
        replace G4 := Lib.hid (G4.out.keep hb)
        replace G5 := Lib.hid (G5.out.keep hb)
        replace G6 := Lib.hid (G6.out.keep hb)
        replace G7 := Lib.hid (G7.out.keep hb)
        replace G8 := Lib.hid (G8.out.keep hb)
        clear hb
        go_wp2_with (first | (go_at_call 10; refine (q10 _ _ _ _ ns3 _ _ _ zs true (same_of P3.out.2.1 HRZ.out (fun y => P3.out.2.2 y)) G3.out HS.out.1).mono ?_) | fail)
        rintro e W32 ⟨rfl, hb⟩
        replace HS := Lib.hid (HS.out.keep hb)
        replace G1 := Lib.hid (G1.out.keep hb)
        replace G3 := Lib.hid (G3.out.keep hb)
        replace G4 := Lib.hid (G4.out.keep hb)
        replace G5 := Lib.hid (G5.out.keep hb)
        replace G6 := Lib.hid (G6.out.keep hb)
        replace G7 := Lib.hid (G7.out.keep hb)
        replace G8 := Lib.hid (G8.out.keep hb)
        clear hb
        go_wp2_with (first | (go_at_call 21; refine (q21 _ _ _ _ zs _ _ _ z2 t HT.out HS.out.1 HS.out.2.1).mono ?_) | fail)
        rintro e W33 ⟨rfl, hb⟩
        replace HS := Lib.hid (HS.out.keep hb)
        replace G1 := Lib.hid (G1.out.keep hb)
        replace G3 := Lib.hid (G3.out.keep hb)
        replace G4 := Lib.hid (G4.out.keep hb)
        replace G5 := Lib.hid (G5.out.keep hb)
        replace G6 := Lib.hid (G6.out.keep hb)
        replace G7 := Lib.hid (G7.out.keep hb)
        replace G8 := Lib.hid (G8.out.keep hb)
        clear hb
        go_wp2_with (first | (go_at_call 17; refine (q13 17 (Or.inr rfl) _ _ _ _ zs _ _ _ z2 HS.out.1 HS.out.2.1 (by omega)).mono ?_) | fail)
        rintro e W34 ⟨a9, k9, cap9, ns9, rfl, hg, hk, hr, hp, hb⟩
        have G9 := Lib.hid hg
        have P9 := Lib.hid (And.intro hk (And.intro hr hp))
        clear hg hk hr hp
        replace HS := Lib.hid (HS.out.keep hb)
        replace G1 := Lib.hid (G1.out.keep hb)
        replace G3 := Lib.hid (G3.out.keep hb)
        replace G4 := Lib.hid (G4.out.keep hb)
        replace G5 := Lib.hid (G5.out.keep hb)
        replace G6 := Lib.hid (G6.out.keep hb)
        replace G7 := Lib.hid (G7.out.keep hb)
        replace G8 := Lib.hid (G8.out.keep hb)
        clear hb
        go_wp2_with (first | (go_at_call 11; refine (q11 _ _ _ _ z2 HS.out.2.1).mono ?_) | fail)
        rintro e W35 ⟨a10, k10, cap10, ns10, rfl, hg, hk, hr, hp, hb⟩
        have G10 := Lib.hid hg
        have P10 := Lib.hid (And.intro hk (And.intro hr hp))
        clear hg hk hr hp
        replace HS := Lib.hid (HS.out.keep hb)
        replace G1 := Lib.hid (G1.out.keep hb)
        replace G3 := Lib.hid (G3.out.keep hb)
        replace G4 := Lib.hid (G4.out.keep hb)
        replace G5 := Lib.hid (G5.out.keep hb)
        replace G6 := Lib.hid (G6.out.keep hb)
        replace G7 := Lib.hid (G7.out.keep hb)
        replace G8 := Lib.hid (G8.out.keep hb)
        replace G9 := Lib.hid (G9.out.keep hb)
        clear hb
        go_wp2_with (first | (go_at_call 10; refine (q10 _ _ _ _ ns9 _ _ _ ns10 t (sub_join HT.out P9.out.2.1 P10.out.2.1 P9.out.2.2 P10.out.2.2) G9.out G10.out).mono ?_) | fail)
        rintro e W36 ⟨rfl, hb⟩
        replace HS := Lib.hid (HS.out.keep hb)
        replace G1 := Lib.hid (G1.out.keep hb)
        replace G3 := Lib.hid (G3.out.keep hb)
        replace G4 := Lib.hid (G4.out.keep hb)
        replace G5 := Lib.hid (G5.out.keep hb)
        replace G6 := Lib.hid (G6.out.keep hb)
        replace G7 := Lib.hid (G7.out.keep hb)
        replace G8 := Lib.hid (G8.out.keep hb)
        replace G9 := Lib.hid (G9.out.keep hb)
        replace G10 := Lib.hid (G10.out.keep hb)
        clear hb
        go_wp2_with (first | (go_at_call 17; refine (q13 17 (Or.inr rfl) _ _ _ _ zs _ _ _ z2 HS.out.1 HS.out.2.1 (by omega)).mono ?_) | fail)
        rintro e W37 ⟨a11, k11, cap11, ns11, rfl, hg, hk, hr, hp, hb⟩
        have G11 := Lib.hid hg
        have P11 := Lib.hid (And.intro hk (And.intro hr hp))
        clear hg hk hr hp
        replace HS := Lib.hid (HS.out.keep hb)
        replace G1 := Lib.hid (G1.out.keep hb)
        replace G3 := Lib.hid (G3.out.keep hb)
        replace G4 := Lib.hid (G4.out.keep hb)
        replace G5 := Lib.hid (G5.out.keep hb)
        replace G6 := Lib.hid (G6.out.keep hb)
        replace G7 := Lib.hid (G7.out.keep hb)
        replace G8 := Lib.hid (G8.out.keep hb)
        replace G9 := Lib.hid (G9.out.keep hb)
        replace G10 := Lib.hid (G10.out.keep hb)
        clear hb
        go_wp2_with (first | (go_at_call 21; refine (q21 _ _ _ _ zs _ _ _ ns11 true (sub_own P11.out.2.2) HS.out.1 G11.out).mono ?_) | fail)
        rintro e W38 ⟨rfl, hb⟩
        replace HS := Lib.hid (HS.out.keep hb)
        replace G1 := Lib.hid (G1.out.keep hb)
        replace G3 := Lib.hid (G3.out.keep hb)
        replace G4 := Lib.hid (G4.out.keep hb)
        replace G5 := Lib.hid (G5.out.keep hb)
        replace G6 := Lib.hid (G6.out.keep hb)
        replace G7 := Lib.hid (G7.out.keep hb)
        replace G8 := Lib.hid (G8.out.keep hb)
        replace G9 := Lib.hid (G9.out.keep hb)
        replace G10 := Lib.hid (G10.out.keep hb)
        replace G11 := Lib.hid (G11.out.keep hb)
        clear hb
        go_wp2_with (first | (go_at_call 21; refine (q21 _ _ _ _ zs _ _ _ zs true (sub_self zs) HS.out.1 HS.out.1).mono ?_) | fail)
        rintro e W39 ⟨rfl, hb⟩
        replace HS := Lib.hid (HS.out.keep hb)
        replace G1 := Lib.hid (G1.out.keep hb)
        replace G3 := Lib.hid (G3.out.keep hb)
        replace G4 := Lib.hid (G4.out.keep hb)
        replace G5 := Lib.hid (G5.out.keep hb)
        replace G6 := Lib.hid (G6.out.keep hb)
        replace G7 := Lib.hid (G7.out.keep hb)
        replace G8 := Lib.hid (G8.out.keep hb)
        replace G9 := Lib.hid (G9.out.keep hb)
        replace G10 := Lib.hid (G10.out.keep hb)
        replace G11 := Lib.hid (G11.out.keep hb)
        clear hb
        go_wp2_with (first | (go_at_call 7; refine (wakes_any _).mono ?_) | fail)
        rintro e W40 ⟨rfl, hb⟩
        replace HS := Lib.hid (HS.out.keep hb)
        replace G1 := Lib.hid (G1.out.keep hb)
        replace G3 := Lib.hid (G3.out.keep hb)
        replace G4 := Lib.hid (G4.out.keep hb)
        replace G5 := Lib.hid (G5.out.keep hb)
        replace G6 := Lib.hid (G6.out.keep hb)
        replace G7 := Lib.hid (G7.out.keep hb)
        replace G8 := Lib.hid (G8.out.keep hb)
        replace G9 := Lib.hid (G9.out.keep hb)
        replace G10 := Lib.hid (G10.out.keep hb)
        replace G11 := Lib.hid (G11.out.keep hb)
        clear hb
        go_wp2_with fail
        go_ret
        exact ⟨rfl, HS.out.2.2⟩
      · have HRZ := Lib.hid hrr
        clear hrr
        go_wp2_with (first | (go_at_call 11; refine (q11 _ _ _ _ ns1 G1.out).mono ?_) | fail)
        rintro e W22 ⟨a4, k4, cap4, ns4, rfl, hg, hk, hr, hp, hb⟩
        have G4 := Lib.hid hg
        have P4 := Lib.hid (And.intro hk (And.intro hr hp))
        clear hg hk hr hp
        replace HS := Lib.hid (HS.out.keep hb)
        replace G1 := Lib.hid (G1.out.keep hb)
        replace G3 := Lib.hid (G3.out.keep hb)
        clear hb
        go_wp2_with (first | (go_at_call 10; refine (q10 _ _ _ _ ns4 _ _ _ ns3 true (same_of P4.out.2.1 P3.out.2.1 (fun y => by rw [P4.out.2.2, HBK.out, P3.out.2.2])) G4.out G3.out).mono ?_) | fail)
        rintro e W23 ⟨rfl, hb⟩
        replace HS := Lib.hid (HS.out.keep hb)
        replace G1 := Lib.hid (G1.out.keep hb)
        replace G3 := Lib.hid (G3.out.keep hb)
        replace G4 := Lib.hid (G4.out.keep hb)
        clear hb
        go_wp2_with (first | (go_at_call 11; refine (q11 _ _ _ _ ns3 G3.out).mono ?_) | fail)
        rintro e W24 ⟨a5, k5, cap5, ns5, rfl, hg, hk, hr, hp, hb⟩
        have G5 := Lib.hid hg
        have P5 := Lib.hid (And.intro hk (And.intro hr hp))
        clear hg hk hr hp
        replace HS := Lib.hid (HS.out.keep hb)
        replace G1 := Lib.hid (G1.out.keep hb)
        replace G3 := Lib.hid (G3.out.keep hb)
        replace G4 := Lib.hid (G4.out.keep hb)
        clear hb
        go_wp2_with (first | (go_at_call 10; refine (q10 _ _ _ _ ns5 _ _ _ ns3 true (same_of P5.out.2.1 P3.out.2.1 (fun y => P5.out.2.2 y)) G5.out G3.out).mono ?_) | fail)
        rintro e W25 ⟨rfl, hb⟩
        replace HS := Lib.hid (HS.out.keep hb)
        replace G1 := Lib.hid (G1.out.keep hb)
        replace G3 := Lib.hid (G3.out.keep hb)
        replace G4 := Lib.hid (G4.out.keep hb)
        replace G5 := Lib.hid (G5.out.keep hb)
        clear hb
        go_wp2_with (first | (go_at_call 17; refine (q13 17 (Or.inr rfl) _ _ _ _ zs _ _ _ z2 HS.out.1 HS.out.2.1 (by omega)).mono ?_) | fail)
        rintro e W26 ⟨a6, k6, cap6, ns6, rfl, hg, hk, hr, hp, hb⟩
        have G6 := Lib.hid hg
        have P6 := Lib.hid (And.intro hk (And.intro hr hp))
        clear hg hk hr hp
        replace HS := Lib.hid (HS.out.keep hb)
        replace G1 := Lib.hid (G1.out.keep hb)
        replace G3 := Lib.hid (G3.out.keep hb)
        replace G4 := Lib.hid (G4.out.keep hb)
        replace G5 := Lib.hid (G5.out.keep hb)
        clear hb
        go_wp2_with (first | (go_at_call 17; refine (q13 17 (Or.inr rfl) _ _ _ _ z2 _ _ _ zs HS.out.2.1 HS.out.1 (by omega)).mono ?_) | fail)
        rintro e W27 ⟨a7, k7, cap7, ns7, rfl, hg, hk, hr, hp, hb⟩
        have G7 := Lib.hid hg
        have P7 := Lib.hid (And.intro hk (And.intro hr hp))
        clear hg hk hr hp
        replace HS := Lib.hid (HS.out.keep hb)
        replace G1 := Lib.hid (G1.out.keep hb)
        replace G3 := Lib.hid (G3.out.keep hb)
        replace G4 := Lib.hid (G4.out.keep hb)
        replace G5 := Lib.hid (G5.out.keep hb)
        replace G6 := Lib.hid (G6.out.keep hb)
        clear hb
        go_wp2_with (first | (go_at_call 10; refine (q10 _ _ _ _ ns6 _ _ _ ns7 true (same_of P6.out.2.1 P7.out.2.1 (fun y => by rw [P6.out.2.2, P7.out.2.2, Bool.or_comm])) G6.out G7.out).mono ?_) | fail)
        rintro e W28 ⟨rfl, hb⟩
        replace HS := Lib.hid (HS.out.keep hb)
        replace G1 := Lib.hid (G1.out.keep hb)
        replace G3 := Lib.hid (G3.out.keep hb)
        replace G4 := Lib.hid (G4.out.keep hb)
        replace G5 := Lib.hid (G5.out.keep hb)
        replace G6 := Lib.hid (G6.out.keep hb)
        replace G7 := Lib.hid (G7.out.keep hb)
        clear hb
        go_wp2_with (first | (go_at_call 13; refine (q13 13 (Or.inl rfl) _ _ _ _ ns3 _ _ _ [] G3.out (rw0 _) (by omega)).mono ?_) | fail)
        rintro e W29 ⟨a8, k8, cap8, ns8, rfl, hg, hk, hr, hp, hb⟩
        have G8 := Lib.hid hg
        have P8 := Lib.hid (And.intro hk (And.intro hr hp))
        clear hg hk hr hp
        replace HS := Lib.hid (HS.out.keep hb)
        replace G1 := Lib.hid (G1.out.keep hb)
        replace G3 := Lib.hid (G3.out.keep hb)
        replace G4 := Lib.hid (G4.out.keep hb)
        replace G5 := Lib.hid (G5.out.keep hb)
        replace G6 := Lib.hid (G6.out.keep hb)
        replace G7 := Lib.hid (G7.out.keep hb)
        clear hb
        go_wp2_with (first | (go_at_call 10; refine (q10 _ _ _ _ ns8 _ _ _ ns3 true (same_of P8.out.2.1 P3.out.2.1 (fun y => by rw [P8.out.2.2]; simp [hasL])) G8.out G3.out).mono ?_) | fail)
        rintro e W30 ⟨rfl, hb⟩
        replace HS := Lib.hid (HS.out.keep hb)
        replace G1 := Lib.hid (G1.out.keep hb)
        replace G3 := Lib.hid (G3.out.keep hb)
        replace G4 := Lib.hid (G4.out.keep hb)
        replace G5 := Lib.hid (G5.out.keep hb)
        replace G6 := Lib.hid (G6.out.keep hb)
        replace G7 := Lib.hid (G7.out.keep hb)
        replace G8 := Lib.hid (G8.out.keep hb)
        clear hb
        go_wp2_with (first | (go_at_call 8; refine (q8 _ _ _ _ zs false HRZ.out HS.out.1).mono ?_) | fail)
        rintro e W31 ⟨rfl, hb⟩
        replace HS := Lib.hid (HS.out.keep hb)
        replace G1 := Lib.hid (G1.out.keep hb)
        replace G3 := Lib.hid (G3.out.keep hb)
        replace G4 := Lib.hid (G4.out.keep hb)
        replace G5 := Lib.hid (G5.out.keep hb)
        replace G6 := Lib.hid (G6.out.keep hb)
        replace G7 := Lib.hid (G7.out.keep hb)
        replace G8 := Lib.hid (G8.out.keep hb)
        clear hb
        go_wp2_with (first | (go_at_call 21; refine (q21 _ _ _ _ zs _ _ _ z2 t HT.out HS.out.1 HS.out.2.1).mono ?_) | fail)
        rintro e W32 ⟨rfl, hb⟩
        replace HS := Lib.hid (HS.out.keep hb)
        replace G1 := Lib.hid (G1.out.keep hb)
        replace G3 := Lib.hid (G3.out.keep hb)
        replace G4 := Lib.hid (G4.out.keep hb)
        replace G5 := Lib.hid (G5.out.keep hb)
        replace G6 := Lib.hid (G6.out.keep hb)
        replace G7 := Lib.hid (G7.out.keep hb)
        replace G8 := Lib.hid (G8.out.keep hb)
        clear hb
        go_wp2_with (first | (go_at_call 17; refine (q13 17 (Or.inr rfl) _ _ _ _ zs _ _ _ z2 HS.out.1 HS.out.2.1 (by omega)).mono ?_) | fail)
        rintro e W33 ⟨a9, k9, cap9, ns9, rfl, hg, hk, hr, hp, hb⟩
        have G9 := Lib.hid hg
        have P9 := Lib.hid (And.intro hk (And.intro hr hp))
        clear hg hk hr hp
        replace HS := Lib.hid (HS.out.keep hb)
        replace G1 := Lib.hid (G1.out.keep hb)
        replace G3 := Lib.hid (G3.out.keep hb)
        replace G4 := Lib.hid (G4.out.keep hb)
        replace G5 := Lib.hid (G5.out.keep hb)
        replace G6 := Lib.hid (G6.out.keep hb)
        replace G7 := Lib.hid (G7.out.keep hb)
        replace G8 := Lib.hid (G8.out.keep hb)
        clear hb
        go_wp2_with (first | (go_at_call 11; refine (q11 _ _ _ _ z2 HS.out.2.1).mono ?_) | fail)
        rintro e W34 ⟨a10, k10, cap10, ns10, rfl, hg, hk, hr, hp, hb⟩
        have G10 := Lib.hid hg
        have P10 := Lib.hid (And.intro hk (And.intro hr hp))
        clear hg hk hr hp
        replace HS := Lib.hid (HS.out.keep hb)
        replace G1 := Lib.hid (G1.out.keep hb)
        replace G3 := Lib.hid (G3.out.keep hb)
        replace G4 := Lib.hid (G4.out.keep hb)
        replace G5 := Lib.hid (G5.out.keep hb)
        replace G6 := Lib.hid (G6.out.keep hb)
        replace G7 := Lib.hid (G7.out.keep hb)
        replace G8 := Lib.hid (G8.out.keep hb)
        replace G9 := Lib.hid (G9.out.keep hb)
        clear hb
        go_wp2_with (first | (go_at_call 10; refine (q10 _ _ _ _ ns9 _ _ _ ns10 t (sub_join HT.out P9.out.2.1 P10.out.2.1 P9.out.2.2 P10.out.2.2) G9.out G10.out).mono ?_) | fail)
        rintro e W35 ⟨rfl, hb⟩
        replace HS := Lib.hid (HS.out.keep hb)
        replace G1 := Lib.hid (G1.out.keep hb)
        replace G3 := Lib.hid (G3.out.keep hb)
        replace G4 := Lib.hid (G4.out.keep hb)
        replace G5 := Lib.hid (G5.out.keep hb)
        replace G6 := Lib.hid (G6.out.keep hb)
        replace G7 := Lib.hid (G7.out.keep hb)
        replace G8 := Lib.hid (G8.out.keep hb)
        replace G9 := Lib.hid (G9.out.keep hb)
        replace G10 := Lib.hid (G10.out.keep hb)
        clear hb
        go_wp2_with (first | (go_at_call 17; refine (q13 17 (Or.inr rfl) _ _ _ _ zs _ _ _ z2 HS.out.1 HS.out.2.1 (by omega)).mono ?_) | fail)
        rintro e W36 ⟨a11, k11, cap11, ns11, rfl, hg, hk, hr, hp, hb⟩
        have G11 := Lib.hid hg
        have P11 := Lib.hid (And.intro hk (And.intro hr hp))
        clear hg hk hr hp
        replace HS := Lib.hid (HS.out.keep hb)
        replace G1 := Lib.hid (G1.out.keep hb)
        replace G3 := Lib.hid (G3.out.keep hb)
        replace G4 := Lib.hid (G4.out.keep hb)
        replace G5 := Lib.hid (G5.out.keep hb)
        replace G6 := Lib.hid (G6.out.keep hb)
        replace G7 := Lib.hid (G7.out.keep hb)
        replace G8 := Lib.hid (G8.out.keep hb)
        replace G9 := Lib.hid (G9.out.keep hb)
        replace G10 := Lib.hid (G10.out.keep hb)
        clear hb
        go_wp2_with (first | (go_at_call 21; refine (q21 _ _ _ _ zs _ _ _ ns11 true (sub_own P11.out.2.2) HS.out.1 G11.out).mono ?_) | fail)
        rintro e W37 ⟨rfl, hb⟩
        replace HS := Lib.hid (HS.out.keep hb)
        replace G1 := Lib.hid (G1.out.keep hb)
        replace G3 := Lib.hid (G3.out.keep hb)
        replace G4 := Lib.hid (G4.out.keep hb)
        replace G5 := Lib.hid (G5.out.keep hb)
        replace G6 := Lib.hid (G6.out.keep hb)
        replace G7 := Lib.hid (G7.out.keep hb)
        replace G8 := Lib.hid (G8.out.keep hb)
        replace G9 := Lib.hid (G9.out.keep hb)
        replace G10 := Lib.hid (G10.out.keep hb)
        replace G11 := Lib.hid (G11.out.keep hb)
        clear hb
        go_wp2_with (first | (go_at_call 21; refine (q21 _ _ _ _ zs _ _ _ zs true (sub_self zs) HS.out.1 HS.out.1).mono ?_) | fail)
        rintro e W38 ⟨rfl, hb⟩
        replace HS := Lib.hid (HS.out.keep hb)
        replace G1 := Lib.hid (G1.out.keep hb)
        replace G3 := Lib.hid (G3.out.keep hb)
        replace G4 := Lib.hid (G4.out.keep hb)
        replace G5 := Lib.hid (G5.out.keep hb)
        replace G6 := Lib.hid (G6.out.keep hb)
        replace G7 := Lib.hid (G7.out.keep hb)
        replace G8 := Lib.hid (G8.out.keep hb)
        replace G9 := Lib.hid (G9.out.keep hb)
        replace G10 := Lib.hid (G10.out.keep hb)
        replace G11 := Lib.hid (G11.out.keep hb)
        clear hb
        go_wp2_with (first | (go_at_call 7; refine (wakes_any _).mono ?_) | fail)
        rintro e W39 ⟨rfl, hb⟩
        replace HS := Lib.hid (HS.out.keep hb)
        replace G1 := Lib.hid (G1.out.keep hb)
        replace G3 := Lib.hid (G3.out.keep hb)
        replace G4 := Lib.hid (G4.out.keep hb)
        replace G5 := Lib.hid (G5.out.keep hb)
        replace G6 := Lib.hid (G6.out.keep hb)
        replace G7 := Lib.hid (G7.out.keep hb)
        replace G8 := Lib.hid (G8.out.keep hb)
        replace G9 := Lib.hid (G9.out.keep hb)
        replace G10 := Lib.hid (G10.out.keep hb)
        replace G11 := Lib.hid (G11.out.keep hb)
        clear hb
        go_wp2_with fail
        go_ret
        exact ⟨rfl, HS.out.2.2⟩
end Go.Proofs.Ytaaflkjdcablcaa
