/- slices.symMerge. -/
import Derived.Test.YtegbhjmghkbgmaaSh
import Derived.Test.YtegbhjmghkbgmaaSi
namespace Go.Proofs.Ytegbhjmghkbgmaa
open Go.RowKit Go.Shelf
set_option linter.unusedVariables false
set_option linter.unusedSimpArgs false
attribute [local go_sem] Oper.semAt_some
set_option maxRecDepth 100000 in
set_option maxHeartbeats 16000000 in
theorem merge_gen (K g cap a m b : Nat) (L : List Sy) (R : List Value) (hA1 : a + 2 ≤ m) (hB1 : m + 2 ≤ b) (hb : b ≤ L.length) (hN : L.length ≤ 1000000) (uA : Up (cut L a m)) (uB : Up (cut L m b)) (w : World) (h : QY w g L R) (hK : b - a ≤ K)
    (hIH : ∀ (a m b : Nat) (L : List Sy) (w : World), b - a < K → a < m → m < b → b ≤ L.length → L.length ≤ 1000000 → Up (cut L a m) → Up (cut L m b) → QY w g L R → Calls Try.prog 44 #[.slice (some ⟨g, 0, none⟩) L.length cap, .int .i64 (a : Nat), .int .i64 (m : Nat), .int .i64 (b : Nat), .func (.func 31) #[] #[]] w fun e W' => e = .returned (.tuple #[]) ∧ ∃ L', Srt L L' a b ∧ QY W' g L' R ∧ w.grownBy W' (some g)) :
    Calls Try.prog 44 #[.slice (some ⟨g, 0, none⟩) L.length cap, .int .i64 (a : Nat), .int .i64 (m : Nat), .int .i64 (b : Nat), .func (.func 31) #[] #[]] w fun e W' => e = .returned (.tuple #[]) ∧ ∃ L', Srt L L' a b ∧ QY W' g L' R ∧ w.grownBy W' (some g) := by
  have HS0 := Lib.hid (show QY w g L R ∧ w.grownBy w (some g) from ⟨h, rfl, rfl, rfl, Nat.le_refl _, fun _ _ _ => rfl⟩)
  have HUP := Lib.hid (And.intro uA uB)
  have HKK := Lib.hid hK
  obtain ⟨N, hn⟩ : ∃ N, L.length = N := ⟨_, rfl⟩
  have HL := Lib.hid hn
  rw [hn] at hN hb ⊢
  have HIH : Hid (∀ (a m b : Nat) (L : List Sy) (w : World), b - a < K → a < m → m < b → b ≤ N → L.length = N → Up (cut L a m) → Up (cut L m b) → QY w g L R → Calls Try.prog 44 #[.slice (some ⟨g, 0, none⟩) N cap, .int .i64 (a : Nat), .int .i64 (m : Nat), .int .i64 (b : Nat), .func (.func 31) #[] #[]] w fun e W' => e = .returned (.tuple #[]) ∧ ∃ L', Srt L L' a b ∧ QY W' g L' R ∧ w.grownBy W' (some g)) := Lib.hid (fun a m b L w h1 h2 h3 h4 h5 h6 h7 h8 => by
    have h9 := hIH a m b L w h1 h2 h3 (by omega) (by omega) h6 h7 h8
    rw [h5] at h9
    exact h9)
  clear hn hIH uA uB h hK
  obtain ⟨ab, hab2⟩ : ∃ ab, a + b = ab := ⟨_, rfl⟩
  obtain ⟨md, hmd2⟩ : ∃ md, ab / 2 = md := ⟨_, rfl⟩
  obtain ⟨nn, hnn2⟩ : ∃ nn, md + m = nn := ⟨_, rfl⟩
  obtain ⟨pp, hpp2⟩ : ∃ pp, nn - 1 = pp := ⟨_, rfl⟩
  obtain ⟨ma, hma⟩ : ∃ ma, m - a = ma := ⟨_, rfl⟩
  obtain ⟨bm, hbm⟩ : ∃ bm, b - m = bm := ⟨_, rfl⟩
  have ema : (m : Int) - (a : Int) = (ma : Int) := by omega
  have uma : IntKind.i64.wrap (ma : Int) = (ma : Int) := IntWalk.i64_in _ (by omega)
  have dma : ((ma : Int) == 1) = false := by
    rw [beq_eq_false_iff_ne]
    omega
  have nma : ¬ (ma : Int) = 1 := by omega
  have nma2 : ¬ ma = 1 := by omega
  have ebm : (b : Int) - (m : Int) = (bm : Int) := by omega
  have ubm : IntKind.i64.wrap (bm : Int) = (bm : Int) := IntWalk.i64_in _ (by omega)
  have dbm : ((bm : Int) == 1) = false := by
    rw [beq_eq_false_iff_ne]
    omega
  have nbm : ¬ (bm : Int) = 1 := by omega
  have nbm2 : ¬ bm = 1 := by omega
  have e1 : (a : Int) + (b : Int) = (ab : Int) := by omega
  have bab : ab < 3000000 := by omega
  have e2 : (ab : Int) / 2 = (md : Int) := by omega
  have bmd : md < 3000000 := by omega
  have e3 : (md : Int) + (m : Int) = (nn : Int) := by omega
  have bnn : nn < 6000000 := by omega
  have e4 : (nn : Int) - 1 = (pp : Int) := by omega
  have upp : IntKind.i64.wrap (pp : Int) = (pp : Int) := IntWalk.i64_in _ (by omega)
  clear hma hbm
  go_enter Try.func44, Try.ntmps44
  by_cases hv : md < m
  · skip
    have hmd : md < m := hv
    have hmd' : (md : Int) < (m : Int) := by omega
    obtain ⟨lo, hlo⟩ : ∃ lo, nn - b = lo := ⟨_, rfl⟩
    have elo : (nn : Int) - (b : Int) = (lo : Int) := by omega
    have ulo : IntKind.i64.wrap (lo : Int) = (lo : Int) := IntWalk.i64_in _ (by omega)
    have HA := Lib.hid (And.intro hA1 (And.intro hB1 (And.intro hab2 (And.intro hmd2 (And.intro hnn2 (And.intro hpp2 (And.intro hb hlo)))))))
    go_wp2_with fail
    go_loopw [20, 21] (fun u v wr => ∃ s r : Nat, lo ≤ s ∧ s ≤ r ∧ r ≤ md ∧ u = .int .i64 s ∧ v = .int .i64 r ∧ Hid ((s = lo ∨ ¬ kf L (pp - (s - 1)) < kf L (s - 1)) ∧ (r = md ∨ kf L (pp - r) < kf L r)) ∧ Hid (QY wr g L R ∧ w.grownBy wr (some g))) (fun u v _ => (intOf v).toNat - (intOf u).toNat)
    case atStart => exact ⟨lo, md, Nat.le_refl _, by omega, Nat.le_refl _, by first | done | rfl | go_num, by first | done | rfl | go_num, Lib.hid ⟨.inl rfl, .inl rfl⟩, HS0⟩
    case round =>
      clear HS0
      obtain ⟨s, r, hs1, hs2, hs3, rfl, rfl, HI, HS⟩ := hrel
      by_cases hlt : s < r
      · obtain ⟨sr, hsr⟩ : ∃ sr, s + r = sr := ⟨_, rfl⟩
        obtain ⟨c, hcc⟩ : ∃ c, sr / 2 = c := ⟨_, rfl⟩
        obtain ⟨pc, hpc⟩ : ∃ pc, pp - c = pc := ⟨_, rfl⟩
        have e1 : (s : Int) + (r : Int) = (sr : Int) := by omega
        have bsr : sr < 3000000 := by omega
        have e2 : (sr : Int) / 2 = (c : Int) := by omega
        have bc : c < 3000000 := by omega
        have e3 : (pp : Int) - (c : Int) = (pc : Int) := by omega
        have bcN : c < N := by omega
        have bcN2 : (c : Int) < (N : Int) := by omega
        have bpN : pc < N := by omega
        have bpN2 : (pc : Int) < (N : Int) := by omega
        have upc : IntKind.i64.wrap (pc : Int) = (pc : Int) := IntWalk.i64_in _ (by omega)
        obtain ⟨x, hx⟩ : ∃ x, L[pc]? = some x := ⟨L[pc]'(by rw [HL.out]; exact bpN), List.getElem?_eq_getElem _⟩
        obtain ⟨y, hy⟩ : ∃ y, L[c]? = some y := ⟨L[c]'(by rw [HL.out]; exact bcN), List.getElem?_eq_getElem _⟩
        have HX := Lib.hid (And.intro hx (And.intro hy True.intro))
        have kx := kf_at hx
        have ky := kf_at hy
        have HK2 := Lib.hid (And.intro kx ky)
        clear hx hy kx ky
        have HJ : Hid (QY (World.drew wr) g L R ∧ w.grownBy (World.drew wr) (some g)) := Lib.hid ⟨HS.out.1, HS.out.2.trans (grown_below' (Below.refl _ wr).drew _)⟩
        clear HS
        have HCM := Lib.hid (fun W => cmpY_any x y W)
        unfold Sy.v at HCM
        have HC := Lib.hid (And.intro hs1 (And.intro hs2 (And.intro hs3 (And.intro hlt (And.intro hsr (And.intro hcc hpc))))))
        clear hA1 hB1 hab2 hmd2 hnn2 hpp2 hsr hcc hpc hs1 hs2 hs3
        by_cases hxy : x.2.1 < y.2.1
        · have hc : cmpI x.2.1 y.2.1 < 0 := cmpI_lt.2 hxy
          have HXY := Lib.hid hxy
          generalize cmpI x.2.1 y.2.1 = q at HCM hc
          have dc : decide (q < 0) = true := decide_eq_true hc
          clear hxy
          go_upto_region 35 with fail
          refine wp_region_noPanic ?_
          refine wp_region_held_drew (S := fun W : World => QY W g L R ∧ w.grownBy W (some g)) (by kernel_rfl) ?_ (fun hHeld => ?_)
          · exact HJ.out
          clear HJ
          generalize World.drew _ = V at hHeld ⊢
          refine wpAnyH_take (i := 0) (v := ?_) rfl (by kernel_rfl) (by kernel_rfl) (by kernel_rfl) (fun _ _ _ h => h) (Or.inl ⟨by kernel_rfl, ?_⟩) hHeld ?_
          rotate_left
          · intro wv hSw
            go_simp
            try with_reducible rfl
          simp only [Act.put, List.setIfInBounds_toArray, List.set_cons_zero, List.set_cons_succ, List.getElem_toArray, List.getElem_cons_succ, List.getElem_cons_zero]
          refine wpAnyH_take (i := 1) (v := ?_) rfl (by kernel_rfl) (by kernel_rfl) (by kernel_rfl) (fun _ _ _ h => h) (Or.inl ⟨by kernel_rfl, ?_⟩) hHeld ?_
          rotate_left
          · intro wv hSw
            go_simp
            try with_reducible rfl
          simp only [Act.put, List.setIfInBounds_toArray, List.set_cons_zero, List.set_cons_succ, List.getElem_toArray, List.getElem_cons_succ, List.getElem_cons_zero]
          refine wpAnyH_take (i := 2) (v := ?_) rfl (by kernel_rfl) (by kernel_rfl) (by kernel_rfl) (fun _ _ _ h => h) (Or.inl ⟨by kernel_rfl, ?_⟩) hHeld ?_
          rotate_left
          · intro wv hSw
            go_simp
            try with_reducible rfl
          simp only [Act.put, List.setIfInBounds_toArray, List.set_cons_zero, List.set_cons_succ, List.getElem_toArray, List.getElem_cons_succ, List.getElem_cons_zero]
          refine wpAnyH_take (i := 3) (v := ?_) rfl (by kernel_rfl) (by kernel_rfl) (by kernel_rfl) (fun _ _ _ h => h) (Or.inl ⟨by kernel_rfl, ?_⟩) hHeld ?_
          rotate_left
          · intro wv hSw
            go_simp
            try with_reducible rfl
          simp only [Act.put, List.setIfInBounds_toArray, List.set_cons_zero, List.set_cons_succ, List.getElem_toArray, List.getElem_cons_succ, List.getElem_cons_zero]
          refine wpAnyH_take (i := 4) (v := ?_) rfl (by kernel_rfl) (by kernel_rfl) (by kernel_rfl) (fun _ _ _ h => h) (Or.inl ⟨by kernel_rfl, ?_⟩) hHeld ?_
          rotate_left
          · intro wv hSw
            go_simp
            try with_reducible rfl
          simp only [Act.put, List.setIfInBounds_toArray, List.set_cons_zero, List.set_cons_succ, List.getElem_toArray, List.getElem_cons_succ, List.getElem_cons_zero]
          refine wpAnyH_take (i := 5) (v := ?_) rfl (by kernel_rfl) (by kernel_rfl) (by kernel_rfl) (fun _ _ _ h => h) (Or.inl ⟨by kernel_rfl, ?_⟩) hHeld ?_
          rotate_left
          · intro wv hSw
            go_simp
            try with_reducible rfl
          simp only [Act.put, List.setIfInBounds_toArray, List.set_cons_zero, List.set_cons_succ, List.getElem_toArray, List.getElem_cons_succ, List.getElem_cons_zero]
          refine wpAnyH_take (i := 6) (v := ?_) rfl (by kernel_rfl) (by kernel_rfl) (by kernel_rfl) (fun _ _ _ h => h) (Or.inl ⟨by kernel_rfl, ?_⟩) hHeld ?_
          rotate_left
          · intro wv hSw
            obtain ⟨f0, f1, f2, f3⟩ := QY.at hSw.1 HX.out.1
            go_simp
            try with_reducible rfl
          simp only [Act.put, List.setIfInBounds_toArray, List.set_cons_zero, List.set_cons_succ, List.getElem_toArray, List.getElem_cons_succ, List.getElem_cons_zero]
          refine wpAnyH_take (i := 7) (v := ?_) rfl (by kernel_rfl) (by kernel_rfl) (by kernel_rfl) (fun _ _ _ h => h) (Or.inl ⟨by kernel_rfl, ?_⟩) hHeld ?_
          rotate_left
          · intro wv hSw
            go_simp
            try with_reducible rfl
          simp only [Act.put, List.setIfInBounds_toArray, List.set_cons_zero, List.set_cons_succ, List.getElem_toArray, List.getElem_cons_succ, List.getElem_cons_zero]
          refine wpAnyH_take (i := 8) (v := ?_) rfl (by kernel_rfl) (by kernel_rfl) (by kernel_rfl) (fun _ _ _ h => h) (Or.inl ⟨by kernel_rfl, ?_⟩) hHeld ?_
          rotate_left
          · intro wv hSw
            go_simp
            try with_reducible rfl
          simp only [Act.put, List.setIfInBounds_toArray, List.set_cons_zero, List.set_cons_succ, List.getElem_toArray, List.getElem_cons_succ, List.getElem_cons_zero]
          refine wpAnyH_take (i := 9) (v := ?_) rfl (by kernel_rfl) (by kernel_rfl) (by kernel_rfl) (fun _ _ _ h => h) (Or.inl ⟨by kernel_rfl, ?_⟩) hHeld ?_
          rotate_left
          · intro wv hSw
            go_simp
            try with_reducible rfl
          simp only [Act.put, List.setIfInBounds_toArray, List.set_cons_zero, List.set_cons_succ, List.getElem_toArray, List.getElem_cons_succ, List.getElem_cons_zero]
          refine wpAnyH_take (i := 10) (v := ?_) rfl (by kernel_rfl) (by kernel_rfl) (by kernel_rfl) (fun _ _ _ h => h) (Or.inl ⟨by kernel_rfl, ?_⟩) hHeld ?_
          rotate_left
          · intro wv hSw
            obtain ⟨f0, f1, f2, f3⟩ := QY.at hSw.1 HX.out.2.1
            go_simp
            try with_reducible rfl
          simp only [Act.put, List.setIfInBounds_toArray, List.set_cons_zero, List.set_cons_succ, List.getElem_toArray, List.getElem_cons_succ, List.getElem_cons_zero]
          refine wpAnyH_ready (rs := [11]) (by kernel_rfl) (by simp) ?_
          refine AllReadyH.cons rfl (fun K hK => ?_) AllReadyH.nil
          go_simp
          go_at_call 31
          refine (HCM.out _).mono ?_
          first | (rintro e W9x rfl hb2) | (rintro e W9x ⟨rfl, hb2⟩)
          have hN9 : QY W9x g L R ∧ w.grownBy W9x (some g) := ⟨hHeld.1.keep hb2, hHeld.2.trans (grown_below' hb2 _)⟩
          refine hK.out _ _ hN9 (fun hHeld2 => ?_)
          clear hK K hHeld hHeld2 hb2
          have hHeld : (fun W : World => QY W g L R ∧ w.grownBy W (some g)) W9x := hN9
          clear hN9
          try simp only [Act.put, List.setIfInBounds_toArray, List.set_cons_zero, List.set_cons_succ, List.getElem_toArray, List.getElem_cons_succ, List.getElem_cons_zero]
          refine wpAnyH_take (i := 12) (v := ?_) rfl (by kernel_rfl) (by kernel_rfl) (by kernel_rfl) (fun _ _ _ h => h) (Or.inl ⟨by kernel_rfl, ?_⟩) hHeld ?_
          rotate_left
          · intro wv hSw
            go_simp
            try with_reducible rfl
          simp only [Act.put, List.setIfInBounds_toArray, List.set_cons_zero, List.set_cons_succ, List.getElem_toArray, List.getElem_cons_succ, List.getElem_cons_zero]
          refine wpAnyH_take (i := 13) (v := ?_) rfl (by kernel_rfl) (by kernel_rfl) (by kernel_rfl) (fun _ _ _ h => h) (Or.inl ⟨by kernel_rfl, ?_⟩) hHeld ?_
          rotate_left
          · intro wv hSw
            go_simp
            try with_reducible rfl
          simp only [Act.put, List.setIfInBounds_toArray, List.set_cons_zero, List.set_cons_succ, List.getElem_toArray, List.getElem_cons_succ, List.getElem_cons_zero]
          refine wpAnyH_done (by kernel_rfl) ?_ _
          refine NoPanic.normal ?_
          have HQ2 := Lib.hid hHeld
          clear hHeld
          clear HCM
          go_wp2_with fail
          go_roundw
          case rel => exact ⟨s, c, by have := HC.out; omega, by have := HC.out; omega, by have := HC.out; omega, rfl, by first | done | rfl | go_num, Lib.hid ⟨HI.out.1, .inr (by rw [HC.out.2.2.2.2.2.2, HK2.out.1, HK2.out.2]; exact HXY.out)⟩, HQ2⟩
          case measure => have := HC.out; simp [intOf]; omega
        · have hc : ¬ cmpI x.2.1 y.2.1 < 0 := fun h => hxy (cmpI_lt.1 h)
          have HXY := Lib.hid hxy
          generalize cmpI x.2.1 y.2.1 = q at HCM hc
          have dc : decide (q < 0) = false := decide_eq_false hc
          clear hxy
          go_upto_region 35 with fail
          refine wp_region_noPanic ?_
          refine wp_region_held_drew (S := fun W : World => QY W g L R ∧ w.grownBy W (some g)) (by kernel_rfl) ?_ (fun hHeld => ?_)
          · exact HJ.out
          clear HJ
          generalize World.drew _ = V at hHeld ⊢
          refine wpAnyH_take (i := 0) (v := ?_) rfl (by kernel_rfl) (by kernel_rfl) (by kernel_rfl) (fun _ _ _ h => h) (Or.inl ⟨by kernel_rfl, ?_⟩) hHeld ?_
          rotate_left
          · intro wv hSw
            go_simp
            try with_reducible rfl
          simp only [Act.put, List.setIfInBounds_toArray, List.set_cons_zero, List.set_cons_succ, List.getElem_toArray, List.getElem_cons_succ, List.getElem_cons_zero]
          refine wpAnyH_take (i := 1) (v := ?_) rfl (by kernel_rfl) (by kernel_rfl) (by kernel_rfl) (fun _ _ _ h => h) (Or.inl ⟨by kernel_rfl, ?_⟩) hHeld ?_
          rotate_left
          · intro wv hSw
            go_simp
            try with_reducible rfl
          simp only [Act.put, List.setIfInBounds_toArray, List.set_cons_zero, List.set_cons_succ, List.getElem_toArray, List.getElem_cons_succ, List.getElem_cons_zero]
          refine wpAnyH_take (i := 2) (v := ?_) rfl (by kernel_rfl) (by kernel_rfl) (by kernel_rfl) (fun _ _ _ h => h) (Or.inl ⟨by kernel_rfl, ?_⟩) hHeld ?_
          rotate_left
          · intro wv hSw
            go_simp
            try with_reducible rfl
          simp only [Act.put, List.setIfInBounds_toArray, List.set_cons_zero, List.set_cons_succ, List.getElem_toArray, List.getElem_cons_succ, List.getElem_cons_zero]
          refine wpAnyH_take (i := 3) (v := ?_) rfl (by kernel_rfl) (by kernel_rfl) (by kernel_rfl) (fun _ _ _ h => h) (Or.inl ⟨by kernel_rfl, ?_⟩) hHeld ?_
          rotate_left
          · intro wv hSw
            go_simp
            try with_reducible rfl
          simp only [Act.put, List.setIfInBounds_toArray, List.set_cons_zero, List.set_cons_succ, List.getElem_toArray, List.getElem_cons_succ, List.getElem_cons_zero]
          refine wpAnyH_take (i := 4) (v := ?_) rfl (by kernel_rfl) (by kernel_rfl) (by kernel_rfl) (fun _ _ _ h => h) (Or.inl ⟨by kernel_rfl, ?_⟩) hHeld ?_
          rotate_left
          · intro wv hSw
            go_simp
            try with_reducible rfl
          simp only [Act.put, List.setIfInBounds_toArray, List.set_cons_zero, List.set_cons_succ, List.getElem_toArray, List.getElem_cons_succ, List.getElem_cons_zero]
          refine wpAnyH_take (i := 5) (v := ?_) rfl (by kernel_rfl) (by kernel_rfl) (by kernel_rfl) (fun _ _ _ h => h) (Or.inl ⟨by kernel_rfl, ?_⟩) hHeld ?_
          rotate_left
          · intro wv hSw
            go_simp
            try with_reducible rfl
          simp only [Act.put, List.setIfInBounds_toArray, List.set_cons_zero, List.set_cons_succ, List.getElem_toArray, List.getElem_cons_succ, List.getElem_cons_zero]
          refine wpAnyH_take (i := 6) (v := ?_) rfl (by kernel_rfl) (by kernel_rfl) (by kernel_rfl) (fun _ _ _ h => h) (Or.inl ⟨by kernel_rfl, ?_⟩) hHeld ?_
          rotate_left
          · intro wv hSw
            obtain ⟨f0, f1, f2, f3⟩ := QY.at hSw.1 HX.out.1
            go_simp
            try with_reducible rfl
          simp only [Act.put, List.setIfInBounds_toArray, List.set_cons_zero, List.set_cons_succ, List.getElem_toArray, List.getElem_cons_succ, List.getElem_cons_zero]
          refine wpAnyH_take (i := 7) (v := ?_) rfl (by kernel_rfl) (by kernel_rfl) (by kernel_rfl) (fun _ _ _ h => h) (Or.inl ⟨by kernel_rfl, ?_⟩) hHeld ?_
          rotate_left
          · intro wv hSw
            go_simp
            try with_reducible rfl
          simp only [Act.put, List.setIfInBounds_toArray, List.set_cons_zero, List.set_cons_succ, List.getElem_toArray, List.getElem_cons_succ, List.getElem_cons_zero]
          refine wpAnyH_take (i := 8) (v := ?_) rfl (by kernel_rfl) (by kernel_rfl) (by kernel_rfl) (fun _ _ _ h => h) (Or.inl ⟨by kernel_rfl, ?_⟩) hHeld ?_
          rotate_left
          · intro wv hSw
            go_simp
            try with_reducible rfl
          simp only [Act.put, List.setIfInBounds_toArray, List.set_cons_zero, List.set_cons_succ, List.getElem_toArray, List.getElem_cons_succ, List.getElem_cons_zero]
          refine wpAnyH_take (i := 9) (v := ?_) rfl (by kernel_rfl) (by kernel_rfl) (by kernel_rfl) (fun _ _ _ h => h) (Or.inl ⟨by kernel_rfl, ?_⟩) hHeld ?_
          rotate_left
          · intro wv hSw
            go_simp
            try with_reducible rfl
          simp only [Act.put, List.setIfInBounds_toArray, List.set_cons_zero, List.set_cons_succ, List.getElem_toArray, List.getElem_cons_succ, List.getElem_cons_zero]
          refine wpAnyH_take (i := 10) (v := ?_) rfl (by kernel_rfl) (by kernel_rfl) (by kernel_rfl) (fun _ _ _ h => h) (Or.inl ⟨by kernel_rfl, ?_⟩) hHeld ?_
          rotate_left
          · intro wv hSw
            obtain ⟨f0, f1, f2, f3⟩ := QY.at hSw.1 HX.out.2.1
            go_simp
            try with_reducible rfl
          simp only [Act.put, List.setIfInBounds_toArray, List.set_cons_zero, List.set_cons_succ, List.getElem_toArray, List.getElem_cons_succ, List.getElem_cons_zero]
          refine wpAnyH_ready (rs := [11]) (by kernel_rfl) (by simp) ?_
          refine AllReadyH.cons rfl (fun K hK => ?_) AllReadyH.nil
          go_simp
          go_at_call 31
          refine (HCM.out _).mono ?_
          first | (rintro e W9x rfl hb2) | (rintro e W9x ⟨rfl, hb2⟩)
          have hN9 : QY W9x g L R ∧ w.grownBy W9x (some g) := ⟨hHeld.1.keep hb2, hHeld.2.trans (grown_below' hb2 _)⟩
          refine hK.out _ _ hN9 (fun hHeld2 => ?_)
          clear hK K hHeld hHeld2 hb2
          have hHeld : (fun W : World => QY W g L R ∧ w.grownBy W (some g)) W9x := hN9
          clear hN9
          try simp only [Act.put, List.setIfInBounds_toArray, List.set_cons_zero, List.set_cons_succ, List.getElem_toArray, List.getElem_cons_succ, List.getElem_cons_zero]
          refine wpAnyH_take (i := 12) (v := ?_) rfl (by kernel_rfl) (by kernel_rfl) (by kernel_rfl) (fun _ _ _ h => h) (Or.inl ⟨by kernel_rfl, ?_⟩) hHeld ?_
          rotate_left
          · intro wv hSw
            go_simp
            try with_reducible rfl
          simp only [Act.put, List.setIfInBounds_toArray, List.set_cons_zero, List.set_cons_succ, List.getElem_toArray, List.getElem_cons_succ, List.getElem_cons_zero]
          refine wpAnyH_take (i := 13) (v := ?_) rfl (by kernel_rfl) (by kernel_rfl) (by kernel_rfl) (fun _ _ _ h => h) (Or.inl ⟨by kernel_rfl, ?_⟩) hHeld ?_
          rotate_left
          · intro wv hSw
            go_simp
            try with_reducible rfl
          simp only [Act.put, List.setIfInBounds_toArray, List.set_cons_zero, List.set_cons_succ, List.getElem_toArray, List.getElem_cons_succ, List.getElem_cons_zero]
          refine wpAnyH_done (by kernel_rfl) ?_ _
          refine NoPanic.normal ?_
          have HQ2 := Lib.hid hHeld
          clear hHeld
          clear HCM
          go_wp2_with fail
          go_roundw
          case rel => exact ⟨c + 1, r, by have := HC.out; omega, by have := HC.out; omega, by have := HC.out; omega, by first | done | rfl | go_num, rfl, Lib.hid ⟨.inr (by rw [Nat.add_sub_cancel, HC.out.2.2.2.2.2.2, HK2.out.1, HK2.out.2]; exact HXY.out), HI.out.2⟩, HQ2⟩
          case measure => have := HC.out; simp [intOf]; omega
      · obtain rfl : s = r := by omega
        obtain ⟨ee, hee⟩ : ∃ ee, nn - s = ee := ⟨_, rfl⟩
        have eee : (nn : Int) - (s : Int) = (ee : Int) := by omega
        have uee : IntKind.i64.wrap (ee : Int) = (ee : Int) := IntWalk.i64_in _ (by omega)
        have HM : Hid (a ≤ s ∧ s ≤ m ∧ m ≤ ee ∧ ee ≤ b ∧ s + (ee - m) = md ∧ (∀ x y, s < m → m < ee → L[s]? = some x → L[ee - 1]? = some y → y.2.1 < x.2.1) ∧ (∀ x y, a < s → ee < b → L[s - 1]? = some x → L[ee]? = some y → x.2.1 ≤ y.2.1)) := Lib.hid ⟨by omega, by omega, by omega, by omega, by omega, fun x y q1 q2 hx hy => by
          have q3 := HI.out.2.resolve_left (by omega)
          rw [show pp - s = ee - 1 by omega, kf_at hx, kf_at hy] at q3
          exact q3, fun x y q1 q2 hx hy => by
          have q3 := HI.out.1.resolve_left (by omega)
          rw [show pp - (s - 1) = ee by omega, kf_at hx, kf_at hy] at q3
          omega⟩
        have HG0 := HS
        have HK : Hid (a + 2 ≤ m ∧ m + 2 ≤ b ∧ a < md ∧ md < b ∧ b - a ≤ K) := Lib.hid ⟨hA1, hB1, by omega, by omega, HKK.out⟩
        have HBL : Hid (b ≤ L.length) := Lib.hid (by rw [HL.out]; exact hb)
        have HBN : Hid (b ≤ N) := Lib.hid hb
        have HMN : Hid (md ≤ N) := Lib.hid (by omega)
        have HNN : Hid (N ≤ 1000000) := Lib.hid hN
        clear HS hs1 hs2 hs3 hlt hA1 hB1 hab2 hmd2 hnn2 hpp2 hee HI HA
        by_cases a1 : s < m
        · have a1' : (s : Int) < (m : Int) := by omega
          by_cases a2 : m < ee
          · have a2' : (m : Int) < (ee : Int) := by omega
            have HRO := Lib.hid (show Calls Try.prog 45 #[.slice (some ⟨g, 0, none⟩) N cap, .int .i64 (s : Nat), .int .i64 (m : Nat), .int .i64 (ee : Nat), .func (.func 31) #[] #[]] wr fun e W' => e = .returned (.tuple #[]) ∧ QY W' g (turned L s m ee) R ∧ wr.grownBy W' (some g) from by
              have h5 := rotate_any g cap s m ee L (turned L s m ee) R (.func (.func 31) #[] #[]) a1 a2 (by rw [HL.out]; exact HNN.out) (turned_ro (Nat.le_of_lt a1) (Nat.le_of_lt a2) (Nat.le_trans HM.out.2.2.2.1 HBL.out)) wr HG0.out.1
              rw [HL.out] at h5
              exact h5)
            go_wp2_with (first | (go_at_call 45; refine HRO.out.mono ?_) | fail)
            first | (rintro e W0 ⟨rfl, q2, q3⟩) | (rintro e W0 rfl q2 q3)
            have HM1 := Lib.hid (turned_mid (Nat.le_of_lt a1) (Nat.le_of_lt a2) (Nat.le_trans HM.out.2.2.2.1 HBL.out) HM.out.2.2.2.2.1)
            have HG1 := Lib.hid (And.intro q2 (HG0.out.2.trans q3))
            clear q2 q3 HRO a1 a2 a1' a2'
            generalize turned L s m ee = L1 at HM1 HG1
            have HL1 := Lib.hid (HM1.out.len.trans HL.out)
            obtain ⟨W, hWW⟩ : ∃ W, W0 = W := ⟨_, rfl⟩
            rw [hWW] at HG1 ⊢
            clear hWW
            by_cases b1 : a < s
            · have b1' : (a : Int) < (s : Int) := by omega
              by_cases b2 : s < md
              · have b2' : (s : Int) < (md : Int) := by omega
                have HUU := Lib.hid (HM1.out.up1 HM.out.1 HM.out.2.1 HM.out.2.2.1 HM.out.2.2.2.1 HUP.out.1 HUP.out.2)
                have HC := Lib.hid (HIH.out a s md L1 W (by have := HK.out; omega) b1 b2 HMN.out HL1.out HUU.out.1 HUU.out.2 HG1.out.1)
                go_wp2_with (first | (go_at_call 44; refine HC.out.mono ?_) | fail)
                first | (rintro e W1 rfl L2 q1 q2 q3) | (rintro e W1 rfl ⟨L2, q1, q2, q3⟩) | (rintro e W1 ⟨rfl, L2, q1, q2, q3⟩)
                have HS2 := Lib.hid q1
                have HL2 := Lib.hid (q1.len.trans HL1.out)
                have HG2 := Lib.hid (And.intro q2 (HG1.out.2.trans q3))
                clear q1 q2 q3 HC HUU b1 b2 b1' b2'
                revert HG2
                generalize W1 = W9
                intro HG2
                obtain ⟨W, hWW⟩ : ∃ W, W9 = W := ⟨_, rfl⟩
                rw [hWW] at HG2 ⊢
                clear hWW
                by_cases c1 : md < ee
                · have c1' : (md : Int) < (ee : Int) := by omega
                  by_cases c2 : ee < b
                  · have c2' : (ee : Int) < (b : Int) := by omega
                    have HUU := Lib.hid (HM1.out.up2 HM.out.1 HM.out.2.1 HM.out.2.2.1 HM.out.2.2.2.1 HM.out.2.2.2.2.1 HUP.out.1 HUP.out.2 HS2.out)
                    have HC := Lib.hid (HIH.out md ee b _ W (by have := HK.out; omega) c1 c2 HBN.out HL2.out HUU.out.1 HUU.out.2 HG2.out.1)
                    go_wp2_with (first | (go_at_call 44; refine HC.out.mono ?_) | fail)
                    first | (rintro e W2 rfl L3 q1 q2 q3) | (rintro e W2 rfl ⟨L3, q1, q2, q3⟩) | (rintro e W2 ⟨rfl, L3, q1, q2, q3⟩)
                    have HFIN := Lib.hid (Srt.merge HM.out.1 HM.out.2.1 HM.out.2.2.1 HM.out.2.2.2.1 HBL.out HM.out.2.2.2.2.1 HUP.out.1 HUP.out.2 HM.out.2.2.2.2.2.1 HM.out.2.2.2.2.2.2 HM1.out.len HM1.out.out HM1.out.r1 HM1.out.r2 HS2.out q1)
                    have HG := Lib.hid (And.intro q2 (HG2.out.2.trans q3))
                    clear q1 q2 q3 HC HUU
                    go_wp2_with fail
                    go_end0
                    exact ⟨rfl, _, HFIN.out, HG.out⟩
                  · have c2' : ¬ (ee : Int) < (b : Int) := by omega
                    have HFIN := Lib.hid (Srt.merge HM.out.1 HM.out.2.1 HM.out.2.2.1 HM.out.2.2.2.1 HBL.out HM.out.2.2.2.2.1 HUP.out.1 HUP.out.2 HM.out.2.2.2.2.2.1 HM.out.2.2.2.2.2.2 HM1.out.len HM1.out.out HM1.out.r1 HM1.out.r2 HS2.out (HM1.out.no2 HM.out.1 HM.out.2.1 HM.out.2.2.1 HM.out.2.2.2.1 HM.out.2.2.2.2.1 HUP.out.1 HUP.out.2 HS2.out (by have := HM.out.2.2.2.2.1; have := HM.out.2.2.2.1; have := HM.out.2.1; have := HM.out.2.2.1; omega)))
                    have HG := HG2
                    go_wp2_with fail
                    go_end0
                    exact ⟨rfl, _, HFIN.out, HG.out⟩
                · have c1' : ¬ (md : Int) < (ee : Int) := by omega
                  have HFIN := Lib.hid (Srt.merge HM.out.1 HM.out.2.1 HM.out.2.2.1 HM.out.2.2.2.1 HBL.out HM.out.2.2.2.2.1 HUP.out.1 HUP.out.2 HM.out.2.2.2.2.2.1 HM.out.2.2.2.2.2.2 HM1.out.len HM1.out.out HM1.out.r1 HM1.out.r2 HS2.out (HM1.out.no2 HM.out.1 HM.out.2.1 HM.out.2.2.1 HM.out.2.2.2.1 HM.out.2.2.2.2.1 HUP.out.1 HUP.out.2 HS2.out (by have := HM.out.2.2.2.2.1; have := HM.out.2.2.2.1; have := HM.out.2.1; have := HM.out.2.2.1; omega)))
                  have HG := HG2
                  go_wp2_with fail
                  go_end0
                  exact ⟨rfl, _, HFIN.out, HG.out⟩
              · have b2' : ¬ (s : Int) < (md : Int) := by omega
                have HS2 := Lib.hid (HM1.out.no1 HM.out.1 HM.out.2.1 HM.out.2.2.1 HM.out.2.2.2.1 HM.out.2.2.2.2.1 HUP.out.1 HUP.out.2 (by have := HM.out.2.2.2.2.1; have := HM.out.1; have := HM.out.2.1; have := HM.out.2.2.1; omega))
                have HL2 := HL1
                have HG2 := HG1
                by_cases c1 : md < ee
                · have c1' : (md : Int) < (ee : Int) := by omega
                  by_cases c2 : ee < b
                  · have c2' : (ee : Int) < (b : Int) := by omega
                    have HUU := Lib.hid (HM1.out.up2 HM.out.1 HM.out.2.1 HM.out.2.2.1 HM.out.2.2.2.1 HM.out.2.2.2.2.1 HUP.out.1 HUP.out.2 HS2.out)
                    have HC := Lib.hid (HIH.out md ee b _ W (by have := HK.out; omega) c1 c2 HBN.out HL2.out HUU.out.1 HUU.out.2 HG2.out.1)
                    go_wp2_with (first | (go_at_call 44; refine HC.out.mono ?_) | fail)
                    first | (rintro e W2 rfl L3 q1 q2 q3) | (rintro e W2 rfl ⟨L3, q1, q2, q3⟩) | (rintro e W2 ⟨rfl, L3, q1, q2, q3⟩)
                    have HFIN := Lib.hid (Srt.merge HM.out.1 HM.out.2.1 HM.out.2.2.1 HM.out.2.2.2.1 HBL.out HM.out.2.2.2.2.1 HUP.out.1 HUP.out.2 HM.out.2.2.2.2.2.1 HM.out.2.2.2.2.2.2 HM1.out.len HM1.out.out HM1.out.r1 HM1.out.r2 HS2.out q1)
                    have HG := Lib.hid (And.intro q2 (HG2.out.2.trans q3))
                    clear q1 q2 q3 HC HUU
                    go_wp2_with fail
                    go_end0
                    exact ⟨rfl, _, HFIN.out, HG.out⟩
                  · have c2' : ¬ (ee : Int) < (b : Int) := by omega
                    have HFIN := Lib.hid (Srt.merge HM.out.1 HM.out.2.1 HM.out.2.2.1 HM.out.2.2.2.1 HBL.out HM.out.2.2.2.2.1 HUP.out.1 HUP.out.2 HM.out.2.2.2.2.2.1 HM.out.2.2.2.2.2.2 HM1.out.len HM1.out.out HM1.out.r1 HM1.out.r2 HS2.out (HM1.out.no2 HM.out.1 HM.out.2.1 HM.out.2.2.1 HM.out.2.2.2.1 HM.out.2.2.2.2.1 HUP.out.1 HUP.out.2 HS2.out (by have := HM.out.2.2.2.2.1; have := HM.out.2.2.2.1; have := HM.out.2.1; have := HM.out.2.2.1; omega)))
                    have HG := HG2
                    go_wp2_with fail
                    go_end0
                    exact ⟨rfl, _, HFIN.out, HG.out⟩
                · have c1' : ¬ (md : Int) < (ee : Int) := by omega
                  have HFIN := Lib.hid (Srt.merge HM.out.1 HM.out.2.1 HM.out.2.2.1 HM.out.2.2.2.1 HBL.out HM.out.2.2.2.2.1 HUP.out.1 HUP.out.2 HM.out.2.2.2.2.2.1 HM.out.2.2.2.2.2.2 HM1.out.len HM1.out.out HM1.out.r1 HM1.out.r2 HS2.out (HM1.out.no2 HM.out.1 HM.out.2.1 HM.out.2.2.1 HM.out.2.2.2.1 HM.out.2.2.2.2.1 HUP.out.1 HUP.out.2 HS2.out (by have := HM.out.2.2.2.2.1; have := HM.out.2.2.2.1; have := HM.out.2.1; have := HM.out.2.2.1; omega)))
                  have HG := HG2
                  go_wp2_with fail
                  go_end0
                  exact ⟨rfl, _, HFIN.out, HG.out⟩
            · have b1' : ¬ (a : Int) < (s : Int) := by omega
              have HS2 := Lib.hid (HM1.out.no1 HM.out.1 HM.out.2.1 HM.out.2.2.1 HM.out.2.2.2.1 HM.out.2.2.2.2.1 HUP.out.1 HUP.out.2 (by have := HM.out.2.2.2.2.1; have := HM.out.1; have := HM.out.2.1; have := HM.out.2.2.1; omega))
              have HL2 := HL1
              have HG2 := HG1
              by_cases c1 : md < ee
              · have c1' : (md : Int) < (ee : Int) := by omega
                by_cases c2 : ee < b
                · have c2' : (ee : Int) < (b : Int) := by omega
                  have HUU := Lib.hid (HM1.out.up2 HM.out.1 HM.out.2.1 HM.out.2.2.1 HM.out.2.2.2.1 HM.out.2.2.2.2.1 HUP.out.1 HUP.out.2 HS2.out)
                  have HC := Lib.hid (HIH.out md ee b _ W (by have := HK.out; omega) c1 c2 HBN.out HL2.out HUU.out.1 HUU.out.2 HG2.out.1)
                  go_wp2_with (first | (go_at_call 44; refine HC.out.mono ?_) | fail)
                  first | (rintro e W2 rfl L3 q1 q2 q3) | (rintro e W2 rfl ⟨L3, q1, q2, q3⟩) | (rintro e W2 ⟨rfl, L3, q1, q2, q3⟩)
                  have HFIN := Lib.hid (Srt.merge HM.out.1 HM.out.2.1 HM.out.2.2.1 HM.out.2.2.2.1 HBL.out HM.out.2.2.2.2.1 HUP.out.1 HUP.out.2 HM.out.2.2.2.2.2.1 HM.out.2.2.2.2.2.2 HM1.out.len HM1.out.out HM1.out.r1 HM1.out.r2 HS2.out q1)
                  have HG := Lib.hid (And.intro q2 (HG2.out.2.trans q3))
                  clear q1 q2 q3 HC HUU
                  go_wp2_with fail
                  go_end0
                  exact ⟨rfl, _, HFIN.out, HG.out⟩
                · have c2' : ¬ (ee : Int) < (b : Int) := by omega
                  have HFIN := Lib.hid (Srt.merge HM.out.1 HM.out.2.1 HM.out.2.2.1 HM.out.2.2.2.1 HBL.out HM.out.2.2.2.2.1 HUP.out.1 HUP.out.2 HM.out.2.2.2.2.2.1 HM.out.2.2.2.2.2.2 HM1.out.len HM1.out.out HM1.out.r1 HM1.out.r2 HS2.out (HM1.out.no2 HM.out.1 HM.out.2.1 HM.out.2.2.1 HM.out.2.2.2.1 HM.out.2.2.2.2.1 HUP.out.1 HUP.out.2 HS2.out (by have := HM.out.2.2.2.2.1; have := HM.out.2.2.2.1; have := HM.out.2.1; have := HM.out.2.2.1; omega)))
                  have HG := HG2
                  go_wp2_with fail
                  go_end0
                  exact ⟨rfl, _, HFIN.out, HG.out⟩
              · have c1' : ¬ (md : Int) < (ee : Int) := by omega
                have HFIN := Lib.hid (Srt.merge HM.out.1 HM.out.2.1 HM.out.2.2.1 HM.out.2.2.2.1 HBL.out HM.out.2.2.2.2.1 HUP.out.1 HUP.out.2 HM.out.2.2.2.2.2.1 HM.out.2.2.2.2.2.2 HM1.out.len HM1.out.out HM1.out.r1 HM1.out.r2 HS2.out (HM1.out.no2 HM.out.1 HM.out.2.1 HM.out.2.2.1 HM.out.2.2.2.1 HM.out.2.2.2.2.1 HUP.out.1 HUP.out.2 HS2.out (by have := HM.out.2.2.2.2.1; have := HM.out.2.2.2.1; have := HM.out.2.1; have := HM.out.2.2.1; omega)))
                have HG := HG2
                go_wp2_with fail
                go_end0
                exact ⟨rfl, _, HFIN.out, HG.out⟩
          · have a2' : ¬ (m : Int) < (ee : Int) := by omega
            have HM1 := Lib.hid (Mid.no (L := L) HM.out.2.1 HM.out.2.2.1 HM.out.2.2.2.2.1 (by have := HM.out.2.1; have := HM.out.2.2.1; omega))
            have HG1 := HG0
            have HL1 := HL
            obtain ⟨L1, hL1⟩ : ∃ L1, L = L1 := ⟨_, rfl⟩
            obtain ⟨W, hWW⟩ : ∃ W, wr = W := ⟨_, rfl⟩
            rw [hL1] at HL1
            replace HM1 : Hid (Mid L s m ee md L1) := by rw [← hL1]; exact HM1
            rw [hL1, hWW] at HG1
            rw [hWW]
            clear hWW hL1
            by_cases b1 : a < s
            · have b1' : (a : Int) < (s : Int) := by omega
              by_cases b2 : s < md
              · have b2' : (s : Int) < (md : Int) := by omega
                have HUU := Lib.hid (HM1.out.up1 HM.out.1 HM.out.2.1 HM.out.2.2.1 HM.out.2.2.2.1 HUP.out.1 HUP.out.2)
                have HC := Lib.hid (HIH.out a s md L1 W (by have := HK.out; omega) b1 b2 HMN.out HL1.out HUU.out.1 HUU.out.2 HG1.out.1)
                go_wp2_with (first | (go_at_call 44; refine HC.out.mono ?_) | fail)
                first | (rintro e W1 rfl L2 q1 q2 q3) | (rintro e W1 rfl ⟨L2, q1, q2, q3⟩) | (rintro e W1 ⟨rfl, L2, q1, q2, q3⟩)
                have HS2 := Lib.hid q1
                have HL2 := Lib.hid (q1.len.trans HL1.out)
                have HG2 := Lib.hid (And.intro q2 (HG1.out.2.trans q3))
                clear q1 q2 q3 HC HUU b1 b2 b1' b2'
                revert HG2
                generalize W1 = W9
                intro HG2
                obtain ⟨W, hWW⟩ : ∃ W, W9 = W := ⟨_, rfl⟩
                rw [hWW] at HG2 ⊢
                clear hWW
                by_cases c1 : md < ee
                · have c1' : (md : Int) < (ee : Int) := by omega
                  by_cases c2 : ee < b
                  · have c2' : (ee : Int) < (b : Int) := by omega
                    have HUU := Lib.hid (HM1.out.up2 HM.out.1 HM.out.2.1 HM.out.2.2.1 HM.out.2.2.2.1 HM.out.2.2.2.2.1 HUP.out.1 HUP.out.2 HS2.out)
                    have HC := Lib.hid (HIH.out md ee b _ W (by have := HK.out; omega) c1 c2 HBN.out HL2.out HUU.out.1 HUU.out.2 HG2.out.1)
                    go_wp2_with (first | (go_at_call 44; refine HC.out.mono ?_) | fail)
                    first | (rintro e W2 rfl L3 q1 q2 q3) | (rintro e W2 rfl ⟨L3, q1, q2, q3⟩) | (rintro e W2 ⟨rfl, L3, q1, q2, q3⟩)
                    have HFIN := Lib.hid (Srt.merge HM.out.1 HM.out.2.1 HM.out.2.2.1 HM.out.2.2.2.1 HBL.out HM.out.2.2.2.2.1 HUP.out.1 HUP.out.2 HM.out.2.2.2.2.2.1 HM.out.2.2.2.2.2.2 HM1.out.len HM1.out.out HM1.out.r1 HM1.out.r2 HS2.out q1)
                    have HG := Lib.hid (And.intro q2 (HG2.out.2.trans q3))
                    clear q1 q2 q3 HC HUU
                    go_wp2_with fail
                    go_end0
                    exact ⟨rfl, _, HFIN.out, HG.out⟩
                  · have c2' : ¬ (ee : Int) < (b : Int) := by omega
                    have HFIN := Lib.hid (Srt.merge HM.out.1 HM.out.2.1 HM.out.2.2.1 HM.out.2.2.2.1 HBL.out HM.out.2.2.2.2.1 HUP.out.1 HUP.out.2 HM.out.2.2.2.2.2.1 HM.out.2.2.2.2.2.2 HM1.out.len HM1.out.out HM1.out.r1 HM1.out.r2 HS2.out (HM1.out.no2 HM.out.1 HM.out.2.1 HM.out.2.2.1 HM.out.2.2.2.1 HM.out.2.2.2.2.1 HUP.out.1 HUP.out.2 HS2.out (by have := HM.out.2.2.2.2.1; have := HM.out.2.2.2.1; have := HM.out.2.1; have := HM.out.2.2.1; omega)))
                    have HG := HG2
                    go_wp2_with fail
                    go_end0
                    exact ⟨rfl, _, HFIN.out, HG.out⟩
                · have c1' : ¬ (md : Int) < (ee : Int) := by omega
                  have HFIN := Lib.hid (Srt.merge HM.out.1 HM.out.2.1 HM.out.2.2.1 HM.out.2.2.2.1 HBL.out HM.out.2.2.2.2.1 HUP.out.1 HUP.out.2 HM.out.2.2.2.2.2.1 HM.out.2.2.2.2.2.2 HM1.out.len HM1.out.out HM1.out.r1 HM1.out.r2 HS2.out (HM1.out.no2 HM.out.1 HM.out.2.1 HM.out.2.2.1 HM.out.2.2.2.1 HM.out.2.2.2.2.1 HUP.out.1 HUP.out.2 HS2.out (by have := HM.out.2.2.2.2.1; have := HM.out.2.2.2.1; have := HM.out.2.1; have := HM.out.2.2.1; omega)))
                  have HG := HG2
                  go_wp2_with fail
                  go_end0
                  exact ⟨rfl, _, HFIN.out, HG.out⟩
              · have b2' : ¬ (s : Int) < (md : Int) := by omega
                have HS2 := Lib.hid (HM1.out.no1 HM.out.1 HM.out.2.1 HM.out.2.2.1 HM.out.2.2.2.1 HM.out.2.2.2.2.1 HUP.out.1 HUP.out.2 (by have := HM.out.2.2.2.2.1; have := HM.out.1; have := HM.out.2.1; have := HM.out.2.2.1; omega))
                have HL2 := HL1
                have HG2 := HG1
                by_cases c1 : md < ee
                · have c1' : (md : Int) < (ee : Int) := by omega
                  by_cases c2 : ee < b
                  · have c2' : (ee : Int) < (b : Int) := by omega
                    have HUU := Lib.hid (HM1.out.up2 HM.out.1 HM.out.2.1 HM.out.2.2.1 HM.out.2.2.2.1 HM.out.2.2.2.2.1 HUP.out.1 HUP.out.2 HS2.out)
                    have HC := Lib.hid (HIH.out md ee b _ W (by have := HK.out; omega) c1 c2 HBN.out HL2.out HUU.out.1 HUU.out.2 HG2.out.1)
                    go_wp2_with (first | (go_at_call 44; refine HC.out.mono ?_) | fail)
                    first | (rintro e W2 rfl L3 q1 q2 q3) | (rintro e W2 rfl ⟨L3, q1, q2, q3⟩) | (rintro e W2 ⟨rfl, L3, q1, q2, q3⟩)
                    have HFIN := Lib.hid (Srt.merge HM.out.1 HM.out.2.1 HM.out.2.2.1 HM.out.2.2.2.1 HBL.out HM.out.2.2.2.2.1 HUP.out.1 HUP.out.2 HM.out.2.2.2.2.2.1 HM.out.2.2.2.2.2.2 HM1.out.len HM1.out.out HM1.out.r1 HM1.out.r2 HS2.out q1)
                    have HG := Lib.hid (And.intro q2 (HG2.out.2.trans q3))
                    clear q1 q2 q3 HC HUU
                    go_wp2_with fail
                    go_end0
                    exact ⟨rfl, _, HFIN.out, HG.out⟩
                  · have c2' : ¬ (ee : Int) < (b : Int) := by omega
                    have HFIN := Lib.hid (Srt.merge HM.out.1 HM.out.2.1 HM.out.2.2.1 HM.out.2.2.2.1 HBL.out HM.out.2.2.2.2.1 HUP.out.1 HUP.out.2 HM.out.2.2.2.2.2.1 HM.out.2.2.2.2.2.2 HM1.out.len HM1.out.out HM1.out.r1 HM1.out.r2 HS2.out (HM1.out.no2 HM.out.1 HM.out.2.1 HM.out.2.2.1 HM.out.2.2.2.1 HM.out.2.2.2.2.1 HUP.out.1 HUP.out.2 HS2.out (by have := HM.out.2.2.2.2.1; have := HM.out.2.2.2.1; have := HM.out.2.1; have := HM.out.2.2.1; omega)))
                    have HG := HG2
                    go_wp2_with fail
                    go_end0
                    exact ⟨rfl, _, HFIN.out, HG.out⟩
                · have c1' : ¬ (md : Int) < (ee : Int) := by omega
                  have HFIN := Lib.hid (Srt.merge HM.out.1 HM.out.2.1 HM.out.2.2.1 HM.out.2.2.2.1 HBL.out HM.out.2.2.2.2.1 HUP.out.1 HUP.out.2 HM.out.2.2.2.2.2.1 HM.out.2.2.2.2.2.2 HM1.out.len HM1.out.out HM1.out.r1 HM1.out.r2 HS2.out (HM1.out.no2 HM.out.1 HM.out.2.1 HM.out.2.2.1 HM.out.2.2.2.1 HM.out.2.2.2.2.1 HUP.out.1 HUP.out.2 HS2.out (by have := HM.out.2.2.2.2.1; have := HM.out.2.2.2.1; have := HM.out.2.1; have := HM.out.2.2.1; omega)))
                  have HG := HG2
                  go_wp2_with fail
                  go_end0
                  exact ⟨rfl, _, HFIN.out, HG.out⟩
            · have b1' : ¬ (a : Int) < (s : Int) := by omega
              have HS2 := Lib.hid (HM1.out.no1 HM.out.1 HM.out.2.1 HM.out.2.2.1 HM.out.2.2.2.1 HM.out.2.2.2.2.1 HUP.out.1 HUP.out.2 (by have := HM.out.2.2.2.2.1; have := HM.out.1; have := HM.out.2.1; have := HM.out.2.2.1; omega))
              have HL2 := HL1
              have HG2 := HG1
              by_cases c1 : md < ee
              · have c1' : (md : Int) < (ee : Int) := by omega
                by_cases c2 : ee < b
                · have c2' : (ee : Int) < (b : Int) := by omega
                  have HUU := Lib.hid (HM1.out.up2 HM.out.1 HM.out.2.1 HM.out.2.2.1 HM.out.2.2.2.1 HM.out.2.2.2.2.1 HUP.out.1 HUP.out.2 HS2.out)
                  have HC := Lib.hid (HIH.out md ee b _ W (by have := HK.out; omega) c1 c2 HBN.out HL2.out HUU.out.1 HUU.out.2 HG2.out.1)
                  go_wp2_with (first | (go_at_call 44; refine HC.out.mono ?_) | fail)
                  first | (rintro e W2 rfl L3 q1 q2 q3) | (rintro e W2 rfl ⟨L3, q1, q2, q3⟩) | (rintro e W2 ⟨rfl, L3, q1, q2, q3⟩)
                  have HFIN := Lib.hid (Srt.merge HM.out.1 HM.out.2.1 HM.out.2.2.1 HM.out.2.2.2.1 HBL.out HM.out.2.2.2.2.1 HUP.out.1 HUP.out.2 HM.out.2.2.2.2.2.1 HM.out.2.2.2.2.2.2 HM1.out.len HM1.out.out HM1.out.r1 HM1.out.r2 HS2.out q1)
                  have HG := Lib.hid (And.intro q2 (HG2.out.2.trans q3))
                  clear q1 q2 q3 HC HUU
                  go_wp2_with fail
                  go_end0
                  exact ⟨rfl, _, HFIN.out, HG.out⟩
                · have c2' : ¬ (ee : Int) < (b : Int) := by omega
                  have HFIN := Lib.hid (Srt.merge HM.out.1 HM.out.2.1 HM.out.2.2.1 HM.out.2.2.2.1 HBL.out HM.out.2.2.2.2.1 HUP.out.1 HUP.out.2 HM.out.2.2.2.2.2.1 HM.out.2.2.2.2.2.2 HM1.out.len HM1.out.out HM1.out.r1 HM1.out.r2 HS2.out (HM1.out.no2 HM.out.1 HM.out.2.1 HM.out.2.2.1 HM.out.2.2.2.1 HM.out.2.2.2.2.1 HUP.out.1 HUP.out.2 HS2.out (by have := HM.out.2.2.2.2.1; have := HM.out.2.2.2.1; have := HM.out.2.1; have := HM.out.2.2.1; omega)))
                  have HG := HG2
                  go_wp2_with fail
                  go_end0
                  exact ⟨rfl, _, HFIN.out, HG.out⟩
              · have c1' : ¬ (md : Int) < (ee : Int) := by omega
                have HFIN := Lib.hid (Srt.merge HM.out.1 HM.out.2.1 HM.out.2.2.1 HM.out.2.2.2.1 HBL.out HM.out.2.2.2.2.1 HUP.out.1 HUP.out.2 HM.out.2.2.2.2.2.1 HM.out.2.2.2.2.2.2 HM1.out.len HM1.out.out HM1.out.r1 HM1.out.r2 HS2.out (HM1.out.no2 HM.out.1 HM.out.2.1 HM.out.2.2.1 HM.out.2.2.2.1 HM.out.2.2.2.2.1 HUP.out.1 HUP.out.2 HS2.out (by have := HM.out.2.2.2.2.1; have := HM.out.2.2.2.1; have := HM.out.2.1; have := HM.out.2.2.1; omega)))
                have HG := HG2
                go_wp2_with fail
                go_end0
                exact ⟨rfl, _, HFIN.out, HG.out⟩
        · have a1' : ¬ (s : Int) < (m : Int) := by omega
          have HM1 := Lib.hid (Mid.no (L := L) HM.out.2.1 HM.out.2.2.1 HM.out.2.2.2.2.1 (by have := HM.out.2.1; have := HM.out.2.2.1; omega))
          have HG1 := HG0
          have HL1 := HL
          obtain ⟨L1, hL1⟩ : ∃ L1, L = L1 := ⟨_, rfl⟩
          obtain ⟨W, hWW⟩ : ∃ W, wr = W := ⟨_, rfl⟩
          rw [hL1] at HL1
          replace HM1 : Hid (Mid L s m ee md L1) := by rw [← hL1]; exact HM1
          rw [hL1, hWW] at HG1
          rw [hWW]
          clear hWW hL1
          by_cases b1 : a < s
          · have b1' : (a : Int) < (s : Int) := by omega
            by_cases b2 : s < md
            · have b2' : (s : Int) < (md : Int) := by omega
              have HUU := Lib.hid (HM1.out.up1 HM.out.1 HM.out.2.1 HM.out.2.2.1 HM.out.2.2.2.1 HUP.out.1 HUP.out.2)
              have HC := Lib.hid (HIH.out a s md L1 W (by have := HK.out; omega) b1 b2 HMN.out HL1.out HUU.out.1 HUU.out.2 HG1.out.1)
              go_wp2_with (first | (go_at_call 44; refine HC.out.mono ?_) | fail)
              first | (rintro e W1 rfl L2 q1 q2 q3) | (rintro e W1 rfl ⟨L2, q1, q2, q3⟩) | (rintro e W1 ⟨rfl, L2, q1, q2, q3⟩)
              have HS2 := Lib.hid q1
              have HL2 := Lib.hid (q1.len.trans HL1.out)
              have HG2 := Lib.hid (And.intro q2 (HG1.out.2.trans q3))
              clear q1 q2 q3 HC HUU b1 b2 b1' b2'
              revert HG2
              generalize W1 = W9
              intro HG2
              obtain ⟨W, hWW⟩ : ∃ W, W9 = W := ⟨_, rfl⟩
              rw [hWW] at HG2 ⊢
              clear hWW
              by_cases c1 : md < ee
              · have c1' : (md : Int) < (ee : Int) := by omega
                by_cases c2 : ee < b
                · have c2' : (ee : Int) < (b : Int) := by omega
                  have HUU := Lib.hid (HM1.out.up2 HM.out.1 HM.out.2.1 HM.out.2.2.1 HM.out.2.2.2.1 HM.out.2.2.2.2.1 HUP.out.1 HUP.out.2 HS2.out)
                  have HC := Lib.hid (HIH.out md ee b _ W (by have := HK.out; omega) c1 c2 HBN.out HL2.out HUU.out.1 HUU.out.2 HG2.out.1)
                  go_wp2_with (first | (go_at_call 44; refine HC.out.mono ?_) | fail)
                  first | (rintro e W2 rfl L3 q1 q2 q3) | (rintro e W2 rfl ⟨L3, q1, q2, q3⟩) | (rintro e W2 ⟨rfl, L3, q1, q2, q3⟩)
                  have HFIN := Lib.hid (Srt.merge HM.out.1 HM.out.2.1 HM.out.2.2.1 HM.out.2.2.2.1 HBL.out HM.out.2.2.2.2.1 HUP.out.1 HUP.out.2 HM.out.2.2.2.2.2.1 HM.out.2.2.2.2.2.2 HM1.out.len HM1.out.out HM1.out.r1 HM1.out.r2 HS2.out q1)
                  have HG := Lib.hid (And.intro q2 (HG2.out.2.trans q3))
                  clear q1 q2 q3 HC HUU
                  go_wp2_with fail
                  go_end0
                  exact ⟨rfl, _, HFIN.out, HG.out⟩
                · have c2' : ¬ (ee : Int) < (b : Int) := by omega
                  have HFIN := Lib.hid (Srt.merge HM.out.1 HM.out.2.1 HM.out.2.2.1 HM.out.2.2.2.1 HBL.out HM.out.2.2.2.2.1 HUP.out.1 HUP.out.2 HM.out.2.2.2.2.2.1 HM.out.2.2.2.2.2.2 HM1.out.len HM1.out.out HM1.out.r1 HM1.out.r2 HS2.out (HM1.out.no2 HM.out.1 HM.out.2.1 HM.out.2.2.1 HM.out.2.2.2.1 HM.out.2.2.2.2.1 HUP.out.1 HUP.out.2 HS2.out (by have := HM.out.2.2.2.2.1; have := HM.out.2.2.2.1; have := HM.out.2.1; have := HM.out.2.2.1; omega)))
                  have HG := HG2
                  go_wp2_with fail
                  go_end0
                  exact ⟨rfl, _, HFIN.out, HG.out⟩
              · have c1' : ¬ (md : Int) < (ee : Int) := by omega
                have HFIN := Lib.hid (Srt.merge HM.out.1 HM.out.2.1 HM.out.2.2.1 HM.out.2.2.2.1 HBL.out HM.out.2.2.2.2.1 HUP.out.1 HUP.out.2 HM.out.2.2.2.2.2.1 HM.out.2.2.2.2.2.2 HM1.out.len HM1.out.out HM1.out.r1 HM1.out.r2 HS2.out (HM1.out.no2 HM.out.1 HM.out.2.1 HM.out.2.2.1 HM.out.2.2.2.1 HM.out.2.2.2.2.1 HUP.out.1 HUP.out.2 HS2.out (by have := HM.out.2.2.2.2.1; have := HM.out.2.2.2.1; have := HM.out.2.1; have := HM.out.2.2.1; omega)))
                have HG := HG2
                go_wp2_with fail
                go_end0
                exact ⟨rfl, _, HFIN.out, HG.out⟩
            · have b2' : ¬ (s : Int) < (md : Int) := by omega
              have HS2 := Lib.hid (HM1.out.no1 HM.out.1 HM.out.2.1 HM.out.2.2.1 HM.out.2.2.2.1 HM.out.2.2.2.2.1 HUP.out.1 HUP.out.2 (by have := HM.out.2.2.2.2.1; have := HM.out.1; have := HM.out.2.1; have := HM.out.2.2.1; omega))
              have HL2 := HL1
              have HG2 := HG1
              by_cases c1 : md < ee
              · have c1' : (md : Int) < (ee : Int) := by omega
                by_cases c2 : ee < b
                · have c2' : (ee : Int) < (b : Int) := by omega
                  have HUU := Lib.hid (HM1.out.up2 HM.out.1 HM.out.2.1 HM.out.2.2.1 HM.out.2.2.2.1 HM.out.2.2.2.2.1 HUP.out.1 HUP.out.2 HS2.out)
                  have HC := Lib.hid (HIH.out md ee b _ W (by have := HK.out; omega) c1 c2 HBN.out HL2.out HUU.out.1 HUU.out.2 HG2.out.1)
                  go_wp2_with (first | (go_at_call 44; refine HC.out.mono ?_) | fail)
                  first | (rintro e W2 rfl L3 q1 q2 q3) | (rintro e W2 rfl ⟨L3, q1, q2, q3⟩) | (rintro e W2 ⟨rfl, L3, q1, q2, q3⟩)
                  have HFIN := Lib.hid (Srt.merge HM.out.1 HM.out.2.1 HM.out.2.2.1 HM.out.2.2.2.1 HBL.out HM.out.2.2.2.2.1 HUP.out.1 HUP.out.2 HM.out.2.2.2.2.2.1 HM.out.2.2.2.2.2.2 HM1.out.len HM1.out.out HM1.out.r1 HM1.out.r2 HS2.out q1)
                  have HG := Lib.hid (And.intro q2 (HG2.out.2.trans q3))
                  clear q1 q2 q3 HC HUU
                  go_wp2_with fail
                  go_end0
                  exact ⟨rfl, _, HFIN.out, HG.out⟩
                · have c2' : ¬ (ee : Int) < (b : Int) := by omega
                  have HFIN := Lib.hid (Srt.merge HM.out.1 HM.out.2.1 HM.out.2.2.1 HM.out.2.2.2.1 HBL.out HM.out.2.2.2.2.1 HUP.out.1 HUP.out.2 HM.out.2.2.2.2.2.1 HM.out.2.2.2.2.2.2 HM1.out.len HM1.out.out HM1.out.r1 HM1.out.r2 HS2.out (HM1.out.no2 HM.out.1 HM.out.2.1 HM.out.2.2.1 HM.out.2.2.2.1 HM.out.2.2.2.2.1 HUP.out.1 HUP.out.2 HS2.out (by have := HM.out.2.2.2.2.1; have := HM.out.2.2.2.1; have := HM.out.2.1; have := HM.out.2.2.1; omega)))
                  have HG := HG2
                  go_wp2_with fail
                  go_end0
                  exact ⟨rfl, _, HFIN.out, HG.out⟩
              · have c1' : ¬ (md : Int) < (ee : Int) := by omega
                have HFIN := Lib.hid (Srt.merge HM.out.1 HM.out.2.1 HM.out.2.2.1 HM.out.2.2.2.1 HBL.out HM.out.2.2.2.2.1 HUP.out.1 HUP.out.2 HM.out.2.2.2.2.2.1 HM.out.2.2.2.2.2.2 HM1.out.len HM1.out.out HM1.out.r1 HM1.out.r2 HS2.out (HM1.out.no2 HM.out.1 HM.out.2.1 HM.out.2.2.1 HM.out.2.2.2.1 HM.out.2.2.2.2.1 HUP.out.1 HUP.out.2 HS2.out (by have := HM.out.2.2.2.2.1; have := HM.out.2.2.2.1; have := HM.out.2.1; have := HM.out.2.2.1; omega)))
                have HG := HG2
                go_wp2_with fail
                go_end0
                exact ⟨rfl, _, HFIN.out, HG.out⟩
          · have b1' : ¬ (a : Int) < (s : Int) := by omega
            have HS2 := Lib.hid (HM1.out.no1 HM.out.1 HM.out.2.1 HM.out.2.2.1 HM.out.2.2.2.1 HM.out.2.2.2.2.1 HUP.out.1 HUP.out.2 (by have := HM.out.2.2.2.2.1; have := HM.out.1; have := HM.out.2.1; have := HM.out.2.2.1; omega))
            have HL2 := HL1
            have HG2 := HG1
            by_cases c1 : md < ee
            · have c1' : (md : Int) < (ee : Int) := by omega
              by_cases c2 : ee < b
              · have c2' : (ee : Int) < (b : Int) := by omega
                have HUU := Lib.hid (HM1.out.up2 HM.out.1 HM.out.2.1 HM.out.2.2.1 HM.out.2.2.2.1 HM.out.2.2.2.2.1 HUP.out.1 HUP.out.2 HS2.out)
                have HC := Lib.hid (HIH.out md ee b _ W (by have := HK.out; omega) c1 c2 HBN.out HL2.out HUU.out.1 HUU.out.2 HG2.out.1)
                go_wp2_with (first | (go_at_call 44; refine HC.out.mono ?_) | fail)
                first | (rintro e W2 rfl L3 q1 q2 q3) | (rintro e W2 rfl ⟨L3, q1, q2, q3⟩) | (rintro e W2 ⟨rfl, L3, q1, q2, q3⟩)
                have HFIN := Lib.hid (Srt.merge HM.out.1 HM.out.2.1 HM.out.2.2.1 HM.out.2.2.2.1 HBL.out HM.out.2.2.2.2.1 HUP.out.1 HUP.out.2 HM.out.2.2.2.2.2.1 HM.out.2.2.2.2.2.2 HM1.out.len HM1.out.out HM1.out.r1 HM1.out.r2 HS2.out q1)
                have HG := Lib.hid (And.intro q2 (HG2.out.2.trans q3))
                clear q1 q2 q3 HC HUU
                go_wp2_with fail
                go_end0
                exact ⟨rfl, _, HFIN.out, HG.out⟩
              · have c2' : ¬ (ee : Int) < (b : Int) := by omega
                have HFIN := Lib.hid (Srt.merge HM.out.1 HM.out.2.1 HM.out.2.2.1 HM.out.2.2.2.1 HBL.out HM.out.2.2.2.2.1 HUP.out.1 HUP.out.2 HM.out.2.2.2.2.2.1 HM.out.2.2.2.2.2.2 HM1.out.len HM1.out.out HM1.out.r1 HM1.out.r2 HS2.out (HM1.out.no2 HM.out.1 HM.out.2.1 HM.out.2.2.1 HM.out.2.2.2.1 HM.out.2.2.2.2.1 HUP.out.1 HUP.out.2 HS2.out (by have := HM.out.2.2.2.2.1; have := HM.out.2.2.2.1; have := HM.out.2.1; have := HM.out.2.2.1; omega)))
                have HG := HG2
                go_wp2_with fail
                go_end0
                exact ⟨rfl, _, HFIN.out, HG.out⟩
            · have c1' : ¬ (md : Int) < (ee : Int) := by omega
              have HFIN := Lib.hid (Srt.merge HM.out.1 HM.out.2.1 HM.out.2.2.1 HM.out.2.2.2.1 HBL.out HM.out.2.2.2.2.1 HUP.out.1 HUP.out.2 HM.out.2.2.2.2.2.1 HM.out.2.2.2.2.2.2 HM1.out.len HM1.out.out HM1.out.r1 HM1.out.r2 HS2.out (HM1.out.no2 HM.out.1 HM.out.2.1 HM.out.2.2.1 HM.out.2.2.2.1 HM.out.2.2.2.2.1 HUP.out.1 HUP.out.2 HS2.out (by have := HM.out.2.2.2.2.1; have := HM.out.2.2.2.1; have := HM.out.2.1; have := HM.out.2.2.1; omega)))
              have HG := HG2
              go_wp2_with fail
              go_end0
              exact ⟨rfl, _, HFIN.out, HG.out⟩
  · skip
    have hmd : ¬ md < m := hv
    have hmd' : ¬ (md : Int) < (m : Int) := by omega
    have HA := Lib.hid (And.intro hA1 (And.intro hB1 (And.intro hab2 (And.intro hmd2 (And.intro hnn2 (And.intro hpp2 (And.intro hb True.intro)))))))
    go_wp2_with fail
    go_loopw [20, 21] (fun u v wr => ∃ s r : Nat, a ≤ s ∧ s ≤ r ∧ r ≤ m ∧ u = .int .i64 s ∧ v = .int .i64 r ∧ Hid ((s = a ∨ ¬ kf L (pp - (s - 1)) < kf L (s - 1)) ∧ (r = m ∨ kf L (pp - r) < kf L r)) ∧ Hid (QY wr g L R ∧ w.grownBy wr (some g))) (fun u v _ => (intOf v).toNat - (intOf u).toNat)
    case atStart => exact ⟨a, m, Nat.le_refl _, by omega, Nat.le_refl _, by first | done | rfl | go_num, by first | done | rfl | go_num, Lib.hid ⟨.inl rfl, .inl rfl⟩, HS0⟩
    case round =>
      clear HS0
      obtain ⟨s, r, hs1, hs2, hs3, rfl, rfl, HI, HS⟩ := hrel
      by_cases hlt : s < r
      · obtain ⟨sr, hsr⟩ : ∃ sr, s + r = sr := ⟨_, rfl⟩
        obtain ⟨c, hcc⟩ : ∃ c, sr / 2 = c := ⟨_, rfl⟩
        obtain ⟨pc, hpc⟩ : ∃ pc, pp - c = pc := ⟨_, rfl⟩
        have e1 : (s : Int) + (r : Int) = (sr : Int) := by omega
        have bsr : sr < 3000000 := by omega
        have e2 : (sr : Int) / 2 = (c : Int) := by omega
        have bc : c < 3000000 := by omega
        have e3 : (pp : Int) - (c : Int) = (pc : Int) := by omega
        have bcN : c < N := by omega
        have bcN2 : (c : Int) < (N : Int) := by omega
        have bpN : pc < N := by omega
        have bpN2 : (pc : Int) < (N : Int) := by omega
        have upc : IntKind.i64.wrap (pc : Int) = (pc : Int) := IntWalk.i64_in _ (by omega)
        obtain ⟨x, hx⟩ : ∃ x, L[pc]? = some x := ⟨L[pc]'(by rw [HL.out]; exact bpN), List.getElem?_eq_getElem _⟩
        obtain ⟨y, hy⟩ : ∃ y, L[c]? = some y := ⟨L[c]'(by rw [HL.out]; exact bcN), List.getElem?_eq_getElem _⟩
        have HX := Lib.hid (And.intro hx (And.intro hy True.intro))
        have kx := kf_at hx
        have ky := kf_at hy
        have HK2 := Lib.hid (And.intro kx ky)
        clear hx hy kx ky
        have HJ : Hid (QY (World.drew wr) g L R ∧ w.grownBy (World.drew wr) (some g)) := Lib.hid ⟨HS.out.1, HS.out.2.trans (grown_below' (Below.refl _ wr).drew _)⟩
        clear HS
        have HCM := Lib.hid (fun W => cmpY_any x y W)
        unfold Sy.v at HCM
        have HC := Lib.hid (And.intro hs1 (And.intro hs2 (And.intro hs3 (And.intro hlt (And.intro hsr (And.intro hcc hpc))))))
        clear hA1 hB1 hab2 hmd2 hnn2 hpp2 hsr hcc hpc hs1 hs2 hs3
        by_cases hxy : x.2.1 < y.2.1
        · have hc : cmpI x.2.1 y.2.1 < 0 := cmpI_lt.2 hxy
          have HXY := Lib.hid hxy
          generalize cmpI x.2.1 y.2.1 = q at HCM hc
          have dc : decide (q < 0) = true := decide_eq_true hc
          clear hxy
          go_upto_region 35 with fail
          refine wp_region_noPanic ?_
          refine wp_region_held_drew (S := fun W : World => QY W g L R ∧ w.grownBy W (some g)) (by kernel_rfl) ?_ (fun hHeld => ?_)
          · exact HJ.out
          clear HJ
          generalize World.drew _ = V at hHeld ⊢
          refine wpAnyH_take (i := 0) (v := ?_) rfl (by kernel_rfl) (by kernel_rfl) (by kernel_rfl) (fun _ _ _ h => h) (Or.inl ⟨by kernel_rfl, ?_⟩) hHeld ?_
          rotate_left
          · intro wv hSw
            go_simp
            try with_reducible rfl
          simp only [Act.put, List.setIfInBounds_toArray, List.set_cons_zero, List.set_cons_succ, List.getElem_toArray, List.getElem_cons_succ, List.getElem_cons_zero]
          refine wpAnyH_take (i := 1) (v := ?_) rfl (by kernel_rfl) (by kernel_rfl) (by kernel_rfl) (fun _ _ _ h => h) (Or.inl ⟨by kernel_rfl, ?_⟩) hHeld ?_
          rotate_left
          · intro wv hSw
            go_simp
            try with_reducible rfl
          simp only [Act.put, List.setIfInBounds_toArray, List.set_cons_zero, List.set_cons_succ, List.getElem_toArray, List.getElem_cons_succ, List.getElem_cons_zero]
          refine wpAnyH_take (i := 2) (v := ?_) rfl (by kernel_rfl) (by kernel_rfl) (by kernel_rfl) (fun _ _ _ h => h) (Or.inl ⟨by kernel_rfl, ?_⟩) hHeld ?_
          rotate_left
          · intro wv hSw
            go_simp
            try with_reducible rfl
          simp only [Act.put, List.setIfInBounds_toArray, List.set_cons_zero, List.set_cons_succ, List.getElem_toArray, List.getElem_cons_succ, List.getElem_cons_zero]
          refine wpAnyH_take (i := 3) (v := ?_) rfl (by kernel_rfl) (by kernel_rfl) (by kernel_rfl) (fun _ _ _ h => h) (Or.inl ⟨by kernel_rfl, ?_⟩) hHeld ?_
          rotate_left
          · intro wv hSw
            go_simp
            try with_reducible rfl
          simp only [Act.put, List.setIfInBounds_toArray, List.set_cons_zero, List.set_cons_succ, List.getElem_toArray, List.getElem_cons_succ, List.getElem_cons_zero]
          refine wpAnyH_take (i := 4) (v := ?_) rfl (by kernel_rfl) (by kernel_rfl) (by kernel_rfl) (fun _ _ _ h => h) (Or.inl ⟨by kernel_rfl, ?_⟩) hHeld ?_
          rotate_left
          · intro wv hSw
            go_simp
            try with_reducible rfl
          simp only [Act.put, List.setIfInBounds_toArray, List.set_cons_zero, List.set_cons_succ, List.getElem_toArray, List.getElem_cons_succ, List.getElem_cons_zero]
          refine wpAnyH_take (i := 5) (v := ?_) rfl (by kernel_rfl) (by kernel_rfl) (by kernel_rfl) (fun _ _ _ h => h) (Or.inl ⟨by kernel_rfl, ?_⟩) hHeld ?_
          rotate_left
          · intro wv hSw
            go_simp
            try with_reducible rfl
          simp only [Act.put, List.setIfInBounds_toArray, List.set_cons_zero, List.set_cons_succ, List.getElem_toArray, List.getElem_cons_succ, List.getElem_cons_zero]
          refine wpAnyH_take (i := 6) (v := ?_) rfl (by kernel_rfl) (by kernel_rfl) (by kernel_rfl) (fun _ _ _ h => h) (Or.inl ⟨by kernel_rfl, ?_⟩) hHeld ?_
          rotate_left
          · intro wv hSw
            obtain ⟨f0, f1, f2, f3⟩ := QY.at hSw.1 HX.out.1
            go_simp
            try with_reducible rfl
          simp only [Act.put, List.setIfInBounds_toArray, List.set_cons_zero, List.set_cons_succ, List.getElem_toArray, List.getElem_cons_succ, List.getElem_cons_zero]
          refine wpAnyH_take (i := 7) (v := ?_) rfl (by kernel_rfl) (by kernel_rfl) (by kernel_rfl) (fun _ _ _ h => h) (Or.inl ⟨by kernel_rfl, ?_⟩) hHeld ?_
          rotate_left
          · intro wv hSw
            go_simp
            try with_reducible rfl
          simp only [Act.put, List.setIfInBounds_toArray, List.set_cons_zero, List.set_cons_succ, List.getElem_toArray, List.getElem_cons_succ, List.getElem_cons_zero]
          refine wpAnyH_take (i := 8) (v := ?_) rfl (by kernel_rfl) (by kernel_rfl) (by kernel_rfl) (fun _ _ _ h => h) (Or.inl ⟨by kernel_rfl, ?_⟩) hHeld ?_
          rotate_left
          · intro wv hSw
            go_simp
            try with_reducible rfl
          simp only [Act.put, List.setIfInBounds_toArray, List.set_cons_zero, List.set_cons_succ, List.getElem_toArray, List.getElem_cons_succ, List.getElem_cons_zero]
          refine wpAnyH_take (i := 9) (v := ?_) rfl (by kernel_rfl) (by kernel_rfl) (by kernel_rfl) (fun _ _ _ h => h) (Or.inl ⟨by kernel_rfl, ?_⟩) hHeld ?_
          rotate_left
          · intro wv hSw
            go_simp
            try with_reducible rfl
          simp only [Act.put, List.setIfInBounds_toArray, List.set_cons_zero, List.set_cons_succ, List.getElem_toArray, List.getElem_cons_succ, List.getElem_cons_zero]
          refine wpAnyH_take (i := 10) (v := ?_) rfl (by kernel_rfl) (by kernel_rfl) (by kernel_rfl) (fun _ _ _ h => h) (Or.inl ⟨by kernel_rfl, ?_⟩) hHeld ?_
          rotate_left
          · intro wv hSw
            obtain ⟨f0, f1, f2, f3⟩ := QY.at hSw.1 HX.out.2.1
            go_simp
            try with_reducible rfl
          simp only [Act.put, List.setIfInBounds_toArray, List.set_cons_zero, List.set_cons_succ, List.getElem_toArray, List.getElem_cons_succ, List.getElem_cons_zero]
          refine wpAnyH_ready (rs := [11]) (by kernel_rfl) (by simp) ?_
          refine AllReadyH.cons rfl (fun K hK => ?_) AllReadyH.nil
          go_simp
          go_at_call 31
          refine (HCM.out _).mono ?_
          first | (rintro e W9x rfl hb2) | (rintro e W9x ⟨rfl, hb2⟩)
          have hN9 : QY W9x g L R ∧ w.grownBy W9x (some g) := ⟨hHeld.1.keep hb2, hHeld.2.trans (grown_below' hb2 _)⟩
          refine hK.out _ _ hN9 (fun hHeld2 => ?_)
          clear hK K hHeld hHeld2 hb2
          have hHeld : (fun W : World => QY W g L R ∧ w.grownBy W (some g)) W9x := hN9
          clear hN9
          try simp only [Act.put, List.setIfInBounds_toArray, List.set_cons_zero, List.set_cons_succ, List.getElem_toArray, List.getElem_cons_succ, List.getElem_cons_zero]
          refine wpAnyH_take (i := 12) (v := ?_) rfl (by kernel_rfl) (by kernel_rfl) (by kernel_rfl) (fun _ _ _ h => h) (Or.inl ⟨by kernel_rfl, ?_⟩) hHeld ?_
          rotate_left
          · intro wv hSw
            go_simp
            try with_reducible rfl
          simp only [Act.put, List.setIfInBounds_toArray, List.set_cons_zero, List.set_cons_succ, List.getElem_toArray, List.getElem_cons_succ, List.getElem_cons_zero]
          refine wpAnyH_take (i := 13) (v := ?_) rfl (by kernel_rfl) (by kernel_rfl) (by kernel_rfl) (fun _ _ _ h => h) (Or.inl ⟨by kernel_rfl, ?_⟩) hHeld ?_
          rotate_left
          · intro wv hSw
            go_simp
            try with_reducible rfl
          simp only [Act.put, List.setIfInBounds_toArray, List.set_cons_zero, List.set_cons_succ, List.getElem_toArray, List.getElem_cons_succ, List.getElem_cons_zero]
          refine wpAnyH_done (by kernel_rfl) ?_ _
          refine NoPanic.normal ?_
          have HQ2 := Lib.hid hHeld
          clear hHeld
          clear HCM
          go_wp2_with fail
          go_roundw
          case rel => exact ⟨s, c, by have := HC.out; omega, by have := HC.out; omega, by have := HC.out; omega, rfl, by first | done | rfl | go_num, Lib.hid ⟨HI.out.1, .inr (by rw [HC.out.2.2.2.2.2.2, HK2.out.1, HK2.out.2]; exact HXY.out)⟩, HQ2⟩
          case measure => have := HC.out; simp [intOf]; omega
        · have hc : ¬ cmpI x.2.1 y.2.1 < 0 := fun h => hxy (cmpI_lt.1 h)
          have HXY := Lib.hid hxy
          generalize cmpI x.2.1 y.2.1 = q at HCM hc
          have dc : decide (q < 0) = false := decide_eq_false hc
          clear hxy
          go_upto_region 35 with fail
          refine wp_region_noPanic ?_
          refine wp_region_held_drew (S := fun W : World => QY W g L R ∧ w.grownBy W (some g)) (by kernel_rfl) ?_ (fun hHeld => ?_)
          · exact HJ.out
          clear HJ
          generalize World.drew _ = V at hHeld ⊢
          refine wpAnyH_take (i := 0) (v := ?_) rfl (by kernel_rfl) (by kernel_rfl) (by kernel_rfl) (fun _ _ _ h => h) (Or.inl ⟨by kernel_rfl, ?_⟩) hHeld ?_
          rotate_left
          · intro wv hSw
            go_simp
            try with_reducible rfl
          simp only [Act.put, List.setIfInBounds_toArray, List.set_cons_zero, List.set_cons_succ, List.getElem_toArray, List.getElem_cons_succ, List.getElem_cons_zero]
          refine wpAnyH_take (i := 1) (v := ?_) rfl (by kernel_rfl) (by kernel_rfl) (by kernel_rfl) (fun _ _ _ h => h) (Or.inl ⟨by kernel_rfl, ?_⟩) hHeld ?_
          rotate_left
          · intro wv hSw
            go_simp
            try with_reducible rfl
          simp only [Act.put, List.setIfInBounds_toArray, List.set_cons_zero, List.set_cons_succ, List.getElem_toArray, List.getElem_cons_succ, List.getElem_cons_zero]
          refine wpAnyH_take (i := 2) (v := ?_) rfl (by kernel_rfl) (by kernel_rfl) (by kernel_rfl) (fun _ _ _ h => h) (Or.inl ⟨by kernel_rfl, ?_⟩) hHeld ?_
          rotate_left
          · intro wv hSw
            go_simp
            try with_reducible rfl
          simp only [Act.put, List.setIfInBounds_toArray, List.set_cons_zero, List.set_cons_succ, List.getElem_toArray, List.getElem_cons_succ, List.getElem_cons_zero]
          refine wpAnyH_take (i := 3) (v := ?_) rfl (by kernel_rfl) (by kernel_rfl) (by kernel_rfl) (fun _ _ _ h => h) (Or.inl ⟨by kernel_rfl, ?_⟩) hHeld ?_
          rotate_left
          · intro wv hSw
            go_simp
            try with_reducible rfl
          simp only [Act.put, List.setIfInBounds_toArray, List.set_cons_zero, List.set_cons_succ, List.getElem_toArray, List.getElem_cons_succ, List.getElem_cons_zero]
          refine wpAnyH_take (i := 4) (v := ?_) rfl (by kernel_rfl) (by kernel_rfl) (by kernel_rfl) (fun _ _ _ h => h) (Or.inl ⟨by kernel_rfl, ?_⟩) hHeld ?_
          rotate_left
          · intro wv hSw
            go_simp
            try with_reducible rfl
          simp only [Act.put, List.setIfInBounds_toArray, List.set_cons_zero, List.set_cons_succ, List.getElem_toArray, List.getElem_cons_succ, List.getElem_cons_zero]
          refine wpAnyH_take (i := 5) (v := ?_) rfl (by kernel_rfl) (by kernel_rfl) (by kernel_rfl) (fun _ _ _ h => h) (Or.inl ⟨by kernel_rfl, ?_⟩) hHeld ?_
          rotate_left
          · intro wv hSw
            go_simp
            try with_reducible rfl
          simp only [Act.put, List.setIfInBounds_toArray, List.set_cons_zero, List.set_cons_succ, List.getElem_toArray, List.getElem_cons_succ, List.getElem_cons_zero]
          refine wpAnyH_take (i := 6) (v := ?_) rfl (by kernel_rfl) (by kernel_rfl) (by kernel_rfl) (fun _ _ _ h => h) (Or.inl ⟨by kernel_rfl, ?_⟩) hHeld ?_
          rotate_left
          · intro wv hSw
            obtain ⟨f0, f1, f2, f3⟩ := QY.at hSw.1 HX.out.1
            go_simp
            try with_reducible rfl
          simp only [Act.put, List.setIfInBounds_toArray, List.set_cons_zero, List.set_cons_succ, List.getElem_toArray, List.getElem_cons_succ, List.getElem_cons_zero]
          refine wpAnyH_take (i := 7) (v := ?_) rfl (by kernel_rfl) (by kernel_rfl) (by kernel_rfl) (fun _ _ _ h => h) (Or.inl ⟨by kernel_rfl, ?_⟩) hHeld ?_
          rotate_left
          · intro wv hSw
            go_simp
            try with_reducible rfl
          simp only [Act.put, List.setIfInBounds_toArray, List.set_cons_zero, List.set_cons_succ, List.getElem_toArray, List.getElem_cons_succ, List.getElem_cons_zero]
          refine wpAnyH_take (i := 8) (v := ?_) rfl (by kernel_rfl) (by kernel_rfl) (by kernel_rfl) (fun _ _ _ h => h) (Or.inl ⟨by kernel_rfl, ?_⟩) hHeld ?_
          rotate_left
          · intro wv hSw
            go_simp
            try with_reducible rfl
          simp only [Act.put, List.setIfInBounds_toArray, List.set_cons_zero, List.set_cons_succ, List.getElem_toArray, List.getElem_cons_succ, List.getElem_cons_zero]
          refine wpAnyH_take (i := 9) (v := ?_) rfl (by kernel_rfl) (by kernel_rfl) (by kernel_rfl) (fun _ _ _ h => h) (Or.inl ⟨by kernel_rfl, ?_⟩) hHeld ?_
          rotate_left
          · intro wv hSw
            go_simp
            try with_reducible rfl
          simp only [Act.put, List.setIfInBounds_toArray, List.set_cons_zero, List.set_cons_succ, List.getElem_toArray, List.getElem_cons_succ, List.getElem_cons_zero]
          refine wpAnyH_take (i := 10) (v := ?_) rfl (by kernel_rfl) (by kernel_rfl) (by kernel_rfl) (fun _ _ _ h => h) (Or.inl ⟨by kernel_rfl, ?_⟩) hHeld ?_
          rotate_left
          · intro wv hSw
            obtain ⟨f0, f1, f2, f3⟩ := QY.at hSw.1 HX.out.2.1
            go_simp
            try with_reducible rfl
          simp only [Act.put, List.setIfInBounds_toArray, List.set_cons_zero, List.set_cons_succ, List.getElem_toArray, List.getElem_cons_succ, List.getElem_cons_zero]
          refine wpAnyH_ready (rs := [11]) (by kernel_rfl) (by simp) ?_
          refine AllReadyH.cons rfl (fun K hK => ?_) AllReadyH.nil
          go_simp
          go_at_call 31
          refine (HCM.out _).mono ?_
          first | (rintro e W9x rfl hb2) | (rintro e W9x ⟨rfl, hb2⟩)
          have hN9 : QY W9x g L R ∧ w.grownBy W9x (some g) := ⟨hHeld.1.keep hb2, hHeld.2.trans (grown_below' hb2 _)⟩
          refine hK.out _ _ hN9 (fun hHeld2 => ?_)
          clear hK K hHeld hHeld2 hb2
          have hHeld : (fun W : World => QY W g L R ∧ w.grownBy W (some g)) W9x := hN9
          clear hN9
          try simp only [Act.put, List.setIfInBounds_toArray, List.set_cons_zero, List.set_cons_succ, List.getElem_toArray, List.getElem_cons_succ, List.getElem_cons_zero]
          refine wpAnyH_take (i := 12) (v := ?_) rfl (by kernel_rfl) (by kernel_rfl) (by kernel_rfl) (fun _ _ _ h => h) (Or.inl ⟨by kernel_rfl, ?_⟩) hHeld ?_
          rotate_left
          · intro wv hSw
            go_simp
            try with_reducible rfl
          simp only [Act.put, List.setIfInBounds_toArray, List.set_cons_zero, List.set_cons_succ, List.getElem_toArray, List.getElem_cons_succ, List.getElem_cons_zero]
          refine wpAnyH_take (i := 13) (v := ?_) rfl (by kernel_rfl) (by kernel_rfl) (by kernel_rfl) (fun _ _ _ h => h) (Or.inl ⟨by kernel_rfl, ?_⟩) hHeld ?_
          rotate_left
          · intro wv hSw
            go_simp
            try with_reducible rfl
          simp only [Act.put, List.setIfInBounds_toArray, List.set_cons_zero, List.set_cons_succ, List.getElem_toArray, List.getElem_cons_succ, List.getElem_cons_zero]
          refine wpAnyH_done (by kernel_rfl) ?_ _
          refine NoPanic.normal ?_
          have HQ2 := Lib.hid hHeld
          clear hHeld
          clear HCM
          go_wp2_with fail
          go_roundw
          case rel => exact ⟨c + 1, r, by have := HC.out; omega, by have := HC.out; omega, by have := HC.out; omega, by first | done | rfl | go_num, rfl, Lib.hid ⟨.inr (by rw [Nat.add_sub_cancel, HC.out.2.2.2.2.2.2, HK2.out.1, HK2.out.2]; exact HXY.out), HI.out.2⟩, HQ2⟩
          case measure => have := HC.out; simp [intOf]; omega
      · obtain rfl : s = r := by omega
        obtain ⟨ee, hee⟩ : ∃ ee, nn - s = ee := ⟨_, rfl⟩
        have eee : (nn : Int) - (s : Int) = (ee : Int) := by omega
        have uee : IntKind.i64.wrap (ee : Int) = (ee : Int) := IntWalk.i64_in _ (by omega)
        have HM : Hid (a ≤ s ∧ s ≤ m ∧ m ≤ ee ∧ ee ≤ b ∧ s + (ee - m) = md ∧ (∀ x y, s < m → m < ee → L[s]? = some x → L[ee - 1]? = some y → y.2.1 < x.2.1) ∧ (∀ x y, a < s → ee < b → L[s - 1]? = some x → L[ee]? = some y → x.2.1 ≤ y.2.1)) := Lib.hid ⟨by omega, by omega, by omega, by omega, by omega, fun x y q1 q2 hx hy => by
          have q3 := HI.out.2.resolve_left (by omega)
          rw [show pp - s = ee - 1 by omega, kf_at hx, kf_at hy] at q3
          exact q3, fun x y q1 q2 hx hy => by
          have q3 := HI.out.1.resolve_left (by omega)
          rw [show pp - (s - 1) = ee by omega, kf_at hx, kf_at hy] at q3
          omega⟩
        have HG0 := HS
        have HK : Hid (a + 2 ≤ m ∧ m + 2 ≤ b ∧ a < md ∧ md < b ∧ b - a ≤ K) := Lib.hid ⟨hA1, hB1, by omega, by omega, HKK.out⟩
        have HBL : Hid (b ≤ L.length) := Lib.hid (by rw [HL.out]; exact hb)
        have HBN : Hid (b ≤ N) := Lib.hid hb
        have HMN : Hid (md ≤ N) := Lib.hid (by omega)
        have HNN : Hid (N ≤ 1000000) := Lib.hid hN
        clear HS hs1 hs2 hs3 hlt hA1 hB1 hab2 hmd2 hnn2 hpp2 hee HI HA
        by_cases a1 : s < m
        · have a1' : (s : Int) < (m : Int) := by omega
          by_cases a2 : m < ee
          · have a2' : (m : Int) < (ee : Int) := by omega
            have HRO := Lib.hid (show Calls Try.prog 45 #[.slice (some ⟨g, 0, none⟩) N cap, .int .i64 (s : Nat), .int .i64 (m : Nat), .int .i64 (ee : Nat), .func (.func 31) #[] #[]] wr fun e W' => e = .returned (.tuple #[]) ∧ QY W' g (turned L s m ee) R ∧ wr.grownBy W' (some g) from by
              have h5 := rotate_any g cap s m ee L (turned L s m ee) R (.func (.func 31) #[] #[]) a1 a2 (by rw [HL.out]; exact HNN.out) (turned_ro (Nat.le_of_lt a1) (Nat.le_of_lt a2) (Nat.le_trans HM.out.2.2.2.1 HBL.out)) wr HG0.out.1
              rw [HL.out] at h5
              exact h5)
            go_wp2_with (first | (go_at_call 45; refine HRO.out.mono ?_) | fail)
            first | (rintro e W0 ⟨rfl, q2, q3⟩) | (rintro e W0 rfl q2 q3)
            have HM1 := Lib.hid (turned_mid (Nat.le_of_lt a1) (Nat.le_of_lt a2) (Nat.le_trans HM.out.2.2.2.1 HBL.out) HM.out.2.2.2.2.1)
            have HG1 := Lib.hid (And.intro q2 (HG0.out.2.trans q3))
            clear q2 q3 HRO a1 a2 a1' a2'
            generalize turned L s m ee = L1 at HM1 HG1
            have HL1 := Lib.hid (HM1.out.len.trans HL.out)
            obtain ⟨W, hWW⟩ : ∃ W, W0 = W := ⟨_, rfl⟩
            rw [hWW] at HG1 ⊢
            clear hWW
            by_cases b1 : a < s
            · have b1' : (a : Int) < (s : Int) := by omega
              by_cases b2 : s < md
              · have b2' : (s : Int) < (md : Int) := by omega
                have HUU := Lib.hid (HM1.out.up1 HM.out.1 HM.out.2.1 HM.out.2.2.1 HM.out.2.2.2.1 HUP.out.1 HUP.out.2)
                have HC := Lib.hid (HIH.out a s md L1 W (by have := HK.out; omega) b1 b2 HMN.out HL1.out HUU.out.1 HUU.out.2 HG1.out.1)
                go_wp2_with (first | (go_at_call 44; refine HC.out.mono ?_) | fail)
                first | (rintro e W1 rfl L2 q1 q2 q3) | (rintro e W1 rfl ⟨L2, q1, q2, q3⟩) | (rintro e W1 ⟨rfl, L2, q1, q2, q3⟩)
                have HS2 := Lib.hid q1
                have HL2 := Lib.hid (q1.len.trans HL1.out)
                have HG2 := Lib.hid (And.intro q2 (HG1.out.2.trans q3))
                clear q1 q2 q3 HC HUU b1 b2 b1' b2'
                revert HG2
                generalize W1 = W9
                intro HG2
                obtain ⟨W, hWW⟩ : ∃ W, W9 = W := ⟨_, rfl⟩
                rw [hWW] at HG2 ⊢
                clear hWW
                by_cases c1 : md < ee
                · have c1' : (md : Int) < (ee : Int) := by omega
                  by_cases c2 : ee < b
                  · have c2' : (ee : Int) < (b : Int) := by omega
                    have HUU := Lib.hid (HM1.out.up2 HM.out.1 HM.out.2.1 HM.out.2.2.1 HM.out.2.2.2.1 HM.out.2.2.2.2.1 HUP.out.1 HUP.out.2 HS2.out)
                    have HC := Lib.hid (HIH.out md ee b _ W (by have := HK.out; omega) c1 c2 HBN.out HL2.out HUU.out.1 HUU.out.2 HG2.out.1)
                    go_wp2_with (first | (go_at_call 44; refine HC.out.mono ?_) | fail)
                    first | (rintro e W2 rfl L3 q1 q2 q3) | (rintro e W2 rfl ⟨L3, q1, q2, q3⟩) | (rintro e W2 ⟨rfl, L3, q1, q2, q3⟩)
                    have HFIN := Lib.hid (Srt.merge HM.out.1 HM.out.2.1 HM.out.2.2.1 HM.out.2.2.2.1 HBL.out HM.out.2.2.2.2.1 HUP.out.1 HUP.out.2 HM.out.2.2.2.2.2.1 HM.out.2.2.2.2.2.2 HM1.out.len HM1.out.out HM1.out.r1 HM1.out.r2 HS2.out q1)
                    have HG := Lib.hid (And.intro q2 (HG2.out.2.trans q3))
                    clear q1 q2 q3 HC HUU
                    go_wp2_with fail
                    go_end0
                    exact ⟨rfl, _, HFIN.out, HG.out⟩
                  · have c2' : ¬ (ee : Int) < (b : Int) := by omega
                    have HFIN := Lib.hid (Srt.merge HM.out.1 HM.out.2.1 HM.out.2.2.1 HM.out.2.2.2.1 HBL.out HM.out.2.2.2.2.1 HUP.out.1 HUP.out.2 HM.out.2.2.2.2.2.1 HM.out.2.2.2.2.2.2 HM1.out.len HM1.out.out HM1.out.r1 HM1.out.r2 HS2.out (HM1.out.no2 HM.out.1 HM.out.2.1 HM.out.2.2.1 HM.out.2.2.2.1 HM.out.2.2.2.2.1 HUP.out.1 HUP.out.2 HS2.out (by have := HM.out.2.2.2.2.1; have := HM.out.2.2.2.1; have := HM.out.2.1; have := HM.out.2.2.1; omega)))
                    have HG := HG2
                    go_wp2_with fail
                    go_end0
                    exact ⟨rfl, _, HFIN.out, HG.out⟩
                · have c1' : ¬ (md : Int) < (ee : Int) := by omega
                  have HFIN := Lib.hid (Srt.merge HM.out.1 HM.out.2.1 HM.out.2.2.1 HM.out.2.2.2.1 HBL.out HM.out.2.2.2.2.1 HUP.out.1 HUP.out.2 HM.out.2.2.2.2.2.1 HM.out.2.2.2.2.2.2 HM1.out.len HM1.out.out HM1.out.r1 HM1.out.r2 HS2.out (HM1.out.no2 HM.out.1 HM.out.2.1 HM.out.2.2.1 HM.out.2.2.2.1 HM.out.2.2.2.2.1 HUP.out.1 HUP.out.2 HS2.out (by have := HM.out.2.2.2.2.1; have := HM.out.2.2.2.1; have := HM.out.2.1; have := HM.out.2.2.1; omega)))
                  have HG := HG2
                  go_wp2_with fail
                  go_end0
                  exact ⟨rfl, _, HFIN.out, HG.out⟩
              · have b2' : ¬ (s : Int) < (md : Int) := by omega
                have HS2 := Lib.hid (HM1.out.no1 HM.out.1 HM.out.2.1 HM.out.2.2.1 HM.out.2.2.2.1 HM.out.2.2.2.2.1 HUP.out.1 HUP.out.2 (by have := HM.out.2.2.2.2.1; have := HM.out.1; have := HM.out.2.1; have := HM.out.2.2.1; omega))
                have HL2 := HL1
                have HG2 := HG1
                by_cases c1 : md < ee
                · have c1' : (md : Int) < (ee : Int) := by omega
                  by_cases c2 : ee < b
                  · have c2' : (ee : Int) < (b : Int) := by omega
                    have HUU := Lib.hid (HM1.out.up2 HM.out.1 HM.out.2.1 HM.out.2.2.1 HM.out.2.2.2.1 HM.out.2.2.2.2.1 HUP.out.1 HUP.out.2 HS2.out)
                    have HC := Lib.hid (HIH.out md ee b _ W (by have := HK.out; omega) c1 c2 HBN.out HL2.out HUU.out.1 HUU.out.2 HG2.out.1)
                    go_wp2_with (first | (go_at_call 44; refine HC.out.mono ?_) | fail)
                    first | (rintro e W2 rfl L3 q1 q2 q3) | (rintro e W2 rfl ⟨L3, q1, q2, q3⟩) | (rintro e W2 ⟨rfl, L3, q1, q2, q3⟩)
                    have HFIN := Lib.hid (Srt.merge HM.out.1 HM.out.2.1 HM.out.2.2.1 HM.out.2.2.2.1 HBL.out HM.out.2.2.2.2.1 HUP.out.1 HUP.out.2 HM.out.2.2.2.2.2.1 HM.out.2.2.2.2.2.2 HM1.out.len HM1.out.out HM1.out.r1 HM1.out.r2 HS2.out q1)
                    have HG := Lib.hid (And.intro q2 (HG2.out.2.trans q3))
                    clear q1 q2 q3 HC HUU
                    go_wp2_with fail
                    go_end0
                    exact ⟨rfl, _, HFIN.out, HG.out⟩
                  · have c2' : ¬ (ee : Int) < (b : Int) := by omega
                    have HFIN := Lib.hid (Srt.merge HM.out.1 HM.out.2.1 HM.out.2.2.1 HM.out.2.2.2.1 HBL.out HM.out.2.2.2.2.1 HUP.out.1 HUP.out.2 HM.out.2.2.2.2.2.1 HM.out.2.2.2.2.2.2 HM1.out.len HM1.out.out HM1.out.r1 HM1.out.r2 HS2.out (HM1.out.no2 HM.out.1 HM.out.2.1 HM.out.2.2.1 HM.out.2.2.2.1 HM.out.2.2.2.2.1 HUP.out.1 HUP.out.2 HS2.out (by have := HM.out.2.2.2.2.1; have := HM.out.2.2.2.1; have := HM.out.2.1; have := HM.out.2.2.1; omega)))
                    have HG := HG2
                    go_wp2_with fail
                    go_end0
                    exact ⟨rfl, _, HFIN.out, HG.out⟩
                · have c1' : ¬ (md : Int) < (ee : Int) := by omega
                  have HFIN := Lib.hid (Srt.merge HM.out.1 HM.out.2.1 HM.out.2.2.1 HM.out.2.2.2.1 HBL.out HM.out.2.2.2.2.1 HUP.out.1 HUP.out.2 HM.out.2.2.2.2.2.1 HM.out.2.2.2.2.2.2 HM1.out.len HM1.out.out HM1.out.r1 HM1.out.r2 HS2.out (HM1.out.no2 HM.out.1 HM.out.2.1 HM.out.2.2.1 HM.out.2.2.2.1 HM.out.2.2.2.2.1 HUP.out.1 HUP.out.2 HS2.out (by have := HM.out.2.2.2.2.1; have := HM.out.2.2.2.1; have := HM.out.2.1; have := HM.out.2.2.1; omega)))
                  have HG := HG2
                  go_wp2_with fail
                  go_end0
                  exact ⟨rfl, _, HFIN.out, HG.out⟩
            · have b1' : ¬ (a : Int) < (s : Int) := by omega
              have HS2 := Lib.hid (HM1.out.no1 HM.out.1 HM.out.2.1 HM.out.2.2.1 HM.out.2.2.2.1 HM.out.2.2.2.2.1 HUP.out.1 HUP.out.2 (by have := HM.out.2.2.2.2.1; have := HM.out.1; have := HM.out.2.1; have := HM.out.2.2.1; omega))
              have HL2 := HL1
              have HG2 := HG1
              by_cases c1 : md < ee
              · have c1' : (md : Int) < (ee : Int) := by omega
                by_cases c2 : ee < b
                · have c2' : (ee : Int) < (b : Int) := by omega
                  have HUU := Lib.hid (HM1.out.up2 HM.out.1 HM.out.2.1 HM.out.2.2.1 HM.out.2.2.2.1 HM.out.2.2.2.2.1 HUP.out.1 HUP.out.2 HS2.out)
                  have HC := Lib.hid (HIH.out md ee b _ W (by have := HK.out; omega) c1 c2 HBN.out HL2.out HUU.out.1 HUU.out.2 HG2.out.1)
                  go_wp2_with (first | (go_at_call 44; refine HC.out.mono ?_) | fail)
                  first | (rintro e W2 rfl L3 q1 q2 q3) | (rintro e W2 rfl ⟨L3, q1, q2, q3⟩) | (rintro e W2 ⟨rfl, L3, q1, q2, q3⟩)
                  have HFIN := Lib.hid (Srt.merge HM.out.1 HM.out.2.1 HM.out.2.2.1 HM.out.2.2.2.1 HBL.out HM.out.2.2.2.2.1 HUP.out.1 HUP.out.2 HM.out.2.2.2.2.2.1 HM.out.2.2.2.2.2.2 HM1.out.len HM1.out.out HM1.out.r1 HM1.out.r2 HS2.out q1)
                  have HG := Lib.hid (And.intro q2 (HG2.out.2.trans q3))
                  clear q1 q2 q3 HC HUU
                  go_wp2_with fail
                  go_end0
                  exact ⟨rfl, _, HFIN.out, HG.out⟩
                · have c2' : ¬ (ee : Int) < (b : Int) := by omega
                  have HFIN := Lib.hid (Srt.merge HM.out.1 HM.out.2.1 HM.out.2.2.1 HM.out.2.2.2.1 HBL.out HM.out.2.2.2.2.1 HUP.out.1 HUP.out.2 HM.out.2.2.2.2.2.1 HM.out.2.2.2.2.2.2 HM1.out.len HM1.out.out HM1.out.r1 HM1.out.r2 HS2.out (HM1.out.no2 HM.out.1 HM.out.2.1 HM.out.2.2.1 HM.out.2.2.2.1 HM.out.2.2.2.2.1 HUP.out.1 HUP.out.2 HS2.out (by have := HM.out.2.2.2.2.1; have := HM.out.2.2.2.1; have := HM.out.2.1; have := HM.out.2.2.1; omega)))
                  have HG := HG2
                  go_wp2_with fail
                  go_end0
                  exact ⟨rfl, _, HFIN.out, HG.out⟩
              · have c1' : ¬ (md : Int) < (ee : Int) := by omega
                have HFIN := Lib.hid (Srt.merge HM.out.1 HM.out.2.1 HM.out.2.2.1 HM.out.2.2.2.1 HBL.out HM.out.2.2.2.2.1 HUP.out.1 HUP.out.2 HM.out.2.2.2.2.2.1 HM.out.2.2.2.2.2.2 HM1.out.len HM1.out.out HM1.out.r1 HM1.out.r2 HS2.out (HM1.out.no2 HM.out.1 HM.out.2.1 HM.out.2.2.1 HM.out.2.2.2.1 HM.out.2.2.2.2.1 HUP.out.1 HUP.out.2 HS2.out (by have := HM.out.2.2.2.2.1; have := HM.out.2.2.2.1; have := HM.out.2.1; have := HM.out.2.2.1; omega)))
                have HG := HG2
                go_wp2_with fail
                go_end0
                exact ⟨rfl, _, HFIN.out, HG.out⟩
          · have a2' : ¬ (m : Int) < (ee : Int) := by omega
            have HM1 := Lib.hid (Mid.no (L := L) HM.out.2.1 HM.out.2.2.1 HM.out.2.2.2.2.1 (by have := HM.out.2.1; have := HM.out.2.2.1; omega))
            have HG1 := HG0
            have HL1 := HL
            obtain ⟨L1, hL1⟩ : ∃ L1, L = L1 := ⟨_, rfl⟩
            obtain ⟨W, hWW⟩ : ∃ W, wr = W := ⟨_, rfl⟩
            rw [hL1] at HL1
            replace HM1 : Hid (Mid L s m ee md L1) := by rw [← hL1]; exact HM1
            rw [hL1, hWW] at HG1
            rw [hWW]
            clear hWW hL1
            by_cases b1 : a < s
            · have b1' : (a : Int) < (s : Int) := by omega
              by_cases b2 : s < md
              · have b2' : (s : Int) < (md : Int) := by omega
                have HUU := Lib.hid (HM1.out.up1 HM.out.1 HM.out.2.1 HM.out.2.2.1 HM.out.2.2.2.1 HUP.out.1 HUP.out.2)
                have HC := Lib.hid (HIH.out a s md L1 W (by have := HK.out; omega) b1 b2 HMN.out HL1.out HUU.out.1 HUU.out.2 HG1.out.1)
                go_wp2_with (first | (go_at_call 44; refine HC.out.mono ?_) | fail)
                first | (rintro e W1 rfl L2 q1 q2 q3) | (rintro e W1 rfl ⟨L2, q1, q2, q3⟩) | (rintro e W1 ⟨rfl, L2, q1, q2, q3⟩)
                have HS2 := Lib.hid q1
                have HL2 := Lib.hid (q1.len.trans HL1.out)
                have HG2 := Lib.hid (And.intro q2 (HG1.out.2.trans q3))
                clear q1 q2 q3 HC HUU b1 b2 b1' b2'
                revert HG2
                generalize W1 = W9
                intro HG2
                obtain ⟨W, hWW⟩ : ∃ W, W9 = W := ⟨_, rfl⟩
                rw [hWW] at HG2 ⊢
                clear hWW
                by_cases c1 : md < ee
                · have c1' : (md : Int) < (ee : Int) := by omega
                  by_cases c2 : ee < b
                  · have c2' : (ee : Int) < (b : Int) := by omega
                    have HUU := Lib.hid (HM1.out.up2 HM.out.1 HM.out.2.1 HM.out.2.2.1 HM.out.2.2.2.1 HM.out.2.2.2.2.1 HUP.out.1 HUP.out.2 HS2.out)
                    have HC := Lib.hid (HIH.out md ee b _ W (by have := HK.out; omega) c1 c2 HBN.out HL2.out HUU.out.1 HUU.out.2 HG2.out.1)
                    go_wp2_with (first | (go_at_call 44; refine HC.out.mono ?_) | fail)
                    first | (rintro e W2 rfl L3 q1 q2 q3) | (rintro e W2 rfl ⟨L3, q1, q2, q3⟩) | (rintro e W2 ⟨rfl, L3, q1, q2, q3⟩)
                    have HFIN := Lib.hid (Srt.merge HM.out.1 HM.out.2.1 HM.out.2.2.1 HM.out.2.2.2.1 HBL.out HM.out.2.2.2.2.1 HUP.out.1 HUP.out.2 HM.out.2.2.2.2.2.1 HM.out.2.2.2.2.2.2 HM1.out.len HM1.out.out HM1.out.r1 HM1.out.r2 HS2.out q1)
                    have HG := Lib.hid (And.intro q2 (HG2.out.2.trans q3))
                    clear q1 q2 q3 HC HUU
                    go_wp2_with fail
                    go_end0
                    exact ⟨rfl, _, HFIN.out, HG.out⟩
                  · have c2' : ¬ (ee : Int) < (b : Int) := by omega
                    have HFIN := Lib.hid (Srt.merge HM.out.1 HM.out.2.1 HM.out.2.2.1 HM.out.2.2.2.1 HBL.out HM.out.2.2.2.2.1 HUP.out.1 HUP.out.2 HM.out.2.2.2.2.2.1 HM.out.2.2.2.2.2.2 HM1.out.len HM1.out.out HM1.out.r1 HM1.out.r2 HS2.out (HM1.out.no2 HM.out.1 HM.out.2.1 HM.out.2.2.1 HM.out.2.2.2.1 HM.out.2.2.2.2.1 HUP.out.1 HUP.out.2 HS2.out (by have := HM.out.2.2.2.2.1; have := HM.out.2.2.2.1; have := HM.out.2.1; have := HM.out.2.2.1; omega)))
                    have HG := HG2
                    go_wp2_with fail
                    go_end0
                    exact ⟨rfl, _, HFIN.out, HG.out⟩
                · have c1' : ¬ (md : Int) < (ee : Int) := by omega
                  have HFIN := Lib.hid (Srt.merge HM.out.1 HM.out.2.1 HM.out.2.2.1 HM.out.2.2.2.1 HBL.out HM.out.2.2.2.2.1 HUP.out.1 HUP.out.2 HM.out.2.2.2.2.2.1 HM.out.2.2.2.2.2.2 HM1.out.len HM1.out.out HM1.out.r1 HM1.out.r2 HS2.out (HM1.out.no2 HM.out.1 HM.out.2.1 HM.out.2.2.1 HM.out.2.2.2.1 HM.out.2.2.2.2.1 HUP.out.1 HUP.out.2 HS2.out (by have := HM.out.2.2.2.2.1; have := HM.out.2.2.2.1; have := HM.out.2.1; have := HM.out.2.2.1; omega)))
                  have HG := HG2
                  go_wp2_with fail
                  go_end0
                  exact ⟨rfl, _, HFIN.out, HG.out⟩
              · have b2' : ¬ (s : Int) < (md : Int) := by omega
                have HS2 := Lib.hid (HM1.out.no1 HM.out.1 HM.out.2.1 HM.out.2.2.1 HM.out.2.2.2.1 HM.out.2.2.2.2.1 HUP.out.1 HUP.out.2 (by have := HM.out.2.2.2.2.1; have := HM.out.1; have := HM.out.2.1; have := HM.out.2.2.1; omega))
                have HL2 := HL1
                have HG2 := HG1
                by_cases c1 : md < ee
                · have c1' : (md : Int) < (ee : Int) := by omega
                  by_cases c2 : ee < b
                  · have c2' : (ee : Int) < (b : Int) := by omega
                    have HUU := Lib.hid (HM1.out.up2 HM.out.1 HM.out.2.1 HM.out.2.2.1 HM.out.2.2.2.1 HM.out.2.2.2.2.1 HUP.out.1 HUP.out.2 HS2.out)
                    have HC := Lib.hid (HIH.out md ee b _ W (by have := HK.out; omega) c1 c2 HBN.out HL2.out HUU.out.1 HUU.out.2 HG2.out.1)
                    go_wp2_with (first | (go_at_call 44; refine HC.out.mono ?_) | fail)
                    first | (rintro e W2 rfl L3 q1 q2 q3) | (rintro e W2 rfl ⟨L3, q1, q2, q3⟩) | (rintro e W2 ⟨rfl, L3, q1, q2, q3⟩)
                    have HFIN := Lib.hid (Srt.merge HM.out.1 HM.out.2.1 HM.out.2.2.1 HM.out.2.2.2.1 HBL.out HM.out.2.2.2.2.1 HUP.out.1 HUP.out.2 HM.out.2.2.2.2.2.1 HM.out.2.2.2.2.2.2 HM1.out.len HM1.out.out HM1.out.r1 HM1.out.r2 HS2.out q1)
                    have HG := Lib.hid (And.intro q2 (HG2.out.2.trans q3))
                    clear q1 q2 q3 HC HUU
                    go_wp2_with fail
                    go_end0
                    exact ⟨rfl, _, HFIN.out, HG.out⟩
                  · have c2' : ¬ (ee : Int) < (b : Int) := by omega
                    have HFIN := Lib.hid (Srt.merge HM.out.1 HM.out.2.1 HM.out.2.2.1 HM.out.2.2.2.1 HBL.out HM.out.2.2.2.2.1 HUP.out.1 HUP.out.2 HM.out.2.2.2.2.2.1 HM.out.2.2.2.2.2.2 HM1.out.len HM1.out.out HM1.out.r1 HM1.out.r2 HS2.out (HM1.out.no2 HM.out.1 HM.out.2.1 HM.out.2.2.1 HM.out.2.2.2.1 HM.out.2.2.2.2.1 HUP.out.1 HUP.out.2 HS2.out (by have := HM.out.2.2.2.2.1; have := HM.out.2.2.2.1; have := HM.out.2.1; have := HM.out.2.2.1; omega)))
                    have HG := HG2
                    go_wp2_with fail
                    go_end0
                    exact ⟨rfl, _, HFIN.out, HG.out⟩
                · have c1' : ¬ (md : Int) < (ee : Int) := by omega
                  have HFIN := Lib.hid (Srt.merge HM.out.1 HM.out.2.1 HM.out.2.2.1 HM.out.2.2.2.1 HBL.out HM.out.2.2.2.2.1 HUP.out.1 HUP.out.2 HM.out.2.2.2.2.2.1 HM.out.2.2.2.2.2.2 HM1.out.len HM1.out.out HM1.out.r1 HM1.out.r2 HS2.out (HM1.out.no2 HM.out.1 HM.out.2.1 HM.out.2.2.1 HM.out.2.2.2.1 HM.out.2.2.2.2.1 HUP.out.1 HUP.out.2 HS2.out (by have := HM.out.2.2.2.2.1; have := HM.out.2.2.2.1; have := HM.out.2.1; have := HM.out.2.2.1; omega)))
                  have HG := HG2
                  go_wp2_with fail
                  go_end0
                  exact ⟨rfl, _, HFIN.out, HG.out⟩
            · have b1' : ¬ (a : Int) < (s : Int) := by omega
              have HS2 := Lib.hid (HM1.out.no1 HM.out.1 HM.out.2.1 HM.out.2.2.1 HM.out.2.2.2.1 HM.out.2.2.2.2.1 HUP.out.1 HUP.out.2 (by have := HM.out.2.2.2.2.1; have := HM.out.1; have := HM.out.2.1; have := HM.out.2.2.1; omega))
              have HL2 := HL1
              have HG2 := HG1
              by_cases c1 : md < ee
              · have c1' : (md : Int) < (ee : Int) := by omega
                by_cases c2 : ee < b
                · have c2' : (ee : Int) < (b : Int) := by omega
                  have HUU := Lib.hid (HM1.out.up2 HM.out.1 HM.out.2.1 HM.out.2.2.1 HM.out.2.2.2.1 HM.out.2.2.2.2.1 HUP.out.1 HUP.out.2 HS2.out)
                  have HC := Lib.hid (HIH.out md ee b _ W (by have := HK.out; omega) c1 c2 HBN.out HL2.out HUU.out.1 HUU.out.2 HG2.out.1)
                  go_wp2_with (first | (go_at_call 44; refine HC.out.mono ?_) | fail)
                  first | (rintro e W2 rfl L3 q1 q2 q3) | (rintro e W2 rfl ⟨L3, q1, q2, q3⟩) | (rintro e W2 ⟨rfl, L3, q1, q2, q3⟩)
                  have HFIN := Lib.hid (Srt.merge HM.out.1 HM.out.2.1 HM.out.2.2.1 HM.out.2.2.2.1 HBL.out HM.out.2.2.2.2.1 HUP.out.1 HUP.out.2 HM.out.2.2.2.2.2.1 HM.out.2.2.2.2.2.2 HM1.out.len HM1.out.out HM1.out.r1 HM1.out.r2 HS2.out q1)
                  have HG := Lib.hid (And.intro q2 (HG2.out.2.trans q3))
                  clear q1 q2 q3 HC HUU
                  go_wp2_with fail
                  go_end0
                  exact ⟨rfl, _, HFIN.out, HG.out⟩
                · have c2' : ¬ (ee : Int) < (b : Int) := by omega
                  have HFIN := Lib.hid (Srt.merge HM.out.1 HM.out.2.1 HM.out.2.2.1 HM.out.2.2.2.1 HBL.out HM.out.2.2.2.2.1 HUP.out.1 HUP.out.2 HM.out.2.2.2.2.2.1 HM.out.2.2.2.2.2.2 HM1.out.len HM1.out.out HM1.out.r1 HM1.out.r2 HS2.out (HM1.out.no2 HM.out.1 HM.out.2.1 HM.out.2.2.1 HM.out.2.2.2.1 HM.out.2.2.2.2.1 HUP.out.1 HUP.out.2 HS2.out (by have := HM.out.2.2.2.2.1; have := HM.out.2.2.2.1; have := HM.out.2.1; have := HM.out.2.2.1; omega)))
                  have HG := HG2
                  go_wp2_with fail
                  go_end0
                  exact ⟨rfl, _, HFIN.out, HG.out⟩
              · have c1' : ¬ (md : Int) < (ee : Int) := by omega
                have HFIN := Lib.hid (Srt.merge HM.out.1 HM.out.2.1 HM.out.2.2.1 HM.out.2.2.2.1 HBL.out HM.out.2.2.2.2.1 HUP.out.1 HUP.out.2 HM.out.2.2.2.2.2.1 HM.out.2.2.2.2.2.2 HM1.out.len HM1.out.out HM1.out.r1 HM1.out.r2 HS2.out (HM1.out.no2 HM.out.1 HM.out.2.1 HM.out.2.2.1 HM.out.2.2.2.1 HM.out.2.2.2.2.1 HUP.out.1 HUP.out.2 HS2.out (by have := HM.out.2.2.2.2.1; have := HM.out.2.2.2.1; have := HM.out.2.1; have := HM.out.2.2.1; omega)))
                have HG := HG2
                go_wp2_with fail
                go_end0
                exact ⟨rfl, _, HFIN.out, HG.out⟩
        · have a1' : ¬ (s : Int) < (m : Int) := by omega
          have HM1 := Lib.hid (Mid.no (L := L) HM.out.2.1 HM.out.2.2.1 HM.out.2.2.2.2.1 (by have := HM.out.2.1; have := HM.out.2.2.1; omega))
          have HG1 := HG0
          have HL1 := HL
          obtain ⟨L1, hL1⟩ : ∃ L1, L = L1 := ⟨_, rfl⟩
          obtain ⟨W, hWW⟩ : ∃ W, wr = W := ⟨_, rfl⟩
          rw [hL1] at HL1
          replace HM1 : Hid (Mid L s m ee md L1) := by rw [← hL1]; exact HM1
          rw [hL1, hWW] at HG1
          rw [hWW]
          clear hWW hL1
          by_cases b1 : a < s
          · have b1' : (a : Int) < (s : Int) := by omega
            by_cases b2 : s < md
            · have b2' : (s : Int) < (md : Int) := by omega
              have HUU := Lib.hid (HM1.out.up1 HM.out.1 HM.out.2.1 HM.out.2.2.1 HM.out.2.2.2.1 HUP.out.1 HUP.out.2)
              have HC := Lib.hid (HIH.out a s md L1 W (by have := HK.out; omega) b1 b2 HMN.out HL1.out HUU.out.1 HUU.out.2 HG1.out.1)
              go_wp2_with (first | (go_at_call 44; refine HC.out.mono ?_) | fail)
              first | (rintro e W1 rfl L2 q1 q2 q3) | (rintro e W1 rfl ⟨L2, q1, q2, q3⟩) | (rintro e W1 ⟨rfl, L2, q1, q2, q3⟩)
              have HS2 := Lib.hid q1
              have HL2 := Lib.hid (q1.len.trans HL1.out)
              have HG2 := Lib.hid (And.intro q2 (HG1.out.2.trans q3))
              clear q1 q2 q3 HC HUU b1 b2 b1' b2'
              revert HG2
              generalize W1 = W9
              intro HG2
              obtain ⟨W, hWW⟩ : ∃ W, W9 = W := ⟨_, rfl⟩
              rw [hWW] at HG2 ⊢
              clear hWW
              by_cases c1 : md < ee
              · have c1' : (md : Int) < (ee : Int) := by omega
                by_cases c2 : ee < b
                · have c2' : (ee : Int) < (b : Int) := by omega
                  have HUU := Lib.hid (HM1.out.up2 HM.out.1 HM.out.2.1 HM.out.2.2.1 HM.out.2.2.2.1 HM.out.2.2.2.2.1 HUP.out.1 HUP.out.2 HS2.out)
                  have HC := Lib.hid (HIH.out md ee b _ W (by have := HK.out; omega) c1 c2 HBN.out HL2.out HUU.out.1 HUU.out.2 HG2.out.1)
                  go_wp2_with (first | (go_at_call 44; refine HC.out.mono ?_) | fail)
                  first | (rintro e W2 rfl L3 q1 q2 q3) | (rintro e W2 rfl ⟨L3, q1, q2, q3⟩) | (rintro e W2 ⟨rfl, L3, q1, q2, q3⟩)
                  have HFIN := Lib.hid (Srt.merge HM.out.1 HM.out.2.1 HM.out.2.2.1 HM.out.2.2.2.1 HBL.out HM.out.2.2.2.2.1 HUP.out.1 HUP.out.2 HM.out.2.2.2.2.2.1 HM.out.2.2.2.2.2.2 HM1.out.len HM1.out.out HM1.out.r1 HM1.out.r2 HS2.out q1)
                  have HG := Lib.hid (And.intro q2 (HG2.out.2.trans q3))
                  clear q1 q2 q3 HC HUU
                  go_wp2_with fail
                  go_end0
                  exact ⟨rfl, _, HFIN.out, HG.out⟩
                · have c2' : ¬ (ee : Int) < (b : Int) := by omega
                  have HFIN := Lib.hid (Srt.merge HM.out.1 HM.out.2.1 HM.out.2.2.1 HM.out.2.2.2.1 HBL.out HM.out.2.2.2.2.1 HUP.out.1 HUP.out.2 HM.out.2.2.2.2.2.1 HM.out.2.2.2.2.2.2 HM1.out.len HM1.out.out HM1.out.r1 HM1.out.r2 HS2.out (HM1.out.no2 HM.out.1 HM.out.2.1 HM.out.2.2.1 HM.out.2.2.2.1 HM.out.2.2.2.2.1 HUP.out.1 HUP.out.2 HS2.out (by have := HM.out.2.2.2.2.1; have := HM.out.2.2.2.1; have := HM.out.2.1; have := HM.out.2.2.1; omega)))
                  have HG := HG2
                  go_wp2_with fail
                  go_end0
                  exact ⟨rfl, _, HFIN.out, HG.out⟩
              · have c1' : ¬ (md : Int) < (ee : Int) := by omega
                have HFIN := Lib.hid (Srt.merge HM.out.1 HM.out.2.1 HM.out.2.2.1 HM.out.2.2.2.1 HBL.out HM.out.2.2.2.2.1 HUP.out.1 HUP.out.2 HM.out.2.2.2.2.2.1 HM.out.2.2.2.2.2.2 HM1.out.len HM1.out.out HM1.out.r1 HM1.out.r2 HS2.out (HM1.out.no2 HM.out.1 HM.out.2.1 HM.out.2.2.1 HM.out.2.2.2.1 HM.out.2.2.2.2.1 HUP.out.1 HUP.out.2 HS2.out (by have := HM.out.2.2.2.2.1; have := HM.out.2.2.2.1; have := HM.out.2.1; have := HM.out.2.2.1; omega)))
                have HG := HG2
                go_wp2_with fail
                go_end0
                exact ⟨rfl, _, HFIN.out, HG.out⟩
            · have b2' : ¬ (s : Int) < (md : Int) := by omega
              have HS2 := Lib.hid (HM1.out.no1 HM.out.1 HM.out.2.1 HM.out.2.2.1 HM.out.2.2.2.1 HM.out.2.2.2.2.1 HUP.out.1 HUP.out.2 (by have := HM.out.2.2.2.2.1; have := HM.out.1; have := HM.out.2.1; have := HM.out.2.2.1; omega))
              have HL2 := HL1
              have HG2 := HG1
              by_cases c1 : md < ee
              · have c1' : (md : Int) < (ee : Int) := by omega
                by_cases c2 : ee < b
                · have c2' : (ee : Int) < (b : Int) := by omega
                  have HUU := Lib.hid (HM1.out.up2 HM.out.1 HM.out.2.1 HM.out.2.2.1 HM.out.2.2.2.1 HM.out.2.2.2.2.1 HUP.out.1 HUP.out.2 HS2.out)
                  have HC := Lib.hid (HIH.out md ee b _ W (by have := HK.out; omega) c1 c2 HBN.out HL2.out HUU.out.1 HUU.out.2 HG2.out.1)
                  go_wp2_with (first | (go_at_call 44; refine HC.out.mono ?_) | fail)
                  first | (rintro e W2 rfl L3 q1 q2 q3) | (rintro e W2 rfl ⟨L3, q1, q2, q3⟩) | (rintro e W2 ⟨rfl, L3, q1, q2, q3⟩)
                  have HFIN := Lib.hid (Srt.merge HM.out.1 HM.out.2.1 HM.out.2.2.1 HM.out.2.2.2.1 HBL.out HM.out.2.2.2.2.1 HUP.out.1 HUP.out.2 HM.out.2.2.2.2.2.1 HM.out.2.2.2.2.2.2 HM1.out.len HM1.out.out HM1.out.r1 HM1.out.r2 HS2.out q1)
                  have HG := Lib.hid (And.intro q2 (HG2.out.2.trans q3))
                  clear q1 q2 q3 HC HUU
                  go_wp2_with fail
                  go_end0
                  exact ⟨rfl, _, HFIN.out, HG.out⟩
                · have c2' : ¬ (ee : Int) < (b : Int) := by omega
                  have HFIN := Lib.hid (Srt.merge HM.out.1 HM.out.2.1 HM.out.2.2.1 HM.out.2.2.2.1 HBL.out HM.out.2.2.2.2.1 HUP.out.1 HUP.out.2 HM.out.2.2.2.2.2.1 HM.out.2.2.2.2.2.2 HM1.out.len HM1.out.out HM1.out.r1 HM1.out.r2 HS2.out (HM1.out.no2 HM.out.1 HM.out.2.1 HM.out.2.2.1 HM.out.2.2.2.1 HM.out.2.2.2.2.1 HUP.out.1 HUP.out.2 HS2.out (by have := HM.out.2.2.2.2.1; have := HM.out.2.2.2.1; have := HM.out.2.1; have := HM.out.2.2.1; omega)))
                  have HG := HG2
                  go_wp2_with fail
                  go_end0
                  exact ⟨rfl, _, HFIN.out, HG.out⟩
              · have c1' : ¬ (md : Int) < (ee : Int) := by omega
                have HFIN := Lib.hid (Srt.merge HM.out.1 HM.out.2.1 HM.out.2.2.1 HM.out.2.2.2.1 HBL.out HM.out.2.2.2.2.1 HUP.out.1 HUP.out.2 HM.out.2.2.2.2.2.1 HM.out.2.2.2.2.2.2 HM1.out.len HM1.out.out HM1.out.r1 HM1.out.r2 HS2.out (HM1.out.no2 HM.out.1 HM.out.2.1 HM.out.2.2.1 HM.out.2.2.2.1 HM.out.2.2.2.2.1 HUP.out.1 HUP.out.2 HS2.out (by have := HM.out.2.2.2.2.1; have := HM.out.2.2.2.1; have := HM.out.2.1; have := HM.out.2.2.1; omega)))
                have HG := HG2
                go_wp2_with fail
                go_end0
                exact ⟨rfl, _, HFIN.out, HG.out⟩
          · have b1' : ¬ (a : Int) < (s : Int) := by omega
            have HS2 := Lib.hid (HM1.out.no1 HM.out.1 HM.out.2.1 HM.out.2.2.1 HM.out.2.2.2.1 HM.out.2.2.2.2.1 HUP.out.1 HUP.out.2 (by have := HM.out.2.2.2.2.1; have := HM.out.1; have := HM.out.2.1; have := HM.out.2.2.1; omega))
            have HL2 := HL1
            have HG2 := HG1
            by_cases c1 : md < ee
            · have c1' : (md : Int) < (ee : Int) := by omega
              by_cases c2 : ee < b
              · have c2' : (ee : Int) < (b : Int) := by omega
                have HUU := Lib.hid (HM1.out.up2 HM.out.1 HM.out.2.1 HM.out.2.2.1 HM.out.2.2.2.1 HM.out.2.2.2.2.1 HUP.out.1 HUP.out.2 HS2.out)
                have HC := Lib.hid (HIH.out md ee b _ W (by have := HK.out; omega) c1 c2 HBN.out HL2.out HUU.out.1 HUU.out.2 HG2.out.1)
                go_wp2_with (first | (go_at_call 44; refine HC.out.mono ?_) | fail)
                first | (rintro e W2 rfl L3 q1 q2 q3) | (rintro e W2 rfl ⟨L3, q1, q2, q3⟩) | (rintro e W2 ⟨rfl, L3, q1, q2, q3⟩)
                have HFIN := Lib.hid (Srt.merge HM.out.1 HM.out.2.1 HM.out.2.2.1 HM.out.2.2.2.1 HBL.out HM.out.2.2.2.2.1 HUP.out.1 HUP.out.2 HM.out.2.2.2.2.2.1 HM.out.2.2.2.2.2.2 HM1.out.len HM1.out.out HM1.out.r1 HM1.out.r2 HS2.out q1)
                have HG := Lib.hid (And.intro q2 (HG2.out.2.trans q3))
                clear q1 q2 q3 HC HUU
                go_wp2_with fail
                go_end0
                exact ⟨rfl, _, HFIN.out, HG.out⟩
              · have c2' : ¬ (ee : Int) < (b : Int) := by omega
                have HFIN := Lib.hid (Srt.merge HM.out.1 HM.out.2.1 HM.out.2.2.1 HM.out.2.2.2.1 HBL.out HM.out.2.2.2.2.1 HUP.out.1 HUP.out.2 HM.out.2.2.2.2.2.1 HM.out.2.2.2.2.2.2 HM1.out.len HM1.out.out HM1.out.r1 HM1.out.r2 HS2.out (HM1.out.no2 HM.out.1 HM.out.2.1 HM.out.2.2.1 HM.out.2.2.2.1 HM.out.2.2.2.2.1 HUP.out.1 HUP.out.2 HS2.out (by have := HM.out.2.2.2.2.1; have := HM.out.2.2.2.1; have := HM.out.2.1; have := HM.out.2.2.1; omega)))
                have HG := HG2
                go_wp2_with fail
                go_end0
                exact ⟨rfl, _, HFIN.out, HG.out⟩
            · have c1' : ¬ (md : Int) < (ee : Int) := by omega
              have HFIN := Lib.hid (Srt.merge HM.out.1 HM.out.2.1 HM.out.2.2.1 HM.out.2.2.2.1 HBL.out HM.out.2.2.2.2.1 HUP.out.1 HUP.out.2 HM.out.2.2.2.2.2.1 HM.out.2.2.2.2.2.2 HM1.out.len HM1.out.out HM1.out.r1 HM1.out.r2 HS2.out (HM1.out.no2 HM.out.1 HM.out.2.1 HM.out.2.2.1 HM.out.2.2.2.1 HM.out.2.2.2.2.1 HUP.out.1 HUP.out.2 HS2.out (by have := HM.out.2.2.2.2.1; have := HM.out.2.2.2.1; have := HM.out.2.1; have := HM.out.2.2.1; omega)))
              have HG := HG2
              go_wp2_with fail
              go_end0
              exact ⟨rfl, _, HFIN.out, HG.out⟩
end Go.Proofs.Ytegbhjmghkbgmaa
