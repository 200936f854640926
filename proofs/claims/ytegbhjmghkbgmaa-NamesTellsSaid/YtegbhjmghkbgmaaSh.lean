/- slices.symMerge where one half is one symbol. -/
import Derived.Test.YtegbhjmghkbgmaaSf
import Derived.Test.YtegbhjmghkbgmaaSg
namespace Go.Proofs.Ytegbhjmghkbgmaa
open Go.RowKit Go.Shelf
set_option linter.unusedVariables false
set_option linter.unusedSimpArgs false
attribute [local go_sem] Oper.semAt_some
/-- The address of the symbol at a place. -/
def kf (L : List Sy) (i : Nat) : Nat := match L[i]? with | some s => s.2.1 | none => 0
theorem kf_at {L : List Sy} {i : Nat} {s : Sy} (h : L[i]? = some s) : kf L i = s.2.1 := by unfold kf; rw [h]
theorem InsJ.low {Li Lj : List Sy} {a i j q : Nat} (h : InsJ Li a i j Lj) (hq : q < j) : Lj[q]? = Li[q]? := by
  obtain ⟨P, A, x, B, S, rfl, rfl, h1, h2, h3, _⟩ := h
  have e1 : P ++ (A ++ (x :: (B ++ S))) = (P ++ A) ++ (x :: (B ++ S)) := by simp
  have e2 : P ++ ((A ++ B) ++ (x :: S)) = (P ++ A) ++ (B ++ (x :: S)) := by simp
  have hl : q < (P ++ A).length := by rw [List.length_append]; omega
  rw [e1, e2]
  exact (List.getElem?_append_left hl).trans (List.getElem?_append_left hl).symm
theorem InsJ.top {Li Lj : List Sy} {a i j : Nat} (h : InsJ Li a i j Lj) : Lj[j]? = Li[i]? := by
  obtain ⟨P, A, x, B, S, rfl, rfl, h1, h2, h3, _⟩ := h
  have e1 : P ++ (A ++ (x :: (B ++ S))) = (P ++ A) ++ (x :: (B ++ S)) := by simp
  have e2 : P ++ ((A ++ B) ++ (x :: S)) = (P ++ (A ++ B)) ++ (x :: S) := by simp
  have l1 : (P ++ A).length = j := by rw [List.length_append]; omega
  have l2 : (P ++ (A ++ B)).length = i := by simp only [List.length_append]; omega
  rw [e1, e2, List.getElem?_append_right (by omega), List.getElem?_append_right (by omega), l1, l2, Nat.sub_self, Nat.sub_self]
  rfl
set_option maxRecDepth 100000 in
set_option maxHeartbeats 8000000 in
theorem merge_left (g cap a b : Nat) (L : List Sy) (R : List Value) (hab : a + 1 < b) (hb : b ≤ L.length) (hN : L.length ≤ 1000000) (hup : Up (cut L (a + 1) b)) (w : World) (h : QY w g L R) :
    Calls Try.prog 44 #[.slice (some ⟨g, 0, none⟩) L.length cap, .int .i64 (a : Nat), .int .i64 ((a + 1 : Nat) : Int), .int .i64 (b : Nat), .func (.func 31) #[] #[]] w fun e W' => e = .returned (.tuple #[]) ∧ ∃ L', Srt L L' a b ∧ QY W' g L' R ∧ w.grownBy W' (some g) := by
  have HS0 := Lib.hid (show QY w g L R ∧ w.grownBy w (some g) from ⟨h, rfl, rfl, rfl, Nat.le_refl _, fun _ _ _ => rfl⟩)
  have HU := Lib.hid (fun Lk k (hk : InsU L a k b Lk) (hge : ∀ x y, k + 1 < b → L[a]? = some x → L[k + 1]? = some y → x.2.1 ≤ y.2.1) => hk.done hup hge)
  have HST := Lib.hid (InsU.start (L := L) (show a < b by omega) hb)
  clear h
  obtain ⟨N, hn⟩ : ∃ N, L.length = N := ⟨_, rfl⟩
  have HL := Lib.hid hn
  rw [hn] at hN hb ⊢
  clear hn
  obtain ⟨m, hm⟩ : ∃ m, a + 1 = m := ⟨_, rfl⟩
  rw [hm]
  have em : (m : Int) - (a : Int) = 1 := by omega
  go_enter Try.func44, Try.ntmps44
  go_wp2_with fail
  go_loopw [10, 11] (fun u v wr => ∃ i j : Nat, m ≤ i ∧ i ≤ j ∧ j ≤ b ∧ u = .int .i64 i ∧ v = .int .i64 j ∧ Hid ((i = m ∨ kf L (i - 1) < kf L a) ∧ (j = b ∨ ¬ kf L j < kf L a)) ∧ Hid (QY wr g L R ∧ w.grownBy wr (some g))) (fun u v _ => (intOf v).toNat - (intOf u).toNat)
  case atStart => exact ⟨m, b, Nat.le_refl _, by omega, Nat.le_refl _, by first | done | rfl | go_num, rfl, Lib.hid ⟨.inl rfl, .inl rfl⟩, HS0⟩
  case round =>
    clear HS0
    obtain ⟨i, j, hi, hij, hj, rfl, rfl, HI, HS⟩ := hrel
    by_cases hlt : i < j
    · obtain ⟨ij, hij2⟩ : ∃ ij, i + j = ij := ⟨_, rfl⟩
      obtain ⟨hh, hh2⟩ : ∃ hh, ij / 2 = hh := ⟨_, rfl⟩
      have e1 : (i : Int) + (j : Int) = (ij : Int) := by omega
      have bij : ij < 3000000 := by omega
      have e2 : (ij : Int) / 2 = (hh : Int) := by omega
      have bh : hh < 3000000 := by omega
      have bhN : hh < N := by omega
      have bhN2 : (hh : Int) < (N : Int) := by omega
      have baN : a < N := by omega
      have baN2 : (a : Int) < (N : Int) := by omega
      obtain ⟨x, hx⟩ : ∃ x, L[hh]? = some x := ⟨L[hh]'(by rw [HL.out]; exact bhN), List.getElem?_eq_getElem _⟩
      obtain ⟨y, hy⟩ : ∃ y, L[a]? = some y := ⟨L[a]'(by rw [HL.out]; exact baN), List.getElem?_eq_getElem _⟩
      have HX := Lib.hid (And.intro hx (And.intro hy True.intro))
      have kx := kf_at hx
      have ky := kf_at hy
      have HK := Lib.hid (And.intro kx ky)
      clear hx hy kx ky
      have HJ : Hid (QY (World.drew wr) g L R ∧ w.grownBy (World.drew wr) (some g)) := Lib.hid ⟨HS.out.1, HS.out.2.trans (grown_below' (Below.refl _ wr).drew _)⟩
      clear HS
      have HCM := Lib.hid (fun W => cmpY_any x y W)
      unfold Sy.v at HCM
      have HA := Lib.hid (And.intro hi (And.intro hij (And.intro hj (And.intro hlt (And.intro hij2 hh2)))))
      by_cases hxy : x.2.1 < y.2.1
      · have hc : cmpI x.2.1 y.2.1 < 0 := cmpI_lt.2 hxy
        have HXY := Lib.hid hxy
        generalize cmpI x.2.1 y.2.1 = c at HCM hc
        have dc : decide (c < 0) = true := decide_eq_true hc
        clear hxy
        go_upto_region 5 with fail
        refine wp_region_noPanic ?_
        refine wp_region_held_drew (S := fun W : World => QY W g L R ∧ w.grownBy W (some g)) (by kernel_rfl) ?_ (fun hHeld => ?_)
        · exact HJ.out
        clear HJ
        generalize World.drew _ = V at hHeld ⊢
        refine wpAnyH_take (i := 0) (v := ?_) rfl (by kernel_rfl) (by kernel_rfl) (by kernel_rfl) (fun _ _ _ h => h) (Or.inl ⟨by kernel_rfl, ?_⟩) hHeld ?_
        rotate_left
        · intro wv hSw
          go_simp
          try with_reducible rfl
        simp only [Act.put, List.setIfInBounds_toArray, List.set_cons_zero, List.set_cons_succ, List.getElem_toArray, List.getElem_cons_succ, List.getElem_cons_zero]
        refine wpAnyH_take (i := 1) (v := ?_) rfl (by kernel_rfl) (by kernel_rfl) (by kernel_rfl) (fun _ _ _ h => h) (Or.inl ⟨by kernel_rfl, ?_⟩) hHeld ?_
        rotate_left
        · intro wv hSw
          go_simp
          try with_reducible rfl
        simp only [Act.put, List.setIfInBounds_toArray, List.set_cons_zero, List.set_cons_succ, List.getElem_toArray, List.getElem_cons_succ, List.getElem_cons_zero]
        refine wpAnyH_take (i := 2) (v := ?_) rfl (by kernel_rfl) (by kernel_rfl) (by kernel_rfl) (fun _ _ _ h => h) (Or.inl ⟨by kernel_rfl, ?_⟩) hHeld ?_
        rotate_left
        · intro wv hSw
          go_simp
          try with_reducible rfl
        simp only [Act.put, List.setIfInBounds_toArray, List.set_cons_zero, List.set_cons_succ, List.getElem_toArray, List.getElem_cons_succ, List.getElem_cons_zero]
        refine wpAnyH_take (i := 3) (v := ?_) rfl (by kernel_rfl) (by kernel_rfl) (by kernel_rfl) (fun _ _ _ h => h) (Or.inl ⟨by kernel_rfl, ?_⟩) hHeld ?_
        rotate_left
        · intro wv hSw
          go_simp
          try with_reducible rfl
        simp only [Act.put, List.setIfInBounds_toArray, List.set_cons_zero, List.set_cons_succ, List.getElem_toArray, List.getElem_cons_succ, List.getElem_cons_zero]
        refine wpAnyH_take (i := 4) (v := ?_) rfl (by kernel_rfl) (by kernel_rfl) (by kernel_rfl) (fun _ _ _ h => h) (Or.inl ⟨by kernel_rfl, ?_⟩) hHeld ?_
        rotate_left
        · intro wv hSw
          obtain ⟨f0, f1, f2, f3⟩ := QY.at hSw.1 HX.out.1
          go_simp
          try with_reducible rfl
        simp only [Act.put, List.setIfInBounds_toArray, List.set_cons_zero, List.set_cons_succ, List.getElem_toArray, List.getElem_cons_succ, List.getElem_cons_zero]
        refine wpAnyH_take (i := 5) (v := ?_) rfl (by kernel_rfl) (by kernel_rfl) (by kernel_rfl) (fun _ _ _ h => h) (Or.inl ⟨by kernel_rfl, ?_⟩) hHeld ?_
        rotate_left
        · intro wv hSw
          go_simp
          try with_reducible rfl
        simp only [Act.put, List.setIfInBounds_toArray, List.set_cons_zero, List.set_cons_succ, List.getElem_toArray, List.getElem_cons_succ, List.getElem_cons_zero]
        refine wpAnyH_take (i := 6) (v := ?_) rfl (by kernel_rfl) (by kernel_rfl) (by kernel_rfl) (fun _ _ _ h => h) (Or.inl ⟨by kernel_rfl, ?_⟩) hHeld ?_
        rotate_left
        · intro wv hSw
          go_simp
          try with_reducible rfl
        simp only [Act.put, List.setIfInBounds_toArray, List.set_cons_zero, List.set_cons_succ, List.getElem_toArray, List.getElem_cons_succ, List.getElem_cons_zero]
        refine wpAnyH_take (i := 7) (v := ?_) rfl (by kernel_rfl) (by kernel_rfl) (by kernel_rfl) (fun _ _ _ h => h) (Or.inl ⟨by kernel_rfl, ?_⟩) hHeld ?_
        rotate_left
        · intro wv hSw
          go_simp
          try with_reducible rfl
        simp only [Act.put, List.setIfInBounds_toArray, List.set_cons_zero, List.set_cons_succ, List.getElem_toArray, List.getElem_cons_succ, List.getElem_cons_zero]
        refine wpAnyH_take (i := 8) (v := ?_) rfl (by kernel_rfl) (by kernel_rfl) (by kernel_rfl) (fun _ _ _ h => h) (Or.inl ⟨by kernel_rfl, ?_⟩) hHeld ?_
        rotate_left
        · intro wv hSw
          obtain ⟨f0, f1, f2, f3⟩ := QY.at hSw.1 HX.out.2.1
          go_simp
          try with_reducible rfl
        simp only [Act.put, List.setIfInBounds_toArray, List.set_cons_zero, List.set_cons_succ, List.getElem_toArray, List.getElem_cons_succ, List.getElem_cons_zero]
        refine wpAnyH_ready (rs := [9]) (by kernel_rfl) (by simp) ?_
        refine AllReadyH.cons rfl (fun K hK => ?_) AllReadyH.nil
        go_simp
        go_at_call 31
        refine (HCM.out _).mono ?_
        first | (rintro e W9x rfl hb2) | (rintro e W9x ⟨rfl, hb2⟩)
        have hN9 : QY W9x g L R ∧ w.grownBy W9x (some g) := ⟨hHeld.1.keep hb2, hHeld.2.trans (grown_below' hb2 _)⟩
        refine hK.out _ _ hN9 (fun hHeld2 => ?_)
        clear hK K hHeld hHeld2 hb2
        have hHeld : (fun W : World => QY W g L R ∧ w.grownBy W (some g)) W9x := hN9
        clear hN9
        try simp only [Act.put, List.setIfInBounds_toArray, List.set_cons_zero, List.set_cons_succ, List.getElem_toArray, List.getElem_cons_succ, List.getElem_cons_zero]
        refine wpAnyH_take (i := 10) (v := ?_) rfl (by kernel_rfl) (by kernel_rfl) (by kernel_rfl) (fun _ _ _ h => h) (Or.inl ⟨by kernel_rfl, ?_⟩) hHeld ?_
        rotate_left
        · intro wv hSw
          go_simp
          try with_reducible rfl
        simp only [Act.put, List.setIfInBounds_toArray, List.set_cons_zero, List.set_cons_succ, List.getElem_toArray, List.getElem_cons_succ, List.getElem_cons_zero]
        refine wpAnyH_done (by kernel_rfl) ?_ _
        refine NoPanic.normal ?_
        have HQ2 := Lib.hid hHeld
        clear hHeld
        clear HCM
        go_wp2_with fail
        go_roundw
        case rel => exact ⟨hh + 1, j, by have := HA.out; omega, by have := HA.out; omega, by have := HA.out; omega, by first | done | rfl | go_num, rfl, Lib.hid ⟨.inr (by rw [Nat.add_sub_cancel, HK.out.1, HK.out.2]; exact HXY.out), HI.out.2⟩, HQ2⟩
        case measure => have := HA.out; simp [intOf]; omega
      · have hc : ¬ cmpI x.2.1 y.2.1 < 0 := fun h => hxy (cmpI_lt.1 h)
        have HXY := Lib.hid hxy
        generalize cmpI x.2.1 y.2.1 = c at HCM hc
        have dc : decide (c < 0) = false := decide_eq_false hc
        clear hxy
        go_upto_region 5 with fail
        refine wp_region_noPanic ?_
        refine wp_region_held_drew (S := fun W : World => QY W g L R ∧ w.grownBy W (some g)) (by kernel_rfl) ?_ (fun hHeld => ?_)
        · exact HJ.out
        clear HJ
        generalize World.drew _ = V at hHeld ⊢
        refine wpAnyH_take (i := 0) (v := ?_) rfl (by kernel_rfl) (by kernel_rfl) (by kernel_rfl) (fun _ _ _ h => h) (Or.inl ⟨by kernel_rfl, ?_⟩) hHeld ?_
        rotate_left
        · intro wv hSw
          go_simp
          try with_reducible rfl
        simp only [Act.put, List.setIfInBounds_toArray, List.set_cons_zero, List.set_cons_succ, List.getElem_toArray, List.getElem_cons_succ, List.getElem_cons_zero]
        refine wpAnyH_take (i := 1) (v := ?_) rfl (by kernel_rfl) (by kernel_rfl) (by kernel_rfl) (fun _ _ _ h => h) (Or.inl ⟨by kernel_rfl, ?_⟩) hHeld ?_
        rotate_left
        · intro wv hSw
          go_simp
          try with_reducible rfl
        simp only [Act.put, List.setIfInBounds_toArray, List.set_cons_zero, List.set_cons_succ, List.getElem_toArray, List.getElem_cons_succ, List.getElem_cons_zero]
        refine wpAnyH_take (i := 2) (v := ?_) rfl (by kernel_rfl) (by kernel_rfl) (by kernel_rfl) (fun _ _ _ h => h) (Or.inl ⟨by kernel_rfl, ?_⟩) hHeld ?_
        rotate_left
        · intro wv hSw
          go_simp
          try with_reducible rfl
        simp only [Act.put, List.setIfInBounds_toArray, List.set_cons_zero, List.set_cons_succ, List.getElem_toArray, List.getElem_cons_succ, List.getElem_cons_zero]
        refine wpAnyH_take (i := 3) (v := ?_) rfl (by kernel_rfl) (by kernel_rfl) (by kernel_rfl) (fun _ _ _ h => h) (Or.inl ⟨by kernel_rfl, ?_⟩) hHeld ?_
        rotate_left
        · intro wv hSw
          go_simp
          try with_reducible rfl
        simp only [Act.put, List.setIfInBounds_toArray, List.set_cons_zero, List.set_cons_succ, List.getElem_toArray, List.getElem_cons_succ, List.getElem_cons_zero]
        refine wpAnyH_take (i := 4) (v := ?_) rfl (by kernel_rfl) (by kernel_rfl) (by kernel_rfl) (fun _ _ _ h => h) (Or.inl ⟨by kernel_rfl, ?_⟩) hHeld ?_
        rotate_left
        · intro wv hSw
          obtain ⟨f0, f1, f2, f3⟩ := QY.at hSw.1 HX.out.1
          go_simp
          try with_reducible rfl
        simp only [Act.put, List.setIfInBounds_toArray, List.set_cons_zero, List.set_cons_succ, List.getElem_toArray, List.getElem_cons_succ, List.getElem_cons_zero]
        refine wpAnyH_take (i := 5) (v := ?_) rfl (by kernel_rfl) (by kernel_rfl) (by kernel_rfl) (fun _ _ _ h => h) (Or.inl ⟨by kernel_rfl, ?_⟩) hHeld ?_
        rotate_left
        · intro wv hSw
          go_simp
          try with_reducible rfl
        simp only [Act.put, List.setIfInBounds_toArray, List.set_cons_zero, List.set_cons_succ, List.getElem_toArray, List.getElem_cons_succ, List.getElem_cons_zero]
        refine wpAnyH_take (i := 6) (v := ?_) rfl (by kernel_rfl) (by kernel_rfl) (by kernel_rfl) (fun _ _ _ h => h) (Or.inl ⟨by kernel_rfl, ?_⟩) hHeld ?_
        rotate_left
        · intro wv hSw
          go_simp
          try with_reducible rfl
        simp only [Act.put, List.setIfInBounds_toArray, List.set_cons_zero, List.set_cons_succ, List.getElem_toArray, List.getElem_cons_succ, List.getElem_cons_zero]
        refine wpAnyH_take (i := 7) (v := ?_) rfl (by kernel_rfl) (by kernel_rfl) (by kernel_rfl) (fun _ _ _ h => h) (Or.inl ⟨by kernel_rfl, ?_⟩) hHeld ?_
        rotate_left
        · intro wv hSw
          go_simp
          try with_reducible rfl
        simp only [Act.put, List.setIfInBounds_toArray, List.set_cons_zero, List.set_cons_succ, List.getElem_toArray, List.getElem_cons_succ, List.getElem_cons_zero]
        refine wpAnyH_take (i := 8) (v := ?_) rfl (by kernel_rfl) (by kernel_rfl) (by kernel_rfl) (fun _ _ _ h => h) (Or.inl ⟨by kernel_rfl, ?_⟩) hHeld ?_
        rotate_left
        · intro wv hSw
          obtain ⟨f0, f1, f2, f3⟩ := QY.at hSw.1 HX.out.2.1
          go_simp
          try with_reducible rfl
        simp only [Act.put, List.setIfInBounds_toArray, List.set_cons_zero, List.set_cons_succ, List.getElem_toArray, List.getElem_cons_succ, List.getElem_cons_zero]
        refine wpAnyH_ready (rs := [9]) (by kernel_rfl) (by simp) ?_
        refine AllReadyH.cons rfl (fun K hK => ?_) AllReadyH.nil
        go_simp
        go_at_call 31
        refine (HCM.out _).mono ?_
        first | (rintro e W9x rfl hb2) | (rintro e W9x ⟨rfl, hb2⟩)
        have hN9 : QY W9x g L R ∧ w.grownBy W9x (some g) := ⟨hHeld.1.keep hb2, hHeld.2.trans (grown_below' hb2 _)⟩
        refine hK.out _ _ hN9 (fun hHeld2 => ?_)
        clear hK K hHeld hHeld2 hb2
        have hHeld : (fun W : World => QY W g L R ∧ w.grownBy W (some g)) W9x := hN9
        clear hN9
        try simp only [Act.put, List.setIfInBounds_toArray, List.set_cons_zero, List.set_cons_succ, List.getElem_toArray, List.getElem_cons_succ, List.getElem_cons_zero]
        refine wpAnyH_take (i := 10) (v := ?_) rfl (by kernel_rfl) (by kernel_rfl) (by kernel_rfl) (fun _ _ _ h => h) (Or.inl ⟨by kernel_rfl, ?_⟩) hHeld ?_
        rotate_left
        · intro wv hSw
          go_simp
          try with_reducible rfl
        simp only [Act.put, List.setIfInBounds_toArray, List.set_cons_zero, List.set_cons_succ, List.getElem_toArray, List.getElem_cons_succ, List.getElem_cons_zero]
        refine wpAnyH_done (by kernel_rfl) ?_ _
        refine NoPanic.normal ?_
        have HQ2 := Lib.hid hHeld
        clear hHeld
        clear HCM
        go_wp2_with fail
        go_roundw
        case rel => exact ⟨i, hh, by have := HA.out; omega, by have := HA.out; omega, by have := HA.out; omega, rfl, by first | done | rfl | go_num, Lib.hid ⟨HI.out.1, .inr (by rw [HK.out.1, HK.out.2]; exact HXY.out)⟩, HQ2⟩
        case measure => have := HA.out; simp [intOf]; omega
    · obtain rfl : i = j := by omega
      have HA := Lib.hid (And.intro hi (And.intro hj hm))
      have HJ0 := Lib.hid (show ∃ Lk, InsU L a a b Lk ∧ QY wr g Lk R ∧ w.grownBy wr (some g) from ⟨L, HST.out, HS.out.1, HS.out.2⟩)
      obtain ⟨i1, hi1⟩ : ∃ i1, i - 1 = i1 := ⟨_, rfl⟩
      have ei : (i : Int) - 1 = (i1 : Int) := by omega
      have bi : i < 1000001 := by omega
      have HI1 := Lib.hid hi1
      clear HS hij
      go_wp2_with fail
      go_loopw [13] (fun u wr2 => ∃ k : Nat, a ≤ k ∧ k + 1 ≤ i ∧ u = .int .i64 k ∧ Hid (∃ Lk, InsU L a k b Lk ∧ QY wr2 g Lk R ∧ w.grownBy wr2 (some g))) (fun u _ => i - (intOf u).toNat)
      case atStart => exact ⟨a, Nat.le_refl _, by have := HA.out; omega, rfl, HJ0⟩
      case round =>
        clear HJ0
        obtain ⟨k, hk1, hk2, rfl, HS⟩ := hrel
        obtain ⟨Lk, hik, hq, hgr⟩ := HS.out
        have hl := hik.len
        by_cases hki : k < i1
        · have hkb : k + 1 < b := by have := HA.out; omega
          obtain ⟨x, y, hx, hy, hx0, hy0, hsw⟩ := hik.two hkb
          have hlt : y.2.1 < x.2.1 := by
            have e1 := HI.out.1.resolve_left (by omega)
            rw [kf_at hx0] at e1
            obtain ⟨z, hz⟩ : ∃ z, L[i - 1]? = some z := ⟨L[i - 1]'(by rw [HL.out]; omega), List.getElem?_eq_getElem _⟩
            rw [kf_at hz] at e1
            have e2 := Up.cut_at hup (show a + 1 ≤ k + 1 by omega) (show k + 1 ≤ i - 1 by omega) (show i - 1 < b by omega) hy0 hz
            omega
          have HSW := Lib.hid (hsw hlt)
          obtain ⟨k1, hk3⟩ : ∃ k1, k + 1 = k1 := ⟨_, rfl⟩
          rw [hk3] at HSW hy
          have HX := Lib.hid (And.intro hx (And.intro hy (And.intro (show k < Lk.length by omega) (show k1 < Lk.length by omega))))
          have HQ2 : Hid (QY wr g Lk R ∧ w.grownBy wr (some g)) := Lib.hid ⟨hq, hgr⟩
          have ek : (k : Int) + 1 = (k1 : Int) := by omega
          have bk : (k : Int) < (N : Int) := by omega
          have bk1 : (k1 : Int) < (N : Int) := by omega
          have uk1 : IntKind.i64.wrap (k1 : Int) = (k1 : Int) := IntWalk.i64_in _ (by omega)
          have bkN : k < N := by omega
          have bk1N : k1 < N := by omega
          have HJJ := Lib.hid (And.intro hk1 (And.intro hk2 (And.intro hk3 (And.intro hki hi1))))
          clear HS hik hq hgr hl hx hy hx0 hy0 hsw hlt hkb hk1 hk2 hk3 hi1
          go_upto_region 11 with fail
          refine wp_region_noPanic ?_
          refine wp_region_p 15 (S := fun W : World => QY W g Lk R) (by kernel_rfl) ?_
          have HQD : Hid (QY (World.drew wr) g Lk R ∧ w.grownBy (World.drew wr) (some g)) := Lib.hid ⟨HQ2.out.1, HQ2.out.2.trans (grown_below' (Below.refl _ wr).drew _)⟩
          generalize World.drew wr = V at HQD ⊢
          clear HQ2
          have hHeld : (fun W : World => QY W g Lk R) V := HQD.out.1
          refine wpAnyP_pure (i := 0) (v := ?_) rfl (by decide) (by kernel_rfl) (by kernel_rfl) (by kernel_rfl) (fun _ => by kernel_rfl) (fun _ _ _ h => h) (Or.inl ⟨by kernel_rfl, ?_⟩) (fun _ => hHeld) ?_
          rotate_left
          · intro wv _
            go_simp
            try with_reducible rfl
          simp only [Act.put, List.setIfInBounds_toArray, List.set_cons_zero, List.set_cons_succ, List.getElem_toArray, List.getElem_cons_succ, List.getElem_cons_zero]
          refine wpAnyP_pure (i := 1) (v := ?_) rfl (by decide) (by kernel_rfl) (by kernel_rfl) (by kernel_rfl) (fun _ => by kernel_rfl) (fun _ _ _ h => h) (Or.inl ⟨by kernel_rfl, ?_⟩) (fun _ => hHeld) ?_
          rotate_left
          · intro wv _
            go_simp
            try with_reducible rfl
          simp only [Act.put, List.setIfInBounds_toArray, List.set_cons_zero, List.set_cons_succ, List.getElem_toArray, List.getElem_cons_succ, List.getElem_cons_zero]
          refine wpAnyP_pure (i := 2) (v := ?_) rfl (by decide) (by kernel_rfl) (by kernel_rfl) (by kernel_rfl) (fun _ => by kernel_rfl) (fun _ _ _ h => h) (Or.inl ⟨by kernel_rfl, ?_⟩) (fun _ => hHeld) ?_
          rotate_left
          · intro wv _
            go_simp
            try with_reducible rfl
          simp only [Act.put, List.setIfInBounds_toArray, List.set_cons_zero, List.set_cons_succ, List.getElem_toArray, List.getElem_cons_succ, List.getElem_cons_zero]
          refine wpAnyP_pure (i := 3) (v := ?_) rfl (by decide) (by kernel_rfl) (by kernel_rfl) (by kernel_rfl) (fun _ => by kernel_rfl) (fun _ _ _ h => h) (Or.inl ⟨by kernel_rfl, ?_⟩) (fun _ => hHeld) ?_
          rotate_left
          · intro wv _
            go_simp
            try with_reducible rfl
          simp only [Act.put, List.setIfInBounds_toArray, List.set_cons_zero, List.set_cons_succ, List.getElem_toArray, List.getElem_cons_succ, List.getElem_cons_zero]
          refine wpAnyP_pure (i := 4) (v := ?_) rfl (by decide) (by kernel_rfl) (by kernel_rfl) (by kernel_rfl) (fun _ => by kernel_rfl) (fun _ _ _ h => h) (Or.inl ⟨by kernel_rfl, ?_⟩) (fun _ => hHeld) ?_
          rotate_left
          · intro wv _
            go_simp
            try with_reducible rfl
          simp only [Act.put, List.setIfInBounds_toArray, List.set_cons_zero, List.set_cons_succ, List.getElem_toArray, List.getElem_cons_succ, List.getElem_cons_zero]
          refine wpAnyP_pure (i := 5) (v := ?_) rfl (by decide) (by kernel_rfl) (by kernel_rfl) (by kernel_rfl) (fun _ => by kernel_rfl) (fun _ _ _ h => h) (Or.inl ⟨by kernel_rfl, ?_⟩) (fun _ => hHeld) ?_
          rotate_left
          · intro wv _
            go_simp
            try with_reducible rfl
          simp only [Act.put, List.setIfInBounds_toArray, List.set_cons_zero, List.set_cons_succ, List.getElem_toArray, List.getElem_cons_succ, List.getElem_cons_zero]
          refine wpAnyP_pure (i := 6) (v := ?_) rfl (by decide) (by kernel_rfl) (by kernel_rfl) (by kernel_rfl) (fun _ => by kernel_rfl) (fun _ _ _ h => h) (Or.inl ⟨by kernel_rfl, ?_⟩) (fun _ => hHeld) ?_
          rotate_left
          · intro wv _
            go_simp
            try with_reducible rfl
          simp only [Act.put, List.setIfInBounds_toArray, List.set_cons_zero, List.set_cons_succ, List.getElem_toArray, List.getElem_cons_succ, List.getElem_cons_zero]
          refine wpAnyP_pure (i := 7) (v := ?_) rfl (by decide) (by kernel_rfl) (by kernel_rfl) (by kernel_rfl) (fun _ => by kernel_rfl) (fun _ _ _ h => h) (Or.inl ⟨by kernel_rfl, ?_⟩) (fun _ => hHeld) ?_
          rotate_left
          · intro wv _
            go_simp
            try with_reducible rfl
          simp only [Act.put, List.setIfInBounds_toArray, List.set_cons_zero, List.set_cons_succ, List.getElem_toArray, List.getElem_cons_succ, List.getElem_cons_zero]
          refine wpAnyP_pure (i := 8) (v := ?_) rfl (by decide) (by kernel_rfl) (by kernel_rfl) (by kernel_rfl) (fun _ => by kernel_rfl) (fun _ _ _ h => h) (Or.inl ⟨by kernel_rfl, ?_⟩) (fun _ => hHeld) ?_
          rotate_left
          · intro wv _
            go_simp
            try with_reducible rfl
          simp only [Act.put, List.setIfInBounds_toArray, List.set_cons_zero, List.set_cons_succ, List.getElem_toArray, List.getElem_cons_succ, List.getElem_cons_zero]
          refine wpAnyP_take (i := 9) (v := ?_) rfl (by decide) (by kernel_rfl) (by kernel_rfl) (by kernel_rfl) (by kernel_rfl) (by kernel_rfl) (fun _ _ _ h => h) (Or.inl ⟨by kernel_rfl, ?_⟩) hHeld ?_
          rotate_left
          · intro wv hSw
            obtain ⟨f0, f1, f2, f3⟩ := QY.at hSw HX.out.2.1
            go_simp
            try with_reducible rfl
          simp only [Act.put, List.setIfInBounds_toArray, List.set_cons_zero, List.set_cons_succ, List.getElem_toArray, List.getElem_cons_succ, List.getElem_cons_zero]
          refine wpAnyP_pure (i := 10) (v := ?_) rfl (by decide) (by kernel_rfl) (by kernel_rfl) (by kernel_rfl) (fun _ => by kernel_rfl) (fun _ _ _ h => h) (Or.inl ⟨by kernel_rfl, ?_⟩) (fun _ => hHeld) ?_
          rotate_left
          · intro wv _
            go_simp
            try with_reducible rfl
          simp only [Act.put, List.setIfInBounds_toArray, List.set_cons_zero, List.set_cons_succ, List.getElem_toArray, List.getElem_cons_succ, List.getElem_cons_zero]
          refine wpAnyP_pure (i := 11) (v := ?_) rfl (by decide) (by kernel_rfl) (by kernel_rfl) (by kernel_rfl) (fun _ => by kernel_rfl) (fun _ _ _ h => h) (Or.inl ⟨by kernel_rfl, ?_⟩) (fun _ => hHeld) ?_
          rotate_left
          · intro wv _
            go_simp
            try with_reducible rfl
          simp only [Act.put, List.setIfInBounds_toArray, List.set_cons_zero, List.set_cons_succ, List.getElem_toArray, List.getElem_cons_succ, List.getElem_cons_zero]
          refine wpAnyP_pure (i := 12) (v := ?_) rfl (by decide) (by kernel_rfl) (by kernel_rfl) (by kernel_rfl) (fun _ => by kernel_rfl) (fun _ _ _ h => h) (Or.inl ⟨by kernel_rfl, ?_⟩) (fun _ => hHeld) ?_
          rotate_left
          · intro wv _
            go_simp
            try with_reducible rfl
          simp only [Act.put, List.setIfInBounds_toArray, List.set_cons_zero, List.set_cons_succ, List.getElem_toArray, List.getElem_cons_succ, List.getElem_cons_zero]
          refine wpAnyP_take (i := 13) (v := ?_) rfl (by decide) (by kernel_rfl) (by kernel_rfl) (by kernel_rfl) (by kernel_rfl) (by kernel_rfl) (fun _ _ _ h => h) (Or.inl ⟨by kernel_rfl, ?_⟩) hHeld ?_
          rotate_left
          · intro wv hSw
            obtain ⟨f0, f1, f2, f3⟩ := QY.at hSw HX.out.1
            go_simp
            try with_reducible rfl
          simp only [Act.put, List.setIfInBounds_toArray, List.set_cons_zero, List.set_cons_succ, List.getElem_toArray, List.getElem_cons_succ, List.getElem_cons_zero]
          refine wpAnyP_pure (i := 14) (v := ?_) rfl (by decide) (by kernel_rfl) (by kernel_rfl) (by kernel_rfl) (fun _ => by kernel_rfl) (fun _ _ _ h => h) (Or.inl ⟨by kernel_rfl, ?_⟩) (fun _ => hHeld) ?_
          rotate_left
          · intro wv _
            go_simp
            try with_reducible rfl
          simp only [Act.put, List.setIfInBounds_toArray, List.set_cons_zero, List.set_cons_succ, List.getElem_toArray, List.getElem_cons_succ, List.getElem_cons_zero]
          refine wpAnyP_one (i := 15) (by kernel_rfl) rfl (fun K hK => ?_)
          rw [if_pos (by kernel_rfl)]
          refine wp_storeQ (x := .tmp 75) (y := .tmp 70) (g := g) (i := k) (L := Lk) (R := R) (s := y) rfl rfl rfl HQD.out.1 (by have := HX.out.2.2; omega) (fun hq2 => ?_)
          have HQ3 : Hid (QY (V.setRow g (cellsY (List.set Lk k y) ++ R).toArray) g (List.set Lk k y) R ∧ w.grownBy (V.setRow g (cellsY (List.set Lk k y) ++ R).toArray) (some g)) := Lib.hid ⟨hq2, HQD.out.2.trans (grown_row V g _)⟩
          refine hK.out _ _ (fun h => absurd h (by decide)) ?_
          clear hK K hq2 hHeld HQD
          generalize World.setRow V _ _ = V2 at HQ3 ⊢
          try simp only [Act.put, List.setIfInBounds_toArray, List.set_cons_zero, List.set_cons_succ, List.getElem_toArray, List.getElem_cons_succ, List.getElem_cons_zero]
          refine wpAnyP_one (i := 16) (by kernel_rfl) rfl (fun K hK => ?_)
          go_simp
          refine hK.out _ _ (fun h => absurd h (by decide)) ?_
          clear hK K
          try simp only [Act.put, List.setIfInBounds_toArray, List.set_cons_zero, List.set_cons_succ, List.getElem_toArray, List.getElem_cons_succ, List.getElem_cons_zero]
          refine wpAnyP_one (i := 17) (by kernel_rfl) rfl (fun K hK => ?_)
          rw [if_pos (by kernel_rfl)]
          refine wp_storeQ (x := .tmp 76) (y := .tmp 74) (g := g) (i := k1) (L := List.set Lk k y) (R := R) (s := x) rfl rfl rfl HQ3.out.1 (by rw [List.length_set]; have := HX.out.2.2; omega) (fun hq2 => ?_)
          have HF : Hid (QY (V2.setRow g (cellsY (List.set (List.set Lk k y) k1 x) ++ R).toArray) g (List.set (List.set Lk k y) k1 x) R ∧ w.grownBy (V2.setRow g (cellsY (List.set (List.set Lk k y) k1 x) ++ R).toArray) (some g)) := Lib.hid ⟨hq2, HQ3.out.2.trans (grown_row V2 g _)⟩
          refine hK.out _ _ (fun h => absurd h (by decide)) ?_
          clear hK K hq2 HQ3
          generalize World.setRow V2 _ _ = V3 at HF ⊢
          try simp only [Act.put, List.setIfInBounds_toArray, List.set_cons_zero, List.set_cons_succ, List.getElem_toArray, List.getElem_cons_succ, List.getElem_cons_zero]
          refine wpAnyP_done (by kernel_rfl) ?_ _
          refine NoPanic.normal ?_
          go_wp2_with fail
          go_roundw
          case rel => exact ⟨k1, by have := HJJ.out; omega, by have := HJJ.out; omega, by first | done | rfl | go_num, Lib.hid ⟨_, HSW.out, HF.out⟩⟩
          case measure => have := HJJ.out; simp [intOf]; omega
        · have hke : k + 1 = i := by omega
          have HF := Lib.hid (HU.out Lk k hik (fun x y h1 hx hy => by
            rw [hke] at hy
            have e1 := HI.out.2.resolve_left (by omega)
            rw [kf_at hx, kf_at hy] at e1
            omega))
          have HF2 := Lib.hid (And.intro hq hgr)
          have hki2 : ¬ (k : Int) < (i1 : Int) := by omega
          clear HS hik hq hgr hl
          go_wp2_with fail
          refine bodyPost_ret (results_none rfl _ _ _) rfl ?_
          exact ⟨rfl, Lk, HF.out, HF2.out⟩
set_option maxRecDepth 100000 in
set_option maxHeartbeats 8000000 in
theorem merge_right (g cap a m : Nat) (L : List Sy) (R : List Value) (ham : a + 1 < m) (hb : m + 1 ≤ L.length) (hN : L.length ≤ 1000000) (hup : Up (cut L a m)) (w : World) (h : QY w g L R) :
    Calls Try.prog 44 #[.slice (some ⟨g, 0, none⟩) L.length cap, .int .i64 (a : Nat), .int .i64 (m : Nat), .int .i64 ((m + 1 : Nat) : Int), .func (.func 31) #[] #[]] w fun e W' => e = .returned (.tuple #[]) ∧ ∃ L', Srt L L' a (m + 1) ∧ QY W' g L' R ∧ w.grownBy W' (some g) := by
  have HS0 := Lib.hid (show QY w g L R ∧ w.grownBy w (some g) from ⟨h, rfl, rfl, rfl, Nat.le_refl _, fun _ _ _ => rfl⟩)
  have HU := Lib.hid (fun Lk k (hk : InsJ L a m k Lk) (he : k = a ∨ ∃ x y, Lk[k]? = some x ∧ Lk[k - 1]? = some y ∧ a < k ∧ ¬ x.2.1 < y.2.1) => hk.done (L := L) ⟨rfl, fun _ _ => rfl, hup, SameK.refl _⟩ he)
  have HST := Lib.hid (InsJ.start (L := L) (show a ≤ m by omega) (show m < L.length by omega))
  clear h
  obtain ⟨N, hn⟩ : ∃ N, L.length = N := ⟨_, rfl⟩
  have HL := Lib.hid hn
  rw [hn] at hN hb ⊢
  clear hn
  obtain ⟨b, hm⟩ : ∃ b, m + 1 = b := ⟨_, rfl⟩
  rw [hm]
  have hne : ¬ (m : Int) - (a : Int) = 1 := by omega
  have dn : (((m : Int) - (a : Int)) == 1) = false := by
    rw [beq_eq_false_iff_ne]
    omega
  obtain ⟨ma, hma⟩ : ∃ ma, m - a = ma := ⟨_, rfl⟩
  have ema : (m : Int) - (a : Int) = (ma : Int) := by omega
  have uma : IntKind.i64.wrap (ma : Int) = (ma : Int) := IntWalk.i64_in _ (by omega)
  have dma : ((ma : Int) == 1) = false := by
    rw [beq_eq_false_iff_ne]
    omega
  have nma : ¬ (ma : Int) = 1 := by omega
  have nma2 : ¬ ma = 1 := by omega
  have eb : (b : Int) - (m : Int) = 1 := by omega
  go_enter Try.func44, Try.ntmps44
  go_wp2_with fail
  go_loopw [14, 15] (fun u v wr => ∃ i j : Nat, a ≤ i ∧ i ≤ j ∧ j ≤ m ∧ u = .int .i64 i ∧ v = .int .i64 j ∧ Hid ((i = a ∨ ¬ kf L m < kf L (i - 1)) ∧ (j = m ∨ kf L m < kf L j)) ∧ Hid (QY wr g L R ∧ w.grownBy wr (some g))) (fun u v _ => (intOf v).toNat - (intOf u).toNat)
  case atStart => exact ⟨a, m, Nat.le_refl _, by omega, Nat.le_refl _, rfl, rfl, Lib.hid ⟨.inl rfl, .inl rfl⟩, HS0⟩
  case round =>
    clear HS0
    obtain ⟨i, j, hi, hij, hj, rfl, rfl, HI, HS⟩ := hrel
    by_cases hlt : i < j
    · obtain ⟨ij, hij2⟩ : ∃ ij, i + j = ij := ⟨_, rfl⟩
      obtain ⟨hh, hh2⟩ : ∃ hh, ij / 2 = hh := ⟨_, rfl⟩
      have e1 : (i : Int) + (j : Int) = (ij : Int) := by omega
      have bij : ij < 3000000 := by omega
      have e2 : (ij : Int) / 2 = (hh : Int) := by omega
      have bh : hh < 3000000 := by omega
      have bhN : hh < N := by omega
      have bhN2 : (hh : Int) < (N : Int) := by omega
      have bmN : m < N := by omega
      have bmN2 : (m : Int) < (N : Int) := by omega
      obtain ⟨x, hx⟩ : ∃ x, L[m]? = some x := ⟨L[m]'(by rw [HL.out]; exact bmN), List.getElem?_eq_getElem _⟩
      obtain ⟨y, hy⟩ : ∃ y, L[hh]? = some y := ⟨L[hh]'(by rw [HL.out]; exact bhN), List.getElem?_eq_getElem _⟩
      have HX := Lib.hid (And.intro hx (And.intro hy True.intro))
      have kx := kf_at hx
      have ky := kf_at hy
      have HK := Lib.hid (And.intro kx ky)
      clear hx hy kx ky
      have HJ : Hid (QY (World.drew wr) g L R ∧ w.grownBy (World.drew wr) (some g)) := Lib.hid ⟨HS.out.1, HS.out.2.trans (grown_below' (Below.refl _ wr).drew _)⟩
      clear HS
      have HCM := Lib.hid (fun W => cmpY_any x y W)
      unfold Sy.v at HCM
      have HA := Lib.hid (And.intro hi (And.intro hij (And.intro hj (And.intro hlt (And.intro hij2 hh2)))))
      by_cases hxy : x.2.1 < y.2.1
      · have hc : cmpI x.2.1 y.2.1 < 0 := cmpI_lt.2 hxy
        have HXY := Lib.hid hxy
        generalize cmpI x.2.1 y.2.1 = c at HCM hc
        have dc : decide (c < 0) = true := decide_eq_true hc
        clear hxy
        go_upto_region 17 with fail
        refine wp_region_noPanic ?_
        refine wp_region_held_drew (S := fun W : World => QY W g L R ∧ w.grownBy W (some g)) (by kernel_rfl) ?_ (fun hHeld => ?_)
        · exact HJ.out
        clear HJ
        generalize World.drew _ = V at hHeld ⊢
        refine wpAnyH_take (i := 0) (v := ?_) rfl (by kernel_rfl) (by kernel_rfl) (by kernel_rfl) (fun _ _ _ h => h) (Or.inl ⟨by kernel_rfl, ?_⟩) hHeld ?_
        rotate_left
        · intro wv hSw
          go_simp
          try with_reducible rfl
        simp only [Act.put, List.setIfInBounds_toArray, List.set_cons_zero, List.set_cons_succ, List.getElem_toArray, List.getElem_cons_succ, List.getElem_cons_zero]
        refine wpAnyH_take (i := 1) (v := ?_) rfl (by kernel_rfl) (by kernel_rfl) (by kernel_rfl) (fun _ _ _ h => h) (Or.inl ⟨by kernel_rfl, ?_⟩) hHeld ?_
        rotate_left
        · intro wv hSw
          go_simp
          try with_reducible rfl
        simp only [Act.put, List.setIfInBounds_toArray, List.set_cons_zero, List.set_cons_succ, List.getElem_toArray, List.getElem_cons_succ, List.getElem_cons_zero]
        refine wpAnyH_take (i := 2) (v := ?_) rfl (by kernel_rfl) (by kernel_rfl) (by kernel_rfl) (fun _ _ _ h => h) (Or.inl ⟨by kernel_rfl, ?_⟩) hHeld ?_
        rotate_left
        · intro wv hSw
          go_simp
          try with_reducible rfl
        simp only [Act.put, List.setIfInBounds_toArray, List.set_cons_zero, List.set_cons_succ, List.getElem_toArray, List.getElem_cons_succ, List.getElem_cons_zero]
        refine wpAnyH_take (i := 3) (v := ?_) rfl (by kernel_rfl) (by kernel_rfl) (by kernel_rfl) (fun _ _ _ h => h) (Or.inl ⟨by kernel_rfl, ?_⟩) hHeld ?_
        rotate_left
        · intro wv hSw
          go_simp
          try with_reducible rfl
        simp only [Act.put, List.setIfInBounds_toArray, List.set_cons_zero, List.set_cons_succ, List.getElem_toArray, List.getElem_cons_succ, List.getElem_cons_zero]
        refine wpAnyH_take (i := 4) (v := ?_) rfl (by kernel_rfl) (by kernel_rfl) (by kernel_rfl) (fun _ _ _ h => h) (Or.inl ⟨by kernel_rfl, ?_⟩) hHeld ?_
        rotate_left
        · intro wv hSw
          obtain ⟨f0, f1, f2, f3⟩ := QY.at hSw.1 HX.out.1
          go_simp
          try with_reducible rfl
        simp only [Act.put, List.setIfInBounds_toArray, List.set_cons_zero, List.set_cons_succ, List.getElem_toArray, List.getElem_cons_succ, List.getElem_cons_zero]
        refine wpAnyH_take (i := 5) (v := ?_) rfl (by kernel_rfl) (by kernel_rfl) (by kernel_rfl) (fun _ _ _ h => h) (Or.inl ⟨by kernel_rfl, ?_⟩) hHeld ?_
        rotate_left
        · intro wv hSw
          go_simp
          try with_reducible rfl
        simp only [Act.put, List.setIfInBounds_toArray, List.set_cons_zero, List.set_cons_succ, List.getElem_toArray, List.getElem_cons_succ, List.getElem_cons_zero]
        refine wpAnyH_take (i := 6) (v := ?_) rfl (by kernel_rfl) (by kernel_rfl) (by kernel_rfl) (fun _ _ _ h => h) (Or.inl ⟨by kernel_rfl, ?_⟩) hHeld ?_
        rotate_left
        · intro wv hSw
          go_simp
          try with_reducible rfl
        simp only [Act.put, List.setIfInBounds_toArray, List.set_cons_zero, List.set_cons_succ, List.getElem_toArray, List.getElem_cons_succ, List.getElem_cons_zero]
        refine wpAnyH_take (i := 7) (v := ?_) rfl (by kernel_rfl) (by kernel_rfl) (by kernel_rfl) (fun _ _ _ h => h) (Or.inl ⟨by kernel_rfl, ?_⟩) hHeld ?_
        rotate_left
        · intro wv hSw
          go_simp
          try with_reducible rfl
        simp only [Act.put, List.setIfInBounds_toArray, List.set_cons_zero, List.set_cons_succ, List.getElem_toArray, List.getElem_cons_succ, List.getElem_cons_zero]
        refine wpAnyH_take (i := 8) (v := ?_) rfl (by kernel_rfl) (by kernel_rfl) (by kernel_rfl) (fun _ _ _ h => h) (Or.inl ⟨by kernel_rfl, ?_⟩) hHeld ?_
        rotate_left
        · intro wv hSw
          obtain ⟨f0, f1, f2, f3⟩ := QY.at hSw.1 HX.out.2.1
          go_simp
          try with_reducible rfl
        simp only [Act.put, List.setIfInBounds_toArray, List.set_cons_zero, List.set_cons_succ, List.getElem_toArray, List.getElem_cons_succ, List.getElem_cons_zero]
        refine wpAnyH_ready (rs := [9]) (by kernel_rfl) (by simp) ?_
        refine AllReadyH.cons rfl (fun K hK => ?_) AllReadyH.nil
        go_simp
        go_at_call 31
        refine (HCM.out _).mono ?_
        first | (rintro e W9x rfl hb2) | (rintro e W9x ⟨rfl, hb2⟩)
        have hN9 : QY W9x g L R ∧ w.grownBy W9x (some g) := ⟨hHeld.1.keep hb2, hHeld.2.trans (grown_below' hb2 _)⟩
        refine hK.out _ _ hN9 (fun hHeld2 => ?_)
        clear hK K hHeld hHeld2 hb2
        have hHeld : (fun W : World => QY W g L R ∧ w.grownBy W (some g)) W9x := hN9
        clear hN9
        try simp only [Act.put, List.setIfInBounds_toArray, List.set_cons_zero, List.set_cons_succ, List.getElem_toArray, List.getElem_cons_succ, List.getElem_cons_zero]
        refine wpAnyH_take (i := 10) (v := ?_) rfl (by kernel_rfl) (by kernel_rfl) (by kernel_rfl) (fun _ _ _ h => h) (Or.inl ⟨by kernel_rfl, ?_⟩) hHeld ?_
        rotate_left
        · intro wv hSw
          go_simp
          try with_reducible rfl
        simp only [Act.put, List.setIfInBounds_toArray, List.set_cons_zero, List.set_cons_succ, List.getElem_toArray, List.getElem_cons_succ, List.getElem_cons_zero]
        refine wpAnyH_take (i := 11) (v := ?_) rfl (by kernel_rfl) (by kernel_rfl) (by kernel_rfl) (fun _ _ _ h => h) (Or.inl ⟨by kernel_rfl, ?_⟩) hHeld ?_
        rotate_left
        · intro wv hSw
          go_simp
          try with_reducible rfl
        simp only [Act.put, List.setIfInBounds_toArray, List.set_cons_zero, List.set_cons_succ, List.getElem_toArray, List.getElem_cons_succ, List.getElem_cons_zero]
        refine wpAnyH_done (by kernel_rfl) ?_ _
        refine NoPanic.normal ?_
        have HQ2 := Lib.hid hHeld
        clear hHeld
        clear HCM
        go_wp2_with fail
        go_roundw
        case rel => exact ⟨i, hh, by have := HA.out; omega, by have := HA.out; omega, by have := HA.out; omega, rfl, by first | done | rfl | go_num, Lib.hid ⟨HI.out.1, .inr (by rw [HK.out.1, HK.out.2]; exact HXY.out)⟩, HQ2⟩
        case measure => have := HA.out; simp [intOf]; omega
      · have hc : ¬ cmpI x.2.1 y.2.1 < 0 := fun h => hxy (cmpI_lt.1 h)
        have HXY := Lib.hid hxy
        generalize cmpI x.2.1 y.2.1 = c at HCM hc
        have dc : decide (c < 0) = false := decide_eq_false hc
        clear hxy
        go_upto_region 17 with fail
        refine wp_region_noPanic ?_
        refine wp_region_held_drew (S := fun W : World => QY W g L R ∧ w.grownBy W (some g)) (by kernel_rfl) ?_ (fun hHeld => ?_)
        · exact HJ.out
        clear HJ
        generalize World.drew _ = V at hHeld ⊢
        refine wpAnyH_take (i := 0) (v := ?_) rfl (by kernel_rfl) (by kernel_rfl) (by kernel_rfl) (fun _ _ _ h => h) (Or.inl ⟨by kernel_rfl, ?_⟩) hHeld ?_
        rotate_left
        · intro wv hSw
          go_simp
          try with_reducible rfl
        simp only [Act.put, List.setIfInBounds_toArray, List.set_cons_zero, List.set_cons_succ, List.getElem_toArray, List.getElem_cons_succ, List.getElem_cons_zero]
        refine wpAnyH_take (i := 1) (v := ?_) rfl (by kernel_rfl) (by kernel_rfl) (by kernel_rfl) (fun _ _ _ h => h) (Or.inl ⟨by kernel_rfl, ?_⟩) hHeld ?_
        rotate_left
        · intro wv hSw
          go_simp
          try with_reducible rfl
        simp only [Act.put, List.setIfInBounds_toArray, List.set_cons_zero, List.set_cons_succ, List.getElem_toArray, List.getElem_cons_succ, List.getElem_cons_zero]
        refine wpAnyH_take (i := 2) (v := ?_) rfl (by kernel_rfl) (by kernel_rfl) (by kernel_rfl) (fun _ _ _ h => h) (Or.inl ⟨by kernel_rfl, ?_⟩) hHeld ?_
        rotate_left
        · intro wv hSw
          go_simp
          try with_reducible rfl
        simp only [Act.put, List.setIfInBounds_toArray, List.set_cons_zero, List.set_cons_succ, List.getElem_toArray, List.getElem_cons_succ, List.getElem_cons_zero]
        refine wpAnyH_take (i := 3) (v := ?_) rfl (by kernel_rfl) (by kernel_rfl) (by kernel_rfl) (fun _ _ _ h => h) (Or.inl ⟨by kernel_rfl, ?_⟩) hHeld ?_
        rotate_left
        · intro wv hSw
          go_simp
          try with_reducible rfl
        simp only [Act.put, List.setIfInBounds_toArray, List.set_cons_zero, List.set_cons_succ, List.getElem_toArray, List.getElem_cons_succ, List.getElem_cons_zero]
        refine wpAnyH_take (i := 4) (v := ?_) rfl (by kernel_rfl) (by kernel_rfl) (by kernel_rfl) (fun _ _ _ h => h) (Or.inl ⟨by kernel_rfl, ?_⟩) hHeld ?_
        rotate_left
        · intro wv hSw
          obtain ⟨f0, f1, f2, f3⟩ := QY.at hSw.1 HX.out.1
          go_simp
          try with_reducible rfl
        simp only [Act.put, List.setIfInBounds_toArray, List.set_cons_zero, List.set_cons_succ, List.getElem_toArray, List.getElem_cons_succ, List.getElem_cons_zero]
        refine wpAnyH_take (i := 5) (v := ?_) rfl (by kernel_rfl) (by kernel_rfl) (by kernel_rfl) (fun _ _ _ h => h) (Or.inl ⟨by kernel_rfl, ?_⟩) hHeld ?_
        rotate_left
        · intro wv hSw
          go_simp
          try with_reducible rfl
        simp only [Act.put, List.setIfInBounds_toArray, List.set_cons_zero, List.set_cons_succ, List.getElem_toArray, List.getElem_cons_succ, List.getElem_cons_zero]
        refine wpAnyH_take (i := 6) (v := ?_) rfl (by kernel_rfl) (by kernel_rfl) (by kernel_rfl) (fun _ _ _ h => h) (Or.inl ⟨by kernel_rfl, ?_⟩) hHeld ?_
        rotate_left
        · intro wv hSw
          go_simp
          try with_reducible rfl
        simp only [Act.put, List.setIfInBounds_toArray, List.set_cons_zero, List.set_cons_succ, List.getElem_toArray, List.getElem_cons_succ, List.getElem_cons_zero]
        refine wpAnyH_take (i := 7) (v := ?_) rfl (by kernel_rfl) (by kernel_rfl) (by kernel_rfl) (fun _ _ _ h => h) (Or.inl ⟨by kernel_rfl, ?_⟩) hHeld ?_
        rotate_left
        · intro wv hSw
          go_simp
          try with_reducible rfl
        simp only [Act.put, List.setIfInBounds_toArray, List.set_cons_zero, List.set_cons_succ, List.getElem_toArray, List.getElem_cons_succ, List.getElem_cons_zero]
        refine wpAnyH_take (i := 8) (v := ?_) rfl (by kernel_rfl) (by kernel_rfl) (by kernel_rfl) (fun _ _ _ h => h) (Or.inl ⟨by kernel_rfl, ?_⟩) hHeld ?_
        rotate_left
        · intro wv hSw
          obtain ⟨f0, f1, f2, f3⟩ := QY.at hSw.1 HX.out.2.1
          go_simp
          try with_reducible rfl
        simp only [Act.put, List.setIfInBounds_toArray, List.set_cons_zero, List.set_cons_succ, List.getElem_toArray, List.getElem_cons_succ, List.getElem_cons_zero]
        refine wpAnyH_ready (rs := [9]) (by kernel_rfl) (by simp) ?_
        refine AllReadyH.cons rfl (fun K hK => ?_) AllReadyH.nil
        go_simp
        go_at_call 31
        refine (HCM.out _).mono ?_
        first | (rintro e W9x rfl hb2) | (rintro e W9x ⟨rfl, hb2⟩)
        have hN9 : QY W9x g L R ∧ w.grownBy W9x (some g) := ⟨hHeld.1.keep hb2, hHeld.2.trans (grown_below' hb2 _)⟩
        refine hK.out _ _ hN9 (fun hHeld2 => ?_)
        clear hK K hHeld hHeld2 hb2
        have hHeld : (fun W : World => QY W g L R ∧ w.grownBy W (some g)) W9x := hN9
        clear hN9
        try simp only [Act.put, List.setIfInBounds_toArray, List.set_cons_zero, List.set_cons_succ, List.getElem_toArray, List.getElem_cons_succ, List.getElem_cons_zero]
        refine wpAnyH_take (i := 10) (v := ?_) rfl (by kernel_rfl) (by kernel_rfl) (by kernel_rfl) (fun _ _ _ h => h) (Or.inl ⟨by kernel_rfl, ?_⟩) hHeld ?_
        rotate_left
        · intro wv hSw
          go_simp
          try with_reducible rfl
        simp only [Act.put, List.setIfInBounds_toArray, List.set_cons_zero, List.set_cons_succ, List.getElem_toArray, List.getElem_cons_succ, List.getElem_cons_zero]
        refine wpAnyH_take (i := 11) (v := ?_) rfl (by kernel_rfl) (by kernel_rfl) (by kernel_rfl) (fun _ _ _ h => h) (Or.inl ⟨by kernel_rfl, ?_⟩) hHeld ?_
        rotate_left
        · intro wv hSw
          go_simp
          try with_reducible rfl
        simp only [Act.put, List.setIfInBounds_toArray, List.set_cons_zero, List.set_cons_succ, List.getElem_toArray, List.getElem_cons_succ, List.getElem_cons_zero]
        refine wpAnyH_done (by kernel_rfl) ?_ _
        refine NoPanic.normal ?_
        have HQ2 := Lib.hid hHeld
        clear hHeld
        clear HCM
        go_wp2_with fail
        go_roundw
        case rel => exact ⟨hh + 1, j, by have := HA.out; omega, by have := HA.out; omega, by have := HA.out; omega, by first | done | rfl | go_num, rfl, Lib.hid ⟨.inr (by rw [Nat.add_sub_cancel, HK.out.1, HK.out.2]; exact HXY.out), HI.out.2⟩, HQ2⟩
        case measure => have := HA.out; simp [intOf]; omega
    · obtain rfl : i = j := by omega
      have HA := Lib.hid (And.intro hi (And.intro hj hm))
      have HJ0 := Lib.hid (show ∃ Lk, InsJ L a m m Lk ∧ QY wr g Lk R ∧ w.grownBy wr (some g) from ⟨L, HST.out, HS.out.1, HS.out.2⟩)
      have bi : i < 1000001 := by omega
      clear HS hij
      go_wp2_with fail
      go_loopw [17] (fun u wr2 => ∃ k : Nat, i ≤ k ∧ k ≤ m ∧ u = .int .i64 k ∧ Hid (∃ Lk, InsJ L a m k Lk ∧ QY wr2 g Lk R ∧ w.grownBy wr2 (some g))) (fun u _ => (intOf u).toNat)
      case atStart => exact ⟨m, by have := HA.out; omega, Nat.le_refl _, rfl, HJ0⟩
      case round =>
        clear HJ0
        obtain ⟨k, hk1, hk2, rfl, HS⟩ := hrel
        obtain ⟨Lk, hik, hq, hgr⟩ := HS.out
        have hl := hik.len
        by_cases hki : i < k
        · obtain ⟨x, y, hx, hy, hsw⟩ := hik.two (by omega)
          have hlt : x.2.1 < y.2.1 := by
            have e1 := HI.out.2.resolve_left (by omega)
            have hx0 := hik.top
            rw [hx] at hx0
            have hy0 := hik.low (show k - 1 < k by omega)
            rw [hy] at hy0
            rw [kf_at hx0.symm] at e1
            obtain ⟨z, hz⟩ : ∃ z, L[i]? = some z := ⟨L[i]'(by rw [HL.out]; omega), List.getElem?_eq_getElem _⟩
            rw [kf_at hz] at e1
            have e2 := Up.cut_at hup hi (show i ≤ k - 1 by omega) (show k - 1 < m by omega) hz hy0.symm
            omega
          have HSW := Lib.hid (hsw hlt)
          obtain ⟨k1, hk3⟩ : ∃ k1, k - 1 = k1 := ⟨_, rfl⟩
          rw [hk3] at HSW hy
          have HX := Lib.hid (And.intro hx (And.intro hy (And.intro (show k < Lk.length by omega) (show k1 < Lk.length by omega))))
          have HQ2 : Hid (QY wr g Lk R ∧ w.grownBy wr (some g)) := Lib.hid ⟨hq, hgr⟩
          have ek : (k : Int) - 1 = (k1 : Int) := by omega
          have bk : (k : Int) < (N : Int) := by omega
          have bk1 : (k1 : Int) < (N : Int) := by omega
          have uk1 : IntKind.i64.wrap (k1 : Int) = (k1 : Int) := IntWalk.i64_in _ (by omega)
          have bkN : k < N := by omega
          have bk1N : k1 < N := by omega
          have HJJ := Lib.hid (And.intro hk1 (And.intro hk2 (And.intro hk3 hki)))
          clear HS hik hq hgr hl hx hy hsw hlt hk1 hk2 hk3
          go_upto_region 23 with fail
          refine wp_region_noPanic ?_
          refine wp_region_p 15 (S := fun W : World => QY W g Lk R) (by kernel_rfl) ?_
          have HQD : Hid (QY (World.drew wr) g Lk R ∧ w.grownBy (World.drew wr) (some g)) := Lib.hid ⟨HQ2.out.1, HQ2.out.2.trans (grown_below' (Below.refl _ wr).drew _)⟩
          generalize World.drew wr = V at HQD ⊢
          clear HQ2
          have hHeld : (fun W : World => QY W g Lk R) V := HQD.out.1
          refine wpAnyP_pure (i := 0) (v := ?_) rfl (by decide) (by kernel_rfl) (by kernel_rfl) (by kernel_rfl) (fun _ => by kernel_rfl) (fun _ _ _ h => h) (Or.inl ⟨by kernel_rfl, ?_⟩) (fun _ => hHeld) ?_
          rotate_left
          · intro wv _
            go_simp
            try with_reducible rfl
          simp only [Act.put, List.setIfInBounds_toArray, List.set_cons_zero, List.set_cons_succ, List.getElem_toArray, List.getElem_cons_succ, List.getElem_cons_zero]
          refine wpAnyP_pure (i := 1) (v := ?_) rfl (by decide) (by kernel_rfl) (by kernel_rfl) (by kernel_rfl) (fun _ => by kernel_rfl) (fun _ _ _ h => h) (Or.inl ⟨by kernel_rfl, ?_⟩) (fun _ => hHeld) ?_
          rotate_left
          · intro wv _
            go_simp
            try with_reducible rfl
          simp only [Act.put, List.setIfInBounds_toArray, List.set_cons_zero, List.set_cons_succ, List.getElem_toArray, List.getElem_cons_succ, List.getElem_cons_zero]
          refine wpAnyP_pure (i := 2) (v := ?_) rfl (by decide) (by kernel_rfl) (by kernel_rfl) (by kernel_rfl) (fun _ => by kernel_rfl) (fun _ _ _ h => h) (Or.inl ⟨by kernel_rfl, ?_⟩) (fun _ => hHeld) ?_
          rotate_left
          · intro wv _
            go_simp
            try with_reducible rfl
          simp only [Act.put, List.setIfInBounds_toArray, List.set_cons_zero, List.set_cons_succ, List.getElem_toArray, List.getElem_cons_succ, List.getElem_cons_zero]
          refine wpAnyP_pure (i := 3) (v := ?_) rfl (by decide) (by kernel_rfl) (by kernel_rfl) (by kernel_rfl) (fun _ => by kernel_rfl) (fun _ _ _ h => h) (Or.inl ⟨by kernel_rfl, ?_⟩) (fun _ => hHeld) ?_
          rotate_left
          · intro wv _
            go_simp
            try with_reducible rfl
          simp only [Act.put, List.setIfInBounds_toArray, List.set_cons_zero, List.set_cons_succ, List.getElem_toArray, List.getElem_cons_succ, List.getElem_cons_zero]
          refine wpAnyP_pure (i := 4) (v := ?_) rfl (by decide) (by kernel_rfl) (by kernel_rfl) (by kernel_rfl) (fun _ => by kernel_rfl) (fun _ _ _ h => h) (Or.inl ⟨by kernel_rfl, ?_⟩) (fun _ => hHeld) ?_
          rotate_left
          · intro wv _
            go_simp
            try with_reducible rfl
          simp only [Act.put, List.setIfInBounds_toArray, List.set_cons_zero, List.set_cons_succ, List.getElem_toArray, List.getElem_cons_succ, List.getElem_cons_zero]
          refine wpAnyP_pure (i := 5) (v := ?_) rfl (by decide) (by kernel_rfl) (by kernel_rfl) (by kernel_rfl) (fun _ => by kernel_rfl) (fun _ _ _ h => h) (Or.inl ⟨by kernel_rfl, ?_⟩) (fun _ => hHeld) ?_
          rotate_left
          · intro wv _
            go_simp
            try with_reducible rfl
          simp only [Act.put, List.setIfInBounds_toArray, List.set_cons_zero, List.set_cons_succ, List.getElem_toArray, List.getElem_cons_succ, List.getElem_cons_zero]
          refine wpAnyP_pure (i := 6) (v := ?_) rfl (by decide) (by kernel_rfl) (by kernel_rfl) (by kernel_rfl) (fun _ => by kernel_rfl) (fun _ _ _ h => h) (Or.inl ⟨by kernel_rfl, ?_⟩) (fun _ => hHeld) ?_
          rotate_left
          · intro wv _
            go_simp
            try with_reducible rfl
          simp only [Act.put, List.setIfInBounds_toArray, List.set_cons_zero, List.set_cons_succ, List.getElem_toArray, List.getElem_cons_succ, List.getElem_cons_zero]
          refine wpAnyP_pure (i := 7) (v := ?_) rfl (by decide) (by kernel_rfl) (by kernel_rfl) (by kernel_rfl) (fun _ => by kernel_rfl) (fun _ _ _ h => h) (Or.inl ⟨by kernel_rfl, ?_⟩) (fun _ => hHeld) ?_
          rotate_left
          · intro wv _
            go_simp
            try with_reducible rfl
          simp only [Act.put, List.setIfInBounds_toArray, List.set_cons_zero, List.set_cons_succ, List.getElem_toArray, List.getElem_cons_succ, List.getElem_cons_zero]
          refine wpAnyP_pure (i := 8) (v := ?_) rfl (by decide) (by kernel_rfl) (by kernel_rfl) (by kernel_rfl) (fun _ => by kernel_rfl) (fun _ _ _ h => h) (Or.inl ⟨by kernel_rfl, ?_⟩) (fun _ => hHeld) ?_
          rotate_left
          · intro wv _
            go_simp
            try with_reducible rfl
          simp only [Act.put, List.setIfInBounds_toArray, List.set_cons_zero, List.set_cons_succ, List.getElem_toArray, List.getElem_cons_succ, List.getElem_cons_zero]
          refine wpAnyP_take (i := 9) (v := ?_) rfl (by decide) (by kernel_rfl) (by kernel_rfl) (by kernel_rfl) (by kernel_rfl) (by kernel_rfl) (fun _ _ _ h => h) (Or.inl ⟨by kernel_rfl, ?_⟩) hHeld ?_
          rotate_left
          · intro wv hSw
            obtain ⟨f0, f1, f2, f3⟩ := QY.at hSw HX.out.2.1
            go_simp
            try with_reducible rfl
          simp only [Act.put, List.setIfInBounds_toArray, List.set_cons_zero, List.set_cons_succ, List.getElem_toArray, List.getElem_cons_succ, List.getElem_cons_zero]
          refine wpAnyP_pure (i := 10) (v := ?_) rfl (by decide) (by kernel_rfl) (by kernel_rfl) (by kernel_rfl) (fun _ => by kernel_rfl) (fun _ _ _ h => h) (Or.inl ⟨by kernel_rfl, ?_⟩) (fun _ => hHeld) ?_
          rotate_left
          · intro wv _
            go_simp
            try with_reducible rfl
          simp only [Act.put, List.setIfInBounds_toArray, List.set_cons_zero, List.set_cons_succ, List.getElem_toArray, List.getElem_cons_succ, List.getElem_cons_zero]
          refine wpAnyP_pure (i := 11) (v := ?_) rfl (by decide) (by kernel_rfl) (by kernel_rfl) (by kernel_rfl) (fun _ => by kernel_rfl) (fun _ _ _ h => h) (Or.inl ⟨by kernel_rfl, ?_⟩) (fun _ => hHeld) ?_
          rotate_left
          · intro wv _
            go_simp
            try with_reducible rfl
          simp only [Act.put, List.setIfInBounds_toArray, List.set_cons_zero, List.set_cons_succ, List.getElem_toArray, List.getElem_cons_succ, List.getElem_cons_zero]
          refine wpAnyP_pure (i := 12) (v := ?_) rfl (by decide) (by kernel_rfl) (by kernel_rfl) (by kernel_rfl) (fun _ => by kernel_rfl) (fun _ _ _ h => h) (Or.inl ⟨by kernel_rfl, ?_⟩) (fun _ => hHeld) ?_
          rotate_left
          · intro wv _
            go_simp
            try with_reducible rfl
          simp only [Act.put, List.setIfInBounds_toArray, List.set_cons_zero, List.set_cons_succ, List.getElem_toArray, List.getElem_cons_succ, List.getElem_cons_zero]
          refine wpAnyP_take (i := 13) (v := ?_) rfl (by decide) (by kernel_rfl) (by kernel_rfl) (by kernel_rfl) (by kernel_rfl) (by kernel_rfl) (fun _ _ _ h => h) (Or.inl ⟨by kernel_rfl, ?_⟩) hHeld ?_
          rotate_left
          · intro wv hSw
            obtain ⟨f0, f1, f2, f3⟩ := QY.at hSw HX.out.1
            go_simp
            try with_reducible rfl
          simp only [Act.put, List.setIfInBounds_toArray, List.set_cons_zero, List.set_cons_succ, List.getElem_toArray, List.getElem_cons_succ, List.getElem_cons_zero]
          refine wpAnyP_pure (i := 14) (v := ?_) rfl (by decide) (by kernel_rfl) (by kernel_rfl) (by kernel_rfl) (fun _ => by kernel_rfl) (fun _ _ _ h => h) (Or.inl ⟨by kernel_rfl, ?_⟩) (fun _ => hHeld) ?_
          rotate_left
          · intro wv _
            go_simp
            try with_reducible rfl
          simp only [Act.put, List.setIfInBounds_toArray, List.set_cons_zero, List.set_cons_succ, List.getElem_toArray, List.getElem_cons_succ, List.getElem_cons_zero]
          refine wpAnyP_one (i := 15) (by kernel_rfl) rfl (fun K hK => ?_)
          rw [if_pos (by kernel_rfl)]
          refine wp_storeQ (x := .tmp 127) (y := .tmp 122) (g := g) (i := k) (L := Lk) (R := R) (s := y) rfl rfl rfl HQD.out.1 (by have := HX.out.2.2; omega) (fun hq2 => ?_)
          have HQ3 : Hid (QY (V.setRow g (cellsY (List.set Lk k y) ++ R).toArray) g (List.set Lk k y) R ∧ w.grownBy (V.setRow g (cellsY (List.set Lk k y) ++ R).toArray) (some g)) := Lib.hid ⟨hq2, HQD.out.2.trans (grown_row V g _)⟩
          refine hK.out _ _ (fun h => absurd h (by decide)) ?_
          clear hK K hq2 hHeld HQD
          generalize World.setRow V _ _ = V2 at HQ3 ⊢
          try simp only [Act.put, List.setIfInBounds_toArray, List.set_cons_zero, List.set_cons_succ, List.getElem_toArray, List.getElem_cons_succ, List.getElem_cons_zero]
          refine wpAnyP_one (i := 16) (by kernel_rfl) rfl (fun K hK => ?_)
          go_simp
          refine hK.out _ _ (fun h => absurd h (by decide)) ?_
          clear hK K
          try simp only [Act.put, List.setIfInBounds_toArray, List.set_cons_zero, List.set_cons_succ, List.getElem_toArray, List.getElem_cons_succ, List.getElem_cons_zero]
          refine wpAnyP_one (i := 17) (by kernel_rfl) rfl (fun K hK => ?_)
          rw [if_pos (by kernel_rfl)]
          refine wp_storeQ (x := .tmp 128) (y := .tmp 126) (g := g) (i := k1) (L := List.set Lk k y) (R := R) (s := x) rfl rfl rfl HQ3.out.1 (by rw [List.length_set]; have := HX.out.2.2; omega) (fun hq2 => ?_)
          have HF : Hid (QY (V2.setRow g (cellsY (List.set (List.set Lk k y) k1 x) ++ R).toArray) g (List.set (List.set Lk k y) k1 x) R ∧ w.grownBy (V2.setRow g (cellsY (List.set (List.set Lk k y) k1 x) ++ R).toArray) (some g)) := Lib.hid ⟨hq2, HQ3.out.2.trans (grown_row V2 g _)⟩
          refine hK.out _ _ (fun h => absurd h (by decide)) ?_
          clear hK K hq2 HQ3
          generalize World.setRow V2 _ _ = V3 at HF ⊢
          try simp only [Act.put, List.setIfInBounds_toArray, List.set_cons_zero, List.set_cons_succ, List.getElem_toArray, List.getElem_cons_succ, List.getElem_cons_zero]
          refine wpAnyP_done (by kernel_rfl) ?_ _
          refine NoPanic.normal ?_
          go_wp2_with fail
          go_roundw
          case rel => exact ⟨k1, by have := HJJ.out; omega, by have := HJJ.out; omega, by first | done | rfl | go_num, Lib.hid ⟨_, HSW.out, HF.out⟩⟩
          case measure => have := HJJ.out; simp [intOf]; omega
        · have hke : k = i := by omega
          subst hke
          have HF := Lib.hid (HU.out Lk k hik (by
            by_cases hka : k = a
            · exact .inl hka
            · refine .inr ⟨L[m]'(by rw [HL.out]; omega), L[k - 1]'(by rw [HL.out]; omega), hik.top.trans (List.getElem?_eq_getElem _), (hik.low (by omega)).trans (List.getElem?_eq_getElem _), by omega, ?_⟩
              have e1 := HI.out.1.resolve_left hka
              rw [kf_at (List.getElem?_eq_getElem (show m < L.length by rw [HL.out]; omega)), kf_at (List.getElem?_eq_getElem (show k - 1 < L.length by rw [HL.out]; omega))] at e1
              exact e1))
          rw [hm] at HF
          have HF2 := Lib.hid (And.intro hq hgr)
          clear HS hik hq hgr hl
          go_wp2_with fail
          refine bodyPost_ret (results_none rfl _ _ _) rfl ?_
          exact ⟨rfl, Lk, HF.out, HF2.out⟩
end Go.Proofs.Ytegbhjmghkbgmaa
