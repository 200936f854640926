/- dirt.joined: its walk. -/
import Derived.Test.YtaaflkjdcablcaaF
namespace Go.Proofs.Ytaaflkjdcablcaa
open Go.RowKit Go.Shelf
set_option linter.unusedVariables false
set_option linter.unusedSimpArgs false
attribute [local go_sem] Oper.semAt_some
theorem JW.farq {w W : World} {g cap k b q : Nat} {js zs : List Rg} {lo hi : Nat} (h : JW w g cap k js zs W ∧ RB W b lo hi) (h1 : g ≠ q) (h2 : b ≠ q) (h3 : w.heap.size ≤ q) (x y : Nat) {p r : Nat} (hy : RB W q p r) (u v : Nat) :
    (JW w g cap k js zs ((W.setCell ⟨q, 0, none⟩ (.int .u64 (u : Nat))).setCell ⟨q, 1, none⟩ (.int .u64 (v : Nat))) ∧ RB ((W.setCell ⟨q, 0, none⟩ (.int .u64 (u : Nat))).setCell ⟨q, 1, none⟩ (.int .u64 (v : Nat))) b lo hi) ∧ RB ((W.setCell ⟨q, 0, none⟩ (.int .u64 (u : Nat))).setCell ⟨q, 1, none⟩ (.int .u64 (v : Nat))) q u v := by
  have he : ∀ i, i ≠ q → ((W.setCell ⟨q, 0, none⟩ (.int .u64 (u : Nat))).setCell ⟨q, 1, none⟩ (.int .u64 (v : Nat))).heap[i]? = W.heap[i]? := fun i hi => (Below.heap_setCell _ ⟨q, 1, none⟩ _ i hi).trans (Below.heap_setCell W ⟨q, 0, none⟩ _ i hi)
  have hc : ∀ {p : Nat} {z : Value}, W.cell? ⟨g, p, none⟩ = some z → ((W.setCell ⟨q, 0, none⟩ (.int .u64 (u : Nat))).setCell ⟨q, 1, none⟩ (.int .u64 (v : Nat))).cell? ⟨g, p, none⟩ = some z := fun {p z} hz => by
    unfold World.cell? at hz ⊢
    rw [he g h1]
    exact hz
  obtain ⟨⟨⟨cur, j1, j2⟩, j3, j4, j5⟩, hb⟩ := h
  exact ⟨⟨⟨⟨cur, (he g h1).trans j1, j2⟩, fun i hi => ⟨hc (j3 i hi).1, hc (j3 i hi).2⟩, fun i hk hi => ⟨hc (j4 i hk hi).1, hc (j4 i hk hi).2⟩, (j5.setCell (by exact h3) _).setCell (by exact h3) _⟩, (he b h2).trans hb⟩, hy.put u v⟩
set_option maxRecDepth 100000 in
set_option maxHeartbeats 8000000 in
theorem joined_any (w : World) (g cap : Nat) (zs : List Rg) (hz : OkL zs) (hn : zs.length ≤ cap) (hc : zs.length ≤ 1000000000) (W0 : World) (h0 : JW w g cap 0 [] zs W0) (hg : w.heap.size ≤ g) :
    Calls Try.prog 35 #[.slice (some ⟨g, 0, none⟩) zs.length cap, .func (.func 36) #[] #[]] W0 fun e w' => e = .returned (.slice (some ⟨g, 0, none⟩) (joinK zs zs.length).length cap) ∧ JW w g cap zs.length (joinK zs zs.length) zs w' := by
  have HJ0 := Lib.hid h0
  have HZ := Lib.hid hz
  clear h0 hz
  obtain ⟨n, hl⟩ : ∃ n, zs.length = n := ⟨_, rfl⟩
  have HL := Lib.hid hl
  rw [hl] at hn hc ⊢
  clear hl
  go_enter Try.func35, Try.ntmps35
  go_wp2_with fail
  go_loopw [5, 14] (fun v i W => ∃ k : Nat, k ≤ n ∧ i = .int .i64 k ∧ v = .slice (some ⟨g, 0, none⟩) (joinK zs k).length cap ∧ Hid (JW w g cap k (joinK zs k) zs W)) (fun _ i _ => n - (intOf i).toNat)
  case atStart => exact ⟨0, by omega, rfl, rfl, HJ0⟩
  case round =>
    clear HJ0
    obtain ⟨k, hk, rfl, rfl, HJ⟩ := hrel
    by_cases hlt : k < n
    · have hlt' : k < zs.length := by rw [HL.out]; exact hlt
      have HST := Lib.hid (joinK_succ zs k hlt')
      have hjl := joinK_len zs k (by omega)
      obtain ⟨c0, c1⟩ := HJ.out.2.2.1 k (Nat.le_refl _) hlt'
      have HU := Lib.hid (z_ok HZ.out hlt')
      obtain ⟨x, hx⟩ : ∃ x, rAt zs k = x := ⟨_, rfl⟩
      have hu : U x.1 ∧ U x.2 := by rw [← hx]; exact HU.out
      have HUX := Lib.hid hu
      rw [hx] at c0 c1 HST
      clear hx hu HU
      generalize hjs : joinK zs k = js at *
      clear hjs
      obtain ⟨m, hm⟩ : ∃ m, js.length = m := ⟨_, rfl⟩
      have HM := Lib.hid hm
      rw [hm] at hjl ⊢
      clear hm
      have HB := Lib.hid (RB.new wr x.1 x.2)
      have hgl := HJ.out.lt
      rcases m with _ | j
      · obtain ⟨⟨u, v, t0, t1⟩, f0, f1⟩ := HJ.out.there 0 (by omega)
        clear t0 t1 f0 f1
        go_upto_region 9 with fail
        have HJ1 := Lib.hid (HJ.out.alloc (.cells #[.int .u64 (x.1 : Nat), .int .u64 (x.2 : Nat)] 25))
        generalize World.alloc wr _ = W1 at HB HJ1 ⊢
        generalize wr.heap.size = B at *
        clear c0 c1 HJ
        have HST2 : Hid (stepJ js x = js ++ [x]) := Lib.hid (by unfold stepJ; rw [if_pos HM.out, List.eq_nil_of_length_eq_zero HM.out]; rfl)
        have th := Lib.hid (fun o => (HJ1.out.alloc o).there 0 (by omega))
        obtain ⟨⟨u, v, t0, t1⟩, f0, f1⟩ := HJ1.out.there 0 (by omega)
        have t0' : ∀ o, (W1.alloc o).cell? ⟨g, 0 * 2, none⟩ = some u := fun o => cell_keep t0 ((Below.refl _ _).alloc (Nat.le_refl _) o)
        have t1' : ∀ o, (W1.alloc o).cell? ⟨g, 0 * 2 + 1, none⟩ = some v := fun o => cell_keep t1 ((Below.refl _ _).alloc (Nat.le_refl _) o)
        have f0' : ∀ o, (W1.alloc o).frozen? ⟨g, 0 * 2, none⟩ = false := fun o => (th.out o).2.1
        have f1' : ∀ o, (W1.alloc o).frozen? ⟨g, 0 * 2 + 1, none⟩ = false := fun o => (th.out o).2.2
        obtain ⟨b0, b1⟩ := HB.out.c
        have HN := Lib.hid (fun o => (HJ1.out.alloc o).push hg (by rw [HM.out]; omega) (by omega) x)
        clear t0 t1 f0 f1 HJ1 HB
        go_wp2_with fail
        clear t0' t1' f0' f1' b0 b1 th
        go_roundw
        case rel =>
          refine ⟨k + 1, by omega, by go_num, by rw [HST.out, HST2.out, List.length_append, HM.out]; simp, Lib.hid ?_⟩
          rw [HST.out, HST2.out]
          have h := HN.out (.cells #[.int .u64 (x.1 : Nat), .int .u64 (x.2 : Nat)] 25)
          unfold put2 at h
          rw [HM.out] at h
          simpa using h
        case measure => simp [intOf]; omega
      · go_upto_region 6 with fail
        clear c0 c1
        have HJ1 := Lib.hid (HJ.out.alloc (.cells #[.int .u64 (x.1 : Nat), .int .u64 (x.2 : Nat)] 25))
        generalize World.alloc wr _ = W1 at HB HJ1 ⊢
        generalize wr.heap.size = B at *
        clear HJ
        have hme : ∀ w, Calls Try.prog 36 #[.agg #[.int .u64 ((rAt js j).1 : Nat), .int .u64 ((rAt js j).2 : Nat)], .agg #[.int .u64 (x.1 : Nat), .int .u64 (x.2 : Nat)]] w fun e w' => e = .returned (.tuple #[.agg #[.int .u64 ((rAt js j).1 : Nat), .int .u64 (maxN (rAt js j).2 x.2 : Nat)], .bool (!apartB (rAt js j).2 x.1)]) ∧ Below w.heap.size w w' := fun w => meet_any _ _ _ _ HUX.out.1 w
        have hst2 : stepJ js x = if apartB (rAt js j).2 x.1 then js ++ [x] else js.take j ++ [((rAt js j).1, maxN (rAt js j).2 x.2)] := by
          unfold stepJ
          rw [if_neg (by rw [HM.out]; omega), HM.out]
          rfl
        have HRJ : Hid (rAt js j = rAt js j) := Lib.hid rfl
        cases hap : apartB (rAt js j).2 x.1
        · rw [hap] at hme hst2
          have HME := Lib.hid hme
          have HST2 : Hid (stepJ js x = js.take j ++ [((rAt js j).1, maxN (rAt js j).2 x.2)]) := Lib.hid hst2
          clear hme hst2 hap
          refine wp_region_noPanic ?_
          refine wp_region_held_drew (S := fun W : World => JW w g cap k js zs W ∧ RB W B x.1 x.2) (by kernel_rfl) ?_ (fun hHeld => ?_)
          · exact ⟨HJ1.out.drew, HB.out⟩
          generalize World.drew _ = W3 at hHeld ⊢
          clear HJ1 HB
          refine wpAnyH_take (i := 0) (v := ?_) rfl (by kernel_rfl) (by kernel_rfl) (by kernel_rfl) (fun _ _ _ h => h) (Or.inl ⟨by kernel_rfl, ?_⟩) (by assumption) ?_
          rotate_left
          · intro wv hSw
            go_simp
            try with_reducible rfl
          simp only [Act.put, List.setIfInBounds_toArray, List.set_cons_zero, List.set_cons_succ, List.getElem_toArray, List.getElem_cons_succ, List.getElem_cons_zero]
          refine wpAnyH_take (i := 1) (v := ?_) rfl (by kernel_rfl) (by kernel_rfl) (by kernel_rfl) (fun _ _ _ h => h) (Or.inl ⟨by kernel_rfl, ?_⟩) (by assumption) ?_
          rotate_left
          · intro wv hSw
            go_simp
            try with_reducible rfl
          simp only [Act.put, List.setIfInBounds_toArray, List.set_cons_zero, List.set_cons_succ, List.getElem_toArray, List.getElem_cons_succ, List.getElem_cons_zero]
          refine wpAnyH_take (i := 2) (v := ?_) rfl (by kernel_rfl) (by kernel_rfl) (by kernel_rfl) (fun _ _ _ h => h) (Or.inl ⟨by kernel_rfl, ?_⟩) (by assumption) ?_
          rotate_left
          · intro wv hSw
            go_simp
            try with_reducible rfl
          simp only [Act.put, List.setIfInBounds_toArray, List.set_cons_zero, List.set_cons_succ, List.getElem_toArray, List.getElem_cons_succ, List.getElem_cons_zero]
          refine wpAnyH_take (i := 3) (v := ?_) rfl (by kernel_rfl) (by kernel_rfl) (by kernel_rfl) (fun _ _ _ h => h) (Or.inl ⟨by kernel_rfl, ?_⟩) (by assumption) ?_
          rotate_left
          · intro wv hSw
            go_simp
            try with_reducible rfl
          simp only [Act.put, List.setIfInBounds_toArray, List.set_cons_zero, List.set_cons_succ, List.getElem_toArray, List.getElem_cons_succ, List.getElem_cons_zero]
          refine wpAnyH_take (i := 4) (v := ?_) rfl (by kernel_rfl) (by kernel_rfl) (by kernel_rfl) (fun _ _ _ h => h) (Or.inl ⟨by kernel_rfl, ?_⟩) (by assumption) ?_
          rotate_left
          · intro wv hSw
            go_simp
            try with_reducible rfl
          simp only [Act.put, List.setIfInBounds_toArray, List.set_cons_zero, List.set_cons_succ, List.getElem_toArray, List.getElem_cons_succ, List.getElem_cons_zero]
          refine wpAnyH_take (i := 5) (v := ?_) rfl (by kernel_rfl) (by kernel_rfl) (by kernel_rfl) (fun _ _ _ h => h) (Or.inl ⟨by kernel_rfl, ?_⟩) (by assumption) ?_
          rotate_left
          · intro wv hSw
            have hw2 : IntKind.i64.wrap (j : Int) = (j : Int) := IntWalk.i64_in _ (by omega)
            go_simp
            rw [if_pos (by omega)]
            try with_reducible rfl
          simp only [Act.put, List.setIfInBounds_toArray, List.set_cons_zero, List.set_cons_succ, List.getElem_toArray, List.getElem_cons_succ, List.getElem_cons_zero]
          refine wpAnyH_take (i := 6) (v := ?_) rfl (by kernel_rfl) (by kernel_rfl) (by kernel_rfl) (fun _ _ _ h => h) (Or.inl ⟨by kernel_rfl, ?_⟩) (by assumption) ?_
          rotate_left
          · intro wv hSw
            have dd := hSw.1.2.1 j (by rw [HM.out]; omega)
            unfold c2 at dd
            obtain ⟨d0, d1⟩ := dd
            rw [HRJ.out] at d0 d1
            go_simp
            try with_reducible rfl
          simp only [Act.put, List.setIfInBounds_toArray, List.set_cons_zero, List.set_cons_succ, List.getElem_toArray, List.getElem_cons_succ, List.getElem_cons_zero]
          refine wpAnyH_take (i := 7) (v := ?_) rfl (by kernel_rfl) (by kernel_rfl) (by kernel_rfl) (fun _ _ _ h => h) (Or.inl ⟨by kernel_rfl, ?_⟩) (by assumption) ?_
          rotate_left
          · intro wv hSw
            obtain ⟨e0, e1⟩ := hSw.2.c
            go_simp
            try with_reducible rfl
          simp only [Act.put, List.setIfInBounds_toArray, List.set_cons_zero, List.set_cons_succ, List.getElem_toArray, List.getElem_cons_succ, List.getElem_cons_zero]
          refine wpAnyH_ready (rs := [8, 12]) (by kernel_rfl) (by simp) ?_
          refine AllReadyH.cons rfl (fun K hK => ?_) (AllReadyH.cons rfl (fun K hK => ?_) AllReadyH.nil)
          · skip
            go_simp
            go_at_call 36
            refine (HME.out _).mono ?_
            first | (rintro e W9x rfl hb) | (rintro e W9x ⟨rfl, hb⟩)
            refine hK.out _ _ (⟨hHeld.1.keep hb, hHeld.2.keep hb⟩) (fun hHeld2 => ?_)
            clear hK K hHeld hb
            have hHeld := hHeld2
            clear hHeld2
            try simp only [Act.put, List.setIfInBounds_toArray, List.set_cons_zero, List.set_cons_succ, List.getElem_toArray, List.getElem_cons_succ, List.getElem_cons_zero]
            generalize W9x = W4 at hHeld ⊢
            refine wpAnyH_take (i := 9) (v := ?_) rfl (by kernel_rfl) (by kernel_rfl) (by kernel_rfl) (fun _ _ _ h => h) (Or.inl ⟨by kernel_rfl, ?_⟩) (by assumption) ?_
            rotate_left
            · intro wv hSw
              go_simp
              try with_reducible rfl
            simp only [Act.put, List.setIfInBounds_toArray, List.set_cons_zero, List.set_cons_succ, List.getElem_toArray, List.getElem_cons_succ, List.getElem_cons_zero]
            refine wpAnyH_take (i := 10) (v := ?_) rfl (by kernel_rfl) (by kernel_rfl) (by kernel_rfl) (fun _ _ _ h => h) (Or.inl ⟨by kernel_rfl, ?_⟩) (by assumption) ?_
            rotate_left
            · intro wv hSw
              go_simp
              try with_reducible rfl
            simp only [Act.put, List.setIfInBounds_toArray, List.set_cons_zero, List.set_cons_succ, List.getElem_toArray, List.getElem_cons_succ, List.getElem_cons_zero]
            refine wpAnyH_take (i := 11) (v := ?_) rfl (by kernel_rfl) (by kernel_rfl) (by kernel_rfl) (fun _ _ _ h => h) (Or.inl ⟨by kernel_rfl, ?_⟩) (by assumption) ?_
            rotate_left
            · intro wv hSw
              go_simp
              try with_reducible rfl
            simp only [Act.put, List.setIfInBounds_toArray, List.set_cons_zero, List.set_cons_succ, List.getElem_toArray, List.getElem_cons_succ, List.getElem_cons_zero]
            refine wpAnyH_ready (rs := [12]) (by kernel_rfl) (by simp) ?_
            refine AllReadyH.cons rfl (fun K hK => ?_) AllReadyH.nil
            have hq : JW w g cap k js zs (World.alloc W4 (.cells #[.int .u64 0, .int .u64 0] 25)) ∧ RB (World.alloc W4 (.cells #[.int .u64 0, .int .u64 0] 25)) B x.1 x.2 := ⟨hHeld.1.alloc _, hHeld.2.keep ((Below.refl _ _).alloc (Nat.le_refl _) _)⟩
            have hqb := RB.new W4 0 0
            go_simp
            refine hK.out _ _ hq (fun hHeld2 => ?_)
            clear hK K hHeld2
            refine wpAnyH_narrow (S' := fun W : World => (JW w g cap k js zs W ∧ RB W B x.1 x.2) ∧ ∃ p q, RB W (W4.heap.size) p q) (fun _ h => h.1) _ _ _ _ ?_
            have HQ : Hid (W4.heap.size ≠ g ∧ W4.heap.size ≠ B ∧ w.heap.size ≤ W4.heap.size) := Lib.hid ⟨by have := hHeld.1.lt; omega, by have := (Array.getElem?_eq_some_iff.1 hHeld.2).1; omega, hHeld.1.2.2.2.size⟩
            clear hHeld
            have hHeld : (fun W : World => (JW w g cap k js zs W ∧ RB W B x.1 x.2) ∧ ∃ p q, RB W (W4.heap.size) p q) (World.alloc W4 (.cells #[.int .u64 0, .int .u64 0] 25)) := ⟨hq, 0, 0, hqb⟩
            clear hq hqb
            generalize World.alloc W4 _ = W5 at hHeld ⊢
            generalize W4.heap.size = bq at *
            try simp only [Act.put, List.setIfInBounds_toArray, List.set_cons_zero, List.set_cons_succ, List.getElem_toArray, List.getElem_cons_succ, List.getElem_cons_zero]
            refine wpAnyH_ready (rs := [13]) (by kernel_rfl) (by simp) ?_
            refine AllReadyH.cons rfl (fun K hK => ?_) AllReadyH.nil
            have hp := Lib.hid (JW.farq hHeld.1 HQ.out.1.symm HQ.out.2.1.symm HQ.out.2.2 0 0 hHeld.2.choose_spec.choose_spec (rAt js j).1 (maxN (rAt js j).2 x.2))
            obtain ⟨p, q, hy⟩ := hHeld.2
            obtain ⟨e0, e1⟩ := hy.c
            have g0 := hy.f 0
            have g1 := hy.f 1
            go_simp
            refine hK.out _ _ ⟨hp.out.1, _, _, hp.out.2⟩ (fun hHeld2 => ?_)
            clear hK K hHeld hHeld2 hy e0 e1 g0 g1
            generalize World.setCell (World.setCell _ _ _) _ _ = WQ at hp ⊢
            have hHeld : (fun W : World => (JW w g cap k js zs W ∧ RB W B x.1 x.2) ∧ ∃ p q, RB W bq p q) WQ := ⟨hp.out.1, _, _, hp.out.2⟩
            try simp only [Act.put, List.setIfInBounds_toArray, List.set_cons_zero, List.set_cons_succ, List.getElem_toArray, List.getElem_cons_succ, List.getElem_cons_zero]
            refine wpAnyH_take (i := 14) (v := ?_) rfl (by kernel_rfl) (by kernel_rfl) (by kernel_rfl) (fun _ _ _ h => h) (Or.inl ⟨by kernel_rfl, ?_⟩) (by assumption) ?_
            rotate_left
            · intro wv hSw
              go_simp
              try with_reducible rfl
            simp only [Act.put, List.setIfInBounds_toArray, List.set_cons_zero, List.set_cons_succ, List.getElem_toArray, List.getElem_cons_succ, List.getElem_cons_zero]
            refine wpAnyH_done (by kernel_rfl) ?_ _
            refine NoPanic.normal ?_
            clear hHeld
            have HX := Lib.hid (show (JW w g cap k js zs WQ ∧ RB WQ B x.1 x.2) ∧ RB WQ bq (rAt js j).1 (maxN (rAt js j).2 x.2) from ⟨hp.out.1, hp.out.2⟩)
            clear hp HQ
            obtain ⟨⟨u, v, t0, t1⟩, f0, f1⟩ := HX.out.1.1.there j (by omega)
            obtain ⟨b0, b1⟩ := HX.out.2.c
            have HN := Lib.hid (HX.out.1.1.last hg HM.out (by rw [HM.out]; omega) (by omega) ((rAt js j).1, maxN (rAt js j).2 x.2))
            clear HX
            go_wp2_with fail
            clear t0 t1 f0 f1 b0 b1
            go_roundw
            case rel =>
              refine ⟨k + 1, by omega, by go_num, by rw [HST.out, HST2.out, List.length_append, List.length_take, HM.out]; simp, Lib.hid ?_⟩
              rw [HST.out, HST2.out]
              have h := HN.out
              unfold put2 at h
              simpa using h
            case measure => simp [intOf]; omega
          · skip
            have hq : JW w g cap k js zs (World.alloc W3 (.cells #[.int .u64 0, .int .u64 0] 25)) ∧ RB (World.alloc W3 (.cells #[.int .u64 0, .int .u64 0] 25)) B x.1 x.2 := ⟨hHeld.1.alloc _, hHeld.2.keep ((Below.refl _ _).alloc (Nat.le_refl _) _)⟩
            have hqb := RB.new W3 0 0
            go_simp
            refine hK.out _ _ hq (fun hHeld2 => ?_)
            clear hK K hHeld2
            refine wpAnyH_narrow (S' := fun W : World => (JW w g cap k js zs W ∧ RB W B x.1 x.2) ∧ ∃ p q, RB W (W3.heap.size) p q) (fun _ h => h.1) _ _ _ _ ?_
            have HQ : Hid (W3.heap.size ≠ g ∧ W3.heap.size ≠ B ∧ w.heap.size ≤ W3.heap.size) := Lib.hid ⟨by have := hHeld.1.lt; omega, by have := (Array.getElem?_eq_some_iff.1 hHeld.2).1; omega, hHeld.1.2.2.2.size⟩
            clear hHeld
            have hHeld : (fun W : World => (JW w g cap k js zs W ∧ RB W B x.1 x.2) ∧ ∃ p q, RB W (W3.heap.size) p q) (World.alloc W3 (.cells #[.int .u64 0, .int .u64 0] 25)) := ⟨hq, 0, 0, hqb⟩
            clear hq hqb
            generalize World.alloc W3 _ = W5 at hHeld ⊢
            generalize W3.heap.size = bq at *
            try simp only [Act.put, List.setIfInBounds_toArray, List.set_cons_zero, List.set_cons_succ, List.getElem_toArray, List.getElem_cons_succ, List.getElem_cons_zero]
            refine wpAnyH_ready (rs := [8]) (by kernel_rfl) (by simp) ?_
            refine AllReadyH.cons rfl (fun K hK => ?_) AllReadyH.nil
            go_simp
            go_at_call 36
            refine (HME.out _).mono ?_
            first | (rintro e W9x rfl hb) | (rintro e W9x ⟨rfl, hb⟩)
            refine hK.out _ _ (⟨⟨hHeld.1.1.keep hb, hHeld.1.2.keep hb⟩, hHeld.2.choose, hHeld.2.choose_spec.choose, hHeld.2.choose_spec.choose_spec.keep hb⟩) (fun hHeld2 => ?_)
            clear hK K hHeld hb
            have hHeld := hHeld2
            clear hHeld2
            try simp only [Act.put, List.setIfInBounds_toArray, List.set_cons_zero, List.set_cons_succ, List.getElem_toArray, List.getElem_cons_succ, List.getElem_cons_zero]
            refine wpAnyH_take (i := 9) (v := ?_) rfl (by kernel_rfl) (by kernel_rfl) (by kernel_rfl) (fun _ _ _ h => h) (Or.inl ⟨by kernel_rfl, ?_⟩) (by assumption) ?_
            rotate_left
            · intro wv hSw
              go_simp
              try with_reducible rfl
            simp only [Act.put, List.setIfInBounds_toArray, List.set_cons_zero, List.set_cons_succ, List.getElem_toArray, List.getElem_cons_succ, List.getElem_cons_zero]
            refine wpAnyH_take (i := 10) (v := ?_) rfl (by kernel_rfl) (by kernel_rfl) (by kernel_rfl) (fun _ _ _ h => h) (Or.inl ⟨by kernel_rfl, ?_⟩) (by assumption) ?_
            rotate_left
            · intro wv hSw
              go_simp
              try with_reducible rfl
            simp only [Act.put, List.setIfInBounds_toArray, List.set_cons_zero, List.set_cons_succ, List.getElem_toArray, List.getElem_cons_succ, List.getElem_cons_zero]
            refine wpAnyH_take (i := 11) (v := ?_) rfl (by kernel_rfl) (by kernel_rfl) (by kernel_rfl) (fun _ _ _ h => h) (Or.inl ⟨by kernel_rfl, ?_⟩) (by assumption) ?_
            rotate_left
            · intro wv hSw
              go_simp
              try with_reducible rfl
            simp only [Act.put, List.setIfInBounds_toArray, List.set_cons_zero, List.set_cons_succ, List.getElem_toArray, List.getElem_cons_succ, List.getElem_cons_zero]
            refine wpAnyH_ready (rs := [13]) (by kernel_rfl) (by simp) ?_
            refine AllReadyH.cons rfl (fun K hK => ?_) AllReadyH.nil
            have hp := Lib.hid (JW.farq hHeld.1 HQ.out.1.symm HQ.out.2.1.symm HQ.out.2.2 0 0 hHeld.2.choose_spec.choose_spec (rAt js j).1 (maxN (rAt js j).2 x.2))
            obtain ⟨p, q, hy⟩ := hHeld.2
            obtain ⟨e0, e1⟩ := hy.c
            have g0 := hy.f 0
            have g1 := hy.f 1
            go_simp
            refine hK.out _ _ ⟨hp.out.1, _, _, hp.out.2⟩ (fun hHeld2 => ?_)
            clear hK K hHeld hHeld2 hy e0 e1 g0 g1
            generalize World.setCell (World.setCell _ _ _) _ _ = WQ at hp ⊢
            have hHeld : (fun W : World => (JW w g cap k js zs W ∧ RB W B x.1 x.2) ∧ ∃ p q, RB W bq p q) WQ := ⟨hp.out.1, _, _, hp.out.2⟩
            try simp only [Act.put, List.setIfInBounds_toArray, List.set_cons_zero, List.set_cons_succ, List.getElem_toArray, List.getElem_cons_succ, List.getElem_cons_zero]
            refine wpAnyH_take (i := 14) (v := ?_) rfl (by kernel_rfl) (by kernel_rfl) (by kernel_rfl) (fun _ _ _ h => h) (Or.inl ⟨by kernel_rfl, ?_⟩) (by assumption) ?_
            rotate_left
            · intro wv hSw
              go_simp
              try with_reducible rfl
            simp only [Act.put, List.setIfInBounds_toArray, List.set_cons_zero, List.set_cons_succ, List.getElem_toArray, List.getElem_cons_succ, List.getElem_cons_zero]
            refine wpAnyH_done (by kernel_rfl) ?_ _
            refine NoPanic.normal ?_
            clear hHeld
            have HX := Lib.hid (show (JW w g cap k js zs WQ ∧ RB WQ B x.1 x.2) ∧ RB WQ bq (rAt js j).1 (maxN (rAt js j).2 x.2) from ⟨hp.out.1, hp.out.2⟩)
            clear hp HQ
            obtain ⟨⟨u, v, t0, t1⟩, f0, f1⟩ := HX.out.1.1.there j (by omega)
            obtain ⟨b0, b1⟩ := HX.out.2.c
            have HN := Lib.hid (HX.out.1.1.last hg HM.out (by rw [HM.out]; omega) (by omega) ((rAt js j).1, maxN (rAt js j).2 x.2))
            clear HX
            go_wp2_with fail
            clear t0 t1 f0 f1 b0 b1
            go_roundw
            case rel =>
              refine ⟨k + 1, by omega, by go_num, by rw [HST.out, HST2.out, List.length_append, List.length_take, HM.out]; simp, Lib.hid ?_⟩
              rw [HST.out, HST2.out]
              have h := HN.out
              unfold put2 at h
              simpa using h
            case measure => simp [intOf]; omega
        · rw [hap] at hme hst2
          have HME := Lib.hid hme
          have HST2 : Hid (stepJ js x = js ++ [x]) := Lib.hid hst2
          clear hme hst2 hap
          refine wp_region_noPanic ?_
          refine wp_region_held_drew (S := fun W : World => JW w g cap k js zs W ∧ RB W B x.1 x.2) (by kernel_rfl) ?_ (fun hHeld => ?_)
          · exact ⟨HJ1.out.drew, HB.out⟩
          generalize World.drew _ = W3 at hHeld ⊢
          clear HJ1 HB
          refine wpAnyH_take (i := 0) (v := ?_) rfl (by kernel_rfl) (by kernel_rfl) (by kernel_rfl) (fun _ _ _ h => h) (Or.inl ⟨by kernel_rfl, ?_⟩) (by assumption) ?_
          rotate_left
          · intro wv hSw
            go_simp
            try with_reducible rfl
          simp only [Act.put, List.setIfInBounds_toArray, List.set_cons_zero, List.set_cons_succ, List.getElem_toArray, List.getElem_cons_succ, List.getElem_cons_zero]
          refine wpAnyH_take (i := 1) (v := ?_) rfl (by kernel_rfl) (by kernel_rfl) (by kernel_rfl) (fun _ _ _ h => h) (Or.inl ⟨by kernel_rfl, ?_⟩) (by assumption) ?_
          rotate_left
          · intro wv hSw
            go_simp
            try with_reducible rfl
          simp only [Act.put, List.setIfInBounds_toArray, List.set_cons_zero, List.set_cons_succ, List.getElem_toArray, List.getElem_cons_succ, List.getElem_cons_zero]
          refine wpAnyH_take (i := 2) (v := ?_) rfl (by kernel_rfl) (by kernel_rfl) (by kernel_rfl) (fun _ _ _ h => h) (Or.inl ⟨by kernel_rfl, ?_⟩) (by assumption) ?_
          rotate_left
          · intro wv hSw
            go_simp
            try with_reducible rfl
          simp only [Act.put, List.setIfInBounds_toArray, List.set_cons_zero, List.set_cons_succ, List.getElem_toArray, List.getElem_cons_succ, List.getElem_cons_zero]
          refine wpAnyH_take (i := 3) (v := ?_) rfl (by kernel_rfl) (by kernel_rfl) (by kernel_rfl) (fun _ _ _ h => h) (Or.inl ⟨by kernel_rfl, ?_⟩) (by assumption) ?_
          rotate_left
          · intro wv hSw
            go_simp
            try with_reducible rfl
          simp only [Act.put, List.setIfInBounds_toArray, List.set_cons_zero, List.set_cons_succ, List.getElem_toArray, List.getElem_cons_succ, List.getElem_cons_zero]
          refine wpAnyH_take (i := 4) (v := ?_) rfl (by kernel_rfl) (by kernel_rfl) (by kernel_rfl) (fun _ _ _ h => h) (Or.inl ⟨by kernel_rfl, ?_⟩) (by assumption) ?_
          rotate_left
          · intro wv hSw
            go_simp
            try with_reducible rfl
          simp only [Act.put, List.setIfInBounds_toArray, List.set_cons_zero, List.set_cons_succ, List.getElem_toArray, List.getElem_cons_succ, List.getElem_cons_zero]
          refine wpAnyH_take (i := 5) (v := ?_) rfl (by kernel_rfl) (by kernel_rfl) (by kernel_rfl) (fun _ _ _ h => h) (Or.inl ⟨by kernel_rfl, ?_⟩) (by assumption) ?_
          rotate_left
          · intro wv hSw
            have hw2 : IntKind.i64.wrap (j : Int) = (j : Int) := IntWalk.i64_in _ (by omega)
            go_simp
            rw [if_pos (by omega)]
            try with_reducible rfl
          simp only [Act.put, List.setIfInBounds_toArray, List.set_cons_zero, List.set_cons_succ, List.getElem_toArray, List.getElem_cons_succ, List.getElem_cons_zero]
          refine wpAnyH_take (i := 6) (v := ?_) rfl (by kernel_rfl) (by kernel_rfl) (by kernel_rfl) (fun _ _ _ h => h) (Or.inl ⟨by kernel_rfl, ?_⟩) (by assumption) ?_
          rotate_left
          · intro wv hSw
            have dd := hSw.1.2.1 j (by rw [HM.out]; omega)
            unfold c2 at dd
            obtain ⟨d0, d1⟩ := dd
            rw [HRJ.out] at d0 d1
            go_simp
            try with_reducible rfl
          simp only [Act.put, List.setIfInBounds_toArray, List.set_cons_zero, List.set_cons_succ, List.getElem_toArray, List.getElem_cons_succ, List.getElem_cons_zero]
          refine wpAnyH_take (i := 7) (v := ?_) rfl (by kernel_rfl) (by kernel_rfl) (by kernel_rfl) (fun _ _ _ h => h) (Or.inl ⟨by kernel_rfl, ?_⟩) (by assumption) ?_
          rotate_left
          · intro wv hSw
            obtain ⟨e0, e1⟩ := hSw.2.c
            go_simp
            try with_reducible rfl
          simp only [Act.put, List.setIfInBounds_toArray, List.set_cons_zero, List.set_cons_succ, List.getElem_toArray, List.getElem_cons_succ, List.getElem_cons_zero]
          refine wpAnyH_ready (rs := [8, 12]) (by kernel_rfl) (by simp) ?_
          refine AllReadyH.cons rfl (fun K hK => ?_) (AllReadyH.cons rfl (fun K hK => ?_) AllReadyH.nil)
          · skip
            go_simp
            go_at_call 36
            refine (HME.out _).mono ?_
            first | (rintro e W9x rfl hb) | (rintro e W9x ⟨rfl, hb⟩)
            refine hK.out _ _ (⟨hHeld.1.keep hb, hHeld.2.keep hb⟩) (fun hHeld2 => ?_)
            clear hK K hHeld hb
            have hHeld := hHeld2
            clear hHeld2
            try simp only [Act.put, List.setIfInBounds_toArray, List.set_cons_zero, List.set_cons_succ, List.getElem_toArray, List.getElem_cons_succ, List.getElem_cons_zero]
            generalize W9x = W4 at hHeld ⊢
            refine wpAnyH_take (i := 9) (v := ?_) rfl (by kernel_rfl) (by kernel_rfl) (by kernel_rfl) (fun _ _ _ h => h) (Or.inl ⟨by kernel_rfl, ?_⟩) (by assumption) ?_
            rotate_left
            · intro wv hSw
              go_simp
              try with_reducible rfl
            simp only [Act.put, List.setIfInBounds_toArray, List.set_cons_zero, List.set_cons_succ, List.getElem_toArray, List.getElem_cons_succ, List.getElem_cons_zero]
            refine wpAnyH_take (i := 10) (v := ?_) rfl (by kernel_rfl) (by kernel_rfl) (by kernel_rfl) (fun _ _ _ h => h) (Or.inl ⟨by kernel_rfl, ?_⟩) (by assumption) ?_
            rotate_left
            · intro wv hSw
              go_simp
              try with_reducible rfl
            simp only [Act.put, List.setIfInBounds_toArray, List.set_cons_zero, List.set_cons_succ, List.getElem_toArray, List.getElem_cons_succ, List.getElem_cons_zero]
            refine wpAnyH_take (i := 11) (v := ?_) rfl (by kernel_rfl) (by kernel_rfl) (by kernel_rfl) (fun _ _ _ h => h) (Or.inl ⟨by kernel_rfl, ?_⟩) (by assumption) ?_
            rotate_left
            · intro wv hSw
              go_simp
              try with_reducible rfl
            simp only [Act.put, List.setIfInBounds_toArray, List.set_cons_zero, List.set_cons_succ, List.getElem_toArray, List.getElem_cons_succ, List.getElem_cons_zero]
            refine wpAnyH_ready (rs := [12]) (by kernel_rfl) (by simp) ?_
            refine AllReadyH.cons rfl (fun K hK => ?_) AllReadyH.nil
            have hq : JW w g cap k js zs (World.alloc W4 (.cells #[.int .u64 0, .int .u64 0] 25)) ∧ RB (World.alloc W4 (.cells #[.int .u64 0, .int .u64 0] 25)) B x.1 x.2 := ⟨hHeld.1.alloc _, hHeld.2.keep ((Below.refl _ _).alloc (Nat.le_refl _) _)⟩
            have hqb := RB.new W4 0 0
            go_simp
            refine hK.out _ _ hq (fun hHeld2 => ?_)
            clear hK K hHeld2
            refine wpAnyH_narrow (S' := fun W : World => (JW w g cap k js zs W ∧ RB W B x.1 x.2) ∧ ∃ p q, RB W (W4.heap.size) p q) (fun _ h => h.1) _ _ _ _ ?_
            have HQ : Hid (W4.heap.size ≠ g ∧ W4.heap.size ≠ B ∧ w.heap.size ≤ W4.heap.size) := Lib.hid ⟨by have := hHeld.1.lt; omega, by have := (Array.getElem?_eq_some_iff.1 hHeld.2).1; omega, hHeld.1.2.2.2.size⟩
            clear hHeld
            have hHeld : (fun W : World => (JW w g cap k js zs W ∧ RB W B x.1 x.2) ∧ ∃ p q, RB W (W4.heap.size) p q) (World.alloc W4 (.cells #[.int .u64 0, .int .u64 0] 25)) := ⟨hq, 0, 0, hqb⟩
            clear hq hqb
            generalize World.alloc W4 _ = W5 at hHeld ⊢
            generalize W4.heap.size = bq at *
            try simp only [Act.put, List.setIfInBounds_toArray, List.set_cons_zero, List.set_cons_succ, List.getElem_toArray, List.getElem_cons_succ, List.getElem_cons_zero]
            refine wpAnyH_ready (rs := [13]) (by kernel_rfl) (by simp) ?_
            refine AllReadyH.cons rfl (fun K hK => ?_) AllReadyH.nil
            have hp := Lib.hid (JW.farq hHeld.1 HQ.out.1.symm HQ.out.2.1.symm HQ.out.2.2 0 0 hHeld.2.choose_spec.choose_spec (rAt js j).1 (maxN (rAt js j).2 x.2))
            obtain ⟨p, q, hy⟩ := hHeld.2
            obtain ⟨e0, e1⟩ := hy.c
            have g0 := hy.f 0
            have g1 := hy.f 1
            go_simp
            refine hK.out _ _ ⟨hp.out.1, _, _, hp.out.2⟩ (fun hHeld2 => ?_)
            clear hK K hHeld hHeld2 hy e0 e1 g0 g1
            generalize World.setCell (World.setCell _ _ _) _ _ = WQ at hp ⊢
            have hHeld : (fun W : World => (JW w g cap k js zs W ∧ RB W B x.1 x.2) ∧ ∃ p q, RB W bq p q) WQ := ⟨hp.out.1, _, _, hp.out.2⟩
            try simp only [Act.put, List.setIfInBounds_toArray, List.set_cons_zero, List.set_cons_succ, List.getElem_toArray, List.getElem_cons_succ, List.getElem_cons_zero]
            refine wpAnyH_take (i := 14) (v := ?_) rfl (by kernel_rfl) (by kernel_rfl) (by kernel_rfl) (fun _ _ _ h => h) (Or.inl ⟨by kernel_rfl, ?_⟩) (by assumption) ?_
            rotate_left
            · intro wv hSw
              go_simp
              try with_reducible rfl
            simp only [Act.put, List.setIfInBounds_toArray, List.set_cons_zero, List.set_cons_succ, List.getElem_toArray, List.getElem_cons_succ, List.getElem_cons_zero]
            refine wpAnyH_done (by kernel_rfl) ?_ _
            refine NoPanic.normal ?_
            clear hHeld
            have HX := Lib.hid (show (JW w g cap k js zs WQ ∧ RB WQ B x.1 x.2) ∧ RB WQ bq (rAt js j).1 (maxN (rAt js j).2 x.2) from ⟨hp.out.1, hp.out.2⟩)
            clear hp HQ
            go_upto_region 9 with fail
            have HJ1 := Lib.hid HX.out.1.1
            have HB := Lib.hid HX.out.1.2
            clear HX
            generalize WQ = W1 at HJ1 HB ⊢
            have th := Lib.hid (fun o => (HJ1.out.alloc o).there (j + 1) (by omega))
            obtain ⟨⟨u, v, t0, t1⟩, f0, f1⟩ := HJ1.out.there (j + 1) (by omega)
            have t0' : ∀ o, (W1.alloc o).cell? ⟨g, (j + 1) * 2, none⟩ = some u := fun o => cell_keep t0 ((Below.refl _ _).alloc (Nat.le_refl _) o)
            have t1' : ∀ o, (W1.alloc o).cell? ⟨g, (j + 1) * 2 + 1, none⟩ = some v := fun o => cell_keep t1 ((Below.refl _ _).alloc (Nat.le_refl _) o)
            have f0' : ∀ o, (W1.alloc o).frozen? ⟨g, (j + 1) * 2, none⟩ = false := fun o => (th.out o).2.1
            have f1' : ∀ o, (W1.alloc o).frozen? ⟨g, (j + 1) * 2 + 1, none⟩ = false := fun o => (th.out o).2.2
            obtain ⟨b0, b1⟩ := HB.out.c
            have HN := Lib.hid (fun o => (HJ1.out.alloc o).push hg (by rw [HM.out]; omega) (by omega) x)
            clear t0 t1 f0 f1 HJ1 HB
            go_wp2_with fail
            clear t0' t1' f0' f1' b0 b1 th
            go_roundw
            case rel =>
              refine ⟨k + 1, by omega, by go_num, by rw [HST.out, HST2.out, List.length_append, HM.out]; simp, Lib.hid ?_⟩
              rw [HST.out, HST2.out]
              have h := HN.out (.cells #[.int .u64 (x.1 : Nat), .int .u64 (x.2 : Nat)] 25)
              unfold put2 at h
              rw [HM.out] at h
              simpa using h
            case measure => simp [intOf]; omega
          · skip
            have hq : JW w g cap k js zs (World.alloc W3 (.cells #[.int .u64 0, .int .u64 0] 25)) ∧ RB (World.alloc W3 (.cells #[.int .u64 0, .int .u64 0] 25)) B x.1 x.2 := ⟨hHeld.1.alloc _, hHeld.2.keep ((Below.refl _ _).alloc (Nat.le_refl _) _)⟩
            have hqb := RB.new W3 0 0
            go_simp
            refine hK.out _ _ hq (fun hHeld2 => ?_)
            clear hK K hHeld2
            refine wpAnyH_narrow (S' := fun W : World => (JW w g cap k js zs W ∧ RB W B x.1 x.2) ∧ ∃ p q, RB W (W3.heap.size) p q) (fun _ h => h.1) _ _ _ _ ?_
            have HQ : Hid (W3.heap.size ≠ g ∧ W3.heap.size ≠ B ∧ w.heap.size ≤ W3.heap.size) := Lib.hid ⟨by have := hHeld.1.lt; omega, by have := (Array.getElem?_eq_some_iff.1 hHeld.2).1; omega, hHeld.1.2.2.2.size⟩
            clear hHeld
            have hHeld : (fun W : World => (JW w g cap k js zs W ∧ RB W B x.1 x.2) ∧ ∃ p q, RB W (W3.heap.size) p q) (World.alloc W3 (.cells #[.int .u64 0, .int .u64 0] 25)) := ⟨hq, 0, 0, hqb⟩
            clear hq hqb
            generalize World.alloc W3 _ = W5 at hHeld ⊢
            generalize W3.heap.size = bq at *
            try simp only [Act.put, List.setIfInBounds_toArray, List.set_cons_zero, List.set_cons_succ, List.getElem_toArray, List.getElem_cons_succ, List.getElem_cons_zero]
            refine wpAnyH_ready (rs := [8]) (by kernel_rfl) (by simp) ?_
            refine AllReadyH.cons rfl (fun K hK => ?_) AllReadyH.nil
            go_simp
            go_at_call 36
            refine (HME.out _).mono ?_
            first | (rintro e W9x rfl hb) | (rintro e W9x ⟨rfl, hb⟩)
            refine hK.out _ _ (⟨⟨hHeld.1.1.keep hb, hHeld.1.2.keep hb⟩, hHeld.2.choose, hHeld.2.choose_spec.choose, hHeld.2.choose_spec.choose_spec.keep hb⟩) (fun hHeld2 => ?_)
            clear hK K hHeld hb
            have hHeld := hHeld2
            clear hHeld2
            try simp only [Act.put, List.setIfInBounds_toArray, List.set_cons_zero, List.set_cons_succ, List.getElem_toArray, List.getElem_cons_succ, List.getElem_cons_zero]
            refine wpAnyH_take (i := 9) (v := ?_) rfl (by kernel_rfl) (by kernel_rfl) (by kernel_rfl) (fun _ _ _ h => h) (Or.inl ⟨by kernel_rfl, ?_⟩) (by assumption) ?_
            rotate_left
            · intro wv hSw
              go_simp
              try with_reducible rfl
            simp only [Act.put, List.setIfInBounds_toArray, List.set_cons_zero, List.set_cons_succ, List.getElem_toArray, List.getElem_cons_succ, List.getElem_cons_zero]
            refine wpAnyH_take (i := 10) (v := ?_) rfl (by kernel_rfl) (by kernel_rfl) (by kernel_rfl) (fun _ _ _ h => h) (Or.inl ⟨by kernel_rfl, ?_⟩) (by assumption) ?_
            rotate_left
            · intro wv hSw
              go_simp
              try with_reducible rfl
            simp only [Act.put, List.setIfInBounds_toArray, List.set_cons_zero, List.set_cons_succ, List.getElem_toArray, List.getElem_cons_succ, List.getElem_cons_zero]
            refine wpAnyH_take (i := 11) (v := ?_) rfl (by kernel_rfl) (by kernel_rfl) (by kernel_rfl) (fun _ _ _ h => h) (Or.inl ⟨by kernel_rfl, ?_⟩) (by assumption) ?_
            rotate_left
            · intro wv hSw
              go_simp
              try with_reducible rfl
            simp only [Act.put, List.setIfInBounds_toArray, List.set_cons_zero, List.set_cons_succ, List.getElem_toArray, List.getElem_cons_succ, List.getElem_cons_zero]
            refine wpAnyH_ready (rs := [13]) (by kernel_rfl) (by simp) ?_
            refine AllReadyH.cons rfl (fun K hK => ?_) AllReadyH.nil
            have hp := Lib.hid (JW.farq hHeld.1 HQ.out.1.symm HQ.out.2.1.symm HQ.out.2.2 0 0 hHeld.2.choose_spec.choose_spec (rAt js j).1 (maxN (rAt js j).2 x.2))
            obtain ⟨p, q, hy⟩ := hHeld.2
            obtain ⟨e0, e1⟩ := hy.c
            have g0 := hy.f 0
            have g1 := hy.f 1
            go_simp
            refine hK.out _ _ ⟨hp.out.1, _, _, hp.out.2⟩ (fun hHeld2 => ?_)
            clear hK K hHeld hHeld2 hy e0 e1 g0 g1
            generalize World.setCell (World.setCell _ _ _) _ _ = WQ at hp ⊢
            have hHeld : (fun W : World => (JW w g cap k js zs W ∧ RB W B x.1 x.2) ∧ ∃ p q, RB W bq p q) WQ := ⟨hp.out.1, _, _, hp.out.2⟩
            try simp only [Act.put, List.setIfInBounds_toArray, List.set_cons_zero, List.set_cons_succ, List.getElem_toArray, List.getElem_cons_succ, List.getElem_cons_zero]
            refine wpAnyH_take (i := 14) (v := ?_) rfl (by kernel_rfl) (by kernel_rfl) (by kernel_rfl) (fun _ _ _ h => h) (Or.inl ⟨by kernel_rfl, ?_⟩) (by assumption) ?_
            rotate_left
            · intro wv hSw
              go_simp
              try with_reducible rfl
            simp only [Act.put, List.setIfInBounds_toArray, List.set_cons_zero, List.set_cons_succ, List.getElem_toArray, List.getElem_cons_succ, List.getElem_cons_zero]
            refine wpAnyH_done (by kernel_rfl) ?_ _
            refine NoPanic.normal ?_
            clear hHeld
            have HX := Lib.hid (show (JW w g cap k js zs WQ ∧ RB WQ B x.1 x.2) ∧ RB WQ bq (rAt js j).1 (maxN (rAt js j).2 x.2) from ⟨hp.out.1, hp.out.2⟩)
            clear hp HQ
            go_upto_region 9 with fail
            have HJ1 := Lib.hid HX.out.1.1
            have HB := Lib.hid HX.out.1.2
            clear HX
            generalize WQ = W1 at HJ1 HB ⊢
            have th := Lib.hid (fun o => (HJ1.out.alloc o).there (j + 1) (by omega))
            obtain ⟨⟨u, v, t0, t1⟩, f0, f1⟩ := HJ1.out.there (j + 1) (by omega)
            have t0' : ∀ o, (W1.alloc o).cell? ⟨g, (j + 1) * 2, none⟩ = some u := fun o => cell_keep t0 ((Below.refl _ _).alloc (Nat.le_refl _) o)
            have t1' : ∀ o, (W1.alloc o).cell? ⟨g, (j + 1) * 2 + 1, none⟩ = some v := fun o => cell_keep t1 ((Below.refl _ _).alloc (Nat.le_refl _) o)
            have f0' : ∀ o, (W1.alloc o).frozen? ⟨g, (j + 1) * 2, none⟩ = false := fun o => (th.out o).2.1
            have f1' : ∀ o, (W1.alloc o).frozen? ⟨g, (j + 1) * 2 + 1, none⟩ = false := fun o => (th.out o).2.2
            obtain ⟨b0, b1⟩ := HB.out.c
            have HN := Lib.hid (fun o => (HJ1.out.alloc o).push hg (by rw [HM.out]; omega) (by omega) x)
            clear t0 t1 f0 f1 HJ1 HB
            go_wp2_with fail
            clear t0' t1' f0' f1' b0 b1 th
            go_roundw
            case rel =>
              refine ⟨k + 1, by omega, by go_num, by rw [HST.out, HST2.out, List.length_append, HM.out]; simp, Lib.hid ?_⟩
              rw [HST.out, HST2.out]
              have h := HN.out (.cells #[.int .u64 (x.1 : Nat), .int .u64 (x.2 : Nat)] 25)
              unfold put2 at h
              rw [HM.out] at h
              simpa using h
            case measure => simp [intOf]; omega
    · obtain rfl : k = n := by omega
      go_wp2_with fail
      go_ret
      exact ⟨rfl, HJ.out⟩
end Go.Proofs.Ytaaflkjdcablcaa
