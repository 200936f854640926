/- The reference's Sub, In. -/
import Derived.Test.YtaaflkjdcablcaaNr
import Derived.Test.YtaaflkjdcablcaaOa
namespace Go.Proofs.Ytaaflkjdcablcaa
open Go.RowKit Go.Shelf
set_option linter.unusedVariables false
set_option linter.unusedSimpArgs false
attribute [local go_sem] Oper.semAt_some
theorem ref_right {zs ns : List Rg} {lo hi : Nat} (h : ¬ lo ≤ hi) (h1 : ∀ x, hasL ns x = hasL zs x) : ∀ x, hasL ns x = (hasL zs x && !(decide (lo ≤ x) && decide (x ≤ hi))) := fun x => by
  rw [h1, not_in h]
  simp
set_option maxRecDepth 100000 in
set_option maxHeartbeats 16000000 in
theorem q16 (w : World) (a : Option Addr) (n cap : Nat) (zs : List Rg) (lo hi : Nat) (hlu : U lo) (hhu : U hi) (hk2 : n ≤ 500) (h : RW w a n cap zs) : Calls Try.prog 16 #[.slice a n cap, .agg #[.int .u64 (lo : Nat), .int .u64 (hi : Nat)]] w (TellsRow w (fun ns => ∀ x, hasL ns x = (hasL zs x && !(decide (lo ≤ x) && decide (x ≤ hi)))) (2 * n)) := by
  obtain ⟨i0, hi1, hz0, hz1, hz2⟩ := info_parts infoE25
  have HI0 := Lib.hid (And.intro hi1 (And.intro hz0 (And.intro hz1 hz2)))
  clear hi1 hz0 hz1 hz2
  have hb0 := (Below.refl w.heap.size w).alloc (Nat.le_refl _) (.cells #[.int .u64 (lo : Nat), .int .u64 (hi : Nat)] 25)
  have HS0 : Hid (RB (w.alloc (.cells #[.int .u64 (lo : Nat), .int .u64 (hi : Nat)] 25)) w.heap.size lo hi ∧ Below w.heap.size w (w.alloc (.cells #[.int .u64 (lo : Nat), .int .u64 (hi : Nat)] 25)) ∧ RW (w.alloc (.cells #[.int .u64 (lo : Nat), .int .u64 (hi : Nat)] 25)) a n cap zs) := Lib.hid ⟨RB.new w lo hi, hb0, h.keep hb0⟩
  have HM := Lib.hid (fun w => may_any lo hi w)
  have HU := Lib.hid (And.intro hlu hhu)
  have HZL := Lib.hid h.1
  clear hb0 hlu hhu h
  generalize hB : w.heap.size = B at HS0
  go_enter Try.func16, Try.ntmps16
  go_upto_region 1 with fail
  generalize World.alloc w _ = W1 at HS0 ⊢
  go_wp2_with (first | (go_at_call 12; refine (q12 _ _ _ _ zs HS0.out.2.2).mono ?_) | fail)
  rintro e W2 ⟨a3, k3, cap3, js, rfl, hg, hk3, hr, hp, hb⟩
  have HG := Lib.hid (And.intro hg (And.intro hr (And.intro hp hk3)))
  have HB := Lib.hid (And.intro (HS0.out.1.keep hb) (show Below w.heap.size w W2 from by rw [hB]; exact HS0.out.2.1.trans (hb.mono (by rw [← hB]; have := HS0.out.2.1.size; omega))))
  clear hg hr hp hb HS0
  obtain ⟨d0, d1⟩ := HB.out.1.c
  by_cases hle : lo ≤ hi
  · rw [decide_eq_true hle] at HM
    go_wp2_with (first | (go_at_call 29; refine (HM.out _).mono ?_) | fail)
    rintro e W5 ⟨rfl, hb⟩
    have HG5 := Lib.hid (HG.out.1.keep hb)
    have HB5 := Lib.hid (And.intro (HB.out.1.keep hb) (HB.out.2.trans (hb.mono HB.out.2.size)))
    have HE0 : Hid (SR W5 (subL lo hi (js.take 0)) (.slice none 0 0) W5) := Lib.hid (by rw [show subL lo hi (js.take 0) = [] from by simp [subL]]; exact SR.nil W5 W5 (Below.refl _ _))
    clear hb d0 d1
    go_wp2_with fail
    go_loopw [5, 6] (fun v i W => ∃ k : Nat, k ≤ k3 ∧ i = .int .i64 k ∧ Hid (SR W5 (subL lo hi (js.take k)) v W)) (fun _ i _ => k3 - (intOf i).toNat)
    case atStart => exact ⟨0, by omega, rfl, HE0⟩
    case round =>
      clear HE0
      obtain ⟨k, hk, rfl, HS⟩ := hrel
      by_cases hlt : k < k3
      · have hlt' : k < js.length := by rw [HG.out.1.1]; exact hlt
        obtain ⟨b, off, ha, -, -⟩ := HG5.out.2.1.keep HS.out.2 k hlt'
        subst ha
        obtain ⟨x, hx⟩ : ∃ x, rAt js k = x := ⟨_, rfl⟩
        obtain ⟨p, q⟩ := x
        have e0 : zl js k = p := congrArg Prod.fst hx
        have e1 : zh js k = q := congrArg Prod.snd hx
        obtain ⟨c0, c1⟩ := row_cells (HG5.out.2.1.keep HS.out.2) hlt' e0 e1
        have hsn : subL lo hi (js.take (k + 1)) = subL lo hi (js.take k) ++ subR lo hi (p, q) := by rw [take_succ' js k hlt', subL_snoc, hx]
        have HSN := Lib.hid hsn
        have hsub : subR lo hi (p, q) = if q < lo ∨ hi < p then [(p, q)] else (if p < lo then [(p, lo - 1)] else []) ++ (if hi < q then [((hi + 1) % 18446744073709551616, q)] else []) := rfl
        have HSB := Lib.hid hsub
        have hlen : (subL lo hi (js.take k)).length ≤ k * 2 := by
          have h1 := subL_len lo hi (js.take k)
          rw [List.length_take] at h1
          omega
        have hk31 : k3 ≤ 1000 := HG.out.1.2.2.1
        clear e0 e1 hx hsn hsub
        generalize subL lo hi (js.take k) = L at *
        go_upto_region 9 with fail
        have HS1 : Hid (SR W5 L u5 (wr.alloc (.cells #[.int .u64 (p : Nat), .int .u64 (q : Nat)] 25)) ∧ RB (wr.alloc (.cells #[.int .u64 (p : Nat), .int .u64 (q : Nat)] 25)) wr.heap.size p q ∧ u5.ownBlock ≠ some wr.heap.size) := Lib.hid ⟨HS.out.alloc _, RB.new _ _ _, fun e => Nat.lt_irrefl _ (own_lt HS.out.1 _ e)⟩
        generalize World.alloc wr _ = W3 at HS1 ⊢
        generalize wr.heap.size = b8 at HS1 ⊢
        clear c0 c1 HS
        obtain ⟨e0, e1⟩ := HS1.out.2.1.c
        obtain ⟨d0, d1⟩ := (HB5.out.1.keep HS1.out.1.2).c
        have hwl : IntKind.u64.wrap ((lo : Int) - 1) = ((lo - 1 : Nat) : Int) ∨ lo = 0 := by
          by_cases h0 : lo = 0
          · exact .inr h0
          · left
            rw [IntWalk.u64_in _ (by have := HU.out.1; unfold U at this; omega)]
            omega
        have hwh := hi_wrap hi
        obtain ⟨H, hH⟩ : ∃ H : Nat, (hi + 1) % 18446744073709551616 = H := ⟨_, rfl⟩
        rw [hH] at hwh HSB
        clear hH
        by_cases h1 : q < lo
        · go_wp2_with (first | (at_builtin; refine wpList_append_own _ rfl _ _ 22 rfl W5.heap.size 25 i0 (.agg #[.int .u64 0, .int .u64 0]) 2 16 Try.underlying22 HI0.out.1 HI0.out.2.1 HI0.out.2.2.1 HI0.out.2.2.2 rfl (by decide) _ (L).length (cellsR (L)) rfl (HS1.out.1.1.alloc _) ⟨_, 0, none⟩ 1 1 (Rg.cs (p, q)) rfl rfl (cells_new2 _ (p, q)) (ones_x _) (by unfold maxLen; first | omega | (simp only [List.length_append, List.length_singleton]; omega)) (by first | omega | (simp only [List.length_append, List.length_singleton]; omega)) (by have := HS1.out.1.2.size; simp; omega) ?_) | fail)
          intro v4 W4 hown hgr _
          have HS4 := Lib.hid (And.intro (SR.next (x := (p, q)) HS1.out.1 (by first | exact hown | (simpa [List.length_append] using hown)) hgr) True.intro)
          clear hown hgr e0 e1 d0 d1 HS1
          go_wp2_with fail
          go_roundw
          case rel => exact ⟨k + 1, by omega, by go_num, Lib.hid (by rw [HSN.out, HSB.out, if_pos (Or.inl h1)]; simpa [List.append_assoc] using HS4.out.1)⟩
          case measure => simp [intOf]; omega
        by_cases h2 : hi < p
        · go_wp2_with (first | (at_builtin; refine wpList_append_own _ rfl _ _ 22 rfl W5.heap.size 25 i0 (.agg #[.int .u64 0, .int .u64 0]) 2 16 Try.underlying22 HI0.out.1 HI0.out.2.1 HI0.out.2.2.1 HI0.out.2.2.2 rfl (by decide) _ (L).length (cellsR (L)) rfl (HS1.out.1.1.alloc _) ⟨_, 0, none⟩ 1 1 (Rg.cs (p, q)) rfl rfl (cells_new2 _ (p, q)) (ones_x _) (by unfold maxLen; first | omega | (simp only [List.length_append, List.length_singleton]; omega)) (by first | omega | (simp only [List.length_append, List.length_singleton]; omega)) (by have := HS1.out.1.2.size; simp; omega) ?_) | fail)
          intro v4 W4 hown hgr _
          have HS4 := Lib.hid (And.intro (SR.next (x := (p, q)) HS1.out.1 (by first | exact hown | (simpa [List.length_append] using hown)) hgr) True.intro)
          clear hown hgr e0 e1 d0 d1 HS1
          go_wp2_with fail
          go_roundw
          case rel => exact ⟨k + 1, by omega, by go_num, Lib.hid (by rw [HSN.out, HSB.out, if_pos (Or.inr h2)]; simpa [List.append_assoc] using HS4.out.1)⟩
          case measure => simp [intOf]; omega
        have h12 : ¬ (q < lo ∨ hi < p) := by omega
        by_cases h3 : p < lo
        · replace hwl : IntKind.u64.wrap ((lo : Int) - 1) = ((lo - 1 : Nat) : Int) := hwl.resolve_right (by omega)
          by_cases h4 : hi < q
          · go_wp2_with (first | (at_builtin; refine wpList_append_own _ rfl _ _ 22 rfl W5.heap.size 25 i0 (.agg #[.int .u64 0, .int .u64 0]) 2 16 Try.underlying22 HI0.out.1 HI0.out.2.1 HI0.out.2.2.1 HI0.out.2.2.2 rfl (by decide) _ (L).length (cellsR (L)) rfl (HS1.out.1.1.alloc _) ⟨_, 0, none⟩ 1 1 (Rg.cs (p, lo - 1)) rfl rfl (cells_new2 _ (p, lo - 1)) (ones_x _) (by unfold maxLen; first | omega | (simp only [List.length_append, List.length_singleton]; omega)) (by first | omega | (simp only [List.length_append, List.length_singleton]; omega)) (by have := HS1.out.1.2.size; simp; omega) ?_) | fail)
            intro v4 W4 hown hgr _
            have HS4 := Lib.hid (And.intro (SR.next (x := (p, lo - 1)) HS1.out.1 (by first | exact hown | (simpa [List.length_append] using hown)) hgr) (And.intro (app_far HS1.out.2.1 HS1.out.2.2 hgr) True.intro))
            clear hown hgr e0 e1 d0 d1 HS1
            obtain ⟨e0, e1⟩ := HS4.out.2.1.c
            obtain ⟨d0, d1⟩ := (HB5.out.1.keep HS4.out.1.2).c
            go_wp2_with (first | (at_builtin; refine wpList_append_own _ rfl _ _ 22 rfl W5.heap.size 25 i0 (.agg #[.int .u64 0, .int .u64 0]) 2 16 Try.underlying22 HI0.out.1 HI0.out.2.1 HI0.out.2.2.1 HI0.out.2.2.2 rfl (by decide) _ ((L ++ [(p, lo - 1)])).length (cellsR ((L ++ [(p, lo - 1)]))) rfl (HS4.out.1.1.alloc _) ⟨_, 0, none⟩ 1 1 (Rg.cs (H, q)) rfl rfl (cells_new2 _ (H, q)) (ones_x _) (by unfold maxLen; first | omega | (simp only [List.length_append, List.length_singleton]; omega)) (by first | omega | (simp only [List.length_append, List.length_singleton]; omega)) (by have := HS4.out.1.2.size; simp; omega) ?_) | fail)
            intro v6 W6 hown hgr _
            have HS6 := Lib.hid (And.intro (SR.next (x := (H, q)) HS4.out.1 (by first | exact hown | (simpa [List.length_append] using hown)) hgr) True.intro)
            clear hown hgr e0 e1 d0 d1 HS4
            go_wp2_with fail
            go_roundw
            case rel => exact ⟨k + 1, by omega, by go_num, Lib.hid (by rw [HSN.out, HSB.out, if_neg h12, if_pos h3, if_pos h4]; simpa [List.append_assoc] using HS6.out.1)⟩
            case measure => simp [intOf]; omega
          · go_wp2_with (first | (at_builtin; refine wpList_append_own _ rfl _ _ 22 rfl W5.heap.size 25 i0 (.agg #[.int .u64 0, .int .u64 0]) 2 16 Try.underlying22 HI0.out.1 HI0.out.2.1 HI0.out.2.2.1 HI0.out.2.2.2 rfl (by decide) _ (L).length (cellsR (L)) rfl (HS1.out.1.1.alloc _) ⟨_, 0, none⟩ 1 1 (Rg.cs (p, lo - 1)) rfl rfl (cells_new2 _ (p, lo - 1)) (ones_x _) (by unfold maxLen; first | omega | (simp only [List.length_append, List.length_singleton]; omega)) (by first | omega | (simp only [List.length_append, List.length_singleton]; omega)) (by have := HS1.out.1.2.size; simp; omega) ?_) | fail)
            intro v4 W4 hown hgr _
            have HS4 := Lib.hid (And.intro (SR.next (x := (p, lo - 1)) HS1.out.1 (by first | exact hown | (simpa [List.length_append] using hown)) hgr) (And.intro (app_far HS1.out.2.1 HS1.out.2.2 hgr) True.intro))
            clear hown hgr e0 e1 d0 d1 HS1
            obtain ⟨e0, e1⟩ := HS4.out.2.1.c
            obtain ⟨d0, d1⟩ := (HB5.out.1.keep HS4.out.1.2).c
            go_wp2_with fail
            go_roundw
            case rel => exact ⟨k + 1, by omega, by go_num, Lib.hid (by rw [HSN.out, HSB.out, if_neg h12, if_pos h3, if_neg h4]; simpa [List.append_assoc] using HS4.out.1)⟩
            case measure => simp [intOf]; omega
        · by_cases h4 : hi < q
          · go_wp2_with (first | (at_builtin; refine wpList_append_own _ rfl _ _ 22 rfl W5.heap.size 25 i0 (.agg #[.int .u64 0, .int .u64 0]) 2 16 Try.underlying22 HI0.out.1 HI0.out.2.1 HI0.out.2.2.1 HI0.out.2.2.2 rfl (by decide) _ (L).length (cellsR (L)) rfl (HS1.out.1.1.alloc _) ⟨_, 0, none⟩ 1 1 (Rg.cs (H, q)) rfl rfl (cells_new2 _ (H, q)) (ones_x _) (by unfold maxLen; first | omega | (simp only [List.length_append, List.length_singleton]; omega)) (by first | omega | (simp only [List.length_append, List.length_singleton]; omega)) (by have := HS1.out.1.2.size; simp; omega) ?_) | fail)
            intro v4 W4 hown hgr _
            have HS4 := Lib.hid (And.intro (SR.next (x := (H, q)) HS1.out.1 (by first | exact hown | (simpa [List.length_append] using hown)) hgr) True.intro)
            clear hown hgr e0 e1 d0 d1 HS1
            go_wp2_with fail
            go_roundw
            case rel => exact ⟨k + 1, by omega, by go_num, Lib.hid (by rw [HSN.out, HSB.out, if_neg h12, if_neg h3, if_pos h4]; simpa [List.append_assoc] using HS4.out.1)⟩
            case measure => simp [intOf]; omega
          · go_wp2_with fail
            go_roundw
            case rel => exact ⟨k + 1, by omega, by go_num, Lib.hid (by rw [HSN.out, HSB.out, if_neg h12, if_neg h3, if_neg h4]; simpa [List.append_assoc] using HS1.out.1)⟩
            case measure => simp [intOf]; omega
      · obtain rfl : k = k3 := by omega
        have hso : SubOf lo hi zs (subL lo hi js) := ⟨js, ⟨HG.out.2.1, HG.out.1.2.2.2.1, HG.out.2.2.1, by have := HZL.out; have := HG.out.1.1; have := HG.out.2.2.2; omega⟩, rfl⟩
        have HO := Lib.hid (And.intro (sub_okl HU.out.1 HU.out.2 (by have := HZL.out; omega) hso) (And.intro (sub_good hle hso) (subL_len lo hi js)))
        have HFS := Lib.hid (show SR W5 (subL lo hi js) u5 wr from by have := HS.out; rwa [← HG.out.1.1, List.take_length] at this)
        clear hso
        go_wp2_with fail
        go_ret
        obtain ⟨a9, cap9, he, hr9, hc9⟩ := HFS.out.rdc
        refine ⟨a9, _, cap9, subL lo hi js, by rw [← he]; rfl, ⟨rfl, hr9, ?_, HO.out.1.1, hc9⟩, ?_, HO.out.2.1.1, HO.out.2.1.2, HB5.out.2.trans (HFS.out.2.mono HB5.out.2.size)⟩
        · have h1 := HO.out.2.2; have h2 := HG.out.1.1; have h3 := HG.out.2.2.2; omega
        · have h1 := HO.out.2.2; have h2 := HG.out.1.1; have h3 := HG.out.2.2.2; omega
  · rw [decide_eq_false hle] at HM
    go_wp2_with (first | (go_at_call 29; refine (HM.out _).mono ?_) | fail)
    rintro e W5 ⟨rfl, hb⟩
    have HF : Hid (TellsRow w (fun ns => ∀ x, hasL ns x = (hasL zs x && !(decide (lo ≤ x) && decide (x ≤ hi)))) (2 * n) (.returned (.slice a3 k3 cap3)) W5) := Lib.hid ⟨a3, k3, cap3, js, rfl, HG.out.1.keep hb, by have := HG.out.2.2.2; omega, HG.out.2.1, ref_right hle HG.out.2.2.1, HB.out.2.trans (hb.mono HB.out.2.size)⟩
    clear hb d0 d1
    go_wp2_with fail
    go_ret
    exact HF.out
theorem q22 (W : World) (a : Option Addr) (k cap : Nat) (xs : List Rg) (a2 : Option Addr) (k2 cap2 : Nat) (ys : List Rg) (t : Bool) (ht : subB xs ys t) (hs : k + k2 ≤ 1000) (h : RW W a k cap xs) (h2 : RW W a2 k2 cap2 ys) : Calls Try.prog 22 #[.slice a k cap, .slice a2 k2 cap2] W fun e w' => e = .returned (.bool t) ∧ Below W.heap.size W w' := by
  have H1 := Lib.hid (q14 18 (Or.inr rfl) W a k cap xs a2 k2 cap2 ys h h2 hs)
  have H2 := Lib.hid h2
  have HT := Lib.hid ht
  clear ht h h2
  go_enter Try.func22, Try.ntmps22
  go_wp2_with (first | (go_at_call 18; refine H1.out.mono ?_) | fail)
  rintro e W1 ⟨a3, k3, cap3, js, rfl, hg, hk3, hr, hp, hb⟩
  have HG := Lib.hid (And.intro hg (And.intro hr (And.intro hp (And.intro (H2.out.keep hb) hb))))
  clear hg hr hp hb
  go_wp2_with (first | (go_at_call 12; refine (q12 _ _ _ _ ys HG.out.2.2.2.1).mono ?_) | fail)
  rintro e W2 ⟨a4, k4, cap4, ns, rfl, hg, hk4, hr, hp, hb⟩
  have HN := Lib.hid (And.intro hg (And.intro hr (And.intro hp (And.intro (HG.out.1.keep hb) (HG.out.2.2.2.2.trans (hb.mono HG.out.2.2.2.2.size))))))
  clear hg hr hp hb
  have HSM := Lib.hid (rsame_any a3 cap3 js HG.out.1.2.2.2.1 (by have := HG.out.1.1; have := HG.out.1.2.2.1; omega) a4 cap4 ns HN.out.1.2.2.2.1 W2 HN.out.2.2.2.1.2.1 HN.out.1.2.1)
  rw [HG.out.1.1, HN.out.1.1, sub_join HT.out HG.out.2.1 HN.out.2.1 HG.out.2.2.1 HN.out.2.2.1] at HSM
  go_wp2_with (first | (go_at_call 30; refine HSM.out.mono ?_) | fail)
  rintro e W3 ⟨rfl, hb⟩
  have HF := Lib.hid (HN.out.2.2.2.2.trans (hb.mono HN.out.2.2.2.2.size))
  clear hb
  go_wp2_with fail
  go_ret
  exact ⟨rfl, HF.out⟩
end Go.Proofs.Ytaaflkjdcablcaa
