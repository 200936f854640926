/- The reference's one. -/
import Derived.Test.YtaaflkjdcablcaaRm
import Derived.Test.YtaaflkjdcablcaaOm
namespace Go.Proofs.Ytaaflkjdcablcaa
open Go.RowKit Go.Shelf
set_option linter.unusedVariables false
set_option linter.unusedSimpArgs false
attribute [local go_sem] Oper.semAt_some
/-- What the walk of one keeps: the row put out, the range in its box. -/
def OW (w : World) (n0 b : Nat) (out : List Rg) (r : Rg) (v : Value) (W : World) : Prop := W.ownsRow n0 25 2 v out.length (cellsR out) ∧ RB W b r.1 r.2 ∧ Below w.heap.size w W ∧ n0 ≤ W.heap.size
section
variable {w W W' : World} {n0 b : Nat} {out : List Rg} {r : Rg} {v : Value}
theorem own_not (h : W.ownsRow n0 25 2 v out.length (cellsR out)) (row : Option Nat) (hr : ∀ k, row = some k → k < n0) : v.ownBlock = none ∨ v.ownBlock ≠ row := by
  rcases h.2 with ⟨rfl, _⟩ | ⟨g, cap, cur, rfl, hg, _⟩
  · exact .inl rfl
  · refine .inr fun e => ?_
    have := hr g (by rw [← e]; rfl)
    omega
theorem OW.keep (h : OW w n0 b out r v W) (hb : Below W.heap.size W W') : OW w n0 b out r v W' :=
  ⟨h.1.kept (grown_below hb) (own_not h.1 none (fun k e => by cases e)), h.2.1.keep hb, h.2.2.1.trans (hb.mono h.2.2.1.size), Nat.le_trans h.2.2.2 hb.size⟩
theorem OW.alloc (h : OW w n0 b out r v W) (o : Obj) : OW w n0 b out r v (W.alloc o) := h.keep ((Below.refl _ _).alloc (Nat.le_refl _) o)
theorem OW.push (h : OW w n0 b out r v W) {o : Obj} {x : Rg} {v' : Value} {m : Nat} (hm : m = out.length + 1) (ho : W'.ownsRow n0 25 2 v' m (cellsR out ++ x.cs)) (hg : (W.alloc o).grownBy W' v.ownBlock) (hb : b < n0) (hw : w.heap.size ≤ n0) : OW w n0 b (out ++ [x]) r v' W' := by
  have hA := h.alloc o
  have hown : ∀ q, v.ownBlock = some q → n0 ≤ q := fun q e => by
    rcases h.1.2 with ⟨rfl, _⟩ | ⟨g, cap, cur, rfl, hg, _⟩
    · cases e
    · cases e; exact hg
  subst hm
  refine ⟨by rw [cellsR_snoc, List.length_append]; exact ho, ?_, hA.2.2.1.grown hg hA.2.2.1.size (fun q e => Nat.le_trans hw (hown q e)), Nat.le_trans hA.2.2.2 hg.size⟩
  exact (hg.block b (Array.getElem?_eq_some_iff.1 hA.2.1).1 (fun e => by have := hown b e.symm; omega)).trans hA.2.1
theorem grown_cell (W : World) (b j : Nat) (u : Value) : W.grownBy (W.setCell ⟨b, j, none⟩ u) (some b) := ⟨rfl, rfl, rfl, (KeepsWalks.setCell W _ u).size, fun k _ hk => Below.heap_setCell _ _ _ k (fun e => hk (by rw [e]))⟩
theorem OW.put (h : OW w n0 b out r v W) (hb : b < n0) (hw : w.heap.size ≤ b) (x y : Nat) : OW w n0 b out (x, y) v ((W.setCell ⟨b, 0, none⟩ (.int .u64 (x : Nat))).setCell ⟨b, 1, none⟩ (.int .u64 (y : Nat))) := by
  have hg := (grown_cell W b 0 (.int .u64 (x : Nat))).trans (grown_cell _ b 1 (.int .u64 (y : Nat)))
  exact ⟨h.1.kept hg (own_not h.1 (some b) (fun k e => by cases e; exact hb)), h.2.1.put x y, below_grown h.2.2.1 hg hw, Nat.le_trans h.2.2.2 hg.size⟩
theorem OW.sr (h : OW w n0 b out r v W) (hw : w.heap.size ≤ n0) : SR w out v W := ⟨orow_mono h.1 hw, h.2.2.1⟩
end
theorem apart_t {x y : Nat} (h : apartB x y = true) : x < y ∧ 1 < y - x := by
  unfold apartB at h
  simpa only [Bool.and_eq_true, decide_eq_true_eq] using h
theorem apart_f {x y : Nat} (h : apartB x y = false) : ¬ x < y ∨ (x < y ∧ ¬ 1 < y - x) := by
  unfold apartB at h
  simp only [Bool.and_eq_false_iff, decide_eq_false_iff_not] at h
  omega
theorem sub_wrap {x y : Nat} (hy : U y) (h : x < y) : IntKind.u64.wrap ((y : Int) - (x : Int)) = ((y - x : Nat) : Int) := by
  unfold U at hy
  rw [IntWalk.u64_in _ (by omega)]
  omega
set_option maxRecDepth 100000 in
set_option maxHeartbeats 16000000 in
theorem one_may (a : Option Addr) (cap : Nat) (js : List Rg) (ho : OkL js) (hj : rightL js = true) (hn : js.length ≤ 100000) (r0 : Rg) (hu : U r0.1 ∧ U r0.2) (hl : r0.1 ≤ r0.2) (w : World) (hR : RD w a js) :
    Calls Try.prog 37 #[.slice a js.length cap, .agg #[.int .u64 (r0.1 : Nat), .int .u64 (r0.2 : Nat)]] w fun e w' => ∃ v ns, e = .returned v ∧ SR w ns v w' ∧ OkL ns ∧ rightL ns = true ∧ (∀ x, hasL ns x = (hasL js x || inR x r0)) ∧ ns.length ≤ js.length + 1 := by
  obtain ⟨i0, hi, hz0, hz1, hz2⟩ := info_parts infoE25
  have HI0 := Lib.hid (And.intro hi (And.intro hz0 (And.intro hz1 hz2)))
  clear hi hz0 hz1 hz2
  have hb0 := (Below.refl w.heap.size w).alloc (Nat.le_refl _) (.cells #[.int .u64 (r0.1 : Nat), .int .u64 (r0.2 : Nat)] 25)
  have HS0 : Hid (OW w (w.heap.size + 1) w.heap.size [] r0 (.slice none 0 0) (w.alloc (.cells #[.int .u64 (r0.1 : Nat), .int .u64 (r0.2 : Nat)] 25))) := Lib.hid ⟨World.ownsRow_nil _ _ _ _, RB.new w r0.1 r0.2, hb0, by simp⟩
  have HI := Lib.hid (OneI.start js hu hl)
  have HR := Lib.hid hR
  have HO := Lib.hid (And.intro ho hj)
  have HM := Lib.hid (fun w => may_any r0.1 r0.2 w)
  rw [decide_eq_true hl] at HM
  clear hb0 hR ho hj hu hl
  obtain ⟨n, hln⟩ : ∃ n, js.length = n := ⟨_, rfl⟩
  have HL := Lib.hid hln
  rw [hln] at hn ⊢
  clear hln
  obtain ⟨n0, hn0⟩ : ∃ n0, w.heap.size + 1 = n0 := ⟨_, rfl⟩
  rw [hn0] at HS0
  have hbn : w.heap.size < n0 := by omega
  have hwn : w.heap.size ≤ n0 := by omega
  clear hn0
  generalize hB : w.heap.size = B at HS0 hbn
  have hwB : w.heap.size ≤ B := by omega
  go_enter Try.func37, Try.ntmps37
  go_upto_region 1 with fail
  generalize World.alloc w _ = W1 at HS0 ⊢
  obtain ⟨d0, d1⟩ := HS0.out.2.1.c
  go_wp2_with (first | (go_at_call 29; refine (HM.out _).mono ?_) | fail)
  rintro e W2 ⟨rfl, hb⟩
  have HS := Lib.hid (HS0.out.keep hb)
  clear hb HS0 d0 d1
  go_wp2_with fail
  go_loopw [5, 6, 7] (fun v d i W => ∃ (k : Nat) (out : List Rg) (dn : Bool) (r : Rg), k ≤ n ∧ d = .bool dn ∧ i = .int .i64 k ∧ Hid (OneI js r0 k out dn r) ∧ Hid (OW w n0 B out r v W)) (fun _ _ i _ => n - (intOf i).toNat)
  case atStart => exact ⟨0, [], false, r0, by omega, rfl, rfl, HI, HS⟩
  case round =>
    clear HI HS
    obtain ⟨k, out, dn, ⟨lo, hi⟩, hk, rfl, rfl, HI, HS⟩ := hrel
    by_cases hlt : k < n
    · have hlt' : k < js.length := by rw [HL.out]; exact hlt
      obtain ⟨b, off, ha, -, -⟩ := HR.out.keep HS.out.2.2.1 k hlt'
      subst ha
      obtain ⟨x, hx⟩ : ∃ x, rAt js k = x := ⟨_, rfl⟩
      obtain ⟨p, q⟩ := x
      have HX := Lib.hid hx
      have e0 : zl js k = p := congrArg Prod.fst hx
      have e1 : zh js k = q := congrArg Prod.snd hx
      obtain ⟨c0, c1⟩ := row_cells (HR.out.keep HS.out.2.2.1) hlt' e0 e1
      have hux := z_ok HO.out.1 hlt'
      rw [e0, e1] at hux
      have hur := HI.out.ur
      have holen : out.length ≤ n + 1 := by
        have := HI.out.len
        split at this <;> omega
      have HUU := Lib.hid (And.intro hux hur)
      clear e0 e1 hx hux hur
      go_upto_region 10 with fail
      have HS1 : Hid (OW w n0 B out (lo, hi) u5 (wr.alloc (.cells #[.int .u64 (p : Nat), .int .u64 (q : Nat)] 25)) ∧ RB (wr.alloc (.cells #[.int .u64 (p : Nat), .int .u64 (q : Nat)] 25)) wr.heap.size p q ∧ u5.ownBlock ≠ some wr.heap.size) := Lib.hid ⟨HS.out.alloc _, RB.new _ _ _, fun e => Nat.lt_irrefl _ (own_lt HS.out.1 _ e)⟩
      generalize World.alloc wr _ = W3 at HS1 ⊢
      generalize wr.heap.size = b8 at HS1 ⊢
      clear c0 c1 HS
      obtain ⟨e0, e1⟩ := HS1.out.2.1.c
      obtain ⟨d0, d1⟩ := HS1.out.1.2.1.c
      simp only at d0 d1
      cases hA : apartB q lo
      · have hbl : apartB hi p = true ∨ apartB hi p = false := by cases apartB hi p <;> simp
        rcases apart_f hA with h1 | ⟨h1, h2⟩
        · rcases hbl with hb | hb
          · obtain ⟨h3, h4⟩ := apart_t hb
            have hw2 := sub_wrap HUU.out.1.1 h3
            cases dn
            · go_wp2_with (first | (at_builtin; refine wpList_append_own _ rfl _ _ 22 rfl n0 25 i0 (.agg #[.int .u64 0, .int .u64 0]) 2 16 Try.underlying22 HI0.out.1 HI0.out.2.1 HI0.out.2.2.1 HI0.out.2.2.2 rfl (by decide) _ out.length (cellsR out) rfl (HS1.out.1.1.alloc _) ⟨_, 0, none⟩ 1 1 (Rg.cs (lo, hi)) rfl rfl (cells_new2 _ (lo, hi)) (ones_x _) (by unfold maxLen; omega) (by omega) (by have := HS1.out.1.2.2.2; simp; omega) ?_) | fail)
              intro v4 W4 hown hgr _
              have HS4 := Lib.hid (And.intro (HS1.out.1.push (x := (lo, hi)) rfl hown hgr hbn hwn) (app_far HS1.out.2.1 HS1.out.2.2 hgr))
              clear hown hgr e0 e1 d0 d1 HS1
              obtain ⟨e0, e1⟩ := HS4.out.2.c
              obtain ⟨d0, d1⟩ := HS4.out.1.2.1.c
              go_wp2_with (first | (at_builtin; refine wpList_append_own _ rfl _ _ 22 rfl n0 25 i0 (.agg #[.int .u64 0, .int .u64 0]) 2 16 Try.underlying22 HI0.out.1 HI0.out.2.1 HI0.out.2.2.1 HI0.out.2.2.2 rfl (by decide) _ ((out ++ [(lo, hi)])).length (cellsR ((out ++ [(lo, hi)]))) rfl (HS4.out.1.1.alloc _) ⟨_, 0, none⟩ 1 1 (Rg.cs (p, q)) rfl rfl (cells_new2 _ (p, q)) (ones_x _) (by unfold maxLen; first | omega | (simp only [List.length_append, List.length_singleton]; omega)) (by first | omega | (simp only [List.length_append, List.length_singleton]; omega)) (by have := HS4.out.1.2.2.2; simp; omega) ?_) | fail)
              intro v5 W5 hown hgr _
              have HS5 := Lib.hid (And.intro (HS4.out.1.push (x := (p, q)) (by simp) hown hgr hbn hwn) True.intro)
              clear hown hgr e0 e1 d0 d1 HS4
              go_wp2_with fail
              go_roundw
              case rel => exact ⟨k + 1, out ++ [(lo, hi)] ++ [(p, q)], true, (lo, hi), by omega, rfl, by go_num, Lib.hid (by have := HI.out.s2 HO.out.1 HO.out.2 hlt' (by rw [HX.out]; exact hb); rwa [HX.out] at this), Lib.hid HS5.out.1⟩
              case measure => simp [intOf]; omega
            · go_wp2_with (first | (at_builtin; refine wpList_append_own _ rfl _ _ 22 rfl n0 25 i0 (.agg #[.int .u64 0, .int .u64 0]) 2 16 Try.underlying22 HI0.out.1 HI0.out.2.1 HI0.out.2.2.1 HI0.out.2.2.2 rfl (by decide) _ (out).length (cellsR (out)) rfl (HS1.out.1.1.alloc _) ⟨_, 0, none⟩ 1 1 (Rg.cs (p, q)) rfl rfl (cells_new2 _ (p, q)) (ones_x _) (by unfold maxLen; first | omega | (simp only [List.length_append, List.length_singleton]; omega)) (by first | omega | (simp only [List.length_append, List.length_singleton]; omega)) (by have := HS1.out.1.2.2.2; simp; omega) ?_) | fail)
              intro v4 W4 hown hgr _
              have HS4 := Lib.hid (And.intro (HS1.out.1.push (x := (p, q)) (by simp) hown hgr hbn hwn) True.intro)
              clear hown hgr e0 e1 d0 d1 HS1
              go_wp2_with fail
              go_roundw
              case rel => exact ⟨k + 1, out ++ [(p, q)], true, (lo, hi), by omega, rfl, by go_num, Lib.hid (by have := HI.out.s2' HO.out.1 HO.out.2 hlt'; rwa [HX.out] at this), Lib.hid HS4.out.1⟩
              case measure => simp [intOf]; omega
          · have hdn : dn = false := by
              cases dn
              · rfl
              · have := (HI.out.dn HO.out.2 hlt').2
                rw [HX.out] at this
                rw [this] at hb
                cases hb
            subst hdn
            have HNX := Lib.hid (by have := HI.out.s3 HO.out.1 HO.out.2 hlt' (by rw [HX.out]; exact hA) (by rw [HX.out]; exact hb); rwa [HX.out] at this)
            have HS4 : Hid (OW w n0 B out (min lo p, max hi q) u5 ((W3.setCell ⟨B, 0, none⟩ (.int .u64 (min (lo : Int) (p : Int)))).setCell ⟨B, 1, none⟩ (.int .u64 (max (hi : Int) (q : Int))))) := Lib.hid (by
              have h := HS1.out.1.put hbn hwB (min lo p) (max hi q)
              rw [show ((min lo p : Nat) : Int) = min (lo : Int) (p : Int) from by omega, show ((max hi q : Nat) : Int) = max (hi : Int) (q : Int) from by omega] at h
              exact h)
            have f0 := HS1.out.1.2.1.f 0
            have f1 := HS1.out.1.2.1.f 1
            rcases apart_f hb with h3 | ⟨h3, h4⟩
            · go_wp2_with fail
              go_roundw
              case rel => exact ⟨k + 1, out, false, (min lo p, max hi q), by omega, rfl, by go_num, HNX, HS4⟩
              case measure => simp [intOf]; omega
            · have hw2 := sub_wrap HUU.out.1.1 h3
              go_wp2_with fail
              go_roundw
              case rel => exact ⟨k + 1, out, false, (min lo p, max hi q), by omega, rfl, by go_num, HNX, HS4⟩
              case measure => simp [intOf]; omega
        · have hw := sub_wrap HUU.out.2.1 h1
          rcases hbl with hb | hb
          · obtain ⟨h3, h4⟩ := apart_t hb
            have hw2 := sub_wrap HUU.out.1.1 h3
            cases dn
            · go_wp2_with (first | (at_builtin; refine wpList_append_own _ rfl _ _ 22 rfl n0 25 i0 (.agg #[.int .u64 0, .int .u64 0]) 2 16 Try.underlying22 HI0.out.1 HI0.out.2.1 HI0.out.2.2.1 HI0.out.2.2.2 rfl (by decide) _ out.length (cellsR out) rfl (HS1.out.1.1.alloc _) ⟨_, 0, none⟩ 1 1 (Rg.cs (lo, hi)) rfl rfl (cells_new2 _ (lo, hi)) (ones_x _) (by unfold maxLen; omega) (by omega) (by have := HS1.out.1.2.2.2; simp; omega) ?_) | fail)
              intro v4 W4 hown hgr _
              have HS4 := Lib.hid (And.intro (HS1.out.1.push (x := (lo, hi)) rfl hown hgr hbn hwn) (app_far HS1.out.2.1 HS1.out.2.2 hgr))
              clear hown hgr e0 e1 d0 d1 HS1
              obtain ⟨e0, e1⟩ := HS4.out.2.c
              obtain ⟨d0, d1⟩ := HS4.out.1.2.1.c
              go_wp2_with (first | (at_builtin; refine wpList_append_own _ rfl _ _ 22 rfl n0 25 i0 (.agg #[.int .u64 0, .int .u64 0]) 2 16 Try.underlying22 HI0.out.1 HI0.out.2.1 HI0.out.2.2.1 HI0.out.2.2.2 rfl (by decide) _ ((out ++ [(lo, hi)])).length (cellsR ((out ++ [(lo, hi)]))) rfl (HS4.out.1.1.alloc _) ⟨_, 0, none⟩ 1 1 (Rg.cs (p, q)) rfl rfl (cells_new2 _ (p, q)) (ones_x _) (by unfold maxLen; first | omega | (simp only [List.length_append, List.length_singleton]; omega)) (by first | omega | (simp only [List.length_append, List.length_singleton]; omega)) (by have := HS4.out.1.2.2.2; simp; omega) ?_) | fail)
              intro v5 W5 hown hgr _
              have HS5 := Lib.hid (And.intro (HS4.out.1.push (x := (p, q)) (by simp) hown hgr hbn hwn) True.intro)
              clear hown hgr e0 e1 d0 d1 HS4
              go_wp2_with fail
              go_roundw
              case rel => exact ⟨k + 1, out ++ [(lo, hi)] ++ [(p, q)], true, (lo, hi), by omega, rfl, by go_num, Lib.hid (by have := HI.out.s2 HO.out.1 HO.out.2 hlt' (by rw [HX.out]; exact hb); rwa [HX.out] at this), Lib.hid HS5.out.1⟩
              case measure => simp [intOf]; omega
            · go_wp2_with (first | (at_builtin; refine wpList_append_own _ rfl _ _ 22 rfl n0 25 i0 (.agg #[.int .u64 0, .int .u64 0]) 2 16 Try.underlying22 HI0.out.1 HI0.out.2.1 HI0.out.2.2.1 HI0.out.2.2.2 rfl (by decide) _ (out).length (cellsR (out)) rfl (HS1.out.1.1.alloc _) ⟨_, 0, none⟩ 1 1 (Rg.cs (p, q)) rfl rfl (cells_new2 _ (p, q)) (ones_x _) (by unfold maxLen; first | omega | (simp only [List.length_append, List.length_singleton]; omega)) (by first | omega | (simp only [List.length_append, List.length_singleton]; omega)) (by have := HS1.out.1.2.2.2; simp; omega) ?_) | fail)
              intro v4 W4 hown hgr _
              have HS4 := Lib.hid (And.intro (HS1.out.1.push (x := (p, q)) (by simp) hown hgr hbn hwn) True.intro)
              clear hown hgr e0 e1 d0 d1 HS1
              go_wp2_with fail
              go_roundw
              case rel => exact ⟨k + 1, out ++ [(p, q)], true, (lo, hi), by omega, rfl, by go_num, Lib.hid (by have := HI.out.s2' HO.out.1 HO.out.2 hlt'; rwa [HX.out] at this), Lib.hid HS4.out.1⟩
              case measure => simp [intOf]; omega
          · have hdn : dn = false := by
              cases dn
              · rfl
              · have := (HI.out.dn HO.out.2 hlt').2
                rw [HX.out] at this
                rw [this] at hb
                cases hb
            subst hdn
            have HNX := Lib.hid (by have := HI.out.s3 HO.out.1 HO.out.2 hlt' (by rw [HX.out]; exact hA) (by rw [HX.out]; exact hb); rwa [HX.out] at this)
            have HS4 : Hid (OW w n0 B out (min lo p, max hi q) u5 ((W3.setCell ⟨B, 0, none⟩ (.int .u64 (min (lo : Int) (p : Int)))).setCell ⟨B, 1, none⟩ (.int .u64 (max (hi : Int) (q : Int))))) := Lib.hid (by
              have h := HS1.out.1.put hbn hwB (min lo p) (max hi q)
              rw [show ((min lo p : Nat) : Int) = min (lo : Int) (p : Int) from by omega, show ((max hi q : Nat) : Int) = max (hi : Int) (q : Int) from by omega] at h
              exact h)
            have f0 := HS1.out.1.2.1.f 0
            have f1 := HS1.out.1.2.1.f 1
            rcases apart_f hb with h3 | ⟨h3, h4⟩
            · go_wp2_with fail
              go_roundw
              case rel => exact ⟨k + 1, out, false, (min lo p, max hi q), by omega, rfl, by go_num, HNX, HS4⟩
              case measure => simp [intOf]; omega
            · have hw2 := sub_wrap HUU.out.1.1 h3
              go_wp2_with fail
              go_roundw
              case rel => exact ⟨k + 1, out, false, (min lo p, max hi q), by omega, rfl, by go_num, HNX, HS4⟩
              case measure => simp [intOf]; omega
      · obtain ⟨h1, h2⟩ := apart_t hA
        have hw := sub_wrap HUU.out.2.1 h1
        cases dn
        · go_wp2_with (first | (at_builtin; refine wpList_append_own _ rfl _ _ 22 rfl n0 25 i0 (.agg #[.int .u64 0, .int .u64 0]) 2 16 Try.underlying22 HI0.out.1 HI0.out.2.1 HI0.out.2.2.1 HI0.out.2.2.2 rfl (by decide) _ (out).length (cellsR (out)) rfl (HS1.out.1.1.alloc _) ⟨_, 0, none⟩ 1 1 (Rg.cs (p, q)) rfl rfl (cells_new2 _ (p, q)) (ones_x _) (by unfold maxLen; first | omega | (simp only [List.length_append, List.length_singleton]; omega)) (by first | omega | (simp only [List.length_append, List.length_singleton]; omega)) (by have := HS1.out.1.2.2.2; simp; omega) ?_) | fail)
          intro v4 W4 hown hgr _
          have HS4 := Lib.hid (And.intro (HS1.out.1.push (x := (p, q)) (by simp) hown hgr hbn hwn) True.intro)
          clear hown hgr e0 e1 d0 d1 HS1
          go_wp2_with fail
          go_roundw
          case rel => exact ⟨k + 1, out ++ [(p, q)], false, (lo, hi), by omega, rfl, by go_num, Lib.hid (by have := HI.out.s1 HO.out.1 HO.out.2 hlt' (by rw [HX.out]; exact hA); rwa [HX.out] at this), Lib.hid HS4.out.1⟩
          case measure => simp [intOf]; omega
        · have := (HI.out.dn HO.out.2 hlt').1
          rw [HX.out] at this
          rw [this] at hA
          cases hA
    · obtain rfl : k = n := by omega
      cases dn
      · have HF := Lib.hid (by have := HI.out; rw [← HL.out] at this; exact this.fin)
        obtain ⟨d0, d1⟩ := HS.out.2.1.c
        simp only at d0 d1
        have HS1 := Lib.hid (And.intro HS.out True.intro)
        clear HS
        have holen : out.length ≤ k := by have := HI.out.len; simpa using this
        go_wp2_with (first | (at_builtin; refine wpList_append_own _ rfl _ _ 22 rfl n0 25 i0 (.agg #[.int .u64 0, .int .u64 0]) 2 16 Try.underlying22 HI0.out.1 HI0.out.2.1 HI0.out.2.2.1 HI0.out.2.2.2 rfl (by decide) _ (out).length (cellsR (out)) rfl (HS1.out.1.1.alloc _) ⟨_, 0, none⟩ 1 1 (Rg.cs (lo, hi)) rfl rfl (cells_new2 _ (lo, hi)) (ones_x _) (by unfold maxLen; first | omega | (simp only [List.length_append, List.length_singleton]; omega)) (by first | omega | (simp only [List.length_append, List.length_singleton]; omega)) (by have := HS1.out.1.2.2.2; simp; omega) ?_) | fail)
        intro v4 W4 hown hgr _
        have HS4 := Lib.hid (And.intro (HS1.out.1.push (x := (lo, hi)) (by simp) hown hgr hbn hwn) True.intro)
        clear hown hgr d0 d1 HS1
        go_wp2_with fail
        go_ret
        exact ⟨_, _, rfl, HS4.out.1.sr hwn, HF.out.1, HF.out.2.1, HF.out.2.2.1, by have := HF.out.2.2.2; rwa [HL.out] at this⟩
      · have HF := Lib.hid (by have := HI.out; rw [← HL.out] at this; exact this.fin')
        go_wp2_with fail
        go_ret
        exact ⟨_, _, rfl, HS.out.sr hwn, HF.out.1, HF.out.2.1, HF.out.2.2.1, by have := HF.out.2.2.2; rwa [HL.out] at this⟩
set_option maxRecDepth 100000 in
set_option maxHeartbeats 16000000 in
theorem one_not (a : Option Addr) (cap : Nat) (js : List Rg) (ho : OkL js) (hj : rightL js = true) (hn : js.length ≤ 100000) (r0 : Rg) (hl : ¬ r0.1 ≤ r0.2) (hcap : a = none → cap = 0) (w : World) (hR : RD w a js) :
    Calls Try.prog 37 #[.slice a js.length cap, .agg #[.int .u64 (r0.1 : Nat), .int .u64 (r0.2 : Nat)]] w fun e w' => ∃ v ns, e = .returned v ∧ SR w ns v w' ∧ OkL ns ∧ rightL ns = true ∧ (∀ x, hasL ns x = (hasL js x || inR x r0)) ∧ ns.length ≤ js.length + 1 := by
  obtain ⟨i0, hi, hz0, hz1, hz2⟩ := info_parts infoE25
  have HI0 := Lib.hid (And.intro hi (And.intro hz0 (And.intro hz1 hz2)))
  clear hi hz0 hz1 hz2
  have hb0 := (Below.refl w.heap.size w).alloc (Nat.le_refl _) (.cells #[.int .u64 (r0.1 : Nat), .int .u64 (r0.2 : Nat)] 25)
  have HS0 : Hid (RB (w.alloc (.cells #[.int .u64 (r0.1 : Nat), .int .u64 (r0.2 : Nat)] 25)) w.heap.size r0.1 r0.2 ∧ Below w.heap.size w (w.alloc (.cells #[.int .u64 (r0.1 : Nat), .int .u64 (r0.2 : Nat)] 25))) := Lib.hid ⟨RB.new w r0.1 r0.2, hb0⟩
  have HM := Lib.hid (fun w => may_any r0.1 r0.2 w)
  rw [decide_eq_false hl] at HM
  have HFN : Hid (OkL js ∧ rightL js = true ∧ (∀ x, hasL js x = (hasL js x || inR x r0)) ∧ js.length ≤ js.length + 1) := Lib.hid ⟨ho, hj, fun x => by rw [show inR x r0 = false from not_in hl, Bool.or_false], by omega⟩
  clear hb0 ho hj hl
  cases a with
  | none =>
    obtain rfl := hR.none
    obtain rfl := hcap rfl
    clear hR hcap
    generalize hB : w.heap.size = B at HS0
    go_enter Try.func37, Try.ntmps37
    go_upto_region 1 with fail
    generalize World.alloc w _ = W1 at HS0 ⊢
    obtain ⟨d0, d1⟩ := HS0.out.1.c
    go_wp2_with (first | (go_at_call 29; refine (HM.out _).mono ?_) | fail)
    rintro e W2 ⟨rfl, hb⟩
    have HB : Hid (Below w.heap.size w W2) := Lib.hid (by rw [hB]; exact HS0.out.2.trans (hb.mono (by rw [← hB]; have := HS0.out.2.size; omega)))
    clear hb HS0 d0 d1
    have HN0 : Hid (SR w [] (.slice (some ⟨W2.heap.size, 0, none⟩) 0 0) (W2.alloc (.cells #[] 25))) := Lib.hid ⟨⟨rfl, .inr ⟨W2.heap.size, 0, #[], rfl, HB.out.size, heap_alloc_last W2 _, Nat.le_refl _, by unfold maxLen; omega, rfl, rfl⟩⟩, HB.out.alloc HB.out.size _⟩
    go_wp2_with fail
    go_ret
    exact ⟨_, _, rfl, HN0.out, HFN.out⟩
  | some p =>
    have HR := Lib.hid (fun W (hb : Below w.heap.size w W) => (hR.keep hb).news)
    clear hR hcap
    obtain ⟨n, hln⟩ : ∃ n, js.length = n := ⟨_, rfl⟩
    have HL := Lib.hid hln
    have hcl := cellsR_len js
    rw [hln] at hn HFN hcl ⊢
    have HCL := Lib.hid hcl
    clear hln hcl
    generalize hB : w.heap.size = B at HS0
    go_enter Try.func37, Try.ntmps37
    go_upto_region 1 with fail
    generalize World.alloc w _ = W1 at HS0 ⊢
    obtain ⟨d0, d1⟩ := HS0.out.1.c
    go_wp2_with (first | (go_at_call 29; refine (HM.out _).mono ?_) | fail)
    rintro e W2 ⟨rfl, hb⟩
    have HB : Hid (Below w.heap.size w W2) := Lib.hid (by rw [hB]; exact HS0.out.2.trans (hb.mono (by rw [← hB]; have := HS0.out.2.size; omega)))
    clear hb HS0 d0 d1
    have HN0 : Hid (SR w [] (.slice (some ⟨W2.heap.size, 0, none⟩) 0 0) (W2.alloc (.cells #[] 25))) := Lib.hid ⟨⟨rfl, .inr ⟨W2.heap.size, 0, #[], rfl, HB.out.size, heap_alloc_last W2 _, Nat.le_refl _, by unfold maxLen; omega, rfl, rfl⟩⟩, HB.out.alloc HB.out.size _⟩
    go_wp2_with (first | (at_builtin; refine wpList_append_own _ rfl _ _ 22 rfl w.heap.size 25 i0 (.agg #[.int .u64 0, .int .u64 0]) 2 16 Try.underlying22 HI0.out.1 HI0.out.2.1 HI0.out.2.2.1 HI0.out.2.2.2 rfl (by decide) _ 0 [] rfl HN0.out.1 p n cap (cellsR js) rfl HCL.out (HR.out _ HN0.out.2) (ones_R _) (by unfold maxLen; omega) (by omega) HN0.out.2.size ?_) | fail)
    intro v5 W5 hown hgr _
    have HS5 : Hid (SR w ([] ++ js) v5 W5) := Lib.hid (SR.nextL (L := []) (M := js) HN0.out (by have := hown; rw [← HL.out, ← hB] at this; simpa [cellsR] using this) hgr)
    clear hown hgr
    go_wp2_with fail
    go_ret
    exact ⟨_, js, rfl, by simpa using HS5.out, HFN.out.1, HFN.out.2.1, HFN.out.2.2.1, by have := HL.out; omega⟩
theorem one_any (a : Option Addr) (cap : Nat) (js : List Rg) (ho : OkL js) (hj : rightL js = true) (hn : js.length ≤ 100000) (r0 : Rg) (hu : U r0.1 ∧ U r0.2) (hcap : a = none → cap = 0) (w : World) (hR : RD w a js) :
    Calls Try.prog 37 #[.slice a js.length cap, .agg #[.int .u64 (r0.1 : Nat), .int .u64 (r0.2 : Nat)]] w fun e w' => ∃ v ns, e = .returned v ∧ SR w ns v w' ∧ OkL ns ∧ rightL ns = true ∧ (∀ x, hasL ns x = (hasL js x || inR x r0)) ∧ ns.length ≤ js.length + 1 := by
  by_cases hl : r0.1 ≤ r0.2
  · exact one_may a cap js ho hj hn r0 hu hl w hR
  · exact one_not a cap js ho hj hn r0 hl hcap w hR
end Go.Proofs.Ytaaflkjdcablcaa
