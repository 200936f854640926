/- The reference's Functions. -/
import Derived.Test.YtegbhjmghkbgmaaSp
import Derived.Laws.AppendOwnNone
import Derived.Deep.DeepBigQuietO
namespace Go.Proofs.Ytegbhjmghkbgmaa
open Go.RowKit Go.Shelf
set_option linter.unusedVariables false
set_option linter.unusedSimpArgs false
attribute [local go_sem] Oper.semAt_some
theorem own_keep {W W' : World} {n0 : Nat} {ty : TypeId} {sz k : Nat} {v : Value} {L : List Value} (h : W.ownsRow n0 ty sz v k L) (hb : Below W.heap.size W W') : W'.ownsRow n0 ty sz v k L := by
  refine ⟨h.1, ?_⟩
  rcases h.2 with ⟨hv, hn⟩ | ⟨g, cap, cur, hv, hg, hh, h2⟩
  · exact .inl ⟨hv, hn⟩
  · exact .inr ⟨g, cap, cur, hv, hg, (hb.block g (Array.getElem?_eq_some_iff.1 hh).1).trans hh, h2⟩
theorem own_emptyY {V W0 : World} (hg : W0.heap.size ≤ V.heap.size) : (V.alloc (.cells #[] 42)).ownsRow W0.heap.size 42 4 (.slice (some ⟨V.heap.size, 0, none⟩) 0 0) 0 (cellsY []) := ⟨rfl, .inr ⟨V.heap.size, 0, #[], rfl, hg, heap_alloc_last V _, Nat.le_refl _, by decide, rfl, rfl⟩⟩
theorem own_lt {W : World} {n0 g : Nat} {ty : TypeId} {sz k n c : Nat} {L : List Value} (h : W.ownsRow n0 ty sz (.slice (some ⟨g, 0, none⟩) n c) k L) : g < W.heap.size := by
  rcases h.2 with ⟨hv, _⟩ | ⟨g', cap, cur, hv, hg, hh, h2⟩
  · cases hv
  · cases hv
    exact (Array.getElem?_eq_some_iff.1 hh).1
theorem yb_grown {W W' : World} {b g n c : Nat} {s : Sy} (h : YB W b s) (hg : W.grownBy W' (Value.slice (some ⟨g, 0, none⟩) n c).ownBlock) (hne : b ≠ g) : YB W' b s := (hg.block b (Array.getElem?_eq_some_iff.1 h).1 (fun e => hne (Option.some.inj e))).trans h
theorem src_one {W : World} {b : Nat} {s : Sy} (h : YB W b s) : ∀ j u, (cellsY [s])[j]? = some u → W.cell? ((⟨b, 0, none⟩ : Addr).add j) = some u := by
  intro j u hu
  rw [Addr.add_lit, Nat.zero_add]
  exact cell_at h (by simpa [cellsY] using hu)
def SrcY (W : World) (a3 : Option Addr) (n3 c3 : Nat) (M : List Sy) : Prop := (a3 = none ∧ n3 = 0 ∧ c3 = 0 ∧ M = []) ∨ ∃ ad, a3 = some ad ∧ M.length = n3 ∧ ∀ j u, (cellsY M)[j]? = some u → W.cell? (ad.add j) = some u
theorem one_cells (M : List Sy) : ∀ u ∈ cellsY M, u.oneCell' = true := by
  intro u hu
  unfold cellsY at hu
  obtain ⟨x, _, hx⟩ := List.mem_flatMap.1 hu
  exact ones_y x u hx
/-- append of symbols to a row of one's own. -/
theorem wp_app_syms {o : Oper} {a : Act} {W : World} {K : Act → World → Prop} {Q : Exit → Act → World → Prop} {x y : Operand} {base n n3 c3 : Nat} {v : Value} {xs : List Value} {a3 : Option Addr} {M : List Sy}
    (ho : o.op = .call { callee := .builtin .append, args := #[x, y], argTypes := #[36, 36] }) (hx : a.eval x = v) (hy : a.eval y = .slice a3 n3 c3) (hown : W.ownsRow base 42 4 v n xs) (hz : SrcY W a3 n3 c3 M) (hn : n + n3 ≤ 1000000) (hb0 : base ≤ W.heap.size)
    (hK : ∀ v' W', W'.ownsRow base 42 4 v' (n + n3) (xs ++ cellsY M) → W.grownBy W' v.ownBlock → K (a.put o.dst v') W') : Oper.wp Try.prog o a W K Q := by
  obtain ⟨i, hi, hz0, hs, hb⟩ := info_parts info42f
  rcases hz with ⟨rfl, rfl, rfl, rfl⟩ | ⟨ad, rfl, hl, hc⟩
  · have hrun := run_append_owned_none (P := Try.prog) (w := W) base 36 o.type 42 i 4 Try.underlying36 hi v n xs hown
    unfold Oper.wp
    simp [execOp, ho, resolve, invoke, builtin, hx, hy, hrun, Result.andThen]
    exact hK _ _ (by simpa [cellsY] using hown) ⟨rfl, rfl, rfl, Nat.le_refl _, fun _ _ _ => rfl⟩
  · exact wp_append_own _ x y 36 ho base 42 i (.agg #[.string ⟨#[]⟩, .int .u64 0, .int .u64 0, .bool false]) 4 40 Try.underlying36 hi hz0 hs hb rfl (by decide) v n xs hx hown ad n3 c3 (cellsY M) hy (by rw [cellsY_len, hl]) hc (one_cells M) (by unfold maxLen; omega) (by omega) hb0 (fun v' W' h1 h2 _ => hK v' W' h1 h2)
/-- A function put in its place. -/
theorem ins_ok {pre R : List Sy} {s : Sy} {q : Nat} (hU : Up R) (hK : SameK pre R) (hq : q ≤ R.length) (h1 : ∀ j t, q ≤ j → R[j]? = some t → s.2.1 < t.2.1) (h2 : ∀ t, 0 < q → R[q - 1]? = some t → t.2.1 ≤ s.2.1) : Up (R.take q ++ [s] ++ R.drop q) ∧ SameK (pre ++ [s]) (R.take q ++ [s] ++ R.drop q) := by
  have hP := hU
  rw [← List.take_append_drop q R] at hP
  obtain ⟨p1, p2, p3⟩ := hP.parts
  have a1 : ∀ x, x ∈ R.take q → x.2.1 ≤ s.2.1 := fun x hx => by
    obtain ⟨j, hj⟩ := List.getElem?_of_mem hx
    have hjl := (List.getElem?_eq_some_iff.1 hj).1
    rw [List.length_take] at hjl
    rw [List.getElem?_take_of_lt (by omega)] at hj
    have hq1 : q - 1 < R.length := by omega
    have h3 := h2 R[q - 1] (by omega) (List.getElem?_eq_getElem hq1)
    by_cases e : j = q - 1
    · subst e
      rw [List.getElem?_eq_getElem hq1] at hj
      cases hj
      exact h3
    · have h4 := List.pairwise_iff_getElem.1 hU j (q - 1) (by omega) hq1 (by omega)
      rw [List.getElem?_eq_getElem (by omega)] at hj
      cases hj
      exact Nat.le_trans h4 h3
  have a2 : ∀ y, y ∈ R.drop q → s.2.1 < y.2.1 := fun y hy => by
    obtain ⟨j, hj⟩ := List.getElem?_of_mem hy
    rw [List.getElem?_drop] at hj
    exact h1 _ _ (by omega) hj
  refine ⟨Up.of_parts (Up.of_parts p1 (List.pairwise_singleton ..) ?_) p2 ?_, fun c => ?_⟩
  · intro x hx y hy
    rw [List.mem_singleton] at hy
    subst hy
    exact a1 x hx
  · intro x hx y hy
    rcases List.mem_append.1 hx with hx | hx
    · exact p3 x hx y hy
    · rw [List.mem_singleton] at hx
      subst hx
      exact Nat.le_of_lt (a2 y hy)
  · have e := hK c
    have e2 : R.filter (fun s => s.2.1 == c) = (R.take q).filter (fun s => s.2.1 == c) ++ (R.drop q).filter (fun s => s.2.1 == c) := by rw [← List.filter_append, List.take_append_drop]
    rw [List.filter_append, List.filter_append, List.filter_append, ← e, e2]
    by_cases hc : s.2.1 = c
    · have e3 : (R.drop q).filter (fun s => s.2.1 == c) = [] := List.filter_eq_nil_iff.2 (fun y hy => by
        have := a2 y hy
        simp
        omega)
      rw [e3, List.append_nil, List.append_nil]
    · have e3 : [s].filter (fun s => s.2.1 == c) = [] := by simp [hc]
      rw [e3, List.append_nil, List.append_nil]
/-- A row of symbols that was handed over. -/
def OV (W : World) (a : Option Addr) (c : Nat) (R : List Sy) : Prop := RX W a (R.flatMap Sy.cs) ∧ R.length ≤ c ∧ c ≤ 9223372036854775807 ∧ (R.length = 0 → a = none ∧ c = 0)
theorem OV.keep {W W' : World} {a : Option Addr} {c : Nat} {R : List Sy} (h : OV W a c R) (hb : Below W.heap.size W W') : OV W' a c R := ⟨h.1.keep hb, h.2⟩
theorem OV.low {W : World} {b o c : Nat} {R : List Sy} (h : OV W (some ⟨b, o, none⟩) c R) {q : Nat} (hq : q ≤ R.length) : SrcY W (some ⟨b, o, none⟩) q c (R.take q) := .inr ⟨_, rfl, by rw [List.length_take]; omega, fun j u hu => by
  have hj := (List.getElem?_eq_some_iff.1 hu).1
  rw [cellsY_len, List.length_take] at hj
  obtain ⟨b2, o2, he, hc⟩ := h.1 (by rw [flat_len Sy_len]; omega)
  cases he
  rw [Addr.add_lit]
  refine hc j u ?_
  have e : R.flatMap Sy.cs = cellsY (R.take q) ++ cellsY (R.drop q) := by
    unfold cellsY
    rw [← List.flatMap_append, List.take_append_drop]
  rw [e, List.getElem?_append_left (by rw [cellsY_len, List.length_take]; omega)]
  exact hu⟩
theorem OV.high {W : World} {b o c : Nat} {R : List Sy} (h : OV W (some ⟨b, o, none⟩) c R) {q : Nat} (hq : q ≤ R.length) : SrcY W (some ⟨b, o + q * 4, none⟩) (R.length - q) (c - q) (R.drop q) := .inr ⟨_, rfl, by rw [List.length_drop], fun j u hu => by
  have hj := (List.getElem?_eq_some_iff.1 hu).1
  rw [cellsY_len, List.length_drop] at hj
  obtain ⟨b2, o2, he, hc⟩ := h.1 (by rw [flat_len Sy_len]; omega)
  cases he
  rw [Addr.add_lit, Nat.add_assoc]
  refine hc (q * 4 + j) u ?_
  have e : R.flatMap Sy.cs = cellsY (R.take q) ++ cellsY (R.drop q) := by
    unfold cellsY
    rw [← List.flatMap_append, List.take_append_drop]
  have e2 : (cellsY (R.take q)).length = q * 4 := by rw [cellsY_len, List.length_take, Nat.min_eq_left hq]
  rw [e, List.getElem?_append_right (by omega), e2, Nat.add_sub_cancel_left]
  exact hu⟩
theorem ins_len {R : List Sy} {s : Sy} {q r : Nat} (hr : R.length = r) (hq : q ≤ r) : (R.take q ++ [s] ++ R.drop q).length = r + 1 := by
  simp
  omega
theorem ins_end {W : World} {n0 : Nat} {v : Value} {R : List Sy} {s : Sy} {q r : Nat} (hr : R.length = r) (hq : q ≤ r) (h : W.ownsRow n0 42 4 v (0 + q + 1 + (r - q)) (cellsY [] ++ cellsY (R.take q) ++ cellsY [s] ++ cellsY (R.drop q))) : ∃ a c, v = .slice a (r + 1) c ∧ OV W a c (R.take q ++ [s] ++ R.drop q) := by
  have e1 : 0 + q + 1 + (r - q) = r + 1 := by omega
  have e2 : cellsY [] ++ cellsY (R.take q) ++ cellsY [s] ++ cellsY (R.drop q) = (R.take q ++ [s] ++ R.drop q).flatMap Sy.cs := by simp [cellsY]
  have e3 : (R.take q ++ [s] ++ R.drop q).length = r + 1 := by simp; omega
  rw [e1, e2] at h
  rcases h.2 with ⟨_, h0⟩ | ⟨g, cap, cur, hv, hg, hh, hc1, hc2, _⟩
  · omega
  · subst hv
    exact ⟨_, _, rfl, RX.own h, by omega, hc2, fun h => by omega⟩
set_option maxRecDepth 100000 in
set_option maxHeartbeats 16000000 in
theorem rfuncs_any (a : Option Addr) (p : Nat) (l : List Sy) (hn : l.length ≤ 100000) (w : World) (h : RX w a (l.flatMap Sy.cs)) : Calls Try.prog 17 #[.slice a l.length p] w fun e W' => ∃ v, e = .returned v ∧ ∃ a3 c3 L', v = .slice a3 (List.length L') c3 ∧ (Up L' ∧ SameK (l.filter isF) L') ∧ OV W' a3 c3 L' ∧ Below w.heap.size w W' := by
  have HX := Lib.hid (fun W (hb : Below w.heap.size w W) => h.keep hb)
  have HB0 := Lib.hid (Below.refl w.heap.size w)
  obtain ⟨n, hn1⟩ : ∃ n, l.length = n := ⟨_, rfl⟩
  rw [hn1] at hn ⊢
  have HL := Lib.hid hn1
  clear h hn1
  go_enter Try.func17, Try.ntmps17
  go_wp2_with fail
  go_loopw [3, 4] (fun v i W => ∃ (k : Nat) (a3 : Option Addr) (c3 : Nat) (R : List Sy), k ≤ n ∧ R.length ≤ k ∧ v = .slice a3 R.length c3 ∧ i = .int .i64 k ∧ Hid (Up R ∧ SameK ((l.take k).filter isF) R) ∧ Hid (OV W a3 c3 R ∧ Below w.heap.size w W)) (fun _ i _ => n - (intOf i).toNat)
  case atStart => exact ⟨0, none, 0, [], by omega, Nat.le_refl _, rfl, rfl, Lib.hid ⟨List.Pairwise.nil, fun _ => rfl⟩, Lib.hid ⟨⟨fun h => by simp at h, Nat.le_refl _, by decide, fun _ => ⟨rfl, rfl⟩⟩, HB0.out⟩⟩
  case round =>
    clear HB0
    obtain ⟨k, a3, c3, R, hk, hRk, rfl, rfl, HUK, HOV⟩ := hrel
    by_cases hlt : k < n
    rotate_left
    · obtain rfl : n = k := by omega
      have he : (l.take n).filter isF = l.filter isF := by rw [← HL.out, List.take_length]
      rw [he] at HUK
      clear he
      go_wp2_with fail
      go_ret
      exact ⟨_, rfl, a3, c3, R, rfl, HUK.out, HOV.out.1, HOV.out.2⟩
    obtain ⟨s, hs⟩ : ∃ s, l[k]? = some s := ⟨l[k]'(by have := HL.out; omega), List.getElem?_eq_getElem _⟩
    have HT : Hid ((l.take (k + 1)).filter isF = (l.take k).filter isF ++ (if isF s then [s] else [])) := Lib.hid (by
      rw [List.take_add_one, hs, List.filter_append]
      cases hf : isF s <;> simp [hf])
    have HK1 := Lib.hid hs
    clear hs
    obtain ⟨x1, o1, ha1, f0, f1, f2, f3⟩ := Sy_at (HX.out wr HOV.out.2) HK1.out
    subst ha1
    obtain ⟨x, y, z, fn⟩ := s
    dsimp only at f0 f1 f2 f3
    cases fn
    · have HT2 : Hid ((l.take (k + 1)).filter isF = (l.take k).filter isF) := Lib.hid (by rw [HT.out]; simp [isF])
      clear f0 f1 f2
      go_wp2_with fail
      go_roundw
      case rel => exact ⟨k + 1, a3, c3, R, by omega, by omega, rfl, by go_num, by rw [HT2.out]; exact HUK, HOV⟩
      case measure => simp [intOf]; omega
    have HT2 : Hid ((l.take (k + 1)).filter isF = (l.take k).filter isF ++ [(x, y, z, true)]) := Lib.hid (by rw [HT.out]; simp [isF])
    obtain ⟨r, hr⟩ : ∃ r, R.length = r := ⟨_, rfl⟩
    have HLR := Lib.hid hr
    rw [hr] at hRk ⊢
    clear hr HT
    obtain ⟨W1, rfl⟩ : ∃ W1, W1 = wr := ⟨_, rfl⟩
    have HC1 : Hid (∀ V, Below W1.heap.size W1 V → (V.cell? ⟨x1, o1 + k * 4, none⟩ = some (.string x) ∧ V.cell? ⟨x1, o1 + k * 4 + 1, none⟩ = some (.int .u64 (y : Nat)) ∧ V.cell? ⟨x1, o1 + k * 4 + 2, none⟩ = some (.int .u64 (z : Nat)) ∧ V.cell? ⟨x1, o1 + k * 4 + 3, none⟩ = some (.bool true)) ∧ OV V a3 c3 R ∧ Below w.heap.size w V) := Lib.hid (fun V hb => ⟨⟨cell_keep f0 hb, cell_keep f1 hb, cell_keep f2 hb, cell_keep f3 hb⟩, HOV.out.1.keep hb, HOV.out.2.trans (hb.mono HOV.out.2.size)⟩)
    have HB1 := Lib.hid (Below.refl W1.heap.size W1)
    clear f0 f1 f2
    go_wp2_with fail
    clear f3 HOV
    generalize hB : W1.heap.size = B1 at HC1 HB1
    have HBB := Lib.hid hB
    clear hB
    go_loopw [5] (fun u W => ∃ q : Nat, q ≤ r ∧ u = .int .i64 q ∧ Hid (∀ j t, q ≤ j → R[j]? = some t → y < t.2.1) ∧ Hid (Below B1 W1 W)) (fun u _ => (intOf u).toNat)
    case atStart => exact ⟨r, Nat.le_refl _, rfl, Lib.hid (fun j t hj ht => by
      have h1 := (List.getElem?_eq_some_iff.1 ht).1
      have := HLR.out
      omega), HB1⟩
    case round =>
      clear HB1
      obtain ⟨q, hq, rfl, HGT, HB2⟩ := hrel
      by_cases hq0 : q = 0
      · have HINS := Lib.hid (ins_ok (s := (x, y, z, true)) (q := q) HUK.out.1 HUK.out.2 (by have := HLR.out; omega) HGT.out (fun t h => absurd h (by omega)))
        have hz1 : ¬ (0 : Int) < (q : Int) := by omega
        have hz2 : ¬ 0 < q := by omega
        have HB3 : Hid (∀ i, Below B1 W1 (wr.drewN i)) := Lib.hid (fun i => below_drewN HB2.out i)
        have HQ0 := Lib.hid hq0
        clear hq0 HGT HB2
        have mixed := mixedT
        go_wp2_with fail
        go_big_quiet_o (fail)
        clear hz1 hz2
        go_wp2_with fail
        have HB4 := Lib.hid (HB3.out nq)
        clear HB3
        generalize wr.drewN nq = W0 at HB4 ⊢
        have HC := Lib.hid (HC1.out W0 HB4.out).1
        have HOV := Lib.hid (HC1.out W0 HB4.out).2
        clear HC1
        have HBT : Hid (∀ V, Below W0.heap.size W0 V → Below w.heap.size w V) := Lib.hid (fun V hb => HOV.out.2.trans (hb.mono HOV.out.2.size))
        by_cases hr0 : r = 0
        · have HOZ := HOV.out.1.2.2.2
          obtain ⟨ea, ec⟩ := HOZ (by have := HLR.out; omega)
          have hR0 : R = [] := List.eq_nil_of_length_eq_zero (by have := HLR.out; omega)
          subst ea ec
          have hr0 : r = 0 := by omega
          have HRR := Lib.hid hR0
          have HS1 : Hid (∀ V, Below W0.heap.size W0 V → SrcY V none 0 0 (R.take 0)) := Lib.hid (fun V hb => .inl ⟨rfl, rfl, rfl, by simp⟩)
          have HS2 : Hid (∀ V, Below W0.heap.size W0 V → SrcY V none 0 0 (R.drop 0)) := Lib.hid (fun V hb => .inl ⟨rfl, rfl, rfl, by simp [HRR.out]⟩)
          have hq00 := HQ0.out
          subst hr0
          subst hq00
          have HLQ : Hid (R.length = 0 ∧ 0 ≤ 0) := Lib.hid ⟨HLR.out, Nat.le_refl _⟩
          clear HOZ hR0
          refine wp_region_noPanic ?_
          refine wp_region_held_drew (S := fun W : World => Below W0.heap.size W0 W) (by kernel_rfl) ?_ (fun hHeld => ?_)
          · exact (Below.refl _ _).drew
          generalize World.drew _ = V5 at hHeld ⊢
          refine wpAnyH_take (i := 1) (v := ?_) rfl (by kernel_rfl) (by kernel_rfl) (by kernel_rfl) (fun _ _ _ h => h) (Or.inl ⟨by kernel_rfl, ?_⟩) (by assumption) ?_
          rotate_left
          · intro wv hSw
            go_simp
            try with_reducible rfl
          simp only [Act.put, List.setIfInBounds_toArray, List.set_cons_zero, List.set_cons_succ, List.getElem_toArray, List.getElem_cons_succ, List.getElem_cons_zero]
          refine wpAnyH_take (i := 2) (v := ?_) rfl (by kernel_rfl) (by kernel_rfl) (by kernel_rfl) (fun _ _ _ h => h) (Or.inl ⟨by kernel_rfl, ?_⟩) (by assumption) ?_
          rotate_left
          · intro wv hSw
            go_simp
            try with_reducible rfl
          simp only [Act.put, List.setIfInBounds_toArray, List.set_cons_zero, List.set_cons_succ, List.getElem_toArray, List.getElem_cons_succ, List.getElem_cons_zero]
          refine wpAnyH_take (i := 3) (v := ?_) rfl (by kernel_rfl) (by kernel_rfl) (by kernel_rfl) (fun _ _ _ h => h) (Or.inl ⟨by kernel_rfl, ?_⟩) (by assumption) ?_
          rotate_left
          · intro wv hSw
            go_simp
            try with_reducible rfl
          simp only [Act.put, List.setIfInBounds_toArray, List.set_cons_zero, List.set_cons_succ, List.getElem_toArray, List.getElem_cons_succ, List.getElem_cons_zero]
          refine wpAnyH_take (i := 5) (v := ?_) rfl (by kernel_rfl) (by kernel_rfl) (by kernel_rfl) (fun _ _ _ h => h) (Or.inl ⟨by kernel_rfl, ?_⟩) (by assumption) ?_
          rotate_left
          · intro wv hSw
            go_simp
            try with_reducible rfl
          simp only [Act.put, List.setIfInBounds_toArray, List.set_cons_zero, List.set_cons_succ, List.getElem_toArray, List.getElem_cons_succ, List.getElem_cons_zero]
          refine wpAnyH_take (i := 6) (v := ?_) rfl (by kernel_rfl) (by kernel_rfl) (by kernel_rfl) (fun _ _ _ h => h) (Or.inl ⟨by kernel_rfl, ?_⟩) (by assumption) ?_
          rotate_left
          · intro wv hSw
            go_simp
            try with_reducible rfl
          simp only [Act.put, List.setIfInBounds_toArray, List.set_cons_zero, List.set_cons_succ, List.getElem_toArray, List.getElem_cons_succ, List.getElem_cons_zero]
          refine wpAnyH_take (i := 7) (v := ?_) rfl (by kernel_rfl) (by kernel_rfl) (by kernel_rfl) (fun _ _ _ h => h) (Or.inl ⟨by kernel_rfl, ?_⟩) (by assumption) ?_
          rotate_left
          · intro wv hSw
            go_simp
            try with_reducible rfl
          simp only [Act.put, List.setIfInBounds_toArray, List.set_cons_zero, List.set_cons_succ, List.getElem_toArray, List.getElem_cons_succ, List.getElem_cons_zero]
          refine wpAnyH_take (i := 8) (v := ?_) rfl (by kernel_rfl) (by kernel_rfl) (by kernel_rfl) (fun _ _ _ h => h) (Or.inl ⟨by kernel_rfl, ?_⟩) (by assumption) ?_
          rotate_left
          · intro wv hSw
            have c0 := cell_keep HC.out.1 hSw
            have c1 := cell_keep HC.out.2.1 hSw
            have c2 := cell_keep HC.out.2.2.1 hSw
            have c3 := cell_keep HC.out.2.2.2 hSw
            go_simp
            try with_reducible rfl
          simp only [Act.put, List.setIfInBounds_toArray, List.set_cons_zero, List.set_cons_succ, List.getElem_toArray, List.getElem_cons_succ, List.getElem_cons_zero]
          refine wpAnyH_take (i := 11) (v := ?_) rfl (by kernel_rfl) (by kernel_rfl) (by kernel_rfl) (fun _ _ _ h => h) (Or.inl ⟨by kernel_rfl, ?_⟩) (by assumption) ?_
          rotate_left
          · intro wv hSw
            go_simp
            try with_reducible rfl
          simp only [Act.put, List.setIfInBounds_toArray, List.set_cons_zero, List.set_cons_succ, List.getElem_toArray, List.getElem_cons_succ, List.getElem_cons_zero]
          refine wpAnyH_take (i := 12) (v := ?_) rfl (by kernel_rfl) (by kernel_rfl) (by kernel_rfl) (fun _ _ _ h => h) (Or.inl ⟨by kernel_rfl, ?_⟩) (by assumption) ?_
          rotate_left
          · intro wv hSw
            go_simp
            try with_reducible rfl
          simp only [Act.put, List.setIfInBounds_toArray, List.set_cons_zero, List.set_cons_succ, List.getElem_toArray, List.getElem_cons_succ, List.getElem_cons_zero]
          refine wpAnyH_take (i := 13) (v := ?_) rfl (by kernel_rfl) (by kernel_rfl) (by kernel_rfl) (fun _ _ _ h => h) (Or.inl ⟨by kernel_rfl, ?_⟩) (by assumption) ?_
          rotate_left
          · intro wv hSw
            go_simp
            try with_reducible rfl
          simp only [Act.put, List.setIfInBounds_toArray, List.set_cons_zero, List.set_cons_succ, List.getElem_toArray, List.getElem_cons_succ, List.getElem_cons_zero]
          refine wpAnyH_ready (rs := [0, 9]) (by kernel_rfl) (by simp) ?_
          refine AllReadyH.cons rfl (fun K hK => ?_) (AllReadyH.cons rfl (fun K hK => ?_) (AllReadyH.nil))
          · have hN := own_emptyY (V := V5) hHeld.size
            have hB : Below W0.heap.size W0 (World.alloc V5 (.cells #[] 42)) := hHeld.alloc hHeld.size _
            go_simp
            refine hK.out _ _ hB (fun hHeld2 => ?_)
            clear hK K hHeld hHeld2
            have HO := Lib.hid hN
            clear hN
            generalize World.alloc V5 _ = V11 at HO hB ⊢
            generalize (World.heap V5).size = g11 at HO ⊢
            have hHeld : (fun W : World => Below W0.heap.size W0 W) V11 := hB
            clear hB
            try simp only [Act.put, List.setIfInBounds_toArray, List.set_cons_zero, List.set_cons_succ, List.getElem_toArray, List.getElem_cons_succ, List.getElem_cons_zero]
            refine wpAnyH_ready (rs := [4, 9]) (by kernel_rfl) (by simp) ?_
            refine AllReadyH.cons rfl (fun K hK => ?_) (AllReadyH.cons rfl (fun K hK => ?_) (AllReadyH.nil))
            · rw [if_pos (by kernel_rfl)]
              refine wp_app_syms (x := .tmp 38) (y := .tmp 41) (base := W0.heap.size) (v := .slice (some ⟨g11, 0, none⟩) 0 0) (n := 0) (xs := cellsY []) (M := R.take 0) rfl rfl rfl HO.out (HS1.out _ hHeld) (by omega) hHeld.size ?_
              intro v12 V12 hown hgr
              have hB := hHeld.grown hgr hHeld.size (fun x e => owns_block HO.out x e)
              refine hK.out _ _ hB (fun hHeld2 => ?_)
              clear hK K hHeld hHeld2 hgr HO
              have HO := Lib.hid hown
              clear hown
              have hHeld : (fun W : World => Below W0.heap.size W0 W) V12 := hB
              clear hB
              try simp only [Act.put, List.setIfInBounds_toArray, List.set_cons_zero, List.set_cons_succ, List.getElem_toArray, List.getElem_cons_succ, List.getElem_cons_zero]
              refine wpAnyH_ready (rs := [9]) (by kernel_rfl) (by simp) ?_
              refine AllReadyH.cons rfl (fun K hK => ?_) (AllReadyH.nil)
              have h9 : YB (World.alloc V12 (.cells #[.string x, .int .u64 (y : Nat), .int .u64 (z : Nat), .bool true] 42)) (World.heap V12).size (x, y, z, true) := heap_alloc_last V12 _
              have hB : Below W0.heap.size W0 (World.alloc V12 (.cells #[.string x, .int .u64 (y : Nat), .int .u64 (z : Nat), .bool true] 42)) := hHeld.alloc hHeld.size _
              have HO2 := Lib.hid (own_keep HO.out ((Below.refl _ _).alloc (Nat.le_refl _) (.cells #[.string x, .int .u64 (y : Nat), .int .u64 (z : Nat), .bool true] 42)))
              clear HO
              go_simp
              refine hK.out _ _ hB (fun hHeld2 => ?_)
              clear hK K hHeld hHeld2
              have HB9 := Lib.hid h9
              clear h9
              generalize World.alloc V12 _ = V13 at HB9 hB HO2 ⊢
              generalize (World.heap V12).size = b13 at HB9 ⊢
              have hHeld : (fun W : World => Below W0.heap.size W0 W) V13 := hB
              clear hB
              have HO := HO2
              clear HO2
              try simp only [Act.put, List.setIfInBounds_toArray, List.set_cons_zero, List.set_cons_succ, List.getElem_toArray, List.getElem_cons_succ, List.getElem_cons_zero]
              refine wpAnyH_ready (rs := [10]) (by kernel_rfl) (by simp) ?_
              refine AllReadyH.cons rfl (fun K hK => ?_) (AllReadyH.nil)
              rw [if_pos (by kernel_rfl)]
              refine wp_app_syms (x := .tmp 42) (y := .tmp 47) (base := W0.heap.size) (v := v12) (n := 0 + 0) (xs := cellsY [] ++ cellsY (R.take 0)) (M := [(x, y, z, true)]) rfl rfl rfl HO.out (.inr ⟨_, rfl, rfl, src_one HB9.out⟩) (by omega) hHeld.size ?_
              intro v9 V9 hown hgr
              have hB := hHeld.grown hgr hHeld.size (fun x e => owns_block HO.out x e)
              refine hK.out _ _ hB (fun hHeld2 => ?_)
              clear hK K hHeld hHeld2 hgr HO HB9
              have HO := Lib.hid hown
              clear hown
              have hHeld : (fun W : World => Below W0.heap.size W0 W) V9 := hB
              clear hB
              try simp only [Act.put, List.setIfInBounds_toArray, List.set_cons_zero, List.set_cons_succ, List.getElem_toArray, List.getElem_cons_succ, List.getElem_cons_zero]
              refine wpAnyH_ready (rs := [14]) (by kernel_rfl) (by simp) ?_
              refine AllReadyH.cons rfl (fun K hK => ?_) (AllReadyH.nil)
              rw [if_pos (by kernel_rfl)]
              refine wp_app_syms (x := .tmp 48) (y := .tmp 51) (base := W0.heap.size) (v := v9) (n := 0 + 0 + 1) (xs := cellsY [] ++ cellsY (R.take 0) ++ cellsY [(x, y, z, true)]) (M := R.drop 0) rfl rfl rfl HO.out (HS2.out _ hHeld) (by omega) hHeld.size ?_
              intro v10 V10 hown hgr
              have hB := hHeld.grown hgr hHeld.size (fun x e => owns_block HO.out x e)
              refine hK.out _ _ hB (fun hHeld2 => ?_)
              clear hK K hHeld hHeld2 hgr HO
              have HO := Lib.hid hown
              clear hown
              have hHeld : (fun W : World => Below W0.heap.size W0 W) V10 := hB
              clear hB
              try simp only [Act.put, List.setIfInBounds_toArray, List.set_cons_zero, List.set_cons_succ, List.getElem_toArray, List.getElem_cons_succ, List.getElem_cons_zero]
              refine wpAnyH_take (i := 15) (v := ?_) rfl (by kernel_rfl) (by kernel_rfl) (by kernel_rfl) (fun _ _ _ h => h) (Or.inl ⟨by kernel_rfl, ?_⟩) (by assumption) ?_
              rotate_left
              · intro wv hSw
                go_simp
                try with_reducible rfl
              simp only [Act.put, List.setIfInBounds_toArray, List.set_cons_zero, List.set_cons_succ, List.getElem_toArray, List.getElem_cons_succ, List.getElem_cons_zero]
              refine wpAnyH_done (by kernel_rfl) ?_ _
              refine NoPanic.normal ?_
              have HF := Lib.hid (ins_end HLQ.out.1 HLQ.out.2 HO.out)
              have HB10 := Lib.hid (HBT.out V10 hHeld)
              have hlen := Lib.hid (ins_len (s := (x, y, z, true)) HLQ.out.1 HLQ.out.2)
              clear hHeld HO HS1 HS2
              obtain ⟨a8, c8, he8, ho8⟩ := HF.out
              subst he8
              have HF8 := Lib.hid ho8
              clear ho8
              go_wp2_with fail
              go_roundw
              case rel => exact ⟨k + 1, a8, c8, R.take 0 ++ [(x, y, z, true)] ++ R.drop 0, by omega, by rw [hlen.out]; omega, by rw [hlen.out], by go_num, by rw [HT2.out]; exact Lib.hid HINS.out, Lib.hid ⟨HF8.out, HB10.out⟩⟩
              case measure => simp [intOf]; omega
            · have h9 : YB (World.alloc V11 (.cells #[.string x, .int .u64 (y : Nat), .int .u64 (z : Nat), .bool true] 42)) (World.heap V11).size (x, y, z, true) := heap_alloc_last V11 _
              have hB : Below W0.heap.size W0 (World.alloc V11 (.cells #[.string x, .int .u64 (y : Nat), .int .u64 (z : Nat), .bool true] 42)) := hHeld.alloc hHeld.size _
              have HO2 := Lib.hid (And.intro (own_keep HO.out ((Below.refl _ _).alloc (Nat.le_refl _) (.cells #[.string x, .int .u64 (y : Nat), .int .u64 (z : Nat), .bool true] 42))) (Nat.ne_of_gt (own_lt HO.out)))
              clear HO
              go_simp
              refine hK.out _ _ hB (fun hHeld2 => ?_)
              clear hK K hHeld hHeld2
              have HB9 := Lib.hid h9
              clear h9
              generalize World.alloc V11 _ = V14 at HB9 hB HO2 ⊢
              generalize (World.heap V11).size = b14 at HB9 HO2 ⊢
              have hHeld : (fun W : World => Below W0.heap.size W0 W) V14 := hB
              clear hB
              try simp only [Act.put, List.setIfInBounds_toArray, List.set_cons_zero, List.set_cons_succ, List.getElem_toArray, List.getElem_cons_succ, List.getElem_cons_zero]
              refine wpAnyH_ready (rs := [4]) (by kernel_rfl) (by simp) ?_
              refine AllReadyH.cons rfl (fun K hK => ?_) (AllReadyH.nil)
              rw [if_pos (by kernel_rfl)]
              refine wp_app_syms (x := .tmp 38) (y := .tmp 41) (base := W0.heap.size) (v := .slice (some ⟨g11, 0, none⟩) 0 0) (n := 0) (xs := cellsY []) (M := R.take 0) rfl rfl rfl HO2.out.1 (HS1.out _ hHeld) (by omega) hHeld.size ?_
              intro v15 V15 hown hgr
              have hB := hHeld.grown hgr hHeld.size (fun x e => owns_block HO2.out.1 x e)
              have HB9b := Lib.hid (yb_grown HB9.out hgr HO2.out.2)
              clear HB9
              have HB9 := HB9b
              clear HB9b
              refine hK.out _ _ hB (fun hHeld2 => ?_)
              clear hK K hHeld hHeld2 hgr HO2
              have HO := Lib.hid hown
              clear hown
              have hHeld : (fun W : World => Below W0.heap.size W0 W) V15 := hB
              clear hB
              try simp only [Act.put, List.setIfInBounds_toArray, List.set_cons_zero, List.set_cons_succ, List.getElem_toArray, List.getElem_cons_succ, List.getElem_cons_zero]
              refine wpAnyH_ready (rs := [10]) (by kernel_rfl) (by simp) ?_
              refine AllReadyH.cons rfl (fun K hK => ?_) (AllReadyH.nil)
              rw [if_pos (by kernel_rfl)]
              refine wp_app_syms (x := .tmp 42) (y := .tmp 47) (base := W0.heap.size) (v := v15) (n := 0 + 0) (xs := cellsY [] ++ cellsY (R.take 0)) (M := [(x, y, z, true)]) rfl rfl rfl HO.out (.inr ⟨_, rfl, rfl, src_one HB9.out⟩) (by omega) hHeld.size ?_
              intro v9 V9 hown hgr
              have hB := hHeld.grown hgr hHeld.size (fun x e => owns_block HO.out x e)
              refine hK.out _ _ hB (fun hHeld2 => ?_)
              clear hK K hHeld hHeld2 hgr HO HB9
              have HO := Lib.hid hown
              clear hown
              have hHeld : (fun W : World => Below W0.heap.size W0 W) V9 := hB
              clear hB
              try simp only [Act.put, List.setIfInBounds_toArray, List.set_cons_zero, List.set_cons_succ, List.getElem_toArray, List.getElem_cons_succ, List.getElem_cons_zero]
              refine wpAnyH_ready (rs := [14]) (by kernel_rfl) (by simp) ?_
              refine AllReadyH.cons rfl (fun K hK => ?_) (AllReadyH.nil)
              rw [if_pos (by kernel_rfl)]
              refine wp_app_syms (x := .tmp 48) (y := .tmp 51) (base := W0.heap.size) (v := v9) (n := 0 + 0 + 1) (xs := cellsY [] ++ cellsY (R.take 0) ++ cellsY [(x, y, z, true)]) (M := R.drop 0) rfl rfl rfl HO.out (HS2.out _ hHeld) (by omega) hHeld.size ?_
              intro v10 V10 hown hgr
              have hB := hHeld.grown hgr hHeld.size (fun x e => owns_block HO.out x e)
              refine hK.out _ _ hB (fun hHeld2 => ?_)
              clear hK K hHeld hHeld2 hgr HO
              have HO := Lib.hid hown
              clear hown
              have hHeld : (fun W : World => Below W0.heap.size W0 W) V10 := hB
              clear hB
              try simp only [Act.put, List.setIfInBounds_toArray, List.set_cons_zero, List.set_cons_succ, List.getElem_toArray, List.getElem_cons_succ, List.getElem_cons_zero]
              refine wpAnyH_take (i := 15) (v := ?_) rfl (by kernel_rfl) (by kernel_rfl) (by kernel_rfl) (fun _ _ _ h => h) (Or.inl ⟨by kernel_rfl, ?_⟩) (by assumption) ?_
              rotate_left
              · intro wv hSw
                go_simp
                try with_reducible rfl
              simp only [Act.put, List.setIfInBounds_toArray, List.set_cons_zero, List.set_cons_succ, List.getElem_toArray, List.getElem_cons_succ, List.getElem_cons_zero]
              refine wpAnyH_done (by kernel_rfl) ?_ _
              refine NoPanic.normal ?_
              have HF := Lib.hid (ins_end HLQ.out.1 HLQ.out.2 HO.out)
              have HB10 := Lib.hid (HBT.out V10 hHeld)
              have hlen := Lib.hid (ins_len (s := (x, y, z, true)) HLQ.out.1 HLQ.out.2)
              clear hHeld HO HS1 HS2
              obtain ⟨a8, c8, he8, ho8⟩ := HF.out
              subst he8
              have HF8 := Lib.hid ho8
              clear ho8
              go_wp2_with fail
              go_roundw
              case rel => exact ⟨k + 1, a8, c8, R.take 0 ++ [(x, y, z, true)] ++ R.drop 0, by omega, by rw [hlen.out]; omega, by rw [hlen.out], by go_num, by rw [HT2.out]; exact Lib.hid HINS.out, Lib.hid ⟨HF8.out, HB10.out⟩⟩
              case measure => simp [intOf]; omega
          · have h9 : YB (World.alloc V5 (.cells #[.string x, .int .u64 (y : Nat), .int .u64 (z : Nat), .bool true] 42)) (World.heap V5).size (x, y, z, true) := heap_alloc_last V5 _
            have hB : Below W0.heap.size W0 (World.alloc V5 (.cells #[.string x, .int .u64 (y : Nat), .int .u64 (z : Nat), .bool true] 42)) := hHeld.alloc hHeld.size _
            go_simp
            refine hK.out _ _ hB (fun hHeld2 => ?_)
            clear hK K hHeld hHeld2
            have HB9 := Lib.hid h9
            clear h9
            generalize World.alloc V5 _ = V16 at HB9 hB ⊢
            generalize (World.heap V5).size = b16 at HB9 ⊢
            have hHeld : (fun W : World => Below W0.heap.size W0 W) V16 := hB
            clear hB
            try simp only [Act.put, List.setIfInBounds_toArray, List.set_cons_zero, List.set_cons_succ, List.getElem_toArray, List.getElem_cons_succ, List.getElem_cons_zero]
            refine wpAnyH_ready (rs := [0]) (by kernel_rfl) (by simp) ?_
            refine AllReadyH.cons rfl (fun K hK => ?_) (AllReadyH.nil)
            have hN := own_emptyY (V := V16) hHeld.size
            have hB : Below W0.heap.size W0 (World.alloc V16 (.cells #[] 42)) := hHeld.alloc hHeld.size _
            have H9 : Hid (YB (World.alloc V16 (.cells #[] 42)) b16 (x, y, z, true) ∧ b16 ≠ (World.heap V16).size) := Lib.hid ⟨YB.keep HB9.out ((Below.refl _ _).alloc (Nat.le_refl _) _), Nat.ne_of_lt (Array.getElem?_eq_some_iff.1 HB9.out).1⟩
            clear HB9
            go_simp
            refine hK.out _ _ hB (fun hHeld2 => ?_)
            clear hK K hHeld hHeld2
            have HO := Lib.hid hN
            clear hN
            generalize World.alloc V16 _ = V17 at HO hB H9 ⊢
            generalize (World.heap V16).size = g17 at HO H9 ⊢
            have hHeld : (fun W : World => Below W0.heap.size W0 W) V17 := hB
            clear hB
            try simp only [Act.put, List.setIfInBounds_toArray, List.set_cons_zero, List.set_cons_succ, List.getElem_toArray, List.getElem_cons_succ, List.getElem_cons_zero]
            refine wpAnyH_ready (rs := [4]) (by kernel_rfl) (by simp) ?_
            refine AllReadyH.cons rfl (fun K hK => ?_) (AllReadyH.nil)
            rw [if_pos (by kernel_rfl)]
            refine wp_app_syms (x := .tmp 38) (y := .tmp 41) (base := W0.heap.size) (v := .slice (some ⟨g17, 0, none⟩) 0 0) (n := 0) (xs := cellsY []) (M := R.take 0) rfl rfl rfl HO.out (HS1.out _ hHeld) (by omega) hHeld.size ?_
            intro v18 V18 hown hgr
            have hB := hHeld.grown hgr hHeld.size (fun x e => owns_block HO.out x e)
            have HB9 := Lib.hid (yb_grown H9.out.1 hgr H9.out.2)
            clear H9
            refine hK.out _ _ hB (fun hHeld2 => ?_)
            clear hK K hHeld hHeld2 hgr HO
            have HO := Lib.hid hown
            clear hown
            have hHeld : (fun W : World => Below W0.heap.size W0 W) V18 := hB
            clear hB
            try simp only [Act.put, List.setIfInBounds_toArray, List.set_cons_zero, List.set_cons_succ, List.getElem_toArray, List.getElem_cons_succ, List.getElem_cons_zero]
            refine wpAnyH_ready (rs := [10]) (by kernel_rfl) (by simp) ?_
            refine AllReadyH.cons rfl (fun K hK => ?_) (AllReadyH.nil)
            rw [if_pos (by kernel_rfl)]
            refine wp_app_syms (x := .tmp 42) (y := .tmp 47) (base := W0.heap.size) (v := v18) (n := 0 + 0) (xs := cellsY [] ++ cellsY (R.take 0)) (M := [(x, y, z, true)]) rfl rfl rfl HO.out (.inr ⟨_, rfl, rfl, src_one HB9.out⟩) (by omega) hHeld.size ?_
            intro v9 V9 hown hgr
            have hB := hHeld.grown hgr hHeld.size (fun x e => owns_block HO.out x e)
            refine hK.out _ _ hB (fun hHeld2 => ?_)
            clear hK K hHeld hHeld2 hgr HO HB9
            have HO := Lib.hid hown
            clear hown
            have hHeld : (fun W : World => Below W0.heap.size W0 W) V9 := hB
            clear hB
            try simp only [Act.put, List.setIfInBounds_toArray, List.set_cons_zero, List.set_cons_succ, List.getElem_toArray, List.getElem_cons_succ, List.getElem_cons_zero]
            refine wpAnyH_ready (rs := [14]) (by kernel_rfl) (by simp) ?_
            refine AllReadyH.cons rfl (fun K hK => ?_) (AllReadyH.nil)
            rw [if_pos (by kernel_rfl)]
            refine wp_app_syms (x := .tmp 48) (y := .tmp 51) (base := W0.heap.size) (v := v9) (n := 0 + 0 + 1) (xs := cellsY [] ++ cellsY (R.take 0) ++ cellsY [(x, y, z, true)]) (M := R.drop 0) rfl rfl rfl HO.out (HS2.out _ hHeld) (by omega) hHeld.size ?_
            intro v10 V10 hown hgr
            have hB := hHeld.grown hgr hHeld.size (fun x e => owns_block HO.out x e)
            refine hK.out _ _ hB (fun hHeld2 => ?_)
            clear hK K hHeld hHeld2 hgr HO
            have HO := Lib.hid hown
            clear hown
            have hHeld : (fun W : World => Below W0.heap.size W0 W) V10 := hB
            clear hB
            try simp only [Act.put, List.setIfInBounds_toArray, List.set_cons_zero, List.set_cons_succ, List.getElem_toArray, List.getElem_cons_succ, List.getElem_cons_zero]
            refine wpAnyH_take (i := 15) (v := ?_) rfl (by kernel_rfl) (by kernel_rfl) (by kernel_rfl) (fun _ _ _ h => h) (Or.inl ⟨by kernel_rfl, ?_⟩) (by assumption) ?_
            rotate_left
            · intro wv hSw
              go_simp
              try with_reducible rfl
            simp only [Act.put, List.setIfInBounds_toArray, List.set_cons_zero, List.set_cons_succ, List.getElem_toArray, List.getElem_cons_succ, List.getElem_cons_zero]
            refine wpAnyH_done (by kernel_rfl) ?_ _
            refine NoPanic.normal ?_
            have HF := Lib.hid (ins_end HLQ.out.1 HLQ.out.2 HO.out)
            have HB10 := Lib.hid (HBT.out V10 hHeld)
            have hlen := Lib.hid (ins_len (s := (x, y, z, true)) HLQ.out.1 HLQ.out.2)
            clear hHeld HO HS1 HS2
            obtain ⟨a8, c8, he8, ho8⟩ := HF.out
            subst he8
            have HF8 := Lib.hid ho8
            clear ho8
            go_wp2_with fail
            go_roundw
            case rel => exact ⟨k + 1, a8, c8, R.take 0 ++ [(x, y, z, true)] ++ R.drop 0, by omega, by rw [hlen.out]; omega, by rw [hlen.out], by go_num, by rw [HT2.out]; exact Lib.hid HINS.out, Lib.hid ⟨HF8.out, HB10.out⟩⟩
            case measure => simp [intOf]; omega
        · obtain ⟨x2, o2, ha2, _⟩ := HOV.out.1.1 (by rw [flat_len Sy_len]; have := HLR.out; omega)
          subst ha2
          have HLQ : Hid (R.length = r ∧ q ≤ r) := Lib.hid ⟨HLR.out, hq⟩
          have hrc : r ≤ c3 := by have := HOV.out.1.2.1; have := HLR.out; omega
          have hcm : c3 ≤ 9223372036854775807 := HOV.out.1.2.2.1
          have HS1 : Hid (∀ V, Below W0.heap.size W0 V → SrcY V (some ⟨x2, o2, none⟩) q c3 (R.take q)) := Lib.hid (fun V hb => OV.low (HOV.out.1.keep hb) (by have := HLQ.out; omega))
          have hi1 : (q : Int) ≤ (r : Int) := by omega
          have hi2 : (r : Int) ≤ (c3 : Int) := by omega
          have hi3 : (q : Int) ≤ (c3 : Int) := by omega
          have hNn : r ≤ 100000 := by omega
          by_cases hcq : c3 = q
          · have HS2 : Hid (∀ V, Below W0.heap.size W0 V → SrcY V (some ⟨x2, o2, none⟩) (r - q) 0 (R.drop q)) := Lib.hid (fun V hb => .inr ⟨_, rfl, by rw [List.length_drop, HLQ.out.1], fun j u hu => by
              have hj := (List.getElem?_eq_some_iff.1 hu).1
              rw [cellsY_len, List.length_drop, HLQ.out.1] at hj
              omega⟩)
            obtain rfl : q = c3 := hcq.symm
            obtain rfl : q = r := by omega
            rw [Nat.sub_self] at HS2
            refine wp_region_noPanic ?_
            refine wp_region_held_drew (S := fun W : World => Below W0.heap.size W0 W) (by kernel_rfl) ?_ (fun hHeld => ?_)
            · exact (Below.refl _ _).drew
            generalize World.drew _ = V5 at hHeld ⊢
            refine wpAnyH_take (i := 1) (v := ?_) rfl (by kernel_rfl) (by kernel_rfl) (by kernel_rfl) (fun _ _ _ h => h) (Or.inl ⟨by kernel_rfl, ?_⟩) (by assumption) ?_
            rotate_left
            · intro wv hSw
              go_simp
              try with_reducible rfl
            simp only [Act.put, List.setIfInBounds_toArray, List.set_cons_zero, List.set_cons_succ, List.getElem_toArray, List.getElem_cons_succ, List.getElem_cons_zero]
            refine wpAnyH_take (i := 2) (v := ?_) rfl (by kernel_rfl) (by kernel_rfl) (by kernel_rfl) (fun _ _ _ h => h) (Or.inl ⟨by kernel_rfl, ?_⟩) (by assumption) ?_
            rotate_left
            · intro wv hSw
              go_simp
              try with_reducible rfl
            simp only [Act.put, List.setIfInBounds_toArray, List.set_cons_zero, List.set_cons_succ, List.getElem_toArray, List.getElem_cons_succ, List.getElem_cons_zero]
            refine wpAnyH_take (i := 3) (v := ?_) rfl (by kernel_rfl) (by kernel_rfl) (by kernel_rfl) (fun _ _ _ h => h) (Or.inl ⟨by kernel_rfl, ?_⟩) (by assumption) ?_
            rotate_left
            · intro wv hSw
              go_simp
              try with_reducible rfl
            simp only [Act.put, List.setIfInBounds_toArray, List.set_cons_zero, List.set_cons_succ, List.getElem_toArray, List.getElem_cons_succ, List.getElem_cons_zero]
            refine wpAnyH_take (i := 5) (v := ?_) rfl (by kernel_rfl) (by kernel_rfl) (by kernel_rfl) (fun _ _ _ h => h) (Or.inl ⟨by kernel_rfl, ?_⟩) (by assumption) ?_
            rotate_left
            · intro wv hSw
              go_simp
              try with_reducible rfl
            simp only [Act.put, List.setIfInBounds_toArray, List.set_cons_zero, List.set_cons_succ, List.getElem_toArray, List.getElem_cons_succ, List.getElem_cons_zero]
            refine wpAnyH_take (i := 6) (v := ?_) rfl (by kernel_rfl) (by kernel_rfl) (by kernel_rfl) (fun _ _ _ h => h) (Or.inl ⟨by kernel_rfl, ?_⟩) (by assumption) ?_
            rotate_left
            · intro wv hSw
              go_simp
              try with_reducible rfl
            simp only [Act.put, List.setIfInBounds_toArray, List.set_cons_zero, List.set_cons_succ, List.getElem_toArray, List.getElem_cons_succ, List.getElem_cons_zero]
            refine wpAnyH_take (i := 7) (v := ?_) rfl (by kernel_rfl) (by kernel_rfl) (by kernel_rfl) (fun _ _ _ h => h) (Or.inl ⟨by kernel_rfl, ?_⟩) (by assumption) ?_
            rotate_left
            · intro wv hSw
              go_simp
              try with_reducible rfl
            simp only [Act.put, List.setIfInBounds_toArray, List.set_cons_zero, List.set_cons_succ, List.getElem_toArray, List.getElem_cons_succ, List.getElem_cons_zero]
            refine wpAnyH_take (i := 8) (v := ?_) rfl (by kernel_rfl) (by kernel_rfl) (by kernel_rfl) (fun _ _ _ h => h) (Or.inl ⟨by kernel_rfl, ?_⟩) (by assumption) ?_
            rotate_left
            · intro wv hSw
              have c0 := cell_keep HC.out.1 hSw
              have c1 := cell_keep HC.out.2.1 hSw
              have c2 := cell_keep HC.out.2.2.1 hSw
              have c3 := cell_keep HC.out.2.2.2 hSw
              go_simp
              try with_reducible rfl
            simp only [Act.put, List.setIfInBounds_toArray, List.set_cons_zero, List.set_cons_succ, List.getElem_toArray, List.getElem_cons_succ, List.getElem_cons_zero]
            refine wpAnyH_take (i := 11) (v := ?_) rfl (by kernel_rfl) (by kernel_rfl) (by kernel_rfl) (fun _ _ _ h => h) (Or.inl ⟨by kernel_rfl, ?_⟩) (by assumption) ?_
            rotate_left
            · intro wv hSw
              go_simp
              try with_reducible rfl
            simp only [Act.put, List.setIfInBounds_toArray, List.set_cons_zero, List.set_cons_succ, List.getElem_toArray, List.getElem_cons_succ, List.getElem_cons_zero]
            refine wpAnyH_take (i := 12) (v := ?_) rfl (by kernel_rfl) (by kernel_rfl) (by kernel_rfl) (fun _ _ _ h => h) (Or.inl ⟨by kernel_rfl, ?_⟩) (by assumption) ?_
            rotate_left
            · intro wv hSw
              go_simp
              try with_reducible rfl
            simp only [Act.put, List.setIfInBounds_toArray, List.set_cons_zero, List.set_cons_succ, List.getElem_toArray, List.getElem_cons_succ, List.getElem_cons_zero]
            refine wpAnyH_take (i := 13) (v := ?_) rfl (by kernel_rfl) (by kernel_rfl) (by kernel_rfl) (fun _ _ _ h => h) (Or.inl ⟨by kernel_rfl, ?_⟩) (by assumption) ?_
            rotate_left
            · intro wv hSw
              go_simp
              try with_reducible rfl
            simp only [Act.put, List.setIfInBounds_toArray, List.set_cons_zero, List.set_cons_succ, List.getElem_toArray, List.getElem_cons_succ, List.getElem_cons_zero]
            refine wpAnyH_ready (rs := [0, 9]) (by kernel_rfl) (by simp) ?_
            refine AllReadyH.cons rfl (fun K hK => ?_) (AllReadyH.cons rfl (fun K hK => ?_) (AllReadyH.nil))
            · have hN := own_emptyY (V := V5) hHeld.size
              have hB : Below W0.heap.size W0 (World.alloc V5 (.cells #[] 42)) := hHeld.alloc hHeld.size _
              go_simp
              refine hK.out _ _ hB (fun hHeld2 => ?_)
              clear hK K hHeld hHeld2
              have HO := Lib.hid hN
              clear hN
              generalize World.alloc V5 _ = V11 at HO hB ⊢
              generalize (World.heap V5).size = g11 at HO ⊢
              have hHeld : (fun W : World => Below W0.heap.size W0 W) V11 := hB
              clear hB
              try simp only [Act.put, List.setIfInBounds_toArray, List.set_cons_zero, List.set_cons_succ, List.getElem_toArray, List.getElem_cons_succ, List.getElem_cons_zero]
              refine wpAnyH_ready (rs := [4, 9]) (by kernel_rfl) (by simp) ?_
              refine AllReadyH.cons rfl (fun K hK => ?_) (AllReadyH.cons rfl (fun K hK => ?_) (AllReadyH.nil))
              · rw [if_pos (by kernel_rfl)]
                refine wp_app_syms (x := .tmp 38) (y := .tmp 41) (base := W0.heap.size) (v := .slice (some ⟨g11, 0, none⟩) 0 0) (n := 0) (xs := cellsY []) (M := R.take q) rfl rfl rfl HO.out (HS1.out _ hHeld) (by omega) hHeld.size ?_
                intro v12 V12 hown hgr
                have hB := hHeld.grown hgr hHeld.size (fun x e => owns_block HO.out x e)
                refine hK.out _ _ hB (fun hHeld2 => ?_)
                clear hK K hHeld hHeld2 hgr HO
                have HO := Lib.hid hown
                clear hown
                have hHeld : (fun W : World => Below W0.heap.size W0 W) V12 := hB
                clear hB
                try simp only [Act.put, List.setIfInBounds_toArray, List.set_cons_zero, List.set_cons_succ, List.getElem_toArray, List.getElem_cons_succ, List.getElem_cons_zero]
                refine wpAnyH_ready (rs := [9]) (by kernel_rfl) (by simp) ?_
                refine AllReadyH.cons rfl (fun K hK => ?_) (AllReadyH.nil)
                have h9 : YB (World.alloc V12 (.cells #[.string x, .int .u64 (y : Nat), .int .u64 (z : Nat), .bool true] 42)) (World.heap V12).size (x, y, z, true) := heap_alloc_last V12 _
                have hB : Below W0.heap.size W0 (World.alloc V12 (.cells #[.string x, .int .u64 (y : Nat), .int .u64 (z : Nat), .bool true] 42)) := hHeld.alloc hHeld.size _
                have HO2 := Lib.hid (own_keep HO.out ((Below.refl _ _).alloc (Nat.le_refl _) (.cells #[.string x, .int .u64 (y : Nat), .int .u64 (z : Nat), .bool true] 42)))
                clear HO
                go_simp
                refine hK.out _ _ hB (fun hHeld2 => ?_)
                clear hK K hHeld hHeld2
                have HB9 := Lib.hid h9
                clear h9
                generalize World.alloc V12 _ = V13 at HB9 hB HO2 ⊢
                generalize (World.heap V12).size = b13 at HB9 ⊢
                have hHeld : (fun W : World => Below W0.heap.size W0 W) V13 := hB
                clear hB
                have HO := HO2
                clear HO2
                try simp only [Act.put, List.setIfInBounds_toArray, List.set_cons_zero, List.set_cons_succ, List.getElem_toArray, List.getElem_cons_succ, List.getElem_cons_zero]
                refine wpAnyH_ready (rs := [10]) (by kernel_rfl) (by simp) ?_
                refine AllReadyH.cons rfl (fun K hK => ?_) (AllReadyH.nil)
                rw [if_pos (by kernel_rfl)]
                refine wp_app_syms (x := .tmp 42) (y := .tmp 47) (base := W0.heap.size) (v := v12) (n := 0 + q) (xs := cellsY [] ++ cellsY (R.take q)) (M := [(x, y, z, true)]) rfl rfl rfl HO.out (.inr ⟨_, rfl, rfl, src_one HB9.out⟩) (by omega) hHeld.size ?_
                intro v9 V9 hown hgr
                have hB := hHeld.grown hgr hHeld.size (fun x e => owns_block HO.out x e)
                refine hK.out _ _ hB (fun hHeld2 => ?_)
                clear hK K hHeld hHeld2 hgr HO HB9
                have HO := Lib.hid hown
                clear hown
                have hHeld : (fun W : World => Below W0.heap.size W0 W) V9 := hB
                clear hB
                try simp only [Act.put, List.setIfInBounds_toArray, List.set_cons_zero, List.set_cons_succ, List.getElem_toArray, List.getElem_cons_succ, List.getElem_cons_zero]
                refine wpAnyH_ready (rs := [14]) (by kernel_rfl) (by simp) ?_
                refine AllReadyH.cons rfl (fun K hK => ?_) (AllReadyH.nil)
                rw [if_pos (by kernel_rfl)]
                refine wp_app_syms (x := .tmp 48) (y := .tmp 51) (base := W0.heap.size) (v := v9) (n := 0 + q + 1) (xs := cellsY [] ++ cellsY (R.take q) ++ cellsY [(x, y, z, true)]) (M := R.drop q) rfl rfl rfl HO.out (HS2.out _ hHeld) (by omega) hHeld.size ?_
                intro v10 V10 hown hgr
                have hB := hHeld.grown hgr hHeld.size (fun x e => owns_block HO.out x e)
                refine hK.out _ _ hB (fun hHeld2 => ?_)
                clear hK K hHeld hHeld2 hgr HO
                have HO := Lib.hid hown
                clear hown
                have hHeld : (fun W : World => Below W0.heap.size W0 W) V10 := hB
                clear hB
                try simp only [Act.put, List.setIfInBounds_toArray, List.set_cons_zero, List.set_cons_succ, List.getElem_toArray, List.getElem_cons_succ, List.getElem_cons_zero]
                refine wpAnyH_take (i := 15) (v := ?_) rfl (by kernel_rfl) (by kernel_rfl) (by kernel_rfl) (fun _ _ _ h => h) (Or.inl ⟨by kernel_rfl, ?_⟩) (by assumption) ?_
                rotate_left
                · intro wv hSw
                  go_simp
                  try with_reducible rfl
                simp only [Act.put, List.setIfInBounds_toArray, List.set_cons_zero, List.set_cons_succ, List.getElem_toArray, List.getElem_cons_succ, List.getElem_cons_zero]
                refine wpAnyH_done (by kernel_rfl) ?_ _
                refine NoPanic.normal ?_
                have HF := Lib.hid (ins_end HLQ.out.1 HLQ.out.2 (by rw [Nat.sub_self]; exact HO.out))
                have HB10 := Lib.hid (HBT.out V10 hHeld)
                have hlen := Lib.hid (ins_len (s := (x, y, z, true)) HLQ.out.1 HLQ.out.2)
                clear hHeld HO HS1 HS2
                obtain ⟨a8, c8, he8, ho8⟩ := HF.out
                subst he8
                have HF8 := Lib.hid ho8
                clear ho8
                go_wp2_with fail
                go_roundw
                case rel => exact ⟨k + 1, a8, c8, R.take q ++ [(x, y, z, true)] ++ R.drop q, by omega, by rw [hlen.out]; omega, by rw [hlen.out], by go_num, by rw [HT2.out]; exact Lib.hid HINS.out, Lib.hid ⟨HF8.out, HB10.out⟩⟩
                case measure => simp [intOf]; omega
              · have h9 : YB (World.alloc V11 (.cells #[.string x, .int .u64 (y : Nat), .int .u64 (z : Nat), .bool true] 42)) (World.heap V11).size (x, y, z, true) := heap_alloc_last V11 _
                have hB : Below W0.heap.size W0 (World.alloc V11 (.cells #[.string x, .int .u64 (y : Nat), .int .u64 (z : Nat), .bool true] 42)) := hHeld.alloc hHeld.size _
                have HO2 := Lib.hid (And.intro (own_keep HO.out ((Below.refl _ _).alloc (Nat.le_refl _) (.cells #[.string x, .int .u64 (y : Nat), .int .u64 (z : Nat), .bool true] 42))) (Nat.ne_of_gt (own_lt HO.out)))
                clear HO
                go_simp
                refine hK.out _ _ hB (fun hHeld2 => ?_)
                clear hK K hHeld hHeld2
                have HB9 := Lib.hid h9
                clear h9
                generalize World.alloc V11 _ = V14 at HB9 hB HO2 ⊢
                generalize (World.heap V11).size = b14 at HB9 HO2 ⊢
                have hHeld : (fun W : World => Below W0.heap.size W0 W) V14 := hB
                clear hB
                try simp only [Act.put, List.setIfInBounds_toArray, List.set_cons_zero, List.set_cons_succ, List.getElem_toArray, List.getElem_cons_succ, List.getElem_cons_zero]
                refine wpAnyH_ready (rs := [4]) (by kernel_rfl) (by simp) ?_
                refine AllReadyH.cons rfl (fun K hK => ?_) (AllReadyH.nil)
                rw [if_pos (by kernel_rfl)]
                refine wp_app_syms (x := .tmp 38) (y := .tmp 41) (base := W0.heap.size) (v := .slice (some ⟨g11, 0, none⟩) 0 0) (n := 0) (xs := cellsY []) (M := R.take q) rfl rfl rfl HO2.out.1 (HS1.out _ hHeld) (by omega) hHeld.size ?_
                intro v15 V15 hown hgr
                have hB := hHeld.grown hgr hHeld.size (fun x e => owns_block HO2.out.1 x e)
                have HB9b := Lib.hid (yb_grown HB9.out hgr HO2.out.2)
                clear HB9
                have HB9 := HB9b
                clear HB9b
                refine hK.out _ _ hB (fun hHeld2 => ?_)
                clear hK K hHeld hHeld2 hgr HO2
                have HO := Lib.hid hown
                clear hown
                have hHeld : (fun W : World => Below W0.heap.size W0 W) V15 := hB
                clear hB
                try simp only [Act.put, List.setIfInBounds_toArray, List.set_cons_zero, List.set_cons_succ, List.getElem_toArray, List.getElem_cons_succ, List.getElem_cons_zero]
                refine wpAnyH_ready (rs := [10]) (by kernel_rfl) (by simp) ?_
                refine AllReadyH.cons rfl (fun K hK => ?_) (AllReadyH.nil)
                rw [if_pos (by kernel_rfl)]
                refine wp_app_syms (x := .tmp 42) (y := .tmp 47) (base := W0.heap.size) (v := v15) (n := 0 + q) (xs := cellsY [] ++ cellsY (R.take q)) (M := [(x, y, z, true)]) rfl rfl rfl HO.out (.inr ⟨_, rfl, rfl, src_one HB9.out⟩) (by omega) hHeld.size ?_
                intro v9 V9 hown hgr
                have hB := hHeld.grown hgr hHeld.size (fun x e => owns_block HO.out x e)
                refine hK.out _ _ hB (fun hHeld2 => ?_)
                clear hK K hHeld hHeld2 hgr HO HB9
                have HO := Lib.hid hown
                clear hown
                have hHeld : (fun W : World => Below W0.heap.size W0 W) V9 := hB
                clear hB
                try simp only [Act.put, List.setIfInBounds_toArray, List.set_cons_zero, List.set_cons_succ, List.getElem_toArray, List.getElem_cons_succ, List.getElem_cons_zero]
                refine wpAnyH_ready (rs := [14]) (by kernel_rfl) (by simp) ?_
                refine AllReadyH.cons rfl (fun K hK => ?_) (AllReadyH.nil)
                rw [if_pos (by kernel_rfl)]
                refine wp_app_syms (x := .tmp 48) (y := .tmp 51) (base := W0.heap.size) (v := v9) (n := 0 + q + 1) (xs := cellsY [] ++ cellsY (R.take q) ++ cellsY [(x, y, z, true)]) (M := R.drop q) rfl rfl rfl HO.out (HS2.out _ hHeld) (by omega) hHeld.size ?_
                intro v10 V10 hown hgr
                have hB := hHeld.grown hgr hHeld.size (fun x e => owns_block HO.out x e)
                refine hK.out _ _ hB (fun hHeld2 => ?_)
                clear hK K hHeld hHeld2 hgr HO
                have HO := Lib.hid hown
                clear hown
                have hHeld : (fun W : World => Below W0.heap.size W0 W) V10 := hB
                clear hB
                try simp only [Act.put, List.setIfInBounds_toArray, List.set_cons_zero, List.set_cons_succ, List.getElem_toArray, List.getElem_cons_succ, List.getElem_cons_zero]
                refine wpAnyH_take (i := 15) (v := ?_) rfl (by kernel_rfl) (by kernel_rfl) (by kernel_rfl) (fun _ _ _ h => h) (Or.inl ⟨by kernel_rfl, ?_⟩) (by assumption) ?_
                rotate_left
                · intro wv hSw
                  go_simp
                  try with_reducible rfl
                simp only [Act.put, List.setIfInBounds_toArray, List.set_cons_zero, List.set_cons_succ, List.getElem_toArray, List.getElem_cons_succ, List.getElem_cons_zero]
                refine wpAnyH_done (by kernel_rfl) ?_ _
                refine NoPanic.normal ?_
                have HF := Lib.hid (ins_end HLQ.out.1 HLQ.out.2 (by rw [Nat.sub_self]; exact HO.out))
                have HB10 := Lib.hid (HBT.out V10 hHeld)
                have hlen := Lib.hid (ins_len (s := (x, y, z, true)) HLQ.out.1 HLQ.out.2)
                clear hHeld HO HS1 HS2
                obtain ⟨a8, c8, he8, ho8⟩ := HF.out
                subst he8
                have HF8 := Lib.hid ho8
                clear ho8
                go_wp2_with fail
                go_roundw
                case rel => exact ⟨k + 1, a8, c8, R.take q ++ [(x, y, z, true)] ++ R.drop q, by omega, by rw [hlen.out]; omega, by rw [hlen.out], by go_num, by rw [HT2.out]; exact Lib.hid HINS.out, Lib.hid ⟨HF8.out, HB10.out⟩⟩
                case measure => simp [intOf]; omega
            · have h9 : YB (World.alloc V5 (.cells #[.string x, .int .u64 (y : Nat), .int .u64 (z : Nat), .bool true] 42)) (World.heap V5).size (x, y, z, true) := heap_alloc_last V5 _
              have hB : Below W0.heap.size W0 (World.alloc V5 (.cells #[.string x, .int .u64 (y : Nat), .int .u64 (z : Nat), .bool true] 42)) := hHeld.alloc hHeld.size _
              go_simp
              refine hK.out _ _ hB (fun hHeld2 => ?_)
              clear hK K hHeld hHeld2
              have HB9 := Lib.hid h9
              clear h9
              generalize World.alloc V5 _ = V16 at HB9 hB ⊢
              generalize (World.heap V5).size = b16 at HB9 ⊢
              have hHeld : (fun W : World => Below W0.heap.size W0 W) V16 := hB
              clear hB
              try simp only [Act.put, List.setIfInBounds_toArray, List.set_cons_zero, List.set_cons_succ, List.getElem_toArray, List.getElem_cons_succ, List.getElem_cons_zero]
              refine wpAnyH_ready (rs := [0]) (by kernel_rfl) (by simp) ?_
              refine AllReadyH.cons rfl (fun K hK => ?_) (AllReadyH.nil)
              have hN := own_emptyY (V := V16) hHeld.size
              have hB : Below W0.heap.size W0 (World.alloc V16 (.cells #[] 42)) := hHeld.alloc hHeld.size _
              have H9 : Hid (YB (World.alloc V16 (.cells #[] 42)) b16 (x, y, z, true) ∧ b16 ≠ (World.heap V16).size) := Lib.hid ⟨YB.keep HB9.out ((Below.refl _ _).alloc (Nat.le_refl _) _), Nat.ne_of_lt (Array.getElem?_eq_some_iff.1 HB9.out).1⟩
              clear HB9
              go_simp
              refine hK.out _ _ hB (fun hHeld2 => ?_)
              clear hK K hHeld hHeld2
              have HO := Lib.hid hN
              clear hN
              generalize World.alloc V16 _ = V17 at HO hB H9 ⊢
              generalize (World.heap V16).size = g17 at HO H9 ⊢
              have hHeld : (fun W : World => Below W0.heap.size W0 W) V17 := hB
              clear hB
              try simp only [Act.put, List.setIfInBounds_toArray, List.set_cons_zero, List.set_cons_succ, List.getElem_toArray, List.getElem_cons_succ, List.getElem_cons_zero]
              refine wpAnyH_ready (rs := [4]) (by kernel_rfl) (by simp) ?_
              refine AllReadyH.cons rfl (fun K hK => ?_) (AllReadyH.nil)
              rw [if_pos (by kernel_rfl)]
              refine wp_app_syms (x := .tmp 38) (y := .tmp 41) (base := W0.heap.size) (v := .slice (some ⟨g17, 0, none⟩) 0 0) (n := 0) (xs := cellsY []) (M := R.take q) rfl rfl rfl HO.out (HS1.out _ hHeld) (by omega) hHeld.size ?_
              intro v18 V18 hown hgr
              have hB := hHeld.grown hgr hHeld.size (fun x e => owns_block HO.out x e)
              have HB9 := Lib.hid (yb_grown H9.out.1 hgr H9.out.2)
              clear H9
              refine hK.out _ _ hB (fun hHeld2 => ?_)
              clear hK K hHeld hHeld2 hgr HO
              have HO := Lib.hid hown
              clear hown
              have hHeld : (fun W : World => Below W0.heap.size W0 W) V18 := hB
              clear hB
              try simp only [Act.put, List.setIfInBounds_toArray, List.set_cons_zero, List.set_cons_succ, List.getElem_toArray, List.getElem_cons_succ, List.getElem_cons_zero]
              refine wpAnyH_ready (rs := [10]) (by kernel_rfl) (by simp) ?_
              refine AllReadyH.cons rfl (fun K hK => ?_) (AllReadyH.nil)
              rw [if_pos (by kernel_rfl)]
              refine wp_app_syms (x := .tmp 42) (y := .tmp 47) (base := W0.heap.size) (v := v18) (n := 0 + q) (xs := cellsY [] ++ cellsY (R.take q)) (M := [(x, y, z, true)]) rfl rfl rfl HO.out (.inr ⟨_, rfl, rfl, src_one HB9.out⟩) (by omega) hHeld.size ?_
              intro v9 V9 hown hgr
              have hB := hHeld.grown hgr hHeld.size (fun x e => owns_block HO.out x e)
              refine hK.out _ _ hB (fun hHeld2 => ?_)
              clear hK K hHeld hHeld2 hgr HO HB9
              have HO := Lib.hid hown
              clear hown
              have hHeld : (fun W : World => Below W0.heap.size W0 W) V9 := hB
              clear hB
              try simp only [Act.put, List.setIfInBounds_toArray, List.set_cons_zero, List.set_cons_succ, List.getElem_toArray, List.getElem_cons_succ, List.getElem_cons_zero]
              refine wpAnyH_ready (rs := [14]) (by kernel_rfl) (by simp) ?_
              refine AllReadyH.cons rfl (fun K hK => ?_) (AllReadyH.nil)
              rw [if_pos (by kernel_rfl)]
              refine wp_app_syms (x := .tmp 48) (y := .tmp 51) (base := W0.heap.size) (v := v9) (n := 0 + q + 1) (xs := cellsY [] ++ cellsY (R.take q) ++ cellsY [(x, y, z, true)]) (M := R.drop q) rfl rfl rfl HO.out (HS2.out _ hHeld) (by omega) hHeld.size ?_
              intro v10 V10 hown hgr
              have hB := hHeld.grown hgr hHeld.size (fun x e => owns_block HO.out x e)
              refine hK.out _ _ hB (fun hHeld2 => ?_)
              clear hK K hHeld hHeld2 hgr HO
              have HO := Lib.hid hown
              clear hown
              have hHeld : (fun W : World => Below W0.heap.size W0 W) V10 := hB
              clear hB
              try simp only [Act.put, List.setIfInBounds_toArray, List.set_cons_zero, List.set_cons_succ, List.getElem_toArray, List.getElem_cons_succ, List.getElem_cons_zero]
              refine wpAnyH_take (i := 15) (v := ?_) rfl (by kernel_rfl) (by kernel_rfl) (by kernel_rfl) (fun _ _ _ h => h) (Or.inl ⟨by kernel_rfl, ?_⟩) (by assumption) ?_
              rotate_left
              · intro wv hSw
                go_simp
                try with_reducible rfl
              simp only [Act.put, List.setIfInBounds_toArray, List.set_cons_zero, List.set_cons_succ, List.getElem_toArray, List.getElem_cons_succ, List.getElem_cons_zero]
              refine wpAnyH_done (by kernel_rfl) ?_ _
              refine NoPanic.normal ?_
              have HF := Lib.hid (ins_end HLQ.out.1 HLQ.out.2 (by rw [Nat.sub_self]; exact HO.out))
              have HB10 := Lib.hid (HBT.out V10 hHeld)
              have hlen := Lib.hid (ins_len (s := (x, y, z, true)) HLQ.out.1 HLQ.out.2)
              clear hHeld HO HS1 HS2
              obtain ⟨a8, c8, he8, ho8⟩ := HF.out
              subst he8
              have HF8 := Lib.hid ho8
              clear ho8
              go_wp2_with fail
              go_roundw
              case rel => exact ⟨k + 1, a8, c8, R.take q ++ [(x, y, z, true)] ++ R.drop q, by omega, by rw [hlen.out]; omega, by rw [hlen.out], by go_num, by rw [HT2.out]; exact Lib.hid HINS.out, Lib.hid ⟨HF8.out, HB10.out⟩⟩
              case measure => simp [intOf]; omega
          · have HS2 : Hid (∀ V, Below W0.heap.size W0 V → SrcY V (some ⟨x2, o2 + q * 4, none⟩) (r - q) (c3 - q) (R.drop q)) := Lib.hid (fun V hb => by
              have h1 := OV.high (HOV.out.1.keep hb) (q := q) (by have := HLQ.out; omega)
              rw [HLQ.out.1] at h1
              exact h1)
            refine wp_region_noPanic ?_
            refine wp_region_held_drew (S := fun W : World => Below W0.heap.size W0 W) (by kernel_rfl) ?_ (fun hHeld => ?_)
            · exact (Below.refl _ _).drew
            generalize World.drew _ = V5 at hHeld ⊢
            refine wpAnyH_take (i := 1) (v := ?_) rfl (by kernel_rfl) (by kernel_rfl) (by kernel_rfl) (fun _ _ _ h => h) (Or.inl ⟨by kernel_rfl, ?_⟩) (by assumption) ?_
            rotate_left
            · intro wv hSw
              go_simp
              try with_reducible rfl
            simp only [Act.put, List.setIfInBounds_toArray, List.set_cons_zero, List.set_cons_succ, List.getElem_toArray, List.getElem_cons_succ, List.getElem_cons_zero]
            refine wpAnyH_take (i := 2) (v := ?_) rfl (by kernel_rfl) (by kernel_rfl) (by kernel_rfl) (fun _ _ _ h => h) (Or.inl ⟨by kernel_rfl, ?_⟩) (by assumption) ?_
            rotate_left
            · intro wv hSw
              go_simp
              try with_reducible rfl
            simp only [Act.put, List.setIfInBounds_toArray, List.set_cons_zero, List.set_cons_succ, List.getElem_toArray, List.getElem_cons_succ, List.getElem_cons_zero]
            refine wpAnyH_take (i := 3) (v := ?_) rfl (by kernel_rfl) (by kernel_rfl) (by kernel_rfl) (fun _ _ _ h => h) (Or.inl ⟨by kernel_rfl, ?_⟩) (by assumption) ?_
            rotate_left
            · intro wv hSw
              go_simp
              try with_reducible rfl
            simp only [Act.put, List.setIfInBounds_toArray, List.set_cons_zero, List.set_cons_succ, List.getElem_toArray, List.getElem_cons_succ, List.getElem_cons_zero]
            refine wpAnyH_take (i := 5) (v := ?_) rfl (by kernel_rfl) (by kernel_rfl) (by kernel_rfl) (fun _ _ _ h => h) (Or.inl ⟨by kernel_rfl, ?_⟩) (by assumption) ?_
            rotate_left
            · intro wv hSw
              go_simp
              try with_reducible rfl
            simp only [Act.put, List.setIfInBounds_toArray, List.set_cons_zero, List.set_cons_succ, List.getElem_toArray, List.getElem_cons_succ, List.getElem_cons_zero]
            refine wpAnyH_take (i := 6) (v := ?_) rfl (by kernel_rfl) (by kernel_rfl) (by kernel_rfl) (fun _ _ _ h => h) (Or.inl ⟨by kernel_rfl, ?_⟩) (by assumption) ?_
            rotate_left
            · intro wv hSw
              go_simp
              try with_reducible rfl
            simp only [Act.put, List.setIfInBounds_toArray, List.set_cons_zero, List.set_cons_succ, List.getElem_toArray, List.getElem_cons_succ, List.getElem_cons_zero]
            refine wpAnyH_take (i := 7) (v := ?_) rfl (by kernel_rfl) (by kernel_rfl) (by kernel_rfl) (fun _ _ _ h => h) (Or.inl ⟨by kernel_rfl, ?_⟩) (by assumption) ?_
            rotate_left
            · intro wv hSw
              go_simp
              try with_reducible rfl
            simp only [Act.put, List.setIfInBounds_toArray, List.set_cons_zero, List.set_cons_succ, List.getElem_toArray, List.getElem_cons_succ, List.getElem_cons_zero]
            refine wpAnyH_take (i := 8) (v := ?_) rfl (by kernel_rfl) (by kernel_rfl) (by kernel_rfl) (fun _ _ _ h => h) (Or.inl ⟨by kernel_rfl, ?_⟩) (by assumption) ?_
            rotate_left
            · intro wv hSw
              have c0 := cell_keep HC.out.1 hSw
              have c1 := cell_keep HC.out.2.1 hSw
              have c2 := cell_keep HC.out.2.2.1 hSw
              have c3 := cell_keep HC.out.2.2.2 hSw
              go_simp
              try with_reducible rfl
            simp only [Act.put, List.setIfInBounds_toArray, List.set_cons_zero, List.set_cons_succ, List.getElem_toArray, List.getElem_cons_succ, List.getElem_cons_zero]
            refine wpAnyH_take (i := 11) (v := ?_) rfl (by kernel_rfl) (by kernel_rfl) (by kernel_rfl) (fun _ _ _ h => h) (Or.inl ⟨by kernel_rfl, ?_⟩) (by assumption) ?_
            rotate_left
            · intro wv hSw
              go_simp
              try with_reducible rfl
            simp only [Act.put, List.setIfInBounds_toArray, List.set_cons_zero, List.set_cons_succ, List.getElem_toArray, List.getElem_cons_succ, List.getElem_cons_zero]
            refine wpAnyH_take (i := 12) (v := ?_) rfl (by kernel_rfl) (by kernel_rfl) (by kernel_rfl) (fun _ _ _ h => h) (Or.inl ⟨by kernel_rfl, ?_⟩) (by assumption) ?_
            rotate_left
            · intro wv hSw
              go_simp
              try with_reducible rfl
            simp only [Act.put, List.setIfInBounds_toArray, List.set_cons_zero, List.set_cons_succ, List.getElem_toArray, List.getElem_cons_succ, List.getElem_cons_zero]
            refine wpAnyH_take (i := 13) (v := ?_) rfl (by kernel_rfl) (by kernel_rfl) (by kernel_rfl) (fun _ _ _ h => h) (Or.inl ⟨by kernel_rfl, ?_⟩) (by assumption) ?_
            rotate_left
            · intro wv hSw
              go_simp
              try with_reducible rfl
            simp only [Act.put, List.setIfInBounds_toArray, List.set_cons_zero, List.set_cons_succ, List.getElem_toArray, List.getElem_cons_succ, List.getElem_cons_zero]
            refine wpAnyH_ready (rs := [0, 9]) (by kernel_rfl) (by simp) ?_
            refine AllReadyH.cons rfl (fun K hK => ?_) (AllReadyH.cons rfl (fun K hK => ?_) (AllReadyH.nil))
            · have hN := own_emptyY (V := V5) hHeld.size
              have hB : Below W0.heap.size W0 (World.alloc V5 (.cells #[] 42)) := hHeld.alloc hHeld.size _
              go_simp
              refine hK.out _ _ hB (fun hHeld2 => ?_)
              clear hK K hHeld hHeld2
              have HO := Lib.hid hN
              clear hN
              generalize World.alloc V5 _ = V11 at HO hB ⊢
              generalize (World.heap V5).size = g11 at HO ⊢
              have hHeld : (fun W : World => Below W0.heap.size W0 W) V11 := hB
              clear hB
              try simp only [Act.put, List.setIfInBounds_toArray, List.set_cons_zero, List.set_cons_succ, List.getElem_toArray, List.getElem_cons_succ, List.getElem_cons_zero]
              refine wpAnyH_ready (rs := [4, 9]) (by kernel_rfl) (by simp) ?_
              refine AllReadyH.cons rfl (fun K hK => ?_) (AllReadyH.cons rfl (fun K hK => ?_) (AllReadyH.nil))
              · rw [if_pos (by kernel_rfl)]
                refine wp_app_syms (x := .tmp 38) (y := .tmp 41) (base := W0.heap.size) (v := .slice (some ⟨g11, 0, none⟩) 0 0) (n := 0) (xs := cellsY []) (M := R.take q) rfl rfl rfl HO.out (HS1.out _ hHeld) (by omega) hHeld.size ?_
                intro v12 V12 hown hgr
                have hB := hHeld.grown hgr hHeld.size (fun x e => owns_block HO.out x e)
                refine hK.out _ _ hB (fun hHeld2 => ?_)
                clear hK K hHeld hHeld2 hgr HO
                have HO := Lib.hid hown
                clear hown
                have hHeld : (fun W : World => Below W0.heap.size W0 W) V12 := hB
                clear hB
                try simp only [Act.put, List.setIfInBounds_toArray, List.set_cons_zero, List.set_cons_succ, List.getElem_toArray, List.getElem_cons_succ, List.getElem_cons_zero]
                refine wpAnyH_ready (rs := [9]) (by kernel_rfl) (by simp) ?_
                refine AllReadyH.cons rfl (fun K hK => ?_) (AllReadyH.nil)
                have h9 : YB (World.alloc V12 (.cells #[.string x, .int .u64 (y : Nat), .int .u64 (z : Nat), .bool true] 42)) (World.heap V12).size (x, y, z, true) := heap_alloc_last V12 _
                have hB : Below W0.heap.size W0 (World.alloc V12 (.cells #[.string x, .int .u64 (y : Nat), .int .u64 (z : Nat), .bool true] 42)) := hHeld.alloc hHeld.size _
                have HO2 := Lib.hid (own_keep HO.out ((Below.refl _ _).alloc (Nat.le_refl _) (.cells #[.string x, .int .u64 (y : Nat), .int .u64 (z : Nat), .bool true] 42)))
                clear HO
                go_simp
                refine hK.out _ _ hB (fun hHeld2 => ?_)
                clear hK K hHeld hHeld2
                have HB9 := Lib.hid h9
                clear h9
                generalize World.alloc V12 _ = V13 at HB9 hB HO2 ⊢
                generalize (World.heap V12).size = b13 at HB9 ⊢
                have hHeld : (fun W : World => Below W0.heap.size W0 W) V13 := hB
                clear hB
                have HO := HO2
                clear HO2
                try simp only [Act.put, List.setIfInBounds_toArray, List.set_cons_zero, List.set_cons_succ, List.getElem_toArray, List.getElem_cons_succ, List.getElem_cons_zero]
                refine wpAnyH_ready (rs := [10]) (by kernel_rfl) (by simp) ?_
                refine AllReadyH.cons rfl (fun K hK => ?_) (AllReadyH.nil)
                rw [if_pos (by kernel_rfl)]
                refine wp_app_syms (x := .tmp 42) (y := .tmp 47) (base := W0.heap.size) (v := v12) (n := 0 + q) (xs := cellsY [] ++ cellsY (R.take q)) (M := [(x, y, z, true)]) rfl rfl rfl HO.out (.inr ⟨_, rfl, rfl, src_one HB9.out⟩) (by omega) hHeld.size ?_
                intro v9 V9 hown hgr
                have hB := hHeld.grown hgr hHeld.size (fun x e => owns_block HO.out x e)
                refine hK.out _ _ hB (fun hHeld2 => ?_)
                clear hK K hHeld hHeld2 hgr HO HB9
                have HO := Lib.hid hown
                clear hown
                have hHeld : (fun W : World => Below W0.heap.size W0 W) V9 := hB
                clear hB
                try simp only [Act.put, List.setIfInBounds_toArray, List.set_cons_zero, List.set_cons_succ, List.getElem_toArray, List.getElem_cons_succ, List.getElem_cons_zero]
                refine wpAnyH_ready (rs := [14]) (by kernel_rfl) (by simp) ?_
                refine AllReadyH.cons rfl (fun K hK => ?_) (AllReadyH.nil)
                rw [if_pos (by kernel_rfl)]
                refine wp_app_syms (x := .tmp 48) (y := .tmp 51) (base := W0.heap.size) (v := v9) (n := 0 + q + 1) (xs := cellsY [] ++ cellsY (R.take q) ++ cellsY [(x, y, z, true)]) (M := R.drop q) rfl rfl rfl HO.out (HS2.out _ hHeld) (by omega) hHeld.size ?_
                intro v10 V10 hown hgr
                have hB := hHeld.grown hgr hHeld.size (fun x e => owns_block HO.out x e)
                refine hK.out _ _ hB (fun hHeld2 => ?_)
                clear hK K hHeld hHeld2 hgr HO
                have HO := Lib.hid hown
                clear hown
                have hHeld : (fun W : World => Below W0.heap.size W0 W) V10 := hB
                clear hB
                try simp only [Act.put, List.setIfInBounds_toArray, List.set_cons_zero, List.set_cons_succ, List.getElem_toArray, List.getElem_cons_succ, List.getElem_cons_zero]
                refine wpAnyH_take (i := 15) (v := ?_) rfl (by kernel_rfl) (by kernel_rfl) (by kernel_rfl) (fun _ _ _ h => h) (Or.inl ⟨by kernel_rfl, ?_⟩) (by assumption) ?_
                rotate_left
                · intro wv hSw
                  go_simp
                  try with_reducible rfl
                simp only [Act.put, List.setIfInBounds_toArray, List.set_cons_zero, List.set_cons_succ, List.getElem_toArray, List.getElem_cons_succ, List.getElem_cons_zero]
                refine wpAnyH_done (by kernel_rfl) ?_ _
                refine NoPanic.normal ?_
                have HF := Lib.hid (ins_end HLQ.out.1 HLQ.out.2 HO.out)
                have HB10 := Lib.hid (HBT.out V10 hHeld)
                have hlen := Lib.hid (ins_len (s := (x, y, z, true)) HLQ.out.1 HLQ.out.2)
                clear hHeld HO HS1 HS2
                obtain ⟨a8, c8, he8, ho8⟩ := HF.out
                subst he8
                have HF8 := Lib.hid ho8
                clear ho8
                go_wp2_with fail
                go_roundw
                case rel => exact ⟨k + 1, a8, c8, R.take q ++ [(x, y, z, true)] ++ R.drop q, by omega, by rw [hlen.out]; omega, by rw [hlen.out], by go_num, by rw [HT2.out]; exact Lib.hid HINS.out, Lib.hid ⟨HF8.out, HB10.out⟩⟩
                case measure => simp [intOf]; omega
              · have h9 : YB (World.alloc V11 (.cells #[.string x, .int .u64 (y : Nat), .int .u64 (z : Nat), .bool true] 42)) (World.heap V11).size (x, y, z, true) := heap_alloc_last V11 _
                have hB : Below W0.heap.size W0 (World.alloc V11 (.cells #[.string x, .int .u64 (y : Nat), .int .u64 (z : Nat), .bool true] 42)) := hHeld.alloc hHeld.size _
                have HO2 := Lib.hid (And.intro (own_keep HO.out ((Below.refl _ _).alloc (Nat.le_refl _) (.cells #[.string x, .int .u64 (y : Nat), .int .u64 (z : Nat), .bool true] 42))) (Nat.ne_of_gt (own_lt HO.out)))
                clear HO
                go_simp
                refine hK.out _ _ hB (fun hHeld2 => ?_)
                clear hK K hHeld hHeld2
                have HB9 := Lib.hid h9
                clear h9
                generalize World.alloc V11 _ = V14 at HB9 hB HO2 ⊢
                generalize (World.heap V11).size = b14 at HB9 HO2 ⊢
                have hHeld : (fun W : World => Below W0.heap.size W0 W) V14 := hB
                clear hB
                try simp only [Act.put, List.setIfInBounds_toArray, List.set_cons_zero, List.set_cons_succ, List.getElem_toArray, List.getElem_cons_succ, List.getElem_cons_zero]
                refine wpAnyH_ready (rs := [4]) (by kernel_rfl) (by simp) ?_
                refine AllReadyH.cons rfl (fun K hK => ?_) (AllReadyH.nil)
                rw [if_pos (by kernel_rfl)]
                refine wp_app_syms (x := .tmp 38) (y := .tmp 41) (base := W0.heap.size) (v := .slice (some ⟨g11, 0, none⟩) 0 0) (n := 0) (xs := cellsY []) (M := R.take q) rfl rfl rfl HO2.out.1 (HS1.out _ hHeld) (by omega) hHeld.size ?_
                intro v15 V15 hown hgr
                have hB := hHeld.grown hgr hHeld.size (fun x e => owns_block HO2.out.1 x e)
                have HB9b := Lib.hid (yb_grown HB9.out hgr HO2.out.2)
                clear HB9
                have HB9 := HB9b
                clear HB9b
                refine hK.out _ _ hB (fun hHeld2 => ?_)
                clear hK K hHeld hHeld2 hgr HO2
                have HO := Lib.hid hown
                clear hown
                have hHeld : (fun W : World => Below W0.heap.size W0 W) V15 := hB
                clear hB
                try simp only [Act.put, List.setIfInBounds_toArray, List.set_cons_zero, List.set_cons_succ, List.getElem_toArray, List.getElem_cons_succ, List.getElem_cons_zero]
                refine wpAnyH_ready (rs := [10]) (by kernel_rfl) (by simp) ?_
                refine AllReadyH.cons rfl (fun K hK => ?_) (AllReadyH.nil)
                rw [if_pos (by kernel_rfl)]
                refine wp_app_syms (x := .tmp 42) (y := .tmp 47) (base := W0.heap.size) (v := v15) (n := 0 + q) (xs := cellsY [] ++ cellsY (R.take q)) (M := [(x, y, z, true)]) rfl rfl rfl HO.out (.inr ⟨_, rfl, rfl, src_one HB9.out⟩) (by omega) hHeld.size ?_
                intro v9 V9 hown hgr
                have hB := hHeld.grown hgr hHeld.size (fun x e => owns_block HO.out x e)
                refine hK.out _ _ hB (fun hHeld2 => ?_)
                clear hK K hHeld hHeld2 hgr HO HB9
                have HO := Lib.hid hown
                clear hown
                have hHeld : (fun W : World => Below W0.heap.size W0 W) V9 := hB
                clear hB
                try simp only [Act.put, List.setIfInBounds_toArray, List.set_cons_zero, List.set_cons_succ, List.getElem_toArray, List.getElem_cons_succ, List.getElem_cons_zero]
                refine wpAnyH_ready (rs := [14]) (by kernel_rfl) (by simp) ?_
                refine AllReadyH.cons rfl (fun K hK => ?_) (AllReadyH.nil)
                rw [if_pos (by kernel_rfl)]
                refine wp_app_syms (x := .tmp 48) (y := .tmp 51) (base := W0.heap.size) (v := v9) (n := 0 + q + 1) (xs := cellsY [] ++ cellsY (R.take q) ++ cellsY [(x, y, z, true)]) (M := R.drop q) rfl rfl rfl HO.out (HS2.out _ hHeld) (by omega) hHeld.size ?_
                intro v10 V10 hown hgr
                have hB := hHeld.grown hgr hHeld.size (fun x e => owns_block HO.out x e)
                refine hK.out _ _ hB (fun hHeld2 => ?_)
                clear hK K hHeld hHeld2 hgr HO
                have HO := Lib.hid hown
                clear hown
                have hHeld : (fun W : World => Below W0.heap.size W0 W) V10 := hB
                clear hB
                try simp only [Act.put, List.setIfInBounds_toArray, List.set_cons_zero, List.set_cons_succ, List.getElem_toArray, List.getElem_cons_succ, List.getElem_cons_zero]
                refine wpAnyH_take (i := 15) (v := ?_) rfl (by kernel_rfl) (by kernel_rfl) (by kernel_rfl) (fun _ _ _ h => h) (Or.inl ⟨by kernel_rfl, ?_⟩) (by assumption) ?_
                rotate_left
                · intro wv hSw
                  go_simp
                  try with_reducible rfl
                simp only [Act.put, List.setIfInBounds_toArray, List.set_cons_zero, List.set_cons_succ, List.getElem_toArray, List.getElem_cons_succ, List.getElem_cons_zero]
                refine wpAnyH_done (by kernel_rfl) ?_ _
                refine NoPanic.normal ?_
                have HF := Lib.hid (ins_end HLQ.out.1 HLQ.out.2 HO.out)
                have HB10 := Lib.hid (HBT.out V10 hHeld)
                have hlen := Lib.hid (ins_len (s := (x, y, z, true)) HLQ.out.1 HLQ.out.2)
                clear hHeld HO HS1 HS2
                obtain ⟨a8, c8, he8, ho8⟩ := HF.out
                subst he8
                have HF8 := Lib.hid ho8
                clear ho8
                go_wp2_with fail
                go_roundw
                case rel => exact ⟨k + 1, a8, c8, R.take q ++ [(x, y, z, true)] ++ R.drop q, by omega, by rw [hlen.out]; omega, by rw [hlen.out], by go_num, by rw [HT2.out]; exact Lib.hid HINS.out, Lib.hid ⟨HF8.out, HB10.out⟩⟩
                case measure => simp [intOf]; omega
            · have h9 : YB (World.alloc V5 (.cells #[.string x, .int .u64 (y : Nat), .int .u64 (z : Nat), .bool true] 42)) (World.heap V5).size (x, y, z, true) := heap_alloc_last V5 _
              have hB : Below W0.heap.size W0 (World.alloc V5 (.cells #[.string x, .int .u64 (y : Nat), .int .u64 (z : Nat), .bool true] 42)) := hHeld.alloc hHeld.size _
              go_simp
              refine hK.out _ _ hB (fun hHeld2 => ?_)
              clear hK K hHeld hHeld2
              have HB9 := Lib.hid h9
              clear h9
              generalize World.alloc V5 _ = V16 at HB9 hB ⊢
              generalize (World.heap V5).size = b16 at HB9 ⊢
              have hHeld : (fun W : World => Below W0.heap.size W0 W) V16 := hB
              clear hB
              try simp only [Act.put, List.setIfInBounds_toArray, List.set_cons_zero, List.set_cons_succ, List.getElem_toArray, List.getElem_cons_succ, List.getElem_cons_zero]
              refine wpAnyH_ready (rs := [0]) (by kernel_rfl) (by simp) ?_
              refine AllReadyH.cons rfl (fun K hK => ?_) (AllReadyH.nil)
              have hN := own_emptyY (V := V16) hHeld.size
              have hB : Below W0.heap.size W0 (World.alloc V16 (.cells #[] 42)) := hHeld.alloc hHeld.size _
              have H9 : Hid (YB (World.alloc V16 (.cells #[] 42)) b16 (x, y, z, true) ∧ b16 ≠ (World.heap V16).size) := Lib.hid ⟨YB.keep HB9.out ((Below.refl _ _).alloc (Nat.le_refl _) _), Nat.ne_of_lt (Array.getElem?_eq_some_iff.1 HB9.out).1⟩
              clear HB9
              go_simp
              refine hK.out _ _ hB (fun hHeld2 => ?_)
              clear hK K hHeld hHeld2
              have HO := Lib.hid hN
              clear hN
              generalize World.alloc V16 _ = V17 at HO hB H9 ⊢
              generalize (World.heap V16).size = g17 at HO H9 ⊢
              have hHeld : (fun W : World => Below W0.heap.size W0 W) V17 := hB
              clear hB
              try simp only [Act.put, List.setIfInBounds_toArray, List.set_cons_zero, List.set_cons_succ, List.getElem_toArray, List.getElem_cons_succ, List.getElem_cons_zero]
              refine wpAnyH_ready (rs := [4]) (by kernel_rfl) (by simp) ?_
              refine AllReadyH.cons rfl (fun K hK => ?_) (AllReadyH.nil)
              rw [if_pos (by kernel_rfl)]
              refine wp_app_syms (x := .tmp 38) (y := .tmp 41) (base := W0.heap.size) (v := .slice (some ⟨g17, 0, none⟩) 0 0) (n := 0) (xs := cellsY []) (M := R.take q) rfl rfl rfl HO.out (HS1.out _ hHeld) (by omega) hHeld.size ?_
              intro v18 V18 hown hgr
              have hB := hHeld.grown hgr hHeld.size (fun x e => owns_block HO.out x e)
              have HB9 := Lib.hid (yb_grown H9.out.1 hgr H9.out.2)
              clear H9
              refine hK.out _ _ hB (fun hHeld2 => ?_)
              clear hK K hHeld hHeld2 hgr HO
              have HO := Lib.hid hown
              clear hown
              have hHeld : (fun W : World => Below W0.heap.size W0 W) V18 := hB
              clear hB
              try simp only [Act.put, List.setIfInBounds_toArray, List.set_cons_zero, List.set_cons_succ, List.getElem_toArray, List.getElem_cons_succ, List.getElem_cons_zero]
              refine wpAnyH_ready (rs := [10]) (by kernel_rfl) (by simp) ?_
              refine AllReadyH.cons rfl (fun K hK => ?_) (AllReadyH.nil)
              rw [if_pos (by kernel_rfl)]
              refine wp_app_syms (x := .tmp 42) (y := .tmp 47) (base := W0.heap.size) (v := v18) (n := 0 + q) (xs := cellsY [] ++ cellsY (R.take q)) (M := [(x, y, z, true)]) rfl rfl rfl HO.out (.inr ⟨_, rfl, rfl, src_one HB9.out⟩) (by omega) hHeld.size ?_
              intro v9 V9 hown hgr
              have hB := hHeld.grown hgr hHeld.size (fun x e => owns_block HO.out x e)
              refine hK.out _ _ hB (fun hHeld2 => ?_)
              clear hK K hHeld hHeld2 hgr HO HB9
              have HO := Lib.hid hown
              clear hown
              have hHeld : (fun W : World => Below W0.heap.size W0 W) V9 := hB
              clear hB
              try simp only [Act.put, List.setIfInBounds_toArray, List.set_cons_zero, List.set_cons_succ, List.getElem_toArray, List.getElem_cons_succ, List.getElem_cons_zero]
              refine wpAnyH_ready (rs := [14]) (by kernel_rfl) (by simp) ?_
              refine AllReadyH.cons rfl (fun K hK => ?_) (AllReadyH.nil)
              rw [if_pos (by kernel_rfl)]
              refine wp_app_syms (x := .tmp 48) (y := .tmp 51) (base := W0.heap.size) (v := v9) (n := 0 + q + 1) (xs := cellsY [] ++ cellsY (R.take q) ++ cellsY [(x, y, z, true)]) (M := R.drop q) rfl rfl rfl HO.out (HS2.out _ hHeld) (by omega) hHeld.size ?_
              intro v10 V10 hown hgr
              have hB := hHeld.grown hgr hHeld.size (fun x e => owns_block HO.out x e)
              refine hK.out _ _ hB (fun hHeld2 => ?_)
              clear hK K hHeld hHeld2 hgr HO
              have HO := Lib.hid hown
              clear hown
              have hHeld : (fun W : World => Below W0.heap.size W0 W) V10 := hB
              clear hB
              try simp only [Act.put, List.setIfInBounds_toArray, List.set_cons_zero, List.set_cons_succ, List.getElem_toArray, List.getElem_cons_succ, List.getElem_cons_zero]
              refine wpAnyH_take (i := 15) (v := ?_) rfl (by kernel_rfl) (by kernel_rfl) (by kernel_rfl) (fun _ _ _ h => h) (Or.inl ⟨by kernel_rfl, ?_⟩) (by assumption) ?_
              rotate_left
              · intro wv hSw
                go_simp
                try with_reducible rfl
              simp only [Act.put, List.setIfInBounds_toArray, List.set_cons_zero, List.set_cons_succ, List.getElem_toArray, List.getElem_cons_succ, List.getElem_cons_zero]
              refine wpAnyH_done (by kernel_rfl) ?_ _
              refine NoPanic.normal ?_
              have HF := Lib.hid (ins_end HLQ.out.1 HLQ.out.2 HO.out)
              have HB10 := Lib.hid (HBT.out V10 hHeld)
              have hlen := Lib.hid (ins_len (s := (x, y, z, true)) HLQ.out.1 HLQ.out.2)
              clear hHeld HO HS1 HS2
              obtain ⟨a8, c8, he8, ho8⟩ := HF.out
              subst he8
              have HF8 := Lib.hid ho8
              clear ho8
              go_wp2_with fail
              go_roundw
              case rel => exact ⟨k + 1, a8, c8, R.take q ++ [(x, y, z, true)] ++ R.drop q, by omega, by rw [hlen.out]; omega, by rw [hlen.out], by go_num, by rw [HT2.out]; exact Lib.hid HINS.out, Lib.hid ⟨HF8.out, HB10.out⟩⟩
              case measure => simp [intOf]; omega
      · obtain ⟨j1, hj1⟩ : ∃ j, q = j + 1 := ⟨q - 1, by omega⟩
        obtain ⟨t, ht⟩ : ∃ s, R[j1]? = some s := ⟨R[j1]'(by have := HLR.out; omega), List.getElem?_eq_getElem _⟩
        obtain ⟨x2, o2, ha2, g0, g1, g2, g3⟩ := Sy_at (HC1.out wr HB2.out).2.1.1 ht
        obtain ⟨⟨_, f1, _⟩, _⟩ := HC1.out wr HB2.out
        subst ha2
        obtain ⟨x', y', z', fn'⟩ := t
        dsimp only at g0 g1 g2 g3
        have HB3 : Hid (∀ i, Below B1 W1 (wr.drewN i)) := Lib.hid (fun i => below_drewN HB2.out i)
        have hz1 : (0 : Int) < (q : Int) := by omega
        have hz2 : 0 < q := by omega
        have ej : (q : Int) - 1 = (j1 : Int) := by omega
        have uj : IntKind.i64.wrap (j1 : Int) = (j1 : Int) := IntWalk.i64_in _ (by omega)
        have bj : (j1 : Int) < (r : Int) := by omega
        have bjN : j1 < r := by omega
        have HTT := Lib.hid (And.intro hj1 ht)
        clear HB2 g0 g2 g3 ht hj1 hq0
        by_cases hgo : y < y'
        · have hgo1 : (y : Int) < (y' : Int) := by omega
          have HGT2 : Hid (∀ j t, j1 ≤ j → R[j]? = some t → y < t.2.1) := Lib.hid (fun j t hj ht => by
            by_cases e : j = j1
            · subst e
              rw [HTT.out.2] at ht
              cases ht
              exact hgo
            · exact HGT.out j t (by have := HTT.out.1; omega) ht)
          clear HGT
          have mixed := mixedT
          go_wp2_with fail
          go_big_quiet_o (fail)
          clear g1 f1 hgo hgo1
          go_wp2_with fail
          go_roundw
          case rel => exact ⟨j1, by omega, by go_num, HGT2, Lib.hid (HB3.out _)⟩
          case measure => have := HTT.out.1; simp [intOf]; omega
        · have hgo1 : ¬ (y : Int) < (y' : Int) := by omega
          have HINS := Lib.hid (ins_ok (s := (x, y, z, true)) (q := q) HUK.out.1 HUK.out.2 (by have := HLR.out; omega) HGT.out (fun t _ ht => by
            have e : q - 1 = j1 := by have := HTT.out.1; omega
            rw [e, HTT.out.2] at ht
            cases ht
            exact Nat.not_lt.1 hgo))
          clear HGT
          have mixed := mixedT
          go_wp2_with fail
          go_big_quiet_o (fail)
          clear g1 f1 hgo hgo1 ej uj bj bjN hz1
          go_wp2_with fail
          have HB4 := Lib.hid (HB3.out nq)
          clear HB3
          generalize wr.drewN nq = W0 at HB4 ⊢
          have HC := Lib.hid (HC1.out W0 HB4.out).1
          have HOV := Lib.hid (HC1.out W0 HB4.out).2
          clear HC1
          have HBT : Hid (∀ V, Below W0.heap.size W0 V → Below w.heap.size w V) := Lib.hid (fun V hb => HOV.out.2.trans (hb.mono HOV.out.2.size))
          have HLQ : Hid (R.length = r ∧ q ≤ r) := Lib.hid ⟨HLR.out, hq⟩
          have hrc : r ≤ c3 := by have := HOV.out.1.2.1; have := HLR.out; omega
          have hcm : c3 ≤ 9223372036854775807 := HOV.out.1.2.2.1
          have HS1 : Hid (∀ V, Below W0.heap.size W0 V → SrcY V (some ⟨x2, o2, none⟩) q c3 (R.take q)) := Lib.hid (fun V hb => OV.low (HOV.out.1.keep hb) (by have := HLQ.out; omega))
          have hi1 : (q : Int) ≤ (r : Int) := by omega
          have hi2 : (r : Int) ≤ (c3 : Int) := by omega
          have hi3 : (q : Int) ≤ (c3 : Int) := by omega
          have hNn : r ≤ 100000 := by omega
          by_cases hcq : c3 = q
          · have HS2 : Hid (∀ V, Below W0.heap.size W0 V → SrcY V (some ⟨x2, o2, none⟩) (r - q) 0 (R.drop q)) := Lib.hid (fun V hb => .inr ⟨_, rfl, by rw [List.length_drop, HLQ.out.1], fun j u hu => by
              have hj := (List.getElem?_eq_some_iff.1 hu).1
              rw [cellsY_len, List.length_drop, HLQ.out.1] at hj
              omega⟩)
            obtain rfl : q = c3 := hcq.symm
            obtain rfl : q = r := by omega
            rw [Nat.sub_self] at HS2
            refine wp_region_noPanic ?_
            refine wp_region_held_drew (S := fun W : World => Below W0.heap.size W0 W) (by kernel_rfl) ?_ (fun hHeld => ?_)
            · exact (Below.refl _ _).drew
            generalize World.drew _ = V5 at hHeld ⊢
            refine wpAnyH_take (i := 1) (v := ?_) rfl (by kernel_rfl) (by kernel_rfl) (by kernel_rfl) (fun _ _ _ h => h) (Or.inl ⟨by kernel_rfl, ?_⟩) (by assumption) ?_
            rotate_left
            · intro wv hSw
              go_simp
              try with_reducible rfl
            simp only [Act.put, List.setIfInBounds_toArray, List.set_cons_zero, List.set_cons_succ, List.getElem_toArray, List.getElem_cons_succ, List.getElem_cons_zero]
            refine wpAnyH_take (i := 2) (v := ?_) rfl (by kernel_rfl) (by kernel_rfl) (by kernel_rfl) (fun _ _ _ h => h) (Or.inl ⟨by kernel_rfl, ?_⟩) (by assumption) ?_
            rotate_left
            · intro wv hSw
              go_simp
              try with_reducible rfl
            simp only [Act.put, List.setIfInBounds_toArray, List.set_cons_zero, List.set_cons_succ, List.getElem_toArray, List.getElem_cons_succ, List.getElem_cons_zero]
            refine wpAnyH_take (i := 3) (v := ?_) rfl (by kernel_rfl) (by kernel_rfl) (by kernel_rfl) (fun _ _ _ h => h) (Or.inl ⟨by kernel_rfl, ?_⟩) (by assumption) ?_
            rotate_left
            · intro wv hSw
              go_simp
              try with_reducible rfl
            simp only [Act.put, List.setIfInBounds_toArray, List.set_cons_zero, List.set_cons_succ, List.getElem_toArray, List.getElem_cons_succ, List.getElem_cons_zero]
            refine wpAnyH_take (i := 5) (v := ?_) rfl (by kernel_rfl) (by kernel_rfl) (by kernel_rfl) (fun _ _ _ h => h) (Or.inl ⟨by kernel_rfl, ?_⟩) (by assumption) ?_
            rotate_left
            · intro wv hSw
              go_simp
              try with_reducible rfl
            simp only [Act.put, List.setIfInBounds_toArray, List.set_cons_zero, List.set_cons_succ, List.getElem_toArray, List.getElem_cons_succ, List.getElem_cons_zero]
            refine wpAnyH_take (i := 6) (v := ?_) rfl (by kernel_rfl) (by kernel_rfl) (by kernel_rfl) (fun _ _ _ h => h) (Or.inl ⟨by kernel_rfl, ?_⟩) (by assumption) ?_
            rotate_left
            · intro wv hSw
              go_simp
              try with_reducible rfl
            simp only [Act.put, List.setIfInBounds_toArray, List.set_cons_zero, List.set_cons_succ, List.getElem_toArray, List.getElem_cons_succ, List.getElem_cons_zero]
            refine wpAnyH_take (i := 7) (v := ?_) rfl (by kernel_rfl) (by kernel_rfl) (by kernel_rfl) (fun _ _ _ h => h) (Or.inl ⟨by kernel_rfl, ?_⟩) (by assumption) ?_
            rotate_left
            · intro wv hSw
              go_simp
              try with_reducible rfl
            simp only [Act.put, List.setIfInBounds_toArray, List.set_cons_zero, List.set_cons_succ, List.getElem_toArray, List.getElem_cons_succ, List.getElem_cons_zero]
            refine wpAnyH_take (i := 8) (v := ?_) rfl (by kernel_rfl) (by kernel_rfl) (by kernel_rfl) (fun _ _ _ h => h) (Or.inl ⟨by kernel_rfl, ?_⟩) (by assumption) ?_
            rotate_left
            · intro wv hSw
              have c0 := cell_keep HC.out.1 hSw
              have c1 := cell_keep HC.out.2.1 hSw
              have c2 := cell_keep HC.out.2.2.1 hSw
              have c3 := cell_keep HC.out.2.2.2 hSw
              go_simp
              try with_reducible rfl
            simp only [Act.put, List.setIfInBounds_toArray, List.set_cons_zero, List.set_cons_succ, List.getElem_toArray, List.getElem_cons_succ, List.getElem_cons_zero]
            refine wpAnyH_take (i := 11) (v := ?_) rfl (by kernel_rfl) (by kernel_rfl) (by kernel_rfl) (fun _ _ _ h => h) (Or.inl ⟨by kernel_rfl, ?_⟩) (by assumption) ?_
            rotate_left
            · intro wv hSw
              go_simp
              try with_reducible rfl
            simp only [Act.put, List.setIfInBounds_toArray, List.set_cons_zero, List.set_cons_succ, List.getElem_toArray, List.getElem_cons_succ, List.getElem_cons_zero]
            refine wpAnyH_take (i := 12) (v := ?_) rfl (by kernel_rfl) (by kernel_rfl) (by kernel_rfl) (fun _ _ _ h => h) (Or.inl ⟨by kernel_rfl, ?_⟩) (by assumption) ?_
            rotate_left
            · intro wv hSw
              go_simp
              try with_reducible rfl
            simp only [Act.put, List.setIfInBounds_toArray, List.set_cons_zero, List.set_cons_succ, List.getElem_toArray, List.getElem_cons_succ, List.getElem_cons_zero]
            refine wpAnyH_take (i := 13) (v := ?_) rfl (by kernel_rfl) (by kernel_rfl) (by kernel_rfl) (fun _ _ _ h => h) (Or.inl ⟨by kernel_rfl, ?_⟩) (by assumption) ?_
            rotate_left
            · intro wv hSw
              go_simp
              try with_reducible rfl
            simp only [Act.put, List.setIfInBounds_toArray, List.set_cons_zero, List.set_cons_succ, List.getElem_toArray, List.getElem_cons_succ, List.getElem_cons_zero]
            refine wpAnyH_ready (rs := [0, 9]) (by kernel_rfl) (by simp) ?_
            refine AllReadyH.cons rfl (fun K hK => ?_) (AllReadyH.cons rfl (fun K hK => ?_) (AllReadyH.nil))
            · have hN := own_emptyY (V := V5) hHeld.size
              have hB : Below W0.heap.size W0 (World.alloc V5 (.cells #[] 42)) := hHeld.alloc hHeld.size _
              go_simp
              refine hK.out _ _ hB (fun hHeld2 => ?_)
              clear hK K hHeld hHeld2
              have HO := Lib.hid hN
              clear hN
              generalize World.alloc V5 _ = V11 at HO hB ⊢
              generalize (World.heap V5).size = g11 at HO ⊢
              have hHeld : (fun W : World => Below W0.heap.size W0 W) V11 := hB
              clear hB
              try simp only [Act.put, List.setIfInBounds_toArray, List.set_cons_zero, List.set_cons_succ, List.getElem_toArray, List.getElem_cons_succ, List.getElem_cons_zero]
              refine wpAnyH_ready (rs := [4, 9]) (by kernel_rfl) (by simp) ?_
              refine AllReadyH.cons rfl (fun K hK => ?_) (AllReadyH.cons rfl (fun K hK => ?_) (AllReadyH.nil))
              · rw [if_pos (by kernel_rfl)]
                refine wp_app_syms (x := .tmp 38) (y := .tmp 41) (base := W0.heap.size) (v := .slice (some ⟨g11, 0, none⟩) 0 0) (n := 0) (xs := cellsY []) (M := R.take q) rfl rfl rfl HO.out (HS1.out _ hHeld) (by omega) hHeld.size ?_
                intro v12 V12 hown hgr
                have hB := hHeld.grown hgr hHeld.size (fun x e => owns_block HO.out x e)
                refine hK.out _ _ hB (fun hHeld2 => ?_)
                clear hK K hHeld hHeld2 hgr HO
                have HO := Lib.hid hown
                clear hown
                have hHeld : (fun W : World => Below W0.heap.size W0 W) V12 := hB
                clear hB
                try simp only [Act.put, List.setIfInBounds_toArray, List.set_cons_zero, List.set_cons_succ, List.getElem_toArray, List.getElem_cons_succ, List.getElem_cons_zero]
                refine wpAnyH_ready (rs := [9]) (by kernel_rfl) (by simp) ?_
                refine AllReadyH.cons rfl (fun K hK => ?_) (AllReadyH.nil)
                have h9 : YB (World.alloc V12 (.cells #[.string x, .int .u64 (y : Nat), .int .u64 (z : Nat), .bool true] 42)) (World.heap V12).size (x, y, z, true) := heap_alloc_last V12 _
                have hB : Below W0.heap.size W0 (World.alloc V12 (.cells #[.string x, .int .u64 (y : Nat), .int .u64 (z : Nat), .bool true] 42)) := hHeld.alloc hHeld.size _
                have HO2 := Lib.hid (own_keep HO.out ((Below.refl _ _).alloc (Nat.le_refl _) (.cells #[.string x, .int .u64 (y : Nat), .int .u64 (z : Nat), .bool true] 42)))
                clear HO
                go_simp
                refine hK.out _ _ hB (fun hHeld2 => ?_)
                clear hK K hHeld hHeld2
                have HB9 := Lib.hid h9
                clear h9
                generalize World.alloc V12 _ = V13 at HB9 hB HO2 ⊢
                generalize (World.heap V12).size = b13 at HB9 ⊢
                have hHeld : (fun W : World => Below W0.heap.size W0 W) V13 := hB
                clear hB
                have HO := HO2
                clear HO2
                try simp only [Act.put, List.setIfInBounds_toArray, List.set_cons_zero, List.set_cons_succ, List.getElem_toArray, List.getElem_cons_succ, List.getElem_cons_zero]
                refine wpAnyH_ready (rs := [10]) (by kernel_rfl) (by simp) ?_
                refine AllReadyH.cons rfl (fun K hK => ?_) (AllReadyH.nil)
                rw [if_pos (by kernel_rfl)]
                refine wp_app_syms (x := .tmp 42) (y := .tmp 47) (base := W0.heap.size) (v := v12) (n := 0 + q) (xs := cellsY [] ++ cellsY (R.take q)) (M := [(x, y, z, true)]) rfl rfl rfl HO.out (.inr ⟨_, rfl, rfl, src_one HB9.out⟩) (by omega) hHeld.size ?_
                intro v9 V9 hown hgr
                have hB := hHeld.grown hgr hHeld.size (fun x e => owns_block HO.out x e)
                refine hK.out _ _ hB (fun hHeld2 => ?_)
                clear hK K hHeld hHeld2 hgr HO HB9
                have HO := Lib.hid hown
                clear hown
                have hHeld : (fun W : World => Below W0.heap.size W0 W) V9 := hB
                clear hB
                try simp only [Act.put, List.setIfInBounds_toArray, List.set_cons_zero, List.set_cons_succ, List.getElem_toArray, List.getElem_cons_succ, List.getElem_cons_zero]
                refine wpAnyH_ready (rs := [14]) (by kernel_rfl) (by simp) ?_
                refine AllReadyH.cons rfl (fun K hK => ?_) (AllReadyH.nil)
                rw [if_pos (by kernel_rfl)]
                refine wp_app_syms (x := .tmp 48) (y := .tmp 51) (base := W0.heap.size) (v := v9) (n := 0 + q + 1) (xs := cellsY [] ++ cellsY (R.take q) ++ cellsY [(x, y, z, true)]) (M := R.drop q) rfl rfl rfl HO.out (HS2.out _ hHeld) (by omega) hHeld.size ?_
                intro v10 V10 hown hgr
                have hB := hHeld.grown hgr hHeld.size (fun x e => owns_block HO.out x e)
                refine hK.out _ _ hB (fun hHeld2 => ?_)
                clear hK K hHeld hHeld2 hgr HO
                have HO := Lib.hid hown
                clear hown
                have hHeld : (fun W : World => Below W0.heap.size W0 W) V10 := hB
                clear hB
                try simp only [Act.put, List.setIfInBounds_toArray, List.set_cons_zero, List.set_cons_succ, List.getElem_toArray, List.getElem_cons_succ, List.getElem_cons_zero]
                refine wpAnyH_take (i := 15) (v := ?_) rfl (by kernel_rfl) (by kernel_rfl) (by kernel_rfl) (fun _ _ _ h => h) (Or.inl ⟨by kernel_rfl, ?_⟩) (by assumption) ?_
                rotate_left
                · intro wv hSw
                  go_simp
                  try with_reducible rfl
                simp only [Act.put, List.setIfInBounds_toArray, List.set_cons_zero, List.set_cons_succ, List.getElem_toArray, List.getElem_cons_succ, List.getElem_cons_zero]
                refine wpAnyH_done (by kernel_rfl) ?_ _
                refine NoPanic.normal ?_
                have HF := Lib.hid (ins_end HLQ.out.1 HLQ.out.2 (by rw [Nat.sub_self]; exact HO.out))
                have HB10 := Lib.hid (HBT.out V10 hHeld)
                have hlen := Lib.hid (ins_len (s := (x, y, z, true)) HLQ.out.1 HLQ.out.2)
                clear hHeld HO HS1 HS2
                obtain ⟨a8, c8, he8, ho8⟩ := HF.out
                subst he8
                have HF8 := Lib.hid ho8
                clear ho8
                go_wp2_with fail
                go_roundw
                case rel => exact ⟨k + 1, a8, c8, R.take q ++ [(x, y, z, true)] ++ R.drop q, by omega, by rw [hlen.out]; omega, by rw [hlen.out], by go_num, by rw [HT2.out]; exact Lib.hid HINS.out, Lib.hid ⟨HF8.out, HB10.out⟩⟩
                case measure => simp [intOf]; omega
              · have h9 : YB (World.alloc V11 (.cells #[.string x, .int .u64 (y : Nat), .int .u64 (z : Nat), .bool true] 42)) (World.heap V11).size (x, y, z, true) := heap_alloc_last V11 _
                have hB : Below W0.heap.size W0 (World.alloc V11 (.cells #[.string x, .int .u64 (y : Nat), .int .u64 (z : Nat), .bool true] 42)) := hHeld.alloc hHeld.size _
                have HO2 := Lib.hid (And.intro (own_keep HO.out ((Below.refl _ _).alloc (Nat.le_refl _) (.cells #[.string x, .int .u64 (y : Nat), .int .u64 (z : Nat), .bool true] 42))) (Nat.ne_of_gt (own_lt HO.out)))
                clear HO
                go_simp
                refine hK.out _ _ hB (fun hHeld2 => ?_)
                clear hK K hHeld hHeld2
                have HB9 := Lib.hid h9
                clear h9
                generalize World.alloc V11 _ = V14 at HB9 hB HO2 ⊢
                generalize (World.heap V11).size = b14 at HB9 HO2 ⊢
                have hHeld : (fun W : World => Below W0.heap.size W0 W) V14 := hB
                clear hB
                try simp only [Act.put, List.setIfInBounds_toArray, List.set_cons_zero, List.set_cons_succ, List.getElem_toArray, List.getElem_cons_succ, List.getElem_cons_zero]
                refine wpAnyH_ready (rs := [4]) (by kernel_rfl) (by simp) ?_
                refine AllReadyH.cons rfl (fun K hK => ?_) (AllReadyH.nil)
                rw [if_pos (by kernel_rfl)]
                refine wp_app_syms (x := .tmp 38) (y := .tmp 41) (base := W0.heap.size) (v := .slice (some ⟨g11, 0, none⟩) 0 0) (n := 0) (xs := cellsY []) (M := R.take q) rfl rfl rfl HO2.out.1 (HS1.out _ hHeld) (by omega) hHeld.size ?_
                intro v15 V15 hown hgr
                have hB := hHeld.grown hgr hHeld.size (fun x e => owns_block HO2.out.1 x e)
                have HB9b := Lib.hid (yb_grown HB9.out hgr HO2.out.2)
                clear HB9
                have HB9 := HB9b
                clear HB9b
                refine hK.out _ _ hB (fun hHeld2 => ?_)
                clear hK K hHeld hHeld2 hgr HO2
                have HO := Lib.hid hown
                clear hown
                have hHeld : (fun W : World => Below W0.heap.size W0 W) V15 := hB
                clear hB
                try simp only [Act.put, List.setIfInBounds_toArray, List.set_cons_zero, List.set_cons_succ, List.getElem_toArray, List.getElem_cons_succ, List.getElem_cons_zero]
                refine wpAnyH_ready (rs := [10]) (by kernel_rfl) (by simp) ?_
                refine AllReadyH.cons rfl (fun K hK => ?_) (AllReadyH.nil)
                rw [if_pos (by kernel_rfl)]
                refine wp_app_syms (x := .tmp 42) (y := .tmp 47) (base := W0.heap.size) (v := v15) (n := 0 + q) (xs := cellsY [] ++ cellsY (R.take q)) (M := [(x, y, z, true)]) rfl rfl rfl HO.out (.inr ⟨_, rfl, rfl, src_one HB9.out⟩) (by omega) hHeld.size ?_
                intro v9 V9 hown hgr
                have hB := hHeld.grown hgr hHeld.size (fun x e => owns_block HO.out x e)
                refine hK.out _ _ hB (fun hHeld2 => ?_)
                clear hK K hHeld hHeld2 hgr HO HB9
                have HO := Lib.hid hown
                clear hown
                have hHeld : (fun W : World => Below W0.heap.size W0 W) V9 := hB
                clear hB
                try simp only [Act.put, List.setIfInBounds_toArray, List.set_cons_zero, List.set_cons_succ, List.getElem_toArray, List.getElem_cons_succ, List.getElem_cons_zero]
                refine wpAnyH_ready (rs := [14]) (by kernel_rfl) (by simp) ?_
                refine AllReadyH.cons rfl (fun K hK => ?_) (AllReadyH.nil)
                rw [if_pos (by kernel_rfl)]
                refine wp_app_syms (x := .tmp 48) (y := .tmp 51) (base := W0.heap.size) (v := v9) (n := 0 + q + 1) (xs := cellsY [] ++ cellsY (R.take q) ++ cellsY [(x, y, z, true)]) (M := R.drop q) rfl rfl rfl HO.out (HS2.out _ hHeld) (by omega) hHeld.size ?_
                intro v10 V10 hown hgr
                have hB := hHeld.grown hgr hHeld.size (fun x e => owns_block HO.out x e)
                refine hK.out _ _ hB (fun hHeld2 => ?_)
                clear hK K hHeld hHeld2 hgr HO
                have HO := Lib.hid hown
                clear hown
                have hHeld : (fun W : World => Below W0.heap.size W0 W) V10 := hB
                clear hB
                try simp only [Act.put, List.setIfInBounds_toArray, List.set_cons_zero, List.set_cons_succ, List.getElem_toArray, List.getElem_cons_succ, List.getElem_cons_zero]
                refine wpAnyH_take (i := 15) (v := ?_) rfl (by kernel_rfl) (by kernel_rfl) (by kernel_rfl) (fun _ _ _ h => h) (Or.inl ⟨by kernel_rfl, ?_⟩) (by assumption) ?_
                rotate_left
                · intro wv hSw
                  go_simp
                  try with_reducible rfl
                simp only [Act.put, List.setIfInBounds_toArray, List.set_cons_zero, List.set_cons_succ, List.getElem_toArray, List.getElem_cons_succ, List.getElem_cons_zero]
                refine wpAnyH_done (by kernel_rfl) ?_ _
                refine NoPanic.normal ?_
                have HF := Lib.hid (ins_end HLQ.out.1 HLQ.out.2 (by rw [Nat.sub_self]; exact HO.out))
                have HB10 := Lib.hid (HBT.out V10 hHeld)
                have hlen := Lib.hid (ins_len (s := (x, y, z, true)) HLQ.out.1 HLQ.out.2)
                clear hHeld HO HS1 HS2
                obtain ⟨a8, c8, he8, ho8⟩ := HF.out
                subst he8
                have HF8 := Lib.hid ho8
                clear ho8
                go_wp2_with fail
                go_roundw
                case rel => exact ⟨k + 1, a8, c8, R.take q ++ [(x, y, z, true)] ++ R.drop q, by omega, by rw [hlen.out]; omega, by rw [hlen.out], by go_num, by rw [HT2.out]; exact Lib.hid HINS.out, Lib.hid ⟨HF8.out, HB10.out⟩⟩
                case measure => simp [intOf]; omega
            · have h9 : YB (World.alloc V5 (.cells #[.string x, .int .u64 (y : Nat), .int .u64 (z : Nat), .bool true] 42)) (World.heap V5).size (x, y, z, true) := heap_alloc_last V5 _
              have hB : Below W0.heap.size W0 (World.alloc V5 (.cells #[.string x, .int .u64 (y : Nat), .int .u64 (z : Nat), .bool true] 42)) := hHeld.alloc hHeld.size _
              go_simp
              refine hK.out _ _ hB (fun hHeld2 => ?_)
              clear hK K hHeld hHeld2
              have HB9 := Lib.hid h9
              clear h9
              generalize World.alloc V5 _ = V16 at HB9 hB ⊢
              generalize (World.heap V5).size = b16 at HB9 ⊢
              have hHeld : (fun W : World => Below W0.heap.size W0 W) V16 := hB
              clear hB
              try simp only [Act.put, List.setIfInBounds_toArray, List.set_cons_zero, List.set_cons_succ, List.getElem_toArray, List.getElem_cons_succ, List.getElem_cons_zero]
              refine wpAnyH_ready (rs := [0]) (by kernel_rfl) (by simp) ?_
              refine AllReadyH.cons rfl (fun K hK => ?_) (AllReadyH.nil)
              have hN := own_emptyY (V := V16) hHeld.size
              have hB : Below W0.heap.size W0 (World.alloc V16 (.cells #[] 42)) := hHeld.alloc hHeld.size _
              have H9 : Hid (YB (World.alloc V16 (.cells #[] 42)) b16 (x, y, z, true) ∧ b16 ≠ (World.heap V16).size) := Lib.hid ⟨YB.keep HB9.out ((Below.refl _ _).alloc (Nat.le_refl _) _), Nat.ne_of_lt (Array.getElem?_eq_some_iff.1 HB9.out).1⟩
              clear HB9
              go_simp
              refine hK.out _ _ hB (fun hHeld2 => ?_)
              clear hK K hHeld hHeld2
              have HO := Lib.hid hN
              clear hN
              generalize World.alloc V16 _ = V17 at HO hB H9 ⊢
              generalize (World.heap V16).size = g17 at HO H9 ⊢
              have hHeld : (fun W : World => Below W0.heap.size W0 W) V17 := hB
              clear hB
              try simp only [Act.put, List.setIfInBounds_toArray, List.set_cons_zero, List.set_cons_succ, List.getElem_toArray, List.getElem_cons_succ, List.getElem_cons_zero]
              refine wpAnyH_ready (rs := [4]) (by kernel_rfl) (by simp) ?_
              refine AllReadyH.cons rfl (fun K hK => ?_) (AllReadyH.nil)
              rw [if_pos (by kernel_rfl)]
              refine wp_app_syms (x := .tmp 38) (y := .tmp 41) (base := W0.heap.size) (v := .slice (some ⟨g17, 0, none⟩) 0 0) (n := 0) (xs := cellsY []) (M := R.take q) rfl rfl rfl HO.out (HS1.out _ hHeld) (by omega) hHeld.size ?_
              intro v18 V18 hown hgr
              have hB := hHeld.grown hgr hHeld.size (fun x e => owns_block HO.out x e)
              have HB9 := Lib.hid (yb_grown H9.out.1 hgr H9.out.2)
              clear H9
              refine hK.out _ _ hB (fun hHeld2 => ?_)
              clear hK K hHeld hHeld2 hgr HO
              have HO := Lib.hid hown
              clear hown
              have hHeld : (fun W : World => Below W0.heap.size W0 W) V18 := hB
              clear hB
              try simp only [Act.put, List.setIfInBounds_toArray, List.set_cons_zero, List.set_cons_succ, List.getElem_toArray, List.getElem_cons_succ, List.getElem_cons_zero]
              refine wpAnyH_ready (rs := [10]) (by kernel_rfl) (by simp) ?_
              refine AllReadyH.cons rfl (fun K hK => ?_) (AllReadyH.nil)
              rw [if_pos (by kernel_rfl)]
              refine wp_app_syms (x := .tmp 42) (y := .tmp 47) (base := W0.heap.size) (v := v18) (n := 0 + q) (xs := cellsY [] ++ cellsY (R.take q)) (M := [(x, y, z, true)]) rfl rfl rfl HO.out (.inr ⟨_, rfl, rfl, src_one HB9.out⟩) (by omega) hHeld.size ?_
              intro v9 V9 hown hgr
              have hB := hHeld.grown hgr hHeld.size (fun x e => owns_block HO.out x e)
              refine hK.out _ _ hB (fun hHeld2 => ?_)
              clear hK K hHeld hHeld2 hgr HO HB9
              have HO := Lib.hid hown
              clear hown
              have hHeld : (fun W : World => Below W0.heap.size W0 W) V9 := hB
              clear hB
              try simp only [Act.put, List.setIfInBounds_toArray, List.set_cons_zero, List.set_cons_succ, List.getElem_toArray, List.getElem_cons_succ, List.getElem_cons_zero]
              refine wpAnyH_ready (rs := [14]) (by kernel_rfl) (by simp) ?_
              refine AllReadyH.cons rfl (fun K hK => ?_) (AllReadyH.nil)
              rw [if_pos (by kernel_rfl)]
              refine wp_app_syms (x := .tmp 48) (y := .tmp 51) (base := W0.heap.size) (v := v9) (n := 0 + q + 1) (xs := cellsY [] ++ cellsY (R.take q) ++ cellsY [(x, y, z, true)]) (M := R.drop q) rfl rfl rfl HO.out (HS2.out _ hHeld) (by omega) hHeld.size ?_
              intro v10 V10 hown hgr
              have hB := hHeld.grown hgr hHeld.size (fun x e => owns_block HO.out x e)
              refine hK.out _ _ hB (fun hHeld2 => ?_)
              clear hK K hHeld hHeld2 hgr HO
              have HO := Lib.hid hown
              clear hown
              have hHeld : (fun W : World => Below W0.heap.size W0 W) V10 := hB
              clear hB
              try simp only [Act.put, List.setIfInBounds_toArray, List.set_cons_zero, List.set_cons_succ, List.getElem_toArray, List.getElem_cons_succ, List.getElem_cons_zero]
              refine wpAnyH_take (i := 15) (v := ?_) rfl (by kernel_rfl) (by kernel_rfl) (by kernel_rfl) (fun _ _ _ h => h) (Or.inl ⟨by kernel_rfl, ?_⟩) (by assumption) ?_
              rotate_left
              · intro wv hSw
                go_simp
                try with_reducible rfl
              simp only [Act.put, List.setIfInBounds_toArray, List.set_cons_zero, List.set_cons_succ, List.getElem_toArray, List.getElem_cons_succ, List.getElem_cons_zero]
              refine wpAnyH_done (by kernel_rfl) ?_ _
              refine NoPanic.normal ?_
              have HF := Lib.hid (ins_end HLQ.out.1 HLQ.out.2 (by rw [Nat.sub_self]; exact HO.out))
              have HB10 := Lib.hid (HBT.out V10 hHeld)
              have hlen := Lib.hid (ins_len (s := (x, y, z, true)) HLQ.out.1 HLQ.out.2)
              clear hHeld HO HS1 HS2
              obtain ⟨a8, c8, he8, ho8⟩ := HF.out
              subst he8
              have HF8 := Lib.hid ho8
              clear ho8
              go_wp2_with fail
              go_roundw
              case rel => exact ⟨k + 1, a8, c8, R.take q ++ [(x, y, z, true)] ++ R.drop q, by omega, by rw [hlen.out]; omega, by rw [hlen.out], by go_num, by rw [HT2.out]; exact Lib.hid HINS.out, Lib.hid ⟨HF8.out, HB10.out⟩⟩
              case measure => simp [intOf]; omega
          · have HS2 : Hid (∀ V, Below W0.heap.size W0 V → SrcY V (some ⟨x2, o2 + q * 4, none⟩) (r - q) (c3 - q) (R.drop q)) := Lib.hid (fun V hb => by
              have h1 := OV.high (HOV.out.1.keep hb) (q := q) (by have := HLQ.out; omega)
              rw [HLQ.out.1] at h1
              exact h1)
            refine wp_region_noPanic ?_
            refine wp_region_held_drew (S := fun W : World => Below W0.heap.size W0 W) (by kernel_rfl) ?_ (fun hHeld => ?_)
            · exact (Below.refl _ _).drew
            generalize World.drew _ = V5 at hHeld ⊢
            refine wpAnyH_take (i := 1) (v := ?_) rfl (by kernel_rfl) (by kernel_rfl) (by kernel_rfl) (fun _ _ _ h => h) (Or.inl ⟨by kernel_rfl, ?_⟩) (by assumption) ?_
            rotate_left
            · intro wv hSw
              go_simp
              try with_reducible rfl
            simp only [Act.put, List.setIfInBounds_toArray, List.set_cons_zero, List.set_cons_succ, List.getElem_toArray, List.getElem_cons_succ, List.getElem_cons_zero]
            refine wpAnyH_take (i := 2) (v := ?_) rfl (by kernel_rfl) (by kernel_rfl) (by kernel_rfl) (fun _ _ _ h => h) (Or.inl ⟨by kernel_rfl, ?_⟩) (by assumption) ?_
            rotate_left
            · intro wv hSw
              go_simp
              try with_reducible rfl
            simp only [Act.put, List.setIfInBounds_toArray, List.set_cons_zero, List.set_cons_succ, List.getElem_toArray, List.getElem_cons_succ, List.getElem_cons_zero]
            refine wpAnyH_take (i := 3) (v := ?_) rfl (by kernel_rfl) (by kernel_rfl) (by kernel_rfl) (fun _ _ _ h => h) (Or.inl ⟨by kernel_rfl, ?_⟩) (by assumption) ?_
            rotate_left
            · intro wv hSw
              go_simp
              try with_reducible rfl
            simp only [Act.put, List.setIfInBounds_toArray, List.set_cons_zero, List.set_cons_succ, List.getElem_toArray, List.getElem_cons_succ, List.getElem_cons_zero]
            refine wpAnyH_take (i := 5) (v := ?_) rfl (by kernel_rfl) (by kernel_rfl) (by kernel_rfl) (fun _ _ _ h => h) (Or.inl ⟨by kernel_rfl, ?_⟩) (by assumption) ?_
            rotate_left
            · intro wv hSw
              go_simp
              try with_reducible rfl
            simp only [Act.put, List.setIfInBounds_toArray, List.set_cons_zero, List.set_cons_succ, List.getElem_toArray, List.getElem_cons_succ, List.getElem_cons_zero]
            refine wpAnyH_take (i := 6) (v := ?_) rfl (by kernel_rfl) (by kernel_rfl) (by kernel_rfl) (fun _ _ _ h => h) (Or.inl ⟨by kernel_rfl, ?_⟩) (by assumption) ?_
            rotate_left
            · intro wv hSw
              go_simp
              try with_reducible rfl
            simp only [Act.put, List.setIfInBounds_toArray, List.set_cons_zero, List.set_cons_succ, List.getElem_toArray, List.getElem_cons_succ, List.getElem_cons_zero]
            refine wpAnyH_take (i := 7) (v := ?_) rfl (by kernel_rfl) (by kernel_rfl) (by kernel_rfl) (fun _ _ _ h => h) (Or.inl ⟨by kernel_rfl, ?_⟩) (by assumption) ?_
            rotate_left
            · intro wv hSw
              go_simp
              try with_reducible rfl
            simp only [Act.put, List.setIfInBounds_toArray, List.set_cons_zero, List.set_cons_succ, List.getElem_toArray, List.getElem_cons_succ, List.getElem_cons_zero]
            refine wpAnyH_take (i := 8) (v := ?_) rfl (by kernel_rfl) (by kernel_rfl) (by kernel_rfl) (fun _ _ _ h => h) (Or.inl ⟨by kernel_rfl, ?_⟩) (by assumption) ?_
            rotate_left
            · intro wv hSw
              have c0 := cell_keep HC.out.1 hSw
              have c1 := cell_keep HC.out.2.1 hSw
              have c2 := cell_keep HC.out.2.2.1 hSw
              have c3 := cell_keep HC.out.2.2.2 hSw
              go_simp
              try with_reducible rfl
            simp only [Act.put, List.setIfInBounds_toArray, List.set_cons_zero, List.set_cons_succ, List.getElem_toArray, List.getElem_cons_succ, List.getElem_cons_zero]
            refine wpAnyH_take (i := 11) (v := ?_) rfl (by kernel_rfl) (by kernel_rfl) (by kernel_rfl) (fun _ _ _ h => h) (Or.inl ⟨by kernel_rfl, ?_⟩) (by assumption) ?_
            rotate_left
            · intro wv hSw
              go_simp
              try with_reducible rfl
            simp only [Act.put, List.setIfInBounds_toArray, List.set_cons_zero, List.set_cons_succ, List.getElem_toArray, List.getElem_cons_succ, List.getElem_cons_zero]
            refine wpAnyH_take (i := 12) (v := ?_) rfl (by kernel_rfl) (by kernel_rfl) (by kernel_rfl) (fun _ _ _ h => h) (Or.inl ⟨by kernel_rfl, ?_⟩) (by assumption) ?_
            rotate_left
            · intro wv hSw
              go_simp
              try with_reducible rfl
            simp only [Act.put, List.setIfInBounds_toArray, List.set_cons_zero, List.set_cons_succ, List.getElem_toArray, List.getElem_cons_succ, List.getElem_cons_zero]
            refine wpAnyH_take (i := 13) (v := ?_) rfl (by kernel_rfl) (by kernel_rfl) (by kernel_rfl) (fun _ _ _ h => h) (Or.inl ⟨by kernel_rfl, ?_⟩) (by assumption) ?_
            rotate_left
            · intro wv hSw
              go_simp
              try with_reducible rfl
            simp only [Act.put, List.setIfInBounds_toArray, List.set_cons_zero, List.set_cons_succ, List.getElem_toArray, List.getElem_cons_succ, List.getElem_cons_zero]
            refine wpAnyH_ready (rs := [0, 9]) (by kernel_rfl) (by simp) ?_
            refine AllReadyH.cons rfl (fun K hK => ?_) (AllReadyH.cons rfl (fun K hK => ?_) (AllReadyH.nil))
            · have hN := own_emptyY (V := V5) hHeld.size
              have hB : Below W0.heap.size W0 (World.alloc V5 (.cells #[] 42)) := hHeld.alloc hHeld.size _
              go_simp
              refine hK.out _ _ hB (fun hHeld2 => ?_)
              clear hK K hHeld hHeld2
              have HO := Lib.hid hN
              clear hN
              generalize World.alloc V5 _ = V11 at HO hB ⊢
              generalize (World.heap V5).size = g11 at HO ⊢
              have hHeld : (fun W : World => Below W0.heap.size W0 W) V11 := hB
              clear hB
              try simp only [Act.put, List.setIfInBounds_toArray, List.set_cons_zero, List.set_cons_succ, List.getElem_toArray, List.getElem_cons_succ, List.getElem_cons_zero]
              refine wpAnyH_ready (rs := [4, 9]) (by kernel_rfl) (by simp) ?_
              refine AllReadyH.cons rfl (fun K hK => ?_) (AllReadyH.cons rfl (fun K hK => ?_) (AllReadyH.nil))
              · rw [if_pos (by kernel_rfl)]
                refine wp_app_syms (x := .tmp 38) (y := .tmp 41) (base := W0.heap.size) (v := .slice (some ⟨g11, 0, none⟩) 0 0) (n := 0) (xs := cellsY []) (M := R.take q) rfl rfl rfl HO.out (HS1.out _ hHeld) (by omega) hHeld.size ?_
                intro v12 V12 hown hgr
                have hB := hHeld.grown hgr hHeld.size (fun x e => owns_block HO.out x e)
                refine hK.out _ _ hB (fun hHeld2 => ?_)
                clear hK K hHeld hHeld2 hgr HO
                have HO := Lib.hid hown
                clear hown
                have hHeld : (fun W : World => Below W0.heap.size W0 W) V12 := hB
                clear hB
                try simp only [Act.put, List.setIfInBounds_toArray, List.set_cons_zero, List.set_cons_succ, List.getElem_toArray, List.getElem_cons_succ, List.getElem_cons_zero]
                refine wpAnyH_ready (rs := [9]) (by kernel_rfl) (by simp) ?_
                refine AllReadyH.cons rfl (fun K hK => ?_) (AllReadyH.nil)
                have h9 : YB (World.alloc V12 (.cells #[.string x, .int .u64 (y : Nat), .int .u64 (z : Nat), .bool true] 42)) (World.heap V12).size (x, y, z, true) := heap_alloc_last V12 _
                have hB : Below W0.heap.size W0 (World.alloc V12 (.cells #[.string x, .int .u64 (y : Nat), .int .u64 (z : Nat), .bool true] 42)) := hHeld.alloc hHeld.size _
                have HO2 := Lib.hid (own_keep HO.out ((Below.refl _ _).alloc (Nat.le_refl _) (.cells #[.string x, .int .u64 (y : Nat), .int .u64 (z : Nat), .bool true] 42)))
                clear HO
                go_simp
                refine hK.out _ _ hB (fun hHeld2 => ?_)
                clear hK K hHeld hHeld2
                have HB9 := Lib.hid h9
                clear h9
                generalize World.alloc V12 _ = V13 at HB9 hB HO2 ⊢
                generalize (World.heap V12).size = b13 at HB9 ⊢
                have hHeld : (fun W : World => Below W0.heap.size W0 W) V13 := hB
                clear hB
                have HO := HO2
                clear HO2
                try simp only [Act.put, List.setIfInBounds_toArray, List.set_cons_zero, List.set_cons_succ, List.getElem_toArray, List.getElem_cons_succ, List.getElem_cons_zero]
                refine wpAnyH_ready (rs := [10]) (by kernel_rfl) (by simp) ?_
                refine AllReadyH.cons rfl (fun K hK => ?_) (AllReadyH.nil)
                rw [if_pos (by kernel_rfl)]
                refine wp_app_syms (x := .tmp 42) (y := .tmp 47) (base := W0.heap.size) (v := v12) (n := 0 + q) (xs := cellsY [] ++ cellsY (R.take q)) (M := [(x, y, z, true)]) rfl rfl rfl HO.out (.inr ⟨_, rfl, rfl, src_one HB9.out⟩) (by omega) hHeld.size ?_
                intro v9 V9 hown hgr
                have hB := hHeld.grown hgr hHeld.size (fun x e => owns_block HO.out x e)
                refine hK.out _ _ hB (fun hHeld2 => ?_)
                clear hK K hHeld hHeld2 hgr HO HB9
                have HO := Lib.hid hown
                clear hown
                have hHeld : (fun W : World => Below W0.heap.size W0 W) V9 := hB
                clear hB
                try simp only [Act.put, List.setIfInBounds_toArray, List.set_cons_zero, List.set_cons_succ, List.getElem_toArray, List.getElem_cons_succ, List.getElem_cons_zero]
                refine wpAnyH_ready (rs := [14]) (by kernel_rfl) (by simp) ?_
                refine AllReadyH.cons rfl (fun K hK => ?_) (AllReadyH.nil)
                rw [if_pos (by kernel_rfl)]
                refine wp_app_syms (x := .tmp 48) (y := .tmp 51) (base := W0.heap.size) (v := v9) (n := 0 + q + 1) (xs := cellsY [] ++ cellsY (R.take q) ++ cellsY [(x, y, z, true)]) (M := R.drop q) rfl rfl rfl HO.out (HS2.out _ hHeld) (by omega) hHeld.size ?_
                intro v10 V10 hown hgr
                have hB := hHeld.grown hgr hHeld.size (fun x e => owns_block HO.out x e)
                refine hK.out _ _ hB (fun hHeld2 => ?_)
                clear hK K hHeld hHeld2 hgr HO
                have HO := Lib.hid hown
                clear hown
                have hHeld : (fun W : World => Below W0.heap.size W0 W) V10 := hB
                clear hB
                try simp only [Act.put, List.setIfInBounds_toArray, List.set_cons_zero, List.set_cons_succ, List.getElem_toArray, List.getElem_cons_succ, List.getElem_cons_zero]
                refine wpAnyH_take (i := 15) (v := ?_) rfl (by kernel_rfl) (by kernel_rfl) (by kernel_rfl) (fun _ _ _ h => h) (Or.inl ⟨by kernel_rfl, ?_⟩) (by assumption) ?_
                rotate_left
                · intro wv hSw
                  go_simp
                  try with_reducible rfl
                simp only [Act.put, List.setIfInBounds_toArray, List.set_cons_zero, List.set_cons_succ, List.getElem_toArray, List.getElem_cons_succ, List.getElem_cons_zero]
                refine wpAnyH_done (by kernel_rfl) ?_ _
                refine NoPanic.normal ?_
                have HF := Lib.hid (ins_end HLQ.out.1 HLQ.out.2 HO.out)
                have HB10 := Lib.hid (HBT.out V10 hHeld)
                have hlen := Lib.hid (ins_len (s := (x, y, z, true)) HLQ.out.1 HLQ.out.2)
                clear hHeld HO HS1 HS2
                obtain ⟨a8, c8, he8, ho8⟩ := HF.out
                subst he8
                have HF8 := Lib.hid ho8
                clear ho8
                go_wp2_with fail
                go_roundw
                case rel => exact ⟨k + 1, a8, c8, R.take q ++ [(x, y, z, true)] ++ R.drop q, by omega, by rw [hlen.out]; omega, by rw [hlen.out], by go_num, by rw [HT2.out]; exact Lib.hid HINS.out, Lib.hid ⟨HF8.out, HB10.out⟩⟩
                case measure => simp [intOf]; omega
              · have h9 : YB (World.alloc V11 (.cells #[.string x, .int .u64 (y : Nat), .int .u64 (z : Nat), .bool true] 42)) (World.heap V11).size (x, y, z, true) := heap_alloc_last V11 _
                have hB : Below W0.heap.size W0 (World.alloc V11 (.cells #[.string x, .int .u64 (y : Nat), .int .u64 (z : Nat), .bool true] 42)) := hHeld.alloc hHeld.size _
                have HO2 := Lib.hid (And.intro (own_keep HO.out ((Below.refl _ _).alloc (Nat.le_refl _) (.cells #[.string x, .int .u64 (y : Nat), .int .u64 (z : Nat), .bool true] 42))) (Nat.ne_of_gt (own_lt HO.out)))
                clear HO
                go_simp
                refine hK.out _ _ hB (fun hHeld2 => ?_)
                clear hK K hHeld hHeld2
                have HB9 := Lib.hid h9
                clear h9
                generalize World.alloc V11 _ = V14 at HB9 hB HO2 ⊢
                generalize (World.heap V11).size = b14 at HB9 HO2 ⊢
                have hHeld : (fun W : World => Below W0.heap.size W0 W) V14 := hB
                clear hB
                try simp only [Act.put, List.setIfInBounds_toArray, List.set_cons_zero, List.set_cons_succ, List.getElem_toArray, List.getElem_cons_succ, List.getElem_cons_zero]
                refine wpAnyH_ready (rs := [4]) (by kernel_rfl) (by simp) ?_
                refine AllReadyH.cons rfl (fun K hK => ?_) (AllReadyH.nil)
                rw [if_pos (by kernel_rfl)]
                refine wp_app_syms (x := .tmp 38) (y := .tmp 41) (base := W0.heap.size) (v := .slice (some ⟨g11, 0, none⟩) 0 0) (n := 0) (xs := cellsY []) (M := R.take q) rfl rfl rfl HO2.out.1 (HS1.out _ hHeld) (by omega) hHeld.size ?_
                intro v15 V15 hown hgr
                have hB := hHeld.grown hgr hHeld.size (fun x e => owns_block HO2.out.1 x e)
                have HB9b := Lib.hid (yb_grown HB9.out hgr HO2.out.2)
                clear HB9
                have HB9 := HB9b
                clear HB9b
                refine hK.out _ _ hB (fun hHeld2 => ?_)
                clear hK K hHeld hHeld2 hgr HO2
                have HO := Lib.hid hown
                clear hown
                have hHeld : (fun W : World => Below W0.heap.size W0 W) V15 := hB
                clear hB
                try simp only [Act.put, List.setIfInBounds_toArray, List.set_cons_zero, List.set_cons_succ, List.getElem_toArray, List.getElem_cons_succ, List.getElem_cons_zero]
                refine wpAnyH_ready (rs := [10]) (by kernel_rfl) (by simp) ?_
                refine AllReadyH.cons rfl (fun K hK => ?_) (AllReadyH.nil)
                rw [if_pos (by kernel_rfl)]
                refine wp_app_syms (x := .tmp 42) (y := .tmp 47) (base := W0.heap.size) (v := v15) (n := 0 + q) (xs := cellsY [] ++ cellsY (R.take q)) (M := [(x, y, z, true)]) rfl rfl rfl HO.out (.inr ⟨_, rfl, rfl, src_one HB9.out⟩) (by omega) hHeld.size ?_
                intro v9 V9 hown hgr
                have hB := hHeld.grown hgr hHeld.size (fun x e => owns_block HO.out x e)
                refine hK.out _ _ hB (fun hHeld2 => ?_)
                clear hK K hHeld hHeld2 hgr HO HB9
                have HO := Lib.hid hown
                clear hown
                have hHeld : (fun W : World => Below W0.heap.size W0 W) V9 := hB
                clear hB
                try simp only [Act.put, List.setIfInBounds_toArray, List.set_cons_zero, List.set_cons_succ, List.getElem_toArray, List.getElem_cons_succ, List.getElem_cons_zero]
                refine wpAnyH_ready (rs := [14]) (by kernel_rfl) (by simp) ?_
                refine AllReadyH.cons rfl (fun K hK => ?_) (AllReadyH.nil)
                rw [if_pos (by kernel_rfl)]
                refine wp_app_syms (x := .tmp 48) (y := .tmp 51) (base := W0.heap.size) (v := v9) (n := 0 + q + 1) (xs := cellsY [] ++ cellsY (R.take q) ++ cellsY [(x, y, z, true)]) (M := R.drop q) rfl rfl rfl HO.out (HS2.out _ hHeld) (by omega) hHeld.size ?_
                intro v10 V10 hown hgr
                have hB := hHeld.grown hgr hHeld.size (fun x e => owns_block HO.out x e)
                refine hK.out _ _ hB (fun hHeld2 => ?_)
                clear hK K hHeld hHeld2 hgr HO
                have HO := Lib.hid hown
                clear hown
                have hHeld : (fun W : World => Below W0.heap.size W0 W) V10 := hB
                clear hB
                try simp only [Act.put, List.setIfInBounds_toArray, List.set_cons_zero, List.set_cons_succ, List.getElem_toArray, List.getElem_cons_succ, List.getElem_cons_zero]
                refine wpAnyH_take (i := 15) (v := ?_) rfl (by kernel_rfl) (by kernel_rfl) (by kernel_rfl) (fun _ _ _ h => h) (Or.inl ⟨by kernel_rfl, ?_⟩) (by assumption) ?_
                rotate_left
                · intro wv hSw
                  go_simp
                  try with_reducible rfl
                simp only [Act.put, List.setIfInBounds_toArray, List.set_cons_zero, List.set_cons_succ, List.getElem_toArray, List.getElem_cons_succ, List.getElem_cons_zero]
                refine wpAnyH_done (by kernel_rfl) ?_ _
                refine NoPanic.normal ?_
                have HF := Lib.hid (ins_end HLQ.out.1 HLQ.out.2 HO.out)
                have HB10 := Lib.hid (HBT.out V10 hHeld)
                have hlen := Lib.hid (ins_len (s := (x, y, z, true)) HLQ.out.1 HLQ.out.2)
                clear hHeld HO HS1 HS2
                obtain ⟨a8, c8, he8, ho8⟩ := HF.out
                subst he8
                have HF8 := Lib.hid ho8
                clear ho8
                go_wp2_with fail
                go_roundw
                case rel => exact ⟨k + 1, a8, c8, R.take q ++ [(x, y, z, true)] ++ R.drop q, by omega, by rw [hlen.out]; omega, by rw [hlen.out], by go_num, by rw [HT2.out]; exact Lib.hid HINS.out, Lib.hid ⟨HF8.out, HB10.out⟩⟩
                case measure => simp [intOf]; omega
            · have h9 : YB (World.alloc V5 (.cells #[.string x, .int .u64 (y : Nat), .int .u64 (z : Nat), .bool true] 42)) (World.heap V5).size (x, y, z, true) := heap_alloc_last V5 _
              have hB : Below W0.heap.size W0 (World.alloc V5 (.cells #[.string x, .int .u64 (y : Nat), .int .u64 (z : Nat), .bool true] 42)) := hHeld.alloc hHeld.size _
              go_simp
              refine hK.out _ _ hB (fun hHeld2 => ?_)
              clear hK K hHeld hHeld2
              have HB9 := Lib.hid h9
              clear h9
              generalize World.alloc V5 _ = V16 at HB9 hB ⊢
              generalize (World.heap V5).size = b16 at HB9 ⊢
              have hHeld : (fun W : World => Below W0.heap.size W0 W) V16 := hB
              clear hB
              try simp only [Act.put, List.setIfInBounds_toArray, List.set_cons_zero, List.set_cons_succ, List.getElem_toArray, List.getElem_cons_succ, List.getElem_cons_zero]
              refine wpAnyH_ready (rs := [0]) (by kernel_rfl) (by simp) ?_
              refine AllReadyH.cons rfl (fun K hK => ?_) (AllReadyH.nil)
              have hN := own_emptyY (V := V16) hHeld.size
              have hB : Below W0.heap.size W0 (World.alloc V16 (.cells #[] 42)) := hHeld.alloc hHeld.size _
              have H9 : Hid (YB (World.alloc V16 (.cells #[] 42)) b16 (x, y, z, true) ∧ b16 ≠ (World.heap V16).size) := Lib.hid ⟨YB.keep HB9.out ((Below.refl _ _).alloc (Nat.le_refl _) _), Nat.ne_of_lt (Array.getElem?_eq_some_iff.1 HB9.out).1⟩
              clear HB9
              go_simp
              refine hK.out _ _ hB (fun hHeld2 => ?_)
              clear hK K hHeld hHeld2
              have HO := Lib.hid hN
              clear hN
              generalize World.alloc V16 _ = V17 at HO hB H9 ⊢
              generalize (World.heap V16).size = g17 at HO H9 ⊢
              have hHeld : (fun W : World => Below W0.heap.size W0 W) V17 := hB
              clear hB
              try simp only [Act.put, List.setIfInBounds_toArray, List.set_cons_zero, List.set_cons_succ, List.getElem_toArray, List.getElem_cons_succ, List.getElem_cons_zero]
              refine wpAnyH_ready (rs := [4]) (by kernel_rfl) (by simp) ?_
              refine AllReadyH.cons rfl (fun K hK => ?_) (AllReadyH.nil)
              rw [if_pos (by kernel_rfl)]
              refine wp_app_syms (x := .tmp 38) (y := .tmp 41) (base := W0.heap.size) (v := .slice (some ⟨g17, 0, none⟩) 0 0) (n := 0) (xs := cellsY []) (M := R.take q) rfl rfl rfl HO.out (HS1.out _ hHeld) (by omega) hHeld.size ?_
              intro v18 V18 hown hgr
              have hB := hHeld.grown hgr hHeld.size (fun x e => owns_block HO.out x e)
              have HB9 := Lib.hid (yb_grown H9.out.1 hgr H9.out.2)
              clear H9
              refine hK.out _ _ hB (fun hHeld2 => ?_)
              clear hK K hHeld hHeld2 hgr HO
              have HO := Lib.hid hown
              clear hown
              have hHeld : (fun W : World => Below W0.heap.size W0 W) V18 := hB
              clear hB
              try simp only [Act.put, List.setIfInBounds_toArray, List.set_cons_zero, List.set_cons_succ, List.getElem_toArray, List.getElem_cons_succ, List.getElem_cons_zero]
              refine wpAnyH_ready (rs := [10]) (by kernel_rfl) (by simp) ?_
              refine AllReadyH.cons rfl (fun K hK => ?_) (AllReadyH.nil)
              rw [if_pos (by kernel_rfl)]
              refine wp_app_syms (x := .tmp 42) (y := .tmp 47) (base := W0.heap.size) (v := v18) (n := 0 + q) (xs := cellsY [] ++ cellsY (R.take q)) (M := [(x, y, z, true)]) rfl rfl rfl HO.out (.inr ⟨_, rfl, rfl, src_one HB9.out⟩) (by omega) hHeld.size ?_
              intro v9 V9 hown hgr
              have hB := hHeld.grown hgr hHeld.size (fun x e => owns_block HO.out x e)
              refine hK.out _ _ hB (fun hHeld2 => ?_)
              clear hK K hHeld hHeld2 hgr HO HB9
              have HO := Lib.hid hown
              clear hown
              have hHeld : (fun W : World => Below W0.heap.size W0 W) V9 := hB
              clear hB
              try simp only [Act.put, List.setIfInBounds_toArray, List.set_cons_zero, List.set_cons_succ, List.getElem_toArray, List.getElem_cons_succ, List.getElem_cons_zero]
              refine wpAnyH_ready (rs := [14]) (by kernel_rfl) (by simp) ?_
              refine AllReadyH.cons rfl (fun K hK => ?_) (AllReadyH.nil)
              rw [if_pos (by kernel_rfl)]
              refine wp_app_syms (x := .tmp 48) (y := .tmp 51) (base := W0.heap.size) (v := v9) (n := 0 + q + 1) (xs := cellsY [] ++ cellsY (R.take q) ++ cellsY [(x, y, z, true)]) (M := R.drop q) rfl rfl rfl HO.out (HS2.out _ hHeld) (by omega) hHeld.size ?_
              intro v10 V10 hown hgr
              have hB := hHeld.grown hgr hHeld.size (fun x e => owns_block HO.out x e)
              refine hK.out _ _ hB (fun hHeld2 => ?_)
              clear hK K hHeld hHeld2 hgr HO
              have HO := Lib.hid hown
              clear hown
              have hHeld : (fun W : World => Below W0.heap.size W0 W) V10 := hB
              clear hB
              try simp only [Act.put, List.setIfInBounds_toArray, List.set_cons_zero, List.set_cons_succ, List.getElem_toArray, List.getElem_cons_succ, List.getElem_cons_zero]
              refine wpAnyH_take (i := 15) (v := ?_) rfl (by kernel_rfl) (by kernel_rfl) (by kernel_rfl) (fun _ _ _ h => h) (Or.inl ⟨by kernel_rfl, ?_⟩) (by assumption) ?_
              rotate_left
              · intro wv hSw
                go_simp
                try with_reducible rfl
              simp only [Act.put, List.setIfInBounds_toArray, List.set_cons_zero, List.set_cons_succ, List.getElem_toArray, List.getElem_cons_succ, List.getElem_cons_zero]
              refine wpAnyH_done (by kernel_rfl) ?_ _
              refine NoPanic.normal ?_
              have HF := Lib.hid (ins_end HLQ.out.1 HLQ.out.2 HO.out)
              have HB10 := Lib.hid (HBT.out V10 hHeld)
              have hlen := Lib.hid (ins_len (s := (x, y, z, true)) HLQ.out.1 HLQ.out.2)
              clear hHeld HO HS1 HS2
              obtain ⟨a8, c8, he8, ho8⟩ := HF.out
              subst he8
              have HF8 := Lib.hid ho8
              clear ho8
              go_wp2_with fail
              go_roundw
              case rel => exact ⟨k + 1, a8, c8, R.take q ++ [(x, y, z, true)] ++ R.drop q, by omega, by rw [hlen.out]; omega, by rw [hlen.out], by go_num, by rw [HT2.out]; exact Lib.hid HINS.out, Lib.hid ⟨HF8.out, HB10.out⟩⟩
              case measure => simp [intOf]; omega
end Go.Proofs.Ytegbhjmghkbgmaa
