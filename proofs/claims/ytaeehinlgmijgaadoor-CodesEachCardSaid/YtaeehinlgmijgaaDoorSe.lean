/- slices.AppendSeq over the forms, slices.Collect, codes.Forms. -/
import Derived.Test.YtaeehinlgmijgaaDoorDi
import Derived.Great.BuildSlice
namespace Go.Proofs.YtaeehinlgmijgaaDoor
open Go.RowKit Go.Shelf
set_option linter.unusedVariables false
set_option linter.unusedSimpArgs false
attribute [local go_sem] Oper.semAt_some
theorem infoE23 : (Tryd.prog.info? 23).map (fun i => (i.zero, i.size, i.bytes)) = some (some zf.v, 14, 56) := by kernel_rfl
theorem fill1 (x : Fm) : Instr.fill (fun i => some (i * 14, 14)) (Array.map (fun x => zf.v.cells[x % zf.v.cells.size]!) (Array.range (1 * 14))) #[(0, x.v)].toList = some x.cs.toArray := by
  obtain ⟨xp, xm, xo, xl, xd, xdo, xcc, xw, xk, xi, x1, x2, x3, x4⟩ := x
  kernel_rfl
theorem build_run {o : Oper} {ρ : Operand → Value} {W : World} {y : Operand} {x : Fm} (ho : o.op = .buildSlice 24 1 #[(0, y)]) (hy : ρ y = x.v) :
    (execOp ρ o).run Tryd.prog W = .ok (.value (.slice (some ⟨W.heap.size, 0, none⟩) 1 1)) (W.alloc (.cells x.cs.toArray 23)) := by
  obtain ⟨i0, hi, hz0, hz1, hz2⟩ := info_parts infoE23
  have hr := run_buildSlice (P := Tryd.prog) W 24 23 1 #[(0, x.v)] x.cs.toArray i0 zf.v Tryd.underlying24 hi hz0 (by rw [hz1]; decide) (by rw [hz1]; decide) (by rw [hz1]; exact fill1 x)
  unfold execOp
  simp only [ho, Sem.run_bind, List.map_toArray, List.map, hy, hr, Result.andThen_ok]
  rfl
theorem wpListIn_build23 {F : Fence} {n : Nat} {ops : Array Oper} {Q : Exit → Act → World → Prop} {o : Oper} {rest : List Oper} {a : Act} {W : World} {y : Operand} {x : Fm}
    (ho : o.op = .buildSlice 24 1 #[(0, y)]) (hw : Region.wanted o (yielded ops a.tmps) = true) (hy : a.eval y = x.v)
    (hn : wpListIn F n Tryd.prog ops Q rest (a.put o.dst (.slice (some ⟨W.heap.size, 0, none⟩) 1 1)) (W.alloc (.cells x.cs.toArray 23))) : wpListIn F n Tryd.prog ops Q (o :: rest) a W := by
  have e := build_run (W := W) ho hy
  have ha : ∀ g, o.about Tryd.prog W a.eval = some g → F.fn g := fun g hf => by
    unfold Oper.about at hf
    rw [ho] at hf
    cases hf
  have es : Oper.semAt F.round a.eval o = execOp a.eval o := Oper.semAt_plain F _ o (fun c hc => by rw [ho] at hc; cases hc)
  simp only [wpListIn, hw, if_true, Oper.wpIn, es, e, Oper.uponIn_value]
  exact ⟨ha, hn⟩
/-- What AppendSeq's loop keeps. -/
def SI (w : World) (pre : List Fm) (W : World) : Prop := (∃ v, Boxed W w.heap.size 24 v ∧ W.ownsRow w.heap.size 23 14 v pre.length (cellsL pre) ∧ True) ∧ Below w.heap.size w W
theorem SI.own (w : World) (B : Nat) (hB : w.heap.size ≤ B) : OwnFrom B (SI w) :=
  OwnFrom.and (Own.from (holdsRow_own w.heap.size w.heap.size 24 23 14 (fun (pre : List Fm) => pre.length) (fun pre => cellsL pre) (fun _ _ => True)) _) (ownFrom_below (Nat.le_refl _) hB)
theorem SI.keep {w W W' : World} {pre : List Fm} (h : SI w pre W) (hb : Below W.heap.size W W') : SI w pre W' := by
  obtain ⟨⟨v, h1, h2, h3⟩, hB⟩ := h
  have hg := grown_below hb
  refine ⟨⟨v, h1.kept hg (by simp), h2.kept hg ?_, trivial⟩, hB.trans (hb.mono hB.size)⟩
  rcases h2.2 with ⟨rfl, _⟩ | ⟨g, cap, cur, rfl, _⟩
  · exact .inl rfl
  · exact .inr (by simp [Value.ownBlock])
theorem cellsL_snoc (pre : List Fm) (x : Fm) : cellsL (pre ++ [x]) = cellsL pre ++ x.cs := by simp [cellsL]
theorem kpC_appended {B n₀ b k : Nat} {W w1 : World} {v v' : Value} {xs : List Value} {tmp : Obj} (hv : Boxed W b 24 v) (hrow : W.ownsRow n₀ 23 14 v k xs) (hgrow : (W.alloc tmp).grownBy w1 v.ownBlock)
    (hbel : Below n₀ W (w1.setCell ⟨b, 0, none⟩ v')) (h2 : 2 ≤ n₀) : KpC B W (w1.setCell ⟨b, 0, none⟩ v') := by
  refine ⟨hbel.size, fun j c fr _ hc => ?_, fun g => g.block (hbel.block 0 (by omega)) (hbel.block 1 (by omega))⟩
  have hj := (Array.getElem?_eq_some_iff.1 hc).1
  have hjb : j ≠ b := fun e => by
    subst e
    have := (show W.heap[j]? = _ from hv).symm.trans hc
    simp at this
  refine (Below.heap_setCell w1 ⟨b, 0, none⟩ v' j hjb).trans ?_
  have ha := (Below.heap_alloc W tmp j hj).trans hc
  refine (hgrow.block j (by simp; omega) (fun e => ?_)).trans ha
  rcases hrow.2 with ⟨rfl, _⟩ | ⟨g, cap, cur, rfl, _, hgb, _⟩
  · simp [Value.ownBlock] at e
  · obtain rfl : j = g := by simpa [Value.ownBlock] using e
    have := hgb.symm.trans hc
    simp at this
def ST (w : World) (x : Fm) (b1 : Nat) : Act := { tmps := #[.slice none 0 0, .func (.func 28) #[] #[], .pointer (some ⟨w.heap.size, 0, none⟩), undef, .slice none 0 0, .pointer (some ⟨b1, 0, none⟩), .func (.func 28) #[] #[], x.v, undef, undef, undef, undef, undef], defers := [] }
set_option maxRecDepth 100000 in
set_option maxHeartbeats 4000000 in
theorem append_in (F : Fence) (HF : Hid (F = Fence.wide)) (n : Nat) (hn : 5 ≤ n) (w : World) (hG : GL w) :
    CallsIn F n Tryd.prog 27 #[.slice none 0 0, .func (.func 28) #[] #[]] w fun e W' => (∃ v, e = .returned v ∧ W'.ownsRow w.heap.size 23 14 v 139 (cellsL formsL)) ∧ Below w.heap.size w W' := by
  have h1 : 1 ≤ n := by omega
  have hro : F.round = none := by rw [HF.out]; rfl
  have h27 : F.fn 27 := by rw [HF.out]; trivial
  have h28 : F.fn 28 := by rw [HF.out]; trivial
  obtain ⟨i0, hi, hz0, hz1, hz2⟩ := info_parts infoE23
  have HI0 := Lib.hid (And.intro hi (And.intro hz0 (And.intro hz1 hz2)))
  clear hi hz0 hz1 hz2
  have HL := Lib.hid hG.lt
  have HN : Hid (SI w [] (w.alloc (.cells #[.slice none 0 0] 24))) := Lib.hid ⟨⟨_, Boxed.new w 24 _, World.ownsRow_nil _ _ _ _, trivial⟩, (Below.refl _ w).alloc (Nat.le_refl _) _⟩
  have HG0 := Lib.hid (hG.below HN.out.2)
  have HZ : Hid ((w.alloc (.cells #[.slice none 0 0] 24)).heap.size = w.heap.size + 1) := Lib.hid (by simp)
  clear hG
  refine callsIn_of_wp_marks Tryd.func27 rfl h27 ?_ hro
  simp only [Tryd.ntmps27, List.size_toArray, List.length_cons, List.length_nil, Nat.reduceAdd, Nat.reduceSub, Array.replicate_succ, Array.replicate_zero, List.push_toArray, List.append_toArray, List.nil_append, List.cons_append]
  gi_wp2_with fail
  generalize World.alloc _ _ = W0 at *
  refine wpIn_rangeFunc_ownH hro h1 (gf := 28) (lb := #[]) rfl h28 (enters_of Tryd.func28 (by kernel_rfl) rfl)
    (each_stops F HF (n - 1) (by omega) hro W0 HG0.out) kpC_t (fun W l o o' => kpC_b (w := W0) W l o o') (Below.refl _ _) (fun _ => rfl)
    (SI w) (fun _ _ _ => False) (SI.own w _ (by have := HZ.out; omega)) (fun _ _ _ _ _ hs _ _ => hs) HN.out
    (fun x a' W => ∃ b1, W0.heap.size ≤ b1 ∧ FB W b1 x ∧ a' = ST w x b1)
    (fun x a' _ X Y row hs hg hr => by
      obtain ⟨b1, h1, h2, h3⟩ := hs
      exact ⟨b1, h1, ownFrom_block _ b1 (fun (_ : Unit) => x.cs.toArray) 23 () X Y row h2 hg hr, h3⟩) ?assign ?body ?done ?stop
  case assign =>
    rintro l pre x W K hI hK
    have hfb := heap_alloc_last W (.cells zf.cs.toArray 23)
    have HFB : Hid (FB (W.alloc (.cells zf.cs.toArray 23)) W.heap.size zf) := Lib.hid hfb
    clear hfb
    have hsz : W0.heap.size ≤ W.heap.size := by obtain ⟨⟨v, hv, _⟩, _⟩ := hI; have := hv.lt; have := HZ.out; omega
    gi_wp2_with (refine wpListIn_store23 (u := zf) (f := x) rfl rfl rfl rfl HFB.out ?_)
    have hbl : Below W.heap.size W ((W.alloc (.cells zf.cs.toArray 23)).setRow W.heap.size x.cs.toArray) := below_row ((Below.refl _ W).alloc (Nat.le_refl _) _) (Nat.le_refl _)
    exact hK _ _ (below_keeps hbl _) (kpC_below hbl) (hI.keep hbl) ⟨W.heap.size, hsz, HFB.out.row, rfl⟩
  case body =>
    rintro l pre x a' W hl ⟨r, hr⟩ ⟨⟨v, hv, hrow, -⟩, hB⟩ ⟨b1, hb1, hF, rfl⟩ hlt
    have h1' : 1 ≤ n - 1 - 1 := by omega
    have hsz : W0.heap.size = w.heap.size + 1 := HZ.out
    have HFB := Lib.hid hF
    have HV := Lib.hid hv
    have HR := Lib.hid hrow
    have HB := Lib.hid hB
    have c0 := hv.cell
    have HT : Hid (FB (W.alloc (.cells x.cs.toArray 23)) W.heap.size x) := Lib.hid (heap_alloc_last W _)
    clear hF hv hrow hB hr hl HG0 HN
    unfold ST
    have hk : pre.length + 1 ≤ 139 := hlt
    have hone : ∀ u ∈ x.cs, u.oneCell' = true := by
      have h := Array.all_eq_true'.1 x.one
      intro u hu
      exact h u (by simpa using hu)
    have HO := Lib.hid hone
    have hcs : ∀ (j : Nat) (u : Value), x.cs[j]? = some u → (W.alloc (.cells x.cs.toArray 23)).cell? ((⟨W.heap.size, 0, none⟩ : Addr).add j) = some u := fun j u hu => by
      have h := HT.out.at j u hu
      by_cases hj : j = 0
      · subst hj; exact h
      · simp only [Addr.add, if_neg hj, Nat.zero_add]; exact h
    have HC := Lib.hid hcs
    clear hcs
    clear hone
    gi_wp2_with (first | (refine wpListIn_load23 (f := x) rfl rfl rfl HFB.out ?_) | (refine wpListIn_build23 (x := x) rfl rfl rfl ?_) | (gi_at_builtin; generalize hWL : wpListIn (F.inRound l) _ _ _ _ _ _ _ = G) | fail)
    subst hWL
    refine wpListIn_append_own _ rfl _ _ 24 rfl w.heap.size 23 i0 zf.v 14 56 Tryd.underlying24 HI0.out.1 HI0.out.2.1 HI0.out.2.2.1 HI0.out.2.2.2 rfl (by decide) v pre.length (cellsL pre) rfl (HR.out.alloc _) ⟨W.heap.size, 0, none⟩ 1 1 x.cs rfl rfl HC.out HO.out (by unfold maxLen; omega) (by omega) (by have := HB.out.size; simp; omega) ?_
    intro v' w1 hown' hgrow _
    obtain ⟨g', cap', rfl⟩ := ownsRow_succ hown'
    obtain ⟨hv1, hv2, hr2, hk2, hb2⟩ := HV.out.appended (by decide) HR.out HB.out.size (Nat.le_refl _) hown' hgrow
    have hkp := Lib.hid (kpC_appended (B := W0.heap.size) HV.out HR.out hgrow hb2 (by have := HL.out; omega))
    have hc1 := hv1.cell
    have hf1 := hv1.frozen
    have HE := Lib.hid (And.intro hv2 (And.intro hr2 (And.intro hk2 hb2)))
    clear hv1 hv2 hr2 hk2 hb2 hgrow hown' c0
    gi_wp2
    exact ⟨HE.out.2.2.1.from _, hkp.out, ⟨_, HE.out.1, by rw [cellsL_snoc, List.length_append]; exact HE.out.2.1, trivial⟩, HB.out.trans HE.out.2.2.2⟩
  case done =>
    rintro D ys W hD rfl hI hK
    obtain ⟨⟨v, hv, hrow, -⟩, hB⟩ := hI
    have c0 := hv.cell
    have HR := Lib.hid hrow
    have HB := Lib.hid hB
    clear hv hrow hB
    gi_wp2
    refine ⟨by simp, .inl ⟨_, _, rfl, run_takeDeferred hK, ?_⟩⟩
    exact ⟨_, results_tmp rfl _ _ _, ⟨_, rfl, ownsRow_putObj HR.out _ hK rfl⟩, HB.out.trans (belowK_b (w := w) (Nat.le_refl _) W D _ _ (by have := HZ.out; omega) hK rfl rfl)⟩
  case stop =>
    rintro D c pre W _ _ h _
    exact h.elim
theorem append_any (w : World) (hG : GL w) :
    Calls Tryd.prog 27 #[.slice none 0 0, .func (.func 28) #[] #[]] w fun e W' => (∃ v, e = .returned v ∧ W'.ownsRow w.heap.size 23 14 v 139 (cellsL formsL)) ∧ Below w.heap.size w W' :=
  callsIn_wide.1 (append_in Fence.wide (Lib.hid rfl) 5 (Nat.le_refl _) w hG)
theorem collect_any (w : World) (hG : GL w) :
    Calls Tryd.prog 19 #[.func (.func 28) #[] #[]] w fun e W' => (∃ v, e = .returned v ∧ W'.ownsRow w.heap.size 23 14 v 139 (cellsL formsL)) ∧ Below w.heap.size w W' := by
  have HA := Lib.hid (append_any w hG)
  clear hG
  go_enter Tryd.func19, Tryd.ntmps19
  go_wp2_with fail
  go_at_call 27
  (with_reducible refine HA.out.mono ?_)
  rintro e w2 ⟨⟨v, rfl, hv⟩, hb⟩
  have HV := Lib.hid hv
  have HB := Lib.hid hb
  clear hv hb HA
  go_wp2_with fail
  go_ret
  exact ⟨⟨_, rfl, HV.out⟩, HB.out⟩
theorem forms_any (w : World) (hG : GL w) :
    Calls Tryd.prog 8 #[] w fun e W' => (∃ v, e = .returned v ∧ W'.ownsRow w.heap.size 23 14 v 139 (cellsL formsL)) ∧ Below w.heap.size w W' := by
  have HA := Lib.hid (collect_any w hG)
  clear hG
  go_enter Tryd.func8, Tryd.ntmps8
  go_wp2_with fail
  go_at_call 20
  (with_reducible refine (each_any _).mono ?_)
  rintro e w' ⟨rfl, rfl⟩
  go_wp2_with fail
  go_at_call 19
  (with_reducible refine HA.out.mono ?_)
  rintro e w2 ⟨⟨v, rfl, hv⟩, hb⟩
  have HV := Lib.hid hv
  have HB := Lib.hid hb
  clear hv hb HA
  go_wp2_with fail
  go_ret
  exact ⟨⟨_, rfl, HV.out⟩, HB.out⟩
end Go.Proofs.YtaeehinlgmijgaaDoor
