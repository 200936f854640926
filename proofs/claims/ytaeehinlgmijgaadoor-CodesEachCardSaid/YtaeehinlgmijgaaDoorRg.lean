/- The reference's sums. -/
import Derived.Test.YtaeehinlgmijgaaDoorRf
namespace Go.Proofs.YtaeehinlgmijgaaDoor
open Go.RowKit Go.Shelf
set_option linter.unusedVariables false
set_option linter.unusedSimpArgs false
attribute [local go_sem] Oper.semAt_some
def sumC : Array Value := (sumV.map (fun x => Value.int .u8 (x : Nat))).toArray
def z50 : Array Value := (List.replicate 8 (Value.int .u8 0)).toArray
theorem info50 : (Tryd.prog.info? 50).map (·.size) = some 8 := by kernel_rfl
theorem wpList_store50 {ops : Array Oper} {Q : Exit → Act → World → Prop} {o : Oper} {rest : List Oper} {a : Act} {W : World} {x y : Operand} {b : Nat} {u c : Array Value}
    (ho : o.op = .store 50 x y) (hg : o.guard = none) (hx : a.eval x = .pointer (some ⟨b, 0, none⟩)) (hy : a.eval y = .agg c) (h : W.heap[b]? = some (.cells u 50 (0, 0))) (hu : u.size = 8) (hs : c.size = 8) (h1 : c.all (·.oneCell') = true)
    (hn : wpList Tryd.prog ops Q rest (a.put o.dst undef) (W.setRow b c)) : wpList Tryd.prog ops Q (o :: rest) a W := by
  refine wpList_plain hg fun K hK => ?_
  have e : (execOp a.eval o).run Tryd.prog W = .ok .skip (W.setRow b c) := by
    unfold execOp
    rw [ho]
    simp only [hx, hy, Instr.storeAt, Instr.sureAddr, Sem.run_bind, Sem.run_pure, Result.andThen, run_storeVar_row _ _ 50 50 u c h (by rw [hs]; exact info50) (by rw [hu, hs]) h1]
  unfold Oper.wp
  rw [e, Oper.upon_skip]
  exact hK _ _ hn
def sumS1 : List Fm := (List.range 8).flatMap sum1
def sumS2 : List Fm := sumS1 ++ (List.range 8).flatMap sum2
/-- Forms so far, beside an array in a block of its own. -/
def QR (w : World) (q : Nat) (c : Array Value) (ty : TypeId) (pre : List Fm) (v : Value) (W : World) : Prop := SR w pre v W ∧ W.heap[q]? = some (.cells c ty (0, 0))
theorem QR.next {w W W1 : World} {q : Nat} {c : Array Value} {ty : TypeId} {pre : List Fm} {x : Fm} {v v' : Value} (hty : ty ≠ 23) (h : QR w q c ty pre v W) (ho : W1.ownsRow w.heap.size 23 14 v' (pre.length + 1) (cellsL pre ++ x.cs)) (hg : (W.alloc (.cells x.cs.toArray 23)).grownBy W1 v.ownBlock) : QR w q c ty (pre ++ [x]) v' W1 := by
  refine ⟨h.1.next ho hg, ?_⟩
  have hq := (Array.getElem?_eq_some_iff.1 h.2).1
  have ha := (Below.heap_alloc W (.cells x.cs.toArray 23) q hq).trans h.2
  refine (hg.block q (by simp; omega) (fun e => ?_)).trans ha
  rcases h.1.1.2 with ⟨rfl, _⟩ | ⟨g, cap, cur, rfl, _, hgb, _⟩
  · simp [Value.ownBlock] at e
  · obtain rfl : q = g := by simpa [Value.ownBlock] using e
    have := hgb.symm.trans h.2
    simp at this
    exact hty this.2.symm
theorem QR.c {w W : World} {q : Nat} {c : Array Value} {ty : TypeId} {pre : List Fm} {v : Value} (h : QR w q c ty pre v W) (k : Nat) (u : Value) (hu : c[k]? = some u) : W.cell? ⟨q, k, none⟩ = some u := by
  have h2 := h.2
  simp [World.cell?, h2, hu]
def dN : List Nat := [0, 1, 4, 5, 7]
def sN : List Nat := [19, 20, 16, 17, 18]
def fam5 (k : Nat) : List Fm := [mkF 0 0 0xc1 false ((dN.getD k 0 : Nat) : Int) (sN.getD k 0) 0 0 4 1 false, mkF 0 0 0xd3 false ((dN.getD k 0 : Nat) : Int) (sN.getD k 0) 0 0 5 0 false]
def e8 (k : Nat) : Fm := plainL.getD (8 + k) (mkF 0 0 0 false 0 0 0 0 0 0 false)
def rsumL : List Fm := sumS2 ++ [e8 0] ++ [e8 1] ++ [e8 2] ++ [e8 3] ++ [e8 4] ++ [e8 5] ++ [e8 6] ++ [e8 7] ++ (List.range 5).flatMap fam5 ++ [e8 8]
def dC : Array Value := (dN.map (fun x => Value.int .i64 (x : Nat))).toArray
def sC : Array Value := (sN.map (fun x => Value.int .u8 (x : Nat))).toArray
def Q2 (w : World) (q r : Nat) (pre : List Fm) (v : Value) (W : World) : Prop := SR w pre v W ∧ W.heap[q]? = some (.cells dC 51 (0, 0)) ∧ W.heap[r]? = some (.cells sC 52 (0, 0))
theorem SR.alloc {w W : World} {pre : List Fm} {v : Value} (h : SR w pre v W) (o : Obj) : SR w pre v (W.alloc o) := ⟨h.1.alloc _, h.2.alloc h.2.size _⟩
theorem SR.drew {w W : World} {pre : List Fm} {v : Value} (h : SR w pre v W) : SR w pre v W.drew := ⟨h.1, h.2.drew⟩
theorem SR.two {w W : World} {pre : List Fm} {v : Value} (h : SR w pre v W) : Q2 w W.heap.size (W.heap.size + 1) pre v ((W.alloc (.cells dC 51)).alloc (.cells sC 52)) := by
  refine ⟨(h.alloc _).alloc _, ?_, ?_⟩
  · rw [Below.heap_alloc _ _ _ (by simp)]
    exact heap_alloc_last W _
  · have := heap_alloc_last (W.alloc (.cells dC 51)) (.cells sC 52)
    rwa [show (W.alloc (.cells dC 51)).heap.size = W.heap.size + 1 by simp] at this
theorem Q2.drew {w W : World} {q r : Nat} {pre : List Fm} {v : Value} (h : Q2 w q r pre v W) : Q2 w q r pre v W.drew := ⟨h.1.drew, h.2⟩
theorem Q2.alloc {w W : World} {q r : Nat} {pre : List Fm} {v : Value} (h : Q2 w q r pre v W) (o : Obj) : Q2 w q r pre v (W.alloc o) :=
  ⟨h.1.alloc o, (Below.heap_alloc W o q (Array.getElem?_eq_some_iff.1 h.2.1).1).trans h.2.1, (Below.heap_alloc W o r (Array.getElem?_eq_some_iff.1 h.2.2).1).trans h.2.2⟩
theorem wp_build23 {K : Act → World → Prop} {Q : Exit → Act → World → Prop} {o : Oper} {a : Act} {W : World} {y : Operand} {x : Fm}
    (ho : o.op = .buildSlice 24 1 #[(0, y)]) (hy : a.eval y = x.v)
    (hn : K (a.put o.dst (.slice (some ⟨W.heap.size, 0, none⟩) 1 1)) (W.alloc (.cells x.cs.toArray 23))) : o.wp Tryd.prog a W K Q := by
  unfold Oper.wp
  rw [build_run (W := W) ho hy, Oper.upon_value]
  exact hn
theorem Q2.next {w W W1 : World} {q r : Nat} {pre : List Fm} {x : Fm} {v v' : Value} (h : Q2 w q r pre v W) (ho : W1.ownsRow w.heap.size 23 14 v' (pre.length + 1) (cellsL pre ++ x.cs)) (hg : (W.alloc (.cells x.cs.toArray 23)).grownBy W1 v.ownBlock) : Q2 w q r (pre ++ [x]) v' W1 :=
  ⟨h.1.next ho hg, (QR.next (c := dC) (ty := 51) (by decide) ⟨h.1, h.2.1⟩ ho hg).2, (QR.next (c := sC) (ty := 52) (by decide) ⟨h.1, h.2.2⟩ ho hg).2⟩
theorem Q2.d {w W : World} {q r : Nat} {pre : List Fm} {v : Value} (h : Q2 w q r pre v W) (k : Nat) (u : Value) (hu : dC[k]? = some u) : W.cell? ⟨q, k, none⟩ = some u := by
  have h2 := h.2.1
  simp [World.cell?, h2, hu]
theorem Q2.s {w W : World} {q r : Nat} {pre : List Fm} {v : Value} (h : Q2 w q r pre v W) (k : Nat) (u : Value) (hu : sC[k]? = some u) : W.cell? ⟨r, k, none⟩ = some u := by
  have h2 := h.2.2
  simp [World.cell?, h2, hu]
set_option maxRecDepth 1000000 in
set_option maxHeartbeats 4000000 in
theorem sums_any (w : World) : Calls Tryd.prog 22 #[] w fun e w' => ∃ v, e = .returned v ∧ SR w rsumL v w' := by
  obtain ⟨i0, hi, hz0, hz1, hz2⟩ := info_parts infoE23
  have HI0 := Lib.hid (And.intro hi (And.intro hz0 (And.intro hz1 hz2)))
  clear hi hz0 hz1 hz2
  have hn := heap_alloc_last w (.cells z50 50)
  have HN := Lib.hid hn
  have HB := Lib.hid ((Below.refl w.heap.size w).alloc (Nat.le_refl _) (.cells z50 50))
  clear hn
  go_enter Tryd.func22, Tryd.ntmps22
  go_upto_region 2 with fail
  go_wp2_with (refine wpList_store50 (c := sumC) rfl rfl rfl (by kernel_rfl) HN.out (by kernel_rfl) (by kernel_rfl) (by kernel_rfl) ?_; generalize hW : World.setRow _ _ _ = W1; have HQ : Hid (QR w w.heap.size sumC 50 [] (.slice none 0 0) W1) := Lib.hid ⟨⟨World.ownsRow_nil _ _ _ _, by rw [← hW]; exact below_row HB.out (Nat.le_refl _)⟩, by rw [← hW]; exact setRow_heap _ _ _ _ _ _ HN.out⟩; clear hW)
  go_wp2_with fail
  go_loopw [1, 3] (fun v i W => ∃ k : Nat, k ≤ 8 ∧ i = .int .i64 k ∧ Hid (QR w w.heap.size sumC 50 (([] : List Fm) ++ (List.range k).flatMap sum1) v W)) (fun _ i _ => 8 - (intOf i).toNat)
  case atStart => exact ⟨0, by omega, rfl, by simpa using HQ⟩
  case round =>
    clear HQ
    obtain ⟨k, hk, rfl, HS⟩ := hrel
    have hl0 : (([] : List Fm)).length ≤ 70 := by decide +kernel
    have hlen : (([] : List Fm) ++ (List.range k).flatMap sum1).length ≤ 110 := by rw [List.length_append, flat_len (m := 2) (fun _ => rfl)]; omega
    by_cases hlt : k < 8
    · have HF2 := Lib.hid (flat_succ' sum1 k)
      have hf : sum1 k = [(mkF 0 0 (8 * k + 1) false (-1) (sumV.getD k 0) 0 0 1 0 false), (mkF 0 0 (8 * k + 3) false (-1) (sumV.getD k 0) 0 0 2 0 false)] := rfl
      rw [hf] at HF2
      clear hf
      have hsv : sumC[k]? = some (.int .u8 ((sumV.getD k 0 : Nat) : Int)) := by
        have : ∀ j : Fin 8, sumC[j.val]? = some (.int .u8 ((sumV.getD j.val 0 : Nat) : Int)) := by intro j; match j with | 0 => rfl | 1 => rfl | 2 => rfl | 3 => rfl | 4 => rfl | 5 => rfl | 6 => rfl | 7 => rfl
        exact this ⟨k, hlt⟩
      generalize sumV.getD k 0 = s at hsv HF2
      generalize hpre : ([] : List Fm) ++ (List.range k).flatMap sum1 = pre at HS hlen
      have HP := Lib.hid hpre
      have HSV := Lib.hid hsv
      clear hpre hsv
      have c0 := HS.out.c k _ HSV.out
      have hl1 : (pre).length = pre.length + 0 := by simp
      go_wp2_with (first | (refine wpList_build23 (x := (mkF 0 0 (8 * k + 1) false (-1) s 0 0 1 0 false)) rfl rfl (by kernel_rfl) ?_) | (at_builtin; refine wpList_append_own _ rfl _ _ 24 rfl w.heap.size 23 i0 zf.v 14 56 Tryd.underlying24 HI0.out.1 HI0.out.2.1 HI0.out.2.2.1 HI0.out.2.2.2 rfl (by decide) _ (pre).length (cellsL (pre)) rfl (HS.out.1.1.alloc _) ⟨_, 0, none⟩ 1 1 ((mkF 0 0 (8 * k + 1) false (-1) s 0 0 1 0 false)).cs rfl rfl (cells_new _ _) (Fm.ones _) (by unfold maxLen; omega) (by omega) (by have := HS.out.1.2.size; simp; omega) ?_) | fail)
      intro v1 W11 hown hgr _
      have HS1 := Lib.hid (QR.next (x := (mkF 0 0 (8 * k + 1) false (-1) s 0 0 1 0 false)) (by decide) HS.out hown hgr)
      clear hown hgr c0
      have c0 := HS1.out.c k _ HSV.out
      have hl2 : (pre ++ [(mkF 0 0 (8 * k + 1) false (-1) s 0 0 1 0 false)]).length = pre.length + 1 := by simp
      go_wp2_with (first | (refine wpList_build23 (x := (mkF 0 0 (8 * k + 3) false (-1) s 0 0 2 0 false)) rfl rfl (by kernel_rfl) ?_) | (at_builtin; refine wpList_append_own _ rfl _ _ 24 rfl w.heap.size 23 i0 zf.v 14 56 Tryd.underlying24 HI0.out.1 HI0.out.2.1 HI0.out.2.2.1 HI0.out.2.2.2 rfl (by decide) _ (pre ++ [(mkF 0 0 (8 * k + 1) false (-1) s 0 0 1 0 false)]).length (cellsL (pre ++ [(mkF 0 0 (8 * k + 1) false (-1) s 0 0 1 0 false)])) rfl (HS1.out.1.1.alloc _) ⟨_, 0, none⟩ 1 1 ((mkF 0 0 (8 * k + 3) false (-1) s 0 0 2 0 false)).cs rfl rfl (cells_new _ _) (Fm.ones _) (by unfold maxLen; omega) (by omega) (by have := HS1.out.1.2.size; simp; omega) ?_) | fail)
      intro v2 W12 hown hgr _
      have HS2 := Lib.hid (QR.next (x := (mkF 0 0 (8 * k + 3) false (-1) s 0 0 2 0 false)) (by decide) HS1.out hown hgr)
      clear hown hgr c0
      have c0 := HS2.out.c k _ HSV.out
      clear c0
      go_wp2_with fail
      go_roundw
      case rel => exact ⟨k + 1, by omega, by go_num, Lib.hid (by rw [HF2.out, ← List.append_assoc, HP.out]; exact (by have h := HS2.out; rw [List.append_assoc] at h; exact h))⟩
      case measure => simp [intOf]; omega
    · obtain rfl : k = 8 := by omega
      have HQ := HS
      clear HS
      go_wp2_with fail
      generalize hin : ([] : List Fm) ++ List.flatMap sum1 (List.range 8) = fl at HQ
      obtain rfl : fl = sumS1 := hin.symm
      clear hin
      go_loopw [1, 4] (fun v i W => ∃ k : Nat, k ≤ 8 ∧ i = .int .i64 k ∧ Hid (QR w w.heap.size sumC 50 (sumS1 ++ (List.range k).flatMap sum2) v W)) (fun _ i _ => 8 - (intOf i).toNat)
      case atStart => exact ⟨0, by omega, rfl, by simpa using HQ⟩
      case round =>
        clear HQ
        obtain ⟨k, hk, rfl, HS⟩ := hrel
        have hl0 : (sumS1).length ≤ 70 := by decide +kernel
        have hlen : (sumS1 ++ (List.range k).flatMap sum2).length ≤ 110 := by rw [List.length_append, flat_len (m := 2) (fun _ => rfl)]; omega
        by_cases hlt : k < 8
        · have HF2 := Lib.hid (flat_succ' sum2 k)
          have hf : sum2 k = [(mkF 0 0 0x83 false k (sumV.getD k 0) 0 0 4 1 false), (mkF 0 0 0x81 false k (sumV.getD k 0) 0 0 4 4 false)] := rfl
          rw [hf] at HF2
          clear hf
          have hsv : sumC[k]? = some (.int .u8 ((sumV.getD k 0 : Nat) : Int)) := by
            have : ∀ j : Fin 8, sumC[j.val]? = some (.int .u8 ((sumV.getD j.val 0 : Nat) : Int)) := by intro j; match j with | 0 => rfl | 1 => rfl | 2 => rfl | 3 => rfl | 4 => rfl | 5 => rfl | 6 => rfl | 7 => rfl
            exact this ⟨k, hlt⟩
          generalize sumV.getD k 0 = s at hsv HF2
          generalize hpre : sumS1 ++ (List.range k).flatMap sum2 = pre at HS hlen
          have HP := Lib.hid hpre
          have HSV := Lib.hid hsv
          clear hpre hsv
          have c0 := HS.out.c k _ HSV.out
          have hl1 : (pre).length = pre.length + 0 := by simp
          go_wp2_with (first | (refine wpList_build23 (x := (mkF 0 0 0x83 false k s 0 0 4 1 false)) rfl rfl (by kernel_rfl) ?_) | (at_builtin; refine wpList_append_own _ rfl _ _ 24 rfl w.heap.size 23 i0 zf.v 14 56 Tryd.underlying24 HI0.out.1 HI0.out.2.1 HI0.out.2.2.1 HI0.out.2.2.2 rfl (by decide) _ (pre).length (cellsL (pre)) rfl (HS.out.1.1.alloc _) ⟨_, 0, none⟩ 1 1 ((mkF 0 0 0x83 false k s 0 0 4 1 false)).cs rfl rfl (cells_new _ _) (Fm.ones _) (by unfold maxLen; omega) (by omega) (by have := HS.out.1.2.size; simp; omega) ?_) | fail)
          intro v1 W11 hown hgr _
          have HS1 := Lib.hid (QR.next (x := (mkF 0 0 0x83 false k s 0 0 4 1 false)) (by decide) HS.out hown hgr)
          clear hown hgr c0
          have c0 := HS1.out.c k _ HSV.out
          have hl2 : (pre ++ [(mkF 0 0 0x83 false k s 0 0 4 1 false)]).length = pre.length + 1 := by simp
          go_wp2_with (first | (refine wpList_build23 (x := (mkF 0 0 0x81 false k s 0 0 4 4 false)) rfl rfl (by kernel_rfl) ?_) | (at_builtin; refine wpList_append_own _ rfl _ _ 24 rfl w.heap.size 23 i0 zf.v 14 56 Tryd.underlying24 HI0.out.1 HI0.out.2.1 HI0.out.2.2.1 HI0.out.2.2.2 rfl (by decide) _ (pre ++ [(mkF 0 0 0x83 false k s 0 0 4 1 false)]).length (cellsL (pre ++ [(mkF 0 0 0x83 false k s 0 0 4 1 false)])) rfl (HS1.out.1.1.alloc _) ⟨_, 0, none⟩ 1 1 ((mkF 0 0 0x81 false k s 0 0 4 4 false)).cs rfl rfl (cells_new _ _) (Fm.ones _) (by unfold maxLen; omega) (by omega) (by have := HS1.out.1.2.size; simp; omega) ?_) | fail)
          intro v2 W12 hown hgr _
          have HS2 := Lib.hid (QR.next (x := (mkF 0 0 0x81 false k s 0 0 4 4 false)) (by decide) HS1.out hown hgr)
          clear hown hgr c0
          have c0 := HS2.out.c k _ HSV.out
          clear c0
          go_wp2_with fail
          go_roundw
          case rel => exact ⟨k + 1, by omega, by go_num, Lib.hid (by rw [HF2.out, ← List.append_assoc, HP.out]; exact (by have h := HS2.out; rw [List.append_assoc] at h; exact h))⟩
          case measure => simp [intOf]; omega
        · obtain rfl : k = 8 := by omega
          have HQ := HS
          clear HS
          generalize hin : sumS1 ++ List.flatMap sum2 (List.range 8) = fl at HQ
          have HL0 := Lib.hid hin
          clear hin
          have hl0 : fl.length = 32 := by rw [← HL0.out]; decide +kernel
          have HS0 := Lib.hid HQ.out.1
          clear HQ
          generalize fl = p0 at *
          go_wp2_with (first | (refine wpList_build23 (x := (e8 0)) rfl rfl (by kernel_rfl) ?_) | (at_builtin; refine wpList_append_own _ rfl _ _ 24 rfl w.heap.size 23 i0 zf.v 14 56 Tryd.underlying24 HI0.out.1 HI0.out.2.1 HI0.out.2.2.1 HI0.out.2.2.2 rfl (by decide) _ (p0).length (cellsL (p0)) rfl (HS0.out.1.alloc _) ⟨_, 0, none⟩ 1 1 ((e8 0)).cs rfl rfl (cells_new _ _) (Fm.ones _) (by unfold maxLen; omega) (by omega) (by have := HS0.out.2.size; simp; omega) ?_) | fail)
          intro v50 W50 hown hgr _
          have HS1 := Lib.hid (SR.next (x := (e8 0)) HS0.out (by first | exact hown | (rw [hl0]; exact hown)) hgr)
          clear hown hgr HS0
          have hl1 : (p0 ++ [(e8 0)]).length = 33 := by simp [hl0]
          clear hl0
          generalize hin : p0 ++ [(e8 0)] = p1 at HS1 hl1
          have HL1 := Lib.hid hin
          clear hin
          go_wp2_with (first | (refine wpList_build23 (x := (e8 1)) rfl rfl (by kernel_rfl) ?_) | (at_builtin; refine wpList_append_own _ rfl _ _ 24 rfl w.heap.size 23 i0 zf.v 14 56 Tryd.underlying24 HI0.out.1 HI0.out.2.1 HI0.out.2.2.1 HI0.out.2.2.2 rfl (by decide) _ (p1).length (cellsL (p1)) rfl (HS1.out.1.alloc _) ⟨_, 0, none⟩ 1 1 ((e8 1)).cs rfl rfl (cells_new _ _) (Fm.ones _) (by unfold maxLen; omega) (by omega) (by have := HS1.out.2.size; simp; omega) ?_) | fail)
          intro v51 W51 hown hgr _
          have HS2 := Lib.hid (SR.next (x := (e8 1)) HS1.out (by first | exact hown | (rw [hl1]; exact hown)) hgr)
          clear hown hgr HS1
          have hl2 : (p1 ++ [(e8 1)]).length = 34 := by simp [hl1]
          clear hl1
          generalize hin : p1 ++ [(e8 1)] = p2 at HS2 hl2
          have HL2 := Lib.hid hin
          clear hin
          go_wp2_with (first | (refine wpList_build23 (x := (e8 2)) rfl rfl (by kernel_rfl) ?_) | (at_builtin; refine wpList_append_own _ rfl _ _ 24 rfl w.heap.size 23 i0 zf.v 14 56 Tryd.underlying24 HI0.out.1 HI0.out.2.1 HI0.out.2.2.1 HI0.out.2.2.2 rfl (by decide) _ (p2).length (cellsL (p2)) rfl (HS2.out.1.alloc _) ⟨_, 0, none⟩ 1 1 ((e8 2)).cs rfl rfl (cells_new _ _) (Fm.ones _) (by unfold maxLen; omega) (by omega) (by have := HS2.out.2.size; simp; omega) ?_) | fail)
          intro v52 W52 hown hgr _
          have HS3 := Lib.hid (SR.next (x := (e8 2)) HS2.out (by first | exact hown | (rw [hl2]; exact hown)) hgr)
          clear hown hgr HS2
          have hl3 : (p2 ++ [(e8 2)]).length = 35 := by simp [hl2]
          clear hl2
          generalize hin : p2 ++ [(e8 2)] = p3 at HS3 hl3
          have HL3 := Lib.hid hin
          clear hin
          go_wp2_with (first | (refine wpList_build23 (x := (e8 3)) rfl rfl (by kernel_rfl) ?_) | (at_builtin; refine wpList_append_own _ rfl _ _ 24 rfl w.heap.size 23 i0 zf.v 14 56 Tryd.underlying24 HI0.out.1 HI0.out.2.1 HI0.out.2.2.1 HI0.out.2.2.2 rfl (by decide) _ (p3).length (cellsL (p3)) rfl (HS3.out.1.alloc _) ⟨_, 0, none⟩ 1 1 ((e8 3)).cs rfl rfl (cells_new _ _) (Fm.ones _) (by unfold maxLen; omega) (by omega) (by have := HS3.out.2.size; simp; omega) ?_) | fail)
          intro v53 W53 hown hgr _
          have HS4 := Lib.hid (SR.next (x := (e8 3)) HS3.out (by first | exact hown | (rw [hl3]; exact hown)) hgr)
          clear hown hgr HS3
          have hl4 : (p3 ++ [(e8 3)]).length = 36 := by simp [hl3]
          clear hl3
          generalize hin : p3 ++ [(e8 3)] = p4 at HS4 hl4
          have HL4 := Lib.hid hin
          clear hin
          go_wp2_with (first | (refine wpList_build23 (x := (e8 4)) rfl rfl (by kernel_rfl) ?_) | (at_builtin; refine wpList_append_own _ rfl _ _ 24 rfl w.heap.size 23 i0 zf.v 14 56 Tryd.underlying24 HI0.out.1 HI0.out.2.1 HI0.out.2.2.1 HI0.out.2.2.2 rfl (by decide) _ (p4).length (cellsL (p4)) rfl (HS4.out.1.alloc _) ⟨_, 0, none⟩ 1 1 ((e8 4)).cs rfl rfl (cells_new _ _) (Fm.ones _) (by unfold maxLen; omega) (by omega) (by have := HS4.out.2.size; simp; omega) ?_) | fail)
          intro v54 W54 hown hgr _
          have HS5 := Lib.hid (SR.next (x := (e8 4)) HS4.out (by first | exact hown | (rw [hl4]; exact hown)) hgr)
          clear hown hgr HS4
          have hl5 : (p4 ++ [(e8 4)]).length = 37 := by simp [hl4]
          clear hl4
          generalize hin : p4 ++ [(e8 4)] = p5 at HS5 hl5
          have HL5 := Lib.hid hin
          clear hin
          go_wp2_with (first | (refine wpList_build23 (x := (e8 5)) rfl rfl (by kernel_rfl) ?_) | (at_builtin; refine wpList_append_own _ rfl _ _ 24 rfl w.heap.size 23 i0 zf.v 14 56 Tryd.underlying24 HI0.out.1 HI0.out.2.1 HI0.out.2.2.1 HI0.out.2.2.2 rfl (by decide) _ (p5).length (cellsL (p5)) rfl (HS5.out.1.alloc _) ⟨_, 0, none⟩ 1 1 ((e8 5)).cs rfl rfl (cells_new _ _) (Fm.ones _) (by unfold maxLen; omega) (by omega) (by have := HS5.out.2.size; simp; omega) ?_) | fail)
          intro v55 W55 hown hgr _
          have HS6 := Lib.hid (SR.next (x := (e8 5)) HS5.out (by first | exact hown | (rw [hl5]; exact hown)) hgr)
          clear hown hgr HS5
          have hl6 : (p5 ++ [(e8 5)]).length = 38 := by simp [hl5]
          clear hl5
          generalize hin : p5 ++ [(e8 5)] = p6 at HS6 hl6
          have HL6 := Lib.hid hin
          clear hin
          go_wp2_with (first | (refine wpList_build23 (x := (e8 6)) rfl rfl (by kernel_rfl) ?_) | (at_builtin; refine wpList_append_own _ rfl _ _ 24 rfl w.heap.size 23 i0 zf.v 14 56 Tryd.underlying24 HI0.out.1 HI0.out.2.1 HI0.out.2.2.1 HI0.out.2.2.2 rfl (by decide) _ (p6).length (cellsL (p6)) rfl (HS6.out.1.alloc _) ⟨_, 0, none⟩ 1 1 ((e8 6)).cs rfl rfl (cells_new _ _) (Fm.ones _) (by unfold maxLen; omega) (by omega) (by have := HS6.out.2.size; simp; omega) ?_) | fail)
          intro v56 W56 hown hgr _
          have HS7 := Lib.hid (SR.next (x := (e8 6)) HS6.out (by first | exact hown | (rw [hl6]; exact hown)) hgr)
          clear hown hgr HS6
          have hl7 : (p6 ++ [(e8 6)]).length = 39 := by simp [hl6]
          clear hl6
          generalize hin : p6 ++ [(e8 6)] = p7 at HS7 hl7
          have HL7 := Lib.hid hin
          clear hin
          go_wp2_with (first | (refine wpList_build23 (x := (e8 7)) rfl rfl (by kernel_rfl) ?_) | (at_builtin; refine wpList_append_own _ rfl _ _ 24 rfl w.heap.size 23 i0 zf.v 14 56 Tryd.underlying24 HI0.out.1 HI0.out.2.1 HI0.out.2.2.1 HI0.out.2.2.2 rfl (by decide) _ (p7).length (cellsL (p7)) rfl (HS7.out.1.alloc _) ⟨_, 0, none⟩ 1 1 ((e8 7)).cs rfl rfl (cells_new _ _) (Fm.ones _) (by unfold maxLen; omega) (by omega) (by have := HS7.out.2.size; simp; omega) ?_) | fail)
          intro v57 W57 hown hgr _
          have HS8 := Lib.hid (SR.next (x := (e8 7)) HS7.out (by first | exact hown | (rw [hl7]; exact hown)) hgr)
          clear hown hgr HS7
          have hl8 : (p7 ++ [(e8 7)]).length = 40 := by simp [hl7]
          clear hl7
          generalize hin : p7 ++ [(e8 7)] = p8 at HS8 hl8
          have HL8 := Lib.hid hin
          clear hin
          go_wp2_with fail
          have HB2 : Hid (Q2 w W57.heap.size (W57.heap.size + 1) p8 v57 ((W57.alloc (.cells #[.int .i64 0, .int .i64 1, .int .i64 4, .int .i64 5, .int .i64 7] 51)).alloc (.cells #[.int .u8 19, .int .u8 20, .int .u8 16, .int .u8 17, .int .u8 18] 52))) := Lib.hid (SR.two HS8.out)
          clear HS8
          generalize hW : World.alloc (World.alloc W57 _) _ = W61 at HB2 ⊢
          clear hW
          generalize W57.heap.size = q at *
          generalize q + 1 = r at *
          go_loopw [1, 7] (fun v i W => ∃ k : Nat, k ≤ 5 ∧ i = .int .i64 k ∧ Hid (Q2 w q r (p8 ++ (List.range k).flatMap fam5) v W)) (fun _ i _ => 5 - (intOf i).toNat)
          case atStart => exact ⟨0, by omega, rfl, Lib.hid (by simpa using HB2.out)⟩
          case round =>
            clear HB2
            obtain ⟨k, hk, rfl, HS⟩ := hrel
            have hlen : (p8 ++ (List.range k).flatMap fam5).length ≤ 60 := by rw [List.length_append, flat_len (m := 2) (fun _ => rfl)]; omega
            by_cases hlt : k < 5
            · have HF2 := Lib.hid (flat_succ' fam5 k)
              have hf : fam5 k = [(mkF 0 0 0xc1 false ((dN.getD k 0 : Nat) : Int) (sN.getD k 0) 0 0 4 1 false), (mkF 0 0 0xd3 false ((dN.getD k 0 : Nat) : Int) (sN.getD k 0) 0 0 5 0 false)] := rfl
              rw [hf] at HF2
              clear hf
              have hsd : dC[k]? = some (.int .i64 ((dN.getD k 0 : Nat) : Int)) := by
                have : ∀ j : Fin 5, dC[j.val]? = some (.int .i64 ((dN.getD j.val 0 : Nat) : Int)) := by intro j; match j with | 0 => rfl | 1 => rfl | 2 => rfl | 3 => rfl | 4 => rfl
                exact this ⟨k, hlt⟩
              have hss : sC[k]? = some (.int .u8 ((sN.getD k 0 : Nat) : Int)) := by
                have : ∀ j : Fin 5, sC[j.val]? = some (.int .u8 ((sN.getD j.val 0 : Nat) : Int)) := by intro j; match j with | 0 => rfl | 1 => rfl | 2 => rfl | 3 => rfl | 4 => rfl
                exact this ⟨k, hlt⟩
              generalize dN.getD k 0 = d at hsd HF2
              generalize sN.getD k 0 = s at hss HF2
              generalize hpre : p8 ++ (List.range k).flatMap fam5 = pre at HS hlen
              have HP := Lib.hid hpre
              have HSD := Lib.hid hsd
              have HSS := Lib.hid hss
              clear hpre hsd hss
              have hl0 : (pre).length = pre.length + 0 := by simp
              go_upto_region 26 with fail
              have HD := Lib.hid HS.out.drew
              refine wp_region_noPanic ?_
              refine wp_region_held_drew (S := fun W => ∃ pre v, Q2 w q r pre v W) (by kernel_rfl) ?_ (fun hHeld => ?_)
              · exact ⟨_, _, HS.out.drew⟩
              generalize World.drew _ = v0 at HD hHeld ⊢
              refine wpAnyH_take (i := 0) (v := ?_) rfl (by kernel_rfl) (by kernel_rfl) (by kernel_rfl) (fun _ _ _ h => h) (Or.inl ⟨by kernel_rfl, ?_⟩) (by assumption) ?_
              rotate_left
              · intro w hSw
                go_simp
                try with_reducible rfl
              simp only [Act.put, List.setIfInBounds_toArray, List.set_cons_zero, List.set_cons_succ, List.getElem_toArray, List.getElem_cons_succ, List.getElem_cons_zero]
              refine wpAnyH_take (i := 1) (v := ?_) rfl (by kernel_rfl) (by kernel_rfl) (by kernel_rfl) (fun _ _ _ h => h) (Or.inl ⟨by kernel_rfl, ?_⟩) (by assumption) ?_
              rotate_left
              · intro w hSw
                go_simp
                try with_reducible rfl
              simp only [Act.put, List.setIfInBounds_toArray, List.set_cons_zero, List.set_cons_succ, List.getElem_toArray, List.getElem_cons_succ, List.getElem_cons_zero]
              refine wpAnyH_take (i := 2) (v := ?_) rfl (by kernel_rfl) (by kernel_rfl) (by kernel_rfl) (fun _ _ _ h => h) (Or.inl ⟨by kernel_rfl, ?_⟩) (by assumption) ?_
              rotate_left
              · intro w hSw
                go_simp
                try with_reducible rfl
              simp only [Act.put, List.setIfInBounds_toArray, List.set_cons_zero, List.set_cons_succ, List.getElem_toArray, List.getElem_cons_succ, List.getElem_cons_zero]
              refine wpAnyH_take (i := 3) (v := ?_) rfl (by kernel_rfl) (by kernel_rfl) (by kernel_rfl) (fun _ _ _ h => h) (Or.inl ⟨by kernel_rfl, ?_⟩) (by assumption) ?_
              rotate_left
              · intro w hSw
                obtain ⟨_, _, hq⟩ := hSw
                have c0 := hq.d k _ HSD.out
                go_simp
                try with_reducible rfl
              simp only [Act.put, List.setIfInBounds_toArray, List.set_cons_zero, List.set_cons_succ, List.getElem_toArray, List.getElem_cons_succ, List.getElem_cons_zero]
              refine wpAnyH_take (i := 4) (v := ?_) rfl (by kernel_rfl) (by kernel_rfl) (by kernel_rfl) (fun _ _ _ h => h) (Or.inl ⟨by kernel_rfl, ?_⟩) (by assumption) ?_
              rotate_left
              · intro w hSw
                go_simp
                try with_reducible rfl
              simp only [Act.put, List.setIfInBounds_toArray, List.set_cons_zero, List.set_cons_succ, List.getElem_toArray, List.getElem_cons_succ, List.getElem_cons_zero]
              refine wpAnyH_take (i := 5) (v := ?_) rfl (by kernel_rfl) (by kernel_rfl) (by kernel_rfl) (fun _ _ _ h => h) (Or.inl ⟨by kernel_rfl, ?_⟩) (by assumption) ?_
              rotate_left
              · intro w hSw
                go_simp
                try with_reducible rfl
              simp only [Act.put, List.setIfInBounds_toArray, List.set_cons_zero, List.set_cons_succ, List.getElem_toArray, List.getElem_cons_succ, List.getElem_cons_zero]
              refine wpAnyH_take (i := 6) (v := ?_) rfl (by kernel_rfl) (by kernel_rfl) (by kernel_rfl) (fun _ _ _ h => h) (Or.inl ⟨by kernel_rfl, ?_⟩) (by assumption) ?_
              rotate_left
              · intro w hSw
                obtain ⟨_, _, hq⟩ := hSw
                have c0 := hq.s k _ HSS.out
                go_simp
                try with_reducible rfl
              simp only [Act.put, List.setIfInBounds_toArray, List.set_cons_zero, List.set_cons_succ, List.getElem_toArray, List.getElem_cons_succ, List.getElem_cons_zero]
              refine wpAnyH_take (i := 7) (v := ?_) rfl (by kernel_rfl) (by kernel_rfl) (by kernel_rfl) (fun _ _ _ h => h) (Or.inl ⟨by kernel_rfl, ?_⟩) (by assumption) ?_
              rotate_left
              · intro w hSw
                go_simp
                try with_reducible rfl
              simp only [Act.put, List.setIfInBounds_toArray, List.set_cons_zero, List.set_cons_succ, List.getElem_toArray, List.getElem_cons_succ, List.getElem_cons_zero]
              refine wpAnyH_ready (rs := [8]) (by kernel_rfl) (by simp) ?_
              refine AllReadyH.cons rfl (fun K hK => ?_) AllReadyH.nil
              rw [if_pos (by kernel_rfl)]
              refine wp_build23 (x := (mkF 0 0 0xc1 false (d : Nat) s 0 0 4 1 false)) rfl (by kernel_rfl) ?_
              refine hK.out _ _ ⟨_, _, HD.out.alloc _⟩ (fun hHeld2 => ?_)
              clear hK K hHeld
              have hHeld := hHeld2
              clear hHeld2
              try simp only [Act.put, List.setIfInBounds_toArray, List.set_cons_zero, List.set_cons_succ, List.getElem_toArray, List.getElem_cons_succ, List.getElem_cons_zero]
              refine wpAnyH_ready (rs := [9]) (by kernel_rfl) (by simp) ?_
              refine AllReadyH.cons rfl (fun K hK => ?_) AllReadyH.nil
              rw [if_pos (by kernel_rfl)]
              refine wp_append_own _ _ _ 24 rfl w.heap.size 23 i0 zf.v 14 56 Tryd.underlying24 HI0.out.1 HI0.out.2.1 HI0.out.2.2.1 HI0.out.2.2.2 rfl (by decide) _ (pre).length (cellsL (pre)) rfl (HD.out.1.1.alloc _) ⟨_, 0, none⟩ 1 1 ((mkF 0 0 0xc1 false (d : Nat) s 0 0 4 1 false)).cs rfl rfl (cells_new _ _) (Fm.ones _) (by unfold maxLen; omega) (by omega) (by have := HD.out.1.2.size; simp; omega) ?_
              intro v70 W70 hown hgr _
              have HS1 := Lib.hid (Q2.next (x := (mkF 0 0 0xc1 false (d : Nat) s 0 0 4 1 false)) HD.out (by first | exact hown | (rw [hl0]; exact hown)) hgr)
              clear hown hgr
              refine hK.out _ _ ⟨_, _, HS1.out⟩ (fun hHeld2 => ?_)
              clear hK K hHeld HD
              have hHeld := hHeld2
              clear hHeld2
              try simp only [Act.put, List.setIfInBounds_toArray, List.set_cons_zero, List.set_cons_succ, List.getElem_toArray, List.getElem_cons_succ, List.getElem_cons_zero]
              refine wpAnyH_take (i := 10) (v := ?_) rfl (by kernel_rfl) (by kernel_rfl) (by kernel_rfl) (fun _ _ _ h => h) (Or.inl ⟨by kernel_rfl, ?_⟩) (by assumption) ?_
              rotate_left
              · intro w hSw
                go_simp
                try with_reducible rfl
              simp only [Act.put, List.setIfInBounds_toArray, List.set_cons_zero, List.set_cons_succ, List.getElem_toArray, List.getElem_cons_succ, List.getElem_cons_zero]
              refine wpAnyH_done (by kernel_rfl) ?_ _
              refine NoPanic.normal ?_
              clear hHeld
              have hl1 : (pre ++ [(mkF 0 0 0xc1 false (d : Nat) s 0 0 4 1 false)]).length = pre.length + 1 := by simp
              go_upto_region 27 with fail
              have HD := Lib.hid HS1.out.drew
              refine wp_region_noPanic ?_
              refine wp_region_held_drew (S := fun W => ∃ pre v, Q2 w q r pre v W) (by kernel_rfl) ?_ (fun hHeld => ?_)
              · exact ⟨_, _, HS1.out.drew⟩
              generalize World.drew _ = v0 at HD hHeld ⊢
              refine wpAnyH_take (i := 0) (v := ?_) rfl (by kernel_rfl) (by kernel_rfl) (by kernel_rfl) (fun _ _ _ h => h) (Or.inl ⟨by kernel_rfl, ?_⟩) (by assumption) ?_
              rotate_left
              · intro w hSw
                go_simp
                try with_reducible rfl
              simp only [Act.put, List.setIfInBounds_toArray, List.set_cons_zero, List.set_cons_succ, List.getElem_toArray, List.getElem_cons_succ, List.getElem_cons_zero]
              refine wpAnyH_take (i := 1) (v := ?_) rfl (by kernel_rfl) (by kernel_rfl) (by kernel_rfl) (fun _ _ _ h => h) (Or.inl ⟨by kernel_rfl, ?_⟩) (by assumption) ?_
              rotate_left
              · intro w hSw
                go_simp
                try with_reducible rfl
              simp only [Act.put, List.setIfInBounds_toArray, List.set_cons_zero, List.set_cons_succ, List.getElem_toArray, List.getElem_cons_succ, List.getElem_cons_zero]
              refine wpAnyH_take (i := 2) (v := ?_) rfl (by kernel_rfl) (by kernel_rfl) (by kernel_rfl) (fun _ _ _ h => h) (Or.inl ⟨by kernel_rfl, ?_⟩) (by assumption) ?_
              rotate_left
              · intro w hSw
                go_simp
                try with_reducible rfl
              simp only [Act.put, List.setIfInBounds_toArray, List.set_cons_zero, List.set_cons_succ, List.getElem_toArray, List.getElem_cons_succ, List.getElem_cons_zero]
              refine wpAnyH_take (i := 3) (v := ?_) rfl (by kernel_rfl) (by kernel_rfl) (by kernel_rfl) (fun _ _ _ h => h) (Or.inl ⟨by kernel_rfl, ?_⟩) (by assumption) ?_
              rotate_left
              · intro w hSw
                obtain ⟨_, _, hq⟩ := hSw
                have c0 := hq.d k _ HSD.out
                go_simp
                try with_reducible rfl
              simp only [Act.put, List.setIfInBounds_toArray, List.set_cons_zero, List.set_cons_succ, List.getElem_toArray, List.getElem_cons_succ, List.getElem_cons_zero]
              refine wpAnyH_take (i := 4) (v := ?_) rfl (by kernel_rfl) (by kernel_rfl) (by kernel_rfl) (fun _ _ _ h => h) (Or.inl ⟨by kernel_rfl, ?_⟩) (by assumption) ?_
              rotate_left
              · intro w hSw
                go_simp
                try with_reducible rfl
              simp only [Act.put, List.setIfInBounds_toArray, List.set_cons_zero, List.set_cons_succ, List.getElem_toArray, List.getElem_cons_succ, List.getElem_cons_zero]
              refine wpAnyH_take (i := 5) (v := ?_) rfl (by kernel_rfl) (by kernel_rfl) (by kernel_rfl) (fun _ _ _ h => h) (Or.inl ⟨by kernel_rfl, ?_⟩) (by assumption) ?_
              rotate_left
              · intro w hSw
                go_simp
                try with_reducible rfl
              simp only [Act.put, List.setIfInBounds_toArray, List.set_cons_zero, List.set_cons_succ, List.getElem_toArray, List.getElem_cons_succ, List.getElem_cons_zero]
              refine wpAnyH_take (i := 6) (v := ?_) rfl (by kernel_rfl) (by kernel_rfl) (by kernel_rfl) (fun _ _ _ h => h) (Or.inl ⟨by kernel_rfl, ?_⟩) (by assumption) ?_
              rotate_left
              · intro w hSw
                obtain ⟨_, _, hq⟩ := hSw
                have c0 := hq.s k _ HSS.out
                go_simp
                try with_reducible rfl
              simp only [Act.put, List.setIfInBounds_toArray, List.set_cons_zero, List.set_cons_succ, List.getElem_toArray, List.getElem_cons_succ, List.getElem_cons_zero]
              refine wpAnyH_take (i := 7) (v := ?_) rfl (by kernel_rfl) (by kernel_rfl) (by kernel_rfl) (fun _ _ _ h => h) (Or.inl ⟨by kernel_rfl, ?_⟩) (by assumption) ?_
              rotate_left
              · intro w hSw
                go_simp
                try with_reducible rfl
              simp only [Act.put, List.setIfInBounds_toArray, List.set_cons_zero, List.set_cons_succ, List.getElem_toArray, List.getElem_cons_succ, List.getElem_cons_zero]
              refine wpAnyH_ready (rs := [8]) (by kernel_rfl) (by simp) ?_
              refine AllReadyH.cons rfl (fun K hK => ?_) AllReadyH.nil
              rw [if_pos (by kernel_rfl)]
              refine wp_build23 (x := (mkF 0 0 0xd3 false (d : Nat) s 0 0 5 0 false)) rfl (by kernel_rfl) ?_
              refine hK.out _ _ ⟨_, _, HD.out.alloc _⟩ (fun hHeld2 => ?_)
              clear hK K hHeld
              have hHeld := hHeld2
              clear hHeld2
              try simp only [Act.put, List.setIfInBounds_toArray, List.set_cons_zero, List.set_cons_succ, List.getElem_toArray, List.getElem_cons_succ, List.getElem_cons_zero]
              refine wpAnyH_ready (rs := [9]) (by kernel_rfl) (by simp) ?_
              refine AllReadyH.cons rfl (fun K hK => ?_) AllReadyH.nil
              rw [if_pos (by kernel_rfl)]
              refine wp_append_own _ _ _ 24 rfl w.heap.size 23 i0 zf.v 14 56 Tryd.underlying24 HI0.out.1 HI0.out.2.1 HI0.out.2.2.1 HI0.out.2.2.2 rfl (by decide) _ (pre ++ [(mkF 0 0 0xc1 false (d : Nat) s 0 0 4 1 false)]).length (cellsL (pre ++ [(mkF 0 0 0xc1 false (d : Nat) s 0 0 4 1 false)])) rfl (HD.out.1.1.alloc _) ⟨_, 0, none⟩ 1 1 ((mkF 0 0 0xd3 false (d : Nat) s 0 0 5 0 false)).cs rfl rfl (cells_new _ _) (Fm.ones _) (by unfold maxLen; omega) (by omega) (by have := HD.out.1.2.size; simp; omega) ?_
              intro v71 W71 hown hgr _
              have HS2 := Lib.hid (Q2.next (x := (mkF 0 0 0xd3 false (d : Nat) s 0 0 5 0 false)) HD.out (by first | exact hown | (rw [hl1]; exact hown)) hgr)
              clear hown hgr
              refine hK.out _ _ ⟨_, _, HS2.out⟩ (fun hHeld2 => ?_)
              clear hK K hHeld HD
              have hHeld := hHeld2
              clear hHeld2
              try simp only [Act.put, List.setIfInBounds_toArray, List.set_cons_zero, List.set_cons_succ, List.getElem_toArray, List.getElem_cons_succ, List.getElem_cons_zero]
              refine wpAnyH_take (i := 10) (v := ?_) rfl (by kernel_rfl) (by kernel_rfl) (by kernel_rfl) (fun _ _ _ h => h) (Or.inl ⟨by kernel_rfl, ?_⟩) (by assumption) ?_
              rotate_left
              · intro w hSw
                go_simp
                try with_reducible rfl
              simp only [Act.put, List.setIfInBounds_toArray, List.set_cons_zero, List.set_cons_succ, List.getElem_toArray, List.getElem_cons_succ, List.getElem_cons_zero]
              refine wpAnyH_done (by kernel_rfl) ?_ _
              refine NoPanic.normal ?_
              clear hHeld
              go_wp2_with fail
              go_roundw
              case rel => exact ⟨k + 1, by omega, by go_num, Lib.hid (by rw [HF2.out, ← List.append_assoc, HP.out]; exact (by have h := HS2.out; rw [List.append_assoc] at h; exact h))⟩
              case measure => simp [intOf]; omega
            · obtain rfl : k = 5 := by omega
              generalize hin : p8 ++ List.flatMap fam5 (List.range 5) = p9 at HS hlen
              have HL9 := Lib.hid hin
              clear hin
              have HT := Lib.hid HS.out.1
              clear HS
              go_wp2_with (first | (refine wpList_build23 (x := (e8 8)) rfl rfl (by kernel_rfl) ?_) | (at_builtin; refine wpList_append_own _ rfl _ _ 24 rfl w.heap.size 23 i0 zf.v 14 56 Tryd.underlying24 HI0.out.1 HI0.out.2.1 HI0.out.2.2.1 HI0.out.2.2.2 rfl (by decide) _ (p9).length (cellsL (p9)) rfl (HT.out.1.alloc _) ⟨_, 0, none⟩ 1 1 ((e8 8)).cs rfl rfl (cells_new _ _) (Fm.ones _) (by unfold maxLen; omega) (by omega) (by have := HT.out.2.size; simp; omega) ?_) | fail)
              intro v72 W72 hown hgr _
              have HU := Lib.hid (SR.next (x := (e8 8)) HT.out hown hgr)
              clear hown hgr HT
              go_wp2_with fail
              go_ret
              refine ⟨_, rfl, ?_⟩
              have e : rsumL = p9 ++ [e8 8] := by rw [← HL9.out, ← HL8.out, ← HL7.out, ← HL6.out, ← HL5.out, ← HL4.out, ← HL3.out, ← HL2.out, ← HL1.out, ← HL0.out]; rfl
              rw [e]
              exact HU.out
end Go.Proofs.YtaeehinlgmijgaaDoor
