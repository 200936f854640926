/- operand.parts, Uses. -/
import Derived.Test.YtkpnafgmjcnniaaDoorTk
import Derived.Maps.AppendAt
import Derived.OwnWalkIn
namespace Go.Proofs.YtkpnafgmjcnniaaDoor
open Go.RowKit Go.Shelf
set_option linter.unusedVariables false
set_option linter.unusedSimpArgs false
attribute [local go_sem] Oper.semAt_some
/-- The registers of which an address is made. -/
def partL (k b i : Int) : List Int := if k = 2 then (if 0 ≤ b then [b] else []) ++ (if 0 ≤ i then [i] else []) else []
/-- That block is as it was. -/
def KpB (q : Nat) (W W' : World) : Prop := W'.heap[q]? = W.heap[q]?
set_option maxRecDepth 100000 in
set_option maxHeartbeats 2000000 in
theorem parts1_in (F : Fence) (n : Nat) (h73 : F.fn 73) (hro : F.round = none) (hn : 1 ≤ n) (l q : Nat) (k r b i s d : Int) (p : Bool) (m : Int) (J Jx : List Int → World → Prop)
    (hY : ∀ pre x W, J pre W → pre.length < 2 → YieldAt F (n - 1) Tryd.prog l #[.int .i64 x] W fun e W' => (e = .returned (.bool true) ∧ J (pre ++ [x]) W' ∧ KpB q W W') ∨ (e = .returned (.bool false) ∧ Jx (pre ++ [x]) W'))
    (W : World) (hO : O8 W q k r b i s d p m) (h0 : J [] W) :
    CallsIn F n Tryd.prog 73 #[.func (.yield l) #[] #[], .pointer (some ⟨q, 0, none⟩)] W fun e W' => (∃ v, e = .returned v) ∧ ((∃ ys, ys = partL k b i ∧ J ys W') ∨ (∃ pre, True ∧ Jx pre W')) := by
  obtain ⟨c0, c1, c2, c3, c4, c5, c6, c7⟩ := hO.c
  have HO := Lib.hid hO
  clear hO c1 c4 c5 c6 c7
  refine callsIn_of_wp Tryd.func73 rfl h73 ?_ hro
  simp only [Tryd.ntmps73, List.size_toArray, List.length_cons, List.length_nil, Nat.reduceAdd, Nat.reduceSub, Array.replicate_succ, Array.replicate_zero, List.push_toArray, List.append_toArray, List.nil_append, List.cons_append]
  by_cases hk : k = 2
  · subst hk
    by_cases hb : 0 ≤ b
    · obtain ⟨fn, tmps, assign, body, hy, hR⟩ := hY [] b W h0 (by simp)
      gi_wp2
      refine hR.mono ?_
      rintro e W3 (⟨rfl, hJ3, hk3⟩ | ⟨rfl, hJx3⟩)
      · have hO3 : O8 W3 q 2 r b i s d p m := hk3.trans HO.out
        obtain ⟨c0, c1, c2, c3, c4, c5, c6, c7⟩ := hO3.c
        by_cases hi : 0 ≤ i
        · obtain ⟨fn2, tmps2, assign2, body2, hy2, hR2⟩ := hY [b] i W3 hJ3 (by simp)
          gi_wp2
          refine hR2.mono ?_
          rintro e W4 (⟨rfl, hJ4, hk4⟩ | ⟨rfl, hJx4⟩)
          · gi_wp2
            go_end0
            exact ⟨⟨_, rfl⟩, .inl ⟨_, by simp [partL, hb, hi], hJ4⟩⟩
          · gi_wp2
            go_end0
            exact ⟨⟨_, rfl⟩, .inr ⟨_, trivial, hJx4⟩⟩
        · have hi2 : i < 0 := by omega
          gi_wp2
          go_end0
          exact ⟨⟨_, rfl⟩, .inl ⟨_, by simp [partL, hb, hi], hJ3⟩⟩
      · gi_wp2
        refine bodyPost_ret (results_none rfl _ _ _) rfl ?_
        exact ⟨⟨_, rfl⟩, .inr ⟨_, trivial, hJx3⟩⟩
    · have hb2 : b < 0 := by omega
      by_cases hi : 0 ≤ i
      · obtain ⟨fn2, tmps2, assign2, body2, hy2, hR2⟩ := hY [] i W h0 (by simp)
        gi_wp2
        refine ⟨(fun f h => nomatch h), ?_⟩
        gi_wp2
        refine hR2.mono ?_
        rintro e W4 (⟨rfl, hJ4, hk4⟩ | ⟨rfl, hJx4⟩)
        · gi_wp2
          go_end0
          exact ⟨⟨_, rfl⟩, .inl ⟨_, by simp [partL, hb, hi], hJ4⟩⟩
        · gi_wp2
          go_end0
          exact ⟨⟨_, rfl⟩, .inr ⟨_, trivial, hJx4⟩⟩
      · have hi2 : i < 0 := by omega
        gi_wp2
        refine ⟨(fun f h => nomatch h), ?_⟩
        gi_wp2
        go_end0
        exact ⟨⟨_, rfl⟩, .inl ⟨_, by simp [partL, hb, hi], h0⟩⟩
  · have hk2 : (k != 2) = true := by simpa using hk
    gi_wp2
    refine bodyPost_ret (results_none rfl _ _ _) rfl ?_
    exact ⟨⟨_, rfl⟩, .inl ⟨_, by simp [partL, hk], h0⟩⟩
theorem parts_in (F : Fence) (n : Nat) (h53 : F.fn 53) (hro : F.round = none) (k r b i s d : Int) (p : Bool) (m : Int) (w : World) :
    CallsIn F n Tryd.prog 53 #[ov k r b i s d p m] w fun e w' => e = .returned (.func (.func 73) #[] #[.pointer (some ⟨w.heap.size, 0, none⟩)]) ∧ w' = w.alloc (ob k r b i s d p m) := by
  refine callsIn_of_wp Tryd.func53 rfl h53 ?_ hro
  simp only [Tryd.ntmps53, List.size_toArray, List.length_cons, List.length_nil, Nat.reduceAdd, Nat.reduceSub, Array.replicate_succ, Array.replicate_zero, List.push_toArray, List.append_toArray, List.nil_append, List.cons_append]
  gi_wp2
  go_ret
  exact ⟨rfl, rfl⟩
theorem parts_stops (F : Fence) (n : Nat) (h73 : F.fn 73) (hro : F.round = none) (hn : 1 ≤ n) (q : Nat) (k r b i s d : Int) (p : Bool) (m : Int) (w : World) (hO : O8 w q k r b i s d p m) :
    SeqStopsK F n Tryd.prog 73 #[.pointer (some ⟨q, 0, none⟩)] (fun x : Int => #[Value.int .i64 x]) (KpB q) (fun ys => ys = partL k b i) (fun _ => True) 2 w := fun l J Jx W hW _ _ hY h0 =>
  parts1_in F n h73 hro hn l q k r b i s d p m J Jx hY W (hO.keep hW) h0
theorem kpB_t {q : Nat} {X Y Z : World} (h : KpB q X Y) (k : KpB q Y Z) : KpB q X Z := k.trans h
theorem kpB_b {q : Nat} {w : World} (hq : q < w.heap.size) (W : World) (l : Nat) (o o' : Obj) (hl : w.heap.size ≤ l) (h : W.heap[l]? = some o) (h1 : o.isCells = false) (h2 : o.isWalk = false) : KpB q W (W.putObj l o') :=
  World.putObj_heap_other (by omega)
/-- Uses' variable: a slice of these numbers. -/
def UI (w : World) (k r b i s d : Int) (p : Bool) (m : Int) (pre : List Int) (W : World) : Prop :=
  ((∃ v, Boxed W (w.heap.size + 1) 34 v ∧ W.ownsRow (w.heap.size + 1) 3 1 v pre.length (pre.map (Value.int .i64)) ∧ True) ∧ O8 W (w.heap.size + 1 + 1) k r b i s d p m) ∧ Below w.heap.size w W
theorem UI.own (w : World) (k r b i s d : Int) (p : Bool) (m : Int) (B : Nat) (hB : w.heap.size ≤ B) : OwnFrom B (UI w k r b i s d p m) :=
  OwnFrom.and (OwnFrom.and (Own.from (holdsRow_own _ _ _ _ _ (fun pre : List Int => pre.length) (fun pre => pre.map (Value.int .i64)) (fun _ _ => True)) _)
    (fun pre X Y row hs hg hr => by
      refine (hg.block _ hs.lt ?_).trans hs
      intro e
      obtain ⟨_, o, ho, hc⟩ := hr _ e.symm
      rw [show X.heap[w.heap.size + 1 + 1]? = _ from hs] at ho; cases ho; cases hc)) (ownFrom_below (Nat.le_refl _) hB)
theorem info3 : (Tryd.prog.info? 3).map (fun i => (i.zero, i.size, i.bytes)) = some (some (.int .i64 0), 1, 8) := by kernel_rfl
theorem info3a : ∃ i, Tryd.prog.info? 3 = some i ∧ i.zero = some (.int .i64 0) ∧ i.size = 1 ∧ i.bytes = 8 := by
  have := info3
  cases h : Tryd.prog.info? 3 with
  | none => rw [h] at this; cases this
  | some i => rw [h] at this; simp at this; exact ⟨i, rfl, this.1, this.2.1, this.2.2⟩
theorem UI.next {w W w1 : World} {k r b i s d : Int} {p : Bool} {m : Int} {pre : List Int} {x : Int} {v v' : Value} (h : UI w k r b i s d p m pre W) (hv : Boxed W (w.heap.size + 1) 34 v) (hr : W.ownsRow (w.heap.size + 1) 3 1 v pre.length (pre.map (Value.int .i64)))
    (hown : w1.ownsRow (w.heap.size + 1) 3 1 v' (pre.length + 1) (pre.map (Value.int .i64) ++ [.int .i64 x])) (hgr : (W.alloc (.cells #[.int .i64 x] 3)).grownBy w1 v.ownBlock) :
    Boxed w1 (w.heap.size + 1) 34 v ∧ KeepsOthers W (w1.setCell ⟨w.heap.size + 1, 0, none⟩ v') ∧ KpB (w.heap.size + 1 + 1) W (w1.setCell ⟨w.heap.size + 1, 0, none⟩ v') ∧ UI w k r b i s d p m (pre ++ [x]) (w1.setCell ⟨w.heap.size + 1, 0, none⟩ v') := by
  obtain ⟨⟨_, hO⟩, hB⟩ := h
  have hz := hv.lt
  obtain ⟨a1, a2, a3, a4, a5⟩ := Boxed.appended hv (by decide) hr (by omega) (Nat.le_refl _) hown hgr
  have hk : KpB (w.heap.size + 1 + 1) W (w1.setCell ⟨w.heap.size + 1, 0, none⟩ v') := by
    unfold KpB
    rw [hset (by omega)]
    refine (hgr.block _ (by have := hO.lt; simp; omega) ?_).trans ?_
    · intro e
      rcases hr.2 with ⟨rfl, _⟩ | ⟨g, cap, cur, rfl, _, hgb, _⟩
      · cases e
      · have e2 : g = w.heap.size + 1 + 1 := by simpa [Value.ownBlock] using e.symm
        subst e2
        rw [show W.heap[w.heap.size + 1 + 1]? = _ from hO] at hgb
        cases hgb
    · exact Below.heap_alloc _ _ _ (by have := hO.lt; omega)
  refine ⟨a1, a4, hk, ⟨⟨v', a2, ?_, trivial⟩, hk.trans hO⟩, hB.trans (a5.mono (by omega))⟩
  simpa using a3
set_option maxRecDepth 100000 in
set_option maxHeartbeats 2000000 in
theorem uses_in (F : Fence) (HF : Hid (F = Fence.wide)) (n : Nat) (hn : 3 ≤ n) (k r b i s d : Int) (p : Bool) (m : Int) (w : World) :
    CallsIn F n Tryd.prog 21 #[ov k r b i s d p m] w fun e W' => (∃ v, e = .returned v ∧ W'.ownsRow (w.heap.size + 1) 3 1 v (partL k b i).length ((partL k b i).map (Value.int .i64))) ∧ Below w.heap.size w W' := by
  have h1 : 1 ≤ n := by omega
  have hro : F.round = none := by rw [HF.out]; rfl
  have h21 : F.fn 21 := by rw [HF.out]; trivial
  have h53 : F.fn 53 := by rw [HF.out]; trivial
  have h73 : F.fn 73 := by rw [HF.out]; trivial
  have hO := O8.new ((w.alloc (ob k r b i s d p m)).alloc (.cells #[.slice none 0 0] 34)) k r b i s d p m
  have hV := (Boxed.new (w.alloc (ob k r b i s d p m)) 34 (.slice none 0 0)).alloc (ob k r b i s d p m)
  have hB := (((Below.refl w.heap.size w).alloc (Nat.le_refl _) (ob k r b i s d p m)).alloc (by simp) (.cells #[.slice none 0 0] 34)).alloc (by simp; omega) (ob k r b i s d p m)
  simp only [World.size_alloc] at hO hV
  have HI : Hid (UI w k r b i s d p m [] (((w.alloc (ob k r b i s d p m)).alloc (.cells #[.slice none 0 0] 34)).alloc (ob k r b i s d p m))) := Lib.hid ⟨⟨⟨_, hV, ⟨rfl, .inl ⟨rfl, rfl⟩⟩, trivial⟩, hO⟩, hB⟩
  have HO := Lib.hid hO
  have HZ : Hid (w.heap.size + 1 + 1 < (((w.alloc (ob k r b i s d p m)).alloc (.cells #[.slice none 0 0] 34)).alloc (ob k r b i s d p m)).heap.size) := Lib.hid (by simp)
  clear hO hV hB
  refine callsIn_of_wp_marks Tryd.func21 rfl h21 ?_ hro
  simp only [Tryd.ntmps21, List.size_toArray, List.length_cons, List.length_nil, Nat.reduceAdd, Nat.reduceSub, Array.replicate_succ, Array.replicate_zero, List.push_toArray, List.append_toArray, List.nil_append, List.cons_append]
  gi_wp2_with (gi_at_call 53; refine (parts_in F _ h53 hro _ _ _ _ _ _ _ _ _).mono ?_; rintro e w' ⟨rfl, rfl⟩)
  generalize World.alloc (World.alloc (World.alloc _ _) _) _ = W0 at *
  refine wpIn_rangeFunc_ownG hro h1 (gf := 73) (lb := #[.pointer (some ⟨w.heap.size + 1 + 1, 0, none⟩)]) rfl h73 (enters_of Tryd.func73 (by kernel_rfl) rfl)
    (parts_stops F (n - 1) h73 hro (by omega) (w.heap.size + 1 + 1) k r b i s d p m W0 HO.out) kpB_t (kpB_b HZ.out) (Below.refl _ _) (fun _ => rfl)
    (UI w k r b i s d p m) (fun _ _ _ => False) (UI.own w k r b i s d p m _ (by have := HZ.out; omega)) (fun _ _ _ _ _ hs _ _ => hs) HI.out
    (fun x => { tmps := #[ov k r b i s d p m, Value.pointer (some { block := w.heap.size, off := 0 }), Value.slice none 0 0,
          Value.pointer (some { block := w.heap.size + 1, off := 0 }), .int .i64 x,
          Value.agg #[Value.int IntKind.u8 k, Value.int IntKind.i64 r, Value.int IntKind.i64 b, Value.int IntKind.i64 i,
              Value.int IntKind.i64 s, Value.int IntKind.i64 d, Value.bool p, Value.int IntKind.i64 m],
          Value.func (Fn.func 73) #[] #[Value.pointer (some { block := w.heap.size + 1 + 1, off := 0 })], .int .i64 x, undef,
          undef, undef, undef, undef], defers := [] }) ?assign ?body ?done ?stop
  case assign =>
    intro l x W K hK
    gi_wp2
    exact hK
  case body =>
    rintro l pre x W hI hlen
    obtain ⟨⟨⟨v, hv, hr, _⟩, hO⟩, hB⟩ := id hI
    obtain ⟨ii, i1, i2, i3, i4⟩ := info3a
    have HU := Lib.hid hI
    have HV := Lib.hid hv
    have HR := Lib.hid hr
    have HZ2 := Lib.hid hv.lt
    have hcv := hv.cell
    clear hI hv hr hO hB
    gi_wp2_with (gi_at_builtin; refine wpListIn_append_own _ rfl _ _ 34 rfl (w.heap.size + 1) 3 ii (.int .i64 0) 1 8 Tryd.underlying34 i1 i2 i3 i4 rfl (by decide) v pre.length _ rfl (HR.out.alloc _) ⟨W.heap.size, 0, none⟩ 1 1 [.int .i64 x] rfl rfl (cell_one_new _ _ _) (fun u hu => by simp at hu; subst hu; rfl) (by unfold maxLen; omega) (by omega) (by have := HZ2.out; simp; omega) ?_; intro v' w1 hown hgr hnil; have HX := Lib.hid (UI.next HU.out HV.out HR.out hown hgr); obtain ⟨g, cap, rfl⟩ := ownsRow_succ hown; clear hown hgr hnil hcv; have hc1 := HX.out.1.cell; have hf1 := HX.out.1.frozen)
    exact ⟨HX.out.2.1.from _, HX.out.2.2.1, HX.out.2.2.2⟩
  case done =>
    rintro D ys W hD rfl hI hK
    obtain ⟨⟨⟨v, hv, hr, _⟩, hO⟩, hB⟩ := hI
    have HR := Lib.hid hr
    have HBB := Lib.hid hB
    have hcv := hv.cell
    clear hr hO hB hv
    gi_wp2
    refine ⟨by simp, .inl ⟨_, _, rfl, run_takeDeferred hK, ?_⟩⟩
    refine ⟨_, results_tmp rfl _ _ _, ⟨_, rfl, ?_⟩, HBB.out.trans (belowK_b (w := w) (Nat.le_refl _) W D _ _ (by have := HZ.out; omega) hK rfl rfl)⟩
    exact ownsRow_putObj HR.out _ hK rfl
  case stop =>
    rintro D c pre W _ _ h _
    exact h.elim
end Go.Proofs.YtkpnafgmjcnniaaDoor
