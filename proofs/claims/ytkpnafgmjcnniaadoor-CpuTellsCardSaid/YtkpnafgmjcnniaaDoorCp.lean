/- Package cpu: flags as a byte. -/
import Derived.Test.YtkpnafgmjcnniaaDoorUs
import Derived.Test.YtkpnafgmjcnniaaDoorCc
namespace Go.Proofs.YtkpnafgmjcnniaaDoor
open Go.RowKit Go.Shelf
set_option linter.unusedVariables false
set_option linter.unusedSimpArgs false
attribute [local go_sem] Oper.semAt_some
def bitL : List (Int × Nat) := [(1, 0), (4, 4), (64, 1), (128, 2), (8, 3)]
/-- A bit, and where its flag stands. -/
abbrev BE : Type := { x : Int × Nat // x ∈ bitL }
def e0 : BE := ⟨(1, 0), by decide⟩
def e1 : BE := ⟨(4, 4), by decide⟩
def e2 : BE := ⟨(64, 1), by decide⟩
def e3 : BE := ⟨(128, 2), by decide⟩
def e4 : BE := ⟨(8, 3), by decide⟩
def seqE : List BE := [e0, e1, e2, e3, e4]
theorem BE.lt (x : BE) : x.val.2 < 5 := by
  have h : ∀ y ∈ bitL, y.2 < 5 := by decide
  exact h x.val x.property
theorem BE.byte (x : BE) : 0 ≤ x.val.1 ∧ x.val.1 < 256 := by
  have h : ∀ y ∈ bitL, 0 ≤ y.1 ∧ y.1 < 256 := by decide
  exact h x.val x.property
def bitV (g : Nat) (x : BE) : Array Value := #[.int .u8 x.val.1, .pointer (some ⟨g, x.val.2, none⟩)]
/-- A pointer to the flags, in a block of its own. -/
def PB (W : World) (q g : Nat) : Prop := W.heap[q]? = some (.cells #[.pointer (some ⟨g, 0, none⟩)] 94 (0, 0))
theorem PB.cell {W : World} {q g : Nat} (h : PB W q g) : W.cell? ⟨q, 0, none⟩ = some (.pointer (some ⟨g, 0, none⟩)) := by unfold PB at h; simp [World.cell?, h]
theorem PB.lt {W : World} {q g : Nat} (h : PB W q g) : q < W.heap.size := (Array.getElem?_eq_some_iff.1 h).1
set_option maxRecDepth 100000 in
set_option maxHeartbeats 4000000 in
theorem bits1_in (F : Fence) (n : Nat) (h75 : F.fn 75) (hro : F.round = none) (hn : 1 ≤ n) (l q g : Nat) (J Jx : List BE → World → Prop)
    (hY : ∀ pre x W, J pre W → pre.length < 5 → YieldAt F (n - 1) Tryd.prog l (bitV g x) W fun e W' => (e = .returned (.bool true) ∧ J (pre ++ [x]) W' ∧ KpB q W W') ∨ (e = .returned (.bool false) ∧ Jx (pre ++ [x]) W'))
    (W : World) (hP : PB W q g) (h0 : J [] W) :
    CallsIn F n Tryd.prog 75 #[.func (.yield l) #[] #[], .pointer (some ⟨q, 0, none⟩)] W fun e W' => (∃ v, e = .returned v) ∧ ((∃ ys, ys = seqE ∧ J ys W') ∨ (∃ pre, True ∧ Jx pre W')) := by
  have cp := hP.cell
  have HP0 := Lib.hid hP
  have HY := Lib.hid hY
  clear hY hP
  unfold bitV at HY
  refine callsIn_of_wp Tryd.func75 rfl h75 ?_ hro
  simp only [Tryd.ntmps75, List.size_toArray, List.length_cons, List.length_nil, Nat.reduceAdd, Nat.reduceSub, Array.replicate_succ, Array.replicate_zero, List.push_toArray, List.append_toArray, List.nil_append, List.cons_append]
  obtain ⟨fn0, tmps0, assign0, body0, hy0, hR0⟩ := HY.out [] e0 W h0 (by simp)
  dsimp only [e0] at hy0
  have HR0 := Lib.hid hR0
  clear hR0
  gi_wp2
  refine HR0.out.mono ?_
  rintro e W1 (⟨rfl, hJ1, hk1⟩ | ⟨rfl, hJx1⟩)
  rotate_left
  · gi_wp2
    repeat (refine ⟨(fun f h => nomatch h), ?_⟩; gi_wp2)
    go_end0
    exact ⟨⟨_, rfl⟩, .inr ⟨_, trivial, hJx1⟩⟩
  have HP1 : Hid (PB W1 q g) := Lib.hid (hk1.trans HP0.out)
  have cp1 := HP1.out.cell
  clear hk1
  obtain ⟨fn1, tmps1, assign1, body1, hy1, hR1⟩ := HY.out [e0] e1 W1 hJ1 (by simp)
  dsimp only [e1] at hy1
  have HR1 := Lib.hid hR1
  clear hR1
  gi_wp2
  refine HR1.out.mono ?_
  rintro e W2 (⟨rfl, hJ2, hk2⟩ | ⟨rfl, hJx2⟩)
  rotate_left
  · gi_wp2
    repeat (refine ⟨(fun f h => nomatch h), ?_⟩; gi_wp2)
    go_end0
    exact ⟨⟨_, rfl⟩, .inr ⟨_, trivial, hJx2⟩⟩
  have HP2 : Hid (PB W2 q g) := Lib.hid (hk2.trans HP1.out)
  have cp2 := HP2.out.cell
  clear hk2
  obtain ⟨fn2, tmps2, assign2, body2, hy2, hR2⟩ := HY.out [e0, e1] e2 W2 hJ2 (by simp)
  dsimp only [e2] at hy2
  have HR2 := Lib.hid hR2
  clear hR2
  gi_wp2
  refine HR2.out.mono ?_
  rintro e W3 (⟨rfl, hJ3, hk3⟩ | ⟨rfl, hJx3⟩)
  rotate_left
  · gi_wp2
    repeat (refine ⟨(fun f h => nomatch h), ?_⟩; gi_wp2)
    go_end0
    exact ⟨⟨_, rfl⟩, .inr ⟨_, trivial, hJx3⟩⟩
  have HP3 : Hid (PB W3 q g) := Lib.hid (hk3.trans HP2.out)
  have cp3 := HP3.out.cell
  clear hk3
  obtain ⟨fn3, tmps3, assign3, body3, hy3, hR3⟩ := HY.out [e0, e1, e2] e3 W3 hJ3 (by simp)
  dsimp only [e3] at hy3
  have HR3 := Lib.hid hR3
  clear hR3
  gi_wp2
  refine HR3.out.mono ?_
  rintro e W4 (⟨rfl, hJ4, hk4⟩ | ⟨rfl, hJx4⟩)
  rotate_left
  · gi_wp2
    repeat (refine ⟨(fun f h => nomatch h), ?_⟩; gi_wp2)
    go_end0
    exact ⟨⟨_, rfl⟩, .inr ⟨_, trivial, hJx4⟩⟩
  have HP4 : Hid (PB W4 q g) := Lib.hid (hk4.trans HP3.out)
  have cp4 := HP4.out.cell
  clear hk4
  obtain ⟨fn4, tmps4, assign4, body4, hy4, hR4⟩ := HY.out [e0, e1, e2, e3] e4 W4 hJ4 (by simp)
  dsimp only [e4] at hy4
  have HR4 := Lib.hid hR4
  clear hR4
  gi_wp2
  refine HR4.out.mono ?_
  rintro e W5 (⟨rfl, hJ5, hk5⟩ | ⟨rfl, hJx5⟩)
  rotate_left
  · gi_wp2
    repeat (refine ⟨(fun f h => nomatch h), ?_⟩; gi_wp2)
    go_end0
    exact ⟨⟨_, rfl⟩, .inr ⟨_, trivial, hJx5⟩⟩
  have HP5 : Hid (PB W5 q g) := Lib.hid (hk5.trans HP4.out)
  have cp5 := HP5.out.cell
  clear hk5
  gi_wp2
  go_end0
  exact ⟨⟨_, rfl⟩, .inl ⟨_, rfl, hJ5⟩⟩
theorem bits_in (F : Fence) (n : Nat) (h66 : F.fn 66) (hro : F.round = none) (g : Nat) (w : World) :
    CallsIn F n Tryd.prog 66 #[.pointer (some ⟨g, 0, none⟩)] w fun e w' => e = .returned (.func (.func 75) #[] #[.pointer (some ⟨w.heap.size, 0, none⟩)]) ∧ w' = w.alloc (.cells #[.pointer (some ⟨g, 0, none⟩)] 94) := by
  refine callsIn_of_wp Tryd.func66 rfl h66 ?_ hro
  simp only [Tryd.ntmps66, List.size_toArray, List.length_cons, List.length_nil, Nat.reduceAdd, Nat.reduceSub, Array.replicate_succ, Array.replicate_zero, List.push_toArray, List.append_toArray, List.nil_append, List.cons_append]
  gi_wp2
  go_ret
  exact ⟨rfl, rfl⟩
theorem PB.keep {W W' : World} {q g : Nat} (h : PB W q g) (hb : Below W.heap.size W W') : PB W' q g := (hb.block _ h.lt).trans h
theorem bits_stops (F : Fence) (n : Nat) (h75 : F.fn 75) (hro : F.round = none) (hn : 1 ≤ n) (q g : Nat) (w : World) (hP : PB w q g) :
    SeqStopsK F n Tryd.prog 75 #[.pointer (some ⟨q, 0, none⟩)] (bitV g) (KpB q) (fun ys => ys = seqE) (fun _ => True) 5 w := fun l J Jx W hW _ _ hY h0 =>
  bits1_in F n h75 hro hn l q g J Jx hY W (hP.keep hW) h0
theorem ownFrom_block {β : Type} (B q : Nat) (c : β → Array Value) (t : TypeId) : OwnFrom B (fun (s : β) W => W.heap[q]? = some (.cells (c s) t (0, 0))) := fun s X Y row hs hg hr => by
  refine (hg.block _ (Array.getElem?_eq_some_iff.1 hs).1 ?_).trans hs
  intro e
  obtain ⟨_, o, ho, hc⟩ := hr _ e.symm
  rw [hs] at ho; cases ho; cases hc
def fla (C Z S O P : Bool) : Array Value := #[.bool C, .bool Z, .bool S, .bool O, .bool P]
def flag (C Z S O P : Bool) (j : Nat) : Bool := if j = 0 then C else if j = 1 then Z else if j = 2 then S else if j = 3 then O else P
theorem fla_at (C Z S O P : Bool) (j : Nat) (h : j < 5) : (fla C Z S O P)[j]? = some (.bool (flag C Z S O P j)) := by
  match j, h with
  | 0, _ => rfl
  | 1, _ => rfl
  | 2, _ => rfl
  | 3, _ => rfl
  | 4, _ => rfl
/-- The sum so far. -/
def sumI (C Z S O P : Bool) (l : List BE) : Int := l.foldl (fun a x => if flag C Z S O P x.val.2 then (a + x.val.1) % 256 else a) 0
theorem sumI_snoc (C Z S O P : Bool) (l : List BE) (x : BE) : sumI C Z S O P (l ++ [x]) = if flag C Z S O P x.val.2 then (sumI C Z S O P l + x.val.1) % 256 else sumI C Z S O P l := by simp [sumI]
/-- The flags, the byte so far, the pointer. -/
def PK (w : World) (C Z S O P : Bool) (pre : List BE) (W : World) : Prop :=
  ((W.heap[w.heap.size]? = some (.cells (fla C Z S O P) 48 (0, 0)) ∧ W.heap[w.heap.size + 1]? = some (.cells #[.int .u8 (sumI C Z S O P pre)] 5 (0, 0))) ∧ W.heap[w.heap.size + 1 + 1]? = some (.cells #[.pointer (some ⟨w.heap.size, 0, none⟩)] 94 (0, 0))) ∧ Below w.heap.size w W
theorem PK.own (w : World) (C Z S O P : Bool) (B : Nat) (hB : w.heap.size ≤ B) : OwnFrom B (PK w C Z S O P) :=
  OwnFrom.and (OwnFrom.and (OwnFrom.and (ownFrom_block B _ (fun _ => fla C Z S O P) 48) (ownFrom_block B _ (fun pre => #[.int .u8 (sumI C Z S O P pre)]) 5)) (ownFrom_block B _ (fun _ => #[.pointer (some ⟨w.heap.size, 0, none⟩)]) 94)) (ownFrom_below (Nat.le_refl _) hB)
theorem PK.new (w : World) (C Z S O P : Bool) : PK w C Z S O P [] (((w.alloc (.cells #[.bool C, .bool Z, .bool S, .bool O, .bool P] 48)).alloc (.cells #[.int .u8 0] 5)).alloc (.cells #[.pointer (some ⟨w.heap.size, 0, none⟩)] 94)) := by
  have h0 : (w.alloc (.cells #[.bool C, .bool Z, .bool S, .bool O, .bool P] 48)).heap[w.heap.size]? = some (.cells (fla C Z S O P) 48 (0, 0)) := heap_alloc_last w _
  have h1 := heap_alloc_last (w.alloc (.cells #[.bool C, .bool Z, .bool S, .bool O, .bool P] 48)) (.cells #[.int .u8 0] 5)
  have h2 := heap_alloc_last ((w.alloc (.cells #[.bool C, .bool Z, .bool S, .bool O, .bool P] 48)).alloc (.cells #[.int .u8 0] 5)) (.cells #[.pointer (some ⟨w.heap.size, 0, none⟩)] 94)
  simp only [World.size_alloc] at h1 h2
  refine ⟨⟨⟨?_, ?_⟩, h2⟩, (((Below.refl _ _).alloc (Nat.le_refl _) _).alloc (by simp) _).alloc (by simp; omega) _⟩
  · exact ((((Below.refl (w.heap.size + 1) _).alloc (by simp) _).alloc (by simp) _).block _ (by omega)).trans h0
  · exact (((Below.refl (w.heap.size + 1 + 1) _).alloc (by simp) _).block _ (by omega)).trans h1
set_option maxRecDepth 100000 in
set_option maxHeartbeats 2000000 in
theorem packed_in (F : Fence) (HF : Hid (F = Fence.wide)) (n : Nat) (hn : 3 ≤ n) (C Z S O P : Bool) (w : World) :
    CallsIn F n Tryd.prog 37 #[fl C Z S O P] w fun e W' => e = .returned (.int .u8 (sumI C Z S O P seqE)) ∧ Below w.heap.size w W' := by
  have h1 : 1 ≤ n := by omega
  have hro : F.round = none := by rw [HF.out]; rfl
  have h37 : F.fn 37 := by rw [HF.out]; trivial
  have h66 : F.fn 66 := by rw [HF.out]; trivial
  have h75 : F.fn 75 := by rw [HF.out]; trivial
  have HI := Lib.hid (PK.new w C Z S O P)
  have HZ : Hid (w.heap.size + 1 + 1 < (((w.alloc (.cells #[.bool C, .bool Z, .bool S, .bool O, .bool P] 48)).alloc (.cells #[.int .u8 0] 5)).alloc (.cells #[.pointer (some ⟨w.heap.size, 0, none⟩)] 94)).heap.size) := Lib.hid (by simp)
  unfold fl
  refine callsIn_of_wp_marks Tryd.func37 rfl h37 ?_ hro
  simp only [Tryd.ntmps37, List.size_toArray, List.length_cons, List.length_nil, Nat.reduceAdd, Nat.reduceSub, Array.replicate_succ, Array.replicate_zero, List.push_toArray, List.append_toArray, List.nil_append, List.cons_append]
  gi_wp2_with (gi_at_call 66; refine (bits_in F _ h66 hro _ _).mono ?_; rintro e w' ⟨rfl, rfl⟩)
  generalize World.alloc (World.alloc (World.alloc _ _) _) _ = W0 at *
  refine wpIn_rangeFunc_ownG hro h1 (gf := 75) (lb := #[.pointer (some ⟨w.heap.size + 1 + 1, 0, none⟩)]) rfl h75 (enters_of Tryd.func75 (by kernel_rfl) rfl)
    (bits_stops F (n - 1) h75 hro (by omega) (w.heap.size + 1 + 1) w.heap.size W0 HI.out.1.2) kpB_t (kpB_b HZ.out) (Below.refl _ _) (fun _ => rfl)
    (PK w C Z S O P) (fun _ _ _ => False) (PK.own w C Z S O P _ (by have := HZ.out; omega)) (fun _ _ _ _ _ hs _ _ => hs) HI.out
    (fun x => { tmps := #[Value.agg #[.bool C, .bool Z, .bool S, .bool O, .bool P], Value.pointer (some { block := w.heap.size, off := 0 }), Value.int .u8 0,
          Value.pointer (some { block := w.heap.size + 1, off := 0 }), .int .u8 x.val.1, .pointer (some ⟨w.heap.size, x.val.2, none⟩),
          Value.func (Fn.func 75) #[] #[Value.pointer (some { block := w.heap.size + 1 + 1, off := 0 })], .int .u8 x.val.1, .pointer (some ⟨w.heap.size, x.val.2, none⟩),
          undef, undef, undef, undef, undef, undef, undef], defers := [] }) ?assign ?body ?done ?stop
  case assign =>
    intro l x W K hK
    unfold bitV
    gi_wp2
    exact hK
  case body =>
    rintro l pre x W hI hlen
    have hx := x.lt
    obtain ⟨⟨⟨hf, hb⟩, hp⟩, hB⟩ := id hI
    have cf := (show W.cell? ⟨w.heap.size, x.val.2, none⟩ = _ by simp [World.cell?, hf]).trans (fla_at C Z S O P x.val.2 hx)
    have cb : W.cell? ⟨w.heap.size + 1, 0, none⟩ = some (.int .u8 (sumI C Z S O P pre)) := by simp [World.cell?, hb]
    have ff : W.frozen? ⟨w.heap.size + 1, 0, none⟩ = false := by simp [World.frozen?, hb]
    have HN : Hid (PK w C Z S O P (pre ++ [x]) (if flag C Z S O P x.val.2 then W.setCell ⟨w.heap.size + 1, 0, none⟩ (.int .u8 ((sumI C Z S O P pre + x.val.1) % 256)) else W)) := Lib.hid (by
      unfold PK
      rw [sumI_snoc]
      split
      · exact ⟨⟨⟨(hset (by omega)).trans hf, cset hb⟩, (hset (by omega)).trans hp⟩, hB.setCell (p := ⟨w.heap.size + 1, 0, none⟩) (by dsimp only; omega) _⟩
      · exact hI)
    have HK : Hid (KpB (w.heap.size + 1 + 1) W (W.setCell ⟨w.heap.size + 1, 0, none⟩ (.int .u8 ((sumI C Z S O P pre + x.val.1) % 256)))) := Lib.hid (hset (by omega))
    clear hI hf hb hp hB
    generalize sumI C Z S O P pre = s at *
    by_cases hq : flag C Z S O P x.val.2 = true
    · rw [hq] at cf HN
      clear hq
      gi_wp2
      exact ⟨(KeepsOthers.setCell _ _ _).from _, HK.out, HN.out⟩
    · have hq2 : flag C Z S O P x.val.2 = false := by simpa using hq
      clear hq
      rw [hq2] at cf HN
      clear hq2
      gi_wp2
      exact ⟨KeepsFrom.refl _ _, rfl, HN.out⟩
  case done =>
    rintro D ys W hD rfl hI hK
    obtain ⟨⟨⟨hf, hb⟩, hp⟩, hB⟩ := hI
    have cb : W.cell? ⟨w.heap.size + 1, 0, none⟩ = some (.int .u8 (sumI C Z S O P seqE)) := by simp [World.cell?, hb]
    have HBB := Lib.hid hB
    clear hf hb hp hB
    generalize hs : sumI C Z S O P seqE = s at *
    have Hs := Lib.hid hs
    clear hs
    gi_wp2
    refine ⟨by simp, .inl ⟨_, _, rfl, run_takeDeferred hK, ?_⟩⟩
    exact ⟨_, results_tmp rfl _ _ _, (by rw [Hs.out]; rfl), HBB.out.trans (belowK_b (w := w) (Nat.le_refl _) W D _ _ (by have := HZ.out; omega) hK rfl rfl)⟩
  case stop =>
    rintro D c pre W _ _ h _
    exact h.elim
end Go.Proofs.YtkpnafgmjcnniaaDoor
