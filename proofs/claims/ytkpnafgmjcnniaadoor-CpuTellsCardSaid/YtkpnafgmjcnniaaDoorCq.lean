/- Package cpu: flags out of a byte. -/
import Derived.Test.YtkpnafgmjcnniaaDoorCp
namespace Go.Proofs.YtkpnafgmjcnniaaDoor
open Go.RowKit Go.Shelf
set_option linter.unusedVariables false
set_option linter.unusedSimpArgs false
attribute [local go_sem] Oper.semAt_some
def bitB (b k : Int) : Bool := bits .and .u8 b k != 0
/-- The flags so far. -/
def unA (b : Int) (l : List BE) : Array Value := l.foldl (fun a x => a.setIfInBounds x.val.2 (.bool (bitB b x.val.1))) (fla false false false false false)
theorem unA_snoc (b : Int) (l : List BE) (x : BE) : unA b (l ++ [x]) = (unA b l).setIfInBounds x.val.2 (.bool (bitB b x.val.1)) := by simp [unA]
theorem unA_size (b : Int) (l : List BE) : (unA b l).size = 5 := by
  unfold unA
  have : ∀ (l : List BE) (a : Array Value), a.size = 5 → (l.foldl (fun a x => a.setIfInBounds x.val.2 (.bool (bitB b x.val.1))) a).size = 5 := by
    intro l
    induction l with
    | nil => intro a h; exact h
    | cons x l ih => intro a h; exact ih _ (by simpa using h)
  exact this l _ rfl
theorem unA_all (b : Int) : unA b seqE = fla (bitB b 1) (bitB b 64) (bitB b 128) (bitB b 8) (bitB b 4) := rfl
/-- The byte, the result, the flags so far, the pointer. -/
def UK (w : World) (b : Int) (pre : List BE) (W : World) : Prop :=
  (((W.heap[w.heap.size]? = some (.cells #[.int .u8 b] 5 (0, 0)) ∧ W.heap[w.heap.size + 1]? = some (.cells (fla false false false false false) 48 (0, 0))) ∧ W.heap[w.heap.size + 1 + 1]? = some (.cells (unA b pre) 48 (0, 0))) ∧ W.heap[w.heap.size + 1 + 1 + 1]? = some (.cells #[.pointer (some ⟨w.heap.size + 1 + 1, 0, none⟩)] 94 (0, 0))) ∧ Below w.heap.size w W
theorem UK.own (w : World) (b : Int) (B : Nat) (hB : w.heap.size ≤ B) : OwnFrom B (UK w b) :=
  OwnFrom.and (OwnFrom.and (OwnFrom.and (OwnFrom.and (ownFrom_block B _ (fun _ => #[.int .u8 b]) 5) (ownFrom_block B _ (fun _ => fla false false false false false) 48)) (ownFrom_block B _ (fun pre => unA b pre) 48)) (ownFrom_block B _ (fun _ => #[.pointer (some ⟨w.heap.size + 1 + 1, 0, none⟩)]) 94)) (ownFrom_below (Nat.le_refl _) hB)
theorem UK.new (w : World) (b : Int) : UK w b [] ((((w.alloc (.cells #[.int .u8 b] 5)).alloc (.cells #[.bool false, .bool false, .bool false, .bool false, .bool false] 48)).alloc (.cells #[.bool false, .bool false, .bool false, .bool false, .bool false] 48)).alloc (.cells #[.pointer (some ⟨w.heap.size + 1 + 1, 0, none⟩)] 94)) := by
  have h0 : (w.alloc (.cells #[.int .u8 b] 5)).heap[w.heap.size]? = some (.cells #[.int .u8 b] 5 (0, 0)) := heap_alloc_last w _
  have h1 := heap_alloc_last (w.alloc (.cells #[.int .u8 b] 5)) (.cells (fla false false false false false) 48)
  have h2 := heap_alloc_last ((w.alloc (.cells #[.int .u8 b] 5)).alloc (.cells (fla false false false false false) 48)) (.cells (fla false false false false false) 48)
  have h3 := heap_alloc_last (((w.alloc (.cells #[.int .u8 b] 5)).alloc (.cells (fla false false false false false) 48)).alloc (.cells (fla false false false false false) 48)) (.cells #[.pointer (some ⟨w.heap.size + 1 + 1, 0, none⟩)] 94)
  simp only [World.size_alloc] at h1 h2 h3
  refine ⟨⟨⟨⟨?_, ?_⟩, ?_⟩, h3⟩, ((((Below.refl _ _).alloc (Nat.le_refl _) _).alloc (by simp) _).alloc (by simp; omega) _).alloc (by simp; omega) _⟩
  · exact (((((Below.refl (w.heap.size + 1) _).alloc (by simp) _).alloc (by simp) _).alloc (by simp <;> omega) _).block _ (by omega)).trans h0
  · exact ((((Below.refl (w.heap.size + 1 + 1) _).alloc (by simp) _).alloc (by simp) _).block _ (by omega)).trans h1
  · exact (((Below.refl (w.heap.size + 1 + 1 + 1) _).alloc (by simp) _).block _ (by omega)).trans h2
set_option maxRecDepth 100000 in
set_option maxHeartbeats 2000000 in
theorem unpacked_in (F : Fence) (HF : Hid (F = Fence.wide)) (n : Nat) (hn : 3 ≤ n) (b : Int) (w : World) :
    CallsIn F n Tryd.prog 39 #[.int .u8 b] w fun e W' => e = .returned (fl (bitB b 1) (bitB b 64) (bitB b 128) (bitB b 8) (bitB b 4)) ∧ Below w.heap.size w W' := by
  have h1 : 1 ≤ n := by omega
  have hro : F.round = none := by rw [HF.out]; rfl
  have h39 : F.fn 39 := by rw [HF.out]; trivial
  have h66 : F.fn 66 := by rw [HF.out]; trivial
  have h75 : F.fn 75 := by rw [HF.out]; trivial
  have HI := Lib.hid (UK.new w b)
  have HZ : Hid (w.heap.size + 1 + 1 + 1 < ((((w.alloc (.cells #[.int .u8 b] 5)).alloc (.cells #[.bool false, .bool false, .bool false, .bool false, .bool false] 48)).alloc (.cells #[.bool false, .bool false, .bool false, .bool false, .bool false] 48)).alloc (.cells #[.pointer (some ⟨w.heap.size + 1 + 1, 0, none⟩)] 94)).heap.size) := Lib.hid (by simp)
  unfold fl
  refine callsIn_of_wp_marks Tryd.func39 rfl h39 ?_ hro
  simp only [Tryd.ntmps39, List.size_toArray, List.length_cons, List.length_nil, Nat.reduceAdd, Nat.reduceSub, Array.replicate_succ, Array.replicate_zero, List.push_toArray, List.append_toArray, List.nil_append, List.cons_append]
  gi_wp2_with (gi_at_call 66; refine (bits_in F _ h66 hro _ _).mono ?_; rintro e w' ⟨rfl, rfl⟩)
  generalize World.alloc (World.alloc (World.alloc (World.alloc _ _) _) _) _ = W0 at *
  refine wpIn_rangeFunc_ownG hro h1 (gf := 75) (lb := #[.pointer (some ⟨w.heap.size + 1 + 1 + 1, 0, none⟩)]) rfl h75 (enters_of Tryd.func75 (by kernel_rfl) rfl)
    (bits_stops F (n - 1) h75 hro (by omega) (w.heap.size + 1 + 1 + 1) (w.heap.size + 1 + 1) W0 HI.out.1.2) kpB_t (kpB_b HZ.out) (Below.refl _ _) (fun _ => rfl)
    (UK w b) (fun _ _ _ => False) (UK.own w b _ (by have := HZ.out; omega)) (fun _ _ _ _ _ hs _ _ => hs) HI.out
    (fun x => { tmps := #[Value.int .u8 b, Value.pointer (some { block := w.heap.size, off := 0 }), Value.pointer (some { block := w.heap.size + 1, off := 0 }),
          Value.pointer (some { block := w.heap.size + 1 + 1, off := 0 }), .int .u8 x.val.1, .pointer (some ⟨w.heap.size + 1 + 1, x.val.2, none⟩),
          Value.func (Fn.func 75) #[] #[Value.pointer (some { block := w.heap.size + 1 + 1 + 1, off := 0 })], .int .u8 x.val.1, .pointer (some ⟨w.heap.size + 1 + 1, x.val.2, none⟩),
          undef, undef, undef, undef, undef, undef, undef], defers := [] }) ?assign ?body ?done ?stop
  case assign =>
    intro l x W K hK
    unfold bitV
    gi_wp2
    exact hK
  case body =>
    rintro l pre x W hI hlen
    have hx := x.lt
    obtain ⟨⟨⟨⟨hf, hz⟩, hu⟩, hp⟩, hB⟩ := id hI
    have hsz := unA_size b pre
    have cb : W.cell? ⟨w.heap.size, 0, none⟩ = some (.int .u8 b) := by simp [World.cell?, hf]
    obtain ⟨v, hv⟩ : ∃ v, (unA b pre)[x.val.2]? = some v := ⟨_, Array.getElem?_eq_getElem (by omega)⟩
    have cu : W.cell? ⟨w.heap.size + 1 + 1, x.val.2, none⟩ = some v := by simp [World.cell?, hu, hv]
    have fu : W.frozen? ⟨w.heap.size + 1 + 1, x.val.2, none⟩ = false := by simp [World.frozen?, hu]
    have HN : Hid (UK w b (pre ++ [x]) (W.setCell ⟨w.heap.size + 1 + 1, x.val.2, none⟩ (.bool (bitB b x.val.1)))) := Lib.hid (by
      unfold UK
      rw [unA_snoc]
      exact ⟨⟨⟨⟨(hset (by omega)).trans hf, (hset (by omega)).trans hz⟩, cset hu⟩, (hset (by omega)).trans hp⟩, hB.setCell (p := ⟨w.heap.size + 1 + 1, x.val.2, none⟩) (by dsimp only; omega) _⟩)
    have HK : Hid (KpB (w.heap.size + 1 + 1 + 1) W (W.setCell ⟨w.heap.size + 1 + 1, x.val.2, none⟩ (.bool (bitB b x.val.1)))) := Lib.hid (hset (by omega))
    clear hI hf hz hu hp hB hsz hv
    unfold bitB at HN HK
    gi_wp2
    exact ⟨(KeepsOthers.setCell _ _ _).from _, HK.out, HN.out⟩
  case done =>
    rintro D ys W hD rfl hI hK
    obtain ⟨⟨⟨⟨hf, hz⟩, hu⟩, hp⟩, hB⟩ := hI
    rw [unA_all] at hu
    generalize hq0 : bitB b 1 = q0 at *
    generalize hq1 : bitB b 64 = q1 at *
    generalize hq2 : bitB b 128 = q2 at *
    generalize hq3 : bitB b 8 = q3 at *
    generalize hq4 : bitB b 4 = q4 at *
    have HQ := Lib.hid (And.intro hq0 (And.intro hq1 (And.intro hq2 (And.intro hq3 hq4))))
    clear hq0 hq1 hq2 hq3 hq4
    have HBB := Lib.hid hB
    have HZZ := Lib.hid hz
    have c0 : W.cell? ⟨w.heap.size + 1 + 1, 0, none⟩ = some (.bool q0) := by simp [World.cell?, hu, fla]
    have c1 : W.cell? ⟨w.heap.size + 1 + 1, 1, none⟩ = some (.bool q1) := by simp [World.cell?, hu, fla]
    have c2 : W.cell? ⟨w.heap.size + 1 + 1, 2, none⟩ = some (.bool q2) := by simp [World.cell?, hu, fla]
    have c3 : W.cell? ⟨w.heap.size + 1 + 1, 3, none⟩ = some (.bool q3) := by simp [World.cell?, hu, fla]
    have c4 : W.cell? ⟨w.heap.size + 1 + 1, 4, none⟩ = some (.bool q4) := by simp [World.cell?, hu, fla]
    have d0 : W.cell? ⟨w.heap.size + 1, 0, none⟩ = some (.bool false) := by simp [World.cell?, hz, fla]
    have d1 : W.cell? ⟨w.heap.size + 1, 1, none⟩ = some (.bool false) := by simp [World.cell?, hz, fla]
    have d2 : W.cell? ⟨w.heap.size + 1, 2, none⟩ = some (.bool false) := by simp [World.cell?, hz, fla]
    have d3 : W.cell? ⟨w.heap.size + 1, 3, none⟩ = some (.bool false) := by simp [World.cell?, hz, fla]
    have d4 : W.cell? ⟨w.heap.size + 1, 4, none⟩ = some (.bool false) := by simp [World.cell?, hz, fla]
    have f0 : W.frozen? ⟨w.heap.size + 1, 0, none⟩ = false := by simp [World.frozen?, hz]
    have f1 : W.frozen? ⟨w.heap.size + 1, 1, none⟩ = false := by simp [World.frozen?, hz]
    have f2 : W.frozen? ⟨w.heap.size + 1, 2, none⟩ = false := by simp [World.frozen?, hz]
    have f3 : W.frozen? ⟨w.heap.size + 1, 3, none⟩ = false := by simp [World.frozen?, hz]
    have f4 : W.frozen? ⟨w.heap.size + 1, 4, none⟩ = false := by simp [World.frozen?, hz]
    clear hf hz hu hp hB
    gi_wp2
    have HT : Hid ((((((W.setCell ⟨w.heap.size + 1, 0, none⟩ (.bool q0)).setCell ⟨w.heap.size + 1, 1, none⟩ (.bool q1)).setCell ⟨w.heap.size + 1, 2, none⟩ (.bool q2)).setCell ⟨w.heap.size + 1, 3, none⟩ (.bool q3)).setCell ⟨w.heap.size + 1, 4, none⟩ (.bool q4)).heap[w.heap.size + 1]? = some (.cells (fla q0 q1 q2 q3 q4) 48 (0, 0))) :=
      Lib.hid ((cset (i := 4) (cset (i := 3) (cset (i := 2) (cset (i := 1) (cset (i := 0) HZZ.out))))).trans rfl)
    have hne : D ≠ w.heap.size + 1 := by have := HZ.out; omega
    have HK5 : Hid ((((((W.setCell ⟨w.heap.size + 1, 0, none⟩ (.bool q0)).setCell ⟨w.heap.size + 1, 1, none⟩ (.bool q1)).setCell ⟨w.heap.size + 1, 2, none⟩ (.bool q2)).setCell ⟨w.heap.size + 1, 3, none⟩ (.bool q3)).setCell ⟨w.heap.size + 1, 4, none⟩ (.bool q4)).heap[D]? = some (.deferred (some []))) :=
      Lib.hid (((((((hset hne).trans (hset hne)).trans (hset hne)).trans (hset hne)).trans (hset hne))).trans hK)
    have hq : w.heap.size ≤ w.heap.size + 1 := by omega
    have HB5 := Lib.hid (((((HBB.out.setCell (p := ⟨w.heap.size + 1, 0, none⟩) hq (.bool q0)).setCell (p := ⟨w.heap.size + 1, 1, none⟩) hq (.bool q1)).setCell (p := ⟨w.heap.size + 1, 2, none⟩) hq (.bool q2)).setCell (p := ⟨w.heap.size + 1, 3, none⟩) hq (.bool q3)).setCell (p := ⟨w.heap.size + 1, 4, none⟩) hq (.bool q4))
    clear c0 c1 c2 c3 c4 d0 d1 d2 d3 d4 f0 f1 f2 f3 f4 HZZ HBB hK
    generalize World.setCell (World.setCell (World.setCell (World.setCell (World.setCell _ _ _) _ _) _ _) _ _) _ _ = W5 at *
    have hK5 := HK5.out
    refine ⟨by simp, .inl ⟨_, _, rfl, run_takeDeferred hK5, ?_⟩⟩
    refine ⟨.agg (fla q0 q1 q2 q3 q4), results_cell_row rfl _ _ _ 48 _ (0, 0) _ rfl ((World.putObj_heap_other (by omega)).trans HT.out) Tryd.underlying48 rfl (by kernel_rfl), ?_, HB5.out.trans (belowK_b (w := w) (Nat.le_refl _) W5 D _ _ (by have := HZ.out; omega) hK5 rfl rfl)⟩
    rw [HQ.out.1, HQ.out.2.1, HQ.out.2.2.1, HQ.out.2.2.2.1, HQ.out.2.2.2.2]
    rfl
  case stop =>
    rintro D c pre W _ _ h _
    exact h.elim
end Go.Proofs.YtkpnafgmjcnniaaDoor
