/- Package cpu: Address, all operands. -/
import Derived.Test.YtkpnafgmjcnniaaDoorAe
import Derived.Test.YtkpnafgmjcnniaaDoorAi
import Derived.Test.YtkpnafgmjcnniaaDoorAj
namespace Go.Proofs.YtkpnafgmjcnniaaDoor
open Go.RowKit Go.Shelf
set_option linter.unusedVariables false
set_option linter.unusedSimpArgs false
attribute [local go_sem] Oper.semAt_some
set_option maxRecDepth 100000 in
set_option maxHeartbeats 2000000 in
theorem addr_gen (n : Nat) (hn : 3 ≤ n) (r b i s d : Int) (p : Bool) (m x : Int) (c : Array Value) (R : Nat → Nat) (hc : CPU c R) (ys : List Nat)
    (hst : ∀ (W : World) (qo qn qc : Nat), AB W qo qn qc 2 r b i s d p m x c → SeqStopsK Fence.wide (n - 1) Tryd.prog 74 #[.pointer (some ⟨qo, 0, none⟩), .pointer (some ⟨qn, 0, none⟩), .pointer (some ⟨qc, 0, none⟩)] (fun y : Nat => #[Value.int .u64 y]) (KpA qo qn qc) (fun l => l = ys) (fun _ => True) 4 W)
    (w : World) (hm : Mk w) (hr : rB 2 r b i s d p m = true) :
    CallsIn Fence.wide n Tryd.prog 27 #[.agg c, ov 2 r b i s d p m, .int .u64 x] w fun e W' => e = .returned (.tuple #[.int .u64 (sumA ys), .int .i64 0]) ∧ Below w.heap.size w W' := by
  have h1 : 1 ≤ n := by omega
  have hro : Fence.wide.round = none := rfl
  have hf54 : Fence.wide.fn 54 := trivial
  have hf74 : Fence.wide.fn 74 := trivial
  have HC := Lib.hid hc
  have HS := Lib.hid (AS.new w c 2 r b i s d p m)
  have HR : Hid (∀ W, Mk W → Calls Tryd.prog 18 #[ov 2 r b i s d p m] W fun e w' => e = .returned (.bool true) ∧ Below W.heap.size W w') := Lib.hid (fun W hW => by rw [← hr]; exact right_any 2 r b i s d p m W hW)
  have HM := Lib.hid hm
  have HSt := Lib.hid hst
  clear hr hm hc hst
  refine callsIn_of_wp_marks Tryd.func27 rfl trivial ?_ hro
  simp only [Tryd.ntmps27, List.size_toArray, List.length_cons, List.length_nil, Nat.reduceAdd, Nat.reduceSub, Array.replicate_succ, Array.replicate_zero, List.push_toArray, List.append_toArray, List.nil_append, List.cons_append]
  gi_wp2_with fail
  have hz := HM.out.below HS.out.2.2.2
  refine ⟨trivial, (callsIn_wide.2 (HR.out _ hz)).mono ?_⟩
  clear hz
  rintro e w1 ⟨rfl, hb1⟩
  have HK := Lib.hid (HS.out.keep hb1)
  clear hb1 HS HR
  obtain ⟨c0, c1, c2, c3, c4, c5, c6, c7⟩ := HK.out.2.1.c
  gi_wp2_with (first | (refine wpListIn_load50 hro rfl ?_ rfl HK.out.1 HC.out.size ?_) | (gi_at_call 54; refine (cparts_in _ _ _ _ _ _ _ _ _ _ _ _).mono ?_; rintro e w' ⟨rfl, rfl⟩) | fail)
  have HB0 := Lib.hid ((((HK.out.2.2.2.alloc HK.out.2.2.2.size (.cells c 50)).alloc (by have := HK.out.2.2.2.size; simp; omega) (ob 2 r b i s d p m)).alloc (by have := HK.out.2.2.2.size; simp; omega) (.cells #[.int .u64 x] 43)))
  have HA := Lib.hid (AB.new w1 c 2 r b i s d p m x)
  have HZ : Hid (w1.heap.size + 1 + 1 < (((w1.alloc (.cells c 50)).alloc (ob 2 r b i s d p m)).alloc (.cells #[.int .u64 x] 43)).heap.size) := Lib.hid (by simp)
  have hl1 : w.heap.size + 1 + 1 < w1.heap.size := (Array.getElem?_eq_some_iff.1 HK.out.2.2.1).1
  have HI : Hid (AK w [] (((w1.alloc (.cells c 50)).alloc (ob 2 r b i s d p m)).alloc (.cells #[.int .u64 x] 43))) := Lib.hid ⟨(((((Below.refl w1.heap.size w1).alloc (Nat.le_refl _) _).alloc (by simp) _).alloc (by simp; omega) _).block _ hl1).trans HK.out.2.2.1, HB0.out⟩
  clear HB0 HK c0 c1 c2 c3 c4 c5 c6 c7
  generalize World.alloc (World.alloc (World.alloc w1 _) _) _ = W0 at *
  generalize w1.heap.size = q at *
  refine wpIn_rangeFunc_ownG hro h1 (gf := 74) (lb := #[.pointer (some ⟨q + 1, 0, none⟩), .pointer (some ⟨q + 1 + 1, 0, none⟩), .pointer (some ⟨q, 0, none⟩)]) rfl hf74 (enters_of Tryd.func74 (by kernel_rfl) rfl)
    (HSt.out W0 (q + 1) (q + 1 + 1) q HA.out) kpA_t (kpA_b (by have := HZ.out; omega) HZ.out (by have := HZ.out; omega)) (Below.refl _ _) (fun _ => rfl)
    (AK w) (fun _ _ _ => False) (AK.own w _ (by have := HZ.out; omega)) (fun _ _ _ _ _ hs _ _ => hs) HI.out
    (fun y => { tmps := #[Value.agg c, ov 2 r b i s d p m, Value.int .u64 x, Value.pointer (some { block := w.heap.size, off := 0 }),
          Value.pointer (some { block := w.heap.size + 1, off := 0 }), undef, Value.pointer (some { block := w.heap.size + 1 + 1, off := 0 }), Value.int .i64 0, .int .u64 (y : Nat),
          Value.pointer (some { block := w.heap.size + 1, off := 0 }), Value.int .u8 2, Value.bool false, Value.bool false,
          Value.agg #[Value.int .u8 2, Value.int .i64 r, Value.int .i64 b, Value.int .i64 i, Value.int .i64 s, Value.int .i64 d, Value.bool p, Value.int .i64 m],
          Value.bool true, Value.bool false, Value.bool false, Value.agg c,
          Value.agg #[Value.int .u8 2, Value.int .i64 r, Value.int .i64 b, Value.int .i64 i, Value.int .i64 s, Value.int .i64 d, Value.bool p, Value.int .i64 m],
          Value.int .u64 x, Value.func (Fn.func 74) #[] #[.pointer (some ⟨q + 1, 0, none⟩), .pointer (some ⟨q + 1 + 1, 0, none⟩), .pointer (some ⟨q, 0, none⟩)], .int .u64 (y : Nat), undef, undef, undef, undef], defers := [] }) ?assign ?body ?done ?stop
  case assign =>
    intro l y W K hK
    gi_wp2
    exact hK
  case body =>
    rintro l pre y W hI hlen
    obtain ⟨hb, hB⟩ := id hI
    have cb : W.cell? ⟨w.heap.size + 1 + 1, 0, none⟩ = some (.int .u64 (sumA pre)) := by simp [World.cell?, hb]
    have ff : W.frozen? ⟨w.heap.size + 1 + 1, 0, none⟩ = false := by simp [World.frozen?, hb]
    have HN : Hid (AK w (pre ++ [y]) (W.setCell ⟨w.heap.size + 1 + 1, 0, none⟩ (.int .u64 (IntKind.u64.wrap (sumA pre + (y : Int)))))) := Lib.hid (by
      unfold AK
      rw [sumA_snoc]
      exact ⟨cset hb, hB.setCell (p := ⟨w.heap.size + 1 + 1, 0, none⟩) (by dsimp only; omega) _⟩)
    have HK : Hid (KpA (q + 1) (q + 1 + 1) q W (W.setCell ⟨w.heap.size + 1 + 1, 0, none⟩ (.int .u64 (IntKind.u64.wrap (sumA pre + (y : Int)))))) := Lib.hid ⟨hset (by omega), hset (by omega), hset (by omega)⟩
    clear hI hb hB
    generalize sumA pre = z at *
    gi_wp2
    exact ⟨(KeepsOthers.setCell _ _ _).from _, HK.out, HN.out⟩
  case done =>
    rintro D ys W hD rfl hI hK
    obtain ⟨hb, hB⟩ := hI
    have cb : W.cell? ⟨w.heap.size + 1 + 1, 0, none⟩ = some (.int .u64 (sumA ys)) := by simp [World.cell?, hb]
    have ff : W.frozen? ⟨w.heap.size + 1 + 1, 0, none⟩ = false := by simp [World.frozen?, hb]
    generalize hs : sumA ys = z at *
    have Hs := Lib.hid hs
    clear hs
    have HH := Lib.hid hb
    have HBB := Lib.hid hB
    clear hb hB
    gi_wp2
    have hne : D ≠ w.heap.size + 1 + 1 := by have := HZ.out; omega
    have HT : Hid ((W.setCell ⟨w.heap.size + 1 + 1, 0, none⟩ (.int .u64 z)).heap[w.heap.size + 1 + 1]? = some (.cells #[.int .u64 z] 43 (0, 0))) := Lib.hid (cset HH.out)
    have HK5 : Hid ((W.setCell ⟨w.heap.size + 1 + 1, 0, none⟩ (.int .u64 z)).heap[D]? = some (.deferred (some []))) := Lib.hid ((hset hne).trans hK)
    have HB5 := Lib.hid (HBB.out.setCell (p := ⟨w.heap.size + 1 + 1, 0, none⟩) (by dsimp only; omega) (.int .u64 z))
    clear cb ff HH HBB hK
    generalize World.setCell W _ _ = W5 at *
    have hK5 := HK5.out
    refine ⟨by simp, .inl ⟨_, _, rfl, run_takeDeferred hK5, ?_⟩⟩
    have hc6 : (W5.putObj D (.deferred none)).cell? ⟨w.heap.size + 1 + 1, 0, none⟩ = some (.int .u64 z) := by
      have := (World.putObj_heap_other (w := W5) (r := D) (o := .deferred none) (show w.heap.size + 1 + 1 ≠ D by omega)).trans HT.out
      simp [World.cell?, this]
    refine ⟨.tuple #[.int .u64 z, .int .i64 0], ?_, ?_, HB5.out.trans (belowK_b (w := w) (Nat.le_refl _) W5 D _ _ (by have := HZ.out; omega) hK5 rfl rfl)⟩
    · simp [results, Tryd.results27, go_sem, hc6]
    · rw [Hs.out]
  case stop =>
    rintro D c pre W _ _ h _
    exact h.elim
end Go.Proofs.YtkpnafgmjcnniaaDoor
