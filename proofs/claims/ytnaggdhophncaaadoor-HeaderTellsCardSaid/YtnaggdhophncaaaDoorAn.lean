/- Noughts behind an owned row of bytes. -/
import Derived.Test.YtnaggdhophncaaaDoorAm
namespace Go.Proofs.YtnaggdhophncaaaDoor
open Go.RowKit Go.Shelf
set_option linter.unusedVariables false
set_option linter.unusedSimpArgs false
attribute [local go_sem] Oper.semAt_some
theorem zc_list (m : Nat) : Builtin.zeroCells #[.int .u8 0] m = (List.replicate m (Value.int .u8 0)).toArray := by
  apply Array.ext_getElem?
  intro j
  by_cases h : j < m
  · rw [zc_at m j h, List.getElem?_toArray, List.getElem?_replicate_of_lt h]
  · rw [Array.getElem?_eq_none (by rw [zc_size]; omega), Array.getElem?_eq_none (by simp; omega)]
theorem app_make_own (ty : TypeId) (base : Nat) (v : Value) (n m : Nat) (xs : List Value) (W : World) (hown : W.ownsRow base 5 1 v n xs) (hn : n ≤ 1000000) (hm : m ≤ 100000) (hb0 : base ≤ W.heap.size) :
    ∃ v' W', (Builtin.append_ #[22, 3] ty #[v, .int .i64 (m : Nat)]).run Tryd.prog W = .ok v' W' ∧ W'.ownsRow base 5 1 v' (n + m) (xs ++ List.replicate m (Value.int .u8 0)) ∧ W.grownBy W' v.ownBlock := by
  obtain ⟨i, hi, hz, hs, hb⟩ := info_parts info5
  have hw : IntKind.i64.wrap (m : Int) = (m : Int) := IntWalk.i64_in _ (by omega)
  have hw0 : IntKind.i64.wrap 0 = 0 := by decide
  have hneg : ¬ ((m : Int) < 0) := by omega
  have hbig : ¬ (281474976710656 < (m : Int)) := by omega
  have hzl : ∀ k, (Builtin.zeroCells #[.int .u8 0] k).toList = List.replicate k (Value.int .u8 0) := fun k => by rw [zc_list]
  have hlen : (xs ++ List.replicate m (Value.int .u8 0)).length = (n + m) * 1 := by rw [List.length_append, hown.1, List.length_replicate]; omega
  by_cases h0 : m = 0
  · subst h0
    refine ⟨v, W, ?_, by simpa using hown, ⟨rfl, rfl, rfl, Nat.le_refl _, fun _ _ _ => rfl⟩⟩
    rcases hown.2 with ⟨rfl, rfl⟩ | ⟨g, cap, cur, rfl, hbg, hg, hnc, hcm, hcs, htake⟩
    · simp [Builtin.append_, asInt, asIntOf, run_underlying Tryd.underlying22, run_underlying Tryd.underlying3, sizeOf, typeInfo, hi, hs, hb, hw0]
    · simp [Builtin.append_, asInt, asIntOf, run_underlying Tryd.underlying22, run_underlying Tryd.underlying3, sizeOf, typeInfo, hi, hs, hb, hw0, hnc, storeCells]
  have grown : ∀ (old : Nat) (row : Option Nat),
      (W.drew.alloc (.cells (xs.toArray ++ Builtin.zeroCells #[.int .u8 0] m ++ Builtin.zeroCells #[.int .u8 0] (grownCap W (n + m) old 5 - (n + m))) 5)).ownsRow base 5 1 (.slice (some ⟨W.heap.size, 0, none⟩) (n + m) (grownCap W (n + m) old 5)) (n + m) (xs ++ List.replicate m (Value.int .u8 0)) ∧
      W.grownBy (W.drew.alloc (.cells (xs.toArray ++ Builtin.zeroCells #[.int .u8 0] m ++ Builtin.zeroCells #[.int .u8 0] (grownCap W (n + m) old 5 - (n + m))) 5)) row := by
    intro old row
    have hge := grownCap_ge W (n + m) old 5
    have hcm : grownCap W (n + m) old 5 ≤ maxLen := grownCap_le_maxLen W (n + m) old 5 (by unfold maxLen; omega)
    refine ⟨⟨hlen, .inr ⟨W.heap.size, _, _, rfl, hb0, heap_alloc_last W.drew _, hge, hcm, ?_, ?_⟩⟩, ⟨rfl, rfl, rfl, by simp, fun k hk _ => heap_alloc_old W.drew _ hk⟩⟩
    · simp only [Array.size_append, List.size_toArray, zc_size, hown.1]
      omega
    · simp only [Array.toList_append, List.append_assoc, hzl]
      rw [← List.append_assoc, ← hlen]
      exact List.take_left
  have h63 : ¬ (9223372036854775807 < ((n : Int) + (m : Int))) := by omega
  rcases hown.2 with ⟨rfl, rfl⟩ | ⟨g, cap, cur, rfl, hbg, hg, hnc, hcm, hcs, htake⟩
  · have hx : xs = [] := List.eq_nil_of_length_eq_zero (by simpa using hown.1)
    subst hx
    obtain ⟨g1, g2⟩ := grown 0 (Value.ownBlock (.slice none 0 0))
    have hcap : Builtin.nextslicecap (0 + m) 0 * i.bytes ≤ 281474976710656 := growslice_fits (by omega) (by rw [hb]; omega)
    have h48 : ¬ (281474976710656 < Builtin.nextslicecap m 0) := by rw [hb, Nat.mul_one, Nat.zero_add] at hcap; omega
    have hmm : ¬ (9223372036854775807 < (m : Int)) := by omega
    refine ⟨_, _, ?_, g1, g2⟩
    simp [Builtin.append_, asInt, asIntOf, run_underlying Tryd.underlying22, run_underlying Tryd.underlying3, sizeOf, typeInfo, zeroValue, hi, hz, hs, hb, hw, h0, hmm, h48, hneg, hbig, Question.forced, Builtin.firstCells, newRow, grownCap, Value.cells]
  · by_cases hroom : n + m ≤ cap
    · have hst := run_storeCells_at Tryd.prog g (n * 1) 5 (List.replicate m (Value.int .u8 0)) 0 cur W hg (by rw [List.length_replicate, hcs]; omega) (fun u hu => by rw [(List.mem_replicate.1 hu).2]; rfl)
      simp only [Nat.add_zero, Nat.mul_one] at hst
      have hW : ∃ c : Array Value, c = (cur.toList.take n ++ List.replicate m (Value.int .u8 0) ++ cur.toList.drop (n + (List.replicate m (Value.int .u8 0)).length)).toArray := ⟨_, rfl⟩
      obtain ⟨c, hc⟩ := hW
      rw [← hc] at hst
      refine ⟨.slice (some ⟨g, 0, none⟩) (n + m) cap, W.setRow g c, ?_, ⟨hlen, .inr ⟨g, cap, c, rfl, hbg, setRow_heap W g cur c 5 (0, 0) hg, hroom, hcm, ?_, ?_⟩⟩, grown_row W g c⟩
      · simp [Builtin.append_, asInt, asIntOf, run_underlying Tryd.underlying22, run_underlying Tryd.underlying3, sizeOf, typeInfo, zeroValue, hi, hz, hs, hb, hw, hroom, h0, hneg, hbig, Value.cells, hzl, Addr.add_mid, hst]
      · rw [hc]
        simp only [List.size_toArray, List.length_append, List.length_take, List.length_drop, Array.length_toList, List.length_replicate]
        omega
      · have e : cur.toList.take n = xs := by rw [← htake, Nat.mul_one]
        rw [hc]
        show List.take _ (_ ++ _ ++ _) = _
        rw [e, ← hlen]
        exact List.take_left
    · have hcap : Builtin.nextslicecap (n + m) cap * i.bytes ≤ 281474976710656 := growslice_fits (by omega) (by rw [hb]; omega)
      have h48 : ¬ (281474976710656 < Builtin.nextslicecap (n + m) cap) := by rw [hb, Nat.mul_one] at hcap; omega
      have hfo := run_firstCells_some (P := Tryd.prog) W.drew 1 n ⟨g, 0, none⟩ n cap xs hown.1 (by simpa using hown.cells (g := g) rfl)
      obtain ⟨g1, g2⟩ := grown cap (Value.ownBlock (.slice (some ⟨g, 0, none⟩) n cap))
      refine ⟨_, _, ?_, g1, g2⟩
      simp [Builtin.append_, asInt, asIntOf, run_underlying Tryd.underlying22, run_underlying Tryd.underlying3, sizeOf, typeInfo, zeroValue, hi, hz, hs, hb, hw, hroom, h0, h63, h48, hneg, hbig, Question.forced, hfo, newRow, grownCap, Value.cells]
theorem wpList_appmakeown {ops : Array Oper} {Q : Exit → Act → World → Prop} {o : Oper} {rest : List Oper} {a : Act} {W : World} {x y : Operand} {v : Value} {base m n : Nat} {xs : List Value}
    (ho : o.op = .call { callee := .builtin .append, args := #[x, y], argTypes := #[22, 3] }) (hg : o.guard = none) (hx : a.eval x = v) (hy : a.eval y = .int .i64 (m : Nat)) (h : W.ownsRow base 5 1 v n xs) (hn : n ≤ 1000000) (hm : m ≤ 100000) (hb0 : base ≤ W.heap.size)
    (hk : ∀ v' W', W'.ownsRow base 5 1 v' (n + m) (xs ++ List.replicate m (Value.int .u8 0)) → W.grownBy W' v.ownBlock → wpList Tryd.prog ops Q rest (a.put o.dst v') W') : wpList Tryd.prog ops Q (o :: rest) a W := by
  refine wpList_plain hg fun K hK => ?_
  obtain ⟨v', W', hr, h1, h2⟩ := app_make_own o.type base v n m xs W h hn hm hb0
  unfold Oper.wp execOp
  simp only [ho, resolve, invoke, builtin, Sem.run_bind, Sem.run_pure, Result.andThen_ok, List.map_toArray, List.map_cons, List.map_nil, hx, hy, hr]
  exact hK _ _ (hk v' W' h1 h2)
end Go.Proofs.YtnaggdhophncaaaDoor
