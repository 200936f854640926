/- Noughts behind a row of bytes. -/
import Derived.Test.YtnaggdhophncaaaDoorWa
namespace Go.Proofs.YtnaggdhophncaaaDoor
open Go.RowKit Go.Shelf
set_option linter.unusedVariables false
set_option linter.unusedSimpArgs false
attribute [local go_sem] Oper.semAt_some
def tailF (f : Nat → Nat) (m : Nat) : Nat → Nat := fun j => if j < m then f j else 0
theorem tailF_in (f : Nat → Nat) (m : Nat) : ∀ j, j < m → tailF f m j = f j := fun j hj => if_pos hj
theorem tailF_lt {f : Nat → Nat} (hf : ∀ j, f j < 256) (m j : Nat) : tailF f m j < 256 := by
  unfold tailF
  split
  · exact hf j
  · decide
theorem zc_size (n : Nat) : (Builtin.zeroCells #[.int .u8 0] n).size = n := by simp [Builtin.zeroCells]
theorem zc_at (n j : Nat) (h : j < n) : (Builtin.zeroCells #[.int .u8 0] n)[j]? = some (.int .u8 0) := by
  unfold Builtin.zeroCells
  simp [h, Nat.mod_one]
theorem app_make (ty : TypeId) (g m n : Nat) (f : Nat → Nat) (W : World) (h : BR W g m f) (hm : m ≤ 100000) (hn : n ≤ 100000) : ∃ g' cap' W', (Builtin.append_ #[22, 3] ty #[.slice (some ⟨g, 0, none⟩) m m, .int .i64 (n : Nat)]).run Tryd.prog W = .ok (.slice (some ⟨g', 0, none⟩) (m + n) cap') W' ∧ m + n ≤ cap' ∧ cap' ≤ 9223372036854775807 ∧
    BS W' (some ⟨g', 0, none⟩) (m + n) (tailF f m) ∧ Below W.heap.size W W' := by
  obtain ⟨i, hi, hz, hs, hb⟩ := info_parts info5
  have hw : IntKind.i64.wrap (n : Int) = (n : Int) := IntWalk.i64_in _ (by omega)
  have hneg : ¬ ((n : Int) < 0) := by omega
  have hbig : ¬ (281474976710656 < (n : Int)) := by omega
  by_cases h0 : n = 0
  · subst h0
    refine ⟨g, m, W, ?_, Nat.le_refl _, by omega, ?_, Below.refl _ _⟩
    · have hw0 : IntKind.i64.wrap 0 = 0 := by decide
      simp [Builtin.append_, asInt, asIntOf, run_underlying Tryd.underlying22, run_underlying Tryd.underlying3, sizeOf, typeInfo, hi, hs, hb, hw0, storeCells]
    · have e : m + 0 = m := rfl
      rw [e]
      exact (h.congr (fun j hj => (tailF_in f m j hj).symm)).bs
  · have hgt : ¬ (m + n ≤ m) := by omega
    have h63 : ¬ (9223372036854775807 < ((m : Int) + (n : Int))) := by omega
    have hcap : Builtin.nextslicecap (m + n) m * i.bytes ≤ 281474976710656 := growslice_fits (by omega) (by rw [hb]; omega)
    have h48 : ¬ (281474976710656 < Builtin.nextslicecap (m + n) m) := by rw [hb, Nat.mul_one] at hcap; omega
    have hfo := run_firstCells_some (P := Tryd.prog) W.drew 1 m ⟨g, 0, none⟩ m m (rowB f m) (by rw [rowB_len]; omega) (fun j v hj => by
      have hjl := (List.getElem?_eq_some_iff.1 hj).1
      rw [rowB_len] at hjl
      rw [rowB_at f m j hjl] at hj
      cases hj
      rw [Addr.add_mid, Nat.zero_add]
      exact h.c j hjl)
    refine ⟨W.heap.size, grownCap W (m + n) m 5, W.drew.alloc (.cells ((rowB f m).toArray ++ Builtin.zeroCells #[.int .u8 0] n ++ Builtin.zeroCells #[.int .u8 0] (grownCap W (m + n) m 5 - (m + n))) 5), ?_, grownCap_ge _ _ _ _, grownCap_le_maxLen _ _ _ _ (by unfold maxLen; omega), ?_, ?_⟩
    · simp [Builtin.append_, asInt, asIntOf, run_underlying Tryd.underlying22, run_underlying Tryd.underlying3, sizeOf, typeInfo, zeroValue, hi, hz, hs, hb, hw, hgt, h0, h63, h48, hneg, hbig, Question.forced, hfo, newRow, grownCap, Value.cells]
    · intro _
      refine ⟨_, 0, rfl, fun j hj => ?_⟩
      rw [Nat.zero_add]
      refine cell_at (heap_alloc_last W.drew _) ?_
      unfold tailF
      by_cases hlt : j < m
      · rw [if_pos hlt, Array.append_assoc, Array.getElem?_append_left (by simpa [rowB_len] using hlt)]
        rw [List.getElem?_toArray, rowB_at f m j hlt]
      · rw [if_neg hlt, Array.append_assoc, Array.getElem?_append_right (by simp [rowB_len]; omega), Array.getElem?_append_left (by rw [zc_size]; simp [rowB_len]; omega)]
        exact zc_at _ _ (by simp [rowB_len]; omega)
    · exact ⟨rfl, rfl, rfl, by simp, fun k hk => heap_alloc_old W.drew _ hk⟩
theorem wpList_appmake {ops : Array Oper} {Q : Exit → Act → World → Prop} {o : Oper} {rest : List Oper} {a : Act} {W : World} {x y : Operand} {g m n : Nat} {f : Nat → Nat}
    (ho : o.op = .call { callee := .builtin .append, args := #[x, y], argTypes := #[22, 3] }) (hg : o.guard = none) (hx : a.eval x = .slice (some ⟨g, 0, none⟩) m m) {k : Int} (hy : a.eval y = .int .i64 k) (hkn : k = (n : Nat)) (h : BR W g m f) (hm : m ≤ 100000) (hn : n ≤ 100000)
    (hk : ∀ g' cap' W', m + n ≤ cap' → cap' ≤ 9223372036854775807 → BS W' (some ⟨g', 0, none⟩) (m + n) (tailF f m) → Below W.heap.size W W' → wpList Tryd.prog ops Q rest (a.put o.dst (.slice (some ⟨g', 0, none⟩) (m + n) cap')) W') : wpList Tryd.prog ops Q (o :: rest) a W := by
  subst hkn
  refine wpList_plain hg fun K hK => ?_
  obtain ⟨g', cap', W', hr, h1, h2, h3, h4⟩ := app_make o.type g m n f W h hm hn
  unfold Oper.wp execOp
  simp only [ho, resolve, invoke, builtin, Sem.run_bind, Sem.run_pure, Result.andThen_ok, List.map_toArray, List.map_cons, List.map_nil, hx, hy, hr]
  exact hK _ _ (hk g' cap' W' h1 h2 h3 h4)
end Go.Proofs.YtnaggdhophncaaaDoor
