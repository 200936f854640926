/- Two CPUs that are the same. -/
import Derived.Test.YtkpnafgmjcnniaaDoorCv
namespace Go.Proofs.YtkpnafgmjcnniaaDoor
open Go.RowKit
set_option linter.unusedVariables false
set_option linter.unusedSimpArgs false
theorem lits_struct {fs : Array Field} {d : Nat} {t : TypeId} {cs : List Value} (hu : Tryd.prog.underlying t = some (.struct fs)) (hl : cs.length = Tryd.prog.cellsOf t) (hn : fs.all (·.name != "_") = true)
    (h : ∀ f ∈ fs.toList, ∃ l, Tryd.prog.keyLits d f.type ((cs.drop f.offset).take (Tryd.prog.cellsOf f.type)) = some l) : ∃ l, Tryd.prog.keyLits (d + 1) t cs = some l := by
  obtain ⟨bs, hbs⟩ := mapM_some (fun f : Field => Tryd.prog.keyLits d f.type ((cs.drop f.offset).take (Tryd.prog.cellsOf f.type))) fs.toList h
  refine ⟨bs.flatten, ?_⟩
  unfold Program.keyLits
  rw [hu]
  simp only [hl, hn, and_self, if_true, hbs, Option.map_some]
theorem lit_u64 (d n : Nat) (h : n < 18446744073709551616) : ∃ l, Tryd.prog.keyLits (d + 1) 43 [.int .u64 n] = some l := by
  refine ⟨[.int .u64 n], ?_⟩
  unfold Program.keyLits
  rw [Tryd.underlying43]
  have hw : (Lit.int .u64 n).wf = true := by
    unfold Lit.wf
    simp [IntKind.has, IntKind.min, IntKind.max, IntKind.bits, IntKind.signed]
    omega
  simp [hw]
theorem lit_bool (d : Nat) (b : Bool) : ∃ l, Tryd.prog.keyLits (d + 1) 4 [.bool b] = some l := by
  refine ⟨[.bool b], ?_⟩
  unfold Program.keyLits
  rw [Tryd.underlying4]
theorem c44 : Tryd.prog.cellsOf 44 = 16 := by kernel_rfl
theorem c48 : Tryd.prog.cellsOf 48 = 5 := by kernel_rfl
theorem c43 : Tryd.prog.cellsOf 43 = 1 := by kernel_rfl
theorem c4 : Tryd.prog.cellsOf 4 = 1 := by kernel_rfl
theorem cpu_lits {c : Array Value} (h : CPUF c) : ∃ l, Tryd.prog.keyLits 4 50 c.toList = some l := by
  have hs : c.toList.length = 278 := by simpa using h.size
  have at' : ∀ i v, c[i]? = some v → c.toList[i]? = some v := fun i v e => by rw [Array.getElem?_toList]; exact e
  refine lits_struct Tryd.underlying50 (by rw [hs]; exact cells50.symm) (by decide +kernel) (fun f hf => ?_)
  simp only [List.mem_cons, List.not_mem_nil, or_false] at hf
  rcases hf with rfl | rfl | rfl | rfl
  · dsimp only
    rw [c44]
    refine lits_row Tryd.underlying44 (by rw [c44]; simp [hs]) (fun i hi => ?_)
    rw [c43, Nat.mul_one]
    obtain ⟨n, e, hn⟩ := h.reg i hi
    have e2 : ((c.toList.drop 0).take 16)[i]? = some (.int .u64 n) := by
      rw [List.getElem?_take_of_lt hi, List.getElem?_drop, Nat.zero_add]; exact at' _ _ e
    rw [one_of e2]
    exact lit_u64 _ n hn
  · dsimp only
    rw [c46]
    exact vec_lits h
  · dsimp only
    rw [c48]
    refine lits_struct Tryd.underlying48 (by rw [c48]; simp [hs]) (by decide +kernel) (fun f hf => ?_)
    have hb : ∀ j, j < 5 → ∃ l, Tryd.prog.keyLits 2 4 ((((c.toList.drop 272).take 5).drop j).take (Tryd.prog.cellsOf 4)) = some l := fun j hj => by
      rw [c4]
      obtain ⟨b, e⟩ := h.fla (272 + j) (by omega) (by omega)
      have e2 : ((c.toList.drop 272).take 5)[j]? = some (.bool b) := by
        rw [List.getElem?_take_of_lt hj, List.getElem?_drop]; exact at' _ _ e
      rw [one_of e2]
      exact lit_bool _ b
    simp only [List.mem_cons, List.not_mem_nil, or_false] at hf
    rcases hf with rfl | rfl | rfl | rfl | rfl
    · exact hb 0 (by omega)
    · exact hb 1 (by omega)
    · exact hb 2 (by omega)
    · exact hb 3 (by omega)
    · exact hb 4 (by omega)
  · dsimp only
    rw [c43]
    obtain ⟨n, e, hn⟩ := h.ip
    rw [one_of (at' _ _ e)]
    exact lit_u64 _ n hn
theorem eq50 {c : Array Value} (h : CPUF c) (w : World) : (Op.equalIn 10000 50 (.agg c) (.agg c)).run Tryd.prog w = .ok true w := by
  obtain ⟨l, hl⟩ := cpu_lits h
  have hf : (Value.agg c).formed Tryd.prog 50 = true := by simp [Value.formed, Tryd.underlying50, cells50, h.size]
  have hl' : Tryd.prog.keyLits 4 50 (Value.agg c).cells.toList = some l := by simpa [Value.cells] using hl
  obtain ⟨r, hr, h2⟩ := run_equalIn_deep (P := Tryd.prog) 9996 4 50 (by kernel_rfl) w 4 4 (.agg c) (.agg c) l l hf hf hl' hl'
  rw [hr, h2.2 rfl]
theorem CPUF.set {c : Array Value} (h : CPUF c) (i x : Nat) (hi : i < 16) (hx : x < 18446744073709551616) : CPUF (c.setIfInBounds i (.int .u64 (x : Nat))) where
  size := by simp [h.size]
  reg := fun j hj => by
    by_cases hji : j = i
    · subst hji
      exact ⟨x, by rw [Array.getElem?_setIfInBounds_self_of_lt (by rw [h.size]; omega)], hx⟩
    · rw [Array.getElem?_setIfInBounds_ne (by omega)]; exact h.reg j hj
  vec := fun j h1 h2 => by rw [Array.getElem?_setIfInBounds_ne (by omega)]; exact h.vec j h1 h2
  fla := fun j h1 h2 => by rw [Array.getElem?_setIfInBounds_ne (by omega)]; exact h.fla j h1 h2
  ip := by rw [Array.getElem?_setIfInBounds_ne (by omega)]; exact h.ip
end Go.Proofs.YtkpnafgmjcnniaaDoor
