/- Appends of sections; bytes that are put. -/
import Derived.Test.YtegbhjmghkbgmaaMo
import Derived.Test.YtegbhjmghkbgmaaFs
import Derived.Laws.AppendOwnNone
namespace Go.Proofs.Ytegbhjmghkbgmaa
open Go.RowKit Go.Shelf
set_option linter.unusedVariables false
set_option linter.unusedSimpArgs false
attribute [local go_sem] Oper.semAt_some
theorem info54t : (Try.prog.info? 54).map (fun i => (i.zero, i.size, i.bytes)) = some (some (.agg #[.int .u32 0, .int .u64 0, .int .u64 0, .int .u32 0, .int .u64 0]), 5, 40) := by kernel_rfl
def cellsC (l : List Sc) : List Value := l.flatMap Sc.cs
theorem cellsC_len (l : List Sc) : (cellsC l).length = l.length * 5 := flat_len Sc_len l
theorem one_secs (M : List Sc) : ∀ u ∈ cellsC M, u.oneCell' = true := by
  intro u hu
  unfold cellsC at hu
  obtain ⟨x, _, hx⟩ := List.mem_flatMap.1 hu
  simp [Sc.cs] at hx
  rcases hx with rfl | rfl | rfl | rfl | rfl <;> rfl
def SrcC (W : World) (a3 : Option Addr) (n3 c3 : Nat) (M : List Sc) : Prop := (a3 = none ∧ n3 = 0 ∧ c3 = 0 ∧ M = []) ∨ ∃ ad, a3 = some ad ∧ M.length = n3 ∧ ∀ j u, (cellsC M)[j]? = some u → W.cell? (ad.add j) = some u
theorem SrcC.keep {W W' : World} {a3 : Option Addr} {n3 c3 : Nat} {M : List Sc} (h : SrcC W a3 n3 c3 M) (hb : Below W.heap.size W W') : SrcC W' a3 n3 c3 M := by
  rcases h with h | ⟨ad, h1, h2, h3⟩
  · exact .inl h
  · exact .inr ⟨ad, h1, h2, fun j u hu => cell_keep (h3 j u hu) hb⟩
theorem RX.src {W : World} {a : Option Addr} {M : List Sc} (h : RX W a (M.flatMap Sc.cs)) (c : Nat) (hn : M ≠ []) : SrcC W a M.length c M := by
  have hl : 0 < (M.flatMap Sc.cs).length := by
    rw [flat_len Sc_len]
    have := List.length_pos_iff.2 hn
    omega
  obtain ⟨b, off, ha, hc⟩ := h hl
  exact .inr ⟨_, ha, rfl, fun j u hu => by rw [Addr.add_lit]; exact hc j u hu⟩
/-- append of sections to a row that lies in a block, with where the new row lies. -/
theorem app_secs_run (ty : TypeId) (base n g q : Nat) (xs : List Value) (W : World) (hown : W.ownsRow base 54 5 (.slice (some ⟨g, 0, none⟩) n q) n xs) (a3 : Option Addr) (n3 c3 : Nat) (M : List Sc) (hz : SrcC W a3 n3 c3 M) (hn : n + n3 ≤ 1000000) (hb0 : base ≤ W.heap.size) :
    ∃ g' q' W', (Builtin.append_ #[24, 24] ty #[.slice (some ⟨g, 0, none⟩) n q, .slice a3 n3 c3]).run Try.prog W = .ok (.slice (some ⟨g', 0, none⟩) (n + n3) q') W' ∧ W'.ownsRow base 54 5 (.slice (some ⟨g', 0, none⟩) (n + n3) q') (n + n3) (xs ++ cellsC M) ∧ W.grownBy W' (some g) ∧ (g' = g ∨ g' = W.heap.size) := by
  obtain ⟨i, hi, hz0, hs, hb⟩ := info_parts info54t
  rcases hz with ⟨rfl, rfl, rfl, rfl⟩ | ⟨ad, rfl, hl, hc⟩
  · have hrun := run_append_owned_none (P := Try.prog) (w := W) base 24 ty 54 i 5 Try.underlying24 hi _ n xs hown
    exact ⟨g, q, W, by simpa using hrun, by simpa [cellsC] using hown, ⟨rfl, rfl, rfl, Nat.le_refl _, fun _ _ _ => rfl⟩, .inl rfl⟩
  · have hl5 : (cellsC M).length = n3 * 5 := by rw [cellsC_len, hl]
    obtain ⟨v', W', hr, h1, h2, _⟩ := run_append_own (P := Try.prog) W base 24 ty 54 i (.agg #[.int .u32 0, .int .u64 0, .int .u64 0, .int .u32 0, .int .u64 0]) 5 40 Try.underlying24 hi hz0 hs hb rfl (by decide) (.slice (some ⟨g, 0, none⟩) n q) n xs hown ad n3 c3 (cellsC M) hl5 hc (one_secs M) (by unfold maxLen; omega) (by omega) hb0
    rcases hown.2 with ⟨h0, _⟩ | ⟨g1, cap, cur, he, hbg, hg, hnc, hcm, hcs, htake⟩
    · cases h0
    · cases he
      by_cases hroom : n + n3 ≤ q
      · have hr2 := run_append_room (P := Try.prog) W 24 ty 54 i Try.underlying24 hi g n q cur hg ad n3 c3 (cellsC M) (by rw [hs]; exact hl5) hc (one_secs M) hroom (by rw [hs, hl5, hcs]; omega)
        rw [hr] at hr2
        cases hr2
        exact ⟨g, q, _, hr, h1, h2, .inl rfl⟩
      · have holds : ∀ j u, xs[j]? = some u → W.cell? ((⟨g, 0, none⟩ : Addr).add j) = some u := hown.cells (g := g) rfl
        have hr2 := run_append_grow (P := Try.prog) W 24 ty 54 i (.agg #[.int .u32 0, .int .u64 0, .int .u64 0, .int .u32 0, .int .u64 0]) Try.underlying24 hi hz0 ⟨g, 0, none⟩ n q xs (by rw [hs]; exact hown.1) holds ad n3 c3 (cellsC M) (by rw [hs]; exact hl5) hc (by omega) (by omega) (by rw [hb]; exact growslice_fits (by omega) (by omega))
        rw [hr] at hr2
        cases hr2
        exact ⟨_, _, _, hr, h1, h2, .inr rfl⟩
theorem wp_app_secs {o : Oper} {a : Act} {W : World} {K : Act → World → Prop} {Q : Exit → Act → World → Prop} {x y : Operand} {base n n3 c3 g q : Nat} {xs : List Value} {a3 : Option Addr} {M : List Sc}
    (ho : o.op = .call { callee := .builtin .append, args := #[x, y], argTypes := #[24, 24] }) (hx : a.eval x = .slice (some ⟨g, 0, none⟩) n q) (hy : a.eval y = .slice a3 n3 c3) (hown : W.ownsRow base 54 5 (.slice (some ⟨g, 0, none⟩) n q) n xs) (hz : SrcC W a3 n3 c3 M) (hn : n + n3 ≤ 1000000) (hb0 : base ≤ W.heap.size)
    (hK : ∀ g' q' W', W'.ownsRow base 54 5 (.slice (some ⟨g', 0, none⟩) (n + n3) q') (n + n3) (xs ++ cellsC M) → W.grownBy W' (some g) → (g' = g ∨ g' = W.heap.size) → K (a.put o.dst (.slice (some ⟨g', 0, none⟩) (n + n3) q')) W') : Oper.wp Try.prog o a W K Q := by
  obtain ⟨g', q', W', hr, h1, h2, h3⟩ := app_secs_run o.type base n g q xs W hown a3 n3 c3 M hz hn hb0
  unfold Oper.wp execOp
  simp only [ho, resolve, invoke, builtin, Sem.run_bind, Sem.run_pure, Result.andThen_ok, List.map_toArray, List.map_cons, List.map_nil, hx, hy, hr]
  exact hK g' q' W' h1 h2 h3
theorem own_emptyC {V : World} {n0 : Nat} (hg : n0 ≤ V.heap.size) : (V.alloc (.cells #[] 54)).ownsRow n0 54 5 (.slice (some ⟨V.heap.size, 0, none⟩) 0 0) 0 (cellsC []) := ⟨rfl, .inr ⟨V.heap.size, 0, #[], rfl, hg, heap_alloc_last V _, Nat.le_refl _, by decide, rfl, rfl⟩⟩
/-- A row of one's own stays where another block grows. -/
theorem own_grown {W W' : World} {n0 g g2 n c k : Nat} {ty : TypeId} {sz : Nat} {L : List Value} (h : W.ownsRow n0 ty sz (.slice (some ⟨g, 0, none⟩) n c) k L) (hg : W.grownBy W' (some g2)) (hne : g ≠ g2) : W'.ownsRow n0 ty sz (.slice (some ⟨g, 0, none⟩) n c) k L := by
  refine ⟨h.1, ?_⟩
  rcases h.2 with ⟨hv, hn⟩ | ⟨g', cap, cur, hv, hgb, hh, h2⟩
  · cases hv
  · cases hv
    exact .inr ⟨g, _, cur, rfl, hgb, (hg.block g (Array.getElem?_eq_some_iff.1 hh).1 (fun e => hne (Option.some.inj e))).trans hh, h2⟩
/-- Bytes in a block of one's own. -/
def GB (W : World) (g n c : Nat) (z : Nat → Nat) : Prop := ∃ cur, W.heap[g]? = some (.cells cur 5 (0, 0)) ∧ (∀ j, j < n → cur[j]? = some (.int .u8 (z j : Nat)))
theorem GB.keep {W W' : World} {g n c : Nat} {z : Nat → Nat} (h : GB W g n c z) (hb : Below W.heap.size W W') : GB W' g n c z := by
  obtain ⟨cur, h1, h2⟩ := h
  exact ⟨cur, (hb.block g (Array.getElem?_eq_some_iff.1 h1).1).trans h1, h2⟩
theorem GB.lt {W : World} {g n c : Nat} {z : Nat → Nat} (h : GB W g n c z) : g < W.heap.size := by
  obtain ⟨cur, h1, h2⟩ := h
  exact (Array.getElem?_eq_some_iff.1 h1).1
theorem GB.cell {W : World} {g n c : Nat} {z : Nat → Nat} (h : GB W g n c z) {j : Nat} (hj : j < n) : W.cell? ⟨g, j, none⟩ = some (.int .u8 (z j : Nat)) := by
  obtain ⟨cur, h1, h2⟩ := h
  exact cell_at h1 (h2 j hj)
theorem GB.frozen {W : World} {g n c : Nat} {z : Nat → Nat} (h : GB W g n c z) (j : Nat) : W.frozen? ⟨g, j, none⟩ = false := by
  obtain ⟨cur, h1, h2⟩ := h
  exact frozen_at h1 j
theorem GB.bz {W : World} {g n c : Nat} {z : Nat → Nat} (h : GB W g n c z) (hn : n ≤ c) (hc : c ≤ 9223372036854775807) : BZ W (some ⟨g, 0, none⟩) n c z := ⟨.inr ⟨g, 0, rfl, fun j hj => by rw [Nat.zero_add]; exact h.cell hj⟩, hn, hc⟩
theorem GB.of_own {W : World} {n0 g n c : Nat} {xs : List Nat} (h : W.ownsRow n0 5 1 (.slice (some ⟨g, 0, none⟩) n c) n (cellsN xs)) (hx : xs.length = n) : GB W g n c (fun j => xs.getD j 0) ∧ n ≤ c ∧ c ≤ 9223372036854775807 ∧ n0 ≤ g := by
  rcases h.2 with ⟨e, h0⟩ | ⟨g1, cap, cur, e, hg, hh, h1, h2, h3, h4⟩
  · cases e
  · cases e
    refine ⟨⟨cur, hh, fun j hj => ?_⟩, h1, by simpa [maxLen] using h2, hg⟩
    have h5 := cellsN_at (ys := xs) (j := j) (by omega)
    rw [← h4] at h5
    rw [List.getElem?_take_of_lt (by omega)] at h5
    rw [← Array.getElem?_toList]
    exact h5
theorem GB.put {W : World} {g n c : Nat} {z : Nat → Nat} (h : GB W g n c z) (i v : Nat) : GB (W.setCell ⟨g, i, none⟩ (.int .u8 (v : Nat))) g n c (fun j => if j = i then v else z j) := by
  obtain ⟨cur, h1, h2⟩ := h
  rw [setCell_eq_setRow W g i _ _ (0, 0) _ h1]
  refine ⟨_, setRow_heap W g _ _ 5 (0, 0) h1, fun j hj => ?_⟩
  have hjc : j < cur.size := (Array.getElem?_eq_some_iff.1 (h2 j hj)).1
  show _ = some (Value.int .u8 ((if j = i then v else z j : Nat) : Int))
  by_cases e : j = i
  · subst e
    rw [if_pos rfl, Array.getElem?_setIfInBounds_self, if_pos hjc]
  · rw [if_neg e, Array.getElem?_setIfInBounds_ne (fun x => e x.symm)]
    exact h2 j hj
/-- What another block's cell put leaves alone. -/
theorem RX.far {W : World} {b g : Nat} {L : List Value} (h : RX W (some ⟨b, 0, none⟩) L) (hne : b ≠ g) (i : Nat) (v : Value) : RX (W.setCell ⟨g, i, none⟩ v) (some ⟨b, 0, none⟩) L := fun hl => by
  obtain ⟨b1, o1, he, hc⟩ := h hl
  cases he
  refine ⟨b, 0, rfl, fun j u hu => ?_⟩
  rw [← hc j u hu]
  exact World.cell?_of_block (heap_setCell_other W ⟨g, i, none⟩ b v hne)
end Go.Proofs.Ytegbhjmghkbgmaa
