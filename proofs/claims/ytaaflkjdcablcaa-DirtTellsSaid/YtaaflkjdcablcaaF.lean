/- dirt.joined. -/
import Derived.Test.YtaaflkjdcablcaaE
import Derived.Test.YtaaflkjdcablcaaB
namespace Go.Proofs.Ytaaflkjdcablcaa
open Go.RowKit Go.Shelf
set_option linter.unusedVariables false
set_option linter.unusedSimpArgs false
attribute [local go_sem] Oper.semAt_some
/-- What may be made of any region that is held, midway. -/
theorem wpAnyH_narrow {P : Program} {md : Region.Mode} {ops : Array Oper} {Q : Exit → Act → World → Prop} {S S' : World → Prop} (hS : ∀ w, S' w → S w) :
    ∀ (fuel : Nat) (listed : Array Bool) (a : Act) (w : World), wpAnyH P md ops Q S' fuel listed a w → wpAnyH P md ops Q S fuel listed a w
  | 0, _, _, _, h => h
  | fuel + 1, _, _, _, h => ⟨h.1, fun i hi => wpOp_mono (fun a w hh => ⟨hS w hh.1, wpAnyH_narrow hS fuel _ a w hh.2⟩) (h.2 i hi)⟩
def stepJ (js : List Rg) (x : Rg) : List Rg := if js.length = 0 then [x] else if apartB (zh js (js.length - 1)) x.1 then js ++ [x] else js.take (js.length - 1) ++ [(zl js (js.length - 1), maxN (zh js (js.length - 1)) x.2)]
def joinK (zs : List Rg) (k : Nat) : List Rg := (zs.take k).foldl stepJ []
theorem joinK_succ (zs : List Rg) (k : Nat) (hk : k < zs.length) : joinK zs (k + 1) = stepJ (joinK zs k) (rAt zs k) := by
  unfold joinK
  rw [take_succ' zs k hk, List.foldl_append]
  rfl
theorem stepJ_len (js : List Rg) (x : Rg) : (stepJ js x).length ≤ js.length + 1 := by
  unfold stepJ
  split
  · simp
  · split
    · simp
    · simp <;> omega
theorem joinK_len (zs : List Rg) : ∀ k, k ≤ zs.length → (joinK zs k).length ≤ k
  | 0, _ => by simp [joinK]
  | k + 1, h => by
    rw [joinK_succ zs k (by omega)]
    have h1 := stepJ_len (joinK zs k) (rAt zs k)
    have h2 := joinK_len zs k (by omega)
    omega
def c2 (W : World) (g i : Nat) (r : Rg) : Prop := W.cell? ⟨g, i * 2, none⟩ = some (.int .u64 (r.1 : Nat)) ∧ W.cell? ⟨g, i * 2 + 1, none⟩ = some (.int .u64 (r.2 : Nat))
def JW (w : World) (g cap k : Nat) (js zs : List Rg) (W : World) : Prop :=
  (∃ cur, W.heap[g]? = some (.cells cur 25 (0, 0)) ∧ cur.size = cap * 2) ∧ (∀ i, i < js.length → c2 W g i (rAt js i)) ∧ (∀ i, k ≤ i → i < zs.length → c2 W g i (rAt zs i)) ∧ Below w.heap.size w W
theorem c2.keep {W W' : World} {g i : Nat} {r : Rg} (h : c2 W g i r) (hb : Below W.heap.size W W') : c2 W' g i r := ⟨cell_keep h.1 hb, cell_keep h.2 hb⟩
theorem JW.keep {w W W' : World} {g cap k : Nat} {js zs : List Rg} (h : JW w g cap k js zs W) (hb : Below W.heap.size W W') : JW w g cap k js zs W' := by
  obtain ⟨⟨cur, h1, h2⟩, h3, h4, h5⟩ := h
  exact ⟨⟨cur, (hb.block g (Array.getElem?_eq_some_iff.1 h1).1).trans h1, h2⟩, fun i hi => (h3 i hi).keep hb, fun i hk hi => (h4 i hk hi).keep hb, h5.trans (hb.mono h5.size)⟩
theorem JW.drew {w W : World} {g cap k : Nat} {js zs : List Rg} (h : JW w g cap k js zs W) : JW w g cap k js zs W.drew := ⟨h.1, h.2.1, h.2.2.1, h.2.2.2.drew⟩
theorem JW.alloc {w W : World} {g cap k : Nat} {js zs : List Rg} (h : JW w g cap k js zs W) (o : Obj) : JW w g cap k js zs (W.alloc o) := h.keep ((Below.refl _ _).alloc (Nat.le_refl _) o)
theorem JW.lt {w W : World} {g cap k : Nat} {js zs : List Rg} (h : JW w g cap k js zs W) : g < W.heap.size := by
  obtain ⟨⟨cur, h1, h2⟩, _⟩ := h
  exact (Array.getElem?_eq_some_iff.1 h1).1
/-- Cells of the row that may be written. -/
theorem JW.there {w W : World} {g cap k : Nat} {js zs : List Rg} (h : JW w g cap k js zs W) (i : Nat) (hi : i < cap) : (∃ u v, W.cell? ⟨g, i * 2, none⟩ = some u ∧ W.cell? ⟨g, i * 2 + 1, none⟩ = some v) ∧ W.frozen? ⟨g, i * 2, none⟩ = false ∧ W.frozen? ⟨g, i * 2 + 1, none⟩ = false := by
  obtain ⟨⟨cur, h1, h2⟩, _⟩ := h
  refine ⟨⟨cur[i * 2]'(by omega), cur[i * 2 + 1]'(by omega), ?_, ?_⟩, ?_, ?_⟩
  · simp [World.cell?, h1]
  · simp [World.cell?, h1]
  · simp [World.frozen?, h1]
  · simp [World.frozen?, h1]
def put2 (W : World) (g i : Nat) (x : Rg) : World := (W.setCell ⟨g, i * 2, none⟩ (.int .u64 (x.1 : Nat))).setCell ⟨g, i * 2 + 1, none⟩ (.int .u64 (x.2 : Nat))
theorem put2_cell {W : World} {g cap i : Nat} {cur : Array Value} (h1 : W.heap[g]? = some (.cells cur 25 (0, 0))) (h2 : cur.size = cap * 2) (hi : i < cap) (x : Rg) : c2 (put2 W g i x) g i x ∧ (∀ j r, j ≠ i → c2 W g j r → c2 (put2 W g i x) g j r) ∧ ∃ cur', (put2 W g i x).heap[g]? = some (.cells cur' 25 (0, 0)) ∧ cur'.size = cap * 2 := by
  have hb : (put2 W g i x).heap[g]? = some (.cells ((cur.setIfInBounds (i * 2) (.int .u64 (x.1 : Nat))).setIfInBounds (i * 2 + 1) (.int .u64 (x.2 : Nat))) 25 (0, 0)) := by
    unfold put2
    simp [World.setCell, Array.getElem?_modify, h1]
  have hc : ∀ p, (put2 W g i x).cell? ⟨g, p, none⟩ = ((cur.setIfInBounds (i * 2) (.int .u64 (x.1 : Nat))).setIfInBounds (i * 2 + 1) (.int .u64 (x.2 : Nat)))[p]? := fun p => by
    unfold World.cell?
    rw [hb]
    rfl
  have hc0 : ∀ p, W.cell? ⟨g, p, none⟩ = cur[p]? := fun p => by
    unfold World.cell?
    rw [h1]
    rfl
  refine ⟨⟨?_, ?_⟩, fun j r hj h => ⟨?_, ?_⟩, _, hb, by simp [h2]⟩
  · rw [hc, Array.getElem?_setIfInBounds, if_neg (by omega), Array.getElem?_setIfInBounds, if_pos rfl, if_pos (by omega)]
  · rw [hc, Array.getElem?_setIfInBounds, if_pos rfl, if_pos (by simp; omega)]
  · rw [hc, Array.getElem?_setIfInBounds, if_neg (by omega), Array.getElem?_setIfInBounds, if_neg (by omega), ← hc0]
    exact h.1
  · rw [hc, Array.getElem?_setIfInBounds, if_neg (by omega), Array.getElem?_setIfInBounds, if_neg (by omega), ← hc0]
    exact h.2
theorem put2_below {w W : World} {g i : Nat} {x : Rg} (h : Below w.heap.size w W) (hg : w.heap.size ≤ g) : Below w.heap.size w (put2 W g i x) := (h.setCell (by exact hg) _).setCell (by exact hg) _
theorem rAt_app_lt {js : List Rg} {x : Rg} {i : Nat} (hi : i < js.length) : rAt (js ++ [x]) i = rAt js i := by
  simp [rAt, zl, zh, List.getD, List.getElem?_append_left hi]
theorem rAt_app_eq {js : List Rg} {x : Rg} : rAt (js ++ [x]) js.length = x := by
  simp [rAt, zl, zh, List.getD]
/-- One more at the end. -/
theorem JW.push {w W : World} {g cap k : Nat} {js zs : List Rg} (h : JW w g cap k js zs W) (hg : w.heap.size ≤ g) (hm : js.length ≤ k) (hk : k < cap) (x : Rg) : JW w g cap (k + 1) (js ++ [x]) zs (put2 W g js.length x) := by
  obtain ⟨⟨cur, h1, h2⟩, h3, h4, h5⟩ := h
  obtain ⟨p1, p2, p3⟩ := put2_cell h1 h2 (show js.length < cap by omega) x
  refine ⟨p3, fun i hi => ?_, fun i hki hi => p2 i _ (by omega) (h4 i (by omega) hi), put2_below h5 hg⟩
  simp only [List.length_append, List.length_singleton] at hi
  by_cases he : i = js.length
  · subst he
    rw [rAt_app_eq]
    exact p1
  · rw [rAt_app_lt (by omega)]
    exact p2 i _ he (h3 i (by omega))
/-- The last one is another one. -/
theorem JW.last {w W : World} {g cap k j : Nat} {js zs : List Rg} (h : JW w g cap k js zs W) (hg : w.heap.size ≤ g) (hj : js.length = j + 1) (hm : js.length ≤ k) (hk : k < cap) (x : Rg) : JW w g cap (k + 1) (js.take j ++ [x]) zs (put2 W g j x) := by
  obtain ⟨⟨cur, h1, h2⟩, h3, h4, h5⟩ := h
  obtain ⟨p1, p2, p3⟩ := put2_cell h1 h2 (show j < cap by omega) x
  have hl : (js.take j).length = j := by rw [List.length_take]; omega
  refine ⟨p3, fun i hi => ?_, fun i hki hi => p2 i _ (by omega) (h4 i (by omega) hi), put2_below h5 hg⟩
  simp only [List.length_append, List.length_singleton, hl] at hi
  by_cases he : i = j
  · subst he
    have := rAt_app_eq (js := js.take i) (x := x)
    rw [hl] at this
    rw [this]
    exact p1
  · rw [rAt_app_lt (by omega)]
    have hr : rAt (js.take j) i = rAt js i := by
      simp [rAt, zl, zh, List.getD, List.getElem?_take, show i < j by omega]
    rw [hr]
    exact p2 i _ he (h3 i (by omega))
end Go.Proofs.Ytaaflkjdcablcaa
