/- A round: what it makes of a block. -/
import Derived.Test.YtldicconopcipaaFc
import Derived.Test.YtldicconopcipaaI
namespace Go.Proofs.Ytldicconopcipaa
open Go.RowKit Go.Shelf
set_option linter.unusedVariables false
set_option linter.unusedSimpArgs false
attribute [local go_sem] Oper.semAt_some
theorem ownFrom_R16 {β : Type} (B q : Nat) (c : β → Array Value) : OwnFrom B (fun (s : β) W => R16 W q (c s)) := fun s X Y row hs hg hr => by
  refine ⟨(hg.block _ (Array.getElem?_eq_some_iff.1 hs.1).1 ?_).trans hs.1, hs.2⟩
  intro e
  obtain ⟨_, o, ho, hc⟩ := hr _ e.symm
  rw [hs.1] at ho; cases ho; cases hc
/-- The block, the key, the result's noughts, the block that is made. -/
def RK (w : World) (f g u : Nat → Nat) (W : World) : Prop := (((R16 W w.heap.size (bN f) ∧ R16 W (w.heap.size + 1) (bN g)) ∧ R16 W (w.heap.size + 1 + 1) z16) ∧ R16 W (w.heap.size + 1 + 1 + 1) (bN u)) ∧ Below w.heap.size w W
theorem RK.own (w : World) (f g : Nat → Nat) {β : Type} (u : β → Nat → Nat) (B : Nat) (hB : w.heap.size ≤ B) : OwnFrom B (fun s W => RK w f g (u s) W) :=
  OwnFrom.and (OwnFrom.and (OwnFrom.and (OwnFrom.and (ownFrom_R16 B _ (fun _ => bN f)) (ownFrom_R16 B _ (fun _ => bN g))) (ownFrom_R16 B _ (fun _ => z16))) (ownFrom_R16 B _ (fun s => bN (u s)))) (ownFrom_below (Nat.le_refl _) hB)
theorem RK.keep {w W W' : World} {f g u : Nat → Nat} (h : RK w f g u W) (hb : Below W.heap.size W W') : RK w f g u W' :=
  ⟨⟨⟨⟨h.1.1.1.1.keep hb, h.1.1.1.2.keep hb⟩, h.1.1.2.keep hb⟩, h.1.2.keep hb⟩, h.2.trans (hb.mono h.2.size)⟩
theorem bN_congr {f g : Nat → Nat} (h : ∀ i, i < 16 → f i = g i) : bN f = bN g := bA_congr fun i hi => by rw [h i hi]
theorem RK.set {w W : World} {f g u v : Nat → Nat} (h : RK w f g u W) (i x : Nat) (hi : i < 16) (hv : ∀ j, j < 16 → v j = if j = i then x else u j) : RK w f g v (W.setCell ⟨w.heap.size + 1 + 1 + 1, i, none⟩ (.int .u8 (x : Nat))) := by
  refine ⟨⟨⟨⟨RB.far h.1.1.1.1 (by omega), RB.far h.1.1.1.2 (by omega)⟩, RB.far h.1.1.2 (by omega)⟩, ?_⟩, h.2.setCell (p := ⟨w.heap.size + 1 + 1 + 1, i, none⟩) (by dsimp only; omega) _⟩
  have := RB.set h.1.2 i hi (x : Nat)
  rwa [bA_congr (fun j hj => show (if j = i then ((x : Nat) : Int) else ((u j : Nat) : Int)) = ((v j : Nat) : Int) from by rw [hv j hj]; split <;> rfl)] at this
theorem RK.new (w : World) (f g : Nat → Nat) : RK w f g (fun _ => 0) ((((w.alloc (.cells (bN f) 22)).alloc (.cells (bN g) 22)).alloc (.cells #[.int .u8 0, .int .u8 0, .int .u8 0, .int .u8 0, .int .u8 0, .int .u8 0, .int .u8 0, .int .u8 0, .int .u8 0, .int .u8 0, .int .u8 0, .int .u8 0, .int .u8 0, .int .u8 0, .int .u8 0, .int .u8 0] 22)).alloc (.cells #[.int .u8 0, .int .u8 0, .int .u8 0, .int .u8 0, .int .u8 0, .int .u8 0, .int .u8 0, .int .u8 0, .int .u8 0, .int .u8 0, .int .u8 0, .int .u8 0, .int .u8 0, .int .u8 0, .int .u8 0, .int .u8 0] 22)) := by
  have h1 := R16.new w (bN f) (bA_size _) (bA_one _)
  have h2 := R16.new (w.alloc (.cells (bN f) 22)) (bN g) (bA_size _) (bA_one _)
  have h3 := R16.newz ((w.alloc (.cells (bN f) 22)).alloc (.cells (bN g) 22))
  have h4 := R16.newz (((w.alloc (.cells (bN f) 22)).alloc (.cells (bN g) 22)).alloc (.cells #[.int .u8 0, .int .u8 0, .int .u8 0, .int .u8 0, .int .u8 0, .int .u8 0, .int .u8 0, .int .u8 0, .int .u8 0, .int .u8 0, .int .u8 0, .int .u8 0, .int .u8 0, .int .u8 0, .int .u8 0, .int .u8 0] 22))
  simp only [World.size_alloc] at h2 h3 h4
  exact ⟨⟨⟨⟨((h1.alloc _).alloc _).alloc _, (h2.alloc _).alloc _⟩, h3.alloc _⟩, h4⟩, ((((Below.refl _ w).alloc (Nat.le_refl _) _).alloc (by simp) _).alloc (by simp; omega) _).alloc (by simp; omega) _⟩
theorem wr_mov (f : Nat → Nat) (j : Nat) (hj : j < 16) : wr (upto (movF f) 16) j = boxN (f (shI j)) := by
  have h : ∀ k, k ≤ 16 → j < k → wr (upto (movF f) k) j = boxN (f (shI j)) := by
    intro k
    induction k with
    | zero => intro _ h; omega
    | succ k ih =>
      intro hk hjk
      rw [upto_succ, wr_snoc, movF_at f k (by omega)]
      by_cases e : k = j
      · subst e; simp
      · simp only [if_neg e]; exact ih (by omega) (by omega)
  exact h 16 (Nat.le_refl _) hj
/-- The block in the midst of a round: k bytes are made. -/
def uK (M : (Nat → Nat) → Nat → Nat) (s g : Nat → Nat) (k j : Nat) : Nat := if j < k then M (fun r => s (4 * (j / 4) + r)) (j % 4) ^^^ g j else s j
theorem uK_step (M : (Nat → Nat) → Nat → Nat) (s g : Nat → Nat) (k j : Nat) : uK M s g (k + 1) j = if j = k then M (fun r => s (4 * (k / 4) + r)) (k % 4) ^^^ g k else uK M s g k j := by
  unfold uK
  by_cases e : j = k
  · subst e; simp
  · by_cases e2 : j < k
    · simp [e, e2, show j < k + 1 by omega]
    · simp [e, e2, show ¬ j < k + 1 by omega]
theorem index51 (c : Nat → Nat) (r : Nat) (hr : r < 4) (W : World) : (Instr.index 51 (.agg (qA c)) (.int .i64 (r : Int))).run Try.prog W = .ok (.int .u8 (c r : Nat)) W := by
  have h0 : (0 : Int) ≤ (r : Int) ∧ (r : Int) < 4 := by omega
  have he := qA_at c r hr
  unfold Instr.index
  simp [go_sem, Result.andThen, asIntOf, run_underlying Try.underlying51, h0, he]
  intro h
  omega
/-- The bytes that a round is made of. -/
def sB (f : Nat → Nat) (j : Nat) : Nat := boxN (f (shI j))
theorem sB_lt (f : Nat → Nat) (j : Nat) : sB f j < 256 := boxN_lt _
/-- In the midst of the loops: and the record of the range is there. -/
def NS (w : World) (f g u : Nat → Nat) (D : Nat) (W : World) : Prop := RK w f g u W ∧ W.heap[D]? = some (.deferred (some []))
theorem NS.keep {w W W' : World} {f g u : Nat → Nat} {D : Nat} (h : NS w f g u D W) (hb : Below W.heap.size W W') : NS w f g u D W' :=
  ⟨h.1.keep hb, (hb.block _ (Array.getElem?_eq_some_iff.1 h.2).1).trans h.2⟩
theorem NS.set {w W : World} {f g u v : Nat → Nat} {D : Nat} (h : NS w f g u D W) (hD : w.heap.size + 1 + 1 + 1 < D) (i x : Nat) (hi : i < 16) (hv : ∀ j, j < 16 → v j = if j = i then x else u j) : NS w f g v D (W.setCell ⟨w.heap.size + 1 + 1 + 1, i, none⟩ (.int .u8 (x : Nat))) :=
  ⟨h.1.set i x hi hv, (Below.heap_setCell _ _ _ _ (by dsimp only; omega)).trans h.2⟩
theorem uK_zero (M : (Nat → Nat) → Nat → Nat) (s g : Nat → Nat) : uK M s g 0 = s := by funext j; simp [uK]
theorem NS.at {w W : World} {f g s : Nat → Nat} {M : (Nat → Nat) → Nat → Nat} {k D : Nat} (h : NS w f g (uK M s g k) D W) (j : Nat) (hj : j < 16) (hk : k ≤ j) : W.cell? ⟨w.heap.size + 1 + 1 + 1, j, none⟩ = some (.int .u8 (s j : Nat)) :=
  (RB.cell h.1.1.2 j hj).trans (by unfold uK; rw [if_neg (by omega)])
theorem NS.key {w W : World} {f g u : Nat → Nat} {D : Nat} (h : NS w f g u D W) (j : Nat) (hj : j < 16) : W.cell? ⟨w.heap.size + 1, j, none⟩ = some (.int .u8 (g j : Nat)) := RB.cell h.1.1.1.1.2 j hj
theorem NS.froz {w W : World} {f g u : Nat → Nat} {D : Nat} (h : NS w f g u D W) (j : Nat) : W.frozen? ⟨w.heap.size + 1 + 1 + 1, j, none⟩ = false := RB.froz h.1.1.2 j
theorem NS.next {w W : World} {f g s : Nat → Nat} {M : (Nat → Nat) → Nat → Nat} {D : Nat} (c r : Nat) (h : NS w f g (uK M s g (c + r)) D W) (hD : w.heap.size + 1 + 1 + 1 < D) (hi : c + r < 16) (hr : r < 4) (hc : c % 4 = 0) :
    NS w f g (uK M s g (c + (r + 1))) D (W.setCell ⟨w.heap.size + 1 + 1 + 1, c + r, none⟩ (.int .u8 ((M (fun q => s (c + q)) r ^^^ g (c + r) : Nat) : Int))) :=
  h.set hD (c + r) _ hi (fun j hj => by
    rw [show c + (r + 1) = c + r + 1 by omega, uK_step, show 4 * ((c + r) / 4) = c by omega, show (c + r) % 4 = r by omega])
end Go.Proofs.Ytldicconopcipaa
