/- A region in which cells are loaded first and stored later; rows of symbols that are written. -/
import Derived.Test.YtegbhjmghkbgmaaSa
import Derived.Test.YtegbhjmghkbgmaaRe
namespace Go.Proofs.Ytegbhjmghkbgmaa
open Go.RowKit Go.Shelf
set_option linter.unusedVariables false
set_option linter.unusedSimpArgs false
attribute [local go_sem] Oper.semAt_some
/-- Whatever order comes up; till number z has, S holds. -/
def wpAnyP (P : Program) (md : Region.Mode) (ops : Array Oper) (Q : Exit → Act → World → Prop) (S : World → Prop) (z : Nat) : Nat → Array Bool → Act → World → Prop
  | 0, L, a, w => Region.ready md ops L = [] ∧ Q .normal a w
  | k + 1, L, a, w => (Region.ready md ops L = [] → Q .normal a w) ∧ ∀ i, i ∈ Region.ready md ops L → wpOp P ops Q i (fun a' w' => ((L.setIfInBounds i true).getD z true = false → S w') ∧ wpAnyP P md ops Q S z k (L.setIfInBounds i true) a' w') a w
theorem getD_set_z {L : Array Bool} {i z : Nat} (h : (L.setIfInBounds i true).getD z true = false) : L.getD z true = false := by
  by_cases e : i = z
  · subst e
    rw [Array.getD_eq_getD_getElem?] at h ⊢
    by_cases hl : i < L.size
    · simp [hl] at h
    · simp [Array.getElem?_eq_none (Nat.not_lt.1 hl)] at h
  · rwa [getD_set_ne true e] at h
theorem wpAnyP_first {P : Program} {md : Region.Mode} {ops : Array Oper} {Q : Exit → Act → World → Prop} {S S0 : World → Prop} {z i : Nat} {oi : Oper} {v : Value} (hi : ops[i]? = some oi) (hsel : ∀ (j : Nat) (o : Oper) cs b, ops[j]? = some o → o.op ≠ .select cs b)
    (hQ : ∀ c a w, Q (.panic c) (a.put oi.dst v) w → Q (.panic c) a w) (hS0 : ∀ w, S w → S0 w) (hiz : i ≠ z) (hz : waitsB md ops z i = true ∨ ∀ w, S0 w) :
    ∀ (k : Nat) (L : Array Bool) (a : Act) (w : World),
      (∀ j oj, ops[j]? = some oj → j ≠ i → L.getD j true = false → (∀ e ∈ oj.after, Region.binds md e = true → e.on ≠ i) → oi.apart ops oj = true) →
      i ∈ Region.ready md ops L → YieldsIf P ops S0 oi v a → (L.getD z true = false → S w) → (waitsB md ops z i = true → L.getD z true = false) → S0 w → wpAnyP P md ops Q S z k (L.setIfInBounds i true) (a.put oi.dst v) w → wpAnyP P md ops Q S z (k + 1) L a w := by
  intro k
  induction k with
  | zero =>
    intro L a w _ hr hy hS _ hw H
    refine ⟨fun h => absurd hr (by rw [h]; simp), fun j hj => ?_⟩
    by_cases e : j = i
    · subst e
      exact hy.wpOp hi hw ⟨fun h => hS (getD_set_z h), H⟩
    · have hm := ready_mono hj e
      rw [H.1] at hm
      cases hm
  | succ k ih =>
    intro L a w hf hr hy hS hLz hw H
    refine ⟨fun h => absurd hr (by rw [h]; simp), fun j hj => ?_⟩
    by_cases e : j = i
    · subst e
      exact hy.wpOp hi hw ⟨fun h => hS (getD_set_z h), H⟩
    · obtain ⟨hun, oj, hoj, _⟩ := mem_ready.1 hj
      have hno := unlisted_of_ready hr hj hoj
      have hjz : waitsB md ops z i = true → j ≠ z := fun hz ez => by
        subst ez
        unfold waitsB at hz
        rw [hoj] at hz
        obtain ⟨e2, he2, hb⟩ := Array.any_eq_true'.1 hz
        simp only [Bool.and_eq_true, beq_iff_eq] at hb
        exact hno e2 he2 hb.1 hb.2
      have hp := wpOp_putIf hoj (hf j oj hoj e hun hno) (fun cs b => hsel i oi cs b hi) (fun cs b => hsel j oj cs b hoj) hQ hy (H.2 j (ready_mono hj e))
      have hLz' : waitsB md ops z i = true → (L.setIfInBounds j true).getD z true = false := fun h => by
        rw [getD_set_ne true (hjz h)]
        exact hLz h
      have hcomm : (L.setIfInBounds i true).setIfInBounds j true = (L.setIfInBounds j true).setIfInBounds i true := (Array.setIfInBounds_comm _ _ e).symm
      have hsame : ((L.setIfInBounds i true).setIfInBounds j true).getD z true = (L.setIfInBounds j true).getD z true := by rw [hcomm, getD_set_ne true hiz]
      refine wpOp_mono (fun a' w' q => ⟨fun h => q.2.1 (hsame.trans h), ih _ a' w' (fun m om hm hmi hmu hmn => hf m om hm hmi ?_ hmn) (ready_mono hr (fun x => e x.symm)) q.1 (fun h => q.2.1 (hsame.trans h)) hLz' ?_ (by rw [← hcomm]; exact q.2.2)⟩) hp
      · by_cases ejm : j = m
        · subst ejm
          exact hun
        · rw [getD_set_ne true ejm] at hmu
          exact hmu
      · rcases hz with hz | hz
        · exact hS0 _ (q.2.1 (hsame.trans (hLz' hz)))
        · exact hz _
/-- A load: it yields where S holds, and number z waits for it. -/
theorem wpAnyP_take {P : Program} {md : Region.Mode} {ops : Array Oper} {Q : Exit → Act → World → Prop} {S : World → Prop} {z i : Nat} {oi : Oper} {v : Value} {k : Nat} {L : Array Bool} {a : Act} {w : World} (hi : ops[i]? = some oi) (hiz : i ≠ z) (hz : waitsB md ops z i = true) (hLz : L.getD z true = false)
    (hs : Region.noSelect ops = true) (hf : Region.free md ops L i = true) (hr : (Region.ready md ops L).contains i = true)
    (hQ : ∀ c a w, Q (.panic c) (a.put oi.dst v) w → Q (.panic c) a w) (hy : YieldsIf P ops S oi v a) (hS : S w)
    (h : wpAnyP P md ops Q S z k (L.setIfInBounds i true) (a.put oi.dst v) w) : wpAnyP P md ops Q S z (k + 1) L a w :=
  wpAnyP_first hi (Region.noSelect_spec hs) hQ (fun _ h => h) hiz (.inl hz) k L a w (Region.free_spec hi hf) (by simpa using hr) hy (fun _ => hS) (fun _ => hLz) hS h
/-- What yields in whatever world. -/
theorem wpAnyP_pure {P : Program} {md : Region.Mode} {ops : Array Oper} {Q : Exit → Act → World → Prop} {S : World → Prop} {z i : Nat} {oi : Oper} {v : Value} {k : Nat} {L : Array Bool} {a : Act} {w : World} (hi : ops[i]? = some oi) (hiz : i ≠ z)
    (hs : Region.noSelect ops = true) (hf : Region.free md ops L i = true) (hr : (Region.ready md ops L).contains i = true) (hw : waitsB md ops z i = true → L.getD z true = false)
    (hQ : ∀ c a w, Q (.panic c) (a.put oi.dst v) w → Q (.panic c) a w) (hy : YieldsIf P ops (fun _ => True) oi v a) (hS : L.getD z true = false → S w)
    (h : wpAnyP P md ops Q S z k (L.setIfInBounds i true) (a.put oi.dst v) w) : wpAnyP P md ops Q S z (k + 1) L a w :=
  wpAnyP_first (S0 := fun _ => True) hi (Region.noSelect_spec hs) hQ (fun _ _ => trivial) hiz (.inr (fun _ => trivial)) k L a w (Region.free_spec hi hf) (by simpa using hr) hy hS hw trivial h
/-- One alone may come up. -/
theorem wpAnyP_one {P : Program} {md : Region.Mode} {ops : Array Oper} {Q : Exit → Act → World → Prop} {S : World → Prop} {z i : Nat} {o : Oper} {k : Nat} {L : Array Bool} {a : Act} {w : World} (hr : Region.ready md ops L = [i]) (ho : ops[i]? = some o)
    (h : ∀ K' : Act → World → Prop, Shut (∀ a w, ((L.setIfInBounds i true).getD z true = false → S w) → wpAnyP P md ops Q S z k (L.setIfInBounds i true) a w → K' a w) → if Region.wanted o (yielded ops a.tmps) = true then Oper.wp P o a w K' Q else K' (a.put o.dst undef) w) : wpAnyP P md ops Q S z (k + 1) L a w := by
  refine ⟨fun h0 => absurd h0 (by rw [hr]; simp), fun j hj => ?_⟩
  rw [hr] at hj
  obtain rfl := List.mem_singleton.1 hj
  exact wpOp_step ho (fun K' hK => h K' (fun a w hS hW => hK a w ⟨hS, hW⟩))
theorem wpAnyP_done {P : Program} {md : Region.Mode} {ops : Array Oper} {Q : Exit → Act → World → Prop} {S : World → Prop} {z : Nat} {L : Array Bool} {a : Act} {w : World} (hr : Region.ready md ops L = []) (h : Q .normal a w) : ∀ k, wpAnyP P md ops Q S z k L a w
  | 0 => ⟨hr, h⟩
  | _ + 1 => ⟨fun _ => h, by rw [hr]; simp⟩
theorem wpAny_of_p {P : Program} {md : Region.Mode} {ops : Array Oper} {Q : Exit → Act → World → Prop} {S : World → Prop} {z : Nat} : ∀ (fuel : Nat) (L : Array Bool) (a : Act) (w : World), wpAnyP P md ops Q S z fuel L a w → wpAny P md ops Q fuel L a w
  | 0, _, _, _, h => h
  | fuel + 1, _, _, _, h => ⟨h.1, fun i hi => wpOp_mono (fun a' w' h' => wpAny_of_p fuel _ a' w' h'.2) (h.2 i hi)⟩
theorem wp_region_p (z : Nat) {P : Program} {ops : Array Oper} {Q : Exit → Act → World → Prop} {S : World → Prop} {id : Nat} {a : Act} {w : World} (hm : P.follows .mixedOrders = true)
    (h : wpAnyP P .any ops Q S z ops.size (Array.replicate ops.size false) a w.drew) : (Code.region id ops true).wp P Q a w :=
  wp_region_any hm (wpAny_of_p _ _ _ _ h)
/-! Rows of symbols that are written -/
/-- A block that begins with symbols. -/
def QY (W : World) (g : Nat) (L : List Sy) (R : List Value) : Prop := W.heap[g]? = some (.cells (cellsY L ++ R).toArray 42 (0, 0))
theorem QY.at {W : World} {g : Nat} {L : List Sy} {R : List Value} (h : QY W g L R) {i : Nat} {s : Sy} (hs : L[i]? = some s) : W.cell? ⟨g, i * 4, none⟩ = some (.string s.1) ∧ W.cell? ⟨g, i * 4 + 1, none⟩ = some (.int .u64 (s.2.1 : Nat)) ∧ W.cell? ⟨g, i * 4 + 2, none⟩ = some (.int .u64 (s.2.2.1 : Nat)) ∧ W.cell? ⟨g, i * 4 + 3, none⟩ = some (.bool s.2.2.2) := by
  have hl := (List.getElem?_eq_some_iff.1 hs).1
  have e : ∀ r u, r < 4 → s.cs[r]? = some u → W.cell? ⟨g, i * 4 + r, none⟩ = some u := fun r u hr hu => by
    refine cell_at h ?_
    rw [List.getElem?_toArray, List.getElem?_append_left (by rw [cellsY_len]; omega)]
    exact (flat_at Sy_len L i r s hs hr).trans hu
  exact ⟨e 0 _ (by decide) rfl, e 1 _ (by decide) rfl, e 2 _ (by decide) rfl, e 3 _ (by decide) rfl⟩
theorem QY.fro {W : World} {g : Nat} {L : List Sy} {R : List Value} (h : QY W g L R) (k : Nat) : W.frozen? ⟨g, k, none⟩ = false := frozen_at h k
theorem QY.keep {W W' : World} {g : Nat} {L : List Sy} {R : List Value} (h : QY W g L R) (hb : Below W.heap.size W W') : QY W' g L R := (hb.block g (Array.getElem?_eq_some_iff.1 h).1).trans h
end Go.Proofs.Ytegbhjmghkbgmaa
