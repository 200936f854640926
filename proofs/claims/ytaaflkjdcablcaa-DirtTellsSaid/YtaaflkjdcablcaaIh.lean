/- A region that draws its order and makes no call, inside a fence. -/
import Derived.Test.YtaaflkjdcablcaaA
namespace Go.Proofs.Ytaaflkjdcablcaa
open Go.RowKit Go.Shelf
set_option linter.unusedVariables false
set_option linter.unusedSimpArgs false
attribute [local go_sem] Oper.semAt_some
/-- It makes no call, and either leaves a value or halts. -/
structure Calm (P : Program) (o : Oper) : Prop where
  ab : ∀ w ρ, o.about P w ρ = none
  nd : ∀ c, o.op ≠ .defer c
  val : ∀ ρ w, (∃ v w', (execOp ρ o).run P w = .ok (.value v) w') ∨ ∃ h w', (execOp ρ o).run P w = .halt h w'
theorem val_run {P : Program} {w : World} (s : Sem Value) : (∃ v w', (do pure (Next.value (← s)) : Sem Next).run P w = .ok (.value v) w') ∨ ∃ h w', (do pure (Next.value (← s)) : Sem Next).run P w = .halt h w' := by
  simp only [Sem.run_bind, Sem.run_pure]
  cases s.run P w with
  | ok v w' => exact .inl ⟨v, w', rfl⟩
  | halt h w' => exact .inr ⟨h, w', rfl⟩
theorem about_no {P : Program} {o : Oper} (h : ∀ c, o.op ≠ .call c) (w : World) (ρ : Operand → Value) : o.about P w ρ = none := by
  unfold Oper.about
  cases ho : o.op <;> first | rfl | exact absurd ho (h _)
theorem calm_v {P : Program} {o : Oper} (h1 : ∀ c, o.op ≠ .call c) (h2 : ∀ c, o.op ≠ .defer c) (h : ∀ ρ, ∃ s : Sem Value, execOp ρ o = (do pure (.value (← s)))) : Calm P o :=
  ⟨about_no h1, h2, fun ρ w => by obtain ⟨s, hs⟩ := h ρ; rw [hs]; exact val_run s⟩
theorem calm_load {P : Program} {d t p g : _} {x : Operand} {ty : TypeId} {af : _} : Calm P { dst := d, op := .load t x, type := ty, pos := p, after := af, guard := g } := calm_v (fun _ h => by cases h) (fun _ h => by cases h) (fun ρ => ⟨Instr.loadAt t (ρ x), rfl⟩)
theorem calm_bin {P : Program} {d t p g : _} {op : BinOp} {x y : Operand} {ty ty' : TypeId} {af : _} : Calm P { dst := d, op := .binOp op t x y ty', type := ty, pos := p, after := af, guard := g } := calm_v (fun _ h => by cases h) (fun _ h => by cases h) (fun ρ => ⟨_, rfl⟩)
theorem calm_un {P : Program} {d t p g : _} {op : UnOp} {x : Operand} {ty : TypeId} {af : _} : Calm P { dst := d, op := .unOp op t x, type := ty, pos := p, after := af, guard := g } := calm_v (fun _ h => by cases h) (fun _ h => by cases h) (fun ρ => ⟨_, rfl⟩)
theorem calm_fieldAddr {P : Program} {d s f p g : _} {x : Operand} {ty : TypeId} {af : _} : Calm P { dst := d, op := .fieldAddr s x f, type := ty, pos := p, after := af, guard := g } := calm_v (fun _ h => by cases h) (fun _ h => by cases h) (fun ρ => ⟨_, rfl⟩)
theorem calm_indexAddr {P : Program} {d s p g : _} {x y : Operand} {ty : TypeId} {af : _} : Calm P { dst := d, op := .indexAddr s x y, type := ty, pos := p, after := af, guard := g } := calm_v (fun _ h => by cases h) (fun _ h => by cases h) (fun ρ => ⟨_, rfl⟩)
theorem calm_move {P : Program} {d p g : _} {x : Operand} {ty : TypeId} {af : _} : Calm P { dst := d, op := .move x, type := ty, pos := p, after := af, guard := g } := ⟨about_no (fun _ h => by cases h), (fun _ h => by cases h), fun ρ w => .inl ⟨ρ x, w, rfl⟩⟩
theorem calm_pick {P : Program} {d p g : _} {c x y : Operand} {ty : TypeId} {af : _} : Calm P { dst := d, op := .pick c x y, type := ty, pos := p, after := af, guard := g } := calm_v (fun _ h => by cases h) (fun _ h => by cases h) (fun ρ => ⟨do pure (if ← asBool (ρ c) then ρ x else ρ y), by
  unfold execOp
  simp only [bind_assoc, pure_bind]⟩)
theorem calm_len {P : Program} {d p g : _} {x : Operand} {ts : Array TypeId} {ty : TypeId} {af : _} : Calm P { dst := d, op := .call { callee := .builtin .len, args := #[x], argTypes := ts }, type := ty, pos := p, after := af, guard := g } :=
  ⟨fun w ρ => by simp [Oper.about, resolve, Target.leads], (fun _ h => by cases h), fun ρ w => by
    have e : execOp ρ { dst := d, op := .call { callee := .builtin .len, args := #[x], argTypes := ts }, type := ty, pos := p, after := af, guard := g } = (do pure (.value (← Builtin.len_ ts ty #[ρ x]))) := by
      simp [execOp, resolve, invoke, builtin]
    rw [e]
    exact val_run _⟩
/-- Only where it comes to its end. -/
def OnlyN (Q : Exit → Act → World → Prop) : Exit → Act → World → Prop
  | .normal, a, w => Q .normal a w
  | _, _, _ => False
theorem OnlyN.out {Q : Exit → Act → World → Prop} {a : Act} {w : World} (h : OnlyN Q .normal a w) : Q .normal a w := h
theorem OnlyN.mk {Q : Exit → Act → World → Prop} {a : Act} {w : World} (h : Q .normal a w) : OnlyN Q .normal a w := h
theorem wpOpIn_of_calm {F : Fence} {n : Nat} {P : Program} {ops : Array Oper} {Q : Exit → Act → World → Prop} {i : Nat} {K K' : Act → World → Prop} {a : Act} {w : World} (hc : ∀ o, ops[i]? = some o → Calm P o) (hK : ∀ a w, K a w → K' a w)
    (h : wpOp P ops (OnlyN Q) i K a w) : wpOpIn F n P ops Q i K' a w := by
  unfold wpOp at h
  unfold wpOpIn
  cases ho : ops[i]? with
  | none => rw [ho] at h; exact hK _ _ h
  | some o =>
    rw [ho] at h
    have C := hc o ho
    dsimp only at h ⊢
    have hab : ∀ f, o.about P w a.eval = some f → F.fn f := fun f hf => by rw [C.ab] at hf; cases hf
    by_cases hw : Region.wanted o (yielded ops a.tmps) = true
    · rw [if_pos hw] at h ⊢
      rcases h with h | ⟨_, a', w', h⟩
      · refine ⟨hab, ?_⟩
        rw [Oper.semAt_plain F _ o C.nd]
        unfold Oper.wp at h
        rcases C.val a.eval w with ⟨v, w', e⟩ | ⟨x, w', e⟩
        · rw [e] at h ⊢
          exact hK _ _ h
        · rw [e] at h ⊢
          cases x <;> exact (h : False).elim
      · exact (h : False).elim
    · rw [if_neg hw] at h ⊢
      exact ⟨hab, hK _ _ h⟩
theorem wpAnyIn_of_held {F : Fence} {n : Nat} {P : Program} {md : Region.Mode} {ops : Array Oper} {Q : Exit → Act → World → Prop} {S : World → Prop} (hc : ∀ o, o ∈ ops.toList → Calm P o) :
    ∀ (fuel : Nat) (listed : Array Bool) (a : Act) (w : World), wpAnyH P md ops (OnlyN Q) S fuel listed a w → wpAnyIn F n P md ops Q fuel listed a w
  | 0, _, _, _, h => h
  | fuel + 1, _, _, _, h => ⟨h.1, fun i hi => wpOpIn_of_calm (fun o ho => hc o (by
      obtain ⟨hl, e⟩ := Array.getElem?_eq_some_iff.1 ho
      rw [← e]
      simp)) (fun a' w' h' => wpAnyIn_of_held hc fuel _ a' w' h'.2) (h.2 i hi)⟩
theorem wpIn_region_held {F : Fence} {n : Nat} {P : Program} {ops : Array Oper} {Q : Exit → Act → World → Prop} {S : World → Prop} {id : Nat} {a : Act} {w : World} (hm : P.follows .mixedOrders = true) (hc : ∀ o, o ∈ ops.toList → Calm P o) (hS : S w.drew)
    (h : S w.drew → wpAnyH P .any ops (OnlyN Q) S ops.size (Array.replicate ops.size false) a w.drew) : (Code.region id ops true).wpIn F n P Q a w :=
  wpIn_region_any hm (wpAnyIn_of_held hc _ _ _ _ (h hS))
theorem calm_cons {P : Program} {o : Oper} {l : List Oper} (h : Calm P o) (hl : ∀ o, o ∈ l → Calm P o) : ∀ x, x ∈ o :: l → Calm P x := fun x hx => by
  rcases List.mem_cons.1 hx with rfl | hx
  · exact h
  · exact hl x hx
theorem calm_nil {P : Program} : ∀ x, x ∈ ([] : List Oper) → Calm P x := fun x hx => by cases hx
end Go.Proofs.Ytaaflkjdcablcaa
