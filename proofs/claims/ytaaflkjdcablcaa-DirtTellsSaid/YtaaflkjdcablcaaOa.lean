/- DirtOne: what its loop puts together. -/
import Derived.Test.YtaaflkjdcablcaaBk
namespace Go.Proofs.Ytaaflkjdcablcaa
open Go.RowKit Go.Shelf
set_option linter.unusedVariables false
set_option linter.unusedSimpArgs false
attribute [local go_sem] Oper.semAt_some
/-- A range, and what it is cut into. -/
def pcs (at_ : Nat) (x : Rg) : List Rg := [x] ++ (if x.1 < at_ ∧ at_ ≤ x.2 then [(at_, x.2), (x.1, at_ - 1)] else [])
def backL (at_ : Nat) (zs : List Rg) (j : Nat) : List Rg := ((zs.drop j).reverse).flatMap (pcs at_)
theorem backL_end (at_ : Nat) (zs : List Rg) : backL at_ zs zs.length = [] := by simp [backL]
theorem drop_at (zs : List Rg) (k : Nat) (hk : k < zs.length) : zs.drop k = rAt zs k :: zs.drop (k + 1) := by
  rw [List.drop_eq_getElem_cons hk]
  congr 1
  unfold rAt zl zh
  simp [List.getD, hk]
theorem backL_succ (at_ : Nat) (zs : List Rg) (k : Nat) (hk : k < zs.length) : backL at_ zs k = backL at_ zs (k + 1) ++ pcs at_ (rAt zs k) := by
  unfold backL
  rw [drop_at zs k hk]
  simp
theorem pcs_has (at_ : Nat) (x : Rg) (a : Nat) : hasL (pcs at_ x) a = inR a x := by
  unfold pcs
  rw [hasL_app, hasL_one]
  split
  · rename_i h
    cases hx : inR a x
    · rw [Bool.false_or, Bool.eq_false_iff]
      intro e
      have hn : ¬ (x.1 ≤ a ∧ a ≤ x.2) := fun e => by
        have : inR a x = true := by simp only [inR, Bool.and_eq_true, decide_eq_true_eq]; exact e
        rw [this] at hx; cases hx
      unfold hasL at e
      simp only [List.any_cons, List.any_nil, inR, Bool.or_false, Bool.or_eq_true, Bool.and_eq_true, decide_eq_true_eq] at e
      omega
    · rfl
  · simp [hasL]
theorem flat_has (at_ : Nat) (a : Nat) : ∀ l : List Rg, hasL (l.flatMap (pcs at_)) a = hasL l a
  | [] => rfl
  | x :: l => by rw [List.flatMap_cons, hasL_app, pcs_has, flat_has at_ a l, show x :: l = [x] ++ l from rfl, hasL_app, hasL_one]
theorem backL_has (at_ : Nat) (zs : List Rg) (a : Nat) : hasL (backL at_ zs 0) a = hasL zs a := by
  unfold backL
  rw [flat_has, List.drop_zero]
  exact hasL_perm (List.reverse_perm zs) a
theorem pcs_ok {at_ : Nat} (ha : U at_) {x : Rg} (hx : U x.1 ∧ U x.2) : OkL (pcs at_ x) := by
  unfold pcs
  intro r hr
  unfold U at *
  split at hr
  · simp only [List.mem_append, List.mem_cons, List.not_mem_nil, or_false] at hr
    rcases hr with rfl | rfl | rfl
    · exact hx
    · exact ⟨ha, hx.2⟩
    · exact ⟨hx.1, by dsimp only; omega⟩
  · simp only [List.append_nil, List.mem_cons, List.not_mem_nil, or_false] at hr
    subst hr
    exact hx
theorem backL_ok {at_ : Nat} (ha : U at_) {zs : List Rg} (hz : OkL zs) (j : Nat) : OkL (backL at_ zs j) := by
  intro r hr
  unfold backL at hr
  obtain ⟨x, hx, h⟩ := List.mem_flatMap.1 hr
  exact pcs_ok ha (hz x (List.mem_of_mem_drop (List.mem_reverse.1 hx))) r h
theorem pcs_len (at_ : Nat) (x : Rg) : (pcs at_ x).length ≤ 3 := by
  unfold pcs
  split <;> simp
theorem flat_len (at_ : Nat) : ∀ l : List Rg, (l.flatMap (pcs at_)).length ≤ 3 * l.length
  | [] => by simp
  | x :: l => by
    have h1 := flat_len at_ l
    have h2 := pcs_len at_ x
    rw [List.flatMap_cons, List.length_append, List.length_cons]
    omega
theorem backL_len (at_ : Nat) (zs : List Rg) (j : Nat) : (backL at_ zs j).length ≤ 3 * zs.length := by
  have h := flat_len at_ (zs.drop j).reverse
  rw [List.length_reverse, List.length_drop] at h
  unfold backL
  omega
theorem cells_new4 (X : World) (x y : Rg) (j : Nat) (u : Value) (hu : (cellsR [x, y])[j]? = some u) : (X.alloc (.cells #[.int .u64 (x.1 : Nat), .int .u64 (x.2 : Nat), .int .u64 (y.1 : Nat), .int .u64 (y.2 : Nat)] 25)).cell? ((⟨X.heap.size, 0, none⟩ : Addr).add j) = some u := (rd2 X x.1 x.2 y.1 y.2).news j u hu
theorem sub_ex (zs z2 : List Rg) : ∃ t, subB zs z2 t := by
  by_cases h : ∀ a, hasL zs a = true → hasL z2 a = true
  · exact ⟨true, fun _ => h, fun _ => rfl⟩
  · exact ⟨false, (fun e => by cases e), fun e => absurd e h⟩
theorem sub_join {zs z2 js ns : List Rg} {t : Bool} (ht : subB zs z2 t) (hj : rightL js = true) (hn : rightL ns = true) (h1 : ∀ x, hasL js x = (hasL zs x || hasL z2 x)) (h2 : ∀ x, hasL ns x = hasL z2 x) : decide (js = ns) = t := by
  cases t
  · refine decide_eq_false fun e => ?_
    have : false = true := ht.2 fun a ha => by
      rw [← h2, ← e, h1, ha]; rfl
    cases this
  · refine same_of hj hn fun x => ?_
    rw [h1, h2]
    cases hx : hasL zs x
    · rfl
    · rw [ht.1 rfl x hx]; rfl
theorem sub_own {zs js : List Rg} {z2 : List Rg} (h1 : ∀ x, hasL js x = (hasL zs x || hasL z2 x)) : subB zs js true := ⟨fun _ a h => by rw [h1, h]; rfl, fun _ => rfl⟩
theorem sub_self (zs : List Rg) : subB zs zs true := ⟨fun _ _ h => h, fun _ => rfl⟩
theorem rw0 (W : World) : RW W none 0 0 [] := ⟨rfl, fun k hk => by simp at hk, by decide, fun r h => by simp at h, fun _ => rfl⟩
end Go.Proofs.Ytaaflkjdcablcaa
