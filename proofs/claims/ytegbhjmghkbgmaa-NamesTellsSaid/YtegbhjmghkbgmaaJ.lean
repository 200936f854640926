/- put: a number's bytes into a row. -/
import Derived.Test.YtegbhjmghkbgmaaI
namespace Go.Proofs.Ytegbhjmghkbgmaa
open Go.RowKit Go.Shelf
set_option linter.unusedVariables false
set_option linter.unusedSimpArgs false
attribute [local go_sem] Oper.semAt_some
def PS (w : World) (g n : Nat) (f : Nat → Nat) (W : World) : Prop := BR W g n f ∧ w.grownBy W (some g)
theorem PS.keep {w W W' : World} {g n : Nat} {f : Nat → Nat} (h : PS w g n f W) (hb : Below W.heap.size W W') : PS w g n f W' := ⟨h.1.keep hb, h.2.trans ⟨hb.os, hb.tape, hb.output, hb.size, fun k hk _ => hb.block k hk⟩⟩
theorem PS.drew {w W : World} {g n : Nat} {f : Nat → Nat} (h : PS w g n f W) : PS w g n f W.drew := ⟨h.1, h.2.trans ⟨rfl, rfl, rfl, Nat.le_refl _, fun _ _ _ => rfl⟩⟩
theorem PS.put {w W : World} {g n : Nat} {f h : Nat → Nat} (hP : PS w g n f W) : PS w g n h (W.setRow g (rowB h n).toArray) := ⟨setRow_heap W g _ (rowB h n).toArray 5 (0, 0) hP.1, hP.2.trans (grown_row W g _)⟩
theorem copy_wp {o : Oper} {a : Act} {W : World} {K : Act → World → Prop} {Q : Exit → Act → World → Prop} {x y : Operand} {v u v' : Value} {W' : World} (ho : o.op = .call { callee := .builtin .copy, args := #[x, y], argTypes := #[27, 27] }) (hx : a.eval x = v) (hy : a.eval y = u)
    (hr : (Builtin.copy_ #[27, 27] o.type #[v, u]).run Try.prog W = .ok v' W') (hK : K (a.put o.dst v') W') : Oper.wp Try.prog o a W K Q := by
  have e : (execOp a.eval o).run Try.prog W = .ok (.value v') W' := by
    unfold execOp
    rw [ho]
    simp [resolve, invoke, builtin, hx, hy, hr, Result.andThen]
  unfold Oper.wp
  rw [e]
  exact hK
set_option maxRecDepth 100000 in
set_option maxHeartbeats 4000000 in
theorem put_any (g n cap : Nat) (f : Nat → Nat) (o s x : Nat) (h1 : 1 ≤ s) (h8 : s ≤ 8) (ho : o + s ≤ n) (hn : n ≤ 100000) (hc : n ≤ cap) (hc2 : cap ≤ 100000) (w : World) (h : BR w g n f) :
    Calls Try.prog 18 #[.slice (some ⟨g, 0, none⟩) n cap, .int .i64 (o : Nat), .int .u64 (x : Nat), .int .i64 (s : Nat)] w fun e W' => e = .returned (.tuple #[]) ∧ BR W' g n (putF f o s x) ∧ w.grownBy W' (some g) := by
  have HS := Lib.hid (show PS w g n f w from ⟨h, ⟨rfl, rfl, rfl, Nat.le_refl _, fun _ _ _ => rfl⟩⟩)
  have HB := Lib.hid (fun W => rbytes_any x (s : Int) W)
  rw [hN_s s h1 h8] at HB
  have HSP := Lib.hid (splice f n o s x ho)
  clear h
  have hw : IntKind.i64.wrap ((o : Int) + (s : Int)) = (o : Int) + (s : Int) := IntWalk.i64_in _ (by have := hn; omega)
  have ht : ((o : Int) + (s : Int)).toNat = o + s := by omega
  have hi0 : 0 ≤ (o : Int) + (s : Int) := by omega
  have hi1 : (o : Int) + (s : Int) ≤ (cap : Int) := by omega
  have hne : ¬ cap = o := by omega
  go_enter Try.func18, Try.ntmps18
  refine wp_region_noPanic ?_
  refine wp_region_held_drew (S := fun W : World => ∃ h, PS w g n h W) (by kernel_rfl) ?_ (fun hHeld => ?_)
  · exact ⟨f, HS.out.drew⟩
  have HS2 := Lib.hid HS.out.drew
  clear HS
  generalize World.drew _ = W2 at hHeld HS2 ⊢
  refine wpAnyH_take (i := 0) (v := ?_) rfl (by kernel_rfl) (by kernel_rfl) (by kernel_rfl) (fun _ _ _ h => h) (Or.inl ⟨by kernel_rfl, ?_⟩) (by assumption) ?_
  rotate_left
  · intro wv hSw
    go_simp
    try with_reducible rfl
  simp only [Act.put, List.setIfInBounds_toArray, List.set_cons_zero, List.set_cons_succ, List.getElem_toArray, List.getElem_cons_succ, List.getElem_cons_zero]
  refine wpAnyH_take (i := 1) (v := ?_) rfl (by kernel_rfl) (by kernel_rfl) (by kernel_rfl) (fun _ _ _ h => h) (Or.inl ⟨by kernel_rfl, ?_⟩) (by assumption) ?_
  rotate_left
  · intro wv hSw
    go_simp
    try with_reducible rfl
  simp only [Act.put, List.setIfInBounds_toArray, List.set_cons_zero, List.set_cons_succ, List.getElem_toArray, List.getElem_cons_succ, List.getElem_cons_zero]
  refine wpAnyH_take (i := 2) (v := ?_) rfl (by kernel_rfl) (by kernel_rfl) (by kernel_rfl) (fun _ _ _ h => h) (Or.inl ⟨by kernel_rfl, ?_⟩) (by assumption) ?_
  rotate_left
  · intro wv hSw
    go_simp
    try with_reducible rfl
  simp only [Act.put, List.setIfInBounds_toArray, List.set_cons_zero, List.set_cons_succ, List.getElem_toArray, List.getElem_cons_succ, List.getElem_cons_zero]
  refine wpAnyH_take (i := 3) (v := ?_) rfl (by kernel_rfl) (by kernel_rfl) (by kernel_rfl) (fun _ _ _ h => h) (Or.inl ⟨by kernel_rfl, ?_⟩) (by assumption) ?_
  rotate_left
  · intro wv hSw
    go_simp
    try with_reducible rfl
  simp only [Act.put, List.setIfInBounds_toArray, List.set_cons_zero, List.set_cons_succ, List.getElem_toArray, List.getElem_cons_succ, List.getElem_cons_zero]
  refine wpAnyH_take (i := 4) (v := ?_) rfl (by kernel_rfl) (by kernel_rfl) (by kernel_rfl) (fun _ _ _ h => h) (Or.inl ⟨by kernel_rfl, ?_⟩) (by assumption) ?_
  rotate_left
  · intro wv hSw
    go_simp
    try with_reducible rfl
  simp only [Act.put, List.setIfInBounds_toArray, List.set_cons_zero, List.set_cons_succ, List.getElem_toArray, List.getElem_cons_succ, List.getElem_cons_zero]
  refine wpAnyH_take (i := 5) (v := ?_) rfl (by kernel_rfl) (by kernel_rfl) (by kernel_rfl) (fun _ _ _ h => h) (Or.inl ⟨by kernel_rfl, ?_⟩) (by assumption) ?_
  rotate_left
  · intro wv hSw
    go_simp
    try with_reducible rfl
  simp only [Act.put, List.setIfInBounds_toArray, List.set_cons_zero, List.set_cons_succ, List.getElem_toArray, List.getElem_cons_succ, List.getElem_cons_zero]
  refine wpAnyH_take (i := 6) (v := ?_) rfl (by kernel_rfl) (by kernel_rfl) (by kernel_rfl) (fun _ _ _ h => h) (Or.inl ⟨by kernel_rfl, ?_⟩) (by assumption) ?_
  rotate_left
  · intro wv hSw
    go_simp
    try with_reducible rfl
  simp only [Act.put, List.setIfInBounds_toArray, List.set_cons_zero, List.set_cons_succ, List.getElem_toArray, List.getElem_cons_succ, List.getElem_cons_zero]
  refine wpAnyH_take (i := 7) (v := ?_) rfl (by kernel_rfl) (by kernel_rfl) (by kernel_rfl) (fun _ _ _ h => h) (Or.inl ⟨by kernel_rfl, ?_⟩) (by assumption) ?_
  rotate_left
  · intro wv hSw
    go_simp
    try with_reducible rfl
  simp only [Act.put, List.setIfInBounds_toArray, List.set_cons_zero, List.set_cons_succ, List.getElem_toArray, List.getElem_cons_succ, List.getElem_cons_zero]
  refine wpAnyH_ready (rs := [8]) (by kernel_rfl) (by simp) ?_
  refine AllReadyH.cons rfl (fun K hK => ?_) AllReadyH.nil
  go_simp
  go_at_call 33
  refine (HB.out _).mono ?_
  rintro e W4 ⟨v4, rfl, hown4, hb⟩
  obtain ⟨a4, c4, rfl⟩ := owns_slice hown4
  obtain ⟨b4, o4, rfl, hc4⟩ := RX.own hown4 (by rw [bsV_len]; omega)
  have HC := Lib.hid hc4
  clear hown4
  have HS4 := Lib.hid (HS2.out.keep hb)
  refine hK.out _ _ ⟨f, HS4.out⟩ (fun hHeld2 => ?_)
  clear hK K hHeld hb hc4
  have hHeld := hHeld2
  clear hHeld2
  try simp only [Act.put, List.setIfInBounds_toArray, List.set_cons_zero, List.set_cons_succ, List.getElem_toArray, List.getElem_cons_succ, List.getElem_cons_zero]
  clear HS2
  have hsrc : ∀ j v, (upto (fun j => Value.int .u8 (byN x j : Nat)) s)[j]? = some v → W4.cell? ((⟨b4, o4, none⟩ : Addr).add j) = some v := fun j v hv => by
    rw [Addr.add_lit]
    exact HC.out j v hv
  have hrun := run_copy_row (P := Try.prog) W4 27 27 3 5 g o s (cap - o) ⟨b4, o4, none⟩ s c4 (rowB f n).toArray 5 (upto (fun j => Value.int .u8 (byN x j : Nat)) s) Try.underlying27 info5s HS4.out.1 (by rw [upto_length]; exact (Nat.min_self s).symm) hsrc (by rw [upto_length]; simp [rowB_len]; omega) (ones_by x s)
  rw [upto_length, HSP.out] at hrun
  have HRUN := Lib.hid hrun
  clear hrun hsrc
  have HF := Lib.hid (HS4.out.put (h := putF f o s x))
  refine wpAnyH_ready (rs := [9]) (by kernel_rfl) (by simp) ?_
  refine AllReadyH.cons rfl (fun K hK => ?_) AllReadyH.nil
  rw [if_pos (by kernel_rfl)]
  refine copy_wp (x := .tmp 13) (y := .tmp 16) rfl rfl rfl HRUN.out ?_
  refine hK.out _ _ ⟨_, HF.out⟩ (fun hHeld2 => ?_)
  clear hK K hHeld HS4
  have hHeld := hHeld2
  clear hHeld2
  try simp only [Act.put, List.setIfInBounds_toArray, List.set_cons_zero, List.set_cons_succ, List.getElem_toArray, List.getElem_cons_succ, List.getElem_cons_zero]
  refine wpAnyH_done (by kernel_rfl) ?_ _
  refine NoPanic.normal ?_
  generalize World.setRow _ _ _ = W9 at HF ⊢
  go_wp2_with fail
  go_end0
  exact ⟨rfl, HF.out⟩

end Go.Proofs.Ytegbhjmghkbgmaa
