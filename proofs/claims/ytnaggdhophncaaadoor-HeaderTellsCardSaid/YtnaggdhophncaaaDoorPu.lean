/- header.put, header.number. -/
import Derived.Test.YtnaggdhophncaaaDoorBa
import Derived.Laws.CopyRow
namespace Go.Proofs.YtnaggdhophncaaaDoor
open Go.RowKit Go.Shelf
set_option linter.unusedVariables false
set_option linter.unusedSimpArgs false
attribute [local go_sem] Oper.semAt_some
/-- A row of bytes in a block of its own. -/
def rowB (f : Nat → Nat) (n : Nat) : List Value := upto (fun j => Value.int .u8 (f j : Nat)) n
def BR (W : World) (g n : Nat) (f : Nat → Nat) : Prop := W.heap[g]? = some (.cells (rowB f n).toArray 5 (0, 0))
theorem rowB_at (f : Nat → Nat) (n j : Nat) (h : j < n) : (rowB f n)[j]? = some (.int .u8 (f j : Nat)) := by simp [rowB, upto, h]
theorem rowB_len (f : Nat → Nat) (n : Nat) : (rowB f n).length = n := upto_length _ _
theorem rowB_congr {f h : Nat → Nat} {n : Nat} (e : ∀ j, j < n → f j = h j) : rowB f n = rowB h n := by
  unfold rowB upto
  exact List.map_congr_left fun j hj => by rw [e j (List.mem_range.1 hj)]
theorem BR.c {W : World} {g n : Nat} {f : Nat → Nat} (h : BR W g n f) (j : Nat) (hj : j < n) : W.cell? ⟨g, j, none⟩ = some (.int .u8 (f j : Nat)) := by
  have h' : W.heap[g]? = _ := h
  have h2 := rowB_at f n j hj
  unfold World.cell?
  rw [h']
  simpa using h2
theorem BR.keep {W W' : World} {g n : Nat} {f : Nat → Nat} (h : BR W g n f) (hb : Below W.heap.size W W') : BR W' g n f := (hb.block g (Array.getElem?_eq_some_iff.1 h).1).trans h
theorem BR.congr {W : World} {g n : Nat} {f h : Nat → Nat} (hb : BR W g n f) (e : ∀ j, j < n → f j = h j) : BR W g n h := by
  unfold BR at *
  rw [← rowB_congr e]
  exact hb
/-- A number's bytes put at a place. -/
def putF (f : Nat → Nat) (o s x : Nat) (j : Nat) : Nat := if o ≤ j ∧ j < o + s then byN x (j - o) else f j
theorem splice (f : Nat → Nat) (n o s x : Nat) (h : o + s ≤ n) : (rowB f n).take o ++ upto (fun j => Value.int .u8 (byN x j : Nat)) s ++ (rowB f n).drop (o + s) = rowB (putF f o s x) n := by
  apply List.ext_getElem?
  intro j
  by_cases hj : j < n
  · rw [rowB_at _ _ _ hj]
    unfold putF
    by_cases h1 : j < o
    · rw [List.append_assoc, List.getElem?_append_left (by rw [List.length_take, rowB_len]; omega), List.getElem?_take_of_lt h1, rowB_at _ _ _ hj, if_neg (by omega)]
    · by_cases h2 : j < o + s
      · rw [List.getElem?_append_left (by rw [List.length_append, List.length_take, rowB_len, upto_length]; omega), List.getElem?_append_right (by rw [List.length_take, rowB_len]; omega), List.length_take, rowB_len, Nat.min_eq_left (by omega), if_pos ⟨by omega, h2⟩]
        simp [upto, show j - o < s by omega]
      · rw [List.getElem?_append_right (by rw [List.length_append, List.length_take, rowB_len, upto_length]; omega), List.length_append, List.length_take, rowB_len, upto_length, Nat.min_eq_left (by omega), List.getElem?_drop, show o + s + (j - (o + s)) = j by omega, rowB_at _ _ _ hj, if_neg (by omega)]
  · rw [List.getElem?_eq_none (by rw [List.length_append, List.length_append, List.length_take, List.length_drop, rowB_len, upto_length]; omega), List.getElem?_eq_none (by rw [rowB_len]; omega)]
theorem info5s : (Tryd.prog.info? 5).map (·.size) = some 1 := by kernel_rfl
theorem hN_s (s : Nat) (h1 : 1 ≤ s) (h8 : s ≤ 8) : hN (s : Int) = s := by unfold hN hI; split <;> (try split) <;> omega
theorem ones_by (x s : Nat) : ∀ v ∈ upto (fun j => Value.int .u8 (byN x j : Nat)) s, v.oneCell' = true := fun v hv => by
  unfold upto at hv
  obtain ⟨j, _, rfl⟩ := List.mem_map.1 hv
  rfl
theorem grown_row (W : World) (g : Nat) (c : Array Value) : W.grownBy (W.setRow g c) (some g) := ⟨rfl, rfl, rfl, by simp [World.setRow], fun k _ hk => setRow_other _ _ _ _ (fun e => hk (by rw [e]))⟩
theorem grown_below' {w W : World} (hb : Below w.heap.size w W) (r : Option Nat) : w.grownBy W r := ⟨hb.os, hb.tape, hb.output, hb.size, fun k hk _ => hb.block k hk⟩
def PS (w : World) (g n : Nat) (f : Nat → Nat) (W : World) : Prop := BR W g n f ∧ w.grownBy W (some g)
theorem PS.keep {w W W' : World} {g n : Nat} {f : Nat → Nat} (h : PS w g n f W) (hb : Below W.heap.size W W') : PS w g n f W' := ⟨h.1.keep hb, h.2.trans ⟨hb.os, hb.tape, hb.output, hb.size, fun k hk _ => hb.block k hk⟩⟩
theorem PS.drew {w W : World} {g n : Nat} {f : Nat → Nat} (h : PS w g n f W) : PS w g n f W.drew := ⟨h.1, h.2.trans ⟨rfl, rfl, rfl, Nat.le_refl _, fun _ _ _ => rfl⟩⟩
theorem PS.put {w W : World} {g n : Nat} {f h : Nat → Nat} (hP : PS w g n f W) : PS w g n h (W.setRow g (rowB h n).toArray) := ⟨setRow_heap W g _ (rowB h n).toArray 5 (0, 0) hP.1, hP.2.trans (grown_row W g _)⟩
theorem copy_wp {o : Oper} {a : Act} {W : World} {K : Act → World → Prop} {Q : Exit → Act → World → Prop} {x y : Operand} {v u v' : Value} {W' : World} (ho : o.op = .call { callee := .builtin .copy, args := #[x, y], argTypes := #[22, 22] }) (hx : a.eval x = v) (hy : a.eval y = u)
    (hr : (Builtin.copy_ #[22, 22] o.type #[v, u]).run Tryd.prog W = .ok v' W') (hK : K (a.put o.dst v') W') : Oper.wp Tryd.prog o a W K Q := by
  have e : (execOp a.eval o).run Tryd.prog W = .ok (.value v') W' := by
    unfold execOp
    rw [ho]
    simp [resolve, invoke, builtin, hx, hy, hr, Result.andThen]
  unfold Oper.wp
  rw [e]
  exact hK
set_option maxRecDepth 100000 in
set_option maxHeartbeats 4000000 in
theorem put_any (g n cap : Nat) (f : Nat → Nat) (o s x : Nat) (h1 : 1 ≤ s) (h8 : s ≤ 8) (ho : o + s ≤ n) (hn : n ≤ 100000) (hc : n ≤ cap) (hc2 : cap ≤ 100000) (w : World) (h : BR w g n f) :
    Calls Tryd.prog 31 #[.slice (some ⟨g, 0, none⟩) n cap, .int .i64 (o : Nat), .int .i64 (s : Nat), .int .u64 (x : Nat)] w fun e W' => e = .returned (.tuple #[]) ∧ BR W' g n (putF f o s x) ∧ w.grownBy W' (some g) := by
  have HS := Lib.hid (show PS w g n f w from ⟨h, ⟨rfl, rfl, rfl, Nat.le_refl _, fun _ _ _ => rfl⟩⟩)
  have HB := Lib.hid (fun W => bytes_any x (s : Int) W)
  rw [hN_s s h1 h8] at HB
  have HSP := Lib.hid (splice f n o s x ho)
  clear h
  have hw : IntKind.i64.wrap ((o : Int) + (s : Int)) = (o : Int) + (s : Int) := IntWalk.i64_in _ (by have := hn; omega)
  have ht : ((o : Int) + (s : Int)).toNat = o + s := by omega
  have hi0 : 0 ≤ (o : Int) + (s : Int) := by omega
  have hi1 : (o : Int) + (s : Int) ≤ (cap : Int) := by omega
  have hne : ¬ cap = o := by omega
  go_enter Tryd.func31, Tryd.ntmps31
  refine wp_region_noPanic ?_
  refine wp_region_held_drew (S := fun W : World => ∃ h, PS w g n h W) (by kernel_rfl) ?_ (fun hHeld => ?_)
  · exact ⟨f, HS.out.drew⟩
  have HS2 := Lib.hid HS.out.drew
  clear HS
  generalize World.drew _ = W2 at hHeld HS2 ⊢
  refine wpAnyH_take (i := 0) (v := ?_) rfl (by kernel_rfl) (by kernel_rfl) (by kernel_rfl) (fun _ _ _ h => h) (Or.inl ⟨by kernel_rfl, ?_⟩) (by assumption) ?_
  rotate_left
  · intro wv hSw
    go_simp
    try with_reducible rfl
  simp only [Act.put, List.setIfInBounds_toArray, List.set_cons_zero, List.set_cons_succ, List.getElem_toArray, List.getElem_cons_succ, List.getElem_cons_zero]
  refine wpAnyH_take (i := 1) (v := ?_) rfl (by kernel_rfl) (by kernel_rfl) (by kernel_rfl) (fun _ _ _ h => h) (Or.inl ⟨by kernel_rfl, ?_⟩) (by assumption) ?_
  rotate_left
  · intro wv hSw
    go_simp
    try with_reducible rfl
  simp only [Act.put, List.setIfInBounds_toArray, List.set_cons_zero, List.set_cons_succ, List.getElem_toArray, List.getElem_cons_succ, List.getElem_cons_zero]
  refine wpAnyH_take (i := 2) (v := ?_) rfl (by kernel_rfl) (by kernel_rfl) (by kernel_rfl) (fun _ _ _ h => h) (Or.inl ⟨by kernel_rfl, ?_⟩) (by assumption) ?_
  rotate_left
  · intro wv hSw
    go_simp
    try with_reducible rfl
  simp only [Act.put, List.setIfInBounds_toArray, List.set_cons_zero, List.set_cons_succ, List.getElem_toArray, List.getElem_cons_succ, List.getElem_cons_zero]
  refine wpAnyH_take (i := 3) (v := ?_) rfl (by kernel_rfl) (by kernel_rfl) (by kernel_rfl) (fun _ _ _ h => h) (Or.inl ⟨by kernel_rfl, ?_⟩) (by assumption) ?_
  rotate_left
  · intro wv hSw
    go_simp
    try with_reducible rfl
  simp only [Act.put, List.setIfInBounds_toArray, List.set_cons_zero, List.set_cons_succ, List.getElem_toArray, List.getElem_cons_succ, List.getElem_cons_zero]
  refine wpAnyH_take (i := 4) (v := ?_) rfl (by kernel_rfl) (by kernel_rfl) (by kernel_rfl) (fun _ _ _ h => h) (Or.inl ⟨by kernel_rfl, ?_⟩) (by assumption) ?_
  rotate_left
  · intro wv hSw
    go_simp
    try with_reducible rfl
  simp only [Act.put, List.setIfInBounds_toArray, List.set_cons_zero, List.set_cons_succ, List.getElem_toArray, List.getElem_cons_succ, List.getElem_cons_zero]
  refine wpAnyH_take (i := 5) (v := ?_) rfl (by kernel_rfl) (by kernel_rfl) (by kernel_rfl) (fun _ _ _ h => h) (Or.inl ⟨by kernel_rfl, ?_⟩) (by assumption) ?_
  rotate_left
  · intro wv hSw
    go_simp
    try with_reducible rfl
  simp only [Act.put, List.setIfInBounds_toArray, List.set_cons_zero, List.set_cons_succ, List.getElem_toArray, List.getElem_cons_succ, List.getElem_cons_zero]
  refine wpAnyH_take (i := 6) (v := ?_) rfl (by kernel_rfl) (by kernel_rfl) (by kernel_rfl) (fun _ _ _ h => h) (Or.inl ⟨by kernel_rfl, ?_⟩) (by assumption) ?_
  rotate_left
  · intro wv hSw
    go_simp
    try with_reducible rfl
  simp only [Act.put, List.setIfInBounds_toArray, List.set_cons_zero, List.set_cons_succ, List.getElem_toArray, List.getElem_cons_succ, List.getElem_cons_zero]
  refine wpAnyH_take (i := 7) (v := ?_) rfl (by kernel_rfl) (by kernel_rfl) (by kernel_rfl) (fun _ _ _ h => h) (Or.inl ⟨by kernel_rfl, ?_⟩) (by assumption) ?_
  rotate_left
  · intro wv hSw
    go_simp
    try with_reducible rfl
  simp only [Act.put, List.setIfInBounds_toArray, List.set_cons_zero, List.set_cons_succ, List.getElem_toArray, List.getElem_cons_succ, List.getElem_cons_zero]
  refine wpAnyH_ready (rs := [8]) (by kernel_rfl) (by simp) ?_
  refine AllReadyH.cons rfl (fun K hK => ?_) AllReadyH.nil
  go_simp
  go_at_call 36
  refine (HB.out _).mono ?_
  rintro e W4 ⟨rfl, hc4, hb⟩
  have HC := Lib.hid hc4
  have HS4 := Lib.hid (HS2.out.keep hb)
  refine hK.out _ _ ⟨f, HS4.out⟩ (fun hHeld2 => ?_)
  clear hK K hHeld hb hc4
  have hHeld := hHeld2
  clear hHeld2
  try simp only [Act.put, List.setIfInBounds_toArray, List.set_cons_zero, List.set_cons_succ, List.getElem_toArray, List.getElem_cons_succ, List.getElem_cons_zero]
  generalize W2.heap.size = b4 at HC ⊢
  clear HS2
  have hsrc : ∀ j v, (upto (fun j => Value.int .u8 (byN x j : Nat)) s)[j]? = some v → W4.cell? ((⟨b4, 0, none⟩ : Addr).add j) = some v := fun j v hv => by
    have hj : j < s := by
      by_cases hj : j < s
      · exact hj
      · rw [List.getElem?_eq_none (by rw [upto_length]; omega)] at hv; cases hv
    have := HC.out j hj
    rw [Addr.add_lit, Nat.zero_add, this]
    simpa [upto, hj] using hv
  have hrun := run_copy_row (P := Tryd.prog) W4 22 22 3 5 g o s (cap - o) ⟨b4, 0, none⟩ s s (rowB f n).toArray 5 (upto (fun j => Value.int .u8 (byN x j : Nat)) s) Tryd.underlying22 info5s HS4.out.1 (by rw [upto_length]; exact (Nat.min_self s).symm) hsrc (by rw [upto_length]; simp [rowB_len]; omega) (ones_by x s)
  rw [upto_length, HSP.out] at hrun
  have HRUN := Lib.hid hrun
  clear hrun hsrc
  have HF := Lib.hid (HS4.out.put (h := putF f o s x))
  refine wpAnyH_ready (rs := [9]) (by kernel_rfl) (by simp) ?_
  refine AllReadyH.cons rfl (fun K hK => ?_) AllReadyH.nil
  rw [if_pos (by kernel_rfl)]
  refine copy_wp (x := .tmp 13) (y := .tmp 16) rfl rfl rfl HRUN.out ?_
  refine hK.out _ _ ⟨_, HF.out⟩ (fun hHeld2 => ?_)
  clear hK K hHeld HS4
  have hHeld := hHeld2
  clear hHeld2
  try simp only [Act.put, List.setIfInBounds_toArray, List.set_cons_zero, List.set_cons_succ, List.getElem_toArray, List.getElem_cons_succ, List.getElem_cons_zero]
  refine wpAnyH_done (by kernel_rfl) ?_ _
  refine NoPanic.normal ?_
  generalize World.setRow _ _ _ = W9 at HF ⊢
  go_wp2_with fail
  go_end0
  exact ⟨rfl, HF.out⟩
end Go.Proofs.YtnaggdhophncaaaDoor
