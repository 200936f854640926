/- Comparing symbols; storing one into a row; slices.swapRange. -/
import Derived.Test.YtegbhjmghkbgmaaSb
namespace Go.Proofs.Ytegbhjmghkbgmaa
open Go.RowKit Go.Shelf
set_option linter.unusedVariables false
set_option linter.unusedSimpArgs false
attribute [local go_sem] Oper.semAt_some
def cmpI (x y : Nat) : Int := if x < y then -1 else if y < x then 1 else 0
theorem cmpI_lt {x y : Nat} : cmpI x y < 0 ↔ x < y := by
  unfold cmpI
  split
  · simp [*]
  · split <;> simp [*]
theorem nan_any (x : Nat) (w : World) : Calls Try.prog 40 #[.int .u64 (x : Nat)] w fun e w' => e = .returned (.bool false) ∧ w' = w := by
  go_enter Try.func40, Try.ntmps40
  go_wp2_with fail
  go_ret
  exact ⟨rfl, rfl⟩
theorem cmp32_any (x y : Nat) (w : World) : Calls Try.prog 32 #[.int .u64 (x : Nat), .int .u64 (y : Nat)] w fun e w' => e = .returned (.int .i64 (cmpI x y)) ∧ w' = w := by
  have h1 := Lib.hid (fun w => nan_any x w)
  have h2 := Lib.hid (fun w => nan_any y w)
  by_cases hlt : x < y
  · have hc : cmpI x y = -1 := by unfold cmpI; rw [if_pos hlt]
    rw [hc]
    go_enter Try.func32, Try.ntmps32
    go_wp2_with (first | (go_at_call 40; refine (h1.out _).mono ?_; rintro e w' ⟨rfl, rfl⟩) | (go_at_call 40; refine (h2.out _).mono ?_; rintro e w' ⟨rfl, rfl⟩) | fail)
    go_ret
    exact ⟨rfl, rfl⟩
  by_cases hgt : y < x
  · have hc : cmpI x y = 1 := by unfold cmpI; rw [if_neg hlt, if_pos hgt]
    rw [hc]
    go_enter Try.func32, Try.ntmps32
    go_wp2_with (first | (go_at_call 40; refine (h1.out _).mono ?_; rintro e w' ⟨rfl, rfl⟩) | (go_at_call 40; refine (h2.out _).mono ?_; rintro e w' ⟨rfl, rfl⟩) | fail)
    go_ret
    exact ⟨rfl, rfl⟩
  · have hc : cmpI x y = 0 := by unfold cmpI; rw [if_neg hlt, if_neg hgt]
    rw [hc]
    go_enter Try.func32, Try.ntmps32
    go_wp2_with (first | (go_at_call 40; refine (h1.out _).mono ?_; rintro e w' ⟨rfl, rfl⟩) | (go_at_call 40; refine (h2.out _).mono ?_; rintro e w' ⟨rfl, rfl⟩) | fail)
    go_ret
    exact ⟨rfl, rfl⟩
theorem cmpY_any (s t : Sy) (w : World) : Calls Try.prog 31 #[s.v, t.v] w fun e w' => e = .returned (.int .i64 (cmpI s.2.1 t.2.1)) ∧ Below w.heap.size w w' := by
  have hcon := Lib.hid (fun w => cmp32_any s.2.1 t.2.1 w)
  have HB := Lib.hid (((Below.refl _ w).alloc (Nat.le_refl _) (.cells #[.string s.1, .int .u64 (s.2.1 : Nat), .int .u64 (s.2.2.1 : Nat), .bool s.2.2.2] 42)).alloc (by simp) (.cells #[.string t.1, .int .u64 (t.2.1 : Nat), .int .u64 (t.2.2.1 : Nat), .bool t.2.2.2] 42))
  generalize cmpI s.2.1 t.2.1 = r at hcon ⊢
  unfold Sy.v
  go_enter Try.func31, Try.ntmps31
  go_wp2_with (first | (go_at_call 32; refine (hcon.out _).mono ?_; rintro e w' ⟨rfl, rfl⟩) | fail)
  go_ret
  exact ⟨rfl, HB.out⟩
theorem rows_set {L : List Sy} {i : Nat} (hi : i < L.length) (s : Sy) (R : List Value) : (cellsY L ++ R).take (i * 4) ++ s.cs ++ (cellsY L ++ R).drop (i * 4 + 4) = cellsY (L.set i s) ++ R := by
  have h1 : L = L.take i ++ L[i] :: L.drop (i + 1) := by rw [← List.drop_eq_getElem_cons hi, List.take_append_drop]
  have ht : (cellsY (L.take i)).length = i * 4 := by rw [cellsY_len, List.length_take, Nat.min_eq_left (by omega)]
  have hc : cellsY L = cellsY (L.take i) ++ ((L[i]).cs ++ cellsY (L.drop (i + 1))) := by
    have h2 : cellsY L = cellsY (L.take i ++ L[i] :: L.drop (i + 1)) := congrArg cellsY h1
    rw [h2]
    unfold cellsY
    rw [List.flatMap_append, List.flatMap_cons]
  have hs : cellsY (L.set i s) = cellsY (L.take i) ++ (s.cs ++ cellsY (L.drop (i + 1))) := by
    rw [List.set_eq_take_append_cons_drop, if_pos hi]
    simp [cellsY]
  rw [hc, hs]
  have e1 : (cellsY (L.take i) ++ ((L[i]).cs ++ cellsY (L.drop (i + 1))) ++ R).take (i * 4) = cellsY (L.take i) := by
    rw [List.append_assoc, ← ht, List.take_left']
    rfl
  have e2 : (cellsY (L.take i) ++ ((L[i]).cs ++ cellsY (L.drop (i + 1))) ++ R).drop (i * 4 + 4) = cellsY (L.drop (i + 1)) ++ R := by
    rw [← ht, List.append_assoc, List.append_assoc, ← List.append_assoc]
    exact List.drop_left' (by rw [List.length_append]; rfl)
  rw [e1, e2]
  simp
theorem storeQ_run {W : World} {g : Nat} {L : List Sy} {R : List Value} (h : QY W g L R) {i : Nat} (hi : i < L.length) (s : Sy) : (storeVar 42 ⟨g, i * 4, none⟩ s.v).run Try.prog W = .ok () (W.setRow g (cellsY (L.set i s) ++ R).toArray) := by
  have hl : i * 4 + 0 + s.cs.length ≤ (cellsY L ++ R).toArray.size := by
    rw [List.size_toArray, List.length_append, cellsY_len, Sy_len]
    omega
  have hr := run_storeCells_at (P := Try.prog) g (i * 4) 42 s.cs 0 _ W h hl (ones_y s)
  have e4 : i * 4 + 0 + s.cs.length = i * 4 + 4 := rfl
  rw [e4, Nat.add_zero, rows_set hi s R] at hr
  obtain ⟨i0, hi0, hz0, hz1, hz2⟩ := info_parts info42f
  have hs : s.cs.toArray.size = i0.size := by rw [hz1]; rfl
  show (storeVar 42 ⟨g, i * 4, none⟩ (.agg s.cs.toArray)).run Try.prog W = _
  simp [storeVar, sizeOf, typeInfo, hi0, Value.cells, hs, hr]
theorem wp_storeQ {o : Oper} {a : Act} {W : World} {K : Act → World → Prop} {Q : Exit → Act → World → Prop} {x y : Operand} {g i : Nat} {L : List Sy} {R : List Value} {s : Sy} (ho : o.op = .store 42 x y) (hx : a.eval x = .pointer (some ⟨g, i * 4, none⟩)) (hy : a.eval y = s.v) (h : QY W g L R) (hi : i < L.length)
    (hK : QY (W.setRow g (cellsY (L.set i s) ++ R).toArray) g (L.set i s) R → K (a.put o.dst undef) (W.setRow g (cellsY (L.set i s) ++ R).toArray)) : Oper.wp Try.prog o a W K Q := by
  have e : (execOp a.eval o).run Try.prog W = .ok .skip (W.setRow g (cellsY (L.set i s) ++ R).toArray) := by
    unfold execOp
    rw [ho]
    simp only [hx, hy, Instr.storeAt, Instr.sureAddr, Sem.run_bind, Sem.run_pure, Result.andThen, storeQ_run h hi s]
  unfold Oper.wp
  rw [e, Oper.upon_skip]
  exact hK (setRow_heap W g _ _ 42 (0, 0) h)
/-- Two pieces of so many have changed places. -/
def SwOf (L L' : List Sy) (a b n : Nat) : Prop := L'.length = L.length ∧ ∀ j, L'[j]? = if a ≤ j ∧ j < a + n then L[j + b - a]? else if b ≤ j ∧ j < b + n then L[j + a - b]? else L[j]?
theorem SwOf.zero (L : List Sy) (a b : Nat) : SwOf L L a b 0 := ⟨rfl, fun j => by rw [if_neg (by omega), if_neg (by omega)]⟩
theorem SwOf.succ {L L' : List Sy} {a b n k : Nat} (h : SwOf L L' a b k) (hab : a + n ≤ b) (hk : k < n) (hb : b + n ≤ L.length) {x y : Sy} (hx : L[b + k]? = some x) (hy : L[a + k]? = some y) : SwOf L ((L'.set (a + k) x).set (b + k) y) a b (k + 1) := by
  obtain ⟨hl, hj⟩ := h
  refine ⟨by rw [List.length_set, List.length_set, hl], fun j => ?_⟩
  have hj' := hj j
  by_cases h1 : j = b + k
  · subst h1
    rw [List.getElem?_set_self (by rw [List.length_set, hl]; omega), if_neg (by omega), if_pos (by omega), show b + k + a - b = a + k by omega, hy]
  · rw [List.getElem?_set_ne (by omega)]
    by_cases h2 : j = a + k
    · subst h2
      rw [List.getElem?_set_self (by rw [hl]; omega), if_pos (by omega), show a + k + b - a = b + k by omega, hx]
    · rw [List.getElem?_set_ne (by omega), hj']
      by_cases h3 : a ≤ j ∧ j < a + k
      · rw [if_pos h3, if_pos (by omega)]
      · rw [if_neg h3, if_neg (show ¬ (a ≤ j ∧ j < a + (k + 1)) by omega)]
        by_cases h4 : b ≤ j ∧ j < b + k
        · rw [if_pos h4, if_pos (by omega)]
        · rw [if_neg h4, if_neg (by omega)]
set_option maxRecDepth 100000 in
set_option maxHeartbeats 4000000 in
theorem swap_any (g cap a b n : Nat) (L : List Sy) (R : List Value) (fv : Value) (hab : a + n ≤ b) (hb : b + n ≤ L.length) (hN : L.length ≤ 1000000) (w : World) (h : QY w g L R) :
    Calls Try.prog 46 #[.slice (some ⟨g, 0, none⟩) L.length cap, .int .i64 (a : Nat), .int .i64 (b : Nat), .int .i64 (n : Nat), fv] w fun e W' => e = .returned (.tuple #[]) ∧ ∃ L', SwOf L L' a b n ∧ QY W' g L' R ∧ w.grownBy W' (some g) := by
  have HS0 := Lib.hid (show ∃ L', SwOf L L' a b 0 ∧ QY w g L' R ∧ w.grownBy w (some g) from ⟨L, SwOf.zero L a b, h, rfl, rfl, rfl, Nat.le_refl _, fun _ _ _ => rfl⟩)
  clear h
  obtain ⟨N, hn⟩ : ∃ N, L.length = N := ⟨_, rfl⟩
  have HL := Lib.hid hn
  rw [hn] at hN hb ⊢
  clear hn
  go_enter Try.func46, Try.ntmps46
  go_wp2_with fail
  go_loopw [10] (fun i wr => ∃ k : Nat, k ≤ n ∧ i = .int .i64 k ∧ Hid (∃ L', SwOf L L' a b k ∧ QY wr g L' R ∧ w.grownBy wr (some g))) (fun i _ => n - (intOf i).toNat)
  case atStart => exact ⟨0, by omega, rfl, HS0⟩
  case round =>
    clear HS0
    obtain ⟨k, hk, rfl, HS⟩ := hrel
    by_cases hlt : k < n
    rotate_left
    · obtain rfl : n = k := by omega
      go_wp2_with fail
      go_end0
      exact ⟨rfl, HS.out⟩
    · obtain ⟨L', hsw, hq, hgr⟩ := HS.out
      clear HS
      obtain ⟨x, hx⟩ : ∃ x, L[b + k]? = some x := ⟨L[b + k]'(by have := HL.out; omega), List.getElem?_eq_getElem _⟩
      obtain ⟨y, hy⟩ : ∃ y, L[a + k]? = some y := ⟨L[a + k]'(by have := HL.out; omega), List.getElem?_eq_getElem _⟩
      have hx' : L'[b + k]? = some x := by rw [hsw.2, if_neg (by omega), if_neg (by omega), hx]
      have hy' : L'[a + k]? = some y := by rw [hsw.2, if_neg (by omega), if_neg (by omega), hy]
      have hl' : L'.length = N := by rw [hsw.1, HL.out]
      have HW := Lib.hid (hsw.succ hab hlt (by rw [HL.out]; exact hb) hx hy)
      obtain ⟨ak, hak⟩ : ∃ ak, a + k = ak := ⟨_, rfl⟩
      obtain ⟨bk, hbk⟩ : ∃ bk, b + k = bk := ⟨_, rfl⟩
      rw [hak, hbk] at HW
      rw [hbk] at hx'
      rw [hak] at hy'
      have HX := Lib.hid (And.intro hx' (And.intro hy' (And.intro hl' hgr)))
      have HQ := Lib.hid hq
      have ea : (a : Int) + (k : Int) = (ak : Int) := by omega
      have eb : (b : Int) + (k : Int) = (bk : Int) := by omega
      have ba : (ak : Int) < (N : Int) := by omega
      have bb : (bk : Int) < (N : Int) := by omega
      have ua : IntKind.i64.wrap (ak : Int) = (ak : Int) := IntWalk.i64_in _ (by omega)
      have ub : IntKind.i64.wrap (bk : Int) = (bk : Int) := IntWalk.i64_in _ (by omega)
      have hakN : ak < N := by omega
      have hbkN : bk < N := by omega
      have hne : ak ≠ bk := by omega
      have HB := Lib.hid (And.intro hab (And.intro hb (And.intro hk hlt)))
      clear hsw hq hgr hx hy hx' hy' hl' hak hbk hk hab hb
      go_upto_region 3 with fail
      refine wp_region_noPanic ?_
      refine wp_region_p 21 (S := fun W : World => QY W g L' R) (by kernel_rfl) ?_
      have HQD : Hid (QY (World.drew wr) g L' R ∧ w.grownBy (World.drew wr) (some g)) := Lib.hid ⟨HQ.out, HX.out.2.2.2.trans (grown_below' (Below.refl _ wr).drew _)⟩
      generalize World.drew _ = V at HQD ⊢
      clear HQ
      have hHeld : (fun W : World => QY W g L' R) V := HQD.out.1
      refine wpAnyP_pure (i := 0) (v := ?_) rfl (by decide) (by kernel_rfl) (by kernel_rfl) (by kernel_rfl) (fun _ => by kernel_rfl) (fun _ _ _ h => h) (Or.inl ⟨by kernel_rfl, ?_⟩) (fun _ => hHeld) ?_
      rotate_left
      · intro wv _
        go_simp
        try with_reducible rfl
      simp only [Act.put, List.setIfInBounds_toArray, List.set_cons_zero, List.set_cons_succ, List.getElem_toArray, List.getElem_cons_succ, List.getElem_cons_zero]
      refine wpAnyP_pure (i := 1) (v := ?_) rfl (by decide) (by kernel_rfl) (by kernel_rfl) (by kernel_rfl) (fun _ => by kernel_rfl) (fun _ _ _ h => h) (Or.inl ⟨by kernel_rfl, ?_⟩) (fun _ => hHeld) ?_
      rotate_left
      · intro wv _
        go_simp
        try with_reducible rfl
      simp only [Act.put, List.setIfInBounds_toArray, List.set_cons_zero, List.set_cons_succ, List.getElem_toArray, List.getElem_cons_succ, List.getElem_cons_zero]
      refine wpAnyP_pure (i := 2) (v := ?_) rfl (by decide) (by kernel_rfl) (by kernel_rfl) (by kernel_rfl) (fun _ => by kernel_rfl) (fun _ _ _ h => h) (Or.inl ⟨by kernel_rfl, ?_⟩) (fun _ => hHeld) ?_
      rotate_left
      · intro wv _
        go_simp
        try with_reducible rfl
      simp only [Act.put, List.setIfInBounds_toArray, List.set_cons_zero, List.set_cons_succ, List.getElem_toArray, List.getElem_cons_succ, List.getElem_cons_zero]
      refine wpAnyP_pure (i := 3) (v := ?_) rfl (by decide) (by kernel_rfl) (by kernel_rfl) (by kernel_rfl) (fun _ => by kernel_rfl) (fun _ _ _ h => h) (Or.inl ⟨by kernel_rfl, ?_⟩) (fun _ => hHeld) ?_
      rotate_left
      · intro wv _
        go_simp
        try with_reducible rfl
      simp only [Act.put, List.setIfInBounds_toArray, List.set_cons_zero, List.set_cons_succ, List.getElem_toArray, List.getElem_cons_succ, List.getElem_cons_zero]
      refine wpAnyP_pure (i := 4) (v := ?_) rfl (by decide) (by kernel_rfl) (by kernel_rfl) (by kernel_rfl) (fun _ => by kernel_rfl) (fun _ _ _ h => h) (Or.inl ⟨by kernel_rfl, ?_⟩) (fun _ => hHeld) ?_
      rotate_left
      · intro wv _
        go_simp
        try with_reducible rfl
      simp only [Act.put, List.setIfInBounds_toArray, List.set_cons_zero, List.set_cons_succ, List.getElem_toArray, List.getElem_cons_succ, List.getElem_cons_zero]
      refine wpAnyP_pure (i := 5) (v := ?_) rfl (by decide) (by kernel_rfl) (by kernel_rfl) (by kernel_rfl) (fun _ => by kernel_rfl) (fun _ _ _ h => h) (Or.inl ⟨by kernel_rfl, ?_⟩) (fun _ => hHeld) ?_
      rotate_left
      · intro wv _
        go_simp
        try with_reducible rfl
      simp only [Act.put, List.setIfInBounds_toArray, List.set_cons_zero, List.set_cons_succ, List.getElem_toArray, List.getElem_cons_succ, List.getElem_cons_zero]
      refine wpAnyP_pure (i := 6) (v := ?_) rfl (by decide) (by kernel_rfl) (by kernel_rfl) (by kernel_rfl) (fun _ => by kernel_rfl) (fun _ _ _ h => h) (Or.inl ⟨by kernel_rfl, ?_⟩) (fun _ => hHeld) ?_
      rotate_left
      · intro wv _
        go_simp
        try with_reducible rfl
      simp only [Act.put, List.setIfInBounds_toArray, List.set_cons_zero, List.set_cons_succ, List.getElem_toArray, List.getElem_cons_succ, List.getElem_cons_zero]
      refine wpAnyP_pure (i := 7) (v := ?_) rfl (by decide) (by kernel_rfl) (by kernel_rfl) (by kernel_rfl) (fun _ => by kernel_rfl) (fun _ _ _ h => h) (Or.inl ⟨by kernel_rfl, ?_⟩) (fun _ => hHeld) ?_
      rotate_left
      · intro wv _
        go_simp
        try with_reducible rfl
      simp only [Act.put, List.setIfInBounds_toArray, List.set_cons_zero, List.set_cons_succ, List.getElem_toArray, List.getElem_cons_succ, List.getElem_cons_zero]
      refine wpAnyP_pure (i := 8) (v := ?_) rfl (by decide) (by kernel_rfl) (by kernel_rfl) (by kernel_rfl) (fun _ => by kernel_rfl) (fun _ _ _ h => h) (Or.inl ⟨by kernel_rfl, ?_⟩) (fun _ => hHeld) ?_
      rotate_left
      · intro wv _
        go_simp
        try with_reducible rfl
      simp only [Act.put, List.setIfInBounds_toArray, List.set_cons_zero, List.set_cons_succ, List.getElem_toArray, List.getElem_cons_succ, List.getElem_cons_zero]
      refine wpAnyP_pure (i := 9) (v := ?_) rfl (by decide) (by kernel_rfl) (by kernel_rfl) (by kernel_rfl) (fun _ => by kernel_rfl) (fun _ _ _ h => h) (Or.inl ⟨by kernel_rfl, ?_⟩) (fun _ => hHeld) ?_
      rotate_left
      · intro wv _
        go_simp
        try with_reducible rfl
      simp only [Act.put, List.setIfInBounds_toArray, List.set_cons_zero, List.set_cons_succ, List.getElem_toArray, List.getElem_cons_succ, List.getElem_cons_zero]
      refine wpAnyP_pure (i := 10) (v := ?_) rfl (by decide) (by kernel_rfl) (by kernel_rfl) (by kernel_rfl) (fun _ => by kernel_rfl) (fun _ _ _ h => h) (Or.inl ⟨by kernel_rfl, ?_⟩) (fun _ => hHeld) ?_
      rotate_left
      · intro wv _
        go_simp
        try with_reducible rfl
      simp only [Act.put, List.setIfInBounds_toArray, List.set_cons_zero, List.set_cons_succ, List.getElem_toArray, List.getElem_cons_succ, List.getElem_cons_zero]
      refine wpAnyP_pure (i := 11) (v := ?_) rfl (by decide) (by kernel_rfl) (by kernel_rfl) (by kernel_rfl) (fun _ => by kernel_rfl) (fun _ _ _ h => h) (Or.inl ⟨by kernel_rfl, ?_⟩) (fun _ => hHeld) ?_
      rotate_left
      · intro wv _
        go_simp
        try with_reducible rfl
      simp only [Act.put, List.setIfInBounds_toArray, List.set_cons_zero, List.set_cons_succ, List.getElem_toArray, List.getElem_cons_succ, List.getElem_cons_zero]
      refine wpAnyP_pure (i := 12) (v := ?_) rfl (by decide) (by kernel_rfl) (by kernel_rfl) (by kernel_rfl) (fun _ => by kernel_rfl) (fun _ _ _ h => h) (Or.inl ⟨by kernel_rfl, ?_⟩) (fun _ => hHeld) ?_
      rotate_left
      · intro wv _
        go_simp
        try with_reducible rfl
      simp only [Act.put, List.setIfInBounds_toArray, List.set_cons_zero, List.set_cons_succ, List.getElem_toArray, List.getElem_cons_succ, List.getElem_cons_zero]
      refine wpAnyP_take (i := 13) (v := ?_) rfl (by decide) (by kernel_rfl) (by kernel_rfl) (by kernel_rfl) (by kernel_rfl) (by kernel_rfl) (fun _ _ _ h => h) (Or.inl ⟨by kernel_rfl, ?_⟩) hHeld ?_
      rotate_left
      · intro wv hSw
        obtain ⟨f0, f1, f2, f3⟩ := QY.at hSw HX.out.1
        go_simp
        try with_reducible rfl
      simp only [Act.put, List.setIfInBounds_toArray, List.set_cons_zero, List.set_cons_succ, List.getElem_toArray, List.getElem_cons_succ, List.getElem_cons_zero]
      refine wpAnyP_pure (i := 14) (v := ?_) rfl (by decide) (by kernel_rfl) (by kernel_rfl) (by kernel_rfl) (fun _ => by kernel_rfl) (fun _ _ _ h => h) (Or.inl ⟨by kernel_rfl, ?_⟩) (fun _ => hHeld) ?_
      rotate_left
      · intro wv _
        go_simp
        try with_reducible rfl
      simp only [Act.put, List.setIfInBounds_toArray, List.set_cons_zero, List.set_cons_succ, List.getElem_toArray, List.getElem_cons_succ, List.getElem_cons_zero]
      refine wpAnyP_pure (i := 15) (v := ?_) rfl (by decide) (by kernel_rfl) (by kernel_rfl) (by kernel_rfl) (fun _ => by kernel_rfl) (fun _ _ _ h => h) (Or.inl ⟨by kernel_rfl, ?_⟩) (fun _ => hHeld) ?_
      rotate_left
      · intro wv _
        go_simp
        try with_reducible rfl
      simp only [Act.put, List.setIfInBounds_toArray, List.set_cons_zero, List.set_cons_succ, List.getElem_toArray, List.getElem_cons_succ, List.getElem_cons_zero]
      refine wpAnyP_pure (i := 16) (v := ?_) rfl (by decide) (by kernel_rfl) (by kernel_rfl) (by kernel_rfl) (fun _ => by kernel_rfl) (fun _ _ _ h => h) (Or.inl ⟨by kernel_rfl, ?_⟩) (fun _ => hHeld) ?_
      rotate_left
      · intro wv _
        go_simp
        try with_reducible rfl
      simp only [Act.put, List.setIfInBounds_toArray, List.set_cons_zero, List.set_cons_succ, List.getElem_toArray, List.getElem_cons_succ, List.getElem_cons_zero]
      refine wpAnyP_pure (i := 17) (v := ?_) rfl (by decide) (by kernel_rfl) (by kernel_rfl) (by kernel_rfl) (fun _ => by kernel_rfl) (fun _ _ _ h => h) (Or.inl ⟨by kernel_rfl, ?_⟩) (fun _ => hHeld) ?_
      rotate_left
      · intro wv _
        go_simp
        try with_reducible rfl
      simp only [Act.put, List.setIfInBounds_toArray, List.set_cons_zero, List.set_cons_succ, List.getElem_toArray, List.getElem_cons_succ, List.getElem_cons_zero]
      refine wpAnyP_pure (i := 18) (v := ?_) rfl (by decide) (by kernel_rfl) (by kernel_rfl) (by kernel_rfl) (fun _ => by kernel_rfl) (fun _ _ _ h => h) (Or.inl ⟨by kernel_rfl, ?_⟩) (fun _ => hHeld) ?_
      rotate_left
      · intro wv _
        go_simp
        try with_reducible rfl
      simp only [Act.put, List.setIfInBounds_toArray, List.set_cons_zero, List.set_cons_succ, List.getElem_toArray, List.getElem_cons_succ, List.getElem_cons_zero]
      refine wpAnyP_take (i := 19) (v := ?_) rfl (by decide) (by kernel_rfl) (by kernel_rfl) (by kernel_rfl) (by kernel_rfl) (by kernel_rfl) (fun _ _ _ h => h) (Or.inl ⟨by kernel_rfl, ?_⟩) hHeld ?_
      rotate_left
      · intro wv hSw
        obtain ⟨f0, f1, f2, f3⟩ := QY.at hSw HX.out.2.1
        go_simp
        try with_reducible rfl
      simp only [Act.put, List.setIfInBounds_toArray, List.set_cons_zero, List.set_cons_succ, List.getElem_toArray, List.getElem_cons_succ, List.getElem_cons_zero]
      refine wpAnyP_pure (i := 20) (v := ?_) rfl (by decide) (by kernel_rfl) (by kernel_rfl) (by kernel_rfl) (fun _ => by kernel_rfl) (fun _ _ _ h => h) (Or.inl ⟨by kernel_rfl, ?_⟩) (fun _ => hHeld) ?_
      rotate_left
      · intro wv _
        go_simp
        try with_reducible rfl
      simp only [Act.put, List.setIfInBounds_toArray, List.set_cons_zero, List.set_cons_succ, List.getElem_toArray, List.getElem_cons_succ, List.getElem_cons_zero]
      refine wpAnyP_one (i := 21) (by kernel_rfl) rfl (fun K hK => ?_)
      rw [if_pos (by kernel_rfl)]
      refine wp_storeQ (x := .tmp 36) (y := .tmp 29) (g := g) (i := ak) (L := L') (R := R) (s := x) rfl rfl rfl HQD.out.1 (by have := HX.out.2.2.1; omega) (fun hq2 => ?_)
      have HQ2 : Hid (QY (V.setRow g (cellsY (L'.set ak x) ++ R).toArray) g (L'.set ak x) R ∧ w.grownBy (V.setRow g (cellsY (L'.set ak x) ++ R).toArray) (some g)) := Lib.hid ⟨hq2, HQD.out.2.trans (grown_row V g _)⟩
      refine hK.out _ _ (fun h => absurd h (by decide)) ?_
      clear hK K hq2 hHeld HQD
      generalize World.setRow V _ _ = V2 at HQ2 ⊢
      try simp only [Act.put, List.setIfInBounds_toArray, List.set_cons_zero, List.set_cons_succ, List.getElem_toArray, List.getElem_cons_succ, List.getElem_cons_zero]
      refine wpAnyP_one (i := 22) (by kernel_rfl) rfl (fun K hK => ?_)
      go_simp
      refine hK.out _ _ (fun h => absurd h (by decide)) ?_
      clear hK K
      try simp only [Act.put, List.setIfInBounds_toArray, List.set_cons_zero, List.set_cons_succ, List.getElem_toArray, List.getElem_cons_succ, List.getElem_cons_zero]
      refine wpAnyP_one (i := 23) (by kernel_rfl) rfl (fun K hK => ?_)
      rw [if_pos (by kernel_rfl)]
      refine wp_storeQ (x := .tmp 37) (y := .tmp 35) (g := g) (i := bk) (L := L'.set ak x) (R := R) (s := y) rfl rfl rfl HQ2.out.1 (by rw [List.length_set]; have := HX.out.2.2.1; omega) (fun hq2 => ?_)
      have HF : Hid (QY (V2.setRow g (cellsY ((L'.set ak x).set bk y) ++ R).toArray) g ((L'.set ak x).set bk y) R ∧ w.grownBy (V2.setRow g (cellsY ((L'.set ak x).set bk y) ++ R).toArray) (some g)) := Lib.hid ⟨hq2, HQ2.out.2.trans (grown_row V2 g _)⟩
      refine hK.out _ _ (fun h => absurd h (by decide)) ?_
      clear hK K hq2 HQ2
      generalize World.setRow V2 _ _ = V3 at HF ⊢
      try simp only [Act.put, List.setIfInBounds_toArray, List.set_cons_zero, List.set_cons_succ, List.getElem_toArray, List.getElem_cons_succ, List.getElem_cons_zero]
      refine wpAnyP_done (by kernel_rfl) ?_ _
      refine NoPanic.normal ?_
      have HW2 := HW
      clear HW
      go_wp2_with fail
      go_roundw
      case rel => exact ⟨k + 1, by have := HB.out; omega, by first | done | rfl | go_num, Lib.hid ⟨_, HW2.out, HF.out⟩⟩
      case measure => have := HB.out; simp [intOf]; omega
end Go.Proofs.Ytegbhjmghkbgmaa
