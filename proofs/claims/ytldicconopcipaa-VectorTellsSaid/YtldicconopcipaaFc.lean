/- field.Mix, and what stays: columns. -/
import Derived.Test.YtldicconopcipaaFb
import Derived.IntWalk
namespace Go.Proofs.Ytldicconopcipaa
open Go.RowKit
set_option linter.unusedVariables false
set_option linter.unusedSimpArgs false
attribute [local go_sem] Oper.semAt_some
/-- A column's cells. -/
def qA (c : Nat → Nat) : Array Value := ((List.range 4).map fun i => Value.int .u8 (c i : Nat)).toArray
theorem qA_size (c : Nat → Nat) : (qA c).size = 4 := by simp [qA]
theorem qA_at (c : Nat → Nat) (i : Nat) (h : i < 4) : (qA c)[i]? = some (.int .u8 (c i : Nat)) := by simp [qA, h]
theorem qA_lit (c : Nat → Nat) : qA c = #[.int .u8 (c 0 : Nat), .int .u8 (c 1 : Nat), .int .u8 (c 2 : Nat), .int .u8 (c 3 : Nat)] := rfl
theorem qA_congr {c d : Nat → Nat} (h : ∀ i, i < 4 → c i = d i) : qA c = qA d := by
  unfold qA; congr 1; exact List.map_congr_left fun i hi => by rw [h i (List.mem_range.1 hi)]
theorem qA_set (c : Nat → Nat) (i : Nat) (h : i < 4) (v : Nat) : (qA c).setIfInBounds i (.int .u8 (v : Nat)) = qA (fun j => if j = i then v else c j) := by
  apply Array.ext_getElem?
  intro j
  rw [Array.getElem?_setIfInBounds]
  by_cases e : i = j
  · subst e; simp [qA, h]
  · have e' : ¬ j = i := fun x => e x.symm
    simp only [if_neg e]
    by_cases hj : j < 4
    · simp [qA, hj, e']
    · simp [qA, hj]
def R4 (W : World) (b : Nat) (c : Nat → Nat) : Prop := W.heap[b]? = some (.cells (qA c) 51 (0, 0))
theorem R4.lt {W : World} {b : Nat} {c : Nat → Nat} (h : R4 W b c) : b < W.heap.size := (Array.getElem?_eq_some_iff.1 h).1
theorem R4.keep {W W' : World} {b : Nat} {c : Nat → Nat} (h : R4 W b c) (hb : Below W.heap.size W W') : R4 W' b c := (hb.block _ h.lt).trans h
theorem R4.cell {W : World} {b : Nat} {c : Nat → Nat} (h : R4 W b c) (i : Nat) (hi : i < 4) : W.cell? ⟨b, i, none⟩ = some (.int .u8 (c i : Nat)) := by
  unfold R4 at h; simp [World.cell?, h]; exact qA_at c i hi
theorem R4.froz {W : World} {b : Nat} {c : Nat → Nat} (h : R4 W b c) (i : Nat) : W.frozen? ⟨b, i, none⟩ = false := by unfold R4 at h; simp [World.frozen?, h]
theorem R4.new (w : World) (c : Nat → Nat) : R4 (w.alloc (.cells (qA c) 51)) w.heap.size c := heap_alloc_last w _
theorem R4.far {W : World} {b p i : Nat} {c : Nat → Nat} {v : Value} (h : R4 W b c) (hn : b ≠ p) : R4 (W.setCell ⟨p, i, none⟩ v) b c := (Below.heap_setCell W ⟨p, i, none⟩ v b hn).trans h
theorem R4.set {W : World} {b : Nat} {c : Nat → Nat} (h : R4 W b c) (i : Nat) (hi : i < 4) (v : Nat) : R4 (W.setCell ⟨b, i, none⟩ (.int .u8 (v : Nat))) b (fun j => if j = i then v else c j) := by
  obtain ⟨hlt, hk⟩ := Array.getElem?_eq_some_iff.1 h
  show (W.heap.modify b _)[b]? = _
  rw [Array.getElem?_eq_getElem (by rw [Array.size_modify]; exact hlt), Array.getElem_modify_self, hk, ← qA_set c i hi v]
  rfl
theorem info51 : (Try.prog.info? 51).map (·.size) = some 4 := by kernel_rfl
theorem qA_one (c : Nat → Nat) : (qA c).all (·.oneCell') = true := by simp [qA, Value.oneCell']
theorem wpList_load51 {ops : Array Oper} {Q : Exit → Act → World → Prop} {o : Oper} {rest : List Oper} {a : Act} {W : World} {x : Operand} {b : Nat} {c : Nat → Nat}
    (ho : o.op = .load 51 x) (hg : o.guard = none) (hx : a.eval x = .pointer (some ⟨b, 0, none⟩)) (h : R4 W b c)
    (hn : wpList Try.prog ops Q rest (a.put o.dst (.agg (qA c))) W) : wpList Try.prog ops Q (o :: rest) a W := by
  refine wpList_plain hg fun K hK => ?_
  have e : (execOp a.eval o).run Try.prog W = .ok (.value (.agg (qA c))) W := by
    unfold execOp
    rw [ho]
    simp only [hx, Instr.loadAt, Instr.sureAddr, Sem.run_bind, Sem.run_pure, Result.andThen, run_loadVar_row _ _ 51 51 (qA c) (0, 0) _ h Try.underlying51 rfl (by rw [qA_size]; exact info51)]
  unfold Oper.wp
  rw [e, Oper.upon_value]
  exact hK _ _ hn
theorem wpList_store51 {ops : Array Oper} {Q : Exit → Act → World → Prop} {o : Oper} {rest : List Oper} {a : Act} {W : World} {x y : Operand} {b : Nat} {u c : Nat → Nat}
    (ho : o.op = .store 51 x y) (hg : o.guard = none) (hx : a.eval x = .pointer (some ⟨b, 0, none⟩)) (hy : a.eval y = .agg (qA c)) (h : R4 W b u)
    (hn : wpList Try.prog ops Q rest (a.put o.dst undef) (W.setRow b (qA c))) : wpList Try.prog ops Q (o :: rest) a W := by
  refine wpList_plain hg fun K hK => ?_
  have e : (execOp a.eval o).run Try.prog W = .ok .skip (W.setRow b (qA c)) := by
    unfold execOp
    rw [ho]
    simp only [hx, hy, Instr.storeAt, Instr.sureAddr, Sem.run_bind, Sem.run_pure, Result.andThen, run_storeVar_row _ _ 51 51 (qA u) (qA c) h (by rw [qA_size]; exact info51) (by rw [qA_size, qA_size]) (qA_one c)]
  unfold Oper.wp
  rw [e, Oper.upon_skip]
  exact hK _ _ hn
theorem R4.row {W : World} {b : Nat} {u c : Nat → Nat} (h : R4 W b u) : R4 (W.setRow b (qA c)) b c := setRow_heap _ _ _ _ _ _ h
theorem R4.congr {W : World} {b : Nat} {u c : Nat → Nat} (h : R4 W b u) (e : ∀ i, i < 4 → u i = c i) : R4 W b c := by unfold R4 at h ⊢; rw [h, qA_congr e]
def mixN (c : Nat → Nat) (i : Nat) : Nat := twN (c i) ^^^ twN (c ((i + 1) % 4)) ^^^ c ((i + 1) % 4) ^^^ c ((i + 2) % 4) ^^^ c ((i + 3) % 4)
theorem xor_lt8 {a b : Nat} (ha : a < 256) (hb : b < 256) : a ^^^ b < 256 := Nat.xor_lt_two_pow (n := 8) ha hb
theorem mixN_lt (c : Nat → Nat) (hc : ∀ i, c i < 256) (i : Nat) : mixN c i < 256 :=
  xor_lt8 (xor_lt8 (xor_lt8 (xor_lt8 (twN_lt _ (hc _)) (twN_lt _ (hc _))) (hc _)) (hc _)) (hc _)
theorem mod4 (k m : Nat) (hk : k < 4) (hm : m < 4) : (IntKind.i64.wrap ((k : Int) + (m : Int))).tmod 4 = (((k + m) % 4 : Nat) : Int) := by
  have e : IntKind.i64.wrap ((k : Int) + (m : Int)) = (k : Int) + m := IntWalk.i64_in _ (by omega)
  rw [e, Int.tmod_eq_emod_of_nonneg (by omega)]; omega
theorem mix_val (c : Nat → Nat) (hc : ∀ i, c i < 256) (k : Nat) : bits .xor .u8 (bits .xor .u8 (bits .xor .u8 (bits .xor .u8 ((twN (c k) : Nat) : Int) ((twN (c ((k + 1) % 4)) : Nat) : Int)) ((c ((k + 1) % 4) : Nat) : Int)) ((c ((k + 2) % 4) : Nat) : Int)) ((c ((k + 3) % 4) : Nat) : Int) = ((mixN c k : Nat) : Int) := by
  have h0 := twN_lt _ (hc k)
  have h1 := twN_lt _ (hc ((k + 1) % 4))
  rw [xor8 _ _ h0 h1, xor8 _ _ (xor_lt8 h0 h1) (hc _), xor8 _ _ (xor_lt8 (xor_lt8 h0 h1) (hc _)) (hc _), xor8 _ _ (xor_lt8 (xor_lt8 (xor_lt8 h0 h1) (hc _)) (hc _)) (hc _)]
  rfl
/-- What lies where byte k's turn is. -/
def MS (w : World) (c : Nat → Nat) (k : Nat) (W : World) : Prop :=
  (R4 W w.heap.size c ∧ R4 W (w.heap.size + 1) (fun _ => 0)) ∧ R4 W (w.heap.size + 1 + 1) (fun j => if j < k then mixN c j else 0) ∧ Below w.heap.size w W
theorem MS.keep {w W W' : World} {c : Nat → Nat} {k : Nat} (h : MS w c k W) (hb : Below W.heap.size W W') : MS w c k W' := ⟨⟨h.1.1.keep hb, h.1.2.keep hb⟩, h.2.1.keep hb, h.2.2.trans (hb.mono h.2.2.size)⟩
theorem MS.next {w W : World} {c : Nat → Nat} {k : Nat} (h : MS w c k W) (hk : k < 4) : MS w c (k + 1) (W.setCell ⟨w.heap.size + 1 + 1, k, none⟩ (.int .u8 (mixN c k : Nat))) := by
  refine ⟨⟨h.1.1.far (by omega), h.1.2.far (by omega)⟩, ?_, h.2.2.setCell (p := ⟨w.heap.size + 1 + 1, k, none⟩) (by dsimp only; omega) _⟩
  have := h.2.1.set k hk (mixN c k)
  unfold R4 at this ⊢
  rw [this, qA_congr]
  intro i hi
  by_cases e : i = k
  · subst e; simp
  · by_cases e2 : i < k
    · simp [e, e2, show i < k + 1 by omega]
    · simp [e, e2, show ¬ i < k + 1 by omega]
/-- The same, whatever byte it is. -/
def MH (w : World) (c : Nat → Nat) (W : World) : Prop := (R4 W w.heap.size c ∧ R4 W (w.heap.size + 1) (fun _ => 0)) ∧ (∃ u, R4 W (w.heap.size + 1 + 1) u) ∧ Below w.heap.size w W
theorem MH.of {w W : World} {c : Nat → Nat} {k : Nat} (h : MS w c k W) : MH w c W := ⟨h.1, ⟨_, h.2.1⟩, h.2.2⟩
theorem MH.keep {w W W' : World} {c : Nat → Nat} (h : MH w c W) (hb : Below W.heap.size W W') : MH w c W' := ⟨⟨h.1.1.keep hb, h.1.2.keep hb⟩, h.2.1.elim fun u hu => ⟨u, hu.keep hb⟩, h.2.2.trans (hb.mono h.2.2.size)⟩
theorem MS.new (w : World) (c : Nat → Nat) : MS w c 0 (((w.alloc (.cells (qA c) 51)).alloc (.cells #[.int .u8 0, .int .u8 0, .int .u8 0, .int .u8 0] 51)).alloc (.cells #[.int .u8 0, .int .u8 0, .int .u8 0, .int .u8 0] 51)) := by
  have h1 := R4.new w c
  have h2 := R4.new (w.alloc (.cells (qA c) 51)) (fun _ => 0)
  have h3 := R4.new ((w.alloc (.cells (qA c) 51)).alloc (.cells (qA (fun _ => 0)) 51)) (fun _ => 0)
  simp only [World.size_alloc] at h2 h3
  exact ⟨⟨(h1.keep ((Below.refl _ _).alloc (Nat.le_refl _) _)).keep ((Below.refl _ _).alloc (Nat.le_refl _) _), h2.keep ((Below.refl _ _).alloc (Nat.le_refl _) _)⟩, h3, (((Below.refl _ w).alloc (Nat.le_refl _) _).alloc (by simp) _).alloc (by simp; omega) _⟩
set_option maxRecDepth 100000 in
set_option maxHeartbeats 4000000 in
theorem mix_any (c : Nat → Nat) (hc : ∀ i, c i < 256) (w : World) :
    Calls Try.prog 42 #[.agg (qA c)] w fun e w' => e = .returned (.agg (qA (mixN c))) ∧ Below w.heap.size w w' := by
  have HS := Lib.hid (MS.new w c)
  have HC := Lib.hid hc
  go_enter Try.func42, Try.ntmps42
  go_upto_region 2 with fail
  generalize World.alloc (World.alloc (World.alloc _ _) _) _ = W1 at *
  clear hc
  go_wp2_with fail
  go_loopw [6] (fun i W => ∃ k : Nat, k ≤ 4 ∧ i = .int .i64 k ∧ MS w c k W) (fun i _ => 4 - (intOf i).toNat)
  case atStart => exact ⟨0, by omega, rfl, HS.out⟩
  case round =>
    obtain ⟨k, hk, rfl, hX⟩ := hrel
    have hS := Lib.hid hX
    clear hX
    by_cases hk4 : k < 4
    · have c1 := hS.out.1.1.cell ((k + 1) % 4) (Nat.mod_lt _ (by decide))
      go_upto_region 6 with fail
      clear c1
      obtain ⟨m2, hm2⟩ : ∃ m, m = (k + 2) % 4 := ⟨_, rfl⟩
      obtain ⟨m3, hm3⟩ : ∃ m, m = (k + 3) % 4 := ⟨_, rfl⟩
      have HM2 : Hid ((IntKind.i64.wrap ((k : Int) + 2)).tmod 4 = (m2 : Int)) := Lib.hid (by rw [hm2]; exact mod4 k 2 hk4 (by omega))
      have HM3 : Hid ((IntKind.i64.wrap ((k : Int) + 3)).tmod 4 = (m3 : Int)) := Lib.hid (by rw [hm3]; exact mod4 k 3 hk4 (by omega))
      have l2 : m2 < 4 := by omega
      have l3 : m3 < 4 := by omega
      have HX : Hid (bits .xor .u8 (bits .xor .u8 (bits .xor .u8 (bits .xor .u8 ((twN (c k) : Nat) : Int) ((twN (c ((k + 1) % 4)) : Nat) : Int)) ((c ((k + 1) % 4) : Nat) : Int)) ((c m2 : Nat) : Int)) ((c m3 : Nat) : Int) = ((mixN c k : Nat) : Int)) := Lib.hid (by rw [hm2, hm3]; exact mix_val c HC.out k)
      clear hm2 hm3
      have HT0 := Lib.hid (fun W => twice_any (c k) (HC.out _) W)
      have HT1 := Lib.hid (fun W => twice_any (c ((k + 1) % 4)) (HC.out _) W)
      refine wp_region_noPanic ?_
      refine wp_region_held_drew (S := fun W => MH w c W) (by kernel_rfl) ?_ (fun hHeld => ?_)
      · exact (MH.of hS.out).keep ((Below.refl _ _).drew)
      have HZ := Lib.hid (hS.out.keep ((Below.refl _ _).drew))
      generalize World.drew _ = W4 at hHeld HZ ⊢
      refine wpAnyH_take (i := 0) (v := ?_) rfl (by kernel_rfl) (by kernel_rfl) (by kernel_rfl) (fun _ _ _ h => h) (Or.inl ⟨by kernel_rfl, ?_⟩) (by assumption) ?_
      rotate_left
      · intro w hSw
        go_simp
        try with_reducible rfl
      simp only [Act.put, List.setIfInBounds_toArray, List.set_cons_zero, List.set_cons_succ, List.getElem_toArray, List.getElem_cons_succ, List.getElem_cons_zero]
      refine wpAnyH_take (i := 1) (v := ?_) rfl (by kernel_rfl) (by kernel_rfl) (by kernel_rfl) (fun _ _ _ h => h) (Or.inl ⟨by kernel_rfl, ?_⟩) (by assumption) ?_
      rotate_left
      · intro w hSw
        go_simp
        try with_reducible rfl
      simp only [Act.put, List.setIfInBounds_toArray, List.set_cons_zero, List.set_cons_succ, List.getElem_toArray, List.getElem_cons_succ, List.getElem_cons_zero]
      refine wpAnyH_take (i := 2) (v := ?_) rfl (by kernel_rfl) (by kernel_rfl) (by kernel_rfl) (fun _ _ _ h => h) (Or.inl ⟨by kernel_rfl, ?_⟩) (by assumption) ?_
      rotate_left
      · intro w hSw
        go_simp
        try with_reducible rfl
      simp only [Act.put, List.setIfInBounds_toArray, List.set_cons_zero, List.set_cons_succ, List.getElem_toArray, List.getElem_cons_succ, List.getElem_cons_zero]
      refine wpAnyH_take (i := 3) (v := ?_) rfl (by kernel_rfl) (by kernel_rfl) (by kernel_rfl) (fun _ _ _ h => h) (Or.inl ⟨by kernel_rfl, ?_⟩) (by assumption) ?_
      rotate_left
      · intro w hSw
        have c0 := hSw.1.1.cell k hk4
        go_simp
        try with_reducible rfl
      simp only [Act.put, List.setIfInBounds_toArray, List.set_cons_zero, List.set_cons_succ, List.getElem_toArray, List.getElem_cons_succ, List.getElem_cons_zero]
      refine wpAnyH_take (i := 5) (v := ?_) rfl (by kernel_rfl) (by kernel_rfl) (by kernel_rfl) (fun _ _ _ h => h) (Or.inl ⟨by kernel_rfl, ?_⟩) (by assumption) ?_
      rotate_left
      · intro w hSw
        go_simp
        try with_reducible rfl
      simp only [Act.put, List.setIfInBounds_toArray, List.set_cons_zero, List.set_cons_succ, List.getElem_toArray, List.getElem_cons_succ, List.getElem_cons_zero]
      refine wpAnyH_take (i := 8) (v := ?_) rfl (by kernel_rfl) (by kernel_rfl) (by kernel_rfl) (fun _ _ _ h => h) (Or.inl ⟨by kernel_rfl, ?_⟩) (by assumption) ?_
      rotate_left
      · intro w hSw
        go_simp
        try with_reducible rfl
      simp only [Act.put, List.setIfInBounds_toArray, List.set_cons_zero, List.set_cons_succ, List.getElem_toArray, List.getElem_cons_succ, List.getElem_cons_zero]
      refine wpAnyH_take (i := 10) (v := ?_) rfl (by kernel_rfl) (by kernel_rfl) (by kernel_rfl) (fun _ _ _ h => h) (Or.inl ⟨by kernel_rfl, ?_⟩) (by assumption) ?_
      rotate_left
      · intro w hSw
        go_simp
        try with_reducible rfl
      simp only [Act.put, List.setIfInBounds_toArray, List.set_cons_zero, List.set_cons_succ, List.getElem_toArray, List.getElem_cons_succ, List.getElem_cons_zero]
      refine wpAnyH_take (i := 11) (v := ?_) rfl (by kernel_rfl) (by kernel_rfl) (by kernel_rfl) (fun _ _ _ h => h) (Or.inl ⟨by kernel_rfl, ?_⟩) (by assumption) ?_
      rotate_left
      · intro w hSw
        go_simp
        try with_reducible rfl
      simp only [Act.put, List.setIfInBounds_toArray, List.set_cons_zero, List.set_cons_succ, List.getElem_toArray, List.getElem_cons_succ, List.getElem_cons_zero]
      refine wpAnyH_take (i := 12) (v := ?_) rfl (by kernel_rfl) (by kernel_rfl) (by kernel_rfl) (fun _ _ _ h => h) (Or.inl ⟨by kernel_rfl, ?_⟩) (by assumption) ?_
      rotate_left
      · intro w hSw
        go_simp
        rw [HM2.out]
        try with_reducible rfl
      simp only [Act.put, List.setIfInBounds_toArray, List.set_cons_zero, List.set_cons_succ, List.getElem_toArray, List.getElem_cons_succ, List.getElem_cons_zero]
      refine wpAnyH_take (i := 13) (v := ?_) rfl (by kernel_rfl) (by kernel_rfl) (by kernel_rfl) (fun _ _ _ h => h) (Or.inl ⟨by kernel_rfl, ?_⟩) (by assumption) ?_
      rotate_left
      · intro w hSw
        have b2 : (0 : Int) ≤ (m2 : Int) ∧ (m2 : Int) < 4 := by omega
        go_simp
        try with_reducible rfl
      simp only [Act.put, List.setIfInBounds_toArray, List.set_cons_zero, List.set_cons_succ, List.getElem_toArray, List.getElem_cons_succ, List.getElem_cons_zero]
      refine wpAnyH_take (i := 14) (v := ?_) rfl (by kernel_rfl) (by kernel_rfl) (by kernel_rfl) (fun _ _ _ h => h) (Or.inl ⟨by kernel_rfl, ?_⟩) (by assumption) ?_
      rotate_left
      · intro w hSw
        have c0 := hSw.1.1.cell m2 l2
        go_simp
        try with_reducible rfl
      simp only [Act.put, List.setIfInBounds_toArray, List.set_cons_zero, List.set_cons_succ, List.getElem_toArray, List.getElem_cons_succ, List.getElem_cons_zero]
      refine wpAnyH_take (i := 16) (v := ?_) rfl (by kernel_rfl) (by kernel_rfl) (by kernel_rfl) (fun _ _ _ h => h) (Or.inl ⟨by kernel_rfl, ?_⟩) (by assumption) ?_
      rotate_left
      · intro w hSw
        go_simp
        try with_reducible rfl
      simp only [Act.put, List.setIfInBounds_toArray, List.set_cons_zero, List.set_cons_succ, List.getElem_toArray, List.getElem_cons_succ, List.getElem_cons_zero]
      refine wpAnyH_take (i := 17) (v := ?_) rfl (by kernel_rfl) (by kernel_rfl) (by kernel_rfl) (fun _ _ _ h => h) (Or.inl ⟨by kernel_rfl, ?_⟩) (by assumption) ?_
      rotate_left
      · intro w hSw
        go_simp
        try with_reducible rfl
      simp only [Act.put, List.setIfInBounds_toArray, List.set_cons_zero, List.set_cons_succ, List.getElem_toArray, List.getElem_cons_succ, List.getElem_cons_zero]
      refine wpAnyH_take (i := 18) (v := ?_) rfl (by kernel_rfl) (by kernel_rfl) (by kernel_rfl) (fun _ _ _ h => h) (Or.inl ⟨by kernel_rfl, ?_⟩) (by assumption) ?_
      rotate_left
      · intro w hSw
        go_simp
        rw [HM3.out]
        try with_reducible rfl
      simp only [Act.put, List.setIfInBounds_toArray, List.set_cons_zero, List.set_cons_succ, List.getElem_toArray, List.getElem_cons_succ, List.getElem_cons_zero]
      refine wpAnyH_take (i := 19) (v := ?_) rfl (by kernel_rfl) (by kernel_rfl) (by kernel_rfl) (fun _ _ _ h => h) (Or.inl ⟨by kernel_rfl, ?_⟩) (by assumption) ?_
      rotate_left
      · intro w hSw
        have b2 : (0 : Int) ≤ (m3 : Int) ∧ (m3 : Int) < 4 := by omega
        go_simp
        try with_reducible rfl
      simp only [Act.put, List.setIfInBounds_toArray, List.set_cons_zero, List.set_cons_succ, List.getElem_toArray, List.getElem_cons_succ, List.getElem_cons_zero]
      refine wpAnyH_take (i := 20) (v := ?_) rfl (by kernel_rfl) (by kernel_rfl) (by kernel_rfl) (fun _ _ _ h => h) (Or.inl ⟨by kernel_rfl, ?_⟩) (by assumption) ?_
      rotate_left
      · intro w hSw
        have c0 := hSw.1.1.cell m3 l3
        go_simp
        try with_reducible rfl
      simp only [Act.put, List.setIfInBounds_toArray, List.set_cons_zero, List.set_cons_succ, List.getElem_toArray, List.getElem_cons_succ, List.getElem_cons_zero]
      refine wpAnyH_ready (rs := [4]) (by kernel_rfl) (by simp) ?_
      refine AllReadyH.cons rfl (fun K hK => ?_) AllReadyH.nil
      go_simp
      go_at_call 50
      (with_reducible refine (HT0.out _).mono ?_)
      rintro e w9 ⟨rfl, rfl⟩
      refine hK.out _ _ hHeld (fun hHeld2 => ?_)
      clear hK K hHeld2
      try simp only [Act.put, List.setIfInBounds_toArray, List.set_cons_zero, List.set_cons_succ, List.getElem_toArray, List.getElem_cons_succ, List.getElem_cons_zero]
      refine wpAnyH_ready (rs := [6]) (by kernel_rfl) (by simp) ?_
      refine AllReadyH.cons rfl (fun K hK => ?_) AllReadyH.nil
      go_simp
      go_at_call 50
      (with_reducible refine (HT1.out _).mono ?_)
      rintro e w9 ⟨rfl, rfl⟩
      refine hK.out _ _ hHeld (fun hHeld2 => ?_)
      clear hK K hHeld2
      try simp only [Act.put, List.setIfInBounds_toArray, List.set_cons_zero, List.set_cons_succ, List.getElem_toArray, List.getElem_cons_succ, List.getElem_cons_zero]
      refine wpAnyH_take (i := 7) (v := ?_) rfl (by kernel_rfl) (by kernel_rfl) (by kernel_rfl) (fun _ _ _ h => h) (Or.inl ⟨by kernel_rfl, ?_⟩) (by assumption) ?_
      rotate_left
      · intro w hSw
        go_simp
        try with_reducible rfl
      simp only [Act.put, List.setIfInBounds_toArray, List.set_cons_zero, List.set_cons_succ, List.getElem_toArray, List.getElem_cons_succ, List.getElem_cons_zero]
      refine wpAnyH_take (i := 9) (v := ?_) rfl (by kernel_rfl) (by kernel_rfl) (by kernel_rfl) (fun _ _ _ h => h) (Or.inl ⟨by kernel_rfl, ?_⟩) (by assumption) ?_
      rotate_left
      · intro w hSw
        go_simp
        try with_reducible rfl
      simp only [Act.put, List.setIfInBounds_toArray, List.set_cons_zero, List.set_cons_succ, List.getElem_toArray, List.getElem_cons_succ, List.getElem_cons_zero]
      refine wpAnyH_take (i := 15) (v := ?_) rfl (by kernel_rfl) (by kernel_rfl) (by kernel_rfl) (fun _ _ _ h => h) (Or.inl ⟨by kernel_rfl, ?_⟩) (by assumption) ?_
      rotate_left
      · intro w hSw
        go_simp
        try with_reducible rfl
      simp only [Act.put, List.setIfInBounds_toArray, List.set_cons_zero, List.set_cons_succ, List.getElem_toArray, List.getElem_cons_succ, List.getElem_cons_zero]
      refine wpAnyH_take (i := 21) (v := ?_) rfl (by kernel_rfl) (by kernel_rfl) (by kernel_rfl) (fun _ _ _ h => h) (Or.inl ⟨by kernel_rfl, ?_⟩) (by assumption) ?_
      rotate_left
      · intro w hSw
        go_simp
        try with_reducible rfl
      simp only [Act.put, List.setIfInBounds_toArray, List.set_cons_zero, List.set_cons_succ, List.getElem_toArray, List.getElem_cons_succ, List.getElem_cons_zero]
      refine wpAnyH_take (i := 22) (v := ?_) rfl (by kernel_rfl) (by kernel_rfl) (by kernel_rfl) (fun _ _ _ h => h) (Or.inl ⟨by kernel_rfl, ?_⟩) (by assumption) ?_
      rotate_left
      · intro w hSw
        go_simp
        try with_reducible rfl
      simp only [Act.put, List.setIfInBounds_toArray, List.set_cons_zero, List.set_cons_succ, List.getElem_toArray, List.getElem_cons_succ, List.getElem_cons_zero]
      refine wpAnyH_ready (rs := [23]) (by kernel_rfl) (by simp) ?_
      refine AllReadyH.cons rfl (fun K hK => ?_) AllReadyH.nil
      have f0 := HZ.out.2.1.froz k
      have c0 := HZ.out.2.1.cell k hk4
      rw [HX.out]
      go_simp
      refine hK.out _ _ (MH.of (HZ.out.next hk4)) (fun hHeld2 => ?_)
      have hX := Lib.hid (HZ.out.next hk4)
      clear hK K hHeld c0 f0 HZ hHeld2
      try simp only [Act.put, List.setIfInBounds_toArray, List.set_cons_zero, List.set_cons_succ, List.getElem_toArray, List.getElem_cons_succ, List.getElem_cons_zero]
      refine wpAnyH_done (by kernel_rfl) ?_ _
      refine NoPanic.normal ?_
      clear hS
      generalize World.setCell _ _ _ = W5 at hX ⊢
      go_wp2
      exact ⟨⟨k + 1, by omega, by simp, hX.out⟩, by simp [intOf]; omega⟩
    · obtain rfl : k = 4 := by omega
      have HR := Lib.hid (hS.out.2.1.congr (c := mixN c) (fun i hi => if_pos hi))
      have HZ := Lib.hid hS.out.1.2
      have HB := Lib.hid hS.out.2.2
      clear hS
      go_upto_region 8 with fail
      refine wp_region_list ?_
      refine wpList_load51 rfl rfl rfl HR.out ?_
      refine wpList_store51 rfl rfl rfl rfl HZ.out ?_
      simp only [Act.put, List.setIfInBounds_toArray, List.set_cons_zero, List.set_cons_succ, List.getElem_toArray, List.getElem_cons_succ, List.getElem_cons_zero]
      refine wpList_nil ?_
      have h9 := Lib.hid (HZ.out.row (c := mixN c))
      have hB9 := Lib.hid (below_row (vs := qA (mixN c)) HB.out (show w.heap.size ≤ w.heap.size + 1 by omega))
      generalize World.setRow _ _ _ = W2 at *
      go_wp2
      exact bodyPost_ret (v := .agg (qA (mixN c))) (results_cell_row rfl _ _ _ 51 _ (0, 0) _ rfl h9.out Try.underlying51 rfl (by rw [qA_size]; exact info51)) rfl ⟨rfl, hB9.out⟩
set_option maxRecDepth 100000 in
theorem still_any (c : Nat → Nat) (w : World) :
    Calls Try.prog 43 #[.agg (qA c)] w fun e w' => e = .returned (.agg (qA c)) ∧ Below w.heap.size w w' := by
  have HR : Hid (R4 ((w.alloc (.cells (qA c) 51)).alloc (.cells #[.int .u8 0, .int .u8 0, .int .u8 0, .int .u8 0] 51)) w.heap.size c) := Lib.hid ((R4.new w c).keep ((Below.refl _ _).alloc (Nat.le_refl _) _))
  have HZ : Hid (R4 ((w.alloc (.cells (qA c) 51)).alloc (.cells #[.int .u8 0, .int .u8 0, .int .u8 0, .int .u8 0] 51)) (w.heap.size + 1) (fun _ => 0)) := Lib.hid (by have := R4.new (w.alloc (.cells (qA c) 51)) (fun _ => 0); simp only [World.size_alloc] at this; exact this)
  have HB := Lib.hid (((Below.refl _ w).alloc (Nat.le_refl _) (.cells (qA c) 51)).alloc (by simp) (.cells #[.int .u8 0, .int .u8 0, .int .u8 0, .int .u8 0] 51))
  go_enter Try.func43, Try.ntmps43
  go_upto_region 1 with fail
  generalize World.alloc (World.alloc _ _) _ = W1 at *
  refine wp_region_list ?_
  refine wpList_load51 rfl rfl rfl HR.out ?_
  refine wpList_store51 rfl rfl rfl rfl HZ.out ?_
  simp only [Act.put, List.setIfInBounds_toArray, List.set_cons_zero, List.set_cons_succ, List.getElem_toArray, List.getElem_cons_succ, List.getElem_cons_zero]
  refine wpList_nil ?_
  have h9 := Lib.hid (HZ.out.row (c := c))
  have hB9 := Lib.hid (below_row (vs := qA (c)) HB.out (show w.heap.size ≤ w.heap.size + 1 by omega))
  generalize World.setRow _ _ _ = W2 at *
  go_wp2
  exact bodyPost_ret (v := .agg (qA (c))) (results_cell_row rfl _ _ _ 51 _ (0, 0) _ rfl h9.out Try.underlying51 rfl (by rw [qA_size]; exact info51)) rfl ⟨rfl, hB9.out⟩
end Go.Proofs.Ytldicconopcipaa
