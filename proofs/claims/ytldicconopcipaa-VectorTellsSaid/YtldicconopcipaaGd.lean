/- The reference's rounds. -/
import Derived.Test.YtldicconopcipaaGc
import Derived.Test.YtldicconopcipaaFg
namespace Go.Proofs.Ytldicconopcipaa
open Go.RowKit
set_option linter.unusedVariables false
set_option linter.unusedSimpArgs false
attribute [local go_sem] Oper.semAt_some
theorem keyed_m (A B : Nat → Nat) (hA : ∀ j, A j < 256) (hB : ∀ j, B j < 256) (W : World) :
    Calls Try.prog 35 #[.agg (bN A), .agg (bN B)] W fun e W' => e = .returned (.agg (bN (fun i => A i ^^^ B i))) ∧ Below W.heap.size W W' := by
  have h5 := keyed_any (fun i => (A i : Int)) (fun i => (B i : Int)) W
  have ex : bA (xF (fun i => (A i : Int)) (fun i => (B i : Int))) = bN (fun i => A i ^^^ B i) := bA_congr fun i _ => u8_xor_nat (A i) (B i) (hA i) (hB i)
  rwa [ex] at h5
/-- The block in the midst of the columns. -/
def vK (s : Nat → Nat) (k j : Nat) : Nat := if j < k then mixN (fun r => s (4 * (j / 4) + r)) (j % 4) else s j
theorem vK_step (s : Nat → Nat) (k j : Nat) : vK s (k + 1) j = if j = k then mixN (fun r => s (4 * (k / 4) + r)) (k % 4) else vK s k j := by
  unfold vK
  by_cases e : j = k
  · subst e; simp
  · by_cases e2 : j < k
    · simp [e, e2, show j < k + 1 by omega]
    · simp [e, e2, show ¬ j < k + 1 by omega]
theorem vK_zero (s : Nat → Nat) : vK s 0 = s := by funext j; simp [vK]
theorem vK_lt (s : Nat → Nat) (hs : ∀ j, s j < 256) (k j : Nat) : vK s k j < 256 := by
  unfold vK; split
  · exact mixN_lt _ (fun _ => hs _) _
  · exact hs j
/-- What lies there: the block, the key, the result's noughts, the block that is made. -/
def RD (w : World) (f g u : Nat → Nat) (bs : Nat) (W : World) : Prop := R16 W w.heap.size (bN f) ∧ R16 W (w.heap.size + 1) (bN g) ∧ R16 W (w.heap.size + 1 + 1) z16 ∧ R16 W bs (bN u) ∧ w.heap.size + 1 + 1 < bs ∧ Below w.heap.size w W
theorem RD.keep {w W W' : World} {f g u : Nat → Nat} {bs : Nat} (h : RD w f g u bs W) (hb : Below W.heap.size W W') : RD w f g u bs W' :=
  ⟨h.1.keep hb, h.2.1.keep hb, h.2.2.1.keep hb, h.2.2.2.1.keep hb, h.2.2.2.2.1, h.2.2.2.2.2.trans (hb.mono h.2.2.2.2.2.size)⟩
theorem RD.of {w W : World} {f g u : Nat → Nat} {us : Array Value} {bs : Nat} (h : B3 w (bN f) (bN g) W) (h9 : R16 W bs us) (hn : w.heap.size + 1 + 1 < bs) : RD w f g u bs (W.setRow bs (bN u)) :=
  ⟨h.1.far (by omega), h.2.1.far (by omega), h.2.2.1.far (by omega), h9.row (bA_size _) (bA_one _), hn, below_row h.2.2.2 (by omega)⟩
theorem RD.set {w W : World} {f g u v : Nat → Nat} {bs : Nat} (h : RD w f g u bs W) (i x : Nat) (hi : i < 16) (hv : ∀ j, j < 16 → v j = if j = i then x else u j) : RD w f g v bs (W.setCell ⟨bs, i, none⟩ (.int .u8 (x : Nat))) := by
  have hn := h.2.2.2.2.1
  refine ⟨RB.far h.1 (by omega), RB.far h.2.1 (by omega), RB.far h.2.2.1 (by omega), ?_, hn, h.2.2.2.2.2.setCell (p := ⟨bs, i, none⟩) (by dsimp only; omega) _⟩
  have := RB.set h.2.2.2.1 i hi (x : Nat)
  rwa [bA_congr (fun j hj => show (if j = i then ((x : Nat) : Int) else ((u j : Nat) : Int)) = ((v j : Nat) : Int) from by rw [hv j hj]; split <;> rfl)] at this
theorem RD.next {w W : World} {f g s : Nat → Nat} {bs : Nat} (c r : Nat) (h : RD w f g (vK s (c + r)) bs W) (hi : c + r < 16) (hr : r < 4) (hc : c % 4 = 0) :
    RD w f g (vK s (c + (r + 1))) bs (W.setCell ⟨bs, c + r, none⟩ (.int .u8 ((mixN (fun q => s (c + q)) r : Nat) : Int))) :=
  h.set (c + r) _ hi (fun j hj => by
    rw [show c + (r + 1) = c + r + 1 by omega, vK_step, show 4 * ((c + r) / 4) = c by omega, show (c + r) % 4 = r by omega])
theorem RD.at {w W : World} {f g s : Nat → Nat} {k bs : Nat} (h : RD w f g (vK s k) bs W) (j : Nat) (hj : j < 16) (hk : k ≤ j) : W.cell? ⟨bs, j, none⟩ = some (.int .u8 (s j : Nat)) :=
  (RB.cell h.2.2.2.1 j hj).trans (by unfold vK; rw [if_neg (by omega)])
theorem RD.froz {w W : World} {f g u : Nat → Nat} {bs : Nat} (h : RD w f g u bs W) (j : Nat) : W.frozen? ⟨bs, j, none⟩ = false := RB.froz h.2.2.2.1 j
theorem wp_store51 {o : Oper} {a : Act} {W : World} {K : Act → World → Prop} {Q : Exit → Act → World → Prop} {x y : Operand} {b : Nat} {u c : Nat → Nat} (ho : o.op = .store 51 x y) (hx : a.eval x = .pointer (some ⟨b, 0, none⟩)) (hy : a.eval y = .agg (qA c)) (h : R4 W b u)
    (hK : K (a.put o.dst undef) (W.setRow b (qA c))) : Oper.wp Try.prog o a W K Q := by
  have e : (execOp a.eval o).run Try.prog W = .ok .skip (W.setRow b (qA c)) := by
    unfold execOp
    rw [ho]
    simp only [hx, hy, Instr.storeAt, Instr.sureAddr, Sem.run_bind, Sem.run_pure, Result.andThen, run_storeVar_row _ _ 51 51 (qA u) (qA c) h (by rw [qA_size]; exact info51) (by rw [qA_size, qA_size]) (qA_one c)]
  unfold Oper.wp
  rw [e, Oper.upon_skip]
  exact hK
theorem RD.row {w W : World} {f g u c : Nat → Nat} {bs b : Nat} (h : RD w f g u bs W) (h1 : b ≠ bs) (h2 : w.heap.size + 1 + 1 < b) : RD w f g u bs (W.setRow b (qA c)) :=
  ⟨h.1.far (by omega), h.2.1.far (by omega), h.2.2.1.far (by omega), h.2.2.2.1.far (by omega), h.2.2.2.2.1, below_row h.2.2.2.2.2 (by omega)⟩
theorem RD.new4 {w W : World} {f g u : Nat → Nat} {bs : Nat} (h : RD w f g u bs W) : RD w f g u bs (W.alloc (.cells #[.int .u8 0, .int .u8 0, .int .u8 0, .int .u8 0] 51)) ∧ R4 (W.alloc (.cells #[.int .u8 0, .int .u8 0, .int .u8 0, .int .u8 0] 51)) W.heap.size (fun _ => 0) ∧ W.heap.size ≠ bs ∧ w.heap.size + 1 + 1 < W.heap.size :=
  ⟨h.keep ((Below.refl _ _).alloc (Nat.le_refl _) _), R4.new W (fun _ => 0), fun e => by have := h.2.2.2.1.lt; omega, h.2.2.1.lt⟩
/-- The inner loop's: the column, too. -/
def RM (w : World) (f g u c : Nat → Nat) (bs b : Nat) (W : World) : Prop := RD w f g u bs W ∧ R4 W b c ∧ b ≠ bs
theorem RM.next {w W : World} {f g s c : Nat → Nat} {bs b : Nat} (q r : Nat) (h : RM w f g (vK s (q + r)) c bs b W) (hi : q + r < 16) (hr : r < 4) (hc : q % 4 = 0) :
    RM w f g (vK s (q + (r + 1))) c bs b (W.setCell ⟨bs, q + r, none⟩ (.int .u8 ((mixN (fun z => s (q + z)) r : Nat) : Int))) :=
  ⟨h.1.next q r hi hr hc, h.2.1.far h.2.2, h.2.2⟩
set_option maxRecDepth 100000 in
set_option maxHeartbeats 8000000 in
theorem rround_any (f g : Nat → Nat) (hf : ∀ j, f j < 256) (hg : ∀ j, g j < 256) (w : World) :
    Calls Try.prog 21 #[.agg (bN f), .agg (bN g)] w fun e w' => e = .returned (.agg (bN (roN mixN f g))) ∧ Below w.heap.size w w' := by
  have HS := Lib.hid (B3.new w (bN f) (bN g) (bA_size _) (bA_one _) (bA_size _) (bA_one _))
  have HSH := Lib.hid (fun W => shifted_any f hf W)
  have hk : ∀ W, Calls Try.prog 35 #[.agg (bN (vK (sB f) 16)), .agg (bN g)] W fun e W' => e = .returned (.agg (bN (roN mixN f g))) ∧ Below W.heap.size W W' := fun W => by
    have h := keyed_m (vK (sB f) 16) g (vK_lt _ (sB_lt f) 16) hg W
    rwa [bN_congr (fun j hj => show (vK (sB f) 16 j ^^^ g j) = roN mixN f g j from by unfold vK roN uK; rw [if_pos hj, if_pos hj])] at h
  have HK := Lib.hid hk
  have HSL := Lib.hid (sB_lt f)
  clear hk hf hg
  generalize sB f = s at *
  generalize hres : bN (roN mixN f g) = res at *
  have HRES : Hid (res = bN (roN mixN f g)) := Lib.hid hres.symm
  clear hres
  go_enter Try.func21, Try.ntmps21
  go_upto_region 1 with fail
  generalize World.alloc (World.alloc (World.alloc _ _) _) _ = W1 at *
  refine wp_region_list ?_
  refine wpList_load22 rfl rfl rfl HS.out.1 ?_
  go_wp2_with fail
  go_at_call 33
  (with_reducible refine (HSH.out _).mono ?_)
  rintro e w2 ⟨rfl, hb2⟩
  have HS2 := Lib.hid (HS.out.keep hb2)
  clear HS hb2
  have H9 := Lib.hid (R16.newz w2)
  have HS3 := Lib.hid (HS2.out.keep ((Below.refl _ _).alloc (Nat.le_refl _) (.cells #[.int .u8 0, .int .u8 0, .int .u8 0, .int .u8 0, .int .u8 0, .int .u8 0, .int .u8 0, .int .u8 0, .int .u8 0, .int .u8 0, .int .u8 0, .int .u8 0, .int .u8 0, .int .u8 0, .int .u8 0, .int .u8 0] 22)))
  have hn : w.heap.size + 1 + 1 < w2.heap.size := HS2.out.2.2.1.lt
  have HN := Lib.hid hn
  clear HS2 hn
  go_upto_region 2 with (refine wpList_store22 rfl rfl rfl rfl H9.out (bA_size _) (bA_one _) ?_)
  have HR : Hid (RD w f g (vK s (4 * 0)) w2.heap.size _) := Lib.hid (by rw [show 4 * 0 = 0 from rfl, vK_zero]; exact RD.of (u := s) HS3.out H9.out HN.out)
  clear HS3 H9 HN
  generalize World.setRow _ _ _ = W3 at *
  generalize w2.heap.size = bs at *
  go_wp2_with fail
  go_loopw [6] (fun v W => ∃ q : Nat, q ≤ 4 ∧ v = .int .i64 q ∧ RD w f g (vK s (4 * q)) bs W) (fun v _ => 4 - (intOf v).toNat)
  case atStart => exact ⟨0, by omega, rfl, HR.out⟩
  case round =>
    obtain ⟨q, hq, rfl, hX⟩ := hrel
    have hS := Lib.hid hX
    clear hX
    by_cases hq4 : q < 4
    · obtain rfl | rfl | rfl | rfl : q = 0 ∨ q = 1 ∨ q = 2 ∨ q = 3 := by omega
      · try simp only [Int.natCast_zero, Int.natCast_one, Int.cast_ofNat_Int]
        go_upto_region 5 with fail
        have hC : ∀ W, Calls Try.prog 34 #[.agg #[.int .u8 (s 0 : Nat), .int .u8 (s 1 : Nat), .int .u8 (s 2 : Nat), .int .u8 (s 3 : Nat)]] W fun e w' => e = .returned (.agg (qA (mixN (fun r => s (0 + r))))) ∧ Below W.heap.size W w' := fun W => rmix_any (fun r => s (0 + r)) (fun _ => HSL.out _) W
        have HC := Lib.hid hC
        clear hC
        refine wp_region_noPanic ?_
        refine wp_region_held_drew (S := fun W => RD w f g (vK s (4 * 0)) bs W) (by kernel_rfl) ?_ (fun hHeld => ?_)
        · exact hS.out.keep ((Below.refl _ _).drew)
        generalize World.drew _ = v0 at hHeld ⊢
        refine wpAnyH_take (i := 0) (v := ?_) rfl (by kernel_rfl) (by kernel_rfl) (by kernel_rfl) (fun _ _ _ h => h) (Or.inl ⟨by kernel_rfl, ?_⟩) (by assumption) ?_
        rotate_left
        · intro w hSw
          go_simp
          try with_reducible rfl
        simp only [Act.put, List.setIfInBounds_toArray, List.set_cons_zero, List.set_cons_succ, List.getElem_toArray, List.getElem_cons_succ, List.getElem_cons_zero]
        refine wpAnyH_take (i := 1) (v := ?_) rfl (by kernel_rfl) (by kernel_rfl) (by kernel_rfl) (fun _ _ _ h => h) (Or.inl ⟨by kernel_rfl, ?_⟩) (by assumption) ?_
        rotate_left
        · intro w hSw
          first | (go_simp; rw [show IntKind.i64.wrap 0 = 0 from by decide]) | go_simp
          try with_reducible rfl
        simp only [Act.put, List.setIfInBounds_toArray, List.set_cons_zero, List.set_cons_succ, List.getElem_toArray, List.getElem_cons_succ, List.getElem_cons_zero]
        refine wpAnyH_take (i := 2) (v := ?_) rfl (by kernel_rfl) (by kernel_rfl) (by kernel_rfl) (fun _ _ _ h => h) (Or.inl ⟨by kernel_rfl, ?_⟩) (by assumption) ?_
        rotate_left
        · intro w hSw
          go_simp
          try with_reducible rfl
        simp only [Act.put, List.setIfInBounds_toArray, List.set_cons_zero, List.set_cons_succ, List.getElem_toArray, List.getElem_cons_succ, List.getElem_cons_zero]
        refine wpAnyH_take (i := 3) (v := ?_) rfl (by kernel_rfl) (by kernel_rfl) (by kernel_rfl) (fun _ _ _ h => h) (Or.inl ⟨by kernel_rfl, ?_⟩) (by assumption) ?_
        rotate_left
        · intro w hSw
          have c0 := RD.at hSw 0 (by omega) (by omega)
          go_simp
          try with_reducible rfl
        simp only [Act.put, List.setIfInBounds_toArray, List.set_cons_zero, List.set_cons_succ, List.getElem_toArray, List.getElem_cons_succ, List.getElem_cons_zero]
        refine wpAnyH_take (i := 4) (v := ?_) rfl (by kernel_rfl) (by kernel_rfl) (by kernel_rfl) (fun _ _ _ h => h) (Or.inl ⟨by kernel_rfl, ?_⟩) (by assumption) ?_
        rotate_left
        · intro w hSw
          go_simp
          try with_reducible rfl
        simp only [Act.put, List.setIfInBounds_toArray, List.set_cons_zero, List.set_cons_succ, List.getElem_toArray, List.getElem_cons_succ, List.getElem_cons_zero]
        refine wpAnyH_take (i := 5) (v := ?_) rfl (by kernel_rfl) (by kernel_rfl) (by kernel_rfl) (fun _ _ _ h => h) (Or.inl ⟨by kernel_rfl, ?_⟩) (by assumption) ?_
        rotate_left
        · intro w hSw
          first | (go_simp; rw [show IntKind.i64.wrap 0 = 0 from by decide]) | go_simp
          try with_reducible rfl
        simp only [Act.put, List.setIfInBounds_toArray, List.set_cons_zero, List.set_cons_succ, List.getElem_toArray, List.getElem_cons_succ, List.getElem_cons_zero]
        refine wpAnyH_take (i := 6) (v := ?_) rfl (by kernel_rfl) (by kernel_rfl) (by kernel_rfl) (fun _ _ _ h => h) (Or.inl ⟨by kernel_rfl, ?_⟩) (by assumption) ?_
        rotate_left
        · intro w hSw
          go_simp
          rw [show IntKind.i64.wrap 1 = 1 from by decide]
          try with_reducible rfl
        simp only [Act.put, List.setIfInBounds_toArray, List.set_cons_zero, List.set_cons_succ, List.getElem_toArray, List.getElem_cons_succ, List.getElem_cons_zero]
        refine wpAnyH_take (i := 7) (v := ?_) rfl (by kernel_rfl) (by kernel_rfl) (by kernel_rfl) (fun _ _ _ h => h) (Or.inl ⟨by kernel_rfl, ?_⟩) (by assumption) ?_
        rotate_left
        · intro w hSw
          go_simp
          try with_reducible rfl
        simp only [Act.put, List.setIfInBounds_toArray, List.set_cons_zero, List.set_cons_succ, List.getElem_toArray, List.getElem_cons_succ, List.getElem_cons_zero]
        refine wpAnyH_take (i := 8) (v := ?_) rfl (by kernel_rfl) (by kernel_rfl) (by kernel_rfl) (fun _ _ _ h => h) (Or.inl ⟨by kernel_rfl, ?_⟩) (by assumption) ?_
        rotate_left
        · intro w hSw
          have c0 := RD.at hSw 1 (by omega) (by omega)
          go_simp
          try with_reducible rfl
        simp only [Act.put, List.setIfInBounds_toArray, List.set_cons_zero, List.set_cons_succ, List.getElem_toArray, List.getElem_cons_succ, List.getElem_cons_zero]
        refine wpAnyH_take (i := 9) (v := ?_) rfl (by kernel_rfl) (by kernel_rfl) (by kernel_rfl) (fun _ _ _ h => h) (Or.inl ⟨by kernel_rfl, ?_⟩) (by assumption) ?_
        rotate_left
        · intro w hSw
          go_simp
          try with_reducible rfl
        simp only [Act.put, List.setIfInBounds_toArray, List.set_cons_zero, List.set_cons_succ, List.getElem_toArray, List.getElem_cons_succ, List.getElem_cons_zero]
        refine wpAnyH_take (i := 10) (v := ?_) rfl (by kernel_rfl) (by kernel_rfl) (by kernel_rfl) (fun _ _ _ h => h) (Or.inl ⟨by kernel_rfl, ?_⟩) (by assumption) ?_
        rotate_left
        · intro w hSw
          first | (go_simp; rw [show IntKind.i64.wrap 0 = 0 from by decide]) | go_simp
          try with_reducible rfl
        simp only [Act.put, List.setIfInBounds_toArray, List.set_cons_zero, List.set_cons_succ, List.getElem_toArray, List.getElem_cons_succ, List.getElem_cons_zero]
        refine wpAnyH_take (i := 11) (v := ?_) rfl (by kernel_rfl) (by kernel_rfl) (by kernel_rfl) (fun _ _ _ h => h) (Or.inl ⟨by kernel_rfl, ?_⟩) (by assumption) ?_
        rotate_left
        · intro w hSw
          go_simp
          rw [show IntKind.i64.wrap 2 = 2 from by decide]
          try with_reducible rfl
        simp only [Act.put, List.setIfInBounds_toArray, List.set_cons_zero, List.set_cons_succ, List.getElem_toArray, List.getElem_cons_succ, List.getElem_cons_zero]
        refine wpAnyH_take (i := 12) (v := ?_) rfl (by kernel_rfl) (by kernel_rfl) (by kernel_rfl) (fun _ _ _ h => h) (Or.inl ⟨by kernel_rfl, ?_⟩) (by assumption) ?_
        rotate_left
        · intro w hSw
          go_simp
          try with_reducible rfl
        simp only [Act.put, List.setIfInBounds_toArray, List.set_cons_zero, List.set_cons_succ, List.getElem_toArray, List.getElem_cons_succ, List.getElem_cons_zero]
        refine wpAnyH_take (i := 13) (v := ?_) rfl (by kernel_rfl) (by kernel_rfl) (by kernel_rfl) (fun _ _ _ h => h) (Or.inl ⟨by kernel_rfl, ?_⟩) (by assumption) ?_
        rotate_left
        · intro w hSw
          have c0 := RD.at hSw 2 (by omega) (by omega)
          go_simp
          try with_reducible rfl
        simp only [Act.put, List.setIfInBounds_toArray, List.set_cons_zero, List.set_cons_succ, List.getElem_toArray, List.getElem_cons_succ, List.getElem_cons_zero]
        refine wpAnyH_take (i := 14) (v := ?_) rfl (by kernel_rfl) (by kernel_rfl) (by kernel_rfl) (fun _ _ _ h => h) (Or.inl ⟨by kernel_rfl, ?_⟩) (by assumption) ?_
        rotate_left
        · intro w hSw
          go_simp
          try with_reducible rfl
        simp only [Act.put, List.setIfInBounds_toArray, List.set_cons_zero, List.set_cons_succ, List.getElem_toArray, List.getElem_cons_succ, List.getElem_cons_zero]
        refine wpAnyH_take (i := 15) (v := ?_) rfl (by kernel_rfl) (by kernel_rfl) (by kernel_rfl) (fun _ _ _ h => h) (Or.inl ⟨by kernel_rfl, ?_⟩) (by assumption) ?_
        rotate_left
        · intro w hSw
          first | (go_simp; rw [show IntKind.i64.wrap 0 = 0 from by decide]) | go_simp
          try with_reducible rfl
        simp only [Act.put, List.setIfInBounds_toArray, List.set_cons_zero, List.set_cons_succ, List.getElem_toArray, List.getElem_cons_succ, List.getElem_cons_zero]
        refine wpAnyH_take (i := 16) (v := ?_) rfl (by kernel_rfl) (by kernel_rfl) (by kernel_rfl) (fun _ _ _ h => h) (Or.inl ⟨by kernel_rfl, ?_⟩) (by assumption) ?_
        rotate_left
        · intro w hSw
          go_simp
          rw [show IntKind.i64.wrap 3 = 3 from by decide]
          try with_reducible rfl
        simp only [Act.put, List.setIfInBounds_toArray, List.set_cons_zero, List.set_cons_succ, List.getElem_toArray, List.getElem_cons_succ, List.getElem_cons_zero]
        refine wpAnyH_take (i := 17) (v := ?_) rfl (by kernel_rfl) (by kernel_rfl) (by kernel_rfl) (fun _ _ _ h => h) (Or.inl ⟨by kernel_rfl, ?_⟩) (by assumption) ?_
        rotate_left
        · intro w hSw
          go_simp
          try with_reducible rfl
        simp only [Act.put, List.setIfInBounds_toArray, List.set_cons_zero, List.set_cons_succ, List.getElem_toArray, List.getElem_cons_succ, List.getElem_cons_zero]
        refine wpAnyH_take (i := 18) (v := ?_) rfl (by kernel_rfl) (by kernel_rfl) (by kernel_rfl) (fun _ _ _ h => h) (Or.inl ⟨by kernel_rfl, ?_⟩) (by assumption) ?_
        rotate_left
        · intro w hSw
          have c0 := RD.at hSw 3 (by omega) (by omega)
          go_simp
          try with_reducible rfl
        simp only [Act.put, List.setIfInBounds_toArray, List.set_cons_zero, List.set_cons_succ, List.getElem_toArray, List.getElem_cons_succ, List.getElem_cons_zero]
        refine wpAnyH_take (i := 19) (v := ?_) rfl (by kernel_rfl) (by kernel_rfl) (by kernel_rfl) (fun _ _ _ h => h) (Or.inl ⟨by kernel_rfl, ?_⟩) (by assumption) ?_
        rotate_left
        · intro w hSw
          go_simp
          try with_reducible rfl
        simp only [Act.put, List.setIfInBounds_toArray, List.set_cons_zero, List.set_cons_succ, List.getElem_toArray, List.getElem_cons_succ, List.getElem_cons_zero]
        refine wpAnyH_ready (rs := [20, 21]) (by kernel_rfl) (by simp) ?_
        refine AllReadyH.cons rfl (fun K hK => ?_) (AllReadyH.cons rfl (fun K hK => ?_) AllReadyH.nil)
        · rw [if_pos (by kernel_rfl)]
          go_simp
          go_at_call 34
          (with_reducible refine (HC.out _).mono ?_)
          rintro e w9 ⟨rfl, hb9⟩
          refine hK.out _ _ (hHeld.keep hb9) (fun hHeld2 => ?_)
          clear hK K hHeld hb9
          have hHeld := hHeld2
          clear hHeld2
          try simp only [Act.put, List.setIfInBounds_toArray, List.set_cons_zero, List.set_cons_succ, List.getElem_toArray, List.getElem_cons_succ, List.getElem_cons_zero]
          refine wpAnyH_ready (rs := [21]) (by kernel_rfl) (by simp) ?_
          refine AllReadyH.cons rfl (fun K hK => ?_) AllReadyH.nil
          rw [if_pos (by kernel_rfl)]
          obtain ⟨a1, hR4, hne, hlt⟩ := hHeld.new4
          go_simp
          refine hK.out _ _ a1 (fun hHeld2 => ?_)
          clear hK K hHeld a1
          have hHeld := hHeld2
          clear hHeld2
          generalize World.alloc _ _ = wA at *
          generalize w9.heap.size = bm at *
          try simp only [Act.put, List.setIfInBounds_toArray, List.set_cons_zero, List.set_cons_succ, List.getElem_toArray, List.getElem_cons_succ, List.getElem_cons_zero]
          refine wpAnyH_ready (rs := [22]) (by kernel_rfl) (by simp) ?_
          refine AllReadyH.cons rfl (fun K hK => ?_) AllReadyH.nil
          rw [if_pos (by kernel_rfl)]
          have hP := Lib.hid (RD.row (c := mixN (fun r => s (0 + r))) hHeld hne hlt)
          have hP4 := Lib.hid (hR4.row (c := mixN (fun r => s (0 + r))))
          refine wp_store51 (x := .tmp 7) (y := .tmp 35) (c := mixN (fun r => s (0 + r))) ?_ ?_ ?_ hR4 ?_
          · rfl
          · rfl
          · rfl
          refine hK.out _ _ hP.out (fun hHeld2 => ?_)
          clear hK K hHeld hHeld2 hR4 hS
          try simp only [Act.put, List.setIfInBounds_toArray, List.set_cons_zero, List.set_cons_succ, List.getElem_toArray, List.getElem_cons_succ, List.getElem_cons_zero]
          refine wpAnyH_done (by kernel_rfl) ?_ _
          refine NoPanic.normal ?_
          generalize World.setRow _ _ _ = W9 at hP hP4 ⊢
          have HN : Hid (RM w f g (vK s (0 + 0)) (mixN (fun r => s (0 + r))) bs bm W9) := Lib.hid ⟨hP.out, hP4.out, hne⟩
          clear hP hP4 hne hlt
          try simp only [Int.natCast_zero, Int.natCast_one, Int.cast_ofNat_Int]
          go_wp2_with fail
          go_loopw [8] (fun v W => ∃ r : Nat, r ≤ 4 ∧ v = .int .i64 r ∧ RM w f g (vK s (0 + r)) (mixN (fun r => s (0 + r))) bs bm W) (fun v _ => 4 - (intOf v).toNat)
          case atStart => exact ⟨0, by omega, rfl, HN.out⟩
          case round =>
            obtain ⟨r, hr, rfl, hX⟩ := hrel
            have hS := Lib.hid hX
            clear hX
            by_cases hr4 : r < 4
            · have c0 := hS.out.2.1.cell r hr4
              have c1 := hS.out.1.at (0 + r) (by omega) (by omega)
              have f1 := hS.out.1.froz (0 + r)
              have HNX := Lib.hid (hS.out.next 0 r (by omega) hr4 (by decide))
              try simp only [Nat.zero_add] at c0 c1 f1 HNX
              go_wp2_with fail
              exact ⟨⟨r + 1, by omega, by simp, (by first | exact HNX.out | (simp only [Nat.zero_add]; exact HNX.out))⟩, by simp [intOf]; omega⟩
            · obtain rfl : r = 4 := by omega
              have HS3 : Hid (RD w f g (vK s (4 * 1)) bs _) := Lib.hid hS.out.1
              clear hS
              go_wp2
              exact ⟨⟨1, by omega, by simp, HS3.out⟩, by simp [intOf]⟩
        · rw [if_pos (by kernel_rfl)]
          obtain ⟨a1, hR4, hne, hlt⟩ := hHeld.new4
          go_simp
          refine hK.out _ _ a1 (fun hHeld2 => ?_)
          clear hK K hHeld a1
          have hHeld := hHeld2
          clear hHeld2
          generalize World.alloc _ _ = wA at *
          generalize v0.heap.size = bm at *
          try simp only [Act.put, List.setIfInBounds_toArray, List.set_cons_zero, List.set_cons_succ, List.getElem_toArray, List.getElem_cons_succ, List.getElem_cons_zero]
          refine wpAnyH_ready (rs := [20]) (by kernel_rfl) (by simp) ?_
          refine AllReadyH.cons rfl (fun K hK => ?_) AllReadyH.nil
          rw [if_pos (by kernel_rfl)]
          go_simp
          go_at_call 34
          (with_reducible refine (HC.out _).mono ?_)
          rintro e w9 ⟨rfl, hb9⟩
          refine hK.out _ _ (hHeld.keep hb9) (fun hHeld2 => ?_)
          have hR4 := hR4.keep hb9
          clear hK K hHeld hb9
          have hHeld := hHeld2
          clear hHeld2
          try simp only [Act.put, List.setIfInBounds_toArray, List.set_cons_zero, List.set_cons_succ, List.getElem_toArray, List.getElem_cons_succ, List.getElem_cons_zero]
          refine wpAnyH_ready (rs := [22]) (by kernel_rfl) (by simp) ?_
          refine AllReadyH.cons rfl (fun K hK => ?_) AllReadyH.nil
          rw [if_pos (by kernel_rfl)]
          have hP := Lib.hid (RD.row (c := mixN (fun r => s (0 + r))) hHeld hne hlt)
          have hP4 := Lib.hid (hR4.row (c := mixN (fun r => s (0 + r))))
          refine wp_store51 (x := .tmp 7) (y := .tmp 35) (c := mixN (fun r => s (0 + r))) ?_ ?_ ?_ hR4 ?_
          · rfl
          · rfl
          · rfl
          refine hK.out _ _ hP.out (fun hHeld2 => ?_)
          clear hK K hHeld hHeld2 hR4 hS
          try simp only [Act.put, List.setIfInBounds_toArray, List.set_cons_zero, List.set_cons_succ, List.getElem_toArray, List.getElem_cons_succ, List.getElem_cons_zero]
          refine wpAnyH_done (by kernel_rfl) ?_ _
          refine NoPanic.normal ?_
          generalize World.setRow _ _ _ = W9 at hP hP4 ⊢
          have HN : Hid (RM w f g (vK s (0 + 0)) (mixN (fun r => s (0 + r))) bs bm W9) := Lib.hid ⟨hP.out, hP4.out, hne⟩
          clear hP hP4 hne hlt
          try simp only [Int.natCast_zero, Int.natCast_one, Int.cast_ofNat_Int]
          go_wp2_with fail
          go_loopw [8] (fun v W => ∃ r : Nat, r ≤ 4 ∧ v = .int .i64 r ∧ RM w f g (vK s (0 + r)) (mixN (fun r => s (0 + r))) bs bm W) (fun v _ => 4 - (intOf v).toNat)
          case atStart => exact ⟨0, by omega, rfl, HN.out⟩
          case round =>
            obtain ⟨r, hr, rfl, hX⟩ := hrel
            have hS := Lib.hid hX
            clear hX
            by_cases hr4 : r < 4
            · have c0 := hS.out.2.1.cell r hr4
              have c1 := hS.out.1.at (0 + r) (by omega) (by omega)
              have f1 := hS.out.1.froz (0 + r)
              have HNX := Lib.hid (hS.out.next 0 r (by omega) hr4 (by decide))
              try simp only [Nat.zero_add] at c0 c1 f1 HNX
              go_wp2_with fail
              exact ⟨⟨r + 1, by omega, by simp, (by first | exact HNX.out | (simp only [Nat.zero_add]; exact HNX.out))⟩, by simp [intOf]; omega⟩
            · obtain rfl : r = 4 := by omega
              have HS3 : Hid (RD w f g (vK s (4 * 1)) bs _) := Lib.hid hS.out.1
              clear hS
              go_wp2
              exact ⟨⟨1, by omega, by simp, HS3.out⟩, by simp [intOf]⟩
      · try simp only [Int.natCast_zero, Int.natCast_one, Int.cast_ofNat_Int]
        go_upto_region 5 with fail
        have hC : ∀ W, Calls Try.prog 34 #[.agg #[.int .u8 (s 4 : Nat), .int .u8 (s 5 : Nat), .int .u8 (s 6 : Nat), .int .u8 (s 7 : Nat)]] W fun e w' => e = .returned (.agg (qA (mixN (fun r => s (4 + r))))) ∧ Below W.heap.size W w' := fun W => rmix_any (fun r => s (4 + r)) (fun _ => HSL.out _) W
        have HC := Lib.hid hC
        clear hC
        refine wp_region_noPanic ?_
        refine wp_region_held_drew (S := fun W => RD w f g (vK s (4 * 1)) bs W) (by kernel_rfl) ?_ (fun hHeld => ?_)
        · exact hS.out.keep ((Below.refl _ _).drew)
        generalize World.drew _ = v0 at hHeld ⊢
        refine wpAnyH_take (i := 0) (v := ?_) rfl (by kernel_rfl) (by kernel_rfl) (by kernel_rfl) (fun _ _ _ h => h) (Or.inl ⟨by kernel_rfl, ?_⟩) (by assumption) ?_
        rotate_left
        · intro w hSw
          go_simp
          try with_reducible rfl
        simp only [Act.put, List.setIfInBounds_toArray, List.set_cons_zero, List.set_cons_succ, List.getElem_toArray, List.getElem_cons_succ, List.getElem_cons_zero]
        refine wpAnyH_take (i := 1) (v := ?_) rfl (by kernel_rfl) (by kernel_rfl) (by kernel_rfl) (fun _ _ _ h => h) (Or.inl ⟨by kernel_rfl, ?_⟩) (by assumption) ?_
        rotate_left
        · intro w hSw
          first | (go_simp; rw [show IntKind.i64.wrap 4 = 4 from by decide]) | go_simp
          try with_reducible rfl
        simp only [Act.put, List.setIfInBounds_toArray, List.set_cons_zero, List.set_cons_succ, List.getElem_toArray, List.getElem_cons_succ, List.getElem_cons_zero]
        refine wpAnyH_take (i := 2) (v := ?_) rfl (by kernel_rfl) (by kernel_rfl) (by kernel_rfl) (fun _ _ _ h => h) (Or.inl ⟨by kernel_rfl, ?_⟩) (by assumption) ?_
        rotate_left
        · intro w hSw
          go_simp
          try with_reducible rfl
        simp only [Act.put, List.setIfInBounds_toArray, List.set_cons_zero, List.set_cons_succ, List.getElem_toArray, List.getElem_cons_succ, List.getElem_cons_zero]
        refine wpAnyH_take (i := 3) (v := ?_) rfl (by kernel_rfl) (by kernel_rfl) (by kernel_rfl) (fun _ _ _ h => h) (Or.inl ⟨by kernel_rfl, ?_⟩) (by assumption) ?_
        rotate_left
        · intro w hSw
          have c0 := RD.at hSw 4 (by omega) (by omega)
          go_simp
          try with_reducible rfl
        simp only [Act.put, List.setIfInBounds_toArray, List.set_cons_zero, List.set_cons_succ, List.getElem_toArray, List.getElem_cons_succ, List.getElem_cons_zero]
        refine wpAnyH_take (i := 4) (v := ?_) rfl (by kernel_rfl) (by kernel_rfl) (by kernel_rfl) (fun _ _ _ h => h) (Or.inl ⟨by kernel_rfl, ?_⟩) (by assumption) ?_
        rotate_left
        · intro w hSw
          go_simp
          try with_reducible rfl
        simp only [Act.put, List.setIfInBounds_toArray, List.set_cons_zero, List.set_cons_succ, List.getElem_toArray, List.getElem_cons_succ, List.getElem_cons_zero]
        refine wpAnyH_take (i := 5) (v := ?_) rfl (by kernel_rfl) (by kernel_rfl) (by kernel_rfl) (fun _ _ _ h => h) (Or.inl ⟨by kernel_rfl, ?_⟩) (by assumption) ?_
        rotate_left
        · intro w hSw
          first | (go_simp; rw [show IntKind.i64.wrap 4 = 4 from by decide]) | go_simp
          try with_reducible rfl
        simp only [Act.put, List.setIfInBounds_toArray, List.set_cons_zero, List.set_cons_succ, List.getElem_toArray, List.getElem_cons_succ, List.getElem_cons_zero]
        refine wpAnyH_take (i := 6) (v := ?_) rfl (by kernel_rfl) (by kernel_rfl) (by kernel_rfl) (fun _ _ _ h => h) (Or.inl ⟨by kernel_rfl, ?_⟩) (by assumption) ?_
        rotate_left
        · intro w hSw
          go_simp
          rw [show IntKind.i64.wrap 5 = 5 from by decide]
          try with_reducible rfl
        simp only [Act.put, List.setIfInBounds_toArray, List.set_cons_zero, List.set_cons_succ, List.getElem_toArray, List.getElem_cons_succ, List.getElem_cons_zero]
        refine wpAnyH_take (i := 7) (v := ?_) rfl (by kernel_rfl) (by kernel_rfl) (by kernel_rfl) (fun _ _ _ h => h) (Or.inl ⟨by kernel_rfl, ?_⟩) (by assumption) ?_
        rotate_left
        · intro w hSw
          go_simp
          try with_reducible rfl
        simp only [Act.put, List.setIfInBounds_toArray, List.set_cons_zero, List.set_cons_succ, List.getElem_toArray, List.getElem_cons_succ, List.getElem_cons_zero]
        refine wpAnyH_take (i := 8) (v := ?_) rfl (by kernel_rfl) (by kernel_rfl) (by kernel_rfl) (fun _ _ _ h => h) (Or.inl ⟨by kernel_rfl, ?_⟩) (by assumption) ?_
        rotate_left
        · intro w hSw
          have c0 := RD.at hSw 5 (by omega) (by omega)
          go_simp
          try with_reducible rfl
        simp only [Act.put, List.setIfInBounds_toArray, List.set_cons_zero, List.set_cons_succ, List.getElem_toArray, List.getElem_cons_succ, List.getElem_cons_zero]
        refine wpAnyH_take (i := 9) (v := ?_) rfl (by kernel_rfl) (by kernel_rfl) (by kernel_rfl) (fun _ _ _ h => h) (Or.inl ⟨by kernel_rfl, ?_⟩) (by assumption) ?_
        rotate_left
        · intro w hSw
          go_simp
          try with_reducible rfl
        simp only [Act.put, List.setIfInBounds_toArray, List.set_cons_zero, List.set_cons_succ, List.getElem_toArray, List.getElem_cons_succ, List.getElem_cons_zero]
        refine wpAnyH_take (i := 10) (v := ?_) rfl (by kernel_rfl) (by kernel_rfl) (by kernel_rfl) (fun _ _ _ h => h) (Or.inl ⟨by kernel_rfl, ?_⟩) (by assumption) ?_
        rotate_left
        · intro w hSw
          first | (go_simp; rw [show IntKind.i64.wrap 4 = 4 from by decide]) | go_simp
          try with_reducible rfl
        simp only [Act.put, List.setIfInBounds_toArray, List.set_cons_zero, List.set_cons_succ, List.getElem_toArray, List.getElem_cons_succ, List.getElem_cons_zero]
        refine wpAnyH_take (i := 11) (v := ?_) rfl (by kernel_rfl) (by kernel_rfl) (by kernel_rfl) (fun _ _ _ h => h) (Or.inl ⟨by kernel_rfl, ?_⟩) (by assumption) ?_
        rotate_left
        · intro w hSw
          go_simp
          rw [show IntKind.i64.wrap 6 = 6 from by decide]
          try with_reducible rfl
        simp only [Act.put, List.setIfInBounds_toArray, List.set_cons_zero, List.set_cons_succ, List.getElem_toArray, List.getElem_cons_succ, List.getElem_cons_zero]
        refine wpAnyH_take (i := 12) (v := ?_) rfl (by kernel_rfl) (by kernel_rfl) (by kernel_rfl) (fun _ _ _ h => h) (Or.inl ⟨by kernel_rfl, ?_⟩) (by assumption) ?_
        rotate_left
        · intro w hSw
          go_simp
          try with_reducible rfl
        simp only [Act.put, List.setIfInBounds_toArray, List.set_cons_zero, List.set_cons_succ, List.getElem_toArray, List.getElem_cons_succ, List.getElem_cons_zero]
        refine wpAnyH_take (i := 13) (v := ?_) rfl (by kernel_rfl) (by kernel_rfl) (by kernel_rfl) (fun _ _ _ h => h) (Or.inl ⟨by kernel_rfl, ?_⟩) (by assumption) ?_
        rotate_left
        · intro w hSw
          have c0 := RD.at hSw 6 (by omega) (by omega)
          go_simp
          try with_reducible rfl
        simp only [Act.put, List.setIfInBounds_toArray, List.set_cons_zero, List.set_cons_succ, List.getElem_toArray, List.getElem_cons_succ, List.getElem_cons_zero]
        refine wpAnyH_take (i := 14) (v := ?_) rfl (by kernel_rfl) (by kernel_rfl) (by kernel_rfl) (fun _ _ _ h => h) (Or.inl ⟨by kernel_rfl, ?_⟩) (by assumption) ?_
        rotate_left
        · intro w hSw
          go_simp
          try with_reducible rfl
        simp only [Act.put, List.setIfInBounds_toArray, List.set_cons_zero, List.set_cons_succ, List.getElem_toArray, List.getElem_cons_succ, List.getElem_cons_zero]
        refine wpAnyH_take (i := 15) (v := ?_) rfl (by kernel_rfl) (by kernel_rfl) (by kernel_rfl) (fun _ _ _ h => h) (Or.inl ⟨by kernel_rfl, ?_⟩) (by assumption) ?_
        rotate_left
        · intro w hSw
          first | (go_simp; rw [show IntKind.i64.wrap 4 = 4 from by decide]) | go_simp
          try with_reducible rfl
        simp only [Act.put, List.setIfInBounds_toArray, List.set_cons_zero, List.set_cons_succ, List.getElem_toArray, List.getElem_cons_succ, List.getElem_cons_zero]
        refine wpAnyH_take (i := 16) (v := ?_) rfl (by kernel_rfl) (by kernel_rfl) (by kernel_rfl) (fun _ _ _ h => h) (Or.inl ⟨by kernel_rfl, ?_⟩) (by assumption) ?_
        rotate_left
        · intro w hSw
          go_simp
          rw [show IntKind.i64.wrap 7 = 7 from by decide]
          try with_reducible rfl
        simp only [Act.put, List.setIfInBounds_toArray, List.set_cons_zero, List.set_cons_succ, List.getElem_toArray, List.getElem_cons_succ, List.getElem_cons_zero]
        refine wpAnyH_take (i := 17) (v := ?_) rfl (by kernel_rfl) (by kernel_rfl) (by kernel_rfl) (fun _ _ _ h => h) (Or.inl ⟨by kernel_rfl, ?_⟩) (by assumption) ?_
        rotate_left
        · intro w hSw
          go_simp
          try with_reducible rfl
        simp only [Act.put, List.setIfInBounds_toArray, List.set_cons_zero, List.set_cons_succ, List.getElem_toArray, List.getElem_cons_succ, List.getElem_cons_zero]
        refine wpAnyH_take (i := 18) (v := ?_) rfl (by kernel_rfl) (by kernel_rfl) (by kernel_rfl) (fun _ _ _ h => h) (Or.inl ⟨by kernel_rfl, ?_⟩) (by assumption) ?_
        rotate_left
        · intro w hSw
          have c0 := RD.at hSw 7 (by omega) (by omega)
          go_simp
          try with_reducible rfl
        simp only [Act.put, List.setIfInBounds_toArray, List.set_cons_zero, List.set_cons_succ, List.getElem_toArray, List.getElem_cons_succ, List.getElem_cons_zero]
        refine wpAnyH_take (i := 19) (v := ?_) rfl (by kernel_rfl) (by kernel_rfl) (by kernel_rfl) (fun _ _ _ h => h) (Or.inl ⟨by kernel_rfl, ?_⟩) (by assumption) ?_
        rotate_left
        · intro w hSw
          go_simp
          try with_reducible rfl
        simp only [Act.put, List.setIfInBounds_toArray, List.set_cons_zero, List.set_cons_succ, List.getElem_toArray, List.getElem_cons_succ, List.getElem_cons_zero]
        refine wpAnyH_ready (rs := [20, 21]) (by kernel_rfl) (by simp) ?_
        refine AllReadyH.cons rfl (fun K hK => ?_) (AllReadyH.cons rfl (fun K hK => ?_) AllReadyH.nil)
        · rw [if_pos (by kernel_rfl)]
          go_simp
          go_at_call 34
          (with_reducible refine (HC.out _).mono ?_)
          rintro e w9 ⟨rfl, hb9⟩
          refine hK.out _ _ (hHeld.keep hb9) (fun hHeld2 => ?_)
          clear hK K hHeld hb9
          have hHeld := hHeld2
          clear hHeld2
          try simp only [Act.put, List.setIfInBounds_toArray, List.set_cons_zero, List.set_cons_succ, List.getElem_toArray, List.getElem_cons_succ, List.getElem_cons_zero]
          refine wpAnyH_ready (rs := [21]) (by kernel_rfl) (by simp) ?_
          refine AllReadyH.cons rfl (fun K hK => ?_) AllReadyH.nil
          rw [if_pos (by kernel_rfl)]
          obtain ⟨a1, hR4, hne, hlt⟩ := hHeld.new4
          go_simp
          refine hK.out _ _ a1 (fun hHeld2 => ?_)
          clear hK K hHeld a1
          have hHeld := hHeld2
          clear hHeld2
          generalize World.alloc _ _ = wA at *
          generalize w9.heap.size = bm at *
          try simp only [Act.put, List.setIfInBounds_toArray, List.set_cons_zero, List.set_cons_succ, List.getElem_toArray, List.getElem_cons_succ, List.getElem_cons_zero]
          refine wpAnyH_ready (rs := [22]) (by kernel_rfl) (by simp) ?_
          refine AllReadyH.cons rfl (fun K hK => ?_) AllReadyH.nil
          rw [if_pos (by kernel_rfl)]
          have hP := Lib.hid (RD.row (c := mixN (fun r => s (4 + r))) hHeld hne hlt)
          have hP4 := Lib.hid (hR4.row (c := mixN (fun r => s (4 + r))))
          refine wp_store51 (x := .tmp 7) (y := .tmp 35) (c := mixN (fun r => s (4 + r))) ?_ ?_ ?_ hR4 ?_
          · rfl
          · rfl
          · rfl
          refine hK.out _ _ hP.out (fun hHeld2 => ?_)
          clear hK K hHeld hHeld2 hR4 hS
          try simp only [Act.put, List.setIfInBounds_toArray, List.set_cons_zero, List.set_cons_succ, List.getElem_toArray, List.getElem_cons_succ, List.getElem_cons_zero]
          refine wpAnyH_done (by kernel_rfl) ?_ _
          refine NoPanic.normal ?_
          generalize World.setRow _ _ _ = W9 at hP hP4 ⊢
          have HN : Hid (RM w f g (vK s (4 + 0)) (mixN (fun r => s (4 + r))) bs bm W9) := Lib.hid ⟨hP.out, hP4.out, hne⟩
          clear hP hP4 hne hlt
          try simp only [Int.natCast_zero, Int.natCast_one, Int.cast_ofNat_Int]
          go_wp2_with fail
          go_loopw [8] (fun v W => ∃ r : Nat, r ≤ 4 ∧ v = .int .i64 r ∧ RM w f g (vK s (4 + r)) (mixN (fun r => s (4 + r))) bs bm W) (fun v _ => 4 - (intOf v).toNat)
          case atStart => exact ⟨0, by omega, rfl, HN.out⟩
          case round =>
            obtain ⟨r, hr, rfl, hX⟩ := hrel
            have hS := Lib.hid hX
            clear hX
            by_cases hr4 : r < 4
            · have c0 := hS.out.2.1.cell r hr4
              have c1 := hS.out.1.at (4 + r) (by omega) (by omega)
              have f1 := hS.out.1.froz (4 + r)
              have HNX := Lib.hid (hS.out.next 4 r (by omega) hr4 (by decide))
              try simp only [Nat.zero_add] at c0 c1 f1 HNX
              go_wp2_with fail
              exact ⟨⟨r + 1, by omega, by simp, (by first | exact HNX.out | (simp only [Nat.zero_add]; exact HNX.out))⟩, by simp [intOf]; omega⟩
            · obtain rfl : r = 4 := by omega
              have HS3 : Hid (RD w f g (vK s (4 * 2)) bs _) := Lib.hid hS.out.1
              clear hS
              go_wp2
              exact ⟨⟨2, by omega, by simp, HS3.out⟩, by simp [intOf]⟩
        · rw [if_pos (by kernel_rfl)]
          obtain ⟨a1, hR4, hne, hlt⟩ := hHeld.new4
          go_simp
          refine hK.out _ _ a1 (fun hHeld2 => ?_)
          clear hK K hHeld a1
          have hHeld := hHeld2
          clear hHeld2
          generalize World.alloc _ _ = wA at *
          generalize v0.heap.size = bm at *
          try simp only [Act.put, List.setIfInBounds_toArray, List.set_cons_zero, List.set_cons_succ, List.getElem_toArray, List.getElem_cons_succ, List.getElem_cons_zero]
          refine wpAnyH_ready (rs := [20]) (by kernel_rfl) (by simp) ?_
          refine AllReadyH.cons rfl (fun K hK => ?_) AllReadyH.nil
          rw [if_pos (by kernel_rfl)]
          go_simp
          go_at_call 34
          (with_reducible refine (HC.out _).mono ?_)
          rintro e w9 ⟨rfl, hb9⟩
          refine hK.out _ _ (hHeld.keep hb9) (fun hHeld2 => ?_)
          have hR4 := hR4.keep hb9
          clear hK K hHeld hb9
          have hHeld := hHeld2
          clear hHeld2
          try simp only [Act.put, List.setIfInBounds_toArray, List.set_cons_zero, List.set_cons_succ, List.getElem_toArray, List.getElem_cons_succ, List.getElem_cons_zero]
          refine wpAnyH_ready (rs := [22]) (by kernel_rfl) (by simp) ?_
          refine AllReadyH.cons rfl (fun K hK => ?_) AllReadyH.nil
          rw [if_pos (by kernel_rfl)]
          have hP := Lib.hid (RD.row (c := mixN (fun r => s (4 + r))) hHeld hne hlt)
          have hP4 := Lib.hid (hR4.row (c := mixN (fun r => s (4 + r))))
          refine wp_store51 (x := .tmp 7) (y := .tmp 35) (c := mixN (fun r => s (4 + r))) ?_ ?_ ?_ hR4 ?_
          · rfl
          · rfl
          · rfl
          refine hK.out _ _ hP.out (fun hHeld2 => ?_)
          clear hK K hHeld hHeld2 hR4 hS
          try simp only [Act.put, List.setIfInBounds_toArray, List.set_cons_zero, List.set_cons_succ, List.getElem_toArray, List.getElem_cons_succ, List.getElem_cons_zero]
          refine wpAnyH_done (by kernel_rfl) ?_ _
          refine NoPanic.normal ?_
          generalize World.setRow _ _ _ = W9 at hP hP4 ⊢
          have HN : Hid (RM w f g (vK s (4 + 0)) (mixN (fun r => s (4 + r))) bs bm W9) := Lib.hid ⟨hP.out, hP4.out, hne⟩
          clear hP hP4 hne hlt
          try simp only [Int.natCast_zero, Int.natCast_one, Int.cast_ofNat_Int]
          go_wp2_with fail
          go_loopw [8] (fun v W => ∃ r : Nat, r ≤ 4 ∧ v = .int .i64 r ∧ RM w f g (vK s (4 + r)) (mixN (fun r => s (4 + r))) bs bm W) (fun v _ => 4 - (intOf v).toNat)
          case atStart => exact ⟨0, by omega, rfl, HN.out⟩
          case round =>
            obtain ⟨r, hr, rfl, hX⟩ := hrel
            have hS := Lib.hid hX
            clear hX
            by_cases hr4 : r < 4
            · have c0 := hS.out.2.1.cell r hr4
              have c1 := hS.out.1.at (4 + r) (by omega) (by omega)
              have f1 := hS.out.1.froz (4 + r)
              have HNX := Lib.hid (hS.out.next 4 r (by omega) hr4 (by decide))
              try simp only [Nat.zero_add] at c0 c1 f1 HNX
              go_wp2_with fail
              exact ⟨⟨r + 1, by omega, by simp, (by first | exact HNX.out | (simp only [Nat.zero_add]; exact HNX.out))⟩, by simp [intOf]; omega⟩
            · obtain rfl : r = 4 := by omega
              have HS3 : Hid (RD w f g (vK s (4 * 2)) bs _) := Lib.hid hS.out.1
              clear hS
              go_wp2
              exact ⟨⟨2, by omega, by simp, HS3.out⟩, by simp [intOf]⟩
      · try simp only [Int.natCast_zero, Int.natCast_one, Int.cast_ofNat_Int]
        go_upto_region 5 with fail
        have hC : ∀ W, Calls Try.prog 34 #[.agg #[.int .u8 (s 8 : Nat), .int .u8 (s 9 : Nat), .int .u8 (s 10 : Nat), .int .u8 (s 11 : Nat)]] W fun e w' => e = .returned (.agg (qA (mixN (fun r => s (8 + r))))) ∧ Below W.heap.size W w' := fun W => rmix_any (fun r => s (8 + r)) (fun _ => HSL.out _) W
        have HC := Lib.hid hC
        clear hC
        refine wp_region_noPanic ?_
        refine wp_region_held_drew (S := fun W => RD w f g (vK s (4 * 2)) bs W) (by kernel_rfl) ?_ (fun hHeld => ?_)
        · exact hS.out.keep ((Below.refl _ _).drew)
        generalize World.drew _ = v0 at hHeld ⊢
        refine wpAnyH_take (i := 0) (v := ?_) rfl (by kernel_rfl) (by kernel_rfl) (by kernel_rfl) (fun _ _ _ h => h) (Or.inl ⟨by kernel_rfl, ?_⟩) (by assumption) ?_
        rotate_left
        · intro w hSw
          go_simp
          try with_reducible rfl
        simp only [Act.put, List.setIfInBounds_toArray, List.set_cons_zero, List.set_cons_succ, List.getElem_toArray, List.getElem_cons_succ, List.getElem_cons_zero]
        refine wpAnyH_take (i := 1) (v := ?_) rfl (by kernel_rfl) (by kernel_rfl) (by kernel_rfl) (fun _ _ _ h => h) (Or.inl ⟨by kernel_rfl, ?_⟩) (by assumption) ?_
        rotate_left
        · intro w hSw
          first | (go_simp; rw [show IntKind.i64.wrap 8 = 8 from by decide]) | go_simp
          try with_reducible rfl
        simp only [Act.put, List.setIfInBounds_toArray, List.set_cons_zero, List.set_cons_succ, List.getElem_toArray, List.getElem_cons_succ, List.getElem_cons_zero]
        refine wpAnyH_take (i := 2) (v := ?_) rfl (by kernel_rfl) (by kernel_rfl) (by kernel_rfl) (fun _ _ _ h => h) (Or.inl ⟨by kernel_rfl, ?_⟩) (by assumption) ?_
        rotate_left
        · intro w hSw
          go_simp
          try with_reducible rfl
        simp only [Act.put, List.setIfInBounds_toArray, List.set_cons_zero, List.set_cons_succ, List.getElem_toArray, List.getElem_cons_succ, List.getElem_cons_zero]
        refine wpAnyH_take (i := 3) (v := ?_) rfl (by kernel_rfl) (by kernel_rfl) (by kernel_rfl) (fun _ _ _ h => h) (Or.inl ⟨by kernel_rfl, ?_⟩) (by assumption) ?_
        rotate_left
        · intro w hSw
          have c0 := RD.at hSw 8 (by omega) (by omega)
          go_simp
          try with_reducible rfl
        simp only [Act.put, List.setIfInBounds_toArray, List.set_cons_zero, List.set_cons_succ, List.getElem_toArray, List.getElem_cons_succ, List.getElem_cons_zero]
        refine wpAnyH_take (i := 4) (v := ?_) rfl (by kernel_rfl) (by kernel_rfl) (by kernel_rfl) (fun _ _ _ h => h) (Or.inl ⟨by kernel_rfl, ?_⟩) (by assumption) ?_
        rotate_left
        · intro w hSw
          go_simp
          try with_reducible rfl
        simp only [Act.put, List.setIfInBounds_toArray, List.set_cons_zero, List.set_cons_succ, List.getElem_toArray, List.getElem_cons_succ, List.getElem_cons_zero]
        refine wpAnyH_take (i := 5) (v := ?_) rfl (by kernel_rfl) (by kernel_rfl) (by kernel_rfl) (fun _ _ _ h => h) (Or.inl ⟨by kernel_rfl, ?_⟩) (by assumption) ?_
        rotate_left
        · intro w hSw
          first | (go_simp; rw [show IntKind.i64.wrap 8 = 8 from by decide]) | go_simp
          try with_reducible rfl
        simp only [Act.put, List.setIfInBounds_toArray, List.set_cons_zero, List.set_cons_succ, List.getElem_toArray, List.getElem_cons_succ, List.getElem_cons_zero]
        refine wpAnyH_take (i := 6) (v := ?_) rfl (by kernel_rfl) (by kernel_rfl) (by kernel_rfl) (fun _ _ _ h => h) (Or.inl ⟨by kernel_rfl, ?_⟩) (by assumption) ?_
        rotate_left
        · intro w hSw
          go_simp
          rw [show IntKind.i64.wrap 9 = 9 from by decide]
          try with_reducible rfl
        simp only [Act.put, List.setIfInBounds_toArray, List.set_cons_zero, List.set_cons_succ, List.getElem_toArray, List.getElem_cons_succ, List.getElem_cons_zero]
        refine wpAnyH_take (i := 7) (v := ?_) rfl (by kernel_rfl) (by kernel_rfl) (by kernel_rfl) (fun _ _ _ h => h) (Or.inl ⟨by kernel_rfl, ?_⟩) (by assumption) ?_
        rotate_left
        · intro w hSw
          go_simp
          try with_reducible rfl
        simp only [Act.put, List.setIfInBounds_toArray, List.set_cons_zero, List.set_cons_succ, List.getElem_toArray, List.getElem_cons_succ, List.getElem_cons_zero]
        refine wpAnyH_take (i := 8) (v := ?_) rfl (by kernel_rfl) (by kernel_rfl) (by kernel_rfl) (fun _ _ _ h => h) (Or.inl ⟨by kernel_rfl, ?_⟩) (by assumption) ?_
        rotate_left
        · intro w hSw
          have c0 := RD.at hSw 9 (by omega) (by omega)
          go_simp
          try with_reducible rfl
        simp only [Act.put, List.setIfInBounds_toArray, List.set_cons_zero, List.set_cons_succ, List.getElem_toArray, List.getElem_cons_succ, List.getElem_cons_zero]
        refine wpAnyH_take (i := 9) (v := ?_) rfl (by kernel_rfl) (by kernel_rfl) (by kernel_rfl) (fun _ _ _ h => h) (Or.inl ⟨by kernel_rfl, ?_⟩) (by assumption) ?_
        rotate_left
        · intro w hSw
          go_simp
          try with_reducible rfl
        simp only [Act.put, List.setIfInBounds_toArray, List.set_cons_zero, List.set_cons_succ, List.getElem_toArray, List.getElem_cons_succ, List.getElem_cons_zero]
        refine wpAnyH_take (i := 10) (v := ?_) rfl (by kernel_rfl) (by kernel_rfl) (by kernel_rfl) (fun _ _ _ h => h) (Or.inl ⟨by kernel_rfl, ?_⟩) (by assumption) ?_
        rotate_left
        · intro w hSw
          first | (go_simp; rw [show IntKind.i64.wrap 8 = 8 from by decide]) | go_simp
          try with_reducible rfl
        simp only [Act.put, List.setIfInBounds_toArray, List.set_cons_zero, List.set_cons_succ, List.getElem_toArray, List.getElem_cons_succ, List.getElem_cons_zero]
        refine wpAnyH_take (i := 11) (v := ?_) rfl (by kernel_rfl) (by kernel_rfl) (by kernel_rfl) (fun _ _ _ h => h) (Or.inl ⟨by kernel_rfl, ?_⟩) (by assumption) ?_
        rotate_left
        · intro w hSw
          go_simp
          rw [show IntKind.i64.wrap 10 = 10 from by decide]
          try with_reducible rfl
        simp only [Act.put, List.setIfInBounds_toArray, List.set_cons_zero, List.set_cons_succ, List.getElem_toArray, List.getElem_cons_succ, List.getElem_cons_zero]
        refine wpAnyH_take (i := 12) (v := ?_) rfl (by kernel_rfl) (by kernel_rfl) (by kernel_rfl) (fun _ _ _ h => h) (Or.inl ⟨by kernel_rfl, ?_⟩) (by assumption) ?_
        rotate_left
        · intro w hSw
          go_simp
          try with_reducible rfl
        simp only [Act.put, List.setIfInBounds_toArray, List.set_cons_zero, List.set_cons_succ, List.getElem_toArray, List.getElem_cons_succ, List.getElem_cons_zero]
        refine wpAnyH_take (i := 13) (v := ?_) rfl (by kernel_rfl) (by kernel_rfl) (by kernel_rfl) (fun _ _ _ h => h) (Or.inl ⟨by kernel_rfl, ?_⟩) (by assumption) ?_
        rotate_left
        · intro w hSw
          have c0 := RD.at hSw 10 (by omega) (by omega)
          go_simp
          try with_reducible rfl
        simp only [Act.put, List.setIfInBounds_toArray, List.set_cons_zero, List.set_cons_succ, List.getElem_toArray, List.getElem_cons_succ, List.getElem_cons_zero]
        refine wpAnyH_take (i := 14) (v := ?_) rfl (by kernel_rfl) (by kernel_rfl) (by kernel_rfl) (fun _ _ _ h => h) (Or.inl ⟨by kernel_rfl, ?_⟩) (by assumption) ?_
        rotate_left
        · intro w hSw
          go_simp
          try with_reducible rfl
        simp only [Act.put, List.setIfInBounds_toArray, List.set_cons_zero, List.set_cons_succ, List.getElem_toArray, List.getElem_cons_succ, List.getElem_cons_zero]
        refine wpAnyH_take (i := 15) (v := ?_) rfl (by kernel_rfl) (by kernel_rfl) (by kernel_rfl) (fun _ _ _ h => h) (Or.inl ⟨by kernel_rfl, ?_⟩) (by assumption) ?_
        rotate_left
        · intro w hSw
          first | (go_simp; rw [show IntKind.i64.wrap 8 = 8 from by decide]) | go_simp
          try with_reducible rfl
        simp only [Act.put, List.setIfInBounds_toArray, List.set_cons_zero, List.set_cons_succ, List.getElem_toArray, List.getElem_cons_succ, List.getElem_cons_zero]
        refine wpAnyH_take (i := 16) (v := ?_) rfl (by kernel_rfl) (by kernel_rfl) (by kernel_rfl) (fun _ _ _ h => h) (Or.inl ⟨by kernel_rfl, ?_⟩) (by assumption) ?_
        rotate_left
        · intro w hSw
          go_simp
          rw [show IntKind.i64.wrap 11 = 11 from by decide]
          try with_reducible rfl
        simp only [Act.put, List.setIfInBounds_toArray, List.set_cons_zero, List.set_cons_succ, List.getElem_toArray, List.getElem_cons_succ, List.getElem_cons_zero]
        refine wpAnyH_take (i := 17) (v := ?_) rfl (by kernel_rfl) (by kernel_rfl) (by kernel_rfl) (fun _ _ _ h => h) (Or.inl ⟨by kernel_rfl, ?_⟩) (by assumption) ?_
        rotate_left
        · intro w hSw
          go_simp
          try with_reducible rfl
        simp only [Act.put, List.setIfInBounds_toArray, List.set_cons_zero, List.set_cons_succ, List.getElem_toArray, List.getElem_cons_succ, List.getElem_cons_zero]
        refine wpAnyH_take (i := 18) (v := ?_) rfl (by kernel_rfl) (by kernel_rfl) (by kernel_rfl) (fun _ _ _ h => h) (Or.inl ⟨by kernel_rfl, ?_⟩) (by assumption) ?_
        rotate_left
        · intro w hSw
          have c0 := RD.at hSw 11 (by omega) (by omega)
          go_simp
          try with_reducible rfl
        simp only [Act.put, List.setIfInBounds_toArray, List.set_cons_zero, List.set_cons_succ, List.getElem_toArray, List.getElem_cons_succ, List.getElem_cons_zero]
        refine wpAnyH_take (i := 19) (v := ?_) rfl (by kernel_rfl) (by kernel_rfl) (by kernel_rfl) (fun _ _ _ h => h) (Or.inl ⟨by kernel_rfl, ?_⟩) (by assumption) ?_
        rotate_left
        · intro w hSw
          go_simp
          try with_reducible rfl
        simp only [Act.put, List.setIfInBounds_toArray, List.set_cons_zero, List.set_cons_succ, List.getElem_toArray, List.getElem_cons_succ, List.getElem_cons_zero]
        refine wpAnyH_ready (rs := [20, 21]) (by kernel_rfl) (by simp) ?_
        refine AllReadyH.cons rfl (fun K hK => ?_) (AllReadyH.cons rfl (fun K hK => ?_) AllReadyH.nil)
        · rw [if_pos (by kernel_rfl)]
          go_simp
          go_at_call 34
          (with_reducible refine (HC.out _).mono ?_)
          rintro e w9 ⟨rfl, hb9⟩
          refine hK.out _ _ (hHeld.keep hb9) (fun hHeld2 => ?_)
          clear hK K hHeld hb9
          have hHeld := hHeld2
          clear hHeld2
          try simp only [Act.put, List.setIfInBounds_toArray, List.set_cons_zero, List.set_cons_succ, List.getElem_toArray, List.getElem_cons_succ, List.getElem_cons_zero]
          refine wpAnyH_ready (rs := [21]) (by kernel_rfl) (by simp) ?_
          refine AllReadyH.cons rfl (fun K hK => ?_) AllReadyH.nil
          rw [if_pos (by kernel_rfl)]
          obtain ⟨a1, hR4, hne, hlt⟩ := hHeld.new4
          go_simp
          refine hK.out _ _ a1 (fun hHeld2 => ?_)
          clear hK K hHeld a1
          have hHeld := hHeld2
          clear hHeld2
          generalize World.alloc _ _ = wA at *
          generalize w9.heap.size = bm at *
          try simp only [Act.put, List.setIfInBounds_toArray, List.set_cons_zero, List.set_cons_succ, List.getElem_toArray, List.getElem_cons_succ, List.getElem_cons_zero]
          refine wpAnyH_ready (rs := [22]) (by kernel_rfl) (by simp) ?_
          refine AllReadyH.cons rfl (fun K hK => ?_) AllReadyH.nil
          rw [if_pos (by kernel_rfl)]
          have hP := Lib.hid (RD.row (c := mixN (fun r => s (8 + r))) hHeld hne hlt)
          have hP4 := Lib.hid (hR4.row (c := mixN (fun r => s (8 + r))))
          refine wp_store51 (x := .tmp 7) (y := .tmp 35) (c := mixN (fun r => s (8 + r))) ?_ ?_ ?_ hR4 ?_
          · rfl
          · rfl
          · rfl
          refine hK.out _ _ hP.out (fun hHeld2 => ?_)
          clear hK K hHeld hHeld2 hR4 hS
          try simp only [Act.put, List.setIfInBounds_toArray, List.set_cons_zero, List.set_cons_succ, List.getElem_toArray, List.getElem_cons_succ, List.getElem_cons_zero]
          refine wpAnyH_done (by kernel_rfl) ?_ _
          refine NoPanic.normal ?_
          generalize World.setRow _ _ _ = W9 at hP hP4 ⊢
          have HN : Hid (RM w f g (vK s (8 + 0)) (mixN (fun r => s (8 + r))) bs bm W9) := Lib.hid ⟨hP.out, hP4.out, hne⟩
          clear hP hP4 hne hlt
          try simp only [Int.natCast_zero, Int.natCast_one, Int.cast_ofNat_Int]
          go_wp2_with fail
          go_loopw [8] (fun v W => ∃ r : Nat, r ≤ 4 ∧ v = .int .i64 r ∧ RM w f g (vK s (8 + r)) (mixN (fun r => s (8 + r))) bs bm W) (fun v _ => 4 - (intOf v).toNat)
          case atStart => exact ⟨0, by omega, rfl, HN.out⟩
          case round =>
            obtain ⟨r, hr, rfl, hX⟩ := hrel
            have hS := Lib.hid hX
            clear hX
            by_cases hr4 : r < 4
            · have c0 := hS.out.2.1.cell r hr4
              have c1 := hS.out.1.at (8 + r) (by omega) (by omega)
              have f1 := hS.out.1.froz (8 + r)
              have HNX := Lib.hid (hS.out.next 8 r (by omega) hr4 (by decide))
              try simp only [Nat.zero_add] at c0 c1 f1 HNX
              go_wp2_with fail
              exact ⟨⟨r + 1, by omega, by simp, (by first | exact HNX.out | (simp only [Nat.zero_add]; exact HNX.out))⟩, by simp [intOf]; omega⟩
            · obtain rfl : r = 4 := by omega
              have HS3 : Hid (RD w f g (vK s (4 * 3)) bs _) := Lib.hid hS.out.1
              clear hS
              go_wp2
              exact ⟨⟨3, by omega, by simp, HS3.out⟩, by simp [intOf]⟩
        · rw [if_pos (by kernel_rfl)]
          obtain ⟨a1, hR4, hne, hlt⟩ := hHeld.new4
          go_simp
          refine hK.out _ _ a1 (fun hHeld2 => ?_)
          clear hK K hHeld a1
          have hHeld := hHeld2
          clear hHeld2
          generalize World.alloc _ _ = wA at *
          generalize v0.heap.size = bm at *
          try simp only [Act.put, List.setIfInBounds_toArray, List.set_cons_zero, List.set_cons_succ, List.getElem_toArray, List.getElem_cons_succ, List.getElem_cons_zero]
          refine wpAnyH_ready (rs := [20]) (by kernel_rfl) (by simp) ?_
          refine AllReadyH.cons rfl (fun K hK => ?_) AllReadyH.nil
          rw [if_pos (by kernel_rfl)]
          go_simp
          go_at_call 34
          (with_reducible refine (HC.out _).mono ?_)
          rintro e w9 ⟨rfl, hb9⟩
          refine hK.out _ _ (hHeld.keep hb9) (fun hHeld2 => ?_)
          have hR4 := hR4.keep hb9
          clear hK K hHeld hb9
          have hHeld := hHeld2
          clear hHeld2
          try simp only [Act.put, List.setIfInBounds_toArray, List.set_cons_zero, List.set_cons_succ, List.getElem_toArray, List.getElem_cons_succ, List.getElem_cons_zero]
          refine wpAnyH_ready (rs := [22]) (by kernel_rfl) (by simp) ?_
          refine AllReadyH.cons rfl (fun K hK => ?_) AllReadyH.nil
          rw [if_pos (by kernel_rfl)]
          have hP := Lib.hid (RD.row (c := mixN (fun r => s (8 + r))) hHeld hne hlt)
          have hP4 := Lib.hid (hR4.row (c := mixN (fun r => s (8 + r))))
          refine wp_store51 (x := .tmp 7) (y := .tmp 35) (c := mixN (fun r => s (8 + r))) ?_ ?_ ?_ hR4 ?_
          · rfl
          · rfl
          · rfl
          refine hK.out _ _ hP.out (fun hHeld2 => ?_)
          clear hK K hHeld hHeld2 hR4 hS
          try simp only [Act.put, List.setIfInBounds_toArray, List.set_cons_zero, List.set_cons_succ, List.getElem_toArray, List.getElem_cons_succ, List.getElem_cons_zero]
          refine wpAnyH_done (by kernel_rfl) ?_ _
          refine NoPanic.normal ?_
          generalize World.setRow _ _ _ = W9 at hP hP4 ⊢
          have HN : Hid (RM w f g (vK s (8 + 0)) (mixN (fun r => s (8 + r))) bs bm W9) := Lib.hid ⟨hP.out, hP4.out, hne⟩
          clear hP hP4 hne hlt
          try simp only [Int.natCast_zero, Int.natCast_one, Int.cast_ofNat_Int]
          go_wp2_with fail
          go_loopw [8] (fun v W => ∃ r : Nat, r ≤ 4 ∧ v = .int .i64 r ∧ RM w f g (vK s (8 + r)) (mixN (fun r => s (8 + r))) bs bm W) (fun v _ => 4 - (intOf v).toNat)
          case atStart => exact ⟨0, by omega, rfl, HN.out⟩
          case round =>
            obtain ⟨r, hr, rfl, hX⟩ := hrel
            have hS := Lib.hid hX
            clear hX
            by_cases hr4 : r < 4
            · have c0 := hS.out.2.1.cell r hr4
              have c1 := hS.out.1.at (8 + r) (by omega) (by omega)
              have f1 := hS.out.1.froz (8 + r)
              have HNX := Lib.hid (hS.out.next 8 r (by omega) hr4 (by decide))
              try simp only [Nat.zero_add] at c0 c1 f1 HNX
              go_wp2_with fail
              exact ⟨⟨r + 1, by omega, by simp, (by first | exact HNX.out | (simp only [Nat.zero_add]; exact HNX.out))⟩, by simp [intOf]; omega⟩
            · obtain rfl : r = 4 := by omega
              have HS3 : Hid (RD w f g (vK s (4 * 3)) bs _) := Lib.hid hS.out.1
              clear hS
              go_wp2
              exact ⟨⟨3, by omega, by simp, HS3.out⟩, by simp [intOf]⟩
      · try simp only [Int.natCast_zero, Int.natCast_one, Int.cast_ofNat_Int]
        go_upto_region 5 with fail
        have hC : ∀ W, Calls Try.prog 34 #[.agg #[.int .u8 (s 12 : Nat), .int .u8 (s 13 : Nat), .int .u8 (s 14 : Nat), .int .u8 (s 15 : Nat)]] W fun e w' => e = .returned (.agg (qA (mixN (fun r => s (12 + r))))) ∧ Below W.heap.size W w' := fun W => rmix_any (fun r => s (12 + r)) (fun _ => HSL.out _) W
        have HC := Lib.hid hC
        clear hC
        refine wp_region_noPanic ?_
        refine wp_region_held_drew (S := fun W => RD w f g (vK s (4 * 3)) bs W) (by kernel_rfl) ?_ (fun hHeld => ?_)
        · exact hS.out.keep ((Below.refl _ _).drew)
        generalize World.drew _ = v0 at hHeld ⊢
        refine wpAnyH_take (i := 0) (v := ?_) rfl (by kernel_rfl) (by kernel_rfl) (by kernel_rfl) (fun _ _ _ h => h) (Or.inl ⟨by kernel_rfl, ?_⟩) (by assumption) ?_
        rotate_left
        · intro w hSw
          go_simp
          try with_reducible rfl
        simp only [Act.put, List.setIfInBounds_toArray, List.set_cons_zero, List.set_cons_succ, List.getElem_toArray, List.getElem_cons_succ, List.getElem_cons_zero]
        refine wpAnyH_take (i := 1) (v := ?_) rfl (by kernel_rfl) (by kernel_rfl) (by kernel_rfl) (fun _ _ _ h => h) (Or.inl ⟨by kernel_rfl, ?_⟩) (by assumption) ?_
        rotate_left
        · intro w hSw
          first | (go_simp; rw [show IntKind.i64.wrap 12 = 12 from by decide]) | go_simp
          try with_reducible rfl
        simp only [Act.put, List.setIfInBounds_toArray, List.set_cons_zero, List.set_cons_succ, List.getElem_toArray, List.getElem_cons_succ, List.getElem_cons_zero]
        refine wpAnyH_take (i := 2) (v := ?_) rfl (by kernel_rfl) (by kernel_rfl) (by kernel_rfl) (fun _ _ _ h => h) (Or.inl ⟨by kernel_rfl, ?_⟩) (by assumption) ?_
        rotate_left
        · intro w hSw
          go_simp
          try with_reducible rfl
        simp only [Act.put, List.setIfInBounds_toArray, List.set_cons_zero, List.set_cons_succ, List.getElem_toArray, List.getElem_cons_succ, List.getElem_cons_zero]
        refine wpAnyH_take (i := 3) (v := ?_) rfl (by kernel_rfl) (by kernel_rfl) (by kernel_rfl) (fun _ _ _ h => h) (Or.inl ⟨by kernel_rfl, ?_⟩) (by assumption) ?_
        rotate_left
        · intro w hSw
          have c0 := RD.at hSw 12 (by omega) (by omega)
          go_simp
          try with_reducible rfl
        simp only [Act.put, List.setIfInBounds_toArray, List.set_cons_zero, List.set_cons_succ, List.getElem_toArray, List.getElem_cons_succ, List.getElem_cons_zero]
        refine wpAnyH_take (i := 4) (v := ?_) rfl (by kernel_rfl) (by kernel_rfl) (by kernel_rfl) (fun _ _ _ h => h) (Or.inl ⟨by kernel_rfl, ?_⟩) (by assumption) ?_
        rotate_left
        · intro w hSw
          go_simp
          try with_reducible rfl
        simp only [Act.put, List.setIfInBounds_toArray, List.set_cons_zero, List.set_cons_succ, List.getElem_toArray, List.getElem_cons_succ, List.getElem_cons_zero]
        refine wpAnyH_take (i := 5) (v := ?_) rfl (by kernel_rfl) (by kernel_rfl) (by kernel_rfl) (fun _ _ _ h => h) (Or.inl ⟨by kernel_rfl, ?_⟩) (by assumption) ?_
        rotate_left
        · intro w hSw
          first | (go_simp; rw [show IntKind.i64.wrap 12 = 12 from by decide]) | go_simp
          try with_reducible rfl
        simp only [Act.put, List.setIfInBounds_toArray, List.set_cons_zero, List.set_cons_succ, List.getElem_toArray, List.getElem_cons_succ, List.getElem_cons_zero]
        refine wpAnyH_take (i := 6) (v := ?_) rfl (by kernel_rfl) (by kernel_rfl) (by kernel_rfl) (fun _ _ _ h => h) (Or.inl ⟨by kernel_rfl, ?_⟩) (by assumption) ?_
        rotate_left
        · intro w hSw
          go_simp
          rw [show IntKind.i64.wrap 13 = 13 from by decide]
          try with_reducible rfl
        simp only [Act.put, List.setIfInBounds_toArray, List.set_cons_zero, List.set_cons_succ, List.getElem_toArray, List.getElem_cons_succ, List.getElem_cons_zero]
        refine wpAnyH_take (i := 7) (v := ?_) rfl (by kernel_rfl) (by kernel_rfl) (by kernel_rfl) (fun _ _ _ h => h) (Or.inl ⟨by kernel_rfl, ?_⟩) (by assumption) ?_
        rotate_left
        · intro w hSw
          go_simp
          try with_reducible rfl
        simp only [Act.put, List.setIfInBounds_toArray, List.set_cons_zero, List.set_cons_succ, List.getElem_toArray, List.getElem_cons_succ, List.getElem_cons_zero]
        refine wpAnyH_take (i := 8) (v := ?_) rfl (by kernel_rfl) (by kernel_rfl) (by kernel_rfl) (fun _ _ _ h => h) (Or.inl ⟨by kernel_rfl, ?_⟩) (by assumption) ?_
        rotate_left
        · intro w hSw
          have c0 := RD.at hSw 13 (by omega) (by omega)
          go_simp
          try with_reducible rfl
        simp only [Act.put, List.setIfInBounds_toArray, List.set_cons_zero, List.set_cons_succ, List.getElem_toArray, List.getElem_cons_succ, List.getElem_cons_zero]
        refine wpAnyH_take (i := 9) (v := ?_) rfl (by kernel_rfl) (by kernel_rfl) (by kernel_rfl) (fun _ _ _ h => h) (Or.inl ⟨by kernel_rfl, ?_⟩) (by assumption) ?_
        rotate_left
        · intro w hSw
          go_simp
          try with_reducible rfl
        simp only [Act.put, List.setIfInBounds_toArray, List.set_cons_zero, List.set_cons_succ, List.getElem_toArray, List.getElem_cons_succ, List.getElem_cons_zero]
        refine wpAnyH_take (i := 10) (v := ?_) rfl (by kernel_rfl) (by kernel_rfl) (by kernel_rfl) (fun _ _ _ h => h) (Or.inl ⟨by kernel_rfl, ?_⟩) (by assumption) ?_
        rotate_left
        · intro w hSw
          first | (go_simp; rw [show IntKind.i64.wrap 12 = 12 from by decide]) | go_simp
          try with_reducible rfl
        simp only [Act.put, List.setIfInBounds_toArray, List.set_cons_zero, List.set_cons_succ, List.getElem_toArray, List.getElem_cons_succ, List.getElem_cons_zero]
        refine wpAnyH_take (i := 11) (v := ?_) rfl (by kernel_rfl) (by kernel_rfl) (by kernel_rfl) (fun _ _ _ h => h) (Or.inl ⟨by kernel_rfl, ?_⟩) (by assumption) ?_
        rotate_left
        · intro w hSw
          go_simp
          rw [show IntKind.i64.wrap 14 = 14 from by decide]
          try with_reducible rfl
        simp only [Act.put, List.setIfInBounds_toArray, List.set_cons_zero, List.set_cons_succ, List.getElem_toArray, List.getElem_cons_succ, List.getElem_cons_zero]
        refine wpAnyH_take (i := 12) (v := ?_) rfl (by kernel_rfl) (by kernel_rfl) (by kernel_rfl) (fun _ _ _ h => h) (Or.inl ⟨by kernel_rfl, ?_⟩) (by assumption) ?_
        rotate_left
        · intro w hSw
          go_simp
          try with_reducible rfl
        simp only [Act.put, List.setIfInBounds_toArray, List.set_cons_zero, List.set_cons_succ, List.getElem_toArray, List.getElem_cons_succ, List.getElem_cons_zero]
        refine wpAnyH_take (i := 13) (v := ?_) rfl (by kernel_rfl) (by kernel_rfl) (by kernel_rfl) (fun _ _ _ h => h) (Or.inl ⟨by kernel_rfl, ?_⟩) (by assumption) ?_
        rotate_left
        · intro w hSw
          have c0 := RD.at hSw 14 (by omega) (by omega)
          go_simp
          try with_reducible rfl
        simp only [Act.put, List.setIfInBounds_toArray, List.set_cons_zero, List.set_cons_succ, List.getElem_toArray, List.getElem_cons_succ, List.getElem_cons_zero]
        refine wpAnyH_take (i := 14) (v := ?_) rfl (by kernel_rfl) (by kernel_rfl) (by kernel_rfl) (fun _ _ _ h => h) (Or.inl ⟨by kernel_rfl, ?_⟩) (by assumption) ?_
        rotate_left
        · intro w hSw
          go_simp
          try with_reducible rfl
        simp only [Act.put, List.setIfInBounds_toArray, List.set_cons_zero, List.set_cons_succ, List.getElem_toArray, List.getElem_cons_succ, List.getElem_cons_zero]
        refine wpAnyH_take (i := 15) (v := ?_) rfl (by kernel_rfl) (by kernel_rfl) (by kernel_rfl) (fun _ _ _ h => h) (Or.inl ⟨by kernel_rfl, ?_⟩) (by assumption) ?_
        rotate_left
        · intro w hSw
          first | (go_simp; rw [show IntKind.i64.wrap 12 = 12 from by decide]) | go_simp
          try with_reducible rfl
        simp only [Act.put, List.setIfInBounds_toArray, List.set_cons_zero, List.set_cons_succ, List.getElem_toArray, List.getElem_cons_succ, List.getElem_cons_zero]
        refine wpAnyH_take (i := 16) (v := ?_) rfl (by kernel_rfl) (by kernel_rfl) (by kernel_rfl) (fun _ _ _ h => h) (Or.inl ⟨by kernel_rfl, ?_⟩) (by assumption) ?_
        rotate_left
        · intro w hSw
          go_simp
          rw [show IntKind.i64.wrap 15 = 15 from by decide]
          try with_reducible rfl
        simp only [Act.put, List.setIfInBounds_toArray, List.set_cons_zero, List.set_cons_succ, List.getElem_toArray, List.getElem_cons_succ, List.getElem_cons_zero]
        refine wpAnyH_take (i := 17) (v := ?_) rfl (by kernel_rfl) (by kernel_rfl) (by kernel_rfl) (fun _ _ _ h => h) (Or.inl ⟨by kernel_rfl, ?_⟩) (by assumption) ?_
        rotate_left
        · intro w hSw
          go_simp
          try with_reducible rfl
        simp only [Act.put, List.setIfInBounds_toArray, List.set_cons_zero, List.set_cons_succ, List.getElem_toArray, List.getElem_cons_succ, List.getElem_cons_zero]
        refine wpAnyH_take (i := 18) (v := ?_) rfl (by kernel_rfl) (by kernel_rfl) (by kernel_rfl) (fun _ _ _ h => h) (Or.inl ⟨by kernel_rfl, ?_⟩) (by assumption) ?_
        rotate_left
        · intro w hSw
          have c0 := RD.at hSw 15 (by omega) (by omega)
          go_simp
          try with_reducible rfl
        simp only [Act.put, List.setIfInBounds_toArray, List.set_cons_zero, List.set_cons_succ, List.getElem_toArray, List.getElem_cons_succ, List.getElem_cons_zero]
        refine wpAnyH_take (i := 19) (v := ?_) rfl (by kernel_rfl) (by kernel_rfl) (by kernel_rfl) (fun _ _ _ h => h) (Or.inl ⟨by kernel_rfl, ?_⟩) (by assumption) ?_
        rotate_left
        · intro w hSw
          go_simp
          try with_reducible rfl
        simp only [Act.put, List.setIfInBounds_toArray, List.set_cons_zero, List.set_cons_succ, List.getElem_toArray, List.getElem_cons_succ, List.getElem_cons_zero]
        refine wpAnyH_ready (rs := [20, 21]) (by kernel_rfl) (by simp) ?_
        refine AllReadyH.cons rfl (fun K hK => ?_) (AllReadyH.cons rfl (fun K hK => ?_) AllReadyH.nil)
        · rw [if_pos (by kernel_rfl)]
          go_simp
          go_at_call 34
          (with_reducible refine (HC.out _).mono ?_)
          rintro e w9 ⟨rfl, hb9⟩
          refine hK.out _ _ (hHeld.keep hb9) (fun hHeld2 => ?_)
          clear hK K hHeld hb9
          have hHeld := hHeld2
          clear hHeld2
          try simp only [Act.put, List.setIfInBounds_toArray, List.set_cons_zero, List.set_cons_succ, List.getElem_toArray, List.getElem_cons_succ, List.getElem_cons_zero]
          refine wpAnyH_ready (rs := [21]) (by kernel_rfl) (by simp) ?_
          refine AllReadyH.cons rfl (fun K hK => ?_) AllReadyH.nil
          rw [if_pos (by kernel_rfl)]
          obtain ⟨a1, hR4, hne, hlt⟩ := hHeld.new4
          go_simp
          refine hK.out _ _ a1 (fun hHeld2 => ?_)
          clear hK K hHeld a1
          have hHeld := hHeld2
          clear hHeld2
          generalize World.alloc _ _ = wA at *
          generalize w9.heap.size = bm at *
          try simp only [Act.put, List.setIfInBounds_toArray, List.set_cons_zero, List.set_cons_succ, List.getElem_toArray, List.getElem_cons_succ, List.getElem_cons_zero]
          refine wpAnyH_ready (rs := [22]) (by kernel_rfl) (by simp) ?_
          refine AllReadyH.cons rfl (fun K hK => ?_) AllReadyH.nil
          rw [if_pos (by kernel_rfl)]
          have hP := Lib.hid (RD.row (c := mixN (fun r => s (12 + r))) hHeld hne hlt)
          have hP4 := Lib.hid (hR4.row (c := mixN (fun r => s (12 + r))))
          refine wp_store51 (x := .tmp 7) (y := .tmp 35) (c := mixN (fun r => s (12 + r))) ?_ ?_ ?_ hR4 ?_
          · rfl
          · rfl
          · rfl
          refine hK.out _ _ hP.out (fun hHeld2 => ?_)
          clear hK K hHeld hHeld2 hR4 hS
          try simp only [Act.put, List.setIfInBounds_toArray, List.set_cons_zero, List.set_cons_succ, List.getElem_toArray, List.getElem_cons_succ, List.getElem_cons_zero]
          refine wpAnyH_done (by kernel_rfl) ?_ _
          refine NoPanic.normal ?_
          generalize World.setRow _ _ _ = W9 at hP hP4 ⊢
          have HN : Hid (RM w f g (vK s (12 + 0)) (mixN (fun r => s (12 + r))) bs bm W9) := Lib.hid ⟨hP.out, hP4.out, hne⟩
          clear hP hP4 hne hlt
          try simp only [Int.natCast_zero, Int.natCast_one, Int.cast_ofNat_Int]
          go_wp2_with fail
          go_loopw [8] (fun v W => ∃ r : Nat, r ≤ 4 ∧ v = .int .i64 r ∧ RM w f g (vK s (12 + r)) (mixN (fun r => s (12 + r))) bs bm W) (fun v _ => 4 - (intOf v).toNat)
          case atStart => exact ⟨0, by omega, rfl, HN.out⟩
          case round =>
            obtain ⟨r, hr, rfl, hX⟩ := hrel
            have hS := Lib.hid hX
            clear hX
            by_cases hr4 : r < 4
            · have c0 := hS.out.2.1.cell r hr4
              have c1 := hS.out.1.at (12 + r) (by omega) (by omega)
              have f1 := hS.out.1.froz (12 + r)
              have HNX := Lib.hid (hS.out.next 12 r (by omega) hr4 (by decide))
              try simp only [Nat.zero_add] at c0 c1 f1 HNX
              go_wp2_with fail
              exact ⟨⟨r + 1, by omega, by simp, (by first | exact HNX.out | (simp only [Nat.zero_add]; exact HNX.out))⟩, by simp [intOf]; omega⟩
            · obtain rfl : r = 4 := by omega
              have HS3 : Hid (RD w f g (vK s (4 * 4)) bs _) := Lib.hid hS.out.1
              clear hS
              go_wp2
              exact ⟨⟨4, by omega, by simp, HS3.out⟩, by simp [intOf]⟩
        · rw [if_pos (by kernel_rfl)]
          obtain ⟨a1, hR4, hne, hlt⟩ := hHeld.new4
          go_simp
          refine hK.out _ _ a1 (fun hHeld2 => ?_)
          clear hK K hHeld a1
          have hHeld := hHeld2
          clear hHeld2
          generalize World.alloc _ _ = wA at *
          generalize v0.heap.size = bm at *
          try simp only [Act.put, List.setIfInBounds_toArray, List.set_cons_zero, List.set_cons_succ, List.getElem_toArray, List.getElem_cons_succ, List.getElem_cons_zero]
          refine wpAnyH_ready (rs := [20]) (by kernel_rfl) (by simp) ?_
          refine AllReadyH.cons rfl (fun K hK => ?_) AllReadyH.nil
          rw [if_pos (by kernel_rfl)]
          go_simp
          go_at_call 34
          (with_reducible refine (HC.out _).mono ?_)
          rintro e w9 ⟨rfl, hb9⟩
          refine hK.out _ _ (hHeld.keep hb9) (fun hHeld2 => ?_)
          have hR4 := hR4.keep hb9
          clear hK K hHeld hb9
          have hHeld := hHeld2
          clear hHeld2
          try simp only [Act.put, List.setIfInBounds_toArray, List.set_cons_zero, List.set_cons_succ, List.getElem_toArray, List.getElem_cons_succ, List.getElem_cons_zero]
          refine wpAnyH_ready (rs := [22]) (by kernel_rfl) (by simp) ?_
          refine AllReadyH.cons rfl (fun K hK => ?_) AllReadyH.nil
          rw [if_pos (by kernel_rfl)]
          have hP := Lib.hid (RD.row (c := mixN (fun r => s (12 + r))) hHeld hne hlt)
          have hP4 := Lib.hid (hR4.row (c := mixN (fun r => s (12 + r))))
          refine wp_store51 (x := .tmp 7) (y := .tmp 35) (c := mixN (fun r => s (12 + r))) ?_ ?_ ?_ hR4 ?_
          · rfl
          · rfl
          · rfl
          refine hK.out _ _ hP.out (fun hHeld2 => ?_)
          clear hK K hHeld hHeld2 hR4 hS
          try simp only [Act.put, List.setIfInBounds_toArray, List.set_cons_zero, List.set_cons_succ, List.getElem_toArray, List.getElem_cons_succ, List.getElem_cons_zero]
          refine wpAnyH_done (by kernel_rfl) ?_ _
          refine NoPanic.normal ?_
          generalize World.setRow _ _ _ = W9 at hP hP4 ⊢
          have HN : Hid (RM w f g (vK s (12 + 0)) (mixN (fun r => s (12 + r))) bs bm W9) := Lib.hid ⟨hP.out, hP4.out, hne⟩
          clear hP hP4 hne hlt
          try simp only [Int.natCast_zero, Int.natCast_one, Int.cast_ofNat_Int]
          go_wp2_with fail
          go_loopw [8] (fun v W => ∃ r : Nat, r ≤ 4 ∧ v = .int .i64 r ∧ RM w f g (vK s (12 + r)) (mixN (fun r => s (12 + r))) bs bm W) (fun v _ => 4 - (intOf v).toNat)
          case atStart => exact ⟨0, by omega, rfl, HN.out⟩
          case round =>
            obtain ⟨r, hr, rfl, hX⟩ := hrel
            have hS := Lib.hid hX
            clear hX
            by_cases hr4 : r < 4
            · have c0 := hS.out.2.1.cell r hr4
              have c1 := hS.out.1.at (12 + r) (by omega) (by omega)
              have f1 := hS.out.1.froz (12 + r)
              have HNX := Lib.hid (hS.out.next 12 r (by omega) hr4 (by decide))
              try simp only [Nat.zero_add] at c0 c1 f1 HNX
              go_wp2_with fail
              exact ⟨⟨r + 1, by omega, by simp, (by first | exact HNX.out | (simp only [Nat.zero_add]; exact HNX.out))⟩, by simp [intOf]; omega⟩
            · obtain rfl : r = 4 := by omega
              have HS3 : Hid (RD w f g (vK s (4 * 4)) bs _) := Lib.hid hS.out.1
              clear hS
              go_wp2
              exact ⟨⟨4, by omega, by simp, HS3.out⟩, by simp [intOf]⟩
    · obtain rfl : q = 4 := by omega
      have H5 := Lib.hid hS.out.2.2.2.1
      have HB := Lib.hid hS.out
      clear hS HR HSH
      simp only [Nat.reduceMul] at H5 HB
      go_upto_region 10 with fail
      refine wp_region_list ?_
      refine wpList_load22 rfl rfl rfl H5.out ?_
      refine wpList_load22 rfl rfl rfl HB.out.2.1 ?_
      go_wp2_with fail
      go_at_call 35
      (with_reducible refine (HK.out _).mono ?_)
      rintro e w9 ⟨rfl, hb9⟩
      have HB9 := Lib.hid (HB.out.keep hb9)
      clear HB H5 hb9
      have hrs : ∃ r, res = bN r := ⟨_, HRES.out⟩
      obtain ⟨r, rfl⟩ := hrs
      go_wp2_with (refine wpList_store22 rfl rfl rfl rfl HB9.out.2.2.1 (bA_size _) (bA_one _) ?_)
      have h9 := Lib.hid (HB9.out.2.2.1.row (bA_size (fun i => ((r i : Nat) : Int))) (bA_one _))
      have hB9 := Lib.hid (below_row (vs := bN r) HB9.out.2.2.2.2.2 (show w.heap.size ≤ w.heap.size + 1 + 1 by omega))
      generalize World.setRow _ _ _ = W5 at *
      go_wp2
      exact bodyPost_ret (v := .agg (bN r)) (results_cell_row rfl _ _ _ 22 _ (0, 0) _ rfl h9.out.1 Try.underlying22 rfl (by rw [h9.out.2.1]; exact info22)) rfl ⟨rfl, hB9.out⟩
/-- The same, whatever the result's block holds. -/
def B3H (w : World) (x y : Array Value) (W : World) : Prop := R16 W w.heap.size x ∧ R16 W (w.heap.size + 1) y ∧ (∃ us, R16 W (w.heap.size + 1 + 1) us) ∧ Below w.heap.size w W
theorem B3H.of {w W : World} {x y : Array Value} (h : B3 w x y W) : B3H w x y W := ⟨h.1, h.2.1, ⟨_, h.2.2.1⟩, h.2.2.2⟩
theorem B3H.keep {w W W' : World} {x y : Array Value} (h : B3H w x y W) (hb : Below W.heap.size W W') : B3H w x y W' := ⟨h.1.keep hb, h.2.1.keep hb, h.2.2.1.elim fun u hu => ⟨u, hu.keep hb⟩, h.2.2.2.trans (hb.mono h.2.2.2.size)⟩
theorem B3H.x {w W : World} {x y : Array Value} (h : B3H w x y W) : R16 W w.heap.size x := h.1
theorem B3H.y {w W : World} {x y : Array Value} (h : B3H w x y W) : R16 W (w.heap.size + 1) y := h.2.1
theorem B3H.z {w W : World} {x y : Array Value} (h : B3H w x y W) : ∃ us, R16 W (w.heap.size + 1 + 1) us := h.2.2.1
theorem B3H.put {w W : World} {x y us r : Array Value} (h : B3H w x y W) (h9 : R16 W (w.heap.size + 1 + 1) us) (hr : r.size = 16) (hr1 : r.all (·.oneCell') = true) : B3H w x y (W.setRow (w.heap.size + 1 + 1) r) ∧ R16 (W.setRow (w.heap.size + 1 + 1) r) (w.heap.size + 1 + 1) r :=
  ⟨⟨h.1.far (by omega), h.2.1.far (by omega), ⟨_, h9.row hr hr1⟩, below_row h.2.2.2 (by omega)⟩, h9.row hr hr1⟩
set_option maxRecDepth 100000 in
theorem rlast_any (f g : Nat → Nat) (hf : ∀ j, f j < 256) (hg : ∀ j, g j < 256) (w : World) :
    Calls Try.prog 22 #[.agg (bN f), .agg (bN g)] w fun e w' => e = .returned (.agg (bN (roN idN f g))) ∧ Below w.heap.size w w' := by
  have HS := Lib.hid (B3.new w (bN f) (bN g) (bA_size _) (bA_one _) (bA_size _) (bA_one _))
  have HSH := Lib.hid (fun W => shifted_any f hf W)
  have hk : ∀ W, Calls Try.prog 35 #[.agg (bN (sB f)), .agg (bN g)] W fun e W' => e = .returned (.agg (bN (roN idN f g))) ∧ Below W.heap.size W W' := fun W => by
    have h := keyed_m (sB f) g (sB_lt f) hg W
    rwa [bN_congr (fun j hj => show (sB f j ^^^ g j) = roN idN f g j from by unfold roN uK idN; rw [if_pos hj]; dsimp only; rw [show 4 * (j / 4) + j % 4 = j by omega])] at h
  have HK := Lib.hid hk
  clear hk hf hg
  generalize sB f = s at *
  generalize hres : roN idN f g = r at *
  have HRES := Lib.hid hres
  clear hres
  go_enter Try.func22, Try.ntmps22
  go_upto_region 1 with fail
  generalize World.alloc (World.alloc (World.alloc _ _) _) _ = W1 at *
  refine wp_region_noPanic ?_
  refine wp_region_held_drew (S := fun W => B3H w (bN f) (bN g) W) (by kernel_rfl) ?_ (fun hHeld => ?_)
  · exact B3H.keep (B3H.of HS.out) ((Below.refl _ _).drew)
  generalize World.drew _ = v0 at hHeld ⊢
  clear HS
  refine wpAnyH_take (i := 0) (v := ?_) rfl (by kernel_rfl) (by kernel_rfl) (by kernel_rfl) (fun _ _ _ h => h) (Or.inl ⟨by kernel_rfl, ?_⟩) (by assumption) ?_
  rotate_left
  · intro w hSw
    refine exec_load22 (x := .tmp 2) ?_ ?_ (B3H.x hSw)
    · rfl
    · rfl
    try with_reducible rfl
  simp only [Act.put, List.setIfInBounds_toArray, List.set_cons_zero, List.set_cons_succ, List.getElem_toArray, List.getElem_cons_succ, List.getElem_cons_zero]
  refine wpAnyH_take (i := 2) (v := ?_) rfl (by kernel_rfl) (by kernel_rfl) (by kernel_rfl) (fun _ _ _ h => h) (Or.inl ⟨by kernel_rfl, ?_⟩) (by assumption) ?_
  rotate_left
  · intro w hSw
    refine exec_load22 (x := .tmp 3) ?_ ?_ (B3H.y hSw)
    · rfl
    · rfl
    try with_reducible rfl
  simp only [Act.put, List.setIfInBounds_toArray, List.set_cons_zero, List.set_cons_succ, List.getElem_toArray, List.getElem_cons_succ, List.getElem_cons_zero]
  refine wpAnyH_ready (rs := [1]) (by kernel_rfl) (by simp) ?_
  refine AllReadyH.cons rfl (fun K hK => ?_) AllReadyH.nil
  go_simp
  go_at_call 33
  (with_reducible refine (HSH.out _).mono ?_)
  rintro e w9 ⟨rfl, hb9⟩
  refine hK.out _ _ (B3H.keep hHeld hb9) (fun hHeld2 => ?_)
  clear hK K hHeld hb9
  have hHeld := hHeld2
  clear hHeld2
  try simp only [Act.put, List.setIfInBounds_toArray, List.set_cons_zero, List.set_cons_succ, List.getElem_toArray, List.getElem_cons_succ, List.getElem_cons_zero]
  refine wpAnyH_ready (rs := [3]) (by kernel_rfl) (by simp) ?_
  refine AllReadyH.cons rfl (fun K hK => ?_) AllReadyH.nil
  go_simp
  go_at_call 35
  (with_reducible refine (HK.out _).mono ?_)
  rintro e w9 ⟨rfl, hb9⟩
  refine hK.out _ _ (B3H.keep hHeld hb9) (fun hHeld2 => ?_)
  clear hK K hHeld hb9
  have hHeld := hHeld2
  clear hHeld2
  try simp only [Act.put, List.setIfInBounds_toArray, List.set_cons_zero, List.set_cons_succ, List.getElem_toArray, List.getElem_cons_succ, List.getElem_cons_zero]
  refine wpAnyH_ready (rs := [4]) (by kernel_rfl) (by simp) ?_
  refine AllReadyH.cons rfl (fun K hK => ?_) AllReadyH.nil
  rw [if_pos (by kernel_rfl)]
  obtain ⟨us, h9⟩ := B3H.z hHeld
  refine wp_store22 (x := .tmp 4) (y := .tmp 8) (vs := bN r) ?_ ?_ ?_ h9 (bA_size _) (bA_one _) ?_
  · rfl
  · rfl
  · rfl
  have hP := Lib.hid (B3H.put hHeld h9 (bA_size (fun i => ((r i : Nat) : Int))) (bA_one _))
  refine hK.out _ _ hP.out.1 (fun hHeld2 => ?_)
  clear hK K hHeld hHeld2 h9
  try simp only [Act.put, List.setIfInBounds_toArray, List.set_cons_zero, List.set_cons_succ, List.getElem_toArray, List.getElem_cons_succ, List.getElem_cons_zero]
  refine wpAnyH_done (by kernel_rfl) ?_ _
  refine NoPanic.normal ?_
  generalize World.setRow _ _ _ = W9 at hP ⊢
  go_wp2
  exact bodyPost_ret (v := .agg (bN r)) (results_cell_row rfl _ _ _ 22 _ (0, 0) _ rfl hP.out.2.1 Try.underlying22 rfl (by rw [hP.out.2.2.1]; exact info22)) rfl ⟨rfl, hP.out.1.2.2.2⟩
end Go.Proofs.Ytldicconopcipaa
