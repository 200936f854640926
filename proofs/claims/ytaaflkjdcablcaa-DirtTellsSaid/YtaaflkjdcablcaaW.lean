/- Same. -/
import Derived.DeepKeys
import Derived.Test.YtaaflkjdcablcaaS
import Derived.Test.YtaaflkjdcablcaaV
namespace Go.Proofs.Ytaaflkjdcablcaa
open Go.RowKit Go.Shelf
set_option linter.unusedVariables false
set_option linter.unusedSimpArgs false
attribute [local go_sem] Oper.semAt_some
theorem lit_u (d x : Nat) (h : U x) : Try.prog.keyLits (d + 1) 23 [.int .u64 (x : Nat)] = some [.int .u64 (x : Nat)] := by
  unfold Program.keyLits
  rw [Try.underlying23]
  have hw : (Lit.int .u64 (x : Nat)).wf = true := by
    unfold U at h
    unfold Lit.wf
    simp [IntKind.has, IntKind.min, IntKind.max, IntKind.bits, IntKind.signed]
    omega
  simp [hw]
theorem cellsU : Try.prog.cellsOf 23 = 1 := by kernel_rfl
theorem cellsRg : Try.prog.cellsOf 25 = 2 := by kernel_rfl
def Rg.v (x : Rg) : Value := .agg #[.int .u64 (x.1 : Nat), .int .u64 (x.2 : Nat)]
theorem lits_R (x : Rg) (h1 : U x.1) (h2 : U x.2) : Try.prog.keyLits 2 25 [.int .u64 (x.1 : Nat), .int .u64 (x.2 : Nat)] = some [.int .u64 (x.1 : Nat), .int .u64 (x.2 : Nat)] := by
  unfold Program.keyLits
  rw [Try.underlying25]
  simp [cellsU, cellsRg, lit_u 0 x.1 h1, lit_u 0 x.2 h2]
theorem eq25 (x y : Rg) (hx : U x.1 ∧ U x.2) (hy : U y.1 ∧ U y.2) (w : World) : (Op.equalIn 10000 25 x.v y.v).run Try.prog w = .ok (decide (x = y)) w := by
  obtain ⟨r, hr, h3⟩ := run_equalIn_deep (P := Try.prog) 9998 2 25 (by kernel_rfl) w 2 2 x.v y.v _ _ (by kernel_rfl) (by kernel_rfl) (lits_R x hx.1 hx.2) (lits_R y hy.1 hy.2)
  rw [hr]
  congr 1
  rw [Bool.eq_iff_iff, decide_eq_true_eq, h3]
  constructor
  · intro e
    simp only [List.cons.injEq, Lit.int.injEq, true_and, and_true, Int.natCast_inj] at e
    exact Prod.ext e.1 e.2
  · intro e
    rw [e]
theorem guard25 (op : BinOp) (X Y : Operand) (f g : Rg) (W : World) : (eqGuard op 25 X Y f.v g.v).run Try.prog W = .ok () W := by
  cases op <;> kernel_rfl
theorem bin25_neq (f g : Rg) : binOp .neq 25 f.v g.v = (do pure (.bool (!(← Op.equal 25 f.v g.v)))) := by
  unfold Rg.v binOp
  rfl
theorem exec_neq25 {o : Oper} {ρ : Operand → Value} {W : World} {X Y : Operand} {f g : Rg} {ty : TypeId} (ho : o.op = .binOp .neq 25 X Y ty) (hx : ρ X = f.v) (hy : ρ Y = g.v) (hf : U f.1 ∧ U f.2) (hg : U g.1 ∧ U g.2) :
    (execOp ρ o).run Try.prog W = .ok (.value (.bool (!decide (f = g)))) W := by
  unfold execOp
  rw [ho]
  have he' : (Op.equal 25 f.v g.v).run Try.prog W = .ok (decide (f = g)) W := eq25 f g hf hg W
  simp only [hx, hy, Sem.run_bind, guard25, Result.andThen, bin25_neq, he', Sem.run_pure]
theorem take_eq {xs ys : List Rg} {k : Nat} (hx : k < xs.length) (hy : k < ys.length) (h : xs.take k = ys.take k) (he : rAt xs k = rAt ys k) : xs.take (k + 1) = ys.take (k + 1) := by
  rw [take_succ' xs k hx, take_succ' ys k hy, h, he]
set_option maxRecDepth 100000 in
set_option maxHeartbeats 4000000 in
theorem rsame_any (a : Option Addr) (cap : Nat) (xs : List Rg) (hx : OkL xs) (hn : xs.length ≤ 1000000) (a2 : Option Addr) (cap2 : Nat) (ys : List Rg) (hy : OkL ys) (w : World) (hR : RD w a xs) (hR2 : RD w a2 ys) :
    Calls Try.prog 30 #[.slice a xs.length cap, .slice a2 ys.length cap2] w fun e w' => e = .returned (.bool (decide (xs = ys))) ∧ Below w.heap.size w w' := by
  by_cases hl : xs.length = ys.length
  · have HR := Lib.hid (fun W (hb : Below w.heap.size w W) => And.intro (hR.keep hb) (hR2.keep hb))
    have HU := Lib.hid (And.intro hx hy)
    obtain ⟨n, hn1⟩ : ∃ n, xs.length = n := ⟨_, rfl⟩
    have hn2 : ys.length = n := by omega
    have HL := Lib.hid (And.intro hn1 hn2)
    rw [hn1] at hn
    rw [hn1, hn2]
    clear hR hR2 hx hy hn1 hn2 hl
    go_enter Try.func30, Try.ntmps30
    go_wp2_with fail
    go_loopw [5] (fun i W => ∃ k : Nat, k ≤ n ∧ i = .int .i64 k ∧ Hid (xs.take k = ys.take k) ∧ Hid (Below w.heap.size w W)) (fun i _ => n - (intOf i).toNat)
    case atStart => exact ⟨0, by omega, rfl, Lib.hid rfl, Lib.hid (Below.refl _ _)⟩
    case round =>
      obtain ⟨k, hk, rfl, HT, HB⟩ := hrel
      by_cases hlt : k < n
      · have hkx : k < xs.length := by rw [HL.out.1]; exact hlt
        have hky : k < ys.length := by rw [HL.out.2]; exact hlt
        obtain ⟨b, off, ha, _⟩ := (HR.out wr HB.out).1 k hkx
        obtain ⟨b2, off2, ha2, _⟩ := (HR.out wr HB.out).2 k hky
        subst ha
        subst ha2
        have HUX := Lib.hid (z_ok HU.out.1 hkx)
        have HUY := Lib.hid (z_ok HU.out.2 hky)
        go_upto_region 6 with fail
        refine wp_region_noPanic ?_
        refine wp_region_held_drew (S := fun W : World => Below w.heap.size w W) (by kernel_rfl) ?_ (fun hHeld => ?_)
        · exact HB.out.drew
        generalize World.drew _ = W2 at hHeld ⊢
        refine wpAnyH_take (i := 0) (v := ?_) rfl (by kernel_rfl) (by kernel_rfl) (by kernel_rfl) (fun _ _ _ h => h) (Or.inl ⟨by kernel_rfl, ?_⟩) (by assumption) ?_
        rotate_left
        · intro wv hSw
          go_simp
          try with_reducible rfl
        simp only [Act.put, List.setIfInBounds_toArray, List.set_cons_zero, List.set_cons_succ, List.getElem_toArray, List.getElem_cons_succ, List.getElem_cons_zero]
        refine wpAnyH_take (i := 1) (v := ?_) rfl (by kernel_rfl) (by kernel_rfl) (by kernel_rfl) (fun _ _ _ h => h) (Or.inl ⟨by kernel_rfl, ?_⟩) (by assumption) ?_
        rotate_left
        · intro wv hSw
          go_simp
          try with_reducible rfl
        simp only [Act.put, List.setIfInBounds_toArray, List.set_cons_zero, List.set_cons_succ, List.getElem_toArray, List.getElem_cons_succ, List.getElem_cons_zero]
        refine wpAnyH_take (i := 2) (v := ?_) rfl (by kernel_rfl) (by kernel_rfl) (by kernel_rfl) (fun _ _ _ h => h) (Or.inl ⟨by kernel_rfl, ?_⟩) (by assumption) ?_
        rotate_left
        · intro wv hSw
          go_simp
          try with_reducible rfl
        simp only [Act.put, List.setIfInBounds_toArray, List.set_cons_zero, List.set_cons_succ, List.getElem_toArray, List.getElem_cons_succ, List.getElem_cons_zero]
        refine wpAnyH_take (i := 3) (v := ?_) rfl (by kernel_rfl) (by kernel_rfl) (by kernel_rfl) (fun _ _ _ h => h) (Or.inl ⟨by kernel_rfl, ?_⟩) (by assumption) ?_
        rotate_left
        · intro wv hSw
          obtain ⟨b9, off9, ha9, f0, f1⟩ := (HR.out wv hSw).1 k hkx
          simp only [Option.some.injEq, Addr.mk.injEq, and_true] at ha9
          obtain ⟨rfl, rfl⟩ := ha9
          go_simp
          try with_reducible rfl
        simp only [Act.put, List.setIfInBounds_toArray, List.set_cons_zero, List.set_cons_succ, List.getElem_toArray, List.getElem_cons_succ, List.getElem_cons_zero]
        refine wpAnyH_take (i := 4) (v := ?_) rfl (by kernel_rfl) (by kernel_rfl) (by kernel_rfl) (fun _ _ _ h => h) (Or.inl ⟨by kernel_rfl, ?_⟩) (by assumption) ?_
        rotate_left
        · intro wv hSw
          go_simp
          try with_reducible rfl
        simp only [Act.put, List.setIfInBounds_toArray, List.set_cons_zero, List.set_cons_succ, List.getElem_toArray, List.getElem_cons_succ, List.getElem_cons_zero]
        refine wpAnyH_take (i := 5) (v := ?_) rfl (by kernel_rfl) (by kernel_rfl) (by kernel_rfl) (fun _ _ _ h => h) (Or.inl ⟨by kernel_rfl, ?_⟩) (by assumption) ?_
        rotate_left
        · intro wv hSw
          go_simp
          try with_reducible rfl
        simp only [Act.put, List.setIfInBounds_toArray, List.set_cons_zero, List.set_cons_succ, List.getElem_toArray, List.getElem_cons_succ, List.getElem_cons_zero]
        refine wpAnyH_take (i := 6) (v := ?_) rfl (by kernel_rfl) (by kernel_rfl) (by kernel_rfl) (fun _ _ _ h => h) (Or.inl ⟨by kernel_rfl, ?_⟩) (by assumption) ?_
        rotate_left
        · intro wv hSw
          go_simp
          try with_reducible rfl
        simp only [Act.put, List.setIfInBounds_toArray, List.set_cons_zero, List.set_cons_succ, List.getElem_toArray, List.getElem_cons_succ, List.getElem_cons_zero]
        refine wpAnyH_take (i := 7) (v := ?_) rfl (by kernel_rfl) (by kernel_rfl) (by kernel_rfl) (fun _ _ _ h => h) (Or.inl ⟨by kernel_rfl, ?_⟩) (by assumption) ?_
        rotate_left
        · intro wv hSw
          obtain ⟨b9, off9, ha9, f0, f1⟩ := (HR.out wv hSw).2 k hky
          simp only [Option.some.injEq, Addr.mk.injEq, and_true] at ha9
          obtain ⟨rfl, rfl⟩ := ha9
          go_simp
          try with_reducible rfl
        simp only [Act.put, List.setIfInBounds_toArray, List.set_cons_zero, List.set_cons_succ, List.getElem_toArray, List.getElem_cons_succ, List.getElem_cons_zero]
        refine wpAnyH_take (i := 8) (v := ?_) rfl (by kernel_rfl) (by kernel_rfl) (by kernel_rfl) (fun _ _ _ h => h) (Or.inl ⟨by kernel_rfl, ?_⟩) (by assumption) ?_
        rotate_left
        · intro wv hSw
          refine exec_neq25 (X := .tmp 20) (Y := .tmp 24) (ty := 25) (f := rAt xs k) (g := rAt ys k) ?_ ?_ ?_ HUX.out HUY.out
          · rfl
          · rfl
          · rfl
          try with_reducible rfl
        simp only [Act.put, List.setIfInBounds_toArray, List.set_cons_zero, List.set_cons_succ, List.getElem_toArray, List.getElem_cons_succ, List.getElem_cons_zero]
        refine wpAnyH_done (by kernel_rfl) ?_ _
        refine NoPanic.normal ?_
        have HB2 := Lib.hid hHeld
        clear hHeld
        cases he : decide (rAt xs k = rAt ys k)
        · have hne : ¬ xs = ys := fun e => by
            have := of_decide_eq_false he
            exact this (by rw [e])
          have HNE := Lib.hid (decide_eq_false hne)
          simp only [Bool.not_false]
          clear he hne
          go_wp2_with fail
          go_ret
          exact ⟨by rw [HNE.out]; rfl, HB2.out⟩
        · have HEQ := Lib.hid (take_eq hkx hky HT.out (of_decide_eq_true he))
          simp only [Bool.not_true]
          clear he
          go_wp2_with fail
          go_roundw
          case rel => exact ⟨k + 1, by omega, by go_num, HEQ, HB2⟩
          case measure => simp [intOf]; omega
      · obtain rfl : k = n := by omega
        have hee : xs = ys := by
          have h := HT.out
          have e1 := HL.out.1
          have e2 := HL.out.2
          rwa [← e1, List.take_length, e1, ← e2, List.take_length] at h
        have HE := Lib.hid (decide_eq_true hee)
        clear hee
        go_wp2_with fail
        go_ret
        exact ⟨by rw [HE.out]; rfl, HB.out⟩
  · have hne : ¬ xs = ys := fun e => hl (by rw [e])
    have HNE := Lib.hid (decide_eq_false hne)
    generalize xs.length = n at *
    generalize ys.length = m at *
    clear hne hR hR2
    go_enter Try.func30, Try.ntmps30
    go_wp2_with fail
    go_ret
    exact ⟨by rw [HNE.out]; rfl, Below.refl _ _⟩
end Go.Proofs.Ytaaflkjdcablcaa
