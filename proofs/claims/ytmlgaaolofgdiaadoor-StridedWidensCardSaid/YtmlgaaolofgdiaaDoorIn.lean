/- strided.In. -/
import Derived.Test.YtmlgaaolofgdiaaDoorHas
namespace Go.Proofs.YtmlgaaolofgdiaaDoor
open Go.RowKit SM
attribute [local go_sem ↓] Go.wp_at_zero Go.wp_at_succ
theorem setCell_self {W : World} {a : Addr} {v : Value} (h : W.cell? a = some v) : W.setCell a v = W := by
  unfold World.cell? at h
  unfold World.setCell
  have e : W.heap.modify a.block (fun | .cells c elem frozen => .cells (if a.spot.isSome then c else c.setIfInBounds a.off v) elem frozen | o => o) = W.heap := by
    apply Array.ext
    · simp
    · intro i h1 h2
      rw [Array.getElem_modify]
      split
      · rename_i e; subst e
        rw [Array.getElem?_eq_getElem h2] at h
        cases ho : W.heap[a.block] with
        | cells c elem frozen =>
          rw [ho] at h
          dsimp only at h ⊢
          split
          · rfl
          · rename_i hs
            rw [if_neg hs] at h
            congr 1
            apply Array.ext
            · simp
            · intro j j1 j2
              rw [Array.getElem_setIfInBounds]
              split
              · rename_i e2; subst e2
                rw [Array.getElem?_eq_getElem j2] at h
                exact (Option.some.inj h).symm
              · rfl
        | _ => rfl
      · rfl
  exact congrArg (fun H => ({ W with heap := H } : World)) e
theorem mk2 {w0 W' : World} {n b c : Nat} {v0 v1 v2 x0 x1 x2 : Value} (h : Slot3 W' b v0 v1 v2) (k : Slot3 W' c x0 x1 x2) (hb : Below n w0 W') :
    W'.cell? ⟨b, 0, none⟩ = some v0 ∧ W'.cell? ⟨b, 1, none⟩ = some v1 ∧ W'.cell? ⟨b, 2, none⟩ = some v2 ∧ W'.frozen? ⟨b, 0, none⟩ = false ∧ W'.frozen? ⟨b, 1, none⟩ = false ∧ W'.frozen? ⟨b, 2, none⟩ = false ∧ b < W'.heap.size ∧ W'.cell? ⟨c, 0, none⟩ = some x0 ∧ W'.cell? ⟨c, 1, none⟩ = some x1 ∧ W'.cell? ⟨c, 2, none⟩ = some x2 ∧ W'.frozen? ⟨c, 0, none⟩ = false ∧ W'.frozen? ⟨c, 1, none⟩ = false ∧ W'.frozen? ⟨c, 2, none⟩ = false ∧ c < W'.heap.size ∧ Below n w0 W' := by
  obtain ⟨c0, c1, c2, c3, c4, c5, c6⟩ := h
  obtain ⟨d0, d1, d2, d3, d4, d5, d6⟩ := k
  exact ⟨c0, c1, c2, c3, c4, c5, c6, d0, d1, d2, d3, d4, d5, d6, hb⟩
/-- Two sets in blocks of their own, and what lay ahead of a world kept. -/
theorem keep2 {w0 W W' : World} {n b c : Nat} {v0 v1 v2 x0 x1 x2 : Value} (hb : Below W.heap.size W W') (hS : W.cell? ⟨b, 0, none⟩ = some v0 ∧ W.cell? ⟨b, 1, none⟩ = some v1 ∧ W.cell? ⟨b, 2, none⟩ = some v2 ∧ W.frozen? ⟨b, 0, none⟩ = false ∧ W.frozen? ⟨b, 1, none⟩ = false ∧ W.frozen? ⟨b, 2, none⟩ = false ∧ b < W.heap.size ∧ W.cell? ⟨c, 0, none⟩ = some x0 ∧ W.cell? ⟨c, 1, none⟩ = some x1 ∧ W.cell? ⟨c, 2, none⟩ = some x2 ∧ W.frozen? ⟨c, 0, none⟩ = false ∧ W.frozen? ⟨c, 1, none⟩ = false ∧ W.frozen? ⟨c, 2, none⟩ = false ∧ c < W.heap.size ∧ Below n w0 W) (hn : n ≤ w0.heap.size) :
    W'.cell? ⟨b, 0, none⟩ = some v0 ∧ W'.cell? ⟨b, 1, none⟩ = some v1 ∧ W'.cell? ⟨b, 2, none⟩ = some v2 ∧ W'.frozen? ⟨b, 0, none⟩ = false ∧ W'.frozen? ⟨b, 1, none⟩ = false ∧ W'.frozen? ⟨b, 2, none⟩ = false ∧ b < W'.heap.size ∧ W'.cell? ⟨c, 0, none⟩ = some x0 ∧ W'.cell? ⟨c, 1, none⟩ = some x1 ∧ W'.cell? ⟨c, 2, none⟩ = some x2 ∧ W'.frozen? ⟨c, 0, none⟩ = false ∧ W'.frozen? ⟨c, 1, none⟩ = false ∧ W'.frozen? ⟨c, 2, none⟩ = false ∧ c < W'.heap.size ∧ Below n w0 W' := by
  obtain ⟨a0, a1, a2, a3, a4, a5, a6, b0, b1, b2, b3, b4, b5, b6, hg⟩ := hS
  obtain ⟨c0, c1, c2, c3, c4, c5, c6⟩ := Slot3.keep ⟨a0, a1, a2, a3, a4, a5, a6⟩ hb
  obtain ⟨d0, d1, d2, d3, d4, d5, d6⟩ := Slot3.keep ⟨b0, b1, b2, b3, b4, b5, b6⟩ hb
  exact ⟨c0, c1, c2, c3, c4, c5, c6, d0, d1, d2, d3, d4, d5, d6, hg.trans (hb.mono (Nat.le_trans hn hg.size))⟩
theorem put_same {W : World} {b : Nat} {v0 v1 v2 : Value} (h0 : W.cell? ⟨b, 0, none⟩ = some v0) (h1 : W.cell? ⟨b, 1, none⟩ = some v1) (h2 : W.cell? ⟨b, 2, none⟩ = some v2) :
    ((W.setCell ⟨b, 0, none⟩ v0).setCell ⟨b, 1, none⟩ v1).setCell ⟨b, 2, none⟩ v2 = W := by rw [setCell_self h0, setCell_self h1, setCell_self h2]
theorem st2b {w0 W : World} {n b c : Nat} {v0 v1 v2 x0 x1 x2 : Value} (hS : W.cell? ⟨b, 0, none⟩ = some v0 ∧ W.cell? ⟨b, 1, none⟩ = some v1 ∧ W.cell? ⟨b, 2, none⟩ = some v2 ∧ W.frozen? ⟨b, 0, none⟩ = false ∧ W.frozen? ⟨b, 1, none⟩ = false ∧ W.frozen? ⟨b, 2, none⟩ = false ∧ b < W.heap.size ∧ W.cell? ⟨c, 0, none⟩ = some x0 ∧ W.cell? ⟨c, 1, none⟩ = some x1 ∧ W.cell? ⟨c, 2, none⟩ = some x2 ∧ W.frozen? ⟨c, 0, none⟩ = false ∧ W.frozen? ⟨c, 1, none⟩ = false ∧ W.frozen? ⟨c, 2, none⟩ = false ∧ c < W.heap.size ∧ Below n w0 W) :
    (((W.setCell ⟨b, 0, none⟩ v0).setCell ⟨b, 1, none⟩ v1).setCell ⟨b, 2, none⟩ v2).cell? ⟨b, 0, none⟩ = some v0 ∧ (((W.setCell ⟨b, 0, none⟩ v0).setCell ⟨b, 1, none⟩ v1).setCell ⟨b, 2, none⟩ v2).cell? ⟨b, 1, none⟩ = some v1 ∧ (((W.setCell ⟨b, 0, none⟩ v0).setCell ⟨b, 1, none⟩ v1).setCell ⟨b, 2, none⟩ v2).cell? ⟨b, 2, none⟩ = some v2 ∧ (((W.setCell ⟨b, 0, none⟩ v0).setCell ⟨b, 1, none⟩ v1).setCell ⟨b, 2, none⟩ v2).frozen? ⟨b, 0, none⟩ = false ∧ (((W.setCell ⟨b, 0, none⟩ v0).setCell ⟨b, 1, none⟩ v1).setCell ⟨b, 2, none⟩ v2).frozen? ⟨b, 1, none⟩ = false ∧ (((W.setCell ⟨b, 0, none⟩ v0).setCell ⟨b, 1, none⟩ v1).setCell ⟨b, 2, none⟩ v2).frozen? ⟨b, 2, none⟩ = false ∧ b < (((W.setCell ⟨b, 0, none⟩ v0).setCell ⟨b, 1, none⟩ v1).setCell ⟨b, 2, none⟩ v2).heap.size ∧ (((W.setCell ⟨b, 0, none⟩ v0).setCell ⟨b, 1, none⟩ v1).setCell ⟨b, 2, none⟩ v2).cell? ⟨c, 0, none⟩ = some x0 ∧ (((W.setCell ⟨b, 0, none⟩ v0).setCell ⟨b, 1, none⟩ v1).setCell ⟨b, 2, none⟩ v2).cell? ⟨c, 1, none⟩ = some x1 ∧ (((W.setCell ⟨b, 0, none⟩ v0).setCell ⟨b, 1, none⟩ v1).setCell ⟨b, 2, none⟩ v2).cell? ⟨c, 2, none⟩ = some x2 ∧ (((W.setCell ⟨b, 0, none⟩ v0).setCell ⟨b, 1, none⟩ v1).setCell ⟨b, 2, none⟩ v2).frozen? ⟨c, 0, none⟩ = false ∧ (((W.setCell ⟨b, 0, none⟩ v0).setCell ⟨b, 1, none⟩ v1).setCell ⟨b, 2, none⟩ v2).frozen? ⟨c, 1, none⟩ = false ∧ (((W.setCell ⟨b, 0, none⟩ v0).setCell ⟨b, 1, none⟩ v1).setCell ⟨b, 2, none⟩ v2).frozen? ⟨c, 2, none⟩ = false ∧ c < (((W.setCell ⟨b, 0, none⟩ v0).setCell ⟨b, 1, none⟩ v1).setCell ⟨b, 2, none⟩ v2).heap.size ∧ Below n w0 (((W.setCell ⟨b, 0, none⟩ v0).setCell ⟨b, 1, none⟩ v1).setCell ⟨b, 2, none⟩ v2) := by
  rw [put_same hS.1 hS.2.1 hS.2.2.1]; exact hS
theorem st2c {w0 W : World} {n b c : Nat} {v0 v1 v2 x0 x1 x2 : Value} (hS : W.cell? ⟨b, 0, none⟩ = some v0 ∧ W.cell? ⟨b, 1, none⟩ = some v1 ∧ W.cell? ⟨b, 2, none⟩ = some v2 ∧ W.frozen? ⟨b, 0, none⟩ = false ∧ W.frozen? ⟨b, 1, none⟩ = false ∧ W.frozen? ⟨b, 2, none⟩ = false ∧ b < W.heap.size ∧ W.cell? ⟨c, 0, none⟩ = some x0 ∧ W.cell? ⟨c, 1, none⟩ = some x1 ∧ W.cell? ⟨c, 2, none⟩ = some x2 ∧ W.frozen? ⟨c, 0, none⟩ = false ∧ W.frozen? ⟨c, 1, none⟩ = false ∧ W.frozen? ⟨c, 2, none⟩ = false ∧ c < W.heap.size ∧ Below n w0 W) :
    (((W.setCell ⟨c, 0, none⟩ x0).setCell ⟨c, 1, none⟩ x1).setCell ⟨c, 2, none⟩ x2).cell? ⟨b, 0, none⟩ = some v0 ∧ (((W.setCell ⟨c, 0, none⟩ x0).setCell ⟨c, 1, none⟩ x1).setCell ⟨c, 2, none⟩ x2).cell? ⟨b, 1, none⟩ = some v1 ∧ (((W.setCell ⟨c, 0, none⟩ x0).setCell ⟨c, 1, none⟩ x1).setCell ⟨c, 2, none⟩ x2).cell? ⟨b, 2, none⟩ = some v2 ∧ (((W.setCell ⟨c, 0, none⟩ x0).setCell ⟨c, 1, none⟩ x1).setCell ⟨c, 2, none⟩ x2).frozen? ⟨b, 0, none⟩ = false ∧ (((W.setCell ⟨c, 0, none⟩ x0).setCell ⟨c, 1, none⟩ x1).setCell ⟨c, 2, none⟩ x2).frozen? ⟨b, 1, none⟩ = false ∧ (((W.setCell ⟨c, 0, none⟩ x0).setCell ⟨c, 1, none⟩ x1).setCell ⟨c, 2, none⟩ x2).frozen? ⟨b, 2, none⟩ = false ∧ b < (((W.setCell ⟨c, 0, none⟩ x0).setCell ⟨c, 1, none⟩ x1).setCell ⟨c, 2, none⟩ x2).heap.size ∧ (((W.setCell ⟨c, 0, none⟩ x0).setCell ⟨c, 1, none⟩ x1).setCell ⟨c, 2, none⟩ x2).cell? ⟨c, 0, none⟩ = some x0 ∧ (((W.setCell ⟨c, 0, none⟩ x0).setCell ⟨c, 1, none⟩ x1).setCell ⟨c, 2, none⟩ x2).cell? ⟨c, 1, none⟩ = some x1 ∧ (((W.setCell ⟨c, 0, none⟩ x0).setCell ⟨c, 1, none⟩ x1).setCell ⟨c, 2, none⟩ x2).cell? ⟨c, 2, none⟩ = some x2 ∧ (((W.setCell ⟨c, 0, none⟩ x0).setCell ⟨c, 1, none⟩ x1).setCell ⟨c, 2, none⟩ x2).frozen? ⟨c, 0, none⟩ = false ∧ (((W.setCell ⟨c, 0, none⟩ x0).setCell ⟨c, 1, none⟩ x1).setCell ⟨c, 2, none⟩ x2).frozen? ⟨c, 1, none⟩ = false ∧ (((W.setCell ⟨c, 0, none⟩ x0).setCell ⟨c, 1, none⟩ x1).setCell ⟨c, 2, none⟩ x2).frozen? ⟨c, 2, none⟩ = false ∧ c < (((W.setCell ⟨c, 0, none⟩ x0).setCell ⟨c, 1, none⟩ x1).setCell ⟨c, 2, none⟩ x2).heap.size ∧ Below n w0 (((W.setCell ⟨c, 0, none⟩ x0).setCell ⟨c, 1, none⟩ x1).setCell ⟨c, 2, none⟩ x2) := by
  rw [put_same hS.2.2.2.2.2.2.2.1 hS.2.2.2.2.2.2.2.2.1 hS.2.2.2.2.2.2.2.2.2.1]; exact hS
theorem anyW {P Q : World → Prop} {W : World} (h : P W) (k : ∀ W, P W → Q W) : Q W := k W h
theorem drew2 {w0 W : World} {n b c : Nat} {v0 v1 v2 x0 x1 x2 : Value} (hS : W.cell? ⟨b, 0, none⟩ = some v0 ∧ W.cell? ⟨b, 1, none⟩ = some v1 ∧ W.cell? ⟨b, 2, none⟩ = some v2 ∧ W.frozen? ⟨b, 0, none⟩ = false ∧ W.frozen? ⟨b, 1, none⟩ = false ∧ W.frozen? ⟨b, 2, none⟩ = false ∧ b < W.heap.size ∧ W.cell? ⟨c, 0, none⟩ = some x0 ∧ W.cell? ⟨c, 1, none⟩ = some x1 ∧ W.cell? ⟨c, 2, none⟩ = some x2 ∧ W.frozen? ⟨c, 0, none⟩ = false ∧ W.frozen? ⟨c, 1, none⟩ = false ∧ W.frozen? ⟨c, 2, none⟩ = false ∧ c < W.heap.size ∧ Below n w0 W) :
    W.drew.cell? ⟨b, 0, none⟩ = some v0 ∧ W.drew.cell? ⟨b, 1, none⟩ = some v1 ∧ W.drew.cell? ⟨b, 2, none⟩ = some v2 ∧ W.drew.frozen? ⟨b, 0, none⟩ = false ∧ W.drew.frozen? ⟨b, 1, none⟩ = false ∧ W.drew.frozen? ⟨b, 2, none⟩ = false ∧ b < W.drew.heap.size ∧ W.drew.cell? ⟨c, 0, none⟩ = some x0 ∧ W.drew.cell? ⟨c, 1, none⟩ = some x1 ∧ W.drew.cell? ⟨c, 2, none⟩ = some x2 ∧ W.drew.frozen? ⟨c, 0, none⟩ = false ∧ W.drew.frozen? ⟨c, 1, none⟩ = false ∧ W.drew.frozen? ⟨c, 2, none⟩ = false ∧ c < W.drew.heap.size ∧ Below n w0 W.drew := by
  obtain ⟨a0, a1, a2, a3, a4, a5, a6, b0, b1, b2, b3, b4, b5, b6, hg⟩ := hS
  exact mk2 (Slot3.drew ⟨a0, a1, a2, a3, a4, a5, a6⟩) (Slot3.drew ⟨b0, b1, b2, b3, b4, b5, b6⟩) hg.drew
theorem none_facts {s l h : Nat} (e : (⟨s, l, h⟩ : St) = noneS) : ((s : Int) == 0) = true ∧ ((l : Int) == 1) = true ∧ ((h : Int) == 0) = true := by
  simp only [noneS, St.mk.injEq] at e; obtain ⟨rfl, rfl, rfl⟩ := e; decide
theorem some_facts {s l h : Nat} (e : (⟨s, l, h⟩ : St) ≠ noneS) : ((s : Int) == 0) = false ∨ (((s : Int) == 0) = true ∧ ((l : Int) == 1) = false) ∨ (((s : Int) == 0) = true ∧ ((l : Int) == 1) = true ∧ ((h : Int) == 0) = false) := by
  simp only [noneS, ne_eq, St.mk.injEq, not_and] at e
  simp only [beq_eq_false_iff_ne, beq_iff_eq]
  omega
set_option maxHeartbeats 2000000 in
theorem in_none (s l h t m k : Nat) (uh : U h) (uk : U k) (ha : Rt ⟨s, l, h⟩) (hb : Rt ⟨t, m, k⟩) (hn : (⟨s, l, h⟩ : St) = noneS) (w : World) :
    Calls Tryd.prog 11 #[sv s l h, sv t m k] w fun e w' => e = .returned (.bool true) ∧ Below w.heap.size w w' := by
  obtain ⟨q0, q1, q2⟩ := none_facts hn
  clear hn
  have k1 := (Slot3.new w (.int .u64 (s : Int)) (.int .u64 (l : Int)) (.int .u64 (h : Int)) 24).alloc (sb t m k)
  have k2 := Slot3.new (w.alloc (sb s l h)) (.int .u64 (t : Int)) (.int .u64 (m : Int)) (.int .u64 (k : Int)) 24
  have hb0 : Below w.heap.size w ((w.alloc (sb s l h)).alloc (sb t m k)) := ((Below.refl _ _).alloc (Nat.le_refl _) _).alloc (by simp) _
  have HS := Lib.hid (mk2 k1.drew k2.drew hb0.drew)
  simp only [World.size_alloc] at HS
  clear k1 k2 hb0
  go_enter Tryd.func11, Tryd.ntmps11
  go_wp2
  go_region_held3 (fun W => W.cell? ⟨w.heap.size, 0, none⟩ = some (.int .u64 (s : Int)) ∧ W.cell? ⟨w.heap.size, 1, none⟩ = some (.int .u64 (l : Int)) ∧ W.cell? ⟨w.heap.size, 2, none⟩ = some (.int .u64 (h : Int)) ∧ W.frozen? ⟨w.heap.size, 0, none⟩ = false ∧ W.frozen? ⟨w.heap.size, 1, none⟩ = false ∧ W.frozen? ⟨w.heap.size, 2, none⟩ = false ∧ w.heap.size < W.heap.size ∧ W.cell? ⟨w.heap.size + 1, 0, none⟩ = some (.int .u64 (t : Int)) ∧ W.cell? ⟨w.heap.size + 1, 1, none⟩ = some (.int .u64 (m : Int)) ∧ W.cell? ⟨w.heap.size + 1, 2, none⟩ = some (.int .u64 (k : Int)) ∧ W.frozen? ⟨w.heap.size + 1, 0, none⟩ = false ∧ W.frozen? ⟨w.heap.size + 1, 1, none⟩ = false ∧ W.frozen? ⟨w.heap.size + 1, 2, none⟩ = false ∧ w.heap.size + 1 < W.heap.size ∧ Below w.heap.size w W)
    (first | (with_reducible exact HS.out) | (with_reducible exact st2b (by assumption)) | (with_reducible exact st2c (by assumption)) | (with_reducible exact keep2 (by assumption) (by assumption) (Nat.le_refl _)))
    (first | (go_at_call 27; ((with_reducible refine (held_rt _ _ _ uh ha _).mono ?_); rintro e w1 ⟨rfl, hb1⟩)) | (go_at_call 27; ((with_reducible refine (held_rt _ _ _ uk hb _).mono ?_); rintro e w1 ⟨rfl, hb1⟩)))
  rename_i hS
  refine anyW (P := fun W => W.cell? ⟨w.heap.size, 0, none⟩ = some (.int .u64 (s : Int)) ∧ W.cell? ⟨w.heap.size, 1, none⟩ = some (.int .u64 (l : Int)) ∧ W.cell? ⟨w.heap.size, 2, none⟩ = some (.int .u64 (h : Int)) ∧ W.frozen? ⟨w.heap.size, 0, none⟩ = false ∧ W.frozen? ⟨w.heap.size, 1, none⟩ = false ∧ W.frozen? ⟨w.heap.size, 2, none⟩ = false ∧ w.heap.size < W.heap.size ∧ W.cell? ⟨w.heap.size + 1, 0, none⟩ = some (.int .u64 (t : Int)) ∧ W.cell? ⟨w.heap.size + 1, 1, none⟩ = some (.int .u64 (m : Int)) ∧ W.cell? ⟨w.heap.size + 1, 2, none⟩ = some (.int .u64 (k : Int)) ∧ W.frozen? ⟨w.heap.size + 1, 0, none⟩ = false ∧ W.frozen? ⟨w.heap.size + 1, 1, none⟩ = false ∧ W.frozen? ⟨w.heap.size + 1, 2, none⟩ = false ∧ w.heap.size + 1 < W.heap.size ∧ Below w.heap.size w W) (Q := fun W => Exit.then _ _ _ _ W) hS ?_
  clear hS HS
  intro W hS
  have HS := Lib.hid hS
  obtain ⟨c0, c1, c2, c3, c4, c5, c6, d0, d1, d2, d3, d4, d5, d6, hg⟩ := hS
  go_wp2
  go_region_held3 (fun W => W.cell? ⟨w.heap.size, 0, none⟩ = some (.int .u64 (s : Int)) ∧ W.cell? ⟨w.heap.size, 1, none⟩ = some (.int .u64 (l : Int)) ∧ W.cell? ⟨w.heap.size, 2, none⟩ = some (.int .u64 (h : Int)) ∧ W.frozen? ⟨w.heap.size, 0, none⟩ = false ∧ W.frozen? ⟨w.heap.size, 1, none⟩ = false ∧ W.frozen? ⟨w.heap.size, 2, none⟩ = false ∧ w.heap.size < W.heap.size ∧ W.cell? ⟨w.heap.size + 1, 0, none⟩ = some (.int .u64 (t : Int)) ∧ W.cell? ⟨w.heap.size + 1, 1, none⟩ = some (.int .u64 (m : Int)) ∧ W.cell? ⟨w.heap.size + 1, 2, none⟩ = some (.int .u64 (k : Int)) ∧ W.frozen? ⟨w.heap.size + 1, 0, none⟩ = false ∧ W.frozen? ⟨w.heap.size + 1, 1, none⟩ = false ∧ W.frozen? ⟨w.heap.size + 1, 2, none⟩ = false ∧ w.heap.size + 1 < W.heap.size ∧ Below w.heap.size w W)
    (first | (with_reducible exact drew2 HS.out) | (with_reducible exact keep2 (by assumption) (by assumption) (Nat.le_refl _)))
    (first | (go_at_call 26; ((with_reducible refine (none_any _).mono ?_); rintro e w1 ⟨rfl, hb1⟩)))
  rename_i hS
  refine anyW (P := fun W => W.cell? ⟨w.heap.size, 0, none⟩ = some (.int .u64 (s : Int)) ∧ W.cell? ⟨w.heap.size, 1, none⟩ = some (.int .u64 (l : Int)) ∧ W.cell? ⟨w.heap.size, 2, none⟩ = some (.int .u64 (h : Int)) ∧ W.frozen? ⟨w.heap.size, 0, none⟩ = false ∧ W.frozen? ⟨w.heap.size, 1, none⟩ = false ∧ W.frozen? ⟨w.heap.size, 2, none⟩ = false ∧ w.heap.size < W.heap.size ∧ W.cell? ⟨w.heap.size + 1, 0, none⟩ = some (.int .u64 (t : Int)) ∧ W.cell? ⟨w.heap.size + 1, 1, none⟩ = some (.int .u64 (m : Int)) ∧ W.cell? ⟨w.heap.size + 1, 2, none⟩ = some (.int .u64 (k : Int)) ∧ W.frozen? ⟨w.heap.size + 1, 0, none⟩ = false ∧ W.frozen? ⟨w.heap.size + 1, 1, none⟩ = false ∧ W.frozen? ⟨w.heap.size + 1, 2, none⟩ = false ∧ w.heap.size + 1 < W.heap.size ∧ Below w.heap.size w W) (Q := fun W => Exit.then _ _ _ _ W) hS ?_
  clear hS HS
  intro W hS
  have HS := Lib.hid hS
  obtain ⟨c0, c1, c2, c3, c4, c5, c6, d0, d1, d2, d3, d4, d5, d6, hg⟩ := hS
  go_wp2
  go_ret
  exact ⟨rfl, HS.out.2.2.2.2.2.2.2.2.2.2.2.2.2.2⟩
set_option maxHeartbeats 2000000 in
theorem in_out1 (s l h t m k : Nat) (uh : U h) (uk : U k) (ha : Rt ⟨s, l, h⟩) (hb : Rt ⟨t, m, k⟩) (hn : (⟨s, l, h⟩ : St) ≠ noneS) (g1 : ¬ hasP ⟨t, m, k⟩ l) (w : World) :
    Calls Tryd.prog 11 #[sv s l h, sv t m k] w fun e w' => e = .returned (.bool false) ∧ Below w.heap.size w w' := by
  have g1 := decide_eq_false g1
  rcases some_facts hn with q0 | ⟨q0, q1⟩ | ⟨q0, q1, q2⟩
  all_goals
    clear hn
    have k1 := (Slot3.new w (.int .u64 (s : Int)) (.int .u64 (l : Int)) (.int .u64 (h : Int)) 24).alloc (sb t m k)
    have k2 := Slot3.new (w.alloc (sb s l h)) (.int .u64 (t : Int)) (.int .u64 (m : Int)) (.int .u64 (k : Int)) 24
    have hb0 : Below w.heap.size w ((w.alloc (sb s l h)).alloc (sb t m k)) := ((Below.refl _ _).alloc (Nat.le_refl _) _).alloc (by simp) _
    have HS := Lib.hid (mk2 k1.drew k2.drew hb0.drew)
    simp only [World.size_alloc] at HS
    clear k1 k2 hb0
    go_enter Tryd.func11, Tryd.ntmps11
    go_wp2
    go_region_held3 (fun W => W.cell? ⟨w.heap.size, 0, none⟩ = some (.int .u64 (s : Int)) ∧ W.cell? ⟨w.heap.size, 1, none⟩ = some (.int .u64 (l : Int)) ∧ W.cell? ⟨w.heap.size, 2, none⟩ = some (.int .u64 (h : Int)) ∧ W.frozen? ⟨w.heap.size, 0, none⟩ = false ∧ W.frozen? ⟨w.heap.size, 1, none⟩ = false ∧ W.frozen? ⟨w.heap.size, 2, none⟩ = false ∧ w.heap.size < W.heap.size ∧ W.cell? ⟨w.heap.size + 1, 0, none⟩ = some (.int .u64 (t : Int)) ∧ W.cell? ⟨w.heap.size + 1, 1, none⟩ = some (.int .u64 (m : Int)) ∧ W.cell? ⟨w.heap.size + 1, 2, none⟩ = some (.int .u64 (k : Int)) ∧ W.frozen? ⟨w.heap.size + 1, 0, none⟩ = false ∧ W.frozen? ⟨w.heap.size + 1, 1, none⟩ = false ∧ W.frozen? ⟨w.heap.size + 1, 2, none⟩ = false ∧ w.heap.size + 1 < W.heap.size ∧ Below w.heap.size w W)
      (first | (with_reducible exact HS.out) | (with_reducible exact st2b (by assumption)) | (with_reducible exact st2c (by assumption)) | (with_reducible exact keep2 (by assumption) (by assumption) (Nat.le_refl _)))
      (first | (go_at_call 27; ((with_reducible refine (held_rt _ _ _ uh ha _).mono ?_); rintro e w1 ⟨rfl, hb1⟩)) | (go_at_call 27; ((with_reducible refine (held_rt _ _ _ uk hb _).mono ?_); rintro e w1 ⟨rfl, hb1⟩)))
    rename_i hS
    refine anyW (P := fun W => W.cell? ⟨w.heap.size, 0, none⟩ = some (.int .u64 (s : Int)) ∧ W.cell? ⟨w.heap.size, 1, none⟩ = some (.int .u64 (l : Int)) ∧ W.cell? ⟨w.heap.size, 2, none⟩ = some (.int .u64 (h : Int)) ∧ W.frozen? ⟨w.heap.size, 0, none⟩ = false ∧ W.frozen? ⟨w.heap.size, 1, none⟩ = false ∧ W.frozen? ⟨w.heap.size, 2, none⟩ = false ∧ w.heap.size < W.heap.size ∧ W.cell? ⟨w.heap.size + 1, 0, none⟩ = some (.int .u64 (t : Int)) ∧ W.cell? ⟨w.heap.size + 1, 1, none⟩ = some (.int .u64 (m : Int)) ∧ W.cell? ⟨w.heap.size + 1, 2, none⟩ = some (.int .u64 (k : Int)) ∧ W.frozen? ⟨w.heap.size + 1, 0, none⟩ = false ∧ W.frozen? ⟨w.heap.size + 1, 1, none⟩ = false ∧ W.frozen? ⟨w.heap.size + 1, 2, none⟩ = false ∧ w.heap.size + 1 < W.heap.size ∧ Below w.heap.size w W) (Q := fun W => Exit.then _ _ _ _ W) hS ?_
    clear hS HS
    intro W hS
    have HS := Lib.hid hS
    obtain ⟨c0, c1, c2, c3, c4, c5, c6, d0, d1, d2, d3, d4, d5, d6, hg⟩ := hS
    go_wp2
    go_region_held3 (fun W => W.cell? ⟨w.heap.size, 0, none⟩ = some (.int .u64 (s : Int)) ∧ W.cell? ⟨w.heap.size, 1, none⟩ = some (.int .u64 (l : Int)) ∧ W.cell? ⟨w.heap.size, 2, none⟩ = some (.int .u64 (h : Int)) ∧ W.frozen? ⟨w.heap.size, 0, none⟩ = false ∧ W.frozen? ⟨w.heap.size, 1, none⟩ = false ∧ W.frozen? ⟨w.heap.size, 2, none⟩ = false ∧ w.heap.size < W.heap.size ∧ W.cell? ⟨w.heap.size + 1, 0, none⟩ = some (.int .u64 (t : Int)) ∧ W.cell? ⟨w.heap.size + 1, 1, none⟩ = some (.int .u64 (m : Int)) ∧ W.cell? ⟨w.heap.size + 1, 2, none⟩ = some (.int .u64 (k : Int)) ∧ W.frozen? ⟨w.heap.size + 1, 0, none⟩ = false ∧ W.frozen? ⟨w.heap.size + 1, 1, none⟩ = false ∧ W.frozen? ⟨w.heap.size + 1, 2, none⟩ = false ∧ w.heap.size + 1 < W.heap.size ∧ Below w.heap.size w W)
      (first | (with_reducible exact drew2 HS.out) | (with_reducible exact keep2 (by assumption) (by assumption) (Nat.le_refl _)))
      (first | (go_at_call 26; ((with_reducible refine (none_any _).mono ?_); rintro e w1 ⟨rfl, hb1⟩)))
    rename_i hS
    refine anyW (P := fun W => W.cell? ⟨w.heap.size, 0, none⟩ = some (.int .u64 (s : Int)) ∧ W.cell? ⟨w.heap.size, 1, none⟩ = some (.int .u64 (l : Int)) ∧ W.cell? ⟨w.heap.size, 2, none⟩ = some (.int .u64 (h : Int)) ∧ W.frozen? ⟨w.heap.size, 0, none⟩ = false ∧ W.frozen? ⟨w.heap.size, 1, none⟩ = false ∧ W.frozen? ⟨w.heap.size, 2, none⟩ = false ∧ w.heap.size < W.heap.size ∧ W.cell? ⟨w.heap.size + 1, 0, none⟩ = some (.int .u64 (t : Int)) ∧ W.cell? ⟨w.heap.size + 1, 1, none⟩ = some (.int .u64 (m : Int)) ∧ W.cell? ⟨w.heap.size + 1, 2, none⟩ = some (.int .u64 (k : Int)) ∧ W.frozen? ⟨w.heap.size + 1, 0, none⟩ = false ∧ W.frozen? ⟨w.heap.size + 1, 1, none⟩ = false ∧ W.frozen? ⟨w.heap.size + 1, 2, none⟩ = false ∧ w.heap.size + 1 < W.heap.size ∧ Below w.heap.size w W) (Q := fun W => Exit.then _ _ _ _ W) hS ?_
    clear hS HS
    intro W hS
    have HS := Lib.hid hS
    obtain ⟨c0, c1, c2, c3, c4, c5, c6, d0, d1, d2, d3, d4, d5, d6, hg⟩ := hS
    go_wp2_with fail
    go_at_call 9
    refine (has_any _ _ _ _ uk hb _).mono ?_
    rintro e W' ⟨rfl, hb1⟩
    replace HS := Lib.hid (keep2 hb1 HS.out (Nat.le_refl _))
    clear hb1 c0 c1 c2 c3 c4 c5 c6 d0 d1 d2 d3 d4 d5 d6 hg
    obtain ⟨c0, c1, c2, c3, c4, c5, c6, d0, d1, d2, d3, d4, d5, d6, hg⟩ := HS.out
    go_wp2_with fail
    go_ret
    exact ⟨rfl, hg⟩
set_option maxHeartbeats 2000000 in
theorem in_out2 (s l h t m k : Nat) (uh : U h) (uk : U k) (ha : Rt ⟨s, l, h⟩) (hb : Rt ⟨t, m, k⟩) (hn : (⟨s, l, h⟩ : St) ≠ noneS) (g1 : hasP ⟨t, m, k⟩ l) (g2 : ¬ hasP ⟨t, m, k⟩ h) (w : World) :
    Calls Tryd.prog 11 #[sv s l h, sv t m k] w fun e w' => e = .returned (.bool false) ∧ Below w.heap.size w w' := by
  have g1 := decide_eq_true g1
  have g2 := decide_eq_false g2
  rcases some_facts hn with q0 | ⟨q0, q1⟩ | ⟨q0, q1, q2⟩
  all_goals
    clear hn
    have k1 := (Slot3.new w (.int .u64 (s : Int)) (.int .u64 (l : Int)) (.int .u64 (h : Int)) 24).alloc (sb t m k)
    have k2 := Slot3.new (w.alloc (sb s l h)) (.int .u64 (t : Int)) (.int .u64 (m : Int)) (.int .u64 (k : Int)) 24
    have hb0 : Below w.heap.size w ((w.alloc (sb s l h)).alloc (sb t m k)) := ((Below.refl _ _).alloc (Nat.le_refl _) _).alloc (by simp) _
    have HS := Lib.hid (mk2 k1.drew k2.drew hb0.drew)
    simp only [World.size_alloc] at HS
    clear k1 k2 hb0
    go_enter Tryd.func11, Tryd.ntmps11
    go_wp2
    go_region_held3 (fun W => W.cell? ⟨w.heap.size, 0, none⟩ = some (.int .u64 (s : Int)) ∧ W.cell? ⟨w.heap.size, 1, none⟩ = some (.int .u64 (l : Int)) ∧ W.cell? ⟨w.heap.size, 2, none⟩ = some (.int .u64 (h : Int)) ∧ W.frozen? ⟨w.heap.size, 0, none⟩ = false ∧ W.frozen? ⟨w.heap.size, 1, none⟩ = false ∧ W.frozen? ⟨w.heap.size, 2, none⟩ = false ∧ w.heap.size < W.heap.size ∧ W.cell? ⟨w.heap.size + 1, 0, none⟩ = some (.int .u64 (t : Int)) ∧ W.cell? ⟨w.heap.size + 1, 1, none⟩ = some (.int .u64 (m : Int)) ∧ W.cell? ⟨w.heap.size + 1, 2, none⟩ = some (.int .u64 (k : Int)) ∧ W.frozen? ⟨w.heap.size + 1, 0, none⟩ = false ∧ W.frozen? ⟨w.heap.size + 1, 1, none⟩ = false ∧ W.frozen? ⟨w.heap.size + 1, 2, none⟩ = false ∧ w.heap.size + 1 < W.heap.size ∧ Below w.heap.size w W)
      (first | (with_reducible exact HS.out) | (with_reducible exact st2b (by assumption)) | (with_reducible exact st2c (by assumption)) | (with_reducible exact keep2 (by assumption) (by assumption) (Nat.le_refl _)))
      (first | (go_at_call 27; ((with_reducible refine (held_rt _ _ _ uh ha _).mono ?_); rintro e w1 ⟨rfl, hb1⟩)) | (go_at_call 27; ((with_reducible refine (held_rt _ _ _ uk hb _).mono ?_); rintro e w1 ⟨rfl, hb1⟩)))
    rename_i hS
    refine anyW (P := fun W => W.cell? ⟨w.heap.size, 0, none⟩ = some (.int .u64 (s : Int)) ∧ W.cell? ⟨w.heap.size, 1, none⟩ = some (.int .u64 (l : Int)) ∧ W.cell? ⟨w.heap.size, 2, none⟩ = some (.int .u64 (h : Int)) ∧ W.frozen? ⟨w.heap.size, 0, none⟩ = false ∧ W.frozen? ⟨w.heap.size, 1, none⟩ = false ∧ W.frozen? ⟨w.heap.size, 2, none⟩ = false ∧ w.heap.size < W.heap.size ∧ W.cell? ⟨w.heap.size + 1, 0, none⟩ = some (.int .u64 (t : Int)) ∧ W.cell? ⟨w.heap.size + 1, 1, none⟩ = some (.int .u64 (m : Int)) ∧ W.cell? ⟨w.heap.size + 1, 2, none⟩ = some (.int .u64 (k : Int)) ∧ W.frozen? ⟨w.heap.size + 1, 0, none⟩ = false ∧ W.frozen? ⟨w.heap.size + 1, 1, none⟩ = false ∧ W.frozen? ⟨w.heap.size + 1, 2, none⟩ = false ∧ w.heap.size + 1 < W.heap.size ∧ Below w.heap.size w W) (Q := fun W => Exit.then _ _ _ _ W) hS ?_
    clear hS HS
    intro W hS
    have HS := Lib.hid hS
    obtain ⟨c0, c1, c2, c3, c4, c5, c6, d0, d1, d2, d3, d4, d5, d6, hg⟩ := hS
    go_wp2
    go_region_held3 (fun W => W.cell? ⟨w.heap.size, 0, none⟩ = some (.int .u64 (s : Int)) ∧ W.cell? ⟨w.heap.size, 1, none⟩ = some (.int .u64 (l : Int)) ∧ W.cell? ⟨w.heap.size, 2, none⟩ = some (.int .u64 (h : Int)) ∧ W.frozen? ⟨w.heap.size, 0, none⟩ = false ∧ W.frozen? ⟨w.heap.size, 1, none⟩ = false ∧ W.frozen? ⟨w.heap.size, 2, none⟩ = false ∧ w.heap.size < W.heap.size ∧ W.cell? ⟨w.heap.size + 1, 0, none⟩ = some (.int .u64 (t : Int)) ∧ W.cell? ⟨w.heap.size + 1, 1, none⟩ = some (.int .u64 (m : Int)) ∧ W.cell? ⟨w.heap.size + 1, 2, none⟩ = some (.int .u64 (k : Int)) ∧ W.frozen? ⟨w.heap.size + 1, 0, none⟩ = false ∧ W.frozen? ⟨w.heap.size + 1, 1, none⟩ = false ∧ W.frozen? ⟨w.heap.size + 1, 2, none⟩ = false ∧ w.heap.size + 1 < W.heap.size ∧ Below w.heap.size w W)
      (first | (with_reducible exact drew2 HS.out) | (with_reducible exact keep2 (by assumption) (by assumption) (Nat.le_refl _)))
      (first | (go_at_call 26; ((with_reducible refine (none_any _).mono ?_); rintro e w1 ⟨rfl, hb1⟩)))
    rename_i hS
    refine anyW (P := fun W => W.cell? ⟨w.heap.size, 0, none⟩ = some (.int .u64 (s : Int)) ∧ W.cell? ⟨w.heap.size, 1, none⟩ = some (.int .u64 (l : Int)) ∧ W.cell? ⟨w.heap.size, 2, none⟩ = some (.int .u64 (h : Int)) ∧ W.frozen? ⟨w.heap.size, 0, none⟩ = false ∧ W.frozen? ⟨w.heap.size, 1, none⟩ = false ∧ W.frozen? ⟨w.heap.size, 2, none⟩ = false ∧ w.heap.size < W.heap.size ∧ W.cell? ⟨w.heap.size + 1, 0, none⟩ = some (.int .u64 (t : Int)) ∧ W.cell? ⟨w.heap.size + 1, 1, none⟩ = some (.int .u64 (m : Int)) ∧ W.cell? ⟨w.heap.size + 1, 2, none⟩ = some (.int .u64 (k : Int)) ∧ W.frozen? ⟨w.heap.size + 1, 0, none⟩ = false ∧ W.frozen? ⟨w.heap.size + 1, 1, none⟩ = false ∧ W.frozen? ⟨w.heap.size + 1, 2, none⟩ = false ∧ w.heap.size + 1 < W.heap.size ∧ Below w.heap.size w W) (Q := fun W => Exit.then _ _ _ _ W) hS ?_
    clear hS HS
    intro W hS
    have HS := Lib.hid hS
    obtain ⟨c0, c1, c2, c3, c4, c5, c6, d0, d1, d2, d3, d4, d5, d6, hg⟩ := hS
    go_wp2_with fail
    go_at_call 9
    refine (has_any _ _ _ _ uk hb _).mono ?_
    rintro e W' ⟨rfl, hb1⟩
    replace HS := Lib.hid (keep2 hb1 HS.out (Nat.le_refl _))
    clear hb1 c0 c1 c2 c3 c4 c5 c6 d0 d1 d2 d3 d4 d5 d6 hg
    obtain ⟨c0, c1, c2, c3, c4, c5, c6, d0, d1, d2, d3, d4, d5, d6, hg⟩ := HS.out
    go_wp2_with fail
    go_at_call 9
    refine (has_any _ _ _ _ uk hb _).mono ?_
    rintro e W' ⟨rfl, hb1⟩
    replace HS := Lib.hid (keep2 hb1 HS.out (Nat.le_refl _))
    clear hb1 c0 c1 c2 c3 c4 c5 c6 d0 d1 d2 d3 d4 d5 d6 hg
    obtain ⟨c0, c1, c2, c3, c4, c5, c6, d0, d1, d2, d3, d4, d5, d6, hg⟩ := HS.out
    go_wp2_with fail
    go_ret
    exact ⟨rfl, hg⟩
set_option maxHeartbeats 2000000 in
theorem in_in1 (s l h t m k : Nat) (uh : U h) (uk : U k) (ha : Rt ⟨s, l, h⟩) (hb : Rt ⟨t, m, k⟩) (hn : (⟨s, l, h⟩ : St) ≠ noneS) (g1 : hasP ⟨t, m, k⟩ l) (g2 : hasP ⟨t, m, k⟩ h) (g3 : l = h) (w : World) :
    Calls Tryd.prog 11 #[sv s l h, sv t m k] w fun e w' => e = .returned (.bool true) ∧ Below w.heap.size w w' := by
  have g1 := decide_eq_true g1
  have g2 := decide_eq_true g2
  replace g3 : ((l : Int) == h) = true := by simp [g3]
  rcases some_facts hn with q0 | ⟨q0, q1⟩ | ⟨q0, q1, q2⟩
  all_goals
    clear hn
    have k1 := (Slot3.new w (.int .u64 (s : Int)) (.int .u64 (l : Int)) (.int .u64 (h : Int)) 24).alloc (sb t m k)
    have k2 := Slot3.new (w.alloc (sb s l h)) (.int .u64 (t : Int)) (.int .u64 (m : Int)) (.int .u64 (k : Int)) 24
    have hb0 : Below w.heap.size w ((w.alloc (sb s l h)).alloc (sb t m k)) := ((Below.refl _ _).alloc (Nat.le_refl _) _).alloc (by simp) _
    have HS := Lib.hid (mk2 k1.drew k2.drew hb0.drew)
    simp only [World.size_alloc] at HS
    clear k1 k2 hb0
    go_enter Tryd.func11, Tryd.ntmps11
    go_wp2
    go_region_held3 (fun W => W.cell? ⟨w.heap.size, 0, none⟩ = some (.int .u64 (s : Int)) ∧ W.cell? ⟨w.heap.size, 1, none⟩ = some (.int .u64 (l : Int)) ∧ W.cell? ⟨w.heap.size, 2, none⟩ = some (.int .u64 (h : Int)) ∧ W.frozen? ⟨w.heap.size, 0, none⟩ = false ∧ W.frozen? ⟨w.heap.size, 1, none⟩ = false ∧ W.frozen? ⟨w.heap.size, 2, none⟩ = false ∧ w.heap.size < W.heap.size ∧ W.cell? ⟨w.heap.size + 1, 0, none⟩ = some (.int .u64 (t : Int)) ∧ W.cell? ⟨w.heap.size + 1, 1, none⟩ = some (.int .u64 (m : Int)) ∧ W.cell? ⟨w.heap.size + 1, 2, none⟩ = some (.int .u64 (k : Int)) ∧ W.frozen? ⟨w.heap.size + 1, 0, none⟩ = false ∧ W.frozen? ⟨w.heap.size + 1, 1, none⟩ = false ∧ W.frozen? ⟨w.heap.size + 1, 2, none⟩ = false ∧ w.heap.size + 1 < W.heap.size ∧ Below w.heap.size w W)
      (first | (with_reducible exact HS.out) | (with_reducible exact st2b (by assumption)) | (with_reducible exact st2c (by assumption)) | (with_reducible exact keep2 (by assumption) (by assumption) (Nat.le_refl _)))
      (first | (go_at_call 27; ((with_reducible refine (held_rt _ _ _ uh ha _).mono ?_); rintro e w1 ⟨rfl, hb1⟩)) | (go_at_call 27; ((with_reducible refine (held_rt _ _ _ uk hb _).mono ?_); rintro e w1 ⟨rfl, hb1⟩)))
    rename_i hS
    refine anyW (P := fun W => W.cell? ⟨w.heap.size, 0, none⟩ = some (.int .u64 (s : Int)) ∧ W.cell? ⟨w.heap.size, 1, none⟩ = some (.int .u64 (l : Int)) ∧ W.cell? ⟨w.heap.size, 2, none⟩ = some (.int .u64 (h : Int)) ∧ W.frozen? ⟨w.heap.size, 0, none⟩ = false ∧ W.frozen? ⟨w.heap.size, 1, none⟩ = false ∧ W.frozen? ⟨w.heap.size, 2, none⟩ = false ∧ w.heap.size < W.heap.size ∧ W.cell? ⟨w.heap.size + 1, 0, none⟩ = some (.int .u64 (t : Int)) ∧ W.cell? ⟨w.heap.size + 1, 1, none⟩ = some (.int .u64 (m : Int)) ∧ W.cell? ⟨w.heap.size + 1, 2, none⟩ = some (.int .u64 (k : Int)) ∧ W.frozen? ⟨w.heap.size + 1, 0, none⟩ = false ∧ W.frozen? ⟨w.heap.size + 1, 1, none⟩ = false ∧ W.frozen? ⟨w.heap.size + 1, 2, none⟩ = false ∧ w.heap.size + 1 < W.heap.size ∧ Below w.heap.size w W) (Q := fun W => Exit.then _ _ _ _ W) hS ?_
    clear hS HS
    intro W hS
    have HS := Lib.hid hS
    obtain ⟨c0, c1, c2, c3, c4, c5, c6, d0, d1, d2, d3, d4, d5, d6, hg⟩ := hS
    go_wp2
    go_region_held3 (fun W => W.cell? ⟨w.heap.size, 0, none⟩ = some (.int .u64 (s : Int)) ∧ W.cell? ⟨w.heap.size, 1, none⟩ = some (.int .u64 (l : Int)) ∧ W.cell? ⟨w.heap.size, 2, none⟩ = some (.int .u64 (h : Int)) ∧ W.frozen? ⟨w.heap.size, 0, none⟩ = false ∧ W.frozen? ⟨w.heap.size, 1, none⟩ = false ∧ W.frozen? ⟨w.heap.size, 2, none⟩ = false ∧ w.heap.size < W.heap.size ∧ W.cell? ⟨w.heap.size + 1, 0, none⟩ = some (.int .u64 (t : Int)) ∧ W.cell? ⟨w.heap.size + 1, 1, none⟩ = some (.int .u64 (m : Int)) ∧ W.cell? ⟨w.heap.size + 1, 2, none⟩ = some (.int .u64 (k : Int)) ∧ W.frozen? ⟨w.heap.size + 1, 0, none⟩ = false ∧ W.frozen? ⟨w.heap.size + 1, 1, none⟩ = false ∧ W.frozen? ⟨w.heap.size + 1, 2, none⟩ = false ∧ w.heap.size + 1 < W.heap.size ∧ Below w.heap.size w W)
      (first | (with_reducible exact drew2 HS.out) | (with_reducible exact keep2 (by assumption) (by assumption) (Nat.le_refl _)))
      (first | (go_at_call 26; ((with_reducible refine (none_any _).mono ?_); rintro e w1 ⟨rfl, hb1⟩)))
    rename_i hS
    refine anyW (P := fun W => W.cell? ⟨w.heap.size, 0, none⟩ = some (.int .u64 (s : Int)) ∧ W.cell? ⟨w.heap.size, 1, none⟩ = some (.int .u64 (l : Int)) ∧ W.cell? ⟨w.heap.size, 2, none⟩ = some (.int .u64 (h : Int)) ∧ W.frozen? ⟨w.heap.size, 0, none⟩ = false ∧ W.frozen? ⟨w.heap.size, 1, none⟩ = false ∧ W.frozen? ⟨w.heap.size, 2, none⟩ = false ∧ w.heap.size < W.heap.size ∧ W.cell? ⟨w.heap.size + 1, 0, none⟩ = some (.int .u64 (t : Int)) ∧ W.cell? ⟨w.heap.size + 1, 1, none⟩ = some (.int .u64 (m : Int)) ∧ W.cell? ⟨w.heap.size + 1, 2, none⟩ = some (.int .u64 (k : Int)) ∧ W.frozen? ⟨w.heap.size + 1, 0, none⟩ = false ∧ W.frozen? ⟨w.heap.size + 1, 1, none⟩ = false ∧ W.frozen? ⟨w.heap.size + 1, 2, none⟩ = false ∧ w.heap.size + 1 < W.heap.size ∧ Below w.heap.size w W) (Q := fun W => Exit.then _ _ _ _ W) hS ?_
    clear hS HS
    intro W hS
    have HS := Lib.hid hS
    obtain ⟨c0, c1, c2, c3, c4, c5, c6, d0, d1, d2, d3, d4, d5, d6, hg⟩ := hS
    go_wp2_with fail
    go_at_call 9
    refine (has_any _ _ _ _ uk hb _).mono ?_
    rintro e W' ⟨rfl, hb1⟩
    replace HS := Lib.hid (keep2 hb1 HS.out (Nat.le_refl _))
    clear hb1 c0 c1 c2 c3 c4 c5 c6 d0 d1 d2 d3 d4 d5 d6 hg
    obtain ⟨c0, c1, c2, c3, c4, c5, c6, d0, d1, d2, d3, d4, d5, d6, hg⟩ := HS.out
    go_wp2_with fail
    go_at_call 9
    refine (has_any _ _ _ _ uk hb _).mono ?_
    rintro e W' ⟨rfl, hb1⟩
    replace HS := Lib.hid (keep2 hb1 HS.out (Nat.le_refl _))
    clear hb1 c0 c1 c2 c3 c4 c5 c6 d0 d1 d2 d3 d4 d5 d6 hg
    obtain ⟨c0, c1, c2, c3, c4, c5, c6, d0, d1, d2, d3, d4, d5, d6, hg⟩ := HS.out
    go_wp2_with fail
    go_at_call 28
    refine (isOne_any _ _ _ _).mono ?_
    rintro e W' ⟨rfl, hb1⟩
    replace HS := Lib.hid (keep2 hb1 HS.out (Nat.le_refl _))
    clear hb1 c0 c1 c2 c3 c4 c5 c6 d0 d1 d2 d3 d4 d5 d6 hg
    obtain ⟨c0, c1, c2, c3, c4, c5, c6, d0, d1, d2, d3, d4, d5, d6, hg⟩ := HS.out
    go_wp2_with fail
    go_ret
    exact ⟨rfl, hg⟩
set_option maxHeartbeats 2000000 in
theorem in_in2 (s l h t m k : Nat) (uh : U h) (uk : U k) (ha : Rt ⟨s, l, h⟩) (hb : Rt ⟨t, m, k⟩) (hn : (⟨s, l, h⟩ : St) ≠ noneS) (g1 : hasP ⟨t, m, k⟩ l) (g2 : hasP ⟨t, m, k⟩ h) (g3 : ¬ l = h) (g4 : 0 < t) (w : World) :
    Calls Tryd.prog 11 #[sv s l h, sv t m k] w fun e w' => e = .returned (.bool (decide (s % t = 0))) ∧ Below w.heap.size w w' := by
  have g1 := decide_eq_true g1
  have g2 := decide_eq_true g2
  replace g3 : ((l : Int) == h) = false := by simp; omega
  have g5 : ¬ (t : Int) ≤ 0 := by omega
  have g6 : (1 : Int) ≤ t := by omega
  rcases some_facts hn with q0 | ⟨q0, q1⟩ | ⟨q0, q1, q2⟩
  all_goals
    clear hn
    have k1 := (Slot3.new w (.int .u64 (s : Int)) (.int .u64 (l : Int)) (.int .u64 (h : Int)) 24).alloc (sb t m k)
    have k2 := Slot3.new (w.alloc (sb s l h)) (.int .u64 (t : Int)) (.int .u64 (m : Int)) (.int .u64 (k : Int)) 24
    have hb0 : Below w.heap.size w ((w.alloc (sb s l h)).alloc (sb t m k)) := ((Below.refl _ _).alloc (Nat.le_refl _) _).alloc (by simp) _
    have HS := Lib.hid (mk2 k1.drew k2.drew hb0.drew)
    simp only [World.size_alloc] at HS
    clear k1 k2 hb0
    go_enter Tryd.func11, Tryd.ntmps11
    go_wp2
    go_region_held3 (fun W => W.cell? ⟨w.heap.size, 0, none⟩ = some (.int .u64 (s : Int)) ∧ W.cell? ⟨w.heap.size, 1, none⟩ = some (.int .u64 (l : Int)) ∧ W.cell? ⟨w.heap.size, 2, none⟩ = some (.int .u64 (h : Int)) ∧ W.frozen? ⟨w.heap.size, 0, none⟩ = false ∧ W.frozen? ⟨w.heap.size, 1, none⟩ = false ∧ W.frozen? ⟨w.heap.size, 2, none⟩ = false ∧ w.heap.size < W.heap.size ∧ W.cell? ⟨w.heap.size + 1, 0, none⟩ = some (.int .u64 (t : Int)) ∧ W.cell? ⟨w.heap.size + 1, 1, none⟩ = some (.int .u64 (m : Int)) ∧ W.cell? ⟨w.heap.size + 1, 2, none⟩ = some (.int .u64 (k : Int)) ∧ W.frozen? ⟨w.heap.size + 1, 0, none⟩ = false ∧ W.frozen? ⟨w.heap.size + 1, 1, none⟩ = false ∧ W.frozen? ⟨w.heap.size + 1, 2, none⟩ = false ∧ w.heap.size + 1 < W.heap.size ∧ Below w.heap.size w W)
      (first | (with_reducible exact HS.out) | (with_reducible exact st2b (by assumption)) | (with_reducible exact st2c (by assumption)) | (with_reducible exact keep2 (by assumption) (by assumption) (Nat.le_refl _)))
      (first | (go_at_call 27; ((with_reducible refine (held_rt _ _ _ uh ha _).mono ?_); rintro e w1 ⟨rfl, hb1⟩)) | (go_at_call 27; ((with_reducible refine (held_rt _ _ _ uk hb _).mono ?_); rintro e w1 ⟨rfl, hb1⟩)))
    rename_i hS
    refine anyW (P := fun W => W.cell? ⟨w.heap.size, 0, none⟩ = some (.int .u64 (s : Int)) ∧ W.cell? ⟨w.heap.size, 1, none⟩ = some (.int .u64 (l : Int)) ∧ W.cell? ⟨w.heap.size, 2, none⟩ = some (.int .u64 (h : Int)) ∧ W.frozen? ⟨w.heap.size, 0, none⟩ = false ∧ W.frozen? ⟨w.heap.size, 1, none⟩ = false ∧ W.frozen? ⟨w.heap.size, 2, none⟩ = false ∧ w.heap.size < W.heap.size ∧ W.cell? ⟨w.heap.size + 1, 0, none⟩ = some (.int .u64 (t : Int)) ∧ W.cell? ⟨w.heap.size + 1, 1, none⟩ = some (.int .u64 (m : Int)) ∧ W.cell? ⟨w.heap.size + 1, 2, none⟩ = some (.int .u64 (k : Int)) ∧ W.frozen? ⟨w.heap.size + 1, 0, none⟩ = false ∧ W.frozen? ⟨w.heap.size + 1, 1, none⟩ = false ∧ W.frozen? ⟨w.heap.size + 1, 2, none⟩ = false ∧ w.heap.size + 1 < W.heap.size ∧ Below w.heap.size w W) (Q := fun W => Exit.then _ _ _ _ W) hS ?_
    clear hS HS
    intro W hS
    have HS := Lib.hid hS
    obtain ⟨c0, c1, c2, c3, c4, c5, c6, d0, d1, d2, d3, d4, d5, d6, hg⟩ := hS
    go_wp2
    go_region_held3 (fun W => W.cell? ⟨w.heap.size, 0, none⟩ = some (.int .u64 (s : Int)) ∧ W.cell? ⟨w.heap.size, 1, none⟩ = some (.int .u64 (l : Int)) ∧ W.cell? ⟨w.heap.size, 2, none⟩ = some (.int .u64 (h : Int)) ∧ W.frozen? ⟨w.heap.size, 0, none⟩ = false ∧ W.frozen? ⟨w.heap.size, 1, none⟩ = false ∧ W.frozen? ⟨w.heap.size, 2, none⟩ = false ∧ w.heap.size < W.heap.size ∧ W.cell? ⟨w.heap.size + 1, 0, none⟩ = some (.int .u64 (t : Int)) ∧ W.cell? ⟨w.heap.size + 1, 1, none⟩ = some (.int .u64 (m : Int)) ∧ W.cell? ⟨w.heap.size + 1, 2, none⟩ = some (.int .u64 (k : Int)) ∧ W.frozen? ⟨w.heap.size + 1, 0, none⟩ = false ∧ W.frozen? ⟨w.heap.size + 1, 1, none⟩ = false ∧ W.frozen? ⟨w.heap.size + 1, 2, none⟩ = false ∧ w.heap.size + 1 < W.heap.size ∧ Below w.heap.size w W)
      (first | (with_reducible exact drew2 HS.out) | (with_reducible exact keep2 (by assumption) (by assumption) (Nat.le_refl _)))
      (first | (go_at_call 26; ((with_reducible refine (none_any _).mono ?_); rintro e w1 ⟨rfl, hb1⟩)))
    rename_i hS
    refine anyW (P := fun W => W.cell? ⟨w.heap.size, 0, none⟩ = some (.int .u64 (s : Int)) ∧ W.cell? ⟨w.heap.size, 1, none⟩ = some (.int .u64 (l : Int)) ∧ W.cell? ⟨w.heap.size, 2, none⟩ = some (.int .u64 (h : Int)) ∧ W.frozen? ⟨w.heap.size, 0, none⟩ = false ∧ W.frozen? ⟨w.heap.size, 1, none⟩ = false ∧ W.frozen? ⟨w.heap.size, 2, none⟩ = false ∧ w.heap.size < W.heap.size ∧ W.cell? ⟨w.heap.size + 1, 0, none⟩ = some (.int .u64 (t : Int)) ∧ W.cell? ⟨w.heap.size + 1, 1, none⟩ = some (.int .u64 (m : Int)) ∧ W.cell? ⟨w.heap.size + 1, 2, none⟩ = some (.int .u64 (k : Int)) ∧ W.frozen? ⟨w.heap.size + 1, 0, none⟩ = false ∧ W.frozen? ⟨w.heap.size + 1, 1, none⟩ = false ∧ W.frozen? ⟨w.heap.size + 1, 2, none⟩ = false ∧ w.heap.size + 1 < W.heap.size ∧ Below w.heap.size w W) (Q := fun W => Exit.then _ _ _ _ W) hS ?_
    clear hS HS
    intro W hS
    have HS := Lib.hid hS
    obtain ⟨c0, c1, c2, c3, c4, c5, c6, d0, d1, d2, d3, d4, d5, d6, hg⟩ := hS
    go_wp2_with fail
    go_at_call 9
    refine (has_any _ _ _ _ uk hb _).mono ?_
    rintro e W' ⟨rfl, hb1⟩
    replace HS := Lib.hid (keep2 hb1 HS.out (Nat.le_refl _))
    clear hb1 c0 c1 c2 c3 c4 c5 c6 d0 d1 d2 d3 d4 d5 d6 hg
    obtain ⟨c0, c1, c2, c3, c4, c5, c6, d0, d1, d2, d3, d4, d5, d6, hg⟩ := HS.out
    go_wp2_with fail
    go_at_call 9
    refine (has_any _ _ _ _ uk hb _).mono ?_
    rintro e W' ⟨rfl, hb1⟩
    replace HS := Lib.hid (keep2 hb1 HS.out (Nat.le_refl _))
    clear hb1 c0 c1 c2 c3 c4 c5 c6 d0 d1 d2 d3 d4 d5 d6 hg
    obtain ⟨c0, c1, c2, c3, c4, c5, c6, d0, d1, d2, d3, d4, d5, d6, hg⟩ := HS.out
    go_wp2_with fail
    go_at_call 28
    refine (isOne_any _ _ _ _).mono ?_
    rintro e W' ⟨rfl, hb1⟩
    replace HS := Lib.hid (keep2 hb1 HS.out (Nat.le_refl _))
    clear hb1 c0 c1 c2 c3 c4 c5 c6 d0 d1 d2 d3 d4 d5 d6 hg
    obtain ⟨c0, c1, c2, c3, c4, c5, c6, d0, d1, d2, d3, d4, d5, d6, hg⟩ := HS.out
    go_wp2_with fail
    go_ret
    exact ⟨by rw [← beq0]; simp, hg⟩
theorem in_any (s l h t m k : Nat) (uh : U h) (uk : U k) (ha : Rt ⟨s, l, h⟩) (hb : Rt ⟨t, m, k⟩) (w : World) :
    Calls Tryd.prog 11 #[sv s l h, sv t m k] w fun e w' => e = .returned (.bool (decide (inP ⟨s, l, h⟩ ⟨t, m, k⟩))) ∧ Below w.heap.size w w' := by
  by_cases hn : (⟨s, l, h⟩ : St) = noneS
  · rw [decide_eq_true (show inP ⟨s, l, h⟩ ⟨t, m, k⟩ from .inl hn)]; exact in_none s l h t m k uh uk ha hb hn w
  · by_cases g1 : hasP ⟨t, m, k⟩ l
    · by_cases g2 : hasP ⟨t, m, k⟩ h
      · by_cases g3 : l = h
        · rw [decide_eq_true (show inP ⟨s, l, h⟩ ⟨t, m, k⟩ from .inr ⟨g1, g2, .inl g3⟩)]; exact in_in1 s l h t m k uh uk ha hb hn g1 g2 g3 w
        · have g4 : 0 < t := by
            have h1 := (ha.ok hn).le
            obtain ⟨a1, a2, a3⟩ := g1
            obtain ⟨b1, b2, b3⟩ := g2
            dsimp only at *
            rcases hb with ⟨_, e⟩ | e | ⟨e, _⟩
            · dsimp only at e; omega
            · simp only [noneS, St.mk.injEq] at e; omega
            · exact e
          have e : decide (inP ⟨s, l, h⟩ ⟨t, m, k⟩) = decide (s % t = 0) := by
            rw [decide_eq_decide]
            exact ⟨fun e => e.elim (fun e => absurd e hn) fun e => e.2.2.elim (fun e => absurd e g3) id, fun e => .inr ⟨g1, g2, .inr e⟩⟩
          rw [e]; exact in_in2 s l h t m k uh uk ha hb hn g1 g2 g3 g4 w
      · rw [decide_eq_false (show ¬ inP ⟨s, l, h⟩ ⟨t, m, k⟩ from fun e => e.elim hn fun e => g2 e.2.1)]; exact in_out2 s l h t m k uh uk ha hb hn g1 g2 w
    · rw [decide_eq_false (show ¬ inP ⟨s, l, h⟩ ⟨t, m, k⟩ from fun e => e.elim hn fun e => g1 e.1)]; exact in_out1 s l h t m k uh uk ha hb hn g1 w
end Go.Proofs.YtmlgaaolofgdiaaDoor
