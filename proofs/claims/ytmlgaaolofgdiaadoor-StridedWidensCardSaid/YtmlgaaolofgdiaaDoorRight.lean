/- strided.Right. -/
import Derived.Test.YtmlgaaolofgdiaaDoorBase
namespace Go.Proofs.YtmlgaaolofgdiaaDoor
open Go.RowKit SM
attribute [local go_sem ↓] Go.wp_at_zero Go.wp_at_succ
/-- Three cells in a block of their own. -/
def At3 (W : World) (b : Nat) (s l h : Nat) : Prop :=
  W.cell? ⟨b, 0, none⟩ = some (.int .u64 (s : Int)) ∧ W.cell? ⟨b, 1, none⟩ = some (.int .u64 (l : Int)) ∧ W.cell? ⟨b, 2, none⟩ = some (.int .u64 (h : Int)) ∧ b < W.heap.size
theorem At3.new (w : World) (s l h : Nat) : At3 (w.alloc (sb s l h)) w.heap.size s l h := by
  unfold At3; simp [go_sem]
theorem At3.keep {W W' : World} {b s l h : Nat} (k : At3 W b s l h) (hb : Below W.heap.size W W') : At3 W' b s l h := by
  obtain ⟨c0, c1, c2, hs⟩ := k
  have hz := hb.size
  exact ⟨(hb.cell (p := ⟨b, 0, none⟩) hs).trans c0, (hb.cell (p := ⟨b, 1, none⟩) hs).trans c1, (hb.cell (p := ⟨b, 2, none⟩) hs).trans c2, by omega⟩
def rB (s l h : Nat) : Bool := if s = 0 then decide (l = h ∨ (l = 1 ∧ h = 0)) else decide (l < h ∧ (h - l) % s = 0)
theorem keepS {w0 W W' : World} {n b s l h : Nat} (k : At3 W b s l h ∧ Below n w0 W) (hn : n ≤ w0.heap.size) (hb : Below W.heap.size W W') : At3 W' b s l h ∧ Below n w0 W' :=
  ⟨k.1.keep hb, k.2.trans (hb.mono (Nat.le_trans hn k.2.size))⟩
theorem keepR {w0 W W' : World} {n b : Nat} {v0 v1 v2 : Value} (hb : Below W.heap.size W W') (hS : W.cell? ⟨b, 0, none⟩ = some v0 ∧ W.cell? ⟨b, 1, none⟩ = some v1 ∧ W.cell? ⟨b, 2, none⟩ = some v2 ∧ b < W.heap.size ∧ Below n w0 W) (hn : n ≤ w0.heap.size) :
    W'.cell? ⟨b, 0, none⟩ = some v0 ∧ W'.cell? ⟨b, 1, none⟩ = some v1 ∧ W'.cell? ⟨b, 2, none⟩ = some v2 ∧ b < W'.heap.size ∧ Below n w0 W' := by
  obtain ⟨c0, c1, c2, hz, hg⟩ := hS
  have hz' := hb.size
  exact ⟨(hb.cell (p := ⟨b, 0, none⟩) hz).trans c0, (hb.cell (p := ⟨b, 1, none⟩) hz).trans c1, (hb.cell (p := ⟨b, 2, none⟩) hz).trans c2, by omega, hg.trans (hb.mono (Nat.le_trans hn hg.size))⟩
theorem neq_int (a : Nat) (c : Int) (h : ¬ (a : Int) = c) : ((a : Int) == c) = false := by simpa using h
set_option maxHeartbeats 1000000 in
theorem right_00 (l h : Nat) (w : World) (hlh : ((l : Int) == h) = false) (h1 : ((l : Int) == 1) = false) :
    Calls Tryd.prog 25 #[sv 0 l h] w fun e w' => e = .returned (.bool false) ∧ Below w.heap.size w w' := by
  obtain ⟨c0, c1, c2, hz⟩ := At3.new w 0 l h
  have hb0 : Below w.heap.size w (w.alloc (sb 0 l h)) := (Below.refl _ _).alloc (Nat.le_refl _) _
  go_enter Tryd.func25, Tryd.ntmps25
  go_wp2
  go_region_held3 (fun W => W.cell? ⟨w.heap.size, 0, none⟩ = some (.int .u64 0) ∧ W.cell? ⟨w.heap.size, 1, none⟩ = some (.int .u64 (l : Int)) ∧ W.cell? ⟨w.heap.size, 2, none⟩ = some (.int .u64 (h : Int)) ∧ w.heap.size < W.heap.size ∧ Below w.heap.size w W) (first | exact ⟨c0, c1, c2, hz, hb0.drew⟩ | (exact keepR (by assumption) (by assumption) (Nat.le_refl _))) (first | (go_at_call 26; refine (none_any _).mono ?_; rintro e w1 ⟨rfl, hb1⟩))
  all_goals
    go_wp2
    go_ret
    exact ⟨rfl, (by assumption : _ ∧ _ ∧ _ ∧ _ ∧ Below _ _ _).2.2.2.2⟩
set_option maxHeartbeats 1000000 in
theorem right_0n (w : World)  :
    Calls Tryd.prog 25 #[sv 0 1 0] w fun e w' => e = .returned (.bool true) ∧ Below w.heap.size w w' := by
  obtain ⟨c0, c1, c2, hz⟩ := At3.new w 0 1 0
  have hb0 : Below w.heap.size w (w.alloc (sb 0 1 0)) := (Below.refl _ _).alloc (Nat.le_refl _) _
  go_enter Tryd.func25, Tryd.ntmps25
  go_wp2
  go_region_held3 (fun W => W.cell? ⟨w.heap.size, 0, none⟩ = some (.int .u64 0) ∧ W.cell? ⟨w.heap.size, 1, none⟩ = some (.int .u64 1) ∧ W.cell? ⟨w.heap.size, 2, none⟩ = some (.int .u64 0) ∧ w.heap.size < W.heap.size ∧ Below w.heap.size w W) (first | exact ⟨c0, c1, c2, hz, hb0.drew⟩ | (exact keepR (by assumption) (by assumption) (Nat.le_refl _))) (first | (go_at_call 26; refine (none_any _).mono ?_; rintro e w1 ⟨rfl, hb1⟩))
  all_goals
    go_wp2
    go_ret
    exact ⟨rfl, (by assumption : _ ∧ _ ∧ _ ∧ _ ∧ Below _ _ _).2.2.2.2⟩
set_option maxHeartbeats 1000000 in
theorem right_0e (l : Nat) (w : World) :
    Calls Tryd.prog 25 #[sv 0 l l] w fun e w' => e = .returned (.bool true) ∧ Below w.heap.size w w' := by
  have hll : ((l : Int) == l) = true := by simp
  go_enter Tryd.func25, Tryd.ntmps25
  go_wp2
  go_quiet (fail)
  all_goals
    go_wp2
    go_ret
    exact ⟨rfl, below_drewN (by go_grown) _⟩
theorem beq0 (x : Nat) : ((x : Int) == 0) = decide (x = 0) := by rw [Bool.eq_iff_iff]; simp
theorem mod_val (l h s : Nat) (uh : U h) (hl : l ≤ h) : IntKind.u64.wrap ((h : Int) - l) = ((h - l : Nat) : Int) ∧ ((h : Int) - l) % s = (((h - l) % s : Nat) : Int) := by
  have e : ((h : Int) - l) = ((h - l : Nat) : Int) := by omega
  rw [e]; unfold U at uh
  exact ⟨by rw [IntKind.wrap_u64]; omega, by simp⟩
set_option maxHeartbeats 1000000 in
theorem right_sn (s l h : Nat) (hs : 0 < s) (hl : h ≤ l) (w : World) :
    Calls Tryd.prog 25 #[sv s l h] w fun e w' => e = .returned (.bool false) ∧ Below w.heap.size w w' := by
  have h0 : ((s : Int) == 0) = false := by simp; omega
  have h1 : ¬ ((l : Int) < h) := by omega
  go_enter Tryd.func25, Tryd.ntmps25
  go_wp2
  go_ret
  exact ⟨rfl, by go_grown⟩
set_option maxHeartbeats 1000000 in
theorem right_sy (s l h : Nat) (hs : 0 < s) (uh : U h) (hl : l < h) (w : World) :
    Calls Tryd.prog 25 #[sv s l h] w fun e w' => e = .returned (.bool (decide ((h - l) % s = 0))) ∧ Below w.heap.size w w' := by
  have h0 : ((s : Int) == 0) = false := by simp; omega
  have h1 : ((l : Int) < h) := by omega
  have HM := Lib.hid (mod_val l h s uh (Nat.le_of_lt hl))
  have u1 : (h : Int) ≤ 18446744073709551615 := by unfold U at uh; omega
  clear uh hl
  go_enter Tryd.func25, Tryd.ntmps25
  go_wp2
  go_ret
  exact ⟨by simp [HM.out.2]; rw [← Int.natCast_emod, beq0], by go_grown⟩
theorem right_rt (s l h : Nat) (uh : U h) (ha : Rt ⟨s, l, h⟩) (w : World) :
    Calls Tryd.prog 25 #[sv s l h] w fun e w' => e = .returned (.bool true) ∧ Below w.heap.size w w' := by
  rcases ha with ⟨h0, h1⟩ | h1 | ⟨h0, h1, h2⟩
  · dsimp only at h0 h1; subst h0 h1; exact right_0e l w
  · simp only [noneS, St.mk.injEq] at h1; obtain ⟨rfl, rfl, rfl⟩ := h1; exact right_0n w
  · dsimp only at h0 h1 h2
    have := right_sy s l h h0 uh h1 w
    rw [decide_eq_true (Nat.mod_eq_zero_of_dvd h2)] at this
    exact this
/-- Three cells in a block of their own that may be written. -/
def Slot3 (W : World) (b : Nat) (v0 v1 v2 : Value) : Prop :=
  W.cell? ⟨b, 0, none⟩ = some v0 ∧ W.cell? ⟨b, 1, none⟩ = some v1 ∧ W.cell? ⟨b, 2, none⟩ = some v2 ∧ W.frozen? ⟨b, 0, none⟩ = false ∧ W.frozen? ⟨b, 1, none⟩ = false ∧ W.frozen? ⟨b, 2, none⟩ = false ∧ b < W.heap.size
theorem Slot3.new (w : World) (v0 v1 v2 : Value) (t : Nat) : Slot3 (w.alloc (.cells #[v0, v1, v2] t)) w.heap.size v0 v1 v2 := by
  unfold Slot3; simp [go_sem]
theorem Slot3.keep {W W' : World} {b : Nat} {v0 v1 v2 : Value} (k : Slot3 W b v0 v1 v2) (hb : Below W.heap.size W W') : Slot3 W' b v0 v1 v2 := by
  obtain ⟨c0, c1, c2, f0, f1, f2, hs⟩ := k
  have hz := hb.size
  exact ⟨(hb.cell (p := ⟨b, 0, none⟩) hs).trans c0, (hb.cell (p := ⟨b, 1, none⟩) hs).trans c1, (hb.cell (p := ⟨b, 2, none⟩) hs).trans c2, (hb.frozen (p := ⟨b, 0, none⟩) hs).trans f0, (hb.frozen (p := ⟨b, 1, none⟩) hs).trans f1, (hb.frozen (p := ⟨b, 2, none⟩) hs).trans f2, by omega⟩
theorem Slot3.alloc {W : World} {b : Nat} {v0 v1 v2 : Value} (k : Slot3 W b v0 v1 v2) (o : Obj) : Slot3 (W.alloc o) b v0 v1 v2 := k.keep ((Below.refl _ _).alloc (Nat.le_refl _) o)
theorem Slot3.drew {W : World} {b : Nat} {v0 v1 v2 : Value} (k : Slot3 W b v0 v1 v2) : Slot3 W.drew b v0 v1 v2 := k.keep (Below.refl _ _).drew
/-- A whole struct stored. -/
theorem Slot3.put {W : World} {b : Nat} {v0 v1 v2 : Value} (k : Slot3 W b v0 v1 v2) (x0 x1 x2 : Value) : Slot3 (((W.setCell ⟨b, 0, none⟩ x0).setCell ⟨b, 1, none⟩ x1).setCell ⟨b, 2, none⟩ x2) b x0 x1 x2 := by
  obtain ⟨c0, c1, c2, f0, f1, f2, hs⟩ := k
  unfold Slot3; simp [go_sem, *]
theorem cell_far {W : World} {b c i j : Nat} {v : Value} (h : b ≠ c) : (W.setCell ⟨b, i, none⟩ v).cell? ⟨c, j, none⟩ = W.cell? ⟨c, j, none⟩ :=
  World.cell?_setCell_other _ _ _ _ (by intro e; cases e; exact h rfl)
theorem Slot3.far {W : World} {b c : Nat} {v0 v1 v2 : Value} (k : Slot3 W c v0 v1 v2) (h : b ≠ c) (x0 x1 x2 : Value) : Slot3 (((W.setCell ⟨b, 0, none⟩ x0).setCell ⟨b, 1, none⟩ x1).setCell ⟨b, 2, none⟩ x2) c v0 v1 v2 := by
  obtain ⟨c0, c1, c2, f0, f1, f2, hs⟩ := k
  refine ⟨?_, ?_, ?_, ?_, ?_, ?_, ?_⟩ <;> first | (rw [cell_far h, cell_far h, cell_far h]; assumption) | (simp [go_sem, *])
set_option maxHeartbeats 1000000 in
theorem held_rt (s l h : Nat) (uh : U h) (ha : Rt ⟨s, l, h⟩) (w : World) :
    Calls Tryd.prog 27 #[sv s l h] w fun e w' => e = .returned (sv s l h) ∧ Below w.heap.size w w' := by
  have k1 := Lib.hid ((Slot3.new w (.int .u64 (s : Int)) (.int .u64 (l : Int)) (.int .u64 (h : Int)) 24).alloc (sb 0 0 0))
  have k2 := Lib.hid (Slot3.new (w.alloc (sb s l h)) (.int .u64 0) (.int .u64 0) (.int .u64 0) 24)
  have hb0 : Below w.heap.size w ((w.alloc (sb s l h)).alloc (sb 0 0 0)) := ((Below.refl _ _).alloc (Nat.le_refl _) _).alloc (by simp) _
  go_enter Tryd.func27, Tryd.ntmps27
  go_wp2_with fail
  go_at_call 25
  refine (right_rt _ _ _ uh ha _).mono ?_
  rintro e w1 ⟨rfl, hb⟩
  obtain ⟨c0, c1, c2, f0, f1, f2, hz⟩ := k1.out.keep hb
  obtain ⟨d0, d1, d2, e0, e1, e2, hy⟩ := k2.out.keep hb
  have hb2 := hb0.trans (hb.mono (by simp; omega))
  simp only [World.size_alloc] at d0 d1 d2 e0 e1 e2 hy
  clear k1 k2 hb0 hb
  go_wp2
  refine bodyPost_ret (v := sv s l h) (by simp [results, Tryd.results27, go_sem, *]) rfl ⟨rfl, ?_⟩
  refine hb2.trans ?_
  go_grown

end Go.Proofs.YtmlgaaolofgdiaaDoor
