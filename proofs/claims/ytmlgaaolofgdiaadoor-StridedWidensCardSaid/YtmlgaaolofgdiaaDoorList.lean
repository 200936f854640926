/- strided.values and List. -/
import Derived.Test.YtmlgaaolofgdiaaDoorAdd3
import Derived.RangeFuncNested
import Derived.RangeFuncBound
import Derived.RangeFuncCalls
import Derived.RangeFuncLeaves
import Derived.RangeFuncBox
import Derived.Shelf.Abstract
import Derived.Shelf.RegionOpen
import Derived.OwnWalkIn
import Derived.TacticsInMore
import Derived.LoopNIn
import Derived.LoopIn
import Derived.Maps.AppendAt
import Derived.Maps.OwnIn
namespace Go.Proofs.YtmlgaaolofgdiaaDoor
open Go.RowKit Go.Shelf SM
set_option linter.unusedSimpArgs false
attribute [local go_sem] Oper.semAt_some
attribute [local go_sem ↓ high] eql_set neq_set run_mx run_mn
def upto {α : Type} (f : Nat → α) (k : Nat) : List α := (List.range k).map f
theorem upto_succ {α : Type} (f : Nat → α) (k : Nat) : upto f (k + 1) = upto f k ++ [f k] := by simp [upto, List.range_succ]
theorem upto_length {α : Type} (f : Nat → α) (k : Nat) : (upto f k).length = k := by simp [upto]
theorem grown_of_below {W W' : World} (h : Below W.heap.size W W') : W.grownBy W' none := ⟨h.os, h.tape, h.output, h.size, fun k hk _ => h.block k hk⟩
theorem grown_drew (W : World) : W.grownBy W.drew none := grown_of_below (Below.refl _ _).drew
/-- A set's block is kept. -/
def Kp24 (W W' : World) : Prop := ∀ (b : Nat) c f, W.heap[b]? = some (Obj.cells c 24 f) → W'.heap[b]? = some (Obj.cells c 24 f)
theorem kp24_t {A B C : World} (h : Kp24 A B) (k : Kp24 B C) : Kp24 A C := fun b c f e => k b c f (h b c f e)
/-- How many steps. -/
def stN (s l h : Nat) : Nat := (h - l) / s
theorem stN_top {s l h : Nat} (hd : s ∣ h - l) (hl : l ≤ h) : l + stN s l h * s = h := by
  unfold stN; rw [Nat.div_mul_cancel hd]; omega
/-- A contract, inside the widest fence. -/
theorem inW {F : Fence} (HF : Hid (F = Fence.wide)) {n : Nat} {P : Program} {f : FuncId} {args : Array Value} {w : World} {R : Ending → World → Prop} (h : Calls P f args w R) : CallsIn F n P f args w R := by
  rw [HF.out]; exact callsIn_wide.2 h
set_option maxRecDepth 100000 in
set_option maxHeartbeats 2000000 in
theorem values1_in (F : Fence) (HF : Hid (F = Fence.wide)) (n l p : Nat) (s lo hi : Nat) (uh : U hi) (ha : Rt ⟨s, lo, hi⟩) (hn : (⟨s, lo, hi⟩ : St) ≠ noneS) (J Jx : List Nat → World → Prop) (W : World) (hJ : AbidesFrom W.heap.size J)
    (hY : ∀ pre x W1, J pre W1 → pre.length < stN s lo hi + 1 → YieldAt F (n - 1) Tryd.prog l #[.int .u64 (x : Nat)] W1 fun e W' =>
      (e = .returned (.bool true) ∧ J (pre ++ [x]) W' ∧ Kp24 W1 W') ∨ (e = .returned (.bool false) ∧ Jx (pre ++ [x]) W'))
    (c0 : W.cell? ⟨p, 0, none⟩ = some (.int .u64 (s : Int))) (c1 : W.cell? ⟨p, 1, none⟩ = some (.int .u64 (lo : Int))) (c2 : W.cell? ⟨p, 2, none⟩ = some (.int .u64 (hi : Int))) (h0 : J [] W) :
    CallsIn F n Tryd.prog 42 #[.func (.yield l) #[] #[], .pointer (some ⟨p, 0, none⟩)] W fun e W' => (∃ v, e = .returned v) ∧
      ((∃ ys, ys = upto (fun k => lo + k * s) (stN s lo hi + 1) ∧ J ys W') ∨ (∃ pre, (∃ k, k ≤ stN s lo hi + 1 ∧ pre = upto (fun k => lo + k * s) k) ∧ Jx pre W')) := by
  have hro : F.round = none := by rw [HF.out]; rfl
  have h42 : F.fn 42 := by rw [HF.out]; trivial
  have h27 : F.fn 27 := by rw [HF.out]; trivial
  have h26 : F.fn 26 := by rw [HF.out]; trivial
  have hdp : F.depth = none := by rw [HF.out]; rfl
  have q := eq3_some s lo hi hn
  refine callsIn_of_wp Tryd.func42 rfl h42 ?_ hro
  simp only [Tryd.ntmps42, List.size_toArray, List.length_cons, List.length_nil, Nat.reduceAdd, Nat.reduceSub, Array.replicate_succ, Array.replicate_zero, List.push_toArray, List.append_toArray, List.nil_append, List.cons_append]
  gi_wp2_with (gi_at_call 27; refine (inW HF (held_rt _ _ _ uh ha _)).mono ?_; rintro e W1 ⟨rfl, hb1⟩)
  have hJ1 : J [] W1 := hJ _ _ _ none h0 (grown_of_below hb1) (fun _ e => by cases e)
  obtain ⟨a0, a1, a2, a3, a4, a5, a6⟩ := Slot3.drew (Slot3.new W1 (.int .u64 (s : Int)) (.int .u64 (lo : Int)) (.int .u64 (hi : Int)) 24)
  refine wpIn_region_any (by kernel_rfl) ?_
  change wpAnyIn _ _ _ _ _ _ _ _ _ (World.drew _)
  refine wpAnyIn_ready (rs := [0, 1]) (by kernel_rfl) (by simp) ?_
  refine AllReadyIn.cons rfl (fun K hK => ?_) (AllReadyIn.cons rfl (fun K hK => ?_) AllReadyIn.nil)
  focus
    go_simp
    refine hK _ _ ?_
    clear hK K
    try simp only [Act.put, List.setIfInBounds_toArray, List.set_cons_zero, List.set_cons_succ]
    refine wpAnyIn_ready (rs := [1]) (by kernel_rfl) (by simp) ?_
    refine AllReadyIn.cons rfl (fun K hK => ?_) AllReadyIn.nil
    go_simp
    gi_at_call 26
    refine (inW HF (none_any _)).mono ?_
    rintro e W2 ⟨rfl, hb2⟩
    refine hK _ _ ?_
    clear hK K
    try simp only [Act.put, List.setIfInBounds_toArray, List.set_cons_zero, List.set_cons_succ]
  rotate_left
  focus
    go_simp
    gi_at_call 26
    refine (inW HF (none_any _)).mono ?_
    rintro e W2 ⟨rfl, hb2⟩
    obtain ⟨d0, d1, d2, -, -, -, -⟩ := Slot3.keep ⟨a0, a1, a2, a3, a4, a5, a6⟩ hb2
    refine hK _ _ ?_
    clear hK K
    try simp only [Act.put, List.setIfInBounds_toArray, List.set_cons_zero, List.set_cons_succ]
    refine wpAnyIn_ready (rs := [0]) (by kernel_rfl) (by simp) ?_
    refine AllReadyIn.cons rfl (fun K hK => ?_) AllReadyIn.nil
    go_simp
    refine hK _ _ ?_
    clear hK K d0 d1 d2
    try simp only [Act.put, List.setIfInBounds_toArray, List.set_cons_zero, List.set_cons_succ]
  all_goals
    have hbW : Below W1.heap.size W1 W2 := (((Below.refl _ _).alloc (Nat.le_refl _) _).drew).trans (hb2.mono (by simp))
    have hJ2 : J [] W2 := hJ _ _ _ none hJ1 (grown_of_below hbW) (fun _ e => by cases e)
    have hL2 : W2.heap[W1.heap.size]? = some (Obj.cells #[.int .u64 (s : Int), .int .u64 (lo : Int), .int .u64 (hi : Int)] 24 (0, 0)) :=
      (hb2.block _ (by simp)).trans (World.alloc_heap_new W1 _)
    obtain ⟨d0, d1, d2, d3, d4, d5, d6⟩ := Slot3.keep ⟨a0, a1, a2, a3, a4, a5, a6⟩ hb2
    have HL2 := Lib.hid hL2
    clear hL2 hb2 a0 a1 a2 a3 a4 a5 a6 hb1
    refine wpAnyIn_take (i := 2) (v := ?_) hro rfl (by kernel_rfl) (by kernel_rfl) (by kernel_rfl) (fun _ _ _ h => h) ⟨Or.inl ⟨by rfl, ?_⟩, fun _ => rfl⟩ ?_
    rotate_left
    · intro w
      go_simp
      try with_reducible rfl
    try simp only [Act.put, List.setIfInBounds_toArray, List.set_cons_zero, List.set_cons_succ]
    refine wpAnyIn_take (i := 3) (v := ?_) hro rfl (by kernel_rfl) (by kernel_rfl) (by kernel_rfl) (fun _ _ _ h => h) ⟨Or.inl ⟨by rfl, ?_⟩, fun _ => rfl⟩ ?_
    rotate_left
    · intro w
      go_simp
      try with_reducible rfl
    try simp only [Act.put, List.setIfInBounds_toArray, List.set_cons_zero, List.set_cons_succ]
    refine wpAnyIn_take (i := 4) (v := ?_) hro rfl (by kernel_rfl) (by kernel_rfl) (by kernel_rfl) (fun _ _ _ h => h) ⟨Or.inl ⟨by rfl, ?_⟩, fun _ => rfl⟩ ?_
    rotate_left
    · intro w
      go_simp
      try with_reducible rfl
    try simp only [Act.put, List.setIfInBounds_toArray, List.set_cons_zero, List.set_cons_succ]
    refine wpAnyIn_take (i := 5) (v := ?_) hro rfl (by kernel_rfl) (by kernel_rfl) (by kernel_rfl) (fun _ _ _ h => h) ⟨Or.inl ⟨by rfl, ?_⟩, fun _ => rfl⟩ ?_
    rotate_left
    · intro w
      go_simp
      try with_reducible rfl
    try simp only [Act.put, List.setIfInBounds_toArray, List.set_cons_zero, List.set_cons_succ]
    refine wpAnyIn_ready (rs := [6]) (by kernel_rfl) (by simp) ?_
    refine AllReadyIn.cons rfl (fun K hK => ?_) AllReadyIn.nil
    go_simp
    refine hK _ _ ?_
    clear hK K
    try simp only [Act.put, List.setIfInBounds_toArray, List.set_cons_zero, List.set_cons_succ]
    obtain ⟨fn, tmps, assign, body, hy, hR⟩ := hY [] lo W2 hJ2 (by simp)
    refine wpAnyIn_ready (rs := [7]) (by kernel_rfl) (by simp) ?_
    refine AllReadyIn.cons rfl (fun K hK => ?_) AllReadyIn.nil
    go_simp
    refine hR.mono ?_
    rintro e W3 (⟨rfl, hJ3, hk3⟩ | ⟨rfl, hJx3⟩)
    · refine hK _ _ ?_
      clear hK K hy hR d0 d1 d2 d3 d4 d5 d6
      try simp only [Act.put, List.setIfInBounds_toArray, List.set_cons_zero, List.set_cons_succ]
      refine wpAnyIn_take (i := 8) (v := ?_) hro rfl (by kernel_rfl) (by kernel_rfl) (by kernel_rfl) (fun _ _ _ h => h) ⟨Or.inl ⟨by rfl, ?_⟩, fun _ => rfl⟩ ?_
      rotate_left
      · intro w
        go_simp
        try with_reducible rfl
      try simp only [Act.put, List.setIfInBounds_toArray, List.set_cons_zero, List.set_cons_succ]
      refine wpAnyIn_take (i := 9) (v := ?_) hro rfl (by kernel_rfl) (by kernel_rfl) (by kernel_rfl) (fun _ _ _ h => h) ⟨Or.inl ⟨by rfl, ?_⟩, fun _ => rfl⟩ ?_
      rotate_left
      · intro w
        go_simp
        try with_reducible rfl
      try simp only [Act.put, List.setIfInBounds_toArray, List.set_cons_zero, List.set_cons_succ]
      refine wpAnyIn_done (by kernel_rfl) ?_ _
      have hL3 := hk3 _ _ _ HL2.out
      have g0 : W3.cell? ⟨W1.heap.size, 1, none⟩ = some (.int .u64 (lo : Int)) := by simp [World.cell?, hL3]
      clear hL3
      have HL3 := Lib.hid (hk3 _ _ _ HL2.out)
      clear hk3 HL2
      gi_wp2
      gi_loopw [4] (fun v wr => ∃ k x : Nat, k ≤ stN s lo hi ∧ Hid (x = lo + k * s) ∧ x ≤ hi ∧ v = .int .u64 x ∧ J (upto (fun k => lo + k * s) (k + 1)) wr ∧ Hid (wr.heap[W1.heap.size]? = some (Obj.cells #[.int .u64 (s : Int), .int .u64 (lo : Int), .int .u64 (hi : Int)] 24 (0, 0))))
        (fun v _ => (hi - intOf v).toNat)
      case atStart => exact ⟨0, lo, Nat.zero_le _, Lib.hid (by simp), (ha.ok hn).le, rfl, by simpa [upto] using hJ3, HL3⟩
      case round =>
        obtain ⟨k, x, hk, hx, hxh, rfl, hJs, hLs⟩ := hrel
        have g1 : wr.cell? ⟨W1.heap.size, 2, none⟩ = some (.int .u64 (hi : Int)) := by have := hLs.out; simp [World.cell?, this]
        have g2 : wr.cell? ⟨W1.heap.size, 0, none⟩ = some (.int .u64 (s : Int)) := by have := hLs.out; simp [World.cell?, this]
        by_cases hlt : k < stN s lo hi
        · have hs0 : 0 < s := by
            rcases Nat.eq_zero_or_pos s with e | e
            · rw [e] at hlt; simp [stN] at hlt
            · exact e
          have htop := stN_top (ha.ok hn).dvd (ha.ok hn).le
          dsimp only at htop
          have hle : (k + 1) * s ≤ stN s lo hi * s := Nat.mul_le_mul_right s hlt
          rw [Nat.succ_mul] at hle
          have hx' := hx.out
          have hxs : x + s ≤ hi := by omega
          have hne : ((x : Int) != hi) = true := by simp; omega
          have u1 : (hi : Int) ≤ 18446744073709551615 := by unfold U at uh; omega
          have u2 : (x : Int) + s ≤ hi := by omega
          have u3 : x < hi := by omega
          obtain ⟨fn, tmps, assign, body, hy, hR⟩ := hY _ (x + s) wr hJs (by rw [upto_length]; omega)
          simp only [Int.natCast_add] at hy
          clear htop hle hx' hxs
          gi_wp2
          refine hR.mono ?_
          rintro e W3 (⟨rfl, hJ3, hk3⟩ | ⟨rfl, hJx3⟩)
          · gi_wp2
            go_roundw
            case rel => exact ⟨k + 1, x + s, by omega, Lib.hid (by rw [hx.out, Nat.succ_mul]; omega), by omega, by simp, by rw [upto_succ]; rw [hx.out, Nat.add_assoc, ← Nat.succ_mul] at hJ3; exact hJ3, Lib.hid (hk3 _ _ _ hLs.out)⟩
            case measure => simp [intOf]; omega
          · gi_wp2
            refine bodyPost_ret (results_none rfl _ _ _) rfl ?_
            refine ⟨⟨_, rfl⟩, .inr ⟨_, ⟨k + 2, by omega, ?_⟩, hJx3⟩⟩
            rw [upto_succ _ (k + 1), hx.out, Nat.add_assoc, ← Nat.succ_mul]
        · have hke : k = stN s lo hi := by omega
          have htop := stN_top (ha.ok hn).dvd (ha.ok hn).le
          dsimp only at htop
          have hx' := hx.out
          have hne : ((x : Int) != hi) = false := by rw [hke] at hx'; simp; omega
          have HK := Lib.hid hke
          clear htop hx' hke
          gi_wp2
          go_end0
          exact ⟨⟨_, rfl⟩, .inl ⟨_, rfl, by rw [← HK.out]; exact hJs⟩⟩
    · refine hK _ _ ?_
      clear hK K hy hR d0 d1 d2 d3 d4 d5 d6
      try simp only [Act.put, List.setIfInBounds_toArray, List.set_cons_zero, List.set_cons_succ]
      refine wpAnyIn_take (i := 8) (v := ?_) hro rfl (by kernel_rfl) (by kernel_rfl) (by kernel_rfl) (fun _ _ _ h => h) ⟨Or.inl ⟨by rfl, ?_⟩, fun _ => rfl⟩ ?_
      rotate_left
      · intro w
        go_simp
        try with_reducible rfl
      try simp only [Act.put, List.setIfInBounds_toArray, List.set_cons_zero, List.set_cons_succ]
      refine wpAnyIn_take (i := 9) (v := ?_) hro rfl (by kernel_rfl) (by kernel_rfl) (by kernel_rfl) (fun _ _ _ h => h) ⟨Or.inl ⟨by rfl, ?_⟩, fun _ => rfl⟩ ?_
      rotate_left
      · intro w
        go_simp
        try with_reducible rfl
      try simp only [Act.put, List.setIfInBounds_toArray, List.set_cons_zero, List.set_cons_succ]
      refine wpAnyIn_done (by kernel_rfl) ?_ _
      gi_wp2
      refine bodyPost_ret (results_none rfl _ _ _) rfl ?_
      exact ⟨⟨_, rfl⟩, .inr ⟨_, ⟨1, by omega, by simp [upto]⟩, hJx3⟩⟩
end Go.Proofs.YtmlgaaolofgdiaaDoor
