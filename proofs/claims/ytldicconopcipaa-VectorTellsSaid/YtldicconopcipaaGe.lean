/- The reference's numbers and bytes; words of blocks, blocks of bytes and of words. -/
import Derived.Test.YtldicconopcipaaF
import Derived.Test.YtldicconopcipaaI
import Derived.Deep.Onto
namespace Go.Proofs.Ytldicconopcipaa
open Go.RowKit
set_option linter.unusedVariables false
set_option linter.unusedSimpArgs false
attribute [local go_sem] Oper.semAt_some
set_option maxHeartbeats 400000 in
theorem rwide_any (wd : Int) (w : World) :
    Calls Try.prog 38 #[.int .i64 wd] w fun e w' => e = .returned (.int .i64 (hI wd)) ∧ w = w' := by
  go_enter Try.func38, Try.ntmps38
  go_wp2
  all_goals
    go_ret
    refine ⟨?_, rfl⟩
    show Ending.returned (.int .i64 _) = _
    congr 2
    unfold hI
    repeat' split
    all_goals omega
set_option maxHeartbeats 1000000 in
theorem rnumber_any (b off len cap : Nat) (z : Nat → Nat) (hz : ∀ j, z j < 256) (w : World) (hc : ∀ j, j < len → w.cell? ⟨b, off + j, none⟩ = some (.int .u8 (z j : Nat))) (hcap : len ≤ cap) :
    Calls Try.prog 19 #[.slice (some ⟨b, off, none⟩) len cap] w fun e w' => e = .returned (.int .u64 (numN z (min len 8) : Nat)) ∧ w' = w := by
  go_enter Try.func19, Try.ntmps19
  go_wp2_with (fail)
  go_loop [3, 4] (fun x i => ∃ k : Nat, k ≤ min len 8 ∧ i = .int .i64 k ∧ x = .int .u64 (numN z k : Nat)) (fun _ i => 8 - (intOf i).toNat)
  case atStart => exact ⟨0, Nat.zero_le _, rfl, rfl⟩
  case round =>
    obtain ⟨k, hk, rfl, rfl⟩ := hrel
    by_cases hlt : k < len
    · by_cases h8 : k < 8
      · have hck := hc k (by omega)
        have HS := Lib.hid (num_step z hz k (by omega))
        have h8' : (k : Int) < 8 := by omega
        go_wp2
        go_round
        case rel => exact ⟨k + 1, by omega, by go_num, congrArg (Value.int IntKind.u64) HS.out⟩
        case measure => simp [intOf]; omega
      · obtain rfl : k = 8 := by omega
        have hm : min len 8 = 8 := by omega
        go_wp2
        go_ret
        exact ⟨rfl, rfl⟩
    · obtain rfl : k = len := by omega
      have hm : min k 8 = k := by omega
      go_wp2
      go_ret
      exact ⟨rfl, rfl⟩
set_option maxHeartbeats 400000 in
theorem rnumber_nil (w : World) :
    Calls Try.prog 19 #[.slice none 0 0] w fun e w' => e = .returned (.int .u64 0) ∧ w' = w := by
  go_enter Try.func19, Try.ntmps19
  go_wp2_with (fail)
  go_loop [3, 4] (fun x i => i = .int .i64 0 ∧ x = .int .u64 0) (fun _ i => 0)
  case atStart => exact ⟨rfl, rfl⟩
  case round =>
    obtain ⟨rfl, rfl⟩ := hrel
    go_wp2
    go_ret
    exact ⟨rfl, rfl⟩
abbrev bsV (a k : Nat) : List Value := upto (fun j => Value.int .u8 (byN a j : Nat)) k
theorem bsV_len (a k : Nat) : (bsV a k).length = k := upto_length _ _
theorem bsV_succ (a k : Nat) : bsV a (k + 1) = bsV a k ++ [.int .u8 (byN a k : Nat)] := upto_succ _ _
set_option maxHeartbeats 1000000 in
theorem rbytes_any (a : Nat) (wd : Int) (w : World) :
    Calls Try.prog 24 #[.int .u64 a, .int .i64 wd] w fun e W' => ∃ v, e = .returned v ∧ W'.ownsRow w.heap.size 5 1 v (hN wd) (bsV a (hN wd)) ∧ Below w.heap.size w W' := by
  have hbd := hN_bd wd
  have hIN := hI_N wd
  obtain ⟨i0, hi, hz0, hz1, hz2⟩ := info_parts info5
  go_enter Try.func24, Try.ntmps24
  go_wp2_with fail
  go_loopw [5, 6] (fun v i wr => ∃ k : Nat, k ≤ hN wd ∧ i = .int .i64 k ∧ wr.ownsRow w.heap.size 5 1 v k (bsV a k) ∧ Below w.heap.size w wr) (fun _ i _ => hN wd - (intOf i).toNat)
  case atStart => exact ⟨0, Nat.zero_le _, rfl, World.ownsRow_nil _ _ _ _, Below.refl _ _⟩
  case round =>
    obtain ⟨k, hk, rfl, hown, hnx⟩ := hrel
    by_cases hlt : k < hN wd
    · have hsz := hnx.size
      go_wp2_with (first | (go_at_call 38; refine (rwide_any _ _).mono ?_; rintro e w' ⟨rfl, rfl⟩) | (at_builtin; refine wpList_append_own _ rfl _ _ 24 rfl w.heap.size 5 i0 (.int .u8 0) 1 1 Try.underlying24 hi hz0 hz1 hz2 rfl (by decide) _ k (bsV a k) rfl (hown.alloc _) ⟨wr.heap.size, 0, none⟩ 1 1 [.int .u8 ((a : Int) / 2 ^ (8 * k) % 256)] rfl rfl ?c1 ?c2 ?c3 ?c4 ?c5 ?_))
      case c1 =>
        intro j u hj
        match j, hj with
        | 0, hj => simp at hj; subst hj; simp [Addr.add]
      case c2 => intro u hu; simp at hu; subst hu; rfl
      case c3 => unfold maxLen; omega
      case c4 => omega
      case c5 => simp; omega
      intro v' w1 hown' hgrow _
      have hown2 : w1.ownsRow w.heap.size 5 1 v' (k + 1) (bsV a (k + 1)) := by rw [bsV_succ, byI]; exact hown'
      have hb2 : Below w.heap.size w w1 := (hnx.alloc (by omega) _).grown hgrow (by simp; omega) (fun j hj => by have := (hown.lt j hj).1; omega)
      clear hown' hgrow hown
      go_wp2
      go_roundw
      case rel => exact ⟨k + 1, by omega, by go_num, hown2, hb2⟩
      case measure => simp [intOf]; omega
    · obtain rfl : k = hN wd := by omega
      go_wp2_with (go_at_call 38; refine (rwide_any _ _).mono ?_; rintro e w' ⟨rfl, rfl⟩)
      go_ret
      exact ⟨_, rfl, hown, hnx⟩
/-- The block in memory. -/
def WB (w : World) (f : Nat → Nat) (W : World) : Prop := R16 W w.heap.size (bN f) ∧ Below w.heap.size w W
theorem WB.keep {w W W' : World} {f : Nat → Nat} (h : WB w f W) (hb : Below W.heap.size W W') : WB w f W' := ⟨h.1.keep hb, h.2.trans (hb.mono h.2.size)⟩
set_option maxRecDepth 100000 in
theorem rwords_any (f : Nat → Nat) (hf : ∀ j, f j < 256) (w : World) :
    Calls Try.prog 10 #[.agg (bN f)] w fun e W' => e = .returned (.tuple #[.int .u64 (woN f 0 : Nat), .int .u64 (woN f 1 : Nat)]) ∧ Below w.heap.size w W' := by
  have HF := Lib.hid hf
  have HS : Hid (WB w f (w.alloc (.cells (bN f) 22))) := Lib.hid ⟨R16.new w (bN f) (bA_size _) (bA_one _), (Below.refl _ _).alloc (Nat.le_refl _) _⟩
  go_enter Try.func10, Try.ntmps10
  go_upto_region 1 with fail
  generalize World.alloc _ _ = W1 at *
  refine wp_region_noPanic ?_
  refine wp_region_held_drew (S := fun W => WB w f W) (by kernel_rfl) ?_ (fun hHeld => ?_)
  · exact HS.out.keep ((Below.refl _ _).drew)
  generalize World.drew _ = v0 at hHeld ⊢
  clear HS
  refine wpAnyH_take (i := 0) (v := ?_) rfl (by kernel_rfl) (by kernel_rfl) (by kernel_rfl) (fun _ _ _ h => h) (Or.inl ⟨by kernel_rfl, ?_⟩) (by assumption) ?_
  rotate_left
  · intro w hSw
    go_simp
    try with_reducible rfl
  simp only [Act.put, List.setIfInBounds_toArray, List.set_cons_zero, List.set_cons_succ, List.getElem_toArray, List.getElem_cons_succ, List.getElem_cons_zero]
  refine wpAnyH_take (i := 2) (v := ?_) rfl (by kernel_rfl) (by kernel_rfl) (by kernel_rfl) (fun _ _ _ h => h) (Or.inl ⟨by kernel_rfl, ?_⟩) (by assumption) ?_
  rotate_left
  · intro w hSw
    go_simp
    try with_reducible rfl
  simp only [Act.put, List.setIfInBounds_toArray, List.set_cons_zero, List.set_cons_succ, List.getElem_toArray, List.getElem_cons_succ, List.getElem_cons_zero]
  refine wpAnyH_ready (rs := [1]) (by kernel_rfl) (by simp) ?_
  refine AllReadyH.cons rfl (fun K hK => ?_) AllReadyH.nil
  have hn := rnumber_any w.heap.size 0 8 16 (fun j => f (0 + j)) (fun _ => HF.out _) _ (fun j hj => RB.cell hHeld.1 (0 + j) (by omega)) (by decide)
  go_simp
  go_at_call 19
  (with_reducible refine hn.mono ?_)
  rintro e w9 ⟨rfl, rfl⟩
  refine hK.out _ _ hHeld (fun hHeld2 => ?_)
  clear hK K hHeld2
  try simp only [Act.put, List.setIfInBounds_toArray, List.set_cons_zero, List.set_cons_succ, List.getElem_toArray, List.getElem_cons_succ, List.getElem_cons_zero]
  refine wpAnyH_ready (rs := [3]) (by kernel_rfl) (by simp) ?_
  refine AllReadyH.cons rfl (fun K hK => ?_) AllReadyH.nil
  have hn := rnumber_any w.heap.size 8 8 8 (fun j => f (8 + j)) (fun _ => HF.out _) _ (fun j hj => RB.cell hHeld.1 (8 + j) (by omega)) (by decide)
  go_simp
  go_at_call 19
  (with_reducible refine hn.mono ?_)
  rintro e w9 ⟨rfl, rfl⟩
  refine hK.out _ _ hHeld (fun hHeld2 => ?_)
  clear hK K hHeld2
  try simp only [Act.put, List.setIfInBounds_toArray, List.set_cons_zero, List.set_cons_succ, List.getElem_toArray, List.getElem_cons_succ, List.getElem_cons_zero]
  refine wpAnyH_take (i := 4) (v := ?_) rfl (by kernel_rfl) (by kernel_rfl) (by kernel_rfl) (fun _ _ _ h => h) (Or.inl ⟨by kernel_rfl, ?_⟩) (by assumption) ?_
  rotate_left
  · intro w hSw
    go_simp
    try with_reducible rfl
  simp only [Act.put, List.setIfInBounds_toArray, List.set_cons_zero, List.set_cons_succ, List.getElem_toArray, List.getElem_cons_succ, List.getElem_cons_zero]
  refine wpAnyH_take (i := 5) (v := ?_) rfl (by kernel_rfl) (by kernel_rfl) (by kernel_rfl) (fun _ _ _ h => h) (Or.inl ⟨by kernel_rfl, ?_⟩) (by assumption) ?_
  rotate_left
  · intro w hSw
    go_simp
    try with_reducible rfl
  simp only [Act.put, List.setIfInBounds_toArray, List.set_cons_zero, List.set_cons_succ, List.getElem_toArray, List.getElem_cons_succ, List.getElem_cons_zero]
  refine wpAnyH_done (by kernel_rfl) ?_ _
  refine NoPanic.normal ?_
  go_wp2_with fail
  go_ret2
  exact ⟨rfl, hHeld.2⟩
/-- The slice's bytes. -/
def SX (sp : Option Addr) (len : Nat) (z : Nat → Int) (W : World) : Prop := 0 < len → ∃ b off, sp = some ⟨b, off, none⟩ ∧ ∀ j, j < len → W.cell? ⟨b, off + j, none⟩ = some (.int .u8 (z j))
theorem cell_lt {W : World} {b o : Nat} {v : Value} (h : W.cell? ⟨b, o, none⟩ = some v) : b < W.heap.size := by
  by_cases hh : b < W.heap.size
  · exact hh
  · exfalso
    have h0 : W.heap[b]? = none := Array.getElem?_eq_none (by omega)
    simp [World.cell?, h0] at h
/-- The result's noughts, and what is copied so far. -/
def OS (w : World) (z : Nat → Int) (k : Nat) (W : World) : Prop := R16 W w.heap.size z16 ∧ R16 W (w.heap.size + 1) (bA (ofF k z)) ∧ Below w.heap.size w W
theorem OS.new (w : World) (z : Nat → Int) : OS w z 0 ((w.alloc (.cells #[.int .u8 0, .int .u8 0, .int .u8 0, .int .u8 0, .int .u8 0, .int .u8 0, .int .u8 0, .int .u8 0, .int .u8 0, .int .u8 0, .int .u8 0, .int .u8 0, .int .u8 0, .int .u8 0, .int .u8 0, .int .u8 0] 22)).alloc (.cells #[.int .u8 0, .int .u8 0, .int .u8 0, .int .u8 0, .int .u8 0, .int .u8 0, .int .u8 0, .int .u8 0, .int .u8 0, .int .u8 0, .int .u8 0, .int .u8 0, .int .u8 0, .int .u8 0, .int .u8 0, .int .u8 0] 22)) := by
  have h1 := R16.newz w
  have h2 := R16.newz (w.alloc (.cells #[.int .u8 0, .int .u8 0, .int .u8 0, .int .u8 0, .int .u8 0, .int .u8 0, .int .u8 0, .int .u8 0, .int .u8 0, .int .u8 0, .int .u8 0, .int .u8 0, .int .u8 0, .int .u8 0, .int .u8 0, .int .u8 0] 22))
  simp only [World.size_alloc] at h2
  have e : bA (ofF 0 z) = z16 := bA_congr (g := fun _ => 0) (fun i _ => rfl)
  exact ⟨h1.alloc _, by rw [e]; exact h2, ((Below.refl _ w).alloc (Nat.le_refl _) _).alloc (by simp) _⟩
theorem OS.next {w W : World} {z : Nat → Int} {k : Nat} (h : OS w z k W) (hk : k < 16) : OS w z (k + 1) (W.setCell ⟨w.heap.size + 1, k, none⟩ (.int .u8 (z k))) := by
  refine ⟨RB.far h.1 (by omega), ?_, h.2.2.setCell (p := ⟨w.heap.size + 1, k, none⟩) (by dsimp only; omega) _⟩
  have := RB.set h.2.1 k hk (z k)
  rwa [bA_congr (fun j hj => show (if j = k then z k else ofF k z j) = ofF (k + 1) z j from by
    unfold ofF
    by_cases e : j = k
    · subst e; simp
    · by_cases e2 : j < k
      · simp [e, e2, show j < k + 1 by omega]
      · simp [e, e2, show ¬ j < k + 1 by omega])] at this
set_option maxRecDepth 100000 in
set_option maxHeartbeats 1000000 in
theorem rof_any (sp : Option Addr) (len cap : Nat) (z : Nat → Int) (w : World) (hc : SX sp len z w) (hcap : len ≤ cap) :
    Calls Try.prog 16 #[.slice sp len cap] w fun e w' => e = .returned (.agg (bA (ofF len z))) ∧ Below w.heap.size w w' := by
  have HS := Lib.hid (OS.new w z)
  have HC := Lib.hid hc
  clear hc
  go_enter Try.func16, Try.ntmps16
  go_upto_region 2 with fail
  generalize World.alloc (World.alloc _ _) _ = W1 at *
  go_wp2_with fail
  go_loopw [4] (fun i W => ∃ k : Nat, k ≤ len ∧ k ≤ 16 ∧ i = .int .i64 k ∧ OS w z k W) (fun i _ => 16 - (intOf i).toNat)
  case atStart => exact ⟨0, by omega, by omega, rfl, HS.out⟩
  case round =>
    obtain ⟨k, hk, hk16, rfl, hX⟩ := hrel
    have hS := Lib.hid hX
    clear hX
    by_cases hlt : k < len
    · by_cases hk2 : k < 16
      · obtain ⟨b, off, rfl, hcs⟩ := HC.out (by omega)
        have hcw := hcs k hlt
        have hcb := (hS.out.2.2.cell (p := ⟨b, off + k, none⟩) (cell_lt hcw)).trans hcw
        have c1 := RB.cell hS.out.2.1 k hk2
        have f1 := RB.froz hS.out.2.1 k
        have HN := Lib.hid (hS.out.next hk2)
        have hki : (k : Int) < 16 := by omega
        have hkl : (k : Int) < (len : Int) := by omega
        clear hcs hcw
        go_wp2_with fail
        exact ⟨⟨k + 1, by omega, by omega, by simp, HN.out⟩, by simp [intOf]; omega⟩
      · obtain rfl : k = 16 := by omega
        have h5 := hS.out.2.1
        have h8 := hS.out.1
        rw [bA_congr (fun j hj => show ofF 16 z j = ofF len z j from by unfold ofF; rw [if_pos hj, if_pos (by omega)])] at h5
        have H5 := Lib.hid h5
        have hkl : (16 : Int) < (len : Int) := by omega
        clear h5
        go_wp2_with (first | (refine wpList_load22 rfl rfl rfl H5.out ?_) | (refine wpList_store22 rfl rfl rfl rfl h8 (bA_size _) (bA_one _) ?_))
        try simp only [Act.put, List.setIfInBounds_toArray, List.set_cons_zero, List.set_cons_succ, List.getElem_toArray, List.getElem_cons_succ, List.getElem_cons_zero]
        have h9 := Lib.hid (h8.row (bA_size (ofF len z)) (bA_one _))
        have hB9 := Lib.hid (below_row (vs := bA (ofF len z)) hS.out.2.2 (Nat.le_refl _))
        generalize World.setRow _ _ _ = W2 at *
        exact bodyPost_ret (v := .agg (bA (ofF len z))) (results_cell_row rfl _ _ _ 22 _ (0, 0) _ rfl h9.out.1 Try.underlying22 rfl (by rw [h9.out.2.1]; exact info22)) rfl ⟨rfl, hB9.out⟩
    · obtain rfl : k = len := by omega
      have h5 := hS.out.2.1
      have h8 := hS.out.1
      have H5 := Lib.hid h5
      have hkl : ¬ (k : Int) < (k : Int) := by omega
      clear h5
      go_wp2_with (first | (refine wpList_load22 rfl rfl rfl H5.out ?_) | (refine wpList_store22 rfl rfl rfl rfl h8 (bA_size _) (bA_one _) ?_))
      try simp only [Act.put, List.setIfInBounds_toArray, List.set_cons_zero, List.set_cons_succ, List.getElem_toArray, List.getElem_cons_succ, List.getElem_cons_zero]
      have h9 := Lib.hid (h8.row (bA_size (ofF k z)) (bA_one _))
      have hB9 := Lib.hid (below_row (vs := bA (ofF k z)) hS.out.2.2 (Nat.le_refl _))
      generalize World.setRow _ _ _ = W2 at *
      exact bodyPost_ret (v := .agg (bA (ofF k z))) (results_cell_row rfl _ _ _ 22 _ (0, 0) _ rfl h9.out.1 Try.underlying22 rfl (by rw [h9.out.2.1]; exact info22)) rfl ⟨rfl, hB9.out⟩
theorem grown_of {W W' : World} (hb : Below W.heap.size W W') : W.grownBy W' none := ⟨hb.os, hb.tape, hb.output, hb.size, fun k hk _ => hb.block k hk⟩
theorem bsV_both (low high : Nat) : bsV low 8 ++ bsV high 8 = by8 low ++ by8 high := rfl
theorem rblock_any (low high : Nat) (w : World) :
    Calls Try.prog 14 #[.int .u64 low, .int .u64 high] w fun e W' => e = .returned (.agg (bN (blF low high))) ∧ Below w.heap.size w W' := by
  have H0 := Lib.hid (R16.newz w)
  have HB := Lib.hid ((Below.refl _ w).alloc (Nat.le_refl _) (.cells #[.int .u8 0, .int .u8 0, .int .u8 0, .int .u8 0, .int .u8 0, .int .u8 0, .int .u8 0, .int .u8 0, .int .u8 0, .int .u8 0, .int .u8 0, .int .u8 0, .int .u8 0, .int .u8 0, .int .u8 0, .int .u8 0] 22))
  go_enter Try.func14, Try.ntmps14
  go_upto_region 1 with fail
  generalize World.alloc _ _ = W0 at *
  go_wp2_with fail
  go_at_call 24
  refine (rbytes_any low 8 _).mono ?_
  rintro e w1 ⟨v1, rfl, ho1, hb1⟩
  have K0 := Lib.hid (H0.out.keep hb1)
  have KB := Lib.hid (HB.out.trans (hb1.mono HB.out.size))
  have O1 := Lib.hid ho1
  have hz0 := H0.out.lt
  have hz1 := hb1.size
  clear H0 HB hb1 ho1
  go_wp2_with fail
  go_at_call 24
  refine (rbytes_any high 8 _).mono ?_
  rintro e w2 ⟨v2, rfl, ho2, hb2⟩
  have L0 := Lib.hid (K0.out.keep hb2)
  have LB := Lib.hid (KB.out.trans (hb2.mono KB.out.size))
  have hz2 := hb2.size
  have HZ := Lib.hid (And.intro hz0 (And.intro hz1 hz2))
  clear hz0 hz1 hz2
  have O2 := Lib.hid (O1.out.kept (grown_of hb2) (by cases h : v1.ownBlock with | none => exact .inl rfl | some k => exact .inr (by simp)))
  obtain ⟨g2, cap2, rfl⟩ : ∃ g cap, v2 = .slice (some ⟨g, 0, none⟩) 8 cap := by
    rcases ho2.2 with ⟨_, h⟩ | ⟨g, cap, cur, h, _⟩
    · exact absurd h (by decide)
    · exact ⟨g, cap, h⟩
  have hcell := ho2.cells (g := g2) rfl
  obtain ⟨i, i1, i2, i3, i4⟩ := info5a
  have HR := Lib.hid hcell
  have HO : Hid (∀ u ∈ bsV high (hN 8), u.oneCell' = true) := Lib.hid (fun u hu => by
    simp only [upto, List.mem_map] at hu
    obtain ⟨q, _, rfl⟩ := hu
    rfl)
  have HI := Lib.hid (And.intro i1 (And.intro i2 (And.intro i3 i4)))
  clear hcell ho2 i1 i2 i3 i4 hb2 O1 K0 KB
  go_wp2_with (at_builtin; refine wpList_append_own _ rfl _ _ 24 rfl W0.heap.size 5 i (.int .u8 0) 1 1 Try.underlying24 HI.out.1 HI.out.2.1 HI.out.2.2.1 HI.out.2.2.2 rfl (by decide) _ (hN 8) (bsV low (hN 8)) rfl O2.out ⟨g2, 0, none⟩ 8 cap2 (bsV high (hN 8)) rfl rfl HR.out HO.out (by decide) (by decide) (by have := HZ.out; omega) ?_)
  intro v' w' hown hgr _
  have hk : ∀ k, v1.ownBlock = some k → W0.heap.size ≤ k := fun k e => (O2.out.lt k e).1
  obtain ⟨g, cap, hv, hcp⟩ : ∃ g cap, v' = .slice (some ⟨g, 0, none⟩) 16 cap ∧ 16 ≤ cap := by
    rcases hown.2 with ⟨_, h⟩ | ⟨g, cap, cur, h, _, _, hc, _⟩
    · exact absurd h (by decide)
    · exact ⟨g, cap, h, hc⟩
  subst hv
  have hcell : ∀ j, j < 16 → w'.cell? ⟨g, j, none⟩ = some (.int .u8 (blF low high j : Nat)) := fun j hj => (hown.cellAt j (by show j < (hN 8 + 8) * 1; exact hj)).trans (by8_both low high j hj)
  have hz := HZ.out
  have M0 : Hid (R16 w' w.heap.size z16) := Lib.hid ⟨(hgr.block _ L0.out.lt (fun e => by have := hk _ e.symm; omega)).trans L0.out.1, L0.out.2⟩
  have MB := Lib.hid (LB.out.grown hgr LB.out.size (fun k e => by have := hk k e; omega))
  have HOF := Lib.hid (rof_any (some ⟨g, 0, none⟩) 16 cap (fun i => (blF low high i : Int)) w' (fun _ => ⟨g, 0, rfl, fun j hj => by rw [Nat.zero_add]; exact hcell j hj⟩) hcp)
  clear hcell hown hgr L0 LB HR HO HI hz hk O2 HZ hcp
  have ebl : bA (ofF 16 fun i => (blF low high i : Int)) = bN (blF low high) := bA_congr fun i hi => if_pos hi
  rw [ebl] at HOF
  clear ebl
  generalize hVS : bN (blF low high) = vs at *
  have hvs : vs.size = 16 := by rw [← hVS]; exact bA_size _
  have hvs1 : vs.all (·.oneCell') = true := by rw [← hVS]; exact bA_one _
  have HVS := Lib.hid hVS
  clear hVS
  go_wp2_with fail
  go_at_call 16
  refine HOF.out.mono ?_
  rintro e w3 ⟨rfl, hb3⟩
  have N0 := Lib.hid (M0.out.keep hb3)
  have NB := Lib.hid (MB.out.trans (hb3.mono MB.out.size))
  clear M0 MB HOF hb3
  go_wp2_with (refine wpList_store22 rfl rfl rfl rfl N0.out hvs hvs1 ?_)
  try simp only [Act.put, List.setIfInBounds_toArray, List.set_cons_zero, List.set_cons_succ, List.getElem_toArray, List.getElem_cons_succ, List.getElem_cons_zero]
  have h9 := Lib.hid (N0.out.row hvs hvs1)
  have hB9 := Lib.hid (below_row (vs := vs) NB.out (Nat.le_refl _))
  clear N0 NB
  generalize World.setRow _ _ _ = W3 at *
  exact bodyPost_ret (v := .agg vs) (results_cell_row rfl _ _ _ 22 _ (0, 0) _ rfl h9.out.1 Try.underlying22 rfl (by rw [h9.out.2.1]; exact info22)) rfl ⟨by rw [← HVS.out], hB9.out⟩
end Go.Proofs.Ytldicconopcipaa
