/- vector.words, split and Words: a block's words. -/
import Derived.Test.YtldicconopcipaaC
namespace Go.Proofs.Ytldicconopcipaa
open Go.RowKit Go.Shelf
set_option linter.unusedVariables false
set_option linter.unusedSimpArgs false
attribute [local go_sem] Oper.semAt_some
theorem inW {F : Fence} (HF : Hid (F = Fence.wide)) {n : Nat} {P : Program} {f : FuncId} {args : Array Value} {w : World} {R : Ending → World → Prop} (h : Calls P f args w R) : CallsIn F n P f args w R := by
  rw [HF.out]; exact callsIn_wide.2 h
/-- A block of these bytes, as plain numbers. -/
abbrev bN (f : Nat → Nat) : Array Value := bA fun i => (f i : Int)
def woN (f : Nat → Nat) (j : Nat) : Nat := numN (fun i => f (8 * j + i)) 8
def wordF (f : Nat → Nat) (j : Nat) : Pl 2 := if h : j < 2 then ⟨(j, woN f j), h⟩ else ⟨(0, 0), by omega⟩
theorem wordF_at (f : Nat → Nat) (j : Nat) (h : j < 2) : wordF f j = ⟨(j, woN f j), h⟩ := dif_pos h
def KpR (A : Nat) (W W' : World) : Prop := ∀ i, i < 16 → W'.cell? ⟨A, i, none⟩ = W.cell? ⟨A, i, none⟩
theorem kpR_t {A : Nat} {X Y Z : World} (h : KpR A X Y) (k : KpR A Y Z) : KpR A X Z := fun i hi => (k i hi).trans (h i hi)
theorem kpR_b {A : Nat} {w : World} (hA : A < w.heap.size) (W : World) (l : Nat) (o o' : Obj) (hl : w.heap.size ≤ l) (h : W.heap[l]? = some o) (h1 : o.isCells = false) (h2 : o.isWalk = false) : KpR A W (W.putObj l o') :=
  have hb := belowK_b (Nat.le_refl w.heap.size) W l o o' hl h h1 h2
  fun i _ => hb.cell (p := ⟨A, i, none⟩) hA
set_option maxRecDepth 100000 in
set_option maxHeartbeats 1000000 in
theorem words1_in (F : Fence) (HF : Hid (F = Fence.wide)) (n : Nat) (h39 : F.fn 39) (hro : F.round = none) (hn : 1 ≤ n) (l A : Nat) (f : Nat → Nat) (hf : ∀ j, f j < 256) (J Jx : List (Pl 2) → World → Prop)
    (hY : ∀ pre x W, J pre W → pre.length < 2 → YieldAt F (n - 1) Try.prog l #[.int .i64 (x.1.1 : Int), .int .u64 ((x.1.2 : Nat) : Int)] W fun e W' =>
      (e = .returned (.bool true) ∧ J (pre ++ [x]) W' ∧ KpR A W W') ∨ (e = .returned (.bool false) ∧ Jx (pre ++ [x]) W'))
    (W : World) (hA : ∀ i, i < 16 → W.cell? ⟨A, i, none⟩ = some (.int .u8 (f i : Int))) (h0 : J [] W) :
    CallsIn F n Try.prog 39 #[.func (.yield l) #[] #[], .pointer (some ⟨A, 0, none⟩)] W fun e W' => (∃ v, e = .returned v) ∧
      ((∃ ys, ys = upto (wordF f) 2 ∧ J ys W') ∨ (∃ pre, (∃ k, k ≤ 2 ∧ pre = upto (wordF f) k) ∧ Jx pre W')) := by
  have HA := Lib.hid hA
  have HY := Lib.hid hY
  clear hA hY
  refine callsIn_of_wp Try.func39 rfl h39 ?_ hro
  simp only [Try.ntmps39, List.size_toArray, List.length_cons, List.length_nil, Nat.reduceAdd, Nat.reduceSub, Array.replicate_succ, Array.replicate_zero, List.push_toArray, List.append_toArray, List.nil_append, List.cons_append]
  gi_wp2
  gi_loopw [4] (fun i wr => ∃ k : Nat, k ≤ 2 ∧ i = .int .i64 k ∧ J (upto (wordF f) k) wr ∧ KpR A W wr)
    (fun i _ => 2 - (intOf i).toNat)
  case atStart => exact ⟨0, Nat.zero_le _, rfl, h0, fun _ _ => rfl⟩
  case round =>
    obtain ⟨k, hk, rfl, hJs, hnx⟩ := hrel
    by_cases hlt : k < 2
    · have hx := HY.out _ (wordF f k) wr hJs (by rw [upto_length]; exact hlt)
      rw [wordF_at f k hlt] at hx
      dsimp only at hx
      have hnum : ∀ c, 8 ≤ c → Calls Try.prog 40 #[.slice (some ⟨A, 8 * k, none⟩) 8 c] wr fun e w' => e = .returned (.int .u64 (woN f k : Nat)) ∧ w' = wr := fun c hc =>
        number_lt A (8 * k) 8 c (fun i => f (8 * k + i)) (fun j => hf _) wr (fun j hj => (hnx _ (by omega)).trans (HA.out _ (by omega))) hc (by omega)
      have HN := Lib.hid hnum
      clear hnum
      obtain ⟨fn, tmps, assign, body, hy, hR⟩ := hx
      have HR := Lib.hid hR
      clear hR
      obtain rfl | rfl : k = 0 ∨ k = 1 := by omega
      · simp only [Int.natCast_zero, Int.cast_ofNat_Int, Int.natCast_one] at hy
        gi_wp2
        refine ⟨by rw [HF.out]; trivial, (inW HF (HN.out _ (by decide))).mono ?_⟩
        rintro e w2 ⟨rfl, rfl⟩
        gi_wp2
        refine HR.out.mono ?_
        rintro e W3 (⟨rfl, hJ3, hk3⟩ | ⟨rfl, hJx3⟩)
        · gi_wp2
          go_roundw
          case rel => exact ⟨1, by decide, by go_num, by rw [upto_succ, wordF_at f 0 (by decide)]; exact hJ3, kpR_t hnx hk3⟩
          case measure => simp [intOf]
        · gi_wp2
          refine bodyPost_ret (results_none rfl _ _ _) rfl ?_
          exact ⟨⟨_, rfl⟩, .inr ⟨_, ⟨1, by decide, (congrArg (fun q => upto (wordF f) 0 ++ [q]) (wordF_at f 0 (by decide)).symm).trans (upto_succ _ 0).symm⟩, hJx3⟩⟩
      · simp only [Int.natCast_zero, Int.cast_ofNat_Int, Int.natCast_one] at hy
        gi_wp2
        refine ⟨by rw [HF.out]; trivial, (inW HF (HN.out _ (by decide))).mono ?_⟩
        rintro e w2 ⟨rfl, rfl⟩
        gi_wp2
        refine HR.out.mono ?_
        rintro e W3 (⟨rfl, hJ3, hk3⟩ | ⟨rfl, hJx3⟩)
        · gi_wp2
          go_roundw
          case rel => exact ⟨2, by decide, by go_num, by rw [upto_succ, wordF_at f 1 (by decide)]; exact hJ3, kpR_t hnx hk3⟩
          case measure => simp [intOf]
        · gi_wp2
          refine bodyPost_ret (results_none rfl _ _ _) rfl ?_
          exact ⟨⟨_, rfl⟩, .inr ⟨_, ⟨2, by decide, (congrArg (fun q => upto (wordF f) 1 ++ [q]) (wordF_at f 1 (by decide)).symm).trans (upto_succ _ 1).symm⟩, hJx3⟩⟩
    · obtain rfl : k = 2 := by omega
      gi_wp2
      go_end0
      exact ⟨⟨_, rfl⟩, .inl ⟨_, rfl, hJs⟩⟩
theorem words_in (F : Fence) (HF : Hid (F = Fence.wide)) (n : Nat) (x : Array Value) (w : World) :
    CallsIn F n Try.prog 25 #[.agg x] w fun e w' => e = .returned (.func (.func 39) #[] #[.pointer (some ⟨w.heap.size, 0, none⟩)]) ∧ w' = w.alloc (.cells x 22) := by
  refine inW HF ?_
  go_enter Try.func25, Try.ntmps25
  go_wp2_with fail
  go_ret
  exact ⟨rfl, rfl⟩
theorem words_stops (F : Fence) (HF : Hid (F = Fence.wide)) (n : Nat) (h39 : F.fn 39) (hro : F.round = none) (hn : 1 ≤ n) (A : Nat) (f : Nat → Nat) (hf : ∀ j, f j < 256) (w : World) (hAn : A < w.heap.size)
    (hA : ∀ i, i < 16 → w.cell? ⟨A, i, none⟩ = some (.int .u8 (f i : Int))) :
    SeqStopsK F n Try.prog 39 #[.pointer (some ⟨A, 0, none⟩)] (fun x : Pl 2 => #[Value.int .i64 (x.1.1 : Int), Value.int .u64 ((x.1.2 : Nat) : Int)]) (KpR A) (fun ys => ys = upto (wordF f) 2)
      (fun pre => ∃ k, k ≤ 2 ∧ pre = upto (wordF f) k) 2 w := fun l J Jx W hW _ _ hY h0 =>
  words1_in F HF n h39 hro hn l A f hf J Jx hY W (fun i hi => (hW.cell (p := ⟨A, i, none⟩) (by dsimp only; omega)).trans (hA i hi)) h0
theorem words_any (x : Array Value) (w : World) :
    Calls Try.prog 25 #[.agg x] w fun e w' => e = .returned (.func (.func 39) #[] #[.pointer (some ⟨w.heap.size, 0, none⟩)]) ∧ w' = w.alloc (.cells x 22) := callsIn_wide.1 (words_in Fence.wide (Lib.hid rfl) 1 x w)
theorem wpIn_of_wp {F : Fence} (HF : Hid (F = Fence.wide)) {n : Nat} {P : Program} {c : Code} {Q : Exit → Act → World → Prop} {a : Act} {w : World} (h : c.wp P Q a w) : c.wpIn F n P Q a w := by
  rw [HF.out]; exact wpIn_wide.2 h
theorem wp_of_wpIn {F : Fence} (HF : Hid (F = Fence.wide)) (n : Nat) {P : Program} {c : Code} {Q : Exit → Act → World → Prop} {a : Act} {w : World} (h : c.wpIn F n P Q a w) : c.wp P Q a w := by
  rw [HF.out] at h; exact wpIn_wide.1 h
theorem wr_words (f : Nat → Nat) (j : Nat) (hj : j < 2) : wr (upto (wordF f) 2) j = woN f j := by
  rw [show upto (wordF f) 2 = [] ++ [wordF f 0] ++ [wordF f 1] from rfl, wr_snoc, wr_snoc, wordF_at f 0 (by decide), wordF_at f 1 (by decide)]
  obtain rfl | rfl : j = 0 ∨ j = 1 := by omega
  · simp
  · simp
theorem put2_0 (W : World) (b : Nat) (u v z : Value) (h : W.cell? ⟨b, 0, none⟩ = some z) : ((W.setCell ⟨b, 0, none⟩ u).setCell ⟨b, 1, none⟩ v).cell? ⟨b, 0, none⟩ = some u :=
  (farO _ b 1 0 v (by decide)).trans (World.cell?_setCell_same _ _ _ h)
theorem put2_1 (W : World) (b : Nat) (u v z : Value) (h : W.cell? ⟨b, 1, none⟩ = some z) : ((W.setCell ⟨b, 0, none⟩ u).setCell ⟨b, 1, none⟩ v).cell? ⟨b, 1, none⟩ = some v :=
  World.cell?_setCell_same _ _ _ ((farO _ b 0 1 u (by decide)).trans h)
set_option maxRecDepth 100000 in
set_option maxHeartbeats 1000000 in
theorem split_in (F : Fence) (HF : Hid (F = Fence.wide)) (n : Nat) (hn3 : 3 ≤ n) (f : Nat → Nat) (hf : ∀ j, f j < 256) (y0 y1 : Nat) (e0 : woN f 0 = y0) (e1 : woN f 1 = y1) (w : World) :
    CallsIn F n Try.prog 18 #[.agg (bN f)] w fun e W' => e = .returned (.agg #[.int .u64 (y0 : Nat), .int .u64 (y1 : Nat)]) ∧ Below w.heap.size w W' := by
  have E0 := Lib.hid e0
  have E1 := Lib.hid e1
  clear e0 e1
  have h1 : 1 ≤ n := by omega
  have hro : F.round = none := by rw [HF.out]; rfl
  have h18 : F.fn 18 := by rw [HF.out]; trivial
  have h39 : F.fn 39 := by rw [HF.out]; trivial
  have HX := Lib.hid (((R16.new w (bN f) (bA_size _) (bA_one _)).alloc (Obj.cells #[.int .u64 0, .int .u64 0] 38)).alloc (Obj.cells #[.int .u64 0, .int .u64 0] 38))
  have hB0 : Below w.heap.size w (((w.alloc (Obj.cells (bN f) 22)).alloc (Obj.cells #[.int .u64 0, .int .u64 0] 38)).alloc (Obj.cells #[.int .u64 0, .int .u64 0] 38)) :=
    (((Below.refl _ w).alloc (Nat.le_refl _) _).alloc (by simp) _).alloc (by simp; omega) _
  refine callsIn_of_wp_marks Try.func18 rfl h18 ?_ hro
  simp only [Try.ntmps18, List.size_toArray, List.length_cons, List.length_nil, Nat.reduceAdd, Nat.reduceSub, Array.replicate_succ, Array.replicate_zero, List.push_toArray, List.append_toArray, List.nil_append, List.cons_append]
  refine wpIn_of_wp HF ?_
  go_upto_region 2 with fail
  go_wp2_with (first | (refine wpList_load22 rfl rfl rfl HX.out ?_) | (go_at_call 25; refine (words_any _ _).mono ?_; rintro e w1 ⟨rfl, rfl⟩))
  refine wp_of_wpIn HF n ?_
  have hA := HX.out.alloc (.cells (bN f) 22)
  have hA2 := R16.new (((w.alloc (Obj.cells (bN f) 22)).alloc (Obj.cells #[.int .u64 0, .int .u64 0] 38)).alloc (Obj.cells #[.int .u64 0, .int .u64 0] 38)) (bN f) (bA_size _) (bA_one _)
  simp only [World.size_alloc] at hA2
  have hst := words_stops F HF (n - 1) h39 hro (by omega) (w.heap.size + 1 + 1 + 1) f hf _ (by simp) (fun i hi => RB.cell hA2 i hi)
  refine wpIn_rangeFunc_ownG hro h1 (gf := 39) (lb := #[.pointer (some ⟨w.heap.size + 1 + 1 + 1, 0, none⟩)]) rfl h39 (enters_of Try.func39 (by kernel_rfl) rfl)
    hst kpR_t (kpR_b (by simp)) (Below.refl _ _) (fun _ => rfl)
    (fun pre W => ((∀ j, j < 2 → W.cell? ⟨w.heap.size + 1 + 1, j, none⟩ = some (.int .u64 (wr pre j : Nat)) ∧ W.frozen? ⟨w.heap.size + 1 + 1, j, none⟩ = false) ∧ (∀ j, j < 2 → W.cell? ⟨w.heap.size + 1, j, none⟩ = some (.int .u64 0) ∧ W.frozen? ⟨w.heap.size + 1, j, none⟩ = false)) ∧ Below w.heap.size w W)
    (fun _ _ _ => False)
    (OwnFrom.and (Own.from (fun s A B row hs hg hr => ⟨fun j hj => ⟨cell_kept (hs.1 j hj).1 hg hr, (frozen_kept (hs.1 j hj).1 hg hr).trans (hs.1 j hj).2⟩, fun j hj => ⟨cell_kept (hs.2 j hj).1 hg hr, (frozen_kept (hs.2 j hj).1 hg hr).trans (hs.2 j hj).2⟩⟩) _) (ownFrom_below (Nat.le_refl _) (by simp; omega)))
    (fun _ _ _ _ _ hs _ _ => hs)
    ?start
    (fun x => { tmps := #[Value.agg (bN f), Value.pointer (some { block := w.heap.size, off := 0 }),
        Value.pointer (some { block := w.heap.size + 1, off := 0 }),
        Value.pointer (some { block := w.heap.size + 1 + 1, off := 0 }), .int .i64 (x.1.1 : Int), .int .u64 ((x.1.2 : Nat) : Int), Value.agg (bN f),
        Value.func (Fn.func 39) #[] #[Value.pointer (some { block := w.heap.size + 1 + 1 + 1, off := 0 })], .int .i64 (x.1.1 : Int), .int .u64 ((x.1.2 : Nat) : Int), undef, undef, undef, undef], defers := [] }) ?assign ?body ?done ?stop
  case start =>
    refine ⟨⟨fun j hj => ?_, fun j hj => ?_⟩, hB0.alloc (by simp; omega) _⟩
    · obtain rfl | rfl : j = 0 ∨ j = 1 := by omega
      · simp [wr, go_sem]
      · simp [wr, go_sem]
    · obtain rfl | rfl : j = 0 ∨ j = 1 := by omega
      · simp [go_sem]
      · simp [go_sem]
  case assign =>
    intro l x W K hK
    gi_wp2
    exact hK
  case body =>
    rintro l pre x W ⟨⟨hc, hs⟩, hB⟩ _
    have hx := x.2
    obtain ⟨hc1, hf1⟩ := hc x.1.1 hx
    have hxI : (x.1.1 : Int) < 2 := by omega
    have HC := Lib.hid hc
    have HS := Lib.hid hs
    clear hc hs
    gi_wp2
    refine ⟨(KeepsOthers.setCell _ _ _).from _, fun i hi => far _ _ _ _ (by dsimp only; omega), ⟨fun j hj => ⟨?_, ?_⟩, fun j hj => ⟨?_, ?_⟩⟩, hB.setCell (p := ⟨w.heap.size + 1 + 1, x.1.1, none⟩) (by simp; omega) _⟩
    · rw [wr_snoc]
      by_cases he : x.1.1 = j
      · rw [if_pos he, ← he]; exact World.cell?_setCell_same _ _ _ hc1
      · rw [if_neg he, farO _ _ _ _ _ he]; exact (HC.out j hj).1
    · rw [World.frozen?_setCell]; exact (HC.out j hj).2
    · rw [far _ _ _ _ (by dsimp only; omega)]; exact (HS.out j hj).1
    · rw [World.frozen?_setCell]; exact (HS.out j hj).2
  case done =>
    rintro D ys W hD rfl ⟨⟨hc, hs⟩, hB⟩ hK
    obtain ⟨a0, b0⟩ := hc 0 (by decide)
    obtain ⟨a1, b1⟩ := hc 1 (by decide)
    obtain ⟨c0, d0⟩ := hs 0 (by decide)
    obtain ⟨c1, d1⟩ := hs 1 (by decide)
    rw [wr_words f 0 (by decide), E0.out] at a0
    rw [wr_words f 1 (by decide), E1.out] at a1
    clear hc hs
    have HB := Lib.hid hB
    have HKK := Lib.hid hK
    clear hB
    go_wp2
    have hne : D ≠ w.heap.size + 1 := by simp at hD; omega
    have hne2 : w.heap.size + 1 ≠ D := fun e => hne e.symm
    have k1 : ((W.setCell ⟨w.heap.size + 1, 0, none⟩ (.int .u64 (y0 : Nat))).setCell ⟨w.heap.size + 1, 1, none⟩ (.int .u64 (y1 : Nat))).heap[D]? = some (.deferred (some [])) :=
      (Below.heap_setCell _ _ _ _ hne).trans ((Below.heap_setCell _ _ _ _ hne).trans HKK.out)
    have b5 := (HB.out.setCell (p := ⟨w.heap.size + 1, 0, none⟩) (by simp) (.int .u64 (y0 : Nat))).setCell (p := ⟨w.heap.size + 1, 1, none⟩) (by simp) (.int .u64 (y1 : Nat))
    have q0 := put2_0 W (w.heap.size + 1) (.int .u64 (y0 : Nat)) (.int .u64 (y1 : Nat)) _ c0
    have q1 := put2_1 W (w.heap.size + 1) (.int .u64 (y0 : Nat)) (.int .u64 (y1 : Nat)) _ c1
    generalize World.setCell (World.setCell _ _ _) _ _ = W5 at k1 b5 q0 q1 ⊢
    refine ⟨by simp, .inl ⟨_, _, rfl, run_takeDeferred k1, ?_⟩⟩
    have r0 := cell_kept q0 (grownBy_putObj' W5 D (.deferred none)) (fun r e => by cases e; exact ⟨_, k1, rfl⟩)
    have r1 := cell_kept q1 (grownBy_putObj' W5 D (.deferred none)) (fun r e => by cases e; exact ⟨_, k1, rfl⟩)
    have b6 := b5.trans (belowK_b (w := w) (Nat.le_refl _) W5 D _ (.deferred none) (by simp at hD; omega) k1 rfl rfl)
    clear k1 b5 q0 q1 a0 a1 b0 b1 c0 c1 d0 d1
    generalize W5.putObj D (.deferred none) = W6 at r0 r1 b6 ⊢
    exact ⟨.agg #[.int .u64 (y0 : Nat), .int .u64 (y1 : Nat)], by simp [results, Try.results18, go_sem, *], rfl, b6⟩
  case stop =>
    rintro D c pre W _ _ h _
    exact h.elim
theorem split_any (f : Nat → Nat) (hf : ∀ j, f j < 256) (w : World) :
    Calls Try.prog 18 #[.agg (bN f)] w fun e W' => e = .returned (.agg #[.int .u64 (woN f 0 : Nat), .int .u64 (woN f 1 : Nat)]) ∧ Below w.heap.size w W' :=
  callsIn_wide.1 (split_in Fence.wide (Lib.hid rfl) 3 (Nat.le_refl _) f hf _ _ rfl rfl w)
set_option maxRecDepth 100000 in
set_option maxHeartbeats 1000000 in
theorem vwords_core (x : Array Value) (hx : x.size = 16) (hx1 : x.all (·.oneCell') = true) (y0 y1 : Nat) (hs : ∀ w, Calls Try.prog 18 #[.agg x] w fun e W' => e = .returned (.agg #[.int .u64 (y0 : Nat), .int .u64 (y1 : Nat)]) ∧ Below w.heap.size w W') (w : World) :
    Calls Try.prog 9 #[.agg x] w fun e W' => e = .returned (.tuple #[.int .u64 (y0 : Nat), .int .u64 (y1 : Nat)]) ∧ Below w.heap.size w W' := by
  have HX := Lib.hid (R16.new w x hx hx1)
  have hb0 : Below w.heap.size w (w.alloc (Obj.cells x 22)) := (Below.refl _ w).alloc (Nat.le_refl _) _
  have HS := Lib.hid hs
  clear hs
  go_enter Try.func9, Try.ntmps9
  go_upto_region 1 with fail
  generalize World.alloc _ _ = W0 at *
  go_wp2_with (first | (refine wpList_load22 rfl rfl rfl HX.out ?_) | (go_at_call 18; refine (HS.out _).mono ?_; rintro e w1 ⟨rfl, hb1⟩))
  have hb2 := hb0.trans (hb1.mono hb0.size)
  have hsz := hb2.size
  go_region
  all_goals
    go_wp2
    go_ret2
    exact ⟨rfl, (hb2.alloc hsz _).drew⟩
theorem vwords_any (f : Nat → Nat) (hf : ∀ j, f j < 256) (w : World) :
    Calls Try.prog 9 #[.agg (bN f)] w fun e W' => e = .returned (.tuple #[.int .u64 (woN f 0 : Nat), .int .u64 (woN f 1 : Nat)]) ∧ Below w.heap.size w W' :=
  vwords_core _ (bA_size _) (bA_one _) _ _ (fun w => split_any f hf w) w
end Go.Proofs.Ytldicconopcipaa
