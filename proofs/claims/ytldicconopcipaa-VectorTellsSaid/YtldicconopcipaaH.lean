/- field.Clmul: products without carries. -/
import Derived.Test.YtldicconopcipaaG
namespace Go.Proofs.Ytldicconopcipaa
open Go.RowKit Go.Shelf
set_option linter.unusedVariables false
set_option linter.unusedSimpArgs false
attribute [local go_sem] Oper.semAt_some
def clL (a : Nat) (pre : List P64) : Int := pre.foldl (fun acc x => bits .xor .u64 acc (IntKind.u64.wrap ((a : Int) * 2 ^ x.1))) 0
def clH (a : Nat) (pre : List P64) : Int := pre.foldl (fun acc x => bits .xor .u64 acc ((a : Int) / 2 ^ (64 - x.1))) 0
theorem clL_snoc (a : Nat) (pre : List P64) (x : P64) : clL a (pre ++ [x]) = bits .xor .u64 (clL a pre) (IntKind.u64.wrap ((a : Int) * 2 ^ x.1)) := by simp [clL]
theorem clH_snoc (a : Nat) (pre : List P64) (x : P64) : clH a (pre ++ [x]) = bits .xor .u64 (clH a pre) ((a : Int) / 2 ^ (64 - x.1)) := by simp [clH]
def CS (w : World) (a : Nat) (pre : List P64) (W : World) : Prop :=
  (W.cell? ⟨w.heap.size, 0, none⟩ = some (.int .u64 (a : Int)) ∧ W.cell? ⟨w.heap.size + 1, 0, none⟩ = some (.int .u64 (clL a pre)) ∧ W.cell? ⟨w.heap.size + 1 + 1, 0, none⟩ = some (.int .u64 (clH a pre)) ∧
   W.frozen? ⟨w.heap.size + 1, 0, none⟩ = false ∧ W.frozen? ⟨w.heap.size + 1 + 1, 0, none⟩ = false)
/-- The world behind one bit. -/
def clW (w W : World) (a : Nat) (pre : List P64) (x : P64) (m : Nat) : World :=
  ((W.setCell ⟨w.heap.size + 1, 0, none⟩ (.int .u64 (bits .xor .u64 (clL a pre) (IntKind.u64.wrap ((a : Int) * 2 ^ x.1))))).setCell ⟨w.heap.size + 1 + 1, 0, none⟩ (.int .u64 (bits .xor .u64 (clH a pre) ((a : Int) / 2 ^ m)))).drew.drew
theorem cl_fin (w W : World) (a : Nat) (pre : List P64) (x : P64) (m : Nat) (hm : m = 64 - x.1) (h : CS w a pre W) (hB : Below w.heap.size w W) :
    KpC (w.heap.size + 1 + 1 + 1) W (clW w W a pre x m) ∧ CS w a (pre ++ [x]) (clW w W a pre x m) ∧ Below w.heap.size w (clW w W a pre x m) := by
  obtain ⟨c0, c1, c2, f1, f2⟩ := h
  subst hm
  unfold clW
  generalize hu : Value.int .u64 (bits .xor .u64 (clL a pre) (IntKind.u64.wrap ((a : Int) * 2 ^ x.1))) = u
  generalize hv : Value.int .u64 (bits .xor .u64 (clH a pre) ((a : Int) / 2 ^ (64 - x.1))) = v
  have far2 : ∀ (b : Nat), b ≠ w.heap.size + 1 → b ≠ w.heap.size + 1 + 1 → ((W.setCell ⟨w.heap.size + 1, 0, none⟩ u).setCell ⟨w.heap.size + 1 + 1, 0, none⟩ v).cell? ⟨b, 0, none⟩ = W.cell? ⟨b, 0, none⟩ := fun b h1 h2 =>
    (far _ ⟨w.heap.size + 1 + 1, 0, none⟩ ⟨b, 0, none⟩ _ (fun e => h2 e.symm)).trans (far _ ⟨w.heap.size + 1, 0, none⟩ ⟨b, 0, none⟩ _ (fun e => h1 e.symm))
  have d1 : ((W.setCell ⟨w.heap.size + 1, 0, none⟩ u).setCell ⟨w.heap.size + 1 + 1, 0, none⟩ v).cell? ⟨w.heap.size + 1, 0, none⟩ = some u :=
    (far _ ⟨w.heap.size + 1 + 1, 0, none⟩ ⟨w.heap.size + 1, 0, none⟩ _ (by dsimp only; omega)).trans (World.cell?_setCell_same _ _ _ c1)
  have d2 : ((W.setCell ⟨w.heap.size + 1, 0, none⟩ u).setCell ⟨w.heap.size + 1 + 1, 0, none⟩ v).cell? ⟨w.heap.size + 1 + 1, 0, none⟩ = some v :=
    World.cell?_setCell_same _ _ _ ((far _ ⟨w.heap.size + 1, 0, none⟩ ⟨w.heap.size + 1 + 1, 0, none⟩ _ (by dsimp only; omega)).trans c2)
  have g1 : ∀ p, ((W.setCell ⟨w.heap.size + 1, 0, none⟩ u).setCell ⟨w.heap.size + 1 + 1, 0, none⟩ v).frozen? p = W.frozen? p := fun p => by rw [World.frozen?_setCell, World.frozen?_setCell]
  have bb := ((hB.setCell (p := ⟨w.heap.size + 1, 0, none⟩) (by simp) u).setCell (p := ⟨w.heap.size + 1 + 1, 0, none⟩) (by simp; omega) v).drew.drew
  refine ⟨far2 _ (by omega) (by omega), ⟨(far2 _ (by omega) (by omega)).trans c0, ?_, ?_, (g1 _).trans f1, (g1 _).trans f2⟩, bb⟩
  · rw [clL_snoc, hu]; exact d1
  · rw [clH_snoc, hv]; exact d2
set_option maxRecDepth 100000 in
set_option maxHeartbeats 4000000 in
theorem clmul_in (F : Fence) (HF : Hid (F = Fence.wide)) (n : Nat) (hn3 : 3 ≤ n) (a b : Nat) (ha : U a) (hb : U b) (lo hi : Int) (e0 : clL a (onesU b 64) = lo) (e1 : clH a (onesU b 64) = hi) (w : World) :
    CallsIn F n Try.prog 45 #[.int .u64 (a : Int), .int .u64 (b : Int)] w fun e W' => e = .returned (.tuple #[.int .u64 lo, .int .u64 hi]) ∧ Below w.heap.size w W' := by
  have E0 := Lib.hid e0
  have E1 := Lib.hid e1
  clear e0 e1
  have h1 : 1 ≤ n := by omega
  have hro : F.round = none := by rw [HF.out]; rfl
  have h45 : F.fn 45 := by rw [HF.out]; trivial
  have h56 : F.fn 56 := by rw [HF.out]; trivial
  refine callsIn_of_wp_marks Try.func45 rfl h45 ?_ hro
  simp only [Try.ntmps45, List.size_toArray, List.length_cons, List.length_nil, Nat.reduceAdd, Nat.reduceSub, Array.replicate_succ, Array.replicate_zero, List.push_toArray, List.append_toArray, List.nil_append, List.cons_append]
  refine wpIn_of_wp HF ?_
  go_wp2_with (go_at_call 51; refine (ones_any _ _).mono ?_; rintro e w1 ⟨rfl, rfl⟩)
  refine wp_of_wpIn HF n ?_
  have hbA := Boxed.new (((w.alloc (Obj.cells #[.int .u64 (a : Int)] 23)).alloc (Obj.cells #[.int .u64 0] 23)).alloc (Obj.cells #[.int .u64 0] 23)) 23 (.int .u64 (b : Int))
  have hB0 : Below w.heap.size w ((((w.alloc (Obj.cells #[.int .u64 (a : Int)] 23)).alloc (Obj.cells #[.int .u64 0] 23)).alloc (Obj.cells #[.int .u64 0] 23)).alloc (Obj.cells #[.int .u64 (b : Int)] 23)) :=
    ((((Below.refl _ w).alloc (Nat.le_refl _) _).alloc (by simp) _).alloc (by simp; omega) _).alloc (by simp; omega) _
  simp only [World.size_alloc] at hbA
  have hst := ones_stops F (n - 1) h56 hro (by omega) (w.heap.size + 1 + 1 + 1) b hb _ (by simp) hbA.cell
  refine wpIn_rangeFunc_ownG hro h1 (gf := 56) (lb := #[.pointer (some ⟨w.heap.size + 1 + 1 + 1, 0, none⟩)]) rfl h56 (enters_of Try.func56 (by kernel_rfl) rfl)
    hst kpC_t (kpC_b (by simp)) (Below.refl _ _) (fun _ => rfl)
    (fun pre W => CS w a pre W ∧ Below w.heap.size w W)
    (fun _ _ _ => False)
    (OwnFrom.and (Own.from (fun s A B row hs hg hr => ⟨cell_kept hs.1 hg hr, cell_kept hs.2.1 hg hr, cell_kept hs.2.2.1 hg hr, (frozen_kept hs.2.1 hg hr).trans hs.2.2.2.1, (frozen_kept hs.2.2.1 hg hr).trans hs.2.2.2.2⟩) _) (ownFrom_below (Nat.le_refl _) (by simp; omega)))
    (fun _ _ _ _ _ hs _ _ => hs)
    ?start
    (fun x => { tmps := #[.int .u64 (a : Int), .int .u64 (b : Int), Value.pointer (some { block := w.heap.size, off := 0 }), undef,
        Value.pointer (some { block := w.heap.size + 1, off := 0 }),
        Value.pointer (some { block := w.heap.size + 1 + 1, off := 0 }), .int .i64 (x.1 : Int), .int .u64 (b : Int),
        Value.func (Fn.func 56) #[] #[Value.pointer (some { block := w.heap.size + 1 + 1 + 1, off := 0 })], .int .i64 (x.1 : Int), undef, undef, undef, undef, undef, undef, undef, undef, undef, undef, undef, undef, undef], defers := [] }) ?assign ?body ?done ?stop
  case start =>
    refine ⟨⟨by simp [go_sem], by simp [clL, go_sem], by simp [clH, go_sem], by simp [go_sem], by simp [go_sem]⟩, hB0⟩
  case assign =>
    intro l x W K hK
    gi_wp2
    exact hK
  case body =>
    rintro l pre x W ⟨⟨c0, c1, c2, f1, f2⟩, hB⟩ _
    have hx := x.2
    have hx0 : (x.1 : Int) < 64 := by omega
    have hx2 : IntKind.i64.wrap (64 - (x.1 : Int)) = ((64 - x.1 : Nat) : Int) := by simp [IntKind.wrap, IntKind.bits, IntKind.signed]; omega
    have hx3 : 64 - x.1 ≤ 64 := by omega
    obtain ⟨m, hm⟩ : ∃ m, m = 64 - x.1 := ⟨_, rfl⟩
    rw [← hm] at hx2 hx3
    have HMM := Lib.hid hm
    clear hm
    have hmx : Try.prog.follows .mixedOrders = true := by kernel_rfl
    have hfin := Lib.hid (cl_fin w W a pre x m HMM.out ⟨c0, c1, c2, f1, f2⟩ hB)
    gi_wp2
    gi_region_o
    all_goals gi_wp2
    all_goals gi_region_o
    all_goals gi_wp2
    all_goals exact ⟨((((KeepsOthers.setCell _ _ _).trans (KeepsOthers.setCell _ _ _)).trans (KeepsOthers.drew _)).trans (KeepsOthers.drew _)).from _, hfin.out.1, hfin.out.2⟩
  case done =>
    rintro D ys W hD rfl ⟨⟨c0, c1, c2, f1, f2⟩, hB⟩ hK
    rw [E0.out] at c1
    rw [E1.out] at c2
    have HB := Lib.hid hB
    have HKK := Lib.hid hK
    clear hB
    go_wp2_with fail
    go_region
    have k1 : ((W.setCell ⟨w.heap.size + 1, 0, none⟩ (.int .u64 lo)).setCell ⟨w.heap.size + 1 + 1, 0, none⟩ (.int .u64 hi)).drew.heap[D]? = some (.deferred (some [])) :=
      (Below.heap_setCell _ _ _ _ (show D ≠ w.heap.size + 1 + 1 by simp at hD; omega)).trans ((Below.heap_setCell _ _ _ _ (show D ≠ w.heap.size + 1 by simp at hD; omega)).trans HKK.out)
    have b5 := ((HB.out.setCell (p := ⟨w.heap.size + 1, 0, none⟩) (by simp) (.int .u64 lo)).setCell (p := ⟨w.heap.size + 1 + 1, 0, none⟩) (by simp; omega) (.int .u64 hi)).drew
    have q1 : ((W.setCell ⟨w.heap.size + 1, 0, none⟩ (.int .u64 lo)).setCell ⟨w.heap.size + 1 + 1, 0, none⟩ (.int .u64 hi)).drew.cell? ⟨w.heap.size + 1, 0, none⟩ = some (.int .u64 lo) :=
      (far _ ⟨w.heap.size + 1 + 1, 0, none⟩ ⟨w.heap.size + 1, 0, none⟩ _ (by dsimp only; omega)).trans (World.cell?_setCell_same _ _ _ c1)
    have q2 : ((W.setCell ⟨w.heap.size + 1, 0, none⟩ (.int .u64 lo)).setCell ⟨w.heap.size + 1 + 1, 0, none⟩ (.int .u64 hi)).drew.cell? ⟨w.heap.size + 1 + 1, 0, none⟩ = some (.int .u64 hi) :=
      World.cell?_setCell_same _ _ _ ((far _ ⟨w.heap.size + 1, 0, none⟩ ⟨w.heap.size + 1 + 1, 0, none⟩ _ (by dsimp only; omega)).trans c2)
    have HQ := Lib.hid (And.intro k1 (And.intro b5 (And.intro q1 q2)))
    clear k1 b5 q1 q2
    all_goals
      go_wp2
      obtain ⟨k1, b5, q1, q2⟩ := HQ.out
      generalize World.drew _ = W5 at k1 b5 q1 q2 ⊢
      refine ⟨by simp, .inl ⟨_, _, rfl, run_takeDeferred k1, ?_⟩⟩
      have r1 := cell_kept q1 (grownBy_putObj' W5 D (.deferred none)) (fun r e => by cases e; exact ⟨_, k1, rfl⟩)
      have r2 := cell_kept q2 (grownBy_putObj' W5 D (.deferred none)) (fun r e => by cases e; exact ⟨_, k1, rfl⟩)
      have b6 := b5.trans (belowK_b (w := w) (Nat.le_refl _) W5 D _ (.deferred none) (by simp at hD; omega) k1 rfl rfl)
      clear HQ k1 b5 q1 q2 c0 c1 c2 f1 f2
      generalize W5.putObj D (.deferred none) = W6 at r1 r2 b6 ⊢
      exact ⟨.tuple #[.int .u64 lo, .int .u64 hi], by simp [results, Try.results45, go_sem, *], rfl, b6⟩
  case stop =>
    rintro D c pre W _ _ h _
    exact h.elim
theorem clmul_any (a b : Nat) (ha : U a) (hb : U b) (w : World) :
    Calls Try.prog 45 #[.int .u64 (a : Int), .int .u64 (b : Int)] w fun e W' => e = .returned (.tuple #[.int .u64 (clL a (onesU b 64)), .int .u64 (clH a (onesU b 64))]) ∧ Below w.heap.size w W' :=
  callsIn_wide.1 (clmul_in Fence.wide (Lib.hid rfl) 3 (Nat.le_refl _) a b ha hb _ _ rfl rfl w)
end Go.Proofs.Ytldicconopcipaa
