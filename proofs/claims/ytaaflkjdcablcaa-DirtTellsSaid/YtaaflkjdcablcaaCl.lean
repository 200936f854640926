/- slices.AppendSeq and slices.Collect over ranges. -/
import Derived.Test.YtaaflkjdcablcaaSb
namespace Go.Proofs.Ytaaflkjdcablcaa
open Go.RowKit Go.Shelf
set_option linter.unusedVariables false
set_option linter.unusedSimpArgs false
attribute [local go_sem] Oper.semAt_some
/-- What the loop keeps. -/
def SC (w W0 : World) (pre : List Rg) (W : World) : Prop := (∃ v, Boxed W w.heap.size 22 v ∧ W.ownsRow W0.heap.size 25 2 v pre.length (cellsR pre) ∧ True) ∧ (Below w.heap.size w W ∧ W0.heap.size ≤ W.heap.size)
theorem SC.own (w W0 : World) (B : Nat) (hB : w.heap.size ≤ B) : OwnFrom B (SC w W0) :=
  OwnFrom.and (Own.from (holdsRow_own W0.heap.size w.heap.size 22 25 2 (fun (pre : List Rg) => pre.length) (fun pre => cellsR pre) (fun _ _ => True)) _) (OwnFrom.and (ownFrom_below (Nat.le_refl _) hB) (fun s X Y row hs hg hr => Nat.le_trans hs hg.size))
theorem SC.keep {w W0 W W' : World} {pre : List Rg} (h : SC w W0 pre W) (hb : Below W.heap.size W W') : SC w W0 pre W' := SC.own w W0 (w.heap.size) (Nat.le_refl _) pre W W' none h (grown_below hb) (fun r e => by cases e)
theorem app_stepC {w W0 W w1 : World} {b2 k m : Nat} {v v' : Value} {xs ys : List Value} {tmp : Obj} (hw0 : w.heap.size ≤ W0.heap.size) (hv : Boxed W b2 22 v) (hb2 : w.heap.size ≤ b2) (hrow : W.ownsRow W0.heap.size 25 2 v k xs) (hN : W0.heap.size ≤ W.heap.size)
    (hown' : w1.ownsRow W0.heap.size 25 2 v' m ys) (hgrow : (W.alloc tmp).grownBy w1 v.ownBlock) :
    Boxed w1 b2 22 v ∧ Boxed (w1.setCell ⟨b2, 0, none⟩ v') b2 22 v' ∧ (w1.setCell ⟨b2, 0, none⟩ v').ownsRow W0.heap.size 25 2 v' m ys ∧ KeepsOthers W (w1.setCell ⟨b2, 0, none⟩ v') ∧ Below w.heap.size W (w1.setCell ⟨b2, 0, none⟩ v') ∧ (∀ q, q < W0.heap.size → q ≠ b2 → (w1.setCell ⟨b2, 0, none⟩ v').heap[q]? = W.heap[q]?) ∧ W.heap.size ≤ (w1.setCell ⟨b2, 0, none⟩ v').heap.size := by
  obtain ⟨h1, h2, h3, h4, h5⟩ := hv.appended (t := 22) (e := 25) (by decide) (orow_mono hrow hw0) (Nat.le_trans hw0 hN) hb2 (orow_mono hown' hw0) hgrow
  have hk : ∀ q, q < W0.heap.size → w1.heap[q]? = W.heap[q]? := fun q hq => by
    refine (hgrow.block q (by simp; omega) (fun e => ?_)).trans (Below.heap_alloc W tmp q (by omega))
    rcases hrow.2 with ⟨rfl, _⟩ | ⟨g, cap, cur, rfl, hb, _, _⟩
    · simp [Value.ownBlock] at e
    · obtain rfl : q = g := by simpa [Value.ownBlock] using e
      omega
  have hk2 : ∀ q, q < W0.heap.size → q ≠ b2 → (w1.setCell ⟨b2, 0, none⟩ v').heap[q]? = W.heap[q]? := fun q hq hn => (Below.heap_setCell w1 ⟨b2, 0, none⟩ v' q hn).trans (hk q hq)
  exact ⟨h1, h2, hown'.kept (grownBy_setCell' w1 b2 v') (.inr (h1.not_row (by decide) hown').symm), h4, h5, hk2, h5.size⟩
def STc (f : Value) (b2 b1 : Nat) (x : Rg) : Act := { tmps := #[.slice none 0 0, f, .pointer (some ⟨b2, 0, none⟩), undef, .slice none 0 0, .pointer (some ⟨b1, 0, none⟩), f, .agg #[.int .u64 (x.1 : Nat), .int .u64 (x.2 : Nat)], undef, undef, undef, undef, undef], defers := [] }
def Axc (W0 : World) (f : Value) (b2 : Nat) (x : Rg) (a' : Act) (W : World) : Prop := ∃ b1, W0.heap.size ≤ b1 ∧ RB W b1 x.1 x.2 ∧ a' = STc f b2 b1 x
theorem Axc.own (W0 : World) (f : Value) (b2 : Nat) (x : Rg) (a' : Act) (B : Nat) : OwnFrom B (fun (_ : Unit) W => Axc W0 f b2 x a' W) := fun _ X Y row hs hg hr => by
  obtain ⟨b1, h1, h2, h5⟩ := hs
  exact ⟨b1, h1, ownFrom_block B b1 (fun (_ : Unit) => #[.int .u64 (x.1 : Nat), .int .u64 (x.2 : Nat)]) 25 () X Y row h2 hg hr, h5⟩
set_option maxRecDepth 1000000 in
set_option maxHeartbeats 8000000 in
theorem append_any (a : Option Addr) (cap B : Nat) (ns : List Rg) (hnl : ns.length ≤ 1000000) (w : World) (hcell : w.cell? ⟨B, 0, none⟩ = some (.slice a ns.length cap)) (hrd : RD w a ns) :
    Calls Try.prog 49 #[.slice none 0 0, .func (.func 60) #[] #[.pointer (some ⟨B, 0, none⟩)]] w fun e w' => ∃ v, e = .returned v ∧ SR w ns v w' := by
  obtain ⟨i0, hi0, hz0, hz1, hz2⟩ := info_parts infoE25
  have HI0 := Lib.hid (And.intro hi0 (And.intro hz0 (And.intro hz1 hz2)))
  clear hi0 hz0 hz1 hz2
  have hbl0 : Below w.heap.size w (w.alloc (.cells #[.slice none 0 0] 22)) := (Below.refl _ w).alloc (Nat.le_refl _) _
  have HB2 : Hid (Below w.heap.size w (w.alloc (.cells #[.slice none 0 0] 22)) ∧ Boxed (w.alloc (.cells #[.slice none 0 0] 22)) w.heap.size 22 (.slice none 0 0) ∧ (w.alloc (.cells #[.slice none 0 0] 22)).cell? ⟨B, 0, none⟩ = some (.slice a ns.length cap) ∧ RD (w.alloc (.cells #[.slice none 0 0] 22)) a ns ∧ (w.alloc (.cells #[.slice none 0 0] 22)).heap.size = w.heap.size + 1 ∧ (∀ k, gOf a ns = some k → k < w.heap.size)) := Lib.hid ⟨hbl0, Boxed.new _ _ _, cell_keep hcell hbl0, hrd.keep hbl0, by simp, gOf_lt hrd⟩
  clear hbl0 hcell hrd
  refine (callsIn_wide (n := 5)).1 (callsIn_of_wp_marks Try.func49 rfl trivial ?_ rfl)
  simp only [Try.ntmps49, List.size_toArray, List.length_cons, List.length_nil, Nat.reduceAdd, Nat.reduceSub, Array.replicate_succ, Array.replicate_zero, List.push_toArray, List.append_toArray, List.nil_append, List.cons_append]
  refine (wpIn_wide (n := 5)).2 ?_
  go_wp2_with fail
  generalize World.alloc w _ = W5 at HB2 ⊢
  have HI : Hid (SC w W5 [] W5) := Lib.hid ⟨⟨_, HB2.out.2.1, World.ownsRow_nil _ _ _ _, trivial⟩, HB2.out.1, Nat.le_refl _⟩
  refine (wpIn_wide (n := 5)).1 ?_
  refine wpIn_rangeFunc_ownH (F := Fence.wide) rfl (by decide) (gf := 60) (lb := #[.pointer (some ⟨B, 0, none⟩)]) rfl trivial (enters_of Try.func60 (by kernel_rfl) rfl)
    (seq_vals a cap B ns (by omega) W5 HB2.out.2.2.1 HB2.out.2.2.2.1 4 (by decide)) kpG_t (fun W l o o' h1 h2 h3 h4 => kpG_b (w := W5) (gOf_lt HB2.out.2.2.2.1) W l o o' h1 h2 h3 h4) (Below.refl _ _) (fun _ => rfl)
    (SC w W5) (fun _ _ _ => False) (SC.own w W5 _ HI.out.2.1.size) (fun _ _ _ _ _ hs _ _ => hs) HI.out
    (fun x a' W => Axc W5 (.func (.func 60) #[] #[.pointer (some ⟨B, 0, none⟩)]) w.heap.size x a' W) (fun x a' => Axc.own _ _ _ x a' _) ?assign ?body ?done ?stop
  case assign =>
    rintro l pre x W K hI hK
    have hsz : W5.heap.size ≤ W.heap.size := hI.2.2
    gi_wp2_with fail
    have hbl : Below W.heap.size W (W.alloc (.cells #[.int .u64 (x.1 : Nat), .int .u64 (x.2 : Nat)] 25)) := (Below.refl _ W).alloc (Nat.le_refl _) _
    exact hK _ _ (below_keeps hbl _) (kpG_below hbl) (hI.keep hbl) ⟨W.heap.size, hsz, RB.new _ _ _, rfl⟩
  case body =>
    rintro l pre x a' W hl ⟨r, hr⟩ ⟨⟨v, hv, hrow, -⟩, hB, hN⟩ ⟨b1, hb1, hRB, rfl⟩ hlt
    clear hr
    have h1' : 1 ≤ 5 - 1 - 1 := by omega
    have hll : pre.length < ns.length := hlt
    have hw5 : W5.heap.size = w.heap.size + 1 := HB2.out.2.2.2.2.1
    have HS0 : Hid (Boxed W w.heap.size 22 v ∧ W.ownsRow W5.heap.size 25 2 v pre.length (cellsR pre) ∧ Below w.heap.size w W ∧ W5.heap.size ≤ W.heap.size) := Lib.hid ⟨hv, hrow, hB, hN⟩
    have c0 := hv.cell
    obtain ⟨e0, e1⟩ := hRB.c
    clear hv hrow hB hRB
    unfold STc
    gi_wp2_with (first | (gi_at_builtin; generalize hWL : wpListIn _ _ _ _ _ _ _ _ = G) | fail)
    subst hWL
    refine wpListIn_append_own _ rfl _ _ 22 rfl W5.heap.size 25 i0 (.agg #[.int .u64 0, .int .u64 0]) 2 16 Try.underlying22 HI0.out.1 HI0.out.2.1 HI0.out.2.2.1 HI0.out.2.2.2 rfl (by decide) _ pre.length (cellsR pre) rfl (HS0.out.2.1.alloc _) ⟨_, 0, none⟩ 1 1 (Rg.cs x) rfl rfl (cells_new3 _ _ (by first | rfl | simp) x) (ones_x x) (by unfold maxLen; omega) (by omega) (by have := HS0.out.2.2.2; simp at this ⊢; omega) ?_
    intro v1 w1 hown' hgrow _
    obtain ⟨hA1, hA2, hA3, hA4, hA5, hA6, hA7⟩ := app_stepC HI.out.2.1.size HS0.out.1 (Nat.le_refl _) HS0.out.2.1 HS0.out.2.2.2 hown' hgrow
    obtain ⟨g1, cap1, rfl⟩ := ownsRow_succ hown'
    have hc1 := hA1.cell
    have hf1 := hA1.frozen
    have HS1 := Lib.hid (And.intro hA2 (And.intro hA3 (And.intro hA4 (And.intro hA5 (And.intro hA6 hA7)))))
    clear hA2 hA3 hA4 hA5 hA6 hA7 hown' hgrow c0 e0 e1
    gi_wp2
    exact ⟨HS1.out.2.2.1.from _, ⟨HS1.out.2.2.2.2.2, fun k e _ => HS1.out.2.2.2.2.1 k (by have := HB2.out.2.2.2.2.2 k e; omega) (by have := HB2.out.2.2.2.2.2 k e; omega)⟩, ⟨⟨_, HS1.out.1, by rw [cellsR_snoc, List.length_append]; exact HS1.out.2.1, trivial⟩, HS0.out.2.2.1.trans HS1.out.2.2.2.1, Nat.le_trans HS0.out.2.2.2 HS1.out.2.2.2.2.2⟩⟩
  case done =>
    rintro D ys W hD hys hI hK
    subst hys
    obtain ⟨⟨v, hv, hrow, -⟩, hB, _⟩ := hI
    have c0 := hv.cell
    have HR := Lib.hid hrow
    have HB := Lib.hid hB
    have HK := Lib.hid hK
    clear hv hrow hB hK
    go_wp2_with fail
    show bodyPostM Fence.wide 5 Try.prog Try.f49 _ Exit.ret _ _
    refine ⟨by simp, .inl ⟨_, _, rfl, run_takeDeferred HK.out, ?_⟩⟩
    exact ⟨_, results_tmp rfl _ _ _, _, rfl, ⟨ownsRow_putObj (orow_mono HR.out HI.out.2.1.size) _ HK.out rfl, HB.out.trans (belowK_b (w := w) (Nat.le_refl _) W D _ _ (Nat.le_trans HI.out.2.1.size hD) HK.out rfl rfl)⟩⟩
  case stop =>
    rintro D c pre W _ _ h _
    exact h.elim
theorem collect_any (a : Option Addr) (cap B : Nat) (ns : List Rg) (hnl : ns.length ≤ 1000000) (w : World) (hcell : w.cell? ⟨B, 0, none⟩ = some (.slice a ns.length cap)) (hrd : RD w a ns) :
    Calls Try.prog 42 #[.func (.func 60) #[] #[.pointer (some ⟨B, 0, none⟩)]] w fun e w' => ∃ v, e = .returned v ∧ SR w ns v w' := by
  have HA := Lib.hid (append_any a cap B ns hnl w hcell hrd)
  clear hnl hcell hrd
  go_enter Try.func42, Try.ntmps42
  go_wp2_with fail
  go_at_call 49
  (with_reducible refine HA.out.mono ?_)
  rintro e w2 ⟨v, rfl, hv⟩
  have HV := Lib.hid hv
  clear hv HA
  go_wp2_with fail
  go_ret
  exact ⟨_, rfl, HV.out⟩
end Go.Proofs.Ytaaflkjdcablcaa
