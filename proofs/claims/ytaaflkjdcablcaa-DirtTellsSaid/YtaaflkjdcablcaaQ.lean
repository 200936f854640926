/- dirt.Sub. -/
import Derived.Test.YtaaflkjdcablcaaP
namespace Go.Proofs.Ytaaflkjdcablcaa
open Go.RowKit Go.Shelf
set_option linter.unusedVariables false
set_option linter.unusedSimpArgs false
attribute [local go_sem] Oper.semAt_some
def subR (lo hi : Nat) (x : Rg) : List Rg := if x.2 < lo ∨ hi < x.1 then [x] else (if x.1 < lo then [(x.1, lo - 1)] else []) ++ (if hi < x.2 then [((hi + 1) % 18446744073709551616, x.2)] else [])
def subL (lo hi : Nat) (zs : List Rg) : List Rg := zs.flatMap (subR lo hi)
theorem subL_snoc (lo hi : Nat) (pre : List Rg) (x : Rg) : subL lo hi (pre ++ [x]) = subL lo hi pre ++ subR lo hi x := by simp [subL]
theorem subR_len (lo hi : Nat) (x : Rg) : (subR lo hi x).length ≤ 2 := by
  unfold subR
  split
  · simp
  · rw [List.length_append]
    split <;> split <;> simp
theorem subL_len (lo hi : Nat) : ∀ zs : List Rg, (subL lo hi zs).length ≤ zs.length * 2
  | [] => by simp [subL]
  | x :: zs => by
    have h1 := subR_len lo hi x
    have h2 := subL_len lo hi zs
    unfold subL at h2 ⊢
    rw [List.flatMap_cons, List.length_append, List.length_cons]
    omega
theorem hi_wrap (hi : Nat) : IntKind.u64.wrap ((hi : Int) + 1) = (((hi + 1) % 18446744073709551616 : Nat) : Int) := by
  rw [IntKind.wrap_u64]
  omega
theorem kpG_b {g : Option Nat} {w : World} (hg : ∀ k, g = some k → k < w.heap.size) (W : World) (l : Nat) (o o' : Obj) (hl : w.heap.size ≤ l) (h : W.heap[l]? = some o) (h1 : o.isCells = false) (h2 : o.isWalk = false) : KpG g W (W.putObj l o') := by
  have hgr := grownBy_putObj' W l o'
  exact ⟨hgr.size, fun k e hk => hgr.block k hk (fun e2 => by cases e2; have := hg _ e; omega)⟩
theorem below_keeps {W W' : World} (h : Below W.heap.size W W') (B : Nat) : KeepsFrom B W W' := ⟨h.size, fun k o _ hk _ => (h.block k (Array.getElem?_eq_some_iff.1 hk).1).trans hk⟩
theorem ownFrom_block {β : Type} (B q : Nat) (c : β → Array Value) (t : TypeId) : OwnFrom B (fun (s : β) W => W.heap[q]? = some (.cells (c s) t (0, 0))) := fun s X Y row hs hg hr => by
  refine (hg.block q (Array.getElem?_eq_some_iff.1 hs).1 (fun e => ?_)).trans hs
  obtain ⟨_, o, ho, hc⟩ := hr q e.symm
  rw [hs] at ho; cases ho; cases hc
/-- What the loop keeps. -/
def SI (w W0 : World) (b0 b2 lo hi : Nat) (pre : List Rg) (W : World) : Prop := ((∃ v, Boxed W b2 22 v ∧ W.ownsRow W0.heap.size 25 2 v (subL lo hi pre).length (cellsR (subL lo hi pre)) ∧ True) ∧ RB W b0 lo hi) ∧ (Below w.heap.size w W ∧ W0.heap.size ≤ W.heap.size)
theorem SI.own (w W0 : World) (b0 b2 lo hi B : Nat) (hB : w.heap.size ≤ B) : OwnFrom B (SI w W0 b0 b2 lo hi) :=
  OwnFrom.and (OwnFrom.and (Own.from (holdsRow_own W0.heap.size b2 22 25 2 (fun (pre : List Rg) => (subL lo hi pre).length) (fun pre => cellsR (subL lo hi pre)) (fun _ _ => True)) _) (ownFrom_block B b0 (fun _ => #[.int .u64 (lo : Nat), .int .u64 (hi : Nat)]) 25)) (OwnFrom.and (ownFrom_below (Nat.le_refl _) hB) (fun s X Y row hs hg hr => Nat.le_trans hs hg.size))
theorem SI.keep {w W0 W W' : World} {b0 b2 lo hi : Nat} {pre : List Rg} (h : SI w W0 b0 b2 lo hi pre W) (hb : Below W.heap.size W W') : SI w W0 b0 b2 lo hi pre W' := SI.own w W0 b0 b2 lo hi (w.heap.size) (Nat.le_refl _) pre W W' none h (grown_below hb) (fun r e => by cases e)
theorem orow_mono {W : World} {base base' : Nat} {v : Value} {n : Nat} {xs : List Value} (h : W.ownsRow base 25 2 v n xs) (hb : base' ≤ base) : W.ownsRow base' 25 2 v n xs := by
  refine ⟨h.1, ?_⟩
  rcases h.2 with h | ⟨g, cap, cur, hv, hg, h2⟩
  · exact .inl h
  · exact .inr ⟨g, cap, cur, hv, Nat.le_trans hb hg, h2⟩
/-- One more range behind the ones so far. -/
theorem app_step {w W0 W w1 : World} {b0 b2 lo hi k m : Nat} {v v' : Value} {xs ys : List Value} {tmp : Obj} (hw0 : w.heap.size ≤ W0.heap.size) (hv : Boxed W b2 22 v) (hb2 : w.heap.size ≤ b2) (hrow : W.ownsRow W0.heap.size 25 2 v k xs) (hN : W0.heap.size ≤ W.heap.size)
    (hR : RB W b0 lo hi) (h02 : b0 ≠ b2) (h0N : b0 < W0.heap.size) (hown' : w1.ownsRow W0.heap.size 25 2 v' m ys) (hgrow : (W.alloc tmp).grownBy w1 v.ownBlock) :
    Boxed w1 b2 22 v ∧ Boxed (w1.setCell ⟨b2, 0, none⟩ v') b2 22 v' ∧ (w1.setCell ⟨b2, 0, none⟩ v').ownsRow W0.heap.size 25 2 v' m ys ∧ KeepsOthers W (w1.setCell ⟨b2, 0, none⟩ v') ∧ Below w.heap.size W (w1.setCell ⟨b2, 0, none⟩ v') ∧ RB (w1.setCell ⟨b2, 0, none⟩ v') b0 lo hi ∧ RB w1 b0 lo hi ∧ (∀ q, q < W0.heap.size → q ≠ b2 → (w1.setCell ⟨b2, 0, none⟩ v').heap[q]? = W.heap[q]?) ∧ W.heap.size ≤ (w1.setCell ⟨b2, 0, none⟩ v').heap.size := by
  obtain ⟨h1, h2, h3, h4, h5⟩ := hv.appended (t := 22) (e := 25) (by decide) (orow_mono hrow hw0) (Nat.le_trans hw0 hN) hb2 (orow_mono hown' hw0) hgrow
  have hk : ∀ q, q < W0.heap.size → w1.heap[q]? = W.heap[q]? := fun q hq => by
    refine (hgrow.block q (by simp; omega) (fun e => ?_)).trans (Below.heap_alloc W tmp q (by omega))
    rcases hrow.2 with ⟨rfl, _⟩ | ⟨g, cap, cur, rfl, hb, _, _⟩
    · simp [Value.ownBlock] at e
    · obtain rfl : q = g := by simpa [Value.ownBlock] using e
      omega
  have hk2 : ∀ q, q < W0.heap.size → q ≠ b2 → (w1.setCell ⟨b2, 0, none⟩ v').heap[q]? = W.heap[q]? := fun q hq hn => (Below.heap_setCell w1 ⟨b2, 0, none⟩ v' q hn).trans (hk q hq)
  exact ⟨h1, h2, hown'.kept (grownBy_setCell' w1 b2 v') (.inr (h1.not_row (by decide) hown').symm), h4, h5, (hk2 b0 h0N h02).trans hR, (hk b0 h0N).trans hR, hk2, h5.size⟩
def gOf (a : Option Addr) (ns : List Rg) : Option Nat := if ns.length = 0 then none else blk a
theorem gOf_lt {a : Option Addr} {ns : List Rg} {W : World} (h : RD W a ns) : ∀ k, gOf a ns = some k → k < W.heap.size := fun k e => by
  unfold gOf at e
  split at e
  · cases e
  · obtain ⟨b, off, ha, c0, _⟩ := h 0 (by omega)
    rw [ha] at e
    cases e
    exact cell_lt' c0
theorem gOf_box {a : Option Addr} {ns : List Rg} {W : World} {b2 : Nat} {v : Value} (h : RD W a ns) (hb : Boxed W b2 22 v) : ∀ k, gOf a ns = some k → k ≠ b2 := fun k e hk => by
  unfold gOf at e
  split at e
  · cases e
  · obtain ⟨b, off, ha, c0, c1⟩ := h 0 (by omega)
    rw [ha] at e
    cases e
    subst hk
    have hb' : W.heap[b]? = some (.cells #[v] 22 (0, 0)) := hb
    unfold World.cell? at c1
    rw [hb'] at c1
    simp at c1
theorem seq_vals (a : Option Addr) (cap B : Nat) (ns : List Rg) (hm : ns.length ≤ 1000000) (W0 : World) (hB : W0.cell? ⟨B, 0, none⟩ = some (.slice a ns.length cap)) (hr : RD W0 a ns) (n : Nat) (hn : 1 ≤ n) :
    SeqStopsK Fence.wide n Try.prog 60 #[.pointer (some ⟨B, 0, none⟩)] (fun x : Rg => #[.agg #[.int .u64 (x.1 : Nat), .int .u64 (x.2 : Nat)]]) (KpG (gOf a ns)) (fun ys => ys = ns) (fun pre => pre <+: ns) ns.length W0 := fun l J Jx W hW hJ _ hY h0 => by
  have hv := vals_in Fence.wide (Lib.hid rfl) n hn trivial rfl l J Jx (fun pre W1 W2 h hg => hJ pre W1 W2 none h hg (fun r e => by cases e)) a cap B ns hm (fun m pre x W1 hj hl => YieldAt.anyDepth rfl m (by have h := hY pre x W1 hj hl; rwa [show gOf a ns = blk a by unfold gOf; rw [if_neg (by omega)]] at h)) W (cell_keep hB hW) (hr.keep hW) h0
  refine hv.mono fun e W' h => ⟨h.1, ?_⟩
  rcases h.2 with h | ⟨q, hq, h⟩
  · exact .inl ⟨ns, rfl, h⟩
  · exact .inr ⟨q, hq, h⟩
theorem ne_block {w1 : World} {base b1 p q m : Nat} {v' : Value} {ys : List Value} (h : w1.ownsRow base 25 2 v' m ys) (hx : RB w1 b1 p q) (hm : 0 < m) (hy : ys ≠ [.int .u64 (p : Nat), .int .u64 (q : Nat)]) : v'.ownBlock ≠ some b1 := fun e => by
  rcases h.2 with ⟨rfl, _⟩ | ⟨g, cap, cur, rfl, _, hh, h1, _, h3, h4⟩
  · simp [Value.ownBlock] at e
  · obtain rfl : g = b1 := by simpa [Value.ownBlock] using e
    have hx' : w1.heap[g]? = some (.cells #[.int .u64 (p : Nat), .int .u64 (q : Nat)] 25 (0, 0)) := hx
    rw [hx'] at hh
    simp only [Option.some.injEq, Obj.cells.injEq, and_true] at hh
    have hc : cur = #[.int .u64 (p : Nat), .int .u64 (q : Nat)] := hh.symm
    subst hc
    have hcap : cap = 1 := by simp at h3; omega
    have hm1 : m = 1 := by omega
    subst hm1
    exact hy (by rw [← h4]; rfl)
theorem cells_new3 (X : World) (s : Nat) (hs : X.heap.size = s) (x : Rg) (j : Nat) (u : Value) (hu : x.cs[j]? = some u) : (X.alloc (.cells #[.int .u64 (x.1 : Nat), .int .u64 (x.2 : Nat)] 25)).cell? ((⟨s, 0, none⟩ : Addr).add j) = some u := by
  subst hs
  exact cells_new2 X x j u hu
theorem app_far {W w1 : World} {b1 p q : Nat} {v : Value} {tmp : Obj} (h : RB W b1 p q) (hv : v.ownBlock ≠ some b1) (hgrow : (W.alloc tmp).grownBy w1 v.ownBlock) : RB w1 b1 p q := by
  have hl := (Array.getElem?_eq_some_iff.1 h).1
  exact (hgrow.block b1 (by simp; omega) (fun e => hv e.symm)).trans ((Below.heap_alloc W tmp b1 hl).trans h)
theorem own_lt {W : World} {base n : Nat} {v : Value} {xs : List Value} (h : W.ownsRow base 25 2 v n xs) : ∀ g, v.ownBlock = some g → g < W.heap.size := fun g e => by
  rcases h.2 with ⟨rfl, _⟩ | ⟨g', cap, cur, rfl, _, hh, _⟩
  · simp [Value.ownBlock] at e
  · obtain rfl : g' = g := by simpa [Value.ownBlock] using e
    exact (Array.getElem?_eq_some_iff.1 hh).1
def ST (s0 f : Value) (lo hi b0 b2 b1 : Nat) (x : Rg) : Act := { tmps := #[s0, .agg #[.int .u64 (lo : Nat), .int .u64 (hi : Nat)], undef, .pointer (some ⟨b0, 0, none⟩), .slice none 0 0, .pointer (some ⟨b2, 0, none⟩), .pointer (some ⟨b1, 0, none⟩), .agg #[.int .u64 (lo : Nat), .int .u64 (hi : Nat)], .bool true, .bool false, undef, undef, s0, f, .agg #[.int .u64 (x.1 : Nat), .int .u64 (x.2 : Nat)], undef, undef, undef, undef, undef, undef, undef, undef, undef, undef, undef, undef, undef, undef, undef, undef, undef, undef, undef, undef, undef, undef, undef, undef, undef, undef, undef, undef, undef, undef, undef, undef, undef, undef, undef, undef, undef, undef, undef, undef, undef, undef, undef, undef, undef], defers := [] }
def Ax (W0 : World) (b2 : Nat) (s0 f : Value) (lo hi b0 : Nat) (x : Rg) (a' : Act) (W : World) : Prop := ∃ b1, W0.heap.size ≤ b1 ∧ RB W b1 x.1 x.2 ∧ (∃ v, Boxed W b2 22 v ∧ v.ownBlock ≠ some b1) ∧ a' = ST s0 f lo hi b0 b2 b1 x
theorem Ax.own (W0 : World) (b2 : Nat) (s0 f : Value) (lo hi b0 : Nat) (x : Rg) (a' : Act) (B : Nat) : OwnFrom B (fun (_ : Unit) W => Ax W0 b2 s0 f lo hi b0 x a' W) := fun _ X Y row hs hg hr => by
  obtain ⟨b1, h1, h2, ⟨v, h3, h4⟩, h5⟩ := hs
  exact ⟨b1, h1, ownFrom_block B b1 (fun (_ : Unit) => #[.int .u64 (x.1 : Nat), .int .u64 (x.2 : Nat)]) 25 () X Y row h2 hg hr, ⟨v, ownFrom_block B b2 (fun (_ : Unit) => #[v]) 22 () X Y row h3 hg hr, h4⟩, h5⟩
def SubOf (lo hi : Nat) (zs ns : List Rg) : Prop := ∃ ms, Same zs ms ∧ ns = subL lo hi ms
set_option maxRecDepth 1000000 in
set_option maxHeartbeats 8000000 in
theorem sub_range (a0 : Option Addr) (n0 cap0 lo hi : Nat) (zs : List Rg) (hzl : zs.length ≤ 100000) (hlu : U lo) (w : World) (he : Hid (∀ W, Below w.heap.size w W → Calls Try.prog 39 #[.slice a0 n0 cap0] W fun e w' => EachOf W zs e w')) (hle : decide (lo ≤ hi) = true) :
    Calls Try.prog 15 #[.slice a0 n0 cap0, .agg #[.int .u64 (lo : Nat), .int .u64 (hi : Nat)]] w fun e w' => ∃ v ns, e = .returned v ∧ SR w ns v w' ∧ SubOf lo hi zs ns := by
  obtain ⟨i0, hi0, hz0, hz1, hz2⟩ := info_parts infoE25
  have HI0 := Lib.hid (And.intro hi0 (And.intro hz0 (And.intro hz1 hz2)))
  clear hi0 hz0 hz1 hz2
  have HRT := Lib.hid (fun w => right_any lo hi w)
  have H1 := Lib.hid (RB.new w lo hi)
  have H2 := Lib.hid ((Below.refl w.heap.size w).alloc (Nat.le_refl _) (.cells #[.int .u64 (lo : Nat), .int .u64 (hi : Nat)] 25))
  have HLU := Lib.hid hlu
  clear hlu
  rw [hle] at HRT
  refine (callsIn_wide (n := 5)).1 (callsIn_of_wp_marks Try.func15 rfl trivial ?_ rfl)
  simp only [Try.ntmps15, List.size_toArray, List.length_cons, List.length_nil, Nat.reduceAdd, Nat.reduceSub, Array.replicate_succ, Array.replicate_zero, List.push_toArray, List.append_toArray, List.nil_append, List.cons_append]
  refine (wpIn_wide (n := 5)).2 ?_
  go_upto_region 1 with fail
  generalize World.alloc w _ = W1 at H1 H2 ⊢
  obtain ⟨d0, d1⟩ := H1.out.c
  go_wp2_with (first | (go_at_call 27; refine (HRT.out _).mono ?_) | fail)
  first | (rintro e W3 rfl hb) | (rintro e W3 ⟨rfl, hb⟩)
  have HB := Lib.hid (And.intro (H1.out.keep hb) (H2.out.trans (hb.mono H2.out.size)))
  clear hb d0 d1 H1 H2
  go_upto_region 4 with fail
  have HB2 : Hid (RB (W3.alloc (.cells #[.slice none 0 0] 22)) w.heap.size lo hi ∧ Below w.heap.size w (W3.alloc (.cells #[.slice none 0 0] 22)) ∧ Boxed (W3.alloc (.cells #[.slice none 0 0] 22)) W3.heap.size 22 (.slice none 0 0) ∧ w.heap.size < W3.heap.size) := Lib.hid ⟨HB.out.1.keep ((Below.refl _ _).alloc (Nat.le_refl _) _), HB.out.2.alloc HB.out.2.size _, Boxed.new _ _ _, (Array.getElem?_eq_some_iff.1 HB.out.1).1⟩
  generalize World.alloc W3 _ = W4 at HB2 ⊢
  go_wp2_with (first | (go_at_call 39; refine (he.out _ HB2.out.2.1).mono ?_) | fail)
  rintro e W5 ⟨B, a, cap, ns, rfl, hcell, hrd, hsame, hb⟩
  have hbx : Boxed W5 W3.heap.size 22 (.slice none 0 0) := (hb.block _ HB2.out.2.2.1.lt).trans HB2.out.2.2.1
  have HI : Hid (SI w W5 w.heap.size W3.heap.size lo hi [] W5) := Lib.hid ⟨⟨⟨_, hbx, World.ownsRow_nil _ _ _ _, trivial⟩, HB2.out.1.keep hb⟩, HB2.out.2.1.trans (hb.mono HB2.out.2.1.size), Nat.le_refl _⟩
  have HQ := Lib.hid (And.intro hcell (And.intro hrd (And.intro hsame hbx)))
  have hb02 : w.heap.size < W3.heap.size := HB2.out.2.2.2
  have hb2l : W3.heap.size < W5.heap.size := hbx.lt
  have hnl : ns.length ≤ 100000 := by have := hsame.len; omega
  generalize W3.heap.size = b2 at *
  clear hcell hrd hsame hb hbx HB HB2
  go_wp2_with fail
  refine (wpIn_wide (n := 5)).1 ?_
  refine wpIn_rangeFunc_ownH (F := Fence.wide) rfl (by decide) (gf := 60) (lb := #[.pointer (some ⟨B, 0, none⟩)]) rfl trivial (enters_of Try.func60 (by kernel_rfl) rfl)
    (seq_vals a cap B ns (by omega) W5 HQ.out.1 HQ.out.2.1 4 (by decide)) kpG_t (fun W l o o' h1 h2 h3 h4 => kpG_b (w := W5) (gOf_lt HQ.out.2.1) W l o o' h1 h2 h3 h4) (Below.refl _ _) (fun _ => rfl)
    (SI w W5 w.heap.size b2 lo hi) (fun _ _ _ => False) (SI.own w W5 _ b2 lo hi _ HI.out.2.1.size) (fun _ _ _ _ _ hs _ _ => hs) HI.out
    (fun x a' W => Ax W5 b2 (.slice a0 n0 cap0) (.func (.func 60) #[] #[.pointer (some ⟨B, 0, none⟩)]) lo hi w.heap.size x a' W) (fun x a' => Ax.own _ _ _ _ _ _ _ x a' _) ?assign ?body ?done ?stop
  case assign =>
    rintro l pre x W K hI hK
    have hsz : W5.heap.size ≤ W.heap.size := hI.2.2
    gi_wp2_with fail
    have hbl : Below W.heap.size W (W.alloc (.cells #[.int .u64 (x.1 : Nat), .int .u64 (x.2 : Nat)] 25)) := (Below.refl _ W).alloc (Nat.le_refl _) _
    have hI2 := hI.keep hbl
    obtain ⟨⟨⟨v, hv, hrow, -⟩, _⟩, _⟩ := hI
    exact hK _ _ (below_keeps hbl _) (kpG_below hbl) hI2 ⟨W.heap.size, hsz, RB.new _ _ _, ⟨v, hv.alloc _, fun e => by have := own_lt hrow _ e; omega⟩, rfl⟩
  case body =>
    rintro l pre x a' W hl ⟨r, hr⟩ ⟨⟨⟨v, hv, hrow, -⟩, hR0⟩, hB, hN⟩ ⟨b1, hb1, hRB, ⟨v2, hv2, hne⟩, rfl⟩ hlt
    obtain rfl : v2 = v := by
      have h9 : some (Obj.cells #[v2] 22 (0, 0)) = some (Obj.cells #[v] 22 (0, 0)) := (show W.heap[b2]? = _ from hv2).symm.trans hv
      simpa using h9
    clear hr hv2
    have h1' : 1 ≤ 5 - 1 - 1 := by omega
    have hll : pre.length < ns.length := hlt
    have hlen := subL_len lo hi pre
    have hb12 : b1 ≠ b2 := by omega
    have HS0 : Hid (Boxed W b2 22 v2 ∧ W.ownsRow W5.heap.size 25 2 v2 (subL lo hi pre).length (cellsR (subL lo hi pre)) ∧ RB W w.heap.size lo hi ∧ Below w.heap.size w W ∧ W5.heap.size ≤ W.heap.size ∧ RB W b1 x.1 x.2 ∧ v2.ownBlock ≠ some b1) := Lib.hid ⟨hv, hrow, hR0, hB, hN, hRB, hne⟩
    have HKG : Hid (∀ k, gOf a ns = some k → k < W5.heap.size ∧ k ≠ b2) := Lib.hid (fun k e => ⟨gOf_lt HQ.out.2.1 k e, gOf_box HQ.out.2.1 HQ.out.2.2.2 k e⟩)
    have HSN := Lib.hid (subL_snoc lo hi pre x)
    have hsub : subR lo hi x = if x.2 < lo ∨ hi < x.1 then [x] else (if x.1 < lo then [(x.1, lo - 1)] else []) ++ (if hi < x.2 then [((hi + 1) % 18446744073709551616, x.2)] else []) := rfl
    have HSB := Lib.hid hsub
    have c0 := hv.cell
    obtain ⟨d0, d1⟩ := hR0.c
    obtain ⟨e0, e1⟩ := hRB.c
    clear hsub hv hrow hR0 hB hRB hne
    generalize subL lo hi pre = L at *
    obtain ⟨p, q⟩ := x
    simp only at e0 e1 HSB HS0
    unfold ST
    have hwl : IntKind.u64.wrap ((lo : Int) - 1) = ((lo - 1 : Nat) : Int) ∨ lo = 0 := by
      by_cases h0 : lo = 0
      · exact .inr h0
      · left
        rw [IntWalk.u64_in _ (by have := HLU.out; unfold U at this; omega)]
        omega
    have hwh := hi_wrap hi
    obtain ⟨H, hH⟩ : ∃ H : Nat, (hi + 1) % 18446744073709551616 = H := ⟨_, rfl⟩
    rw [hH] at hwh HSB
    clear hH
    have HT0 : Hid (KeepsOthers W W ∧ KpG (gOf a ns) W W) := Lib.hid ⟨KeepsOthers.refl W, kpG_below (Below.refl _ _)⟩
    by_cases h1 : q < lo
    · gi_wp2_with (first | (gi_at_builtin; generalize hWL : wpListIn _ _ _ _ _ _ _ _ = G) | fail)
      subst hWL
      refine wpListIn_append_own _ rfl _ _ 22 rfl W5.heap.size 25 i0 (.agg #[.int .u64 0, .int .u64 0]) 2 16 Try.underlying22 HI0.out.1 HI0.out.2.1 HI0.out.2.2.1 HI0.out.2.2.2 rfl (by decide) _ (L).length (cellsR (L)) rfl (HS0.out.2.1.alloc _) ⟨_, 0, none⟩ 1 1 (Rg.cs (p, q)) rfl rfl (cells_new3 _ _ (by first | rfl | simp) (p, q)) (ones_x (p, q)) (by unfold maxLen; first | omega | (simp only [List.length_append, List.length_singleton]; omega)) (by first | omega | (simp only [List.length_append, List.length_singleton]; omega)) (by have := HS0.out.2.2.2.2.1; simp at this ⊢; omega) ?_
      intro v1 w1 hown' hgrow _
      obtain ⟨hA1, hA2, hA3, hA4, hA5, hA6, hA7, hA8, hA9⟩ := app_step HI.out.2.1.size HS0.out.1 (by omega) HS0.out.2.1 HS0.out.2.2.2.2.1 HS0.out.2.2.1 (by omega) (by omega) hown' hgrow
      have hxb := app_far HS0.out.2.2.2.2.2.1 HS0.out.2.2.2.2.2.2 hgrow
      have HNE := Lib.hid (fun hy => ne_block hown' hxb (by omega) hy)
      obtain ⟨g1, cap1, rfl⟩ := ownsRow_succ hown'
      have hc1 := hA1.cell
      have hf1 := hA1.frozen
      have HS1 := Lib.hid (And.intro hA2 (And.intro hA3 (And.intro hA6 (And.intro (HS0.out.2.2.2.1.trans hA5) (And.intro (Nat.le_trans HS0.out.2.2.2.2.1 hA9) (hxb.far hb12 0 (.slice (some ⟨g1, 0, none⟩) ((L).length + 1) cap1)))))))
      have HT1 := Lib.hid (And.intro (HT0.out.1.trans hA4) (kpG_t HT0.out.2 ⟨hA9, fun k e _ => hA8 k (HKG.out k e).1 (HKG.out k e).2⟩))
      obtain ⟨d0', d1'⟩ := HS1.out.2.2.1.c
      obtain ⟨e0', e1'⟩ := HS1.out.2.2.2.2.2.c
      have c0' := HS1.out.1.cell
      clear hA2 hA3 hA4 hA5 hA6 hA7 hA8 hA9 hxb hown' hgrow c0 d0 d1 e0 e1
      gi_wp2
      exact ⟨HT1.out.1.from _, HT1.out.2, ⟨⟨_, HS1.out.1, by rw [HSN.out, HSB.out, if_pos (Or.inl h1)]; simpa [cellsR, List.append_assoc] using HS1.out.2.1, trivial⟩, HS1.out.2.2.1⟩, HS1.out.2.2.2.1, HS1.out.2.2.2.2.1⟩
    by_cases h2 : hi < p
    · gi_wp2_with (first | (gi_at_builtin; generalize hWL : wpListIn _ _ _ _ _ _ _ _ = G) | fail)
      subst hWL
      refine wpListIn_append_own _ rfl _ _ 22 rfl W5.heap.size 25 i0 (.agg #[.int .u64 0, .int .u64 0]) 2 16 Try.underlying22 HI0.out.1 HI0.out.2.1 HI0.out.2.2.1 HI0.out.2.2.2 rfl (by decide) _ (L).length (cellsR (L)) rfl (HS0.out.2.1.alloc _) ⟨_, 0, none⟩ 1 1 (Rg.cs (p, q)) rfl rfl (cells_new3 _ _ (by first | rfl | simp) (p, q)) (ones_x (p, q)) (by unfold maxLen; first | omega | (simp only [List.length_append, List.length_singleton]; omega)) (by first | omega | (simp only [List.length_append, List.length_singleton]; omega)) (by have := HS0.out.2.2.2.2.1; simp at this ⊢; omega) ?_
      intro v1 w1 hown' hgrow _
      obtain ⟨hA1, hA2, hA3, hA4, hA5, hA6, hA7, hA8, hA9⟩ := app_step HI.out.2.1.size HS0.out.1 (by omega) HS0.out.2.1 HS0.out.2.2.2.2.1 HS0.out.2.2.1 (by omega) (by omega) hown' hgrow
      have hxb := app_far HS0.out.2.2.2.2.2.1 HS0.out.2.2.2.2.2.2 hgrow
      have HNE := Lib.hid (fun hy => ne_block hown' hxb (by omega) hy)
      obtain ⟨g1, cap1, rfl⟩ := ownsRow_succ hown'
      have hc1 := hA1.cell
      have hf1 := hA1.frozen
      have HS1 := Lib.hid (And.intro hA2 (And.intro hA3 (And.intro hA6 (And.intro (HS0.out.2.2.2.1.trans hA5) (And.intro (Nat.le_trans HS0.out.2.2.2.2.1 hA9) (hxb.far hb12 0 (.slice (some ⟨g1, 0, none⟩) ((L).length + 1) cap1)))))))
      have HT1 := Lib.hid (And.intro (HT0.out.1.trans hA4) (kpG_t HT0.out.2 ⟨hA9, fun k e _ => hA8 k (HKG.out k e).1 (HKG.out k e).2⟩))
      obtain ⟨d0', d1'⟩ := HS1.out.2.2.1.c
      obtain ⟨e0', e1'⟩ := HS1.out.2.2.2.2.2.c
      have c0' := HS1.out.1.cell
      clear hA2 hA3 hA4 hA5 hA6 hA7 hA8 hA9 hxb hown' hgrow c0 d0 d1 e0 e1
      gi_wp2
      exact ⟨HT1.out.1.from _, HT1.out.2, ⟨⟨_, HS1.out.1, by rw [HSN.out, HSB.out, if_pos (Or.inr h2)]; simpa [cellsR, List.append_assoc] using HS1.out.2.1, trivial⟩, HS1.out.2.2.1⟩, HS1.out.2.2.2.1, HS1.out.2.2.2.2.1⟩
    have h12 : ¬ (q < lo ∨ hi < p) := by omega
    by_cases h3 : p < lo
    · replace hwl : IntKind.u64.wrap ((lo : Int) - 1) = ((lo - 1 : Nat) : Int) := hwl.resolve_right (by omega)
      by_cases h4 : hi < q
      · gi_wp2_with (first | (gi_at_builtin; generalize hWL : wpListIn _ _ _ _ _ _ _ _ = G) | fail)
        subst hWL
        refine wpListIn_append_own _ rfl _ _ 22 rfl W5.heap.size 25 i0 (.agg #[.int .u64 0, .int .u64 0]) 2 16 Try.underlying22 HI0.out.1 HI0.out.2.1 HI0.out.2.2.1 HI0.out.2.2.2 rfl (by decide) _ (L).length (cellsR (L)) rfl (HS0.out.2.1.alloc _) ⟨_, 0, none⟩ 1 1 (Rg.cs (p, lo - 1)) rfl rfl (cells_new3 _ _ (by first | rfl | simp) (p, lo - 1)) (ones_x (p, lo - 1)) (by unfold maxLen; first | omega | (simp only [List.length_append, List.length_singleton]; omega)) (by first | omega | (simp only [List.length_append, List.length_singleton]; omega)) (by have := HS0.out.2.2.2.2.1; simp at this ⊢; omega) ?_
        intro v1 w1 hown' hgrow _
        obtain ⟨hA1, hA2, hA3, hA4, hA5, hA6, hA7, hA8, hA9⟩ := app_step HI.out.2.1.size HS0.out.1 (by omega) HS0.out.2.1 HS0.out.2.2.2.2.1 HS0.out.2.2.1 (by omega) (by omega) hown' hgrow
        have hxb := app_far HS0.out.2.2.2.2.2.1 HS0.out.2.2.2.2.2.2 hgrow
        have HNE := Lib.hid (fun hy => ne_block hown' hxb (by omega) hy)
        obtain ⟨g1, cap1, rfl⟩ := ownsRow_succ hown'
        have hc1 := hA1.cell
        have hf1 := hA1.frozen
        have HS1 := Lib.hid (And.intro hA2 (And.intro hA3 (And.intro hA6 (And.intro (HS0.out.2.2.2.1.trans hA5) (And.intro (Nat.le_trans HS0.out.2.2.2.2.1 hA9) (hxb.far hb12 0 (.slice (some ⟨g1, 0, none⟩) ((L).length + 1) cap1)))))))
        have HT1 := Lib.hid (And.intro (HT0.out.1.trans hA4) (kpG_t HT0.out.2 ⟨hA9, fun k e _ => hA8 k (HKG.out k e).1 (HKG.out k e).2⟩))
        obtain ⟨d0', d1'⟩ := HS1.out.2.2.1.c
        obtain ⟨e0', e1'⟩ := HS1.out.2.2.2.2.2.c
        have c0' := HS1.out.1.cell
        clear hA2 hA3 hA4 hA5 hA6 hA7 hA8 hA9 hxb hown' hgrow c0 d0 d1 e0 e1
        have hne2 : (Value.slice (some ⟨g1, 0, none⟩) (L.length + 1) cap1).ownBlock ≠ some b1 := HNE.out (by
          intro e
          have h := congrArg List.reverse e
          simp [Rg.cs] at h
          omega)
        have HS1' := HS1
        clear HS1
        have HS1 := Lib.hid (And.intro HS1'.out.1 (And.intro (show World.ownsRow _ W5.heap.size 25 2 _ (L ++ [(p, lo - 1)]).length (cellsR (L ++ [(p, lo - 1)])) from by rw [cellsR_snoc, List.length_append]; exact HS1'.out.2.1) (And.intro HS1'.out.2.2.1 (And.intro HS1'.out.2.2.2.1 (And.intro HS1'.out.2.2.2.2.1 (And.intro HS1'.out.2.2.2.2.2 hne2))))))
        clear HS1' hne2 HNE
        have c0 := c0'
        have d0 := d0'
        have d1 := d1'
        have e0 := e0'
        have e1 := e1'
        clear c0' d0' d1' e0' e1' hA1
        gi_wp2_with (first | (gi_at_builtin; generalize hWL : wpListIn _ _ _ _ _ _ _ _ = G) | fail)
        subst hWL
        refine wpListIn_append_own _ rfl _ _ 22 rfl W5.heap.size 25 i0 (.agg #[.int .u64 0, .int .u64 0]) 2 16 Try.underlying22 HI0.out.1 HI0.out.2.1 HI0.out.2.2.1 HI0.out.2.2.2 rfl (by decide) _ (L ++ [(p, lo - 1)]).length (cellsR (L ++ [(p, lo - 1)])) rfl (HS1.out.2.1.alloc _) ⟨_, 0, none⟩ 1 1 (Rg.cs (H, q)) rfl rfl (cells_new3 _ _ (by first | rfl | simp) (H, q)) (ones_x (H, q)) (by unfold maxLen; first | omega | (simp only [List.length_append, List.length_singleton]; omega)) (by first | omega | (simp only [List.length_append, List.length_singleton]; omega)) (by have := HS1.out.2.2.2.2.1; simp at this ⊢; omega) ?_
        intro v2 w2 hown' hgrow _
        obtain ⟨hA1, hA2, hA3, hA4, hA5, hA6, hA7, hA8, hA9⟩ := app_step HI.out.2.1.size HS1.out.1 (by omega) HS1.out.2.1 HS1.out.2.2.2.2.1 HS1.out.2.2.1 (by omega) (by omega) hown' hgrow
        have hxb := app_far HS1.out.2.2.2.2.2.1 HS1.out.2.2.2.2.2.2 hgrow
        have HNE := Lib.hid (fun hy => ne_block hown' hxb (by omega) hy)
        obtain ⟨g2, cap2, rfl⟩ := ownsRow_succ hown'
        have hc1 := hA1.cell
        have hf1 := hA1.frozen
        have HS2 := Lib.hid (And.intro hA2 (And.intro hA3 (And.intro hA6 (And.intro (HS1.out.2.2.2.1.trans hA5) (And.intro (Nat.le_trans HS1.out.2.2.2.2.1 hA9) (hxb.far hb12 0 (.slice (some ⟨g2, 0, none⟩) ((L ++ [(p, lo - 1)]).length + 1) cap2)))))))
        have HT2 := Lib.hid (And.intro (HT1.out.1.trans hA4) (kpG_t HT1.out.2 ⟨hA9, fun k e _ => hA8 k (HKG.out k e).1 (HKG.out k e).2⟩))
        obtain ⟨d0', d1'⟩ := HS2.out.2.2.1.c
        obtain ⟨e0', e1'⟩ := HS2.out.2.2.2.2.2.c
        have c0' := HS2.out.1.cell
        clear hA2 hA3 hA4 hA5 hA6 hA7 hA8 hA9 hxb hown' hgrow c0 d0 d1 e0 e1
        gi_wp2
        have hl2 : (L ++ [(p, lo - 1)]).length = L.length + 1 := by simp
        rw [hl2] at HS2 HT2
        exact ⟨HT2.out.1.from _, HT2.out.2, ⟨⟨_, HS2.out.1, by rw [HSN.out, HSB.out, if_neg h12, if_pos h3, if_pos h4]; simpa [cellsR, List.append_assoc] using HS2.out.2.1, trivial⟩, HS2.out.2.2.1⟩, HS2.out.2.2.2.1, HS2.out.2.2.2.2.1⟩
      · gi_wp2_with (first | (gi_at_builtin; generalize hWL : wpListIn _ _ _ _ _ _ _ _ = G) | fail)
        subst hWL
        refine wpListIn_append_own _ rfl _ _ 22 rfl W5.heap.size 25 i0 (.agg #[.int .u64 0, .int .u64 0]) 2 16 Try.underlying22 HI0.out.1 HI0.out.2.1 HI0.out.2.2.1 HI0.out.2.2.2 rfl (by decide) _ (L).length (cellsR (L)) rfl (HS0.out.2.1.alloc _) ⟨_, 0, none⟩ 1 1 (Rg.cs (p, lo - 1)) rfl rfl (cells_new3 _ _ (by first | rfl | simp) (p, lo - 1)) (ones_x (p, lo - 1)) (by unfold maxLen; first | omega | (simp only [List.length_append, List.length_singleton]; omega)) (by first | omega | (simp only [List.length_append, List.length_singleton]; omega)) (by have := HS0.out.2.2.2.2.1; simp at this ⊢; omega) ?_
        intro v1 w1 hown' hgrow _
        obtain ⟨hA1, hA2, hA3, hA4, hA5, hA6, hA7, hA8, hA9⟩ := app_step HI.out.2.1.size HS0.out.1 (by omega) HS0.out.2.1 HS0.out.2.2.2.2.1 HS0.out.2.2.1 (by omega) (by omega) hown' hgrow
        have hxb := app_far HS0.out.2.2.2.2.2.1 HS0.out.2.2.2.2.2.2 hgrow
        have HNE := Lib.hid (fun hy => ne_block hown' hxb (by omega) hy)
        obtain ⟨g1, cap1, rfl⟩ := ownsRow_succ hown'
        have hc1 := hA1.cell
        have hf1 := hA1.frozen
        have HS1 := Lib.hid (And.intro hA2 (And.intro hA3 (And.intro hA6 (And.intro (HS0.out.2.2.2.1.trans hA5) (And.intro (Nat.le_trans HS0.out.2.2.2.2.1 hA9) (hxb.far hb12 0 (.slice (some ⟨g1, 0, none⟩) ((L).length + 1) cap1)))))))
        have HT1 := Lib.hid (And.intro (HT0.out.1.trans hA4) (kpG_t HT0.out.2 ⟨hA9, fun k e _ => hA8 k (HKG.out k e).1 (HKG.out k e).2⟩))
        obtain ⟨d0', d1'⟩ := HS1.out.2.2.1.c
        obtain ⟨e0', e1'⟩ := HS1.out.2.2.2.2.2.c
        have c0' := HS1.out.1.cell
        clear hA2 hA3 hA4 hA5 hA6 hA7 hA8 hA9 hxb hown' hgrow c0 d0 d1 e0 e1
        gi_wp2
        exact ⟨HT1.out.1.from _, HT1.out.2, ⟨⟨_, HS1.out.1, by rw [HSN.out, HSB.out, if_neg h12, if_pos h3, if_neg h4]; simpa [cellsR, List.append_assoc] using HS1.out.2.1, trivial⟩, HS1.out.2.2.1⟩, HS1.out.2.2.2.1, HS1.out.2.2.2.2.1⟩
    · by_cases h4 : hi < q
      · gi_wp2_with (first | (gi_at_builtin; generalize hWL : wpListIn _ _ _ _ _ _ _ _ = G) | fail)
        subst hWL
        refine wpListIn_append_own _ rfl _ _ 22 rfl W5.heap.size 25 i0 (.agg #[.int .u64 0, .int .u64 0]) 2 16 Try.underlying22 HI0.out.1 HI0.out.2.1 HI0.out.2.2.1 HI0.out.2.2.2 rfl (by decide) _ (L).length (cellsR (L)) rfl (HS0.out.2.1.alloc _) ⟨_, 0, none⟩ 1 1 (Rg.cs (H, q)) rfl rfl (cells_new3 _ _ (by first | rfl | simp) (H, q)) (ones_x (H, q)) (by unfold maxLen; first | omega | (simp only [List.length_append, List.length_singleton]; omega)) (by first | omega | (simp only [List.length_append, List.length_singleton]; omega)) (by have := HS0.out.2.2.2.2.1; simp at this ⊢; omega) ?_
        intro v1 w1 hown' hgrow _
        obtain ⟨hA1, hA2, hA3, hA4, hA5, hA6, hA7, hA8, hA9⟩ := app_step HI.out.2.1.size HS0.out.1 (by omega) HS0.out.2.1 HS0.out.2.2.2.2.1 HS0.out.2.2.1 (by omega) (by omega) hown' hgrow
        have hxb := app_far HS0.out.2.2.2.2.2.1 HS0.out.2.2.2.2.2.2 hgrow
        have HNE := Lib.hid (fun hy => ne_block hown' hxb (by omega) hy)
        obtain ⟨g1, cap1, rfl⟩ := ownsRow_succ hown'
        have hc1 := hA1.cell
        have hf1 := hA1.frozen
        have HS1 := Lib.hid (And.intro hA2 (And.intro hA3 (And.intro hA6 (And.intro (HS0.out.2.2.2.1.trans hA5) (And.intro (Nat.le_trans HS0.out.2.2.2.2.1 hA9) (hxb.far hb12 0 (.slice (some ⟨g1, 0, none⟩) ((L).length + 1) cap1)))))))
        have HT1 := Lib.hid (And.intro (HT0.out.1.trans hA4) (kpG_t HT0.out.2 ⟨hA9, fun k e _ => hA8 k (HKG.out k e).1 (HKG.out k e).2⟩))
        obtain ⟨d0', d1'⟩ := HS1.out.2.2.1.c
        obtain ⟨e0', e1'⟩ := HS1.out.2.2.2.2.2.c
        have c0' := HS1.out.1.cell
        clear hA2 hA3 hA4 hA5 hA6 hA7 hA8 hA9 hxb hown' hgrow c0 d0 d1 e0 e1
        gi_wp2
        exact ⟨HT1.out.1.from _, HT1.out.2, ⟨⟨_, HS1.out.1, by rw [HSN.out, HSB.out, if_neg h12, if_neg h3, if_pos h4]; simpa [cellsR, List.append_assoc] using HS1.out.2.1, trivial⟩, HS1.out.2.2.1⟩, HS1.out.2.2.2.1, HS1.out.2.2.2.2.1⟩
      · gi_wp2
        exact ⟨HT0.out.1.from _, HT0.out.2, ⟨⟨_, HS0.out.1, by rw [HSN.out, HSB.out, if_neg h12, if_neg h3, if_neg h4]; simpa using HS0.out.2.1, trivial⟩, HS0.out.2.2.1⟩, HS0.out.2.2.2.1, HS0.out.2.2.2.2.1⟩
  case done =>
    rintro D ys W hD rfl hI hK
    obtain ⟨⟨⟨v, hv, hrow, -⟩, _⟩, hB, _⟩ := hI
    have c0 := hv.cell
    have HR := Lib.hid hrow
    have HB := Lib.hid hB
    have HK := Lib.hid hK
    clear hv hrow hB hK
    go_wp2_with fail
    show bodyPostM Fence.wide 5 Try.prog Try.f15 _ Exit.ret _ _
    refine ⟨by simp, .inl ⟨_, _, rfl, run_takeDeferred HK.out, ?_⟩⟩
    exact ⟨_, results_tmp rfl _ _ _, _, subL lo hi ys, rfl, ⟨ownsRow_putObj (orow_mono HR.out HI.out.2.1.size) _ HK.out rfl, HB.out.trans (belowK_b (w := w) (Nat.le_refl _) W D _ _ (Nat.le_trans HI.out.2.1.size hD) HK.out rfl rfl)⟩, ys, HQ.out.2.2.1, rfl⟩
  case stop =>
    rintro D c pre W _ _ h _
    exact h.elim
end Go.Proofs.Ytaaflkjdcablcaa
