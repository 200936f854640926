/- dirt.In. -/
import Derived.Test.YtaaflkjdcablcaaCl
import Derived.Test.YtaaflkjdcablcaaIh
import Derived.Test.YtaaflkjdcablcaaIm
namespace Go.Proofs.Ytaaflkjdcablcaa
open Go.RowKit Go.Shelf
set_option linter.unusedVariables false
set_option linter.unusedSimpArgs false
attribute [local go_sem] Oper.semAt_some
theorem res21 {W : World} {b : Nat} {t : Bool} {tm : Array Value} (hp : tm.getD 4 undef = .pointer (some ⟨b, 0, none⟩)) (h : W.heap[b]? = some (.cells #[.bool t] 4 (0, 0))) : (results Try.f21 tm).run Try.prog W = .ok (.bool t) W := by
  have hc : W.cell? ⟨b, 0, none⟩ = some (.bool t) := by simp [World.cell?, h]
  have hr : Try.f21.results = #[.cell 4 4] := rfl
  unfold results
  rw [hr]
  have hp' : tm[4]?.getD undef = .pointer (some ⟨b, 0, none⟩) := by simpa using hp
  go_simp
def KX (W5 : World) (b6 : Nat) (W : World) : Prop := W5.heap.size ≤ W.heap.size ∧ ∀ k, k < W5.heap.size → k ≠ b6 → W.heap[k]? = W5.heap[k]?
def BI (b6 i : Nat) (W : World) : Prop := W.heap[b6]? = some (.cells #[.int .i64 (i : Nat)] 3 (0, 0))
def NI (w W5 : World) (b6 : Nat) (M pre : List Rg) (W : World) : Prop := (∃ i : Nat, InAt M pre i ∧ BI b6 i W) ∧ KX W5 b6 W ∧ Below w.heap.size w W
def NX (w : World) (R : Nat) (M : List Rg) (c : Code) (pre : List Rg) (W : World) : Prop := c = .ret ∧ InNo M pre ∧ W.heap[R]? = some (.cells #[.bool false] 4 (0, 0)) ∧ Below w.heap.size w W
theorem KX.own (W5 : World) (b6 : Nat) : OwnFrom W5.heap.size (fun (_ : List Rg) => KX W5 b6) := fun s X Y row hs hg hr =>
  ⟨Nat.le_trans hs.1 hg.size, fun k hk hne => (hg.block k (Nat.lt_of_lt_of_le hk hs.1) (fun e => by have := (hr k e.symm).1; omega)).trans (hs.2 k hk hne)⟩
theorem NI.own (w W5 : World) (b6 : Nat) (M : List Rg) (hw : w.heap.size ≤ W5.heap.size) : OwnFrom W5.heap.size (NI w W5 b6 M) := fun s X Y row hs hg hr => by
  obtain ⟨⟨i, h1, h2⟩, h3, h4⟩ := hs
  exact ⟨⟨i, h1, ownFrom_block W5.heap.size b6 (fun (_ : Unit) => #[.int .i64 (i : Nat)]) 3 () X Y row h2 hg hr⟩, KX.own W5 b6 s X Y row h3 hg hr, ownFrom_below (Nat.le_refl _) hw s X Y row h4 hg hr⟩
theorem NX.own (w W5 : World) (R : Nat) (M : List Rg) (hw : w.heap.size ≤ W5.heap.size) (c : Code) : OwnFrom W5.heap.size (NX w R M c) := fun s X Y row hs hg hr => by
  obtain ⟨h1, h2, h3, h4⟩ := hs
  exact ⟨h1, h2, ownFrom_block W5.heap.size R (fun (_ : Unit) => #[.bool false]) 4 () X Y row h3 hg hr, ownFrom_below (Nat.le_refl _) hw s X Y row h4 hg hr⟩
theorem NI.keep {w W5 W W' : World} {b6 : Nat} {M pre : List Rg} (hw : w.heap.size ≤ W5.heap.size) (h : NI w W5 b6 M pre W) (hb : Below W.heap.size W W') : NI w W5 b6 M pre W' := NI.own w W5 b6 M hw pre W W' none h (grown_below hb) (fun r e => by cases e)
/-- A row that stands clear of a block. -/
def RX (W5 : World) (b6 : Nat) (a : Option Addr) (M : List Rg) : Prop := ∀ k, k < M.length → ∃ b off, a = some ⟨b, off, none⟩ ∧ b ≠ b6 ∧ b < W5.heap.size ∧ W5.cell? ⟨b, off + k * 2, none⟩ = some (.int .u64 (zl M k : Nat)) ∧ W5.cell? ⟨b, off + k * 2 + 1, none⟩ = some (.int .u64 (zh M k : Nat))
theorem RX.of {W5 : World} {b6 i : Nat} {a : Option Addr} {M : List Rg} (h : RD W5 a M) (hb : BI b6 i W5) : RX W5 b6 a M := fun k hk => by
  obtain ⟨b, off, ha, c0, c1⟩ := h k hk
  refine ⟨b, off, ha, fun e => ?_, cell_lt' c0, c0, c1⟩
  subst e
  unfold World.cell? at c1
  rw [show W5.heap[b]? = _ from hb] at c1
  simp at c1
theorem RX.at {W5 W : World} {b6 : Nat} {a : Option Addr} {M : List Rg} (h : RX W5 b6 a M) (hk : KX W5 b6 W) {k : Nat} (hlt : k < M.length) : ∃ b off, a = some ⟨b, off, none⟩ ∧ W.cell? ⟨b, off + k * 2, none⟩ = some (.int .u64 (zl M k : Nat)) ∧ W.cell? ⟨b, off + k * 2 + 1, none⟩ = some (.int .u64 (zh M k : Nat)) := by
  obtain ⟨b, off, ha, hne, hl, c0, c1⟩ := h k hlt
  have e := hk.2 b hl hne
  refine ⟨b, off, ha, ?_, ?_⟩
  · rw [World.cell?_of_block e]; exact c0
  · rw [World.cell?_of_block e]; exact c1
theorem gOf_bi {a : Option Addr} {ns : List Rg} {W : World} {b6 i : Nat} (h : RD W a ns) (hb : BI b6 i W) : ∀ k, gOf a ns = some k → k < W.heap.size ∧ k ≠ b6 := fun k e => by
  refine ⟨gOf_lt h k e, ?_⟩
  unfold gOf at e
  split at e
  · cases e
  · obtain ⟨b, off, ha, hne, _⟩ := RX.of h hb 0 (by omega)
    rw [ha] at e
    cases e
    exact hne
/-- What the loop within a round keeps. -/
def LF (W5 : World) (b6 b1 : Nat) (x : Rg) (W : World) (k : Nat) (wr : World) : Prop := BI b6 k wr ∧ W.grownBy wr (some b6) ∧ KX W5 b6 wr ∧ RB wr b1 x.1 x.2
theorem LF.drew {W5 W wr : World} {b6 b1 k : Nat} {x : Rg} (h : LF W5 b6 b1 x W k wr) : LF W5 b6 b1 x W k wr.drew := ⟨h.1, h.2.1.trans ⟨rfl, rfl, rfl, Nat.le_refl _, fun _ _ _ => rfl⟩, h.2.2.1, h.2.2.2⟩
theorem LF.put {W5 W wr : World} {b6 b1 k : Nat} {x : Rg} (h : LF W5 b6 b1 x W k wr) (hne : b1 ≠ b6) (j : Nat) : LF W5 b6 b1 x W j (wr.setCell ⟨b6, 0, none⟩ (.int .i64 (j : Nat))) := by
  have hg := grownBy_setCell' wr b6 (.int .i64 (j : Nat))
  have hb : Boxed wr b6 3 (.int .i64 (k : Nat)) := h.1
  refine ⟨hb.set _, h.2.1.trans hg, ⟨Nat.le_trans h.2.2.1.1 hg.size, fun q hq hn => (Below.heap_setCell wr ⟨b6, 0, none⟩ _ q hn).trans (h.2.2.1.2 q hq hn)⟩, h.2.2.2.far hne 0 _⟩
theorem LF.c {W5 W wr : World} {b6 b1 k : Nat} {x : Rg} (h : LF W5 b6 b1 x W k wr) : wr.cell? ⟨b6, 0, none⟩ = some (.int .i64 (k : Nat)) ∧ wr.frozen? ⟨b6, 0, none⟩ = false := by
  have h1 : wr.heap[b6]? = _ := h.1
  exact ⟨by simp [World.cell?, h1], by simp [World.frozen?, h1]⟩
def iB (b6 : Nat) (W : World) : Nat := match W.heap[b6]? with
  | some (.cells cs _ _) => (intOf (cs.getD 0 undef)).toNat
  | _ => 0
theorem LF.i {W5 W wr : World} {b6 b1 k : Nat} {x : Rg} (h : LF W5 b6 b1 x W k wr) : iB b6 wr = k := by
  have h1 : wr.heap[b6]? = _ := h.1
  unfold iB
  rw [h1]
  simp [intOf]
/-- What a region within a round looks at. -/
def SR5 (b6 b5 b1 : Nat) (a3 : Option Addr) (m cap3 k : Nat) (x : Rg) (W : World) : Prop := W.cell? ⟨b6, 0, none⟩ = some (.int .i64 (k : Nat)) ∧ W.cell? ⟨b5, 0, none⟩ = some (.slice a3 m cap3) ∧ W.cell? ⟨b1, 0, none⟩ = some (.int .u64 (x.1 : Nat)) ∧ W.cell? ⟨b1, 1, none⟩ = some (.int .u64 (x.2 : Nat))
theorem LF.s {W5 W wr : World} {b6 b5 b1 k m cap3 : Nat} {a3 : Option Addr} {x : Rg} (h : LF W5 b6 b1 x W k wr) (h5 : Boxed W5 b5 22 (.slice a3 m cap3)) (hne : b5 ≠ b6) : SR5 b6 b5 b1 a3 m cap3 k x wr := by
  refine ⟨h.c.1, ?_, h.2.2.2.c.1, h.2.2.2.c.2⟩
  rw [World.cell?_of_block (h.2.2.1.2 b5 h5.lt hne)]
  exact h5.cell
def STi (s0 s1 f9 s10 f12 : Value) (R b5 b6 b1 : Nat) (x : Rg) : Act := { tmps := #[s0, s1, undef, undef, .pointer (some ⟨R, 0, none⟩), .pointer (some ⟨b5, 0, none⟩), .pointer (some ⟨b6, 0, none⟩), .pointer (some ⟨b1, 0, none⟩), s1, f9, s10, s0, f12, .agg #[.int .u64 (x.1 : Nat), .int .u64 (x.2 : Nat)], undef, undef, undef, undef, undef, undef, undef, undef, undef, undef, undef, undef, undef, undef, undef, undef, undef, undef, undef, undef, undef, undef, undef, undef, undef, undef, undef, undef, undef, undef, undef, undef, undef, undef, undef, undef, undef, undef, undef, undef], defers := [] }
def Axi (W5 : World) (s0 s1 f9 s10 f12 : Value) (R b5 b6 : Nat) (x : Rg) (a' : Act) (W : World) : Prop := ∃ b1, W5.heap.size ≤ b1 ∧ RB W b1 x.1 x.2 ∧ a' = STi s0 s1 f9 s10 f12 R b5 b6 b1 x
theorem Axi.own (W5 : World) (s0 s1 f9 s10 f12 : Value) (R b5 b6 : Nat) (x : Rg) (a' : Act) (B : Nat) : OwnFrom B (fun (_ : Unit) W => Axi W5 s0 s1 f9 s10 f12 R b5 b6 x a' W) := fun _ X Y row hs hg hr => by
  obtain ⟨b1, h1, h2, h5⟩ := hs
  exact ⟨b1, h1, ownFrom_block B b1 (fun (_ : Unit) => #[.int .u64 (x.1 : Nat), .int .u64 (x.2 : Nat)]) 25 () X Y row h2 hg hr, h5⟩
theorem below_grown {w W W' : World} {b : Nat} (h : Below w.heap.size w W) (hg : W.grownBy W' (some b)) (hb : w.heap.size ≤ b) : Below w.heap.size w W' := h.grown hg h.size (fun k e => by cases e; exact hb)
/-- What stands before the range. -/
def PI (w : World) (b5 b6 : Nat) (a3 : Option Addr) (cap3 : Nat) (M : List Rg) (W : World) : Prop := W.heap[w.heap.size]? = some (.cells #[.bool false] 4 (0, 0)) ∧ Boxed W b5 22 (.slice a3 M.length cap3) ∧ BI b6 0 W ∧ RD W a3 M ∧ Below w.heap.size w W ∧ w.heap.size < b5 ∧ b5 < b6
theorem PI.keep {w W W' : World} {b5 b6 cap3 : Nat} {a3 : Option Addr} {M : List Rg} (h : PI w b5 b6 a3 cap3 M W) (hb : Below W.heap.size W W') : PI w b5 b6 a3 cap3 M W' :=
  ⟨(hb.block _ (Array.getElem?_eq_some_iff.1 h.1).1).trans h.1, (hb.block _ h.2.1.lt).trans h.2.1, (hb.block _ (Array.getElem?_eq_some_iff.1 h.2.2.1).1).trans h.2.2.1, h.2.2.2.1.keep hb, h.2.2.2.2.1.trans (hb.mono h.2.2.2.2.1.size), h.2.2.2.2.2⟩
theorem PI.new {w W1 W3 : World} {a3 : Option Addr} {cap3 : Nat} {M : List Rg} (h1 : W1.heap[w.heap.size]? = some (.cells #[.bool false] 4 (0, 0))) (hB : Below w.heap.size w W1) (hb : Below W1.heap.size W1 W3) (hr : RD W3 a3 M) :
    PI w W3.heap.size (W3.heap.size + 1) a3 cap3 M ((W3.alloc (.cells #[.slice a3 M.length cap3] 22)).alloc (.cells #[.int .i64 0] 3)) := by
  have h0 := (Array.getElem?_eq_some_iff.1 h1).1
  have h3 : W3.heap[w.heap.size]? = some (.cells #[.bool false] 4 (0, 0)) := (hb.block _ h0).trans h1
  have k1 : Below W3.heap.size W3 (W3.alloc (.cells #[.slice a3 M.length cap3] 22)) := (Below.refl _ _).alloc (Nat.le_refl _) _
  have k2 : Below W3.heap.size W3 ((W3.alloc (.cells #[.slice a3 M.length cap3] 22)).alloc (.cells #[.int .i64 0] 3)) := k1.alloc (by simp) _
  have k3 : Below (W3.alloc (.cells #[.slice a3 M.length cap3] 22)).heap.size (W3.alloc (.cells #[.slice a3 M.length cap3] 22)) ((W3.alloc (.cells #[.slice a3 M.length cap3] 22)).alloc (.cells #[.int .i64 0] 3)) := (Below.refl _ _).alloc (Nat.le_refl _) _
  have hl := (Array.getElem?_eq_some_iff.1 h3).1
  have hb6 := heap_alloc_last (W3.alloc (.cells #[.slice a3 M.length cap3] 22)) (.cells #[.int .i64 0] 3)
  simp only [World.size_alloc] at hb6
  exact ⟨(k2.block _ hl).trans h3, (k3.block _ (by simp)).trans (Boxed.new _ _ _), hb6, hr.keep k2, (hB.trans (hb.mono hB.size)).trans (k2.mono (Nat.le_trans hB.size hb.size)), hl, by omega⟩
set_option maxRecDepth 1000000 in
set_option maxHeartbeats 8000000 in
theorem in_any (a : Option Addr) (cap : Nat) (zs : List Rg) (hz : OkL zs) (hn : zs.length ≤ 1000000) (a2 : Option Addr) (cap2 : Nat) (z2 : List Rg) (hz2 : OkL z2) (hn2 : z2.length ≤ 1000000) (w : World) (hR : RD w a zs) (hR2 : RD w a2 z2) :
    Calls Try.prog 21 #[.slice a zs.length cap, .slice a2 z2.length cap2] w fun e w' => ∃ t, e = .returned (.bool t) ∧ subB zs z2 t ∧ Below w.heap.size w w' := by
  have HE1 := Lib.hid (fun W (hb : Below w.heap.size w W) => each_any a cap zs hz hn W (hR.keep hb))
  have HE2 := Lib.hid (fun W (hb : Below w.heap.size w W) => each_any a2 cap2 z2 hz2 hn2 W (hR2.keep hb))
  have H1 : Hid ((w.alloc (.cells #[.bool false] 4)).heap[w.heap.size]? = some (.cells #[.bool false] 4 (0, 0)) ∧ Below w.heap.size w (w.alloc (.cells #[.bool false] 4))) := Lib.hid ⟨heap_alloc_last w _, (Below.refl _ w).alloc (Nat.le_refl _) _⟩
  have HN := Lib.hid (And.intro hn hn2)
  clear hz hz2 hR hR2 hn hn2
  generalize hl1 : zs.length = n1 at HE1 ⊢
  generalize hl2 : z2.length = n2 at HE2 ⊢
  have HLL := Lib.hid (And.intro hl1 hl2)
  clear hl1 hl2
  refine (callsIn_wide (n := 5)).1 (callsIn_of_wp_marks Try.func21 rfl trivial ?_ rfl)
  simp only [Try.ntmps21, List.size_toArray, List.length_cons, List.length_nil, Nat.reduceAdd, Nat.reduceSub, Array.replicate_succ, Array.replicate_zero, List.push_toArray, List.append_toArray, List.nil_append, List.cons_append]
  refine (wpIn_wide (n := 5)).2 ?_
  go_upto_region 1 with fail
  generalize World.alloc w _ = W1 at H1 ⊢
  go_wp2_with (first | (go_at_call 39; refine (HE2.out _ H1.out.2).mono ?_) | fail)
  rintro e W2 ⟨B2, am, capm, M, rfl, hcM, hrM, hsM, hbM⟩
  have HM : Hid (M.length ≤ 1000000 ∧ Same z2 M ∧ Below W1.heap.size W1 W2) := Lib.hid ⟨by have := hsM.len; have := HN.out.2; have := HLL.out.2; omega, hsM, hbM⟩
  have HC := Lib.hid (collect_any am capm B2 M HM.out.1 W2 hcM hrM)
  clear hcM hrM hsM hbM
  go_wp2_with (first | (go_at_call 42; refine HC.out.mono ?_) | fail)
  rintro e W3 ⟨v, rfl, hS⟩
  obtain ⟨a3, cap3, rfl, hrd3⟩ := hS.rd
  have HP := Lib.hid (PI.new (cap3 := cap3) H1.out.1 H1.out.2 (HM.out.2.2.trans (hS.2.mono HM.out.2.2.size)) hrd3)
  clear hS hrd3 HC
  go_upto_region 3 with fail
  generalize World.alloc (World.alloc W3 _) _ = W4 at HP ⊢
  generalize hb5 : W3.heap.size = b5 at HP ⊢
  clear hb5
  generalize hb6 : b5 + 1 = b6 at HP ⊢
  clear hb6
  go_wp2_with (first | (go_at_call 39; refine (HE1.out _ HP.out.2.2.2.2.1).mono ?_) | fail)
  rintro e W5 ⟨B, a', cap', ns, rfl, hcell, hrd, hsame, hb⟩
  have HPP := Lib.hid (HP.out.keep hb)
  have hw5 : w.heap.size ≤ W5.heap.size := HPP.out.2.2.2.2.1.size
  have h56 : b5 ≠ b6 := by have := HP.out.2.2.2.2.2.2; omega
  have hR6 : w.heap.size ≠ b6 := by have := HP.out.2.2.2.2.2; omega
  have hwb6 : w.heap.size ≤ b6 := by have := HP.out.2.2.2.2.2; omega
  have hb6l : b6 < W5.heap.size := (Array.getElem?_eq_some_iff.1 HPP.out.2.2.1).1
  have HQ := Lib.hid (And.intro hcell (And.intro hrd (And.intro hsame (And.intro (RX.of HPP.out.2.2.2.1 HPP.out.2.2.1) (gOf_bi hrd HPP.out.2.2.1)))))
  have HI : Hid (NI w W5 b6 M [] W5) := Lib.hid ⟨⟨0, .nil, HPP.out.2.2.1⟩, ⟨Nat.le_refl _, fun _ _ _ => rfl⟩, HPP.out.2.2.2.2.1⟩
  have hnl : ns.length ≤ 1000000 := by have := hsame.len; have := HN.out.1; have := HLL.out.1; omega
  have hMl : M.length ≤ 1000000 := HM.out.1
  clear hcell hrd hsame hb HP HE1 HE2
  go_wp2_with fail
  refine (wpIn_wide (n := 5)).1 ?_
  refine wpIn_rangeFunc_ownH (F := Fence.wide) rfl (by decide) (gf := 60) (lb := #[.pointer (some ⟨B, 0, none⟩)]) rfl trivial (enters_of Try.func60 (by kernel_rfl) rfl)
    (seq_vals a' cap' B ns hnl W5 HQ.out.1 HQ.out.2.1 4 (by decide)) kpG_t (fun W l o o' h1 h2 h3 h4 => kpG_b (w := W5) (gOf_lt HQ.out.2.1) W l o o' h1 h2 h3 h4) (Below.refl _ _) (fun _ => rfl)
    (NI w W5 b6 M) (NX w w.heap.size M) (NI.own w W5 b6 M hw5) (NX.own w W5 w.heap.size M hw5) HI.out
    (fun x a9 W => Axi W5 (.slice a n1 cap) (.slice a2 n2 cap2) (.func (.func 60) #[] #[.pointer (some ⟨B2, 0, none⟩)]) (.slice a3 M.length cap3) (.func (.func 60) #[] #[.pointer (some ⟨B, 0, none⟩)]) w.heap.size b5 b6 x a9 W) (fun x a9 => Axi.own _ _ _ _ _ _ _ _ _ x a9 _) ?assign ?body ?done ?stop
  case assign =>
    rintro l pre x W K hI hK
    have hsz : W5.heap.size ≤ W.heap.size := hI.2.1.1
    gi_wp2_with fail
    have hbl : Below W.heap.size W (W.alloc (.cells #[.int .u64 (x.1 : Nat), .int .u64 (x.2 : Nat)] 25)) := (Below.refl _ W).alloc (Nat.le_refl _) _
    exact hK _ _ (below_keeps hbl _) (kpG_below hbl) (hI.keep hw5 hbl) ⟨W.heap.size, hsz, RB.new _ _ _, rfl⟩
  case body =>
    rintro l pre x a9 W hl ⟨r, hr⟩ ⟨⟨i, hin, hbi⟩, hkx, hB⟩ ⟨b1, hb1, hRB, rfl⟩ hlt
    clear hr hlt
    have h1' : 1 ≤ 5 - 1 - 1 := by omega
    have hb16 : b1 ≠ b6 := by omega
    have HS0 : Hid (InAt M pre i ∧ Below w.heap.size w W) := Lib.hid ⟨hin, hB⟩
    have HL0 : Hid (LF W5 b6 b1 x W i W) := Lib.hid ⟨hbi, ⟨rfl, rfl, rfl, Nat.le_refl _, fun _ _ _ => rfl⟩, hkx, hRB⟩
    have him := hin.le
    clear hin hbi hkx hB hRB
    unfold STi
    gi_wp2_with fail
    gi_loopw [] (fun wr => ∃ k : Nat, i ≤ k ∧ k ≤ M.length ∧ Hid (∀ q, i ≤ q → q < k → zh M q < x.1) ∧ Hid (LF W5 b6 b1 x W k wr)) (fun wr => M.length - iB b6 wr)
    case atStart => exact ⟨i, Nat.le_refl _, him, Lib.hid (fun q h1 h2 => by omega), HL0⟩
    case round =>
      clear HL0
      obtain ⟨k, hik, hkm, HA, HL⟩ := hrel
      have HLd := Lib.hid HL.out.drew
      obtain ⟨cd6, fd6⟩ := HLd.out.c
      by_cases hlt : k < M.length
      · obtain ⟨g, off, ha3, c0, c1⟩ := HQ.out.2.2.2.1.at HLd.out.2.2.1 hlt
        subst ha3
        have HSd : Hid (SR5 b6 b5 b1 (some ⟨g, off, none⟩) M.length cap3 k x wr.drew ∧ wr.drew.cell? ⟨g, off + k * 2, none⟩ = some (.int .u64 (zl M k : Nat)) ∧ wr.drew.cell? ⟨g, off + k * 2 + 1, none⟩ = some (.int .u64 (zh M k : Nat))) := Lib.hid ⟨HLd.out.s HPP.out.2.1 h56, c0, c1⟩
        clear c0 c1
        generalize hlo : zl M k = lo at *
        generalize hhi : zh M k = hi at *
        have HLO := Lib.hid hlo
        have HHI := Lib.hid hhi
        clear hlo hhi
        have hd0 : ((k : Int) == (M.length : Int)) = false := by simp; omega
        by_cases hh : hi < x.1
        · gi_wp2_with fail
          have HPU : Hid (LF W5 b6 b1 x W (k + 1) (wr.setCell ⟨b6, 0, none⟩ (.int .i64 ((k : Int) + 1))).drew) := Lib.hid (by
            rw [show (k : Int) + 1 = ((k + 1 : Nat) : Int) from by omega]
            exact (HL.out.put hb16 (k + 1)).drew)
          refine wpIn_region_held (S := fun W => SR5 b6 b5 b1 (some ⟨g, off, none⟩) M.length cap3 k x W ∧ W.cell? ⟨g, off + k * 2, none⟩ = some (.int .u64 (lo : Nat)) ∧ W.cell? ⟨g, off + k * 2 + 1, none⟩ = some (.int .u64 (hi : Nat))) (by kernel_rfl) (by repeat' (first | exact calm_nil | refine calm_cons ?_ ?_ | exact calm_load | exact calm_len | exact calm_bin | exact calm_move | exact calm_pick | exact calm_fieldAddr | exact calm_indexAddr)) ?_ (fun hHeld => ?_)
          · exact HSd.out
          refine wpAnyH_take (i := 0) (v := ?_) rfl (by kernel_rfl) (by kernel_rfl) (by kernel_rfl) (fun _ _ _ h => h) (Or.inl ⟨by kernel_rfl, ?_⟩) (by assumption) ?_
          rotate_left
          · intro wv hSw
            obtain ⟨⟨s0, s1, s2, s3⟩, s4, s5⟩ := hSw
            go_simp
            try with_reducible rfl
          simp only [Act.put, List.setIfInBounds_toArray, List.set_cons_zero, List.set_cons_succ, List.getElem_toArray, List.getElem_cons_succ, List.getElem_cons_zero]
          refine wpAnyH_take (i := 1) (v := ?_) rfl (by kernel_rfl) (by kernel_rfl) (by kernel_rfl) (fun _ _ _ h => h) (Or.inl ⟨by kernel_rfl, ?_⟩) (by assumption) ?_
          rotate_left
          · intro wv hSw
            obtain ⟨⟨s0, s1, s2, s3⟩, s4, s5⟩ := hSw
            go_simp
            try with_reducible rfl
          simp only [Act.put, List.setIfInBounds_toArray, List.set_cons_zero, List.set_cons_succ, List.getElem_toArray, List.getElem_cons_succ, List.getElem_cons_zero]
          refine wpAnyH_take (i := 2) (v := ?_) rfl (by kernel_rfl) (by kernel_rfl) (by kernel_rfl) (fun _ _ _ h => h) (Or.inl ⟨by kernel_rfl, ?_⟩) (by assumption) ?_
          rotate_left
          · intro wv hSw
            obtain ⟨⟨s0, s1, s2, s3⟩, s4, s5⟩ := hSw
            go_simp
            try with_reducible rfl
          simp only [Act.put, List.setIfInBounds_toArray, List.set_cons_zero, List.set_cons_succ, List.getElem_toArray, List.getElem_cons_succ, List.getElem_cons_zero]
          refine wpAnyH_take (i := 3) (v := ?_) rfl (by kernel_rfl) (by kernel_rfl) (by kernel_rfl) (fun _ _ _ h => h) (Or.inl ⟨by kernel_rfl, ?_⟩) (by assumption) ?_
          rotate_left
          · intro wv hSw
            obtain ⟨⟨s0, s1, s2, s3⟩, s4, s5⟩ := hSw
            go_simp
            try with_reducible rfl
          simp only [Act.put, List.setIfInBounds_toArray, List.set_cons_zero, List.set_cons_succ, List.getElem_toArray, List.getElem_cons_succ, List.getElem_cons_zero]
          refine wpAnyH_take (i := 4) (v := ?_) rfl (by kernel_rfl) (by kernel_rfl) (by kernel_rfl) (fun _ _ _ h => h) (Or.inl ⟨by kernel_rfl, ?_⟩) (by assumption) ?_
          rotate_left
          · intro wv hSw
            obtain ⟨⟨s0, s1, s2, s3⟩, s4, s5⟩ := hSw
            go_simp
            try with_reducible rfl
          simp only [Act.put, List.setIfInBounds_toArray, List.set_cons_zero, List.set_cons_succ, List.getElem_toArray, List.getElem_cons_succ, List.getElem_cons_zero]
          refine wpAnyH_take (i := 5) (v := ?_) rfl (by kernel_rfl) (by kernel_rfl) (by kernel_rfl) (fun _ _ _ h => h) (Or.inl ⟨by kernel_rfl, ?_⟩) (by assumption) ?_
          rotate_left
          · intro wv hSw
            obtain ⟨⟨s0, s1, s2, s3⟩, s4, s5⟩ := hSw
            go_simp
            try with_reducible rfl
          simp only [Act.put, List.setIfInBounds_toArray, List.set_cons_zero, List.set_cons_succ, List.getElem_toArray, List.getElem_cons_succ, List.getElem_cons_zero]
          refine wpAnyH_take (i := 6) (v := ?_) rfl (by kernel_rfl) (by kernel_rfl) (by kernel_rfl) (fun _ _ _ h => h) (Or.inl ⟨by kernel_rfl, ?_⟩) (by assumption) ?_
          rotate_left
          · intro wv hSw
            obtain ⟨⟨s0, s1, s2, s3⟩, s4, s5⟩ := hSw
            go_simp
            try with_reducible rfl
          simp only [Act.put, List.setIfInBounds_toArray, List.set_cons_zero, List.set_cons_succ, List.getElem_toArray, List.getElem_cons_succ, List.getElem_cons_zero]
          refine wpAnyH_take (i := 7) (v := ?_) rfl (by kernel_rfl) (by kernel_rfl) (by kernel_rfl) (fun _ _ _ h => h) (Or.inl ⟨by kernel_rfl, ?_⟩) (by assumption) ?_
          rotate_left
          · intro wv hSw
            obtain ⟨⟨s0, s1, s2, s3⟩, s4, s5⟩ := hSw
            go_simp
            try with_reducible rfl
          simp only [Act.put, List.setIfInBounds_toArray, List.set_cons_zero, List.set_cons_succ, List.getElem_toArray, List.getElem_cons_succ, List.getElem_cons_zero]
          refine wpAnyH_take (i := 8) (v := ?_) rfl (by kernel_rfl) (by kernel_rfl) (by kernel_rfl) (fun _ _ _ h => h) (Or.inl ⟨by kernel_rfl, ?_⟩) (by assumption) ?_
          rotate_left
          · intro wv hSw
            obtain ⟨⟨s0, s1, s2, s3⟩, s4, s5⟩ := hSw
            go_simp
            try with_reducible rfl
          simp only [Act.put, List.setIfInBounds_toArray, List.set_cons_zero, List.set_cons_succ, List.getElem_toArray, List.getElem_cons_succ, List.getElem_cons_zero]
          refine wpAnyH_take (i := 9) (v := ?_) rfl (by kernel_rfl) (by kernel_rfl) (by kernel_rfl) (fun _ _ _ h => h) (Or.inl ⟨by kernel_rfl, ?_⟩) (by assumption) ?_
          rotate_left
          · intro wv hSw
            obtain ⟨⟨s0, s1, s2, s3⟩, s4, s5⟩ := hSw
            go_simp
            try with_reducible rfl
          simp only [Act.put, List.setIfInBounds_toArray, List.set_cons_zero, List.set_cons_succ, List.getElem_toArray, List.getElem_cons_succ, List.getElem_cons_zero]
          refine wpAnyH_take (i := 10) (v := ?_) rfl (by kernel_rfl) (by kernel_rfl) (by kernel_rfl) (fun _ _ _ h => h) (Or.inl ⟨by kernel_rfl, ?_⟩) (by assumption) ?_
          rotate_left
          · intro wv hSw
            obtain ⟨⟨s0, s1, s2, s3⟩, s4, s5⟩ := hSw
            go_simp
            try with_reducible rfl
          simp only [Act.put, List.setIfInBounds_toArray, List.set_cons_zero, List.set_cons_succ, List.getElem_toArray, List.getElem_cons_succ, List.getElem_cons_zero]
          refine wpAnyH_take (i := 11) (v := ?_) rfl (by kernel_rfl) (by kernel_rfl) (by kernel_rfl) (fun _ _ _ h => h) (Or.inl ⟨by kernel_rfl, ?_⟩) (by assumption) ?_
          rotate_left
          · intro wv hSw
            obtain ⟨⟨s0, s1, s2, s3⟩, s4, s5⟩ := hSw
            go_simp
            try with_reducible rfl
          simp only [Act.put, List.setIfInBounds_toArray, List.set_cons_zero, List.set_cons_succ, List.getElem_toArray, List.getElem_cons_succ, List.getElem_cons_zero]
          refine wpAnyH_take (i := 12) (v := ?_) rfl (by kernel_rfl) (by kernel_rfl) (by kernel_rfl) (fun _ _ _ h => h) (Or.inl ⟨by kernel_rfl, ?_⟩) (by assumption) ?_
          rotate_left
          · intro wv hSw
            obtain ⟨⟨s0, s1, s2, s3⟩, s4, s5⟩ := hSw
            go_simp
            try with_reducible rfl
          simp only [Act.put, List.setIfInBounds_toArray, List.set_cons_zero, List.set_cons_succ, List.getElem_toArray, List.getElem_cons_succ, List.getElem_cons_zero]
          refine wpAnyH_take (i := 13) (v := ?_) rfl (by kernel_rfl) (by kernel_rfl) (by kernel_rfl) (fun _ _ _ h => h) (Or.inl ⟨by kernel_rfl, ?_⟩) (by assumption) ?_
          rotate_left
          · intro wv hSw
            obtain ⟨⟨s0, s1, s2, s3⟩, s4, s5⟩ := hSw
            go_simp
            try with_reducible rfl
          simp only [Act.put, List.setIfInBounds_toArray, List.set_cons_zero, List.set_cons_succ, List.getElem_toArray, List.getElem_cons_succ, List.getElem_cons_zero]
          refine wpAnyH_done (by kernel_rfl) ?_ _
          refine OnlyN.mk ?_
          gi_wp2_with fail
          go_roundw
          case rel => exact ⟨k + 1, by omega, by omega, Lib.hid (fun q h1 h2 => by
            by_cases e : q = k
            · subst e; rw [HHI.out]; exact hh
            · exact HA.out q h1 (by omega)), HPU⟩
          case measure =>
            have e1 := HPU.out.i
            have e2 := HL.out.i
            omega
        · gi_wp2_with fail
          refine wpIn_region_held (S := fun W => SR5 b6 b5 b1 (some ⟨g, off, none⟩) M.length cap3 k x W ∧ W.cell? ⟨g, off + k * 2, none⟩ = some (.int .u64 (lo : Nat)) ∧ W.cell? ⟨g, off + k * 2 + 1, none⟩ = some (.int .u64 (hi : Nat))) (by kernel_rfl) (by repeat' (first | exact calm_nil | refine calm_cons ?_ ?_ | exact calm_load | exact calm_len | exact calm_bin | exact calm_move | exact calm_pick | exact calm_fieldAddr | exact calm_indexAddr)) ?_ (fun hHeld => ?_)
          · exact HSd.out
          refine wpAnyH_take (i := 0) (v := ?_) rfl (by kernel_rfl) (by kernel_rfl) (by kernel_rfl) (fun _ _ _ h => h) (Or.inl ⟨by kernel_rfl, ?_⟩) (by assumption) ?_
          rotate_left
          · intro wv hSw
            obtain ⟨⟨s0, s1, s2, s3⟩, s4, s5⟩ := hSw
            go_simp
            try with_reducible rfl
          simp only [Act.put, List.setIfInBounds_toArray, List.set_cons_zero, List.set_cons_succ, List.getElem_toArray, List.getElem_cons_succ, List.getElem_cons_zero]
          refine wpAnyH_take (i := 1) (v := ?_) rfl (by kernel_rfl) (by kernel_rfl) (by kernel_rfl) (fun _ _ _ h => h) (Or.inl ⟨by kernel_rfl, ?_⟩) (by assumption) ?_
          rotate_left
          · intro wv hSw
            obtain ⟨⟨s0, s1, s2, s3⟩, s4, s5⟩ := hSw
            go_simp
            try with_reducible rfl
          simp only [Act.put, List.setIfInBounds_toArray, List.set_cons_zero, List.set_cons_succ, List.getElem_toArray, List.getElem_cons_succ, List.getElem_cons_zero]
          refine wpAnyH_take (i := 2) (v := ?_) rfl (by kernel_rfl) (by kernel_rfl) (by kernel_rfl) (fun _ _ _ h => h) (Or.inl ⟨by kernel_rfl, ?_⟩) (by assumption) ?_
          rotate_left
          · intro wv hSw
            obtain ⟨⟨s0, s1, s2, s3⟩, s4, s5⟩ := hSw
            go_simp
            try with_reducible rfl
          simp only [Act.put, List.setIfInBounds_toArray, List.set_cons_zero, List.set_cons_succ, List.getElem_toArray, List.getElem_cons_succ, List.getElem_cons_zero]
          refine wpAnyH_take (i := 3) (v := ?_) rfl (by kernel_rfl) (by kernel_rfl) (by kernel_rfl) (fun _ _ _ h => h) (Or.inl ⟨by kernel_rfl, ?_⟩) (by assumption) ?_
          rotate_left
          · intro wv hSw
            obtain ⟨⟨s0, s1, s2, s3⟩, s4, s5⟩ := hSw
            go_simp
            try with_reducible rfl
          simp only [Act.put, List.setIfInBounds_toArray, List.set_cons_zero, List.set_cons_succ, List.getElem_toArray, List.getElem_cons_succ, List.getElem_cons_zero]
          refine wpAnyH_take (i := 4) (v := ?_) rfl (by kernel_rfl) (by kernel_rfl) (by kernel_rfl) (fun _ _ _ h => h) (Or.inl ⟨by kernel_rfl, ?_⟩) (by assumption) ?_
          rotate_left
          · intro wv hSw
            obtain ⟨⟨s0, s1, s2, s3⟩, s4, s5⟩ := hSw
            go_simp
            try with_reducible rfl
          simp only [Act.put, List.setIfInBounds_toArray, List.set_cons_zero, List.set_cons_succ, List.getElem_toArray, List.getElem_cons_succ, List.getElem_cons_zero]
          refine wpAnyH_take (i := 5) (v := ?_) rfl (by kernel_rfl) (by kernel_rfl) (by kernel_rfl) (fun _ _ _ h => h) (Or.inl ⟨by kernel_rfl, ?_⟩) (by assumption) ?_
          rotate_left
          · intro wv hSw
            obtain ⟨⟨s0, s1, s2, s3⟩, s4, s5⟩ := hSw
            go_simp
            try with_reducible rfl
          simp only [Act.put, List.setIfInBounds_toArray, List.set_cons_zero, List.set_cons_succ, List.getElem_toArray, List.getElem_cons_succ, List.getElem_cons_zero]
          refine wpAnyH_take (i := 6) (v := ?_) rfl (by kernel_rfl) (by kernel_rfl) (by kernel_rfl) (fun _ _ _ h => h) (Or.inl ⟨by kernel_rfl, ?_⟩) (by assumption) ?_
          rotate_left
          · intro wv hSw
            obtain ⟨⟨s0, s1, s2, s3⟩, s4, s5⟩ := hSw
            go_simp
            try with_reducible rfl
          simp only [Act.put, List.setIfInBounds_toArray, List.set_cons_zero, List.set_cons_succ, List.getElem_toArray, List.getElem_cons_succ, List.getElem_cons_zero]
          refine wpAnyH_take (i := 7) (v := ?_) rfl (by kernel_rfl) (by kernel_rfl) (by kernel_rfl) (fun _ _ _ h => h) (Or.inl ⟨by kernel_rfl, ?_⟩) (by assumption) ?_
          rotate_left
          · intro wv hSw
            obtain ⟨⟨s0, s1, s2, s3⟩, s4, s5⟩ := hSw
            go_simp
            try with_reducible rfl
          simp only [Act.put, List.setIfInBounds_toArray, List.set_cons_zero, List.set_cons_succ, List.getElem_toArray, List.getElem_cons_succ, List.getElem_cons_zero]
          refine wpAnyH_take (i := 8) (v := ?_) rfl (by kernel_rfl) (by kernel_rfl) (by kernel_rfl) (fun _ _ _ h => h) (Or.inl ⟨by kernel_rfl, ?_⟩) (by assumption) ?_
          rotate_left
          · intro wv hSw
            obtain ⟨⟨s0, s1, s2, s3⟩, s4, s5⟩ := hSw
            go_simp
            try with_reducible rfl
          simp only [Act.put, List.setIfInBounds_toArray, List.set_cons_zero, List.set_cons_succ, List.getElem_toArray, List.getElem_cons_succ, List.getElem_cons_zero]
          refine wpAnyH_take (i := 9) (v := ?_) rfl (by kernel_rfl) (by kernel_rfl) (by kernel_rfl) (fun _ _ _ h => h) (Or.inl ⟨by kernel_rfl, ?_⟩) (by assumption) ?_
          rotate_left
          · intro wv hSw
            obtain ⟨⟨s0, s1, s2, s3⟩, s4, s5⟩ := hSw
            go_simp
            try with_reducible rfl
          simp only [Act.put, List.setIfInBounds_toArray, List.set_cons_zero, List.set_cons_succ, List.getElem_toArray, List.getElem_cons_succ, List.getElem_cons_zero]
          refine wpAnyH_take (i := 10) (v := ?_) rfl (by kernel_rfl) (by kernel_rfl) (by kernel_rfl) (fun _ _ _ h => h) (Or.inl ⟨by kernel_rfl, ?_⟩) (by assumption) ?_
          rotate_left
          · intro wv hSw
            obtain ⟨⟨s0, s1, s2, s3⟩, s4, s5⟩ := hSw
            go_simp
            try with_reducible rfl
          simp only [Act.put, List.setIfInBounds_toArray, List.set_cons_zero, List.set_cons_succ, List.getElem_toArray, List.getElem_cons_succ, List.getElem_cons_zero]
          refine wpAnyH_take (i := 11) (v := ?_) rfl (by kernel_rfl) (by kernel_rfl) (by kernel_rfl) (fun _ _ _ h => h) (Or.inl ⟨by kernel_rfl, ?_⟩) (by assumption) ?_
          rotate_left
          · intro wv hSw
            obtain ⟨⟨s0, s1, s2, s3⟩, s4, s5⟩ := hSw
            go_simp
            try with_reducible rfl
          simp only [Act.put, List.setIfInBounds_toArray, List.set_cons_zero, List.set_cons_succ, List.getElem_toArray, List.getElem_cons_succ, List.getElem_cons_zero]
          refine wpAnyH_take (i := 12) (v := ?_) rfl (by kernel_rfl) (by kernel_rfl) (by kernel_rfl) (fun _ _ _ h => h) (Or.inl ⟨by kernel_rfl, ?_⟩) (by assumption) ?_
          rotate_left
          · intro wv hSw
            obtain ⟨⟨s0, s1, s2, s3⟩, s4, s5⟩ := hSw
            go_simp
            try with_reducible rfl
          simp only [Act.put, List.setIfInBounds_toArray, List.set_cons_zero, List.set_cons_succ, List.getElem_toArray, List.getElem_cons_succ, List.getElem_cons_zero]
          refine wpAnyH_take (i := 13) (v := ?_) rfl (by kernel_rfl) (by kernel_rfl) (by kernel_rfl) (fun _ _ _ h => h) (Or.inl ⟨by kernel_rfl, ?_⟩) (by assumption) ?_
          rotate_left
          · intro wv hSw
            obtain ⟨⟨s0, s1, s2, s3⟩, s4, s5⟩ := hSw
            go_simp
            try with_reducible rfl
          simp only [Act.put, List.setIfInBounds_toArray, List.set_cons_zero, List.set_cons_succ, List.getElem_toArray, List.getElem_cons_succ, List.getElem_cons_zero]
          refine wpAnyH_done (by kernel_rfl) ?_ _
          refine OnlyN.mk ?_
          gi_wp2_with fail
          have HLdd := Lib.hid HLd.out.drew
          have HRR : Hid (Boxed wr.drew.drew w.heap.size 4 (.bool false)) := Lib.hid ((HLdd.out.2.2.1.2 _ (Array.getElem?_eq_some_iff.1 HPP.out.1).1 hR6).trans HPP.out.1)
          have HADV : Hid (Adv M x.1 i k) := Lib.hid ⟨hik, hkm, HA.out, fun h => by rw [HHI.out]; omega⟩
          have HSdd : Hid (SR5 b6 b5 b1 (some ⟨g, off, none⟩) M.length cap3 k x wr.drew.drew ∧ wr.drew.drew.cell? ⟨g, off + k * 2, none⟩ = some (.int .u64 (lo : Nat)) ∧ wr.drew.drew.cell? ⟨g, off + k * 2 + 1, none⟩ = some (.int .u64 (hi : Nat))) := HSd
          clear HSd
          by_cases h1 : x.1 < lo
          · have HFT : Hid (fitsR M k x = false) := Lib.hid (by simp only [fitsR, HLO.out, HHI.out, Bool.and_eq_false_iff, decide_eq_false_iff_not]; omega)
            refine wpIn_region_held (S := fun W => SR5 b6 b5 b1 (some ⟨g, off, none⟩) M.length cap3 k x W ∧ W.cell? ⟨g, off + k * 2, none⟩ = some (.int .u64 (lo : Nat)) ∧ W.cell? ⟨g, off + k * 2 + 1, none⟩ = some (.int .u64 (hi : Nat))) (by kernel_rfl) (by repeat' (first | exact calm_nil | refine calm_cons ?_ ?_ | exact calm_load | exact calm_len | exact calm_bin | exact calm_move | exact calm_pick | exact calm_fieldAddr | exact calm_indexAddr)) ?_ (fun hHeld => ?_)
            · exact HSdd.out
            refine wpAnyH_take (i := 0) (v := ?_) rfl (by kernel_rfl) (by kernel_rfl) (by kernel_rfl) (fun _ _ _ h => h) (Or.inl ⟨by kernel_rfl, ?_⟩) (by assumption) ?_
            rotate_left
            · intro wv hSw
              obtain ⟨⟨s0, s1, s2, s3⟩, s4, s5⟩ := hSw
              go_simp
              try with_reducible rfl
            simp only [Act.put, List.setIfInBounds_toArray, List.set_cons_zero, List.set_cons_succ, List.getElem_toArray, List.getElem_cons_succ, List.getElem_cons_zero]
            refine wpAnyH_take (i := 1) (v := ?_) rfl (by kernel_rfl) (by kernel_rfl) (by kernel_rfl) (fun _ _ _ h => h) (Or.inl ⟨by kernel_rfl, ?_⟩) (by assumption) ?_
            rotate_left
            · intro wv hSw
              obtain ⟨⟨s0, s1, s2, s3⟩, s4, s5⟩ := hSw
              go_simp
              try with_reducible rfl
            simp only [Act.put, List.setIfInBounds_toArray, List.set_cons_zero, List.set_cons_succ, List.getElem_toArray, List.getElem_cons_succ, List.getElem_cons_zero]
            refine wpAnyH_take (i := 2) (v := ?_) rfl (by kernel_rfl) (by kernel_rfl) (by kernel_rfl) (fun _ _ _ h => h) (Or.inl ⟨by kernel_rfl, ?_⟩) (by assumption) ?_
            rotate_left
            · intro wv hSw
              obtain ⟨⟨s0, s1, s2, s3⟩, s4, s5⟩ := hSw
              go_simp
              try with_reducible rfl
            simp only [Act.put, List.setIfInBounds_toArray, List.set_cons_zero, List.set_cons_succ, List.getElem_toArray, List.getElem_cons_succ, List.getElem_cons_zero]
            refine wpAnyH_take (i := 3) (v := ?_) rfl (by kernel_rfl) (by kernel_rfl) (by kernel_rfl) (fun _ _ _ h => h) (Or.inl ⟨by kernel_rfl, ?_⟩) (by assumption) ?_
            rotate_left
            · intro wv hSw
              obtain ⟨⟨s0, s1, s2, s3⟩, s4, s5⟩ := hSw
              go_simp
              try with_reducible rfl
            simp only [Act.put, List.setIfInBounds_toArray, List.set_cons_zero, List.set_cons_succ, List.getElem_toArray, List.getElem_cons_succ, List.getElem_cons_zero]
            refine wpAnyH_take (i := 4) (v := ?_) rfl (by kernel_rfl) (by kernel_rfl) (by kernel_rfl) (fun _ _ _ h => h) (Or.inl ⟨by kernel_rfl, ?_⟩) (by assumption) ?_
            rotate_left
            · intro wv hSw
              obtain ⟨⟨s0, s1, s2, s3⟩, s4, s5⟩ := hSw
              go_simp
              try with_reducible rfl
            simp only [Act.put, List.setIfInBounds_toArray, List.set_cons_zero, List.set_cons_succ, List.getElem_toArray, List.getElem_cons_succ, List.getElem_cons_zero]
            refine wpAnyH_take (i := 5) (v := ?_) rfl (by kernel_rfl) (by kernel_rfl) (by kernel_rfl) (fun _ _ _ h => h) (Or.inl ⟨by kernel_rfl, ?_⟩) (by assumption) ?_
            rotate_left
            · intro wv hSw
              obtain ⟨⟨s0, s1, s2, s3⟩, s4, s5⟩ := hSw
              go_simp
              try with_reducible rfl
            simp only [Act.put, List.setIfInBounds_toArray, List.set_cons_zero, List.set_cons_succ, List.getElem_toArray, List.getElem_cons_succ, List.getElem_cons_zero]
            refine wpAnyH_take (i := 6) (v := ?_) rfl (by kernel_rfl) (by kernel_rfl) (by kernel_rfl) (fun _ _ _ h => h) (Or.inl ⟨by kernel_rfl, ?_⟩) (by assumption) ?_
            rotate_left
            · intro wv hSw
              obtain ⟨⟨s0, s1, s2, s3⟩, s4, s5⟩ := hSw
              go_simp
              try with_reducible rfl
            simp only [Act.put, List.setIfInBounds_toArray, List.set_cons_zero, List.set_cons_succ, List.getElem_toArray, List.getElem_cons_succ, List.getElem_cons_zero]
            refine wpAnyH_take (i := 7) (v := ?_) rfl (by kernel_rfl) (by kernel_rfl) (by kernel_rfl) (fun _ _ _ h => h) (Or.inl ⟨by kernel_rfl, ?_⟩) (by assumption) ?_
            rotate_left
            · intro wv hSw
              obtain ⟨⟨s0, s1, s2, s3⟩, s4, s5⟩ := hSw
              go_simp
              try with_reducible rfl
            simp only [Act.put, List.setIfInBounds_toArray, List.set_cons_zero, List.set_cons_succ, List.getElem_toArray, List.getElem_cons_succ, List.getElem_cons_zero]
            refine wpAnyH_take (i := 8) (v := ?_) rfl (by kernel_rfl) (by kernel_rfl) (by kernel_rfl) (fun _ _ _ h => h) (Or.inl ⟨by kernel_rfl, ?_⟩) (by assumption) ?_
            rotate_left
            · intro wv hSw
              obtain ⟨⟨s0, s1, s2, s3⟩, s4, s5⟩ := hSw
              go_simp
              try with_reducible rfl
            simp only [Act.put, List.setIfInBounds_toArray, List.set_cons_zero, List.set_cons_succ, List.getElem_toArray, List.getElem_cons_succ, List.getElem_cons_zero]
            refine wpAnyH_take (i := 9) (v := ?_) rfl (by kernel_rfl) (by kernel_rfl) (by kernel_rfl) (fun _ _ _ h => h) (Or.inl ⟨by kernel_rfl, ?_⟩) (by assumption) ?_
            rotate_left
            · intro wv hSw
              obtain ⟨⟨s0, s1, s2, s3⟩, s4, s5⟩ := hSw
              go_simp
              try with_reducible rfl
            simp only [Act.put, List.setIfInBounds_toArray, List.set_cons_zero, List.set_cons_succ, List.getElem_toArray, List.getElem_cons_succ, List.getElem_cons_zero]
            refine wpAnyH_take (i := 10) (v := ?_) rfl (by kernel_rfl) (by kernel_rfl) (by kernel_rfl) (fun _ _ _ h => h) (Or.inl ⟨by kernel_rfl, ?_⟩) (by assumption) ?_
            rotate_left
            · intro wv hSw
              obtain ⟨⟨s0, s1, s2, s3⟩, s4, s5⟩ := hSw
              go_simp
              try with_reducible rfl
            simp only [Act.put, List.setIfInBounds_toArray, List.set_cons_zero, List.set_cons_succ, List.getElem_toArray, List.getElem_cons_succ, List.getElem_cons_zero]
            refine wpAnyH_take (i := 11) (v := ?_) rfl (by kernel_rfl) (by kernel_rfl) (by kernel_rfl) (fun _ _ _ h => h) (Or.inl ⟨by kernel_rfl, ?_⟩) (by assumption) ?_
            rotate_left
            · intro wv hSw
              obtain ⟨⟨s0, s1, s2, s3⟩, s4, s5⟩ := hSw
              go_simp
              try with_reducible rfl
            simp only [Act.put, List.setIfInBounds_toArray, List.set_cons_zero, List.set_cons_succ, List.getElem_toArray, List.getElem_cons_succ, List.getElem_cons_zero]
            refine wpAnyH_take (i := 12) (v := ?_) rfl (by kernel_rfl) (by kernel_rfl) (by kernel_rfl) (fun _ _ _ h => h) (Or.inl ⟨by kernel_rfl, ?_⟩) (by assumption) ?_
            rotate_left
            · intro wv hSw
              obtain ⟨⟨s0, s1, s2, s3⟩, s4, s5⟩ := hSw
              go_simp
              try with_reducible rfl
            simp only [Act.put, List.setIfInBounds_toArray, List.set_cons_zero, List.set_cons_succ, List.getElem_toArray, List.getElem_cons_succ, List.getElem_cons_zero]
            refine wpAnyH_take (i := 13) (v := ?_) rfl (by kernel_rfl) (by kernel_rfl) (by kernel_rfl) (fun _ _ _ h => h) (Or.inl ⟨by kernel_rfl, ?_⟩) (by assumption) ?_
            rotate_left
            · intro wv hSw
              obtain ⟨⟨s0, s1, s2, s3⟩, s4, s5⟩ := hSw
              go_simp
              try with_reducible rfl
            simp only [Act.put, List.setIfInBounds_toArray, List.set_cons_zero, List.set_cons_succ, List.getElem_toArray, List.getElem_cons_succ, List.getElem_cons_zero]
            refine wpAnyH_take (i := 14) (v := ?_) rfl (by kernel_rfl) (by kernel_rfl) (by kernel_rfl) (fun _ _ _ h => h) (Or.inl ⟨by kernel_rfl, ?_⟩) (by assumption) ?_
            rotate_left
            · intro wv hSw
              obtain ⟨⟨s0, s1, s2, s3⟩, s4, s5⟩ := hSw
              go_simp
              try with_reducible rfl
            simp only [Act.put, List.setIfInBounds_toArray, List.set_cons_zero, List.set_cons_succ, List.getElem_toArray, List.getElem_cons_succ, List.getElem_cons_zero]
            refine wpAnyH_take (i := 15) (v := undef) rfl (by kernel_rfl) (by kernel_rfl) (by kernel_rfl) (fun _ _ _ h => h) (Or.inr ⟨by kernel_rfl, rfl⟩) (by assumption) ?_
            simp only [Act.put, List.setIfInBounds_toArray, List.set_cons_zero, List.set_cons_succ, List.getElem_toArray, List.getElem_cons_succ, List.getElem_cons_zero]
            refine wpAnyH_take (i := 16) (v := undef) rfl (by kernel_rfl) (by kernel_rfl) (by kernel_rfl) (fun _ _ _ h => h) (Or.inr ⟨by kernel_rfl, rfl⟩) (by assumption) ?_
            simp only [Act.put, List.setIfInBounds_toArray, List.set_cons_zero, List.set_cons_succ, List.getElem_toArray, List.getElem_cons_succ, List.getElem_cons_zero]
            refine wpAnyH_take (i := 17) (v := undef) rfl (by kernel_rfl) (by kernel_rfl) (by kernel_rfl) (fun _ _ _ h => h) (Or.inr ⟨by kernel_rfl, rfl⟩) (by assumption) ?_
            simp only [Act.put, List.setIfInBounds_toArray, List.set_cons_zero, List.set_cons_succ, List.getElem_toArray, List.getElem_cons_succ, List.getElem_cons_zero]
            refine wpAnyH_take (i := 18) (v := undef) rfl (by kernel_rfl) (by kernel_rfl) (by kernel_rfl) (fun _ _ _ h => h) (Or.inr ⟨by kernel_rfl, rfl⟩) (by assumption) ?_
            simp only [Act.put, List.setIfInBounds_toArray, List.set_cons_zero, List.set_cons_succ, List.getElem_toArray, List.getElem_cons_succ, List.getElem_cons_zero]
            refine wpAnyH_take (i := 19) (v := undef) rfl (by kernel_rfl) (by kernel_rfl) (by kernel_rfl) (fun _ _ _ h => h) (Or.inr ⟨by kernel_rfl, rfl⟩) (by assumption) ?_
            simp only [Act.put, List.setIfInBounds_toArray, List.set_cons_zero, List.set_cons_succ, List.getElem_toArray, List.getElem_cons_succ, List.getElem_cons_zero]
            refine wpAnyH_take (i := 20) (v := undef) rfl (by kernel_rfl) (by kernel_rfl) (by kernel_rfl) (fun _ _ _ h => h) (Or.inr ⟨by kernel_rfl, rfl⟩) (by assumption) ?_
            simp only [Act.put, List.setIfInBounds_toArray, List.set_cons_zero, List.set_cons_succ, List.getElem_toArray, List.getElem_cons_succ, List.getElem_cons_zero]
            refine wpAnyH_take (i := 21) (v := undef) rfl (by kernel_rfl) (by kernel_rfl) (by kernel_rfl) (fun _ _ _ h => h) (Or.inr ⟨by kernel_rfl, rfl⟩) (by assumption) ?_
            simp only [Act.put, List.setIfInBounds_toArray, List.set_cons_zero, List.set_cons_succ, List.getElem_toArray, List.getElem_cons_succ, List.getElem_cons_zero]
            refine wpAnyH_take (i := 22) (v := undef) rfl (by kernel_rfl) (by kernel_rfl) (by kernel_rfl) (fun _ _ _ h => h) (Or.inr ⟨by kernel_rfl, rfl⟩) (by assumption) ?_
            simp only [Act.put, List.setIfInBounds_toArray, List.set_cons_zero, List.set_cons_succ, List.getElem_toArray, List.getElem_cons_succ, List.getElem_cons_zero]
            refine wpAnyH_take (i := 23) (v := ?_) rfl (by kernel_rfl) (by kernel_rfl) (by kernel_rfl) (fun _ _ _ h => h) (Or.inl ⟨by kernel_rfl, ?_⟩) (by assumption) ?_
            rotate_left
            · intro wv hSw
              obtain ⟨⟨s0, s1, s2, s3⟩, s4, s5⟩ := hSw
              go_simp
              try with_reducible rfl
            simp only [Act.put, List.setIfInBounds_toArray, List.set_cons_zero, List.set_cons_succ, List.getElem_toArray, List.getElem_cons_succ, List.getElem_cons_zero]
            refine wpAnyH_done (by kernel_rfl) ?_ _
            refine OnlyN.mk ?_
            have cR := HRR.out.cell
            have fR := HRR.out.frozen
            gi_wp2_with fail
            exact ⟨(KeepsFrom.of_grownBy HLdd.out.2.1 (fun j e => by cases e; exact hb6l)).trans ((KeepsOthers.setCell _ _ _).from _), rfl, ⟨pre, x, i, k, rfl, HS0.out.1, HADV.out, HFT.out⟩, HRR.out.set _, (below_grown HS0.out.2 HLdd.out.2.1 hwb6).setCell (p := ⟨w.heap.size, 0, none⟩) (Nat.le_refl _) _⟩
          by_cases h2 : hi < x.2
          · have HFT : Hid (fitsR M k x = false) := Lib.hid (by simp only [fitsR, HLO.out, HHI.out, Bool.and_eq_false_iff, decide_eq_false_iff_not]; omega)
            refine wpIn_region_held (S := fun W => SR5 b6 b5 b1 (some ⟨g, off, none⟩) M.length cap3 k x W ∧ W.cell? ⟨g, off + k * 2, none⟩ = some (.int .u64 (lo : Nat)) ∧ W.cell? ⟨g, off + k * 2 + 1, none⟩ = some (.int .u64 (hi : Nat))) (by kernel_rfl) (by repeat' (first | exact calm_nil | refine calm_cons ?_ ?_ | exact calm_load | exact calm_len | exact calm_bin | exact calm_move | exact calm_pick | exact calm_fieldAddr | exact calm_indexAddr)) ?_ (fun hHeld => ?_)
            · exact HSdd.out
            refine wpAnyH_take (i := 0) (v := ?_) rfl (by kernel_rfl) (by kernel_rfl) (by kernel_rfl) (fun _ _ _ h => h) (Or.inl ⟨by kernel_rfl, ?_⟩) (by assumption) ?_
            rotate_left
            · intro wv hSw
              obtain ⟨⟨s0, s1, s2, s3⟩, s4, s5⟩ := hSw
              go_simp
              try with_reducible rfl
            simp only [Act.put, List.setIfInBounds_toArray, List.set_cons_zero, List.set_cons_succ, List.getElem_toArray, List.getElem_cons_succ, List.getElem_cons_zero]
            refine wpAnyH_take (i := 1) (v := ?_) rfl (by kernel_rfl) (by kernel_rfl) (by kernel_rfl) (fun _ _ _ h => h) (Or.inl ⟨by kernel_rfl, ?_⟩) (by assumption) ?_
            rotate_left
            · intro wv hSw
              obtain ⟨⟨s0, s1, s2, s3⟩, s4, s5⟩ := hSw
              go_simp
              try with_reducible rfl
            simp only [Act.put, List.setIfInBounds_toArray, List.set_cons_zero, List.set_cons_succ, List.getElem_toArray, List.getElem_cons_succ, List.getElem_cons_zero]
            refine wpAnyH_take (i := 2) (v := ?_) rfl (by kernel_rfl) (by kernel_rfl) (by kernel_rfl) (fun _ _ _ h => h) (Or.inl ⟨by kernel_rfl, ?_⟩) (by assumption) ?_
            rotate_left
            · intro wv hSw
              obtain ⟨⟨s0, s1, s2, s3⟩, s4, s5⟩ := hSw
              go_simp
              try with_reducible rfl
            simp only [Act.put, List.setIfInBounds_toArray, List.set_cons_zero, List.set_cons_succ, List.getElem_toArray, List.getElem_cons_succ, List.getElem_cons_zero]
            refine wpAnyH_take (i := 3) (v := ?_) rfl (by kernel_rfl) (by kernel_rfl) (by kernel_rfl) (fun _ _ _ h => h) (Or.inl ⟨by kernel_rfl, ?_⟩) (by assumption) ?_
            rotate_left
            · intro wv hSw
              obtain ⟨⟨s0, s1, s2, s3⟩, s4, s5⟩ := hSw
              go_simp
              try with_reducible rfl
            simp only [Act.put, List.setIfInBounds_toArray, List.set_cons_zero, List.set_cons_succ, List.getElem_toArray, List.getElem_cons_succ, List.getElem_cons_zero]
            refine wpAnyH_take (i := 4) (v := ?_) rfl (by kernel_rfl) (by kernel_rfl) (by kernel_rfl) (fun _ _ _ h => h) (Or.inl ⟨by kernel_rfl, ?_⟩) (by assumption) ?_
            rotate_left
            · intro wv hSw
              obtain ⟨⟨s0, s1, s2, s3⟩, s4, s5⟩ := hSw
              go_simp
              try with_reducible rfl
            simp only [Act.put, List.setIfInBounds_toArray, List.set_cons_zero, List.set_cons_succ, List.getElem_toArray, List.getElem_cons_succ, List.getElem_cons_zero]
            refine wpAnyH_take (i := 5) (v := ?_) rfl (by kernel_rfl) (by kernel_rfl) (by kernel_rfl) (fun _ _ _ h => h) (Or.inl ⟨by kernel_rfl, ?_⟩) (by assumption) ?_
            rotate_left
            · intro wv hSw
              obtain ⟨⟨s0, s1, s2, s3⟩, s4, s5⟩ := hSw
              go_simp
              try with_reducible rfl
            simp only [Act.put, List.setIfInBounds_toArray, List.set_cons_zero, List.set_cons_succ, List.getElem_toArray, List.getElem_cons_succ, List.getElem_cons_zero]
            refine wpAnyH_take (i := 6) (v := ?_) rfl (by kernel_rfl) (by kernel_rfl) (by kernel_rfl) (fun _ _ _ h => h) (Or.inl ⟨by kernel_rfl, ?_⟩) (by assumption) ?_
            rotate_left
            · intro wv hSw
              obtain ⟨⟨s0, s1, s2, s3⟩, s4, s5⟩ := hSw
              go_simp
              try with_reducible rfl
            simp only [Act.put, List.setIfInBounds_toArray, List.set_cons_zero, List.set_cons_succ, List.getElem_toArray, List.getElem_cons_succ, List.getElem_cons_zero]
            refine wpAnyH_take (i := 7) (v := ?_) rfl (by kernel_rfl) (by kernel_rfl) (by kernel_rfl) (fun _ _ _ h => h) (Or.inl ⟨by kernel_rfl, ?_⟩) (by assumption) ?_
            rotate_left
            · intro wv hSw
              obtain ⟨⟨s0, s1, s2, s3⟩, s4, s5⟩ := hSw
              go_simp
              try with_reducible rfl
            simp only [Act.put, List.setIfInBounds_toArray, List.set_cons_zero, List.set_cons_succ, List.getElem_toArray, List.getElem_cons_succ, List.getElem_cons_zero]
            refine wpAnyH_take (i := 8) (v := ?_) rfl (by kernel_rfl) (by kernel_rfl) (by kernel_rfl) (fun _ _ _ h => h) (Or.inl ⟨by kernel_rfl, ?_⟩) (by assumption) ?_
            rotate_left
            · intro wv hSw
              obtain ⟨⟨s0, s1, s2, s3⟩, s4, s5⟩ := hSw
              go_simp
              try with_reducible rfl
            simp only [Act.put, List.setIfInBounds_toArray, List.set_cons_zero, List.set_cons_succ, List.getElem_toArray, List.getElem_cons_succ, List.getElem_cons_zero]
            refine wpAnyH_take (i := 9) (v := ?_) rfl (by kernel_rfl) (by kernel_rfl) (by kernel_rfl) (fun _ _ _ h => h) (Or.inl ⟨by kernel_rfl, ?_⟩) (by assumption) ?_
            rotate_left
            · intro wv hSw
              obtain ⟨⟨s0, s1, s2, s3⟩, s4, s5⟩ := hSw
              go_simp
              try with_reducible rfl
            simp only [Act.put, List.setIfInBounds_toArray, List.set_cons_zero, List.set_cons_succ, List.getElem_toArray, List.getElem_cons_succ, List.getElem_cons_zero]
            refine wpAnyH_take (i := 10) (v := ?_) rfl (by kernel_rfl) (by kernel_rfl) (by kernel_rfl) (fun _ _ _ h => h) (Or.inl ⟨by kernel_rfl, ?_⟩) (by assumption) ?_
            rotate_left
            · intro wv hSw
              obtain ⟨⟨s0, s1, s2, s3⟩, s4, s5⟩ := hSw
              go_simp
              try with_reducible rfl
            simp only [Act.put, List.setIfInBounds_toArray, List.set_cons_zero, List.set_cons_succ, List.getElem_toArray, List.getElem_cons_succ, List.getElem_cons_zero]
            refine wpAnyH_take (i := 11) (v := ?_) rfl (by kernel_rfl) (by kernel_rfl) (by kernel_rfl) (fun _ _ _ h => h) (Or.inl ⟨by kernel_rfl, ?_⟩) (by assumption) ?_
            rotate_left
            · intro wv hSw
              obtain ⟨⟨s0, s1, s2, s3⟩, s4, s5⟩ := hSw
              go_simp
              try with_reducible rfl
            simp only [Act.put, List.setIfInBounds_toArray, List.set_cons_zero, List.set_cons_succ, List.getElem_toArray, List.getElem_cons_succ, List.getElem_cons_zero]
            refine wpAnyH_take (i := 12) (v := ?_) rfl (by kernel_rfl) (by kernel_rfl) (by kernel_rfl) (fun _ _ _ h => h) (Or.inl ⟨by kernel_rfl, ?_⟩) (by assumption) ?_
            rotate_left
            · intro wv hSw
              obtain ⟨⟨s0, s1, s2, s3⟩, s4, s5⟩ := hSw
              go_simp
              try with_reducible rfl
            simp only [Act.put, List.setIfInBounds_toArray, List.set_cons_zero, List.set_cons_succ, List.getElem_toArray, List.getElem_cons_succ, List.getElem_cons_zero]
            refine wpAnyH_take (i := 13) (v := ?_) rfl (by kernel_rfl) (by kernel_rfl) (by kernel_rfl) (fun _ _ _ h => h) (Or.inl ⟨by kernel_rfl, ?_⟩) (by assumption) ?_
            rotate_left
            · intro wv hSw
              obtain ⟨⟨s0, s1, s2, s3⟩, s4, s5⟩ := hSw
              go_simp
              try with_reducible rfl
            simp only [Act.put, List.setIfInBounds_toArray, List.set_cons_zero, List.set_cons_succ, List.getElem_toArray, List.getElem_cons_succ, List.getElem_cons_zero]
            refine wpAnyH_take (i := 14) (v := ?_) rfl (by kernel_rfl) (by kernel_rfl) (by kernel_rfl) (fun _ _ _ h => h) (Or.inl ⟨by kernel_rfl, ?_⟩) (by assumption) ?_
            rotate_left
            · intro wv hSw
              obtain ⟨⟨s0, s1, s2, s3⟩, s4, s5⟩ := hSw
              go_simp
              try with_reducible rfl
            simp only [Act.put, List.setIfInBounds_toArray, List.set_cons_zero, List.set_cons_succ, List.getElem_toArray, List.getElem_cons_succ, List.getElem_cons_zero]
            refine wpAnyH_take (i := 15) (v := ?_) rfl (by kernel_rfl) (by kernel_rfl) (by kernel_rfl) (fun _ _ _ h => h) (Or.inl ⟨by kernel_rfl, ?_⟩) (by assumption) ?_
            rotate_left
            · intro wv hSw
              obtain ⟨⟨s0, s1, s2, s3⟩, s4, s5⟩ := hSw
              go_simp
              try with_reducible rfl
            simp only [Act.put, List.setIfInBounds_toArray, List.set_cons_zero, List.set_cons_succ, List.getElem_toArray, List.getElem_cons_succ, List.getElem_cons_zero]
            refine wpAnyH_take (i := 16) (v := ?_) rfl (by kernel_rfl) (by kernel_rfl) (by kernel_rfl) (fun _ _ _ h => h) (Or.inl ⟨by kernel_rfl, ?_⟩) (by assumption) ?_
            rotate_left
            · intro wv hSw
              obtain ⟨⟨s0, s1, s2, s3⟩, s4, s5⟩ := hSw
              go_simp
              try with_reducible rfl
            simp only [Act.put, List.setIfInBounds_toArray, List.set_cons_zero, List.set_cons_succ, List.getElem_toArray, List.getElem_cons_succ, List.getElem_cons_zero]
            refine wpAnyH_take (i := 17) (v := ?_) rfl (by kernel_rfl) (by kernel_rfl) (by kernel_rfl) (fun _ _ _ h => h) (Or.inl ⟨by kernel_rfl, ?_⟩) (by assumption) ?_
            rotate_left
            · intro wv hSw
              obtain ⟨⟨s0, s1, s2, s3⟩, s4, s5⟩ := hSw
              go_simp
              try with_reducible rfl
            simp only [Act.put, List.setIfInBounds_toArray, List.set_cons_zero, List.set_cons_succ, List.getElem_toArray, List.getElem_cons_succ, List.getElem_cons_zero]
            refine wpAnyH_take (i := 18) (v := ?_) rfl (by kernel_rfl) (by kernel_rfl) (by kernel_rfl) (fun _ _ _ h => h) (Or.inl ⟨by kernel_rfl, ?_⟩) (by assumption) ?_
            rotate_left
            · intro wv hSw
              obtain ⟨⟨s0, s1, s2, s3⟩, s4, s5⟩ := hSw
              go_simp
              try with_reducible rfl
            simp only [Act.put, List.setIfInBounds_toArray, List.set_cons_zero, List.set_cons_succ, List.getElem_toArray, List.getElem_cons_succ, List.getElem_cons_zero]
            refine wpAnyH_take (i := 19) (v := ?_) rfl (by kernel_rfl) (by kernel_rfl) (by kernel_rfl) (fun _ _ _ h => h) (Or.inl ⟨by kernel_rfl, ?_⟩) (by assumption) ?_
            rotate_left
            · intro wv hSw
              obtain ⟨⟨s0, s1, s2, s3⟩, s4, s5⟩ := hSw
              go_simp
              try with_reducible rfl
            simp only [Act.put, List.setIfInBounds_toArray, List.set_cons_zero, List.set_cons_succ, List.getElem_toArray, List.getElem_cons_succ, List.getElem_cons_zero]
            refine wpAnyH_take (i := 20) (v := ?_) rfl (by kernel_rfl) (by kernel_rfl) (by kernel_rfl) (fun _ _ _ h => h) (Or.inl ⟨by kernel_rfl, ?_⟩) (by assumption) ?_
            rotate_left
            · intro wv hSw
              obtain ⟨⟨s0, s1, s2, s3⟩, s4, s5⟩ := hSw
              go_simp
              try with_reducible rfl
            simp only [Act.put, List.setIfInBounds_toArray, List.set_cons_zero, List.set_cons_succ, List.getElem_toArray, List.getElem_cons_succ, List.getElem_cons_zero]
            refine wpAnyH_take (i := 21) (v := ?_) rfl (by kernel_rfl) (by kernel_rfl) (by kernel_rfl) (fun _ _ _ h => h) (Or.inl ⟨by kernel_rfl, ?_⟩) (by assumption) ?_
            rotate_left
            · intro wv hSw
              obtain ⟨⟨s0, s1, s2, s3⟩, s4, s5⟩ := hSw
              go_simp
              try with_reducible rfl
            simp only [Act.put, List.setIfInBounds_toArray, List.set_cons_zero, List.set_cons_succ, List.getElem_toArray, List.getElem_cons_succ, List.getElem_cons_zero]
            refine wpAnyH_take (i := 22) (v := ?_) rfl (by kernel_rfl) (by kernel_rfl) (by kernel_rfl) (fun _ _ _ h => h) (Or.inl ⟨by kernel_rfl, ?_⟩) (by assumption) ?_
            rotate_left
            · intro wv hSw
              obtain ⟨⟨s0, s1, s2, s3⟩, s4, s5⟩ := hSw
              go_simp
              try with_reducible rfl
            simp only [Act.put, List.setIfInBounds_toArray, List.set_cons_zero, List.set_cons_succ, List.getElem_toArray, List.getElem_cons_succ, List.getElem_cons_zero]
            refine wpAnyH_take (i := 23) (v := ?_) rfl (by kernel_rfl) (by kernel_rfl) (by kernel_rfl) (fun _ _ _ h => h) (Or.inl ⟨by kernel_rfl, ?_⟩) (by assumption) ?_
            rotate_left
            · intro wv hSw
              obtain ⟨⟨s0, s1, s2, s3⟩, s4, s5⟩ := hSw
              go_simp
              try with_reducible rfl
            simp only [Act.put, List.setIfInBounds_toArray, List.set_cons_zero, List.set_cons_succ, List.getElem_toArray, List.getElem_cons_succ, List.getElem_cons_zero]
            refine wpAnyH_done (by kernel_rfl) ?_ _
            refine OnlyN.mk ?_
            have cR := HRR.out.cell
            have fR := HRR.out.frozen
            gi_wp2_with fail
            exact ⟨(KeepsFrom.of_grownBy HLdd.out.2.1 (fun j e => by cases e; exact hb6l)).trans ((KeepsOthers.setCell _ _ _).from _), rfl, ⟨pre, x, i, k, rfl, HS0.out.1, HADV.out, HFT.out⟩, HRR.out.set _, (below_grown HS0.out.2 HLdd.out.2.1 hwb6).setCell (p := ⟨w.heap.size, 0, none⟩) (Nat.le_refl _) _⟩
          · have HFT : Hid (fitsR M k x = true) := Lib.hid (by simp only [fitsR, HLO.out, HHI.out, Bool.and_eq_true, decide_eq_true_eq]; omega)
            refine wpIn_region_held (S := fun W => SR5 b6 b5 b1 (some ⟨g, off, none⟩) M.length cap3 k x W ∧ W.cell? ⟨g, off + k * 2, none⟩ = some (.int .u64 (lo : Nat)) ∧ W.cell? ⟨g, off + k * 2 + 1, none⟩ = some (.int .u64 (hi : Nat))) (by kernel_rfl) (by repeat' (first | exact calm_nil | refine calm_cons ?_ ?_ | exact calm_load | exact calm_len | exact calm_bin | exact calm_move | exact calm_pick | exact calm_fieldAddr | exact calm_indexAddr)) ?_ (fun hHeld => ?_)
            · exact HSdd.out
            refine wpAnyH_take (i := 0) (v := ?_) rfl (by kernel_rfl) (by kernel_rfl) (by kernel_rfl) (fun _ _ _ h => h) (Or.inl ⟨by kernel_rfl, ?_⟩) (by assumption) ?_
            rotate_left
            · intro wv hSw
              obtain ⟨⟨s0, s1, s2, s3⟩, s4, s5⟩ := hSw
              go_simp
              try with_reducible rfl
            simp only [Act.put, List.setIfInBounds_toArray, List.set_cons_zero, List.set_cons_succ, List.getElem_toArray, List.getElem_cons_succ, List.getElem_cons_zero]
            refine wpAnyH_take (i := 1) (v := ?_) rfl (by kernel_rfl) (by kernel_rfl) (by kernel_rfl) (fun _ _ _ h => h) (Or.inl ⟨by kernel_rfl, ?_⟩) (by assumption) ?_
            rotate_left
            · intro wv hSw
              obtain ⟨⟨s0, s1, s2, s3⟩, s4, s5⟩ := hSw
              go_simp
              try with_reducible rfl
            simp only [Act.put, List.setIfInBounds_toArray, List.set_cons_zero, List.set_cons_succ, List.getElem_toArray, List.getElem_cons_succ, List.getElem_cons_zero]
            refine wpAnyH_take (i := 2) (v := ?_) rfl (by kernel_rfl) (by kernel_rfl) (by kernel_rfl) (fun _ _ _ h => h) (Or.inl ⟨by kernel_rfl, ?_⟩) (by assumption) ?_
            rotate_left
            · intro wv hSw
              obtain ⟨⟨s0, s1, s2, s3⟩, s4, s5⟩ := hSw
              go_simp
              try with_reducible rfl
            simp only [Act.put, List.setIfInBounds_toArray, List.set_cons_zero, List.set_cons_succ, List.getElem_toArray, List.getElem_cons_succ, List.getElem_cons_zero]
            refine wpAnyH_take (i := 3) (v := ?_) rfl (by kernel_rfl) (by kernel_rfl) (by kernel_rfl) (fun _ _ _ h => h) (Or.inl ⟨by kernel_rfl, ?_⟩) (by assumption) ?_
            rotate_left
            · intro wv hSw
              obtain ⟨⟨s0, s1, s2, s3⟩, s4, s5⟩ := hSw
              go_simp
              try with_reducible rfl
            simp only [Act.put, List.setIfInBounds_toArray, List.set_cons_zero, List.set_cons_succ, List.getElem_toArray, List.getElem_cons_succ, List.getElem_cons_zero]
            refine wpAnyH_take (i := 4) (v := ?_) rfl (by kernel_rfl) (by kernel_rfl) (by kernel_rfl) (fun _ _ _ h => h) (Or.inl ⟨by kernel_rfl, ?_⟩) (by assumption) ?_
            rotate_left
            · intro wv hSw
              obtain ⟨⟨s0, s1, s2, s3⟩, s4, s5⟩ := hSw
              go_simp
              try with_reducible rfl
            simp only [Act.put, List.setIfInBounds_toArray, List.set_cons_zero, List.set_cons_succ, List.getElem_toArray, List.getElem_cons_succ, List.getElem_cons_zero]
            refine wpAnyH_take (i := 5) (v := ?_) rfl (by kernel_rfl) (by kernel_rfl) (by kernel_rfl) (fun _ _ _ h => h) (Or.inl ⟨by kernel_rfl, ?_⟩) (by assumption) ?_
            rotate_left
            · intro wv hSw
              obtain ⟨⟨s0, s1, s2, s3⟩, s4, s5⟩ := hSw
              go_simp
              try with_reducible rfl
            simp only [Act.put, List.setIfInBounds_toArray, List.set_cons_zero, List.set_cons_succ, List.getElem_toArray, List.getElem_cons_succ, List.getElem_cons_zero]
            refine wpAnyH_take (i := 6) (v := ?_) rfl (by kernel_rfl) (by kernel_rfl) (by kernel_rfl) (fun _ _ _ h => h) (Or.inl ⟨by kernel_rfl, ?_⟩) (by assumption) ?_
            rotate_left
            · intro wv hSw
              obtain ⟨⟨s0, s1, s2, s3⟩, s4, s5⟩ := hSw
              go_simp
              try with_reducible rfl
            simp only [Act.put, List.setIfInBounds_toArray, List.set_cons_zero, List.set_cons_succ, List.getElem_toArray, List.getElem_cons_succ, List.getElem_cons_zero]
            refine wpAnyH_take (i := 7) (v := ?_) rfl (by kernel_rfl) (by kernel_rfl) (by kernel_rfl) (fun _ _ _ h => h) (Or.inl ⟨by kernel_rfl, ?_⟩) (by assumption) ?_
            rotate_left
            · intro wv hSw
              obtain ⟨⟨s0, s1, s2, s3⟩, s4, s5⟩ := hSw
              go_simp
              try with_reducible rfl
            simp only [Act.put, List.setIfInBounds_toArray, List.set_cons_zero, List.set_cons_succ, List.getElem_toArray, List.getElem_cons_succ, List.getElem_cons_zero]
            refine wpAnyH_take (i := 8) (v := ?_) rfl (by kernel_rfl) (by kernel_rfl) (by kernel_rfl) (fun _ _ _ h => h) (Or.inl ⟨by kernel_rfl, ?_⟩) (by assumption) ?_
            rotate_left
            · intro wv hSw
              obtain ⟨⟨s0, s1, s2, s3⟩, s4, s5⟩ := hSw
              go_simp
              try with_reducible rfl
            simp only [Act.put, List.setIfInBounds_toArray, List.set_cons_zero, List.set_cons_succ, List.getElem_toArray, List.getElem_cons_succ, List.getElem_cons_zero]
            refine wpAnyH_take (i := 9) (v := ?_) rfl (by kernel_rfl) (by kernel_rfl) (by kernel_rfl) (fun _ _ _ h => h) (Or.inl ⟨by kernel_rfl, ?_⟩) (by assumption) ?_
            rotate_left
            · intro wv hSw
              obtain ⟨⟨s0, s1, s2, s3⟩, s4, s5⟩ := hSw
              go_simp
              try with_reducible rfl
            simp only [Act.put, List.setIfInBounds_toArray, List.set_cons_zero, List.set_cons_succ, List.getElem_toArray, List.getElem_cons_succ, List.getElem_cons_zero]
            refine wpAnyH_take (i := 10) (v := ?_) rfl (by kernel_rfl) (by kernel_rfl) (by kernel_rfl) (fun _ _ _ h => h) (Or.inl ⟨by kernel_rfl, ?_⟩) (by assumption) ?_
            rotate_left
            · intro wv hSw
              obtain ⟨⟨s0, s1, s2, s3⟩, s4, s5⟩ := hSw
              go_simp
              try with_reducible rfl
            simp only [Act.put, List.setIfInBounds_toArray, List.set_cons_zero, List.set_cons_succ, List.getElem_toArray, List.getElem_cons_succ, List.getElem_cons_zero]
            refine wpAnyH_take (i := 11) (v := ?_) rfl (by kernel_rfl) (by kernel_rfl) (by kernel_rfl) (fun _ _ _ h => h) (Or.inl ⟨by kernel_rfl, ?_⟩) (by assumption) ?_
            rotate_left
            · intro wv hSw
              obtain ⟨⟨s0, s1, s2, s3⟩, s4, s5⟩ := hSw
              go_simp
              try with_reducible rfl
            simp only [Act.put, List.setIfInBounds_toArray, List.set_cons_zero, List.set_cons_succ, List.getElem_toArray, List.getElem_cons_succ, List.getElem_cons_zero]
            refine wpAnyH_take (i := 12) (v := ?_) rfl (by kernel_rfl) (by kernel_rfl) (by kernel_rfl) (fun _ _ _ h => h) (Or.inl ⟨by kernel_rfl, ?_⟩) (by assumption) ?_
            rotate_left
            · intro wv hSw
              obtain ⟨⟨s0, s1, s2, s3⟩, s4, s5⟩ := hSw
              go_simp
              try with_reducible rfl
            simp only [Act.put, List.setIfInBounds_toArray, List.set_cons_zero, List.set_cons_succ, List.getElem_toArray, List.getElem_cons_succ, List.getElem_cons_zero]
            refine wpAnyH_take (i := 13) (v := ?_) rfl (by kernel_rfl) (by kernel_rfl) (by kernel_rfl) (fun _ _ _ h => h) (Or.inl ⟨by kernel_rfl, ?_⟩) (by assumption) ?_
            rotate_left
            · intro wv hSw
              obtain ⟨⟨s0, s1, s2, s3⟩, s4, s5⟩ := hSw
              go_simp
              try with_reducible rfl
            simp only [Act.put, List.setIfInBounds_toArray, List.set_cons_zero, List.set_cons_succ, List.getElem_toArray, List.getElem_cons_succ, List.getElem_cons_zero]
            refine wpAnyH_take (i := 14) (v := ?_) rfl (by kernel_rfl) (by kernel_rfl) (by kernel_rfl) (fun _ _ _ h => h) (Or.inl ⟨by kernel_rfl, ?_⟩) (by assumption) ?_
            rotate_left
            · intro wv hSw
              obtain ⟨⟨s0, s1, s2, s3⟩, s4, s5⟩ := hSw
              go_simp
              try with_reducible rfl
            simp only [Act.put, List.setIfInBounds_toArray, List.set_cons_zero, List.set_cons_succ, List.getElem_toArray, List.getElem_cons_succ, List.getElem_cons_zero]
            refine wpAnyH_take (i := 15) (v := ?_) rfl (by kernel_rfl) (by kernel_rfl) (by kernel_rfl) (fun _ _ _ h => h) (Or.inl ⟨by kernel_rfl, ?_⟩) (by assumption) ?_
            rotate_left
            · intro wv hSw
              obtain ⟨⟨s0, s1, s2, s3⟩, s4, s5⟩ := hSw
              go_simp
              try with_reducible rfl
            simp only [Act.put, List.setIfInBounds_toArray, List.set_cons_zero, List.set_cons_succ, List.getElem_toArray, List.getElem_cons_succ, List.getElem_cons_zero]
            refine wpAnyH_take (i := 16) (v := ?_) rfl (by kernel_rfl) (by kernel_rfl) (by kernel_rfl) (fun _ _ _ h => h) (Or.inl ⟨by kernel_rfl, ?_⟩) (by assumption) ?_
            rotate_left
            · intro wv hSw
              obtain ⟨⟨s0, s1, s2, s3⟩, s4, s5⟩ := hSw
              go_simp
              try with_reducible rfl
            simp only [Act.put, List.setIfInBounds_toArray, List.set_cons_zero, List.set_cons_succ, List.getElem_toArray, List.getElem_cons_succ, List.getElem_cons_zero]
            refine wpAnyH_take (i := 17) (v := ?_) rfl (by kernel_rfl) (by kernel_rfl) (by kernel_rfl) (fun _ _ _ h => h) (Or.inl ⟨by kernel_rfl, ?_⟩) (by assumption) ?_
            rotate_left
            · intro wv hSw
              obtain ⟨⟨s0, s1, s2, s3⟩, s4, s5⟩ := hSw
              go_simp
              try with_reducible rfl
            simp only [Act.put, List.setIfInBounds_toArray, List.set_cons_zero, List.set_cons_succ, List.getElem_toArray, List.getElem_cons_succ, List.getElem_cons_zero]
            refine wpAnyH_take (i := 18) (v := ?_) rfl (by kernel_rfl) (by kernel_rfl) (by kernel_rfl) (fun _ _ _ h => h) (Or.inl ⟨by kernel_rfl, ?_⟩) (by assumption) ?_
            rotate_left
            · intro wv hSw
              obtain ⟨⟨s0, s1, s2, s3⟩, s4, s5⟩ := hSw
              go_simp
              try with_reducible rfl
            simp only [Act.put, List.setIfInBounds_toArray, List.set_cons_zero, List.set_cons_succ, List.getElem_toArray, List.getElem_cons_succ, List.getElem_cons_zero]
            refine wpAnyH_take (i := 19) (v := ?_) rfl (by kernel_rfl) (by kernel_rfl) (by kernel_rfl) (fun _ _ _ h => h) (Or.inl ⟨by kernel_rfl, ?_⟩) (by assumption) ?_
            rotate_left
            · intro wv hSw
              obtain ⟨⟨s0, s1, s2, s3⟩, s4, s5⟩ := hSw
              go_simp
              try with_reducible rfl
            simp only [Act.put, List.setIfInBounds_toArray, List.set_cons_zero, List.set_cons_succ, List.getElem_toArray, List.getElem_cons_succ, List.getElem_cons_zero]
            refine wpAnyH_take (i := 20) (v := ?_) rfl (by kernel_rfl) (by kernel_rfl) (by kernel_rfl) (fun _ _ _ h => h) (Or.inl ⟨by kernel_rfl, ?_⟩) (by assumption) ?_
            rotate_left
            · intro wv hSw
              obtain ⟨⟨s0, s1, s2, s3⟩, s4, s5⟩ := hSw
              go_simp
              try with_reducible rfl
            simp only [Act.put, List.setIfInBounds_toArray, List.set_cons_zero, List.set_cons_succ, List.getElem_toArray, List.getElem_cons_succ, List.getElem_cons_zero]
            refine wpAnyH_take (i := 21) (v := ?_) rfl (by kernel_rfl) (by kernel_rfl) (by kernel_rfl) (fun _ _ _ h => h) (Or.inl ⟨by kernel_rfl, ?_⟩) (by assumption) ?_
            rotate_left
            · intro wv hSw
              obtain ⟨⟨s0, s1, s2, s3⟩, s4, s5⟩ := hSw
              go_simp
              try with_reducible rfl
            simp only [Act.put, List.setIfInBounds_toArray, List.set_cons_zero, List.set_cons_succ, List.getElem_toArray, List.getElem_cons_succ, List.getElem_cons_zero]
            refine wpAnyH_take (i := 22) (v := ?_) rfl (by kernel_rfl) (by kernel_rfl) (by kernel_rfl) (fun _ _ _ h => h) (Or.inl ⟨by kernel_rfl, ?_⟩) (by assumption) ?_
            rotate_left
            · intro wv hSw
              obtain ⟨⟨s0, s1, s2, s3⟩, s4, s5⟩ := hSw
              go_simp
              try with_reducible rfl
            simp only [Act.put, List.setIfInBounds_toArray, List.set_cons_zero, List.set_cons_succ, List.getElem_toArray, List.getElem_cons_succ, List.getElem_cons_zero]
            refine wpAnyH_take (i := 23) (v := ?_) rfl (by kernel_rfl) (by kernel_rfl) (by kernel_rfl) (fun _ _ _ h => h) (Or.inl ⟨by kernel_rfl, ?_⟩) (by assumption) ?_
            rotate_left
            · intro wv hSw
              obtain ⟨⟨s0, s1, s2, s3⟩, s4, s5⟩ := hSw
              go_simp
              try with_reducible rfl
            simp only [Act.put, List.setIfInBounds_toArray, List.set_cons_zero, List.set_cons_succ, List.getElem_toArray, List.getElem_cons_succ, List.getElem_cons_zero]
            refine wpAnyH_done (by kernel_rfl) ?_ _
            refine OnlyN.mk ?_
            gi_wp2_with fail
            exact ⟨KeepsFrom.of_grownBy HLdd.out.2.1 (fun j e => by cases e; exact hb6l), ⟨HLdd.out.2.1.size, fun q e hq => HLdd.out.2.1.block q hq (fun e2 => (HQ.out.2.2.2.2 q e).2 (by cases e2; rfl))⟩, ⟨⟨k, .snoc HS0.out.1 HADV.out HFT.out, HLdd.out.1⟩, HLdd.out.2.2.1, below_grown HS0.out.2 HLdd.out.2.1 hwb6⟩⟩
      · have hk : k = M.length := by omega
        have hd0 : ((k : Int) == (M.length : Int)) = true := by simp; omega
        have HSd : Hid (SR5 b6 b5 b1 a3 M.length cap3 k x wr.drew) := Lib.hid (HLd.out.s HPP.out.2.1 h56)
        gi_wp2_with fail
        refine wpIn_region_held (S := fun W => SR5 b6 b5 b1 a3 M.length cap3 k x W) (by kernel_rfl) (by repeat' (first | exact calm_nil | refine calm_cons ?_ ?_ | exact calm_load | exact calm_len | exact calm_bin | exact calm_move | exact calm_pick | exact calm_fieldAddr | exact calm_indexAddr)) ?_ (fun hHeld => ?_)
        · exact HSd.out
        refine wpAnyH_take (i := 0) (v := ?_) rfl (by kernel_rfl) (by kernel_rfl) (by kernel_rfl) (fun _ _ _ h => h) (Or.inl ⟨by kernel_rfl, ?_⟩) (by assumption) ?_
        rotate_left
        · intro wv hSw
          obtain ⟨s0, s1, s2, s3⟩ := hSw
          go_simp
          try with_reducible rfl
        simp only [Act.put, List.setIfInBounds_toArray, List.set_cons_zero, List.set_cons_succ, List.getElem_toArray, List.getElem_cons_succ, List.getElem_cons_zero]
        refine wpAnyH_take (i := 1) (v := ?_) rfl (by kernel_rfl) (by kernel_rfl) (by kernel_rfl) (fun _ _ _ h => h) (Or.inl ⟨by kernel_rfl, ?_⟩) (by assumption) ?_
        rotate_left
        · intro wv hSw
          obtain ⟨s0, s1, s2, s3⟩ := hSw
          go_simp
          try with_reducible rfl
        simp only [Act.put, List.setIfInBounds_toArray, List.set_cons_zero, List.set_cons_succ, List.getElem_toArray, List.getElem_cons_succ, List.getElem_cons_zero]
        refine wpAnyH_take (i := 2) (v := ?_) rfl (by kernel_rfl) (by kernel_rfl) (by kernel_rfl) (fun _ _ _ h => h) (Or.inl ⟨by kernel_rfl, ?_⟩) (by assumption) ?_
        rotate_left
        · intro wv hSw
          obtain ⟨s0, s1, s2, s3⟩ := hSw
          go_simp
          try with_reducible rfl
        simp only [Act.put, List.setIfInBounds_toArray, List.set_cons_zero, List.set_cons_succ, List.getElem_toArray, List.getElem_cons_succ, List.getElem_cons_zero]
        refine wpAnyH_take (i := 3) (v := ?_) rfl (by kernel_rfl) (by kernel_rfl) (by kernel_rfl) (fun _ _ _ h => h) (Or.inl ⟨by kernel_rfl, ?_⟩) (by assumption) ?_
        rotate_left
        · intro wv hSw
          obtain ⟨s0, s1, s2, s3⟩ := hSw
          go_simp
          try with_reducible rfl
        simp only [Act.put, List.setIfInBounds_toArray, List.set_cons_zero, List.set_cons_succ, List.getElem_toArray, List.getElem_cons_succ, List.getElem_cons_zero]
        refine wpAnyH_take (i := 4) (v := ?_) rfl (by kernel_rfl) (by kernel_rfl) (by kernel_rfl) (fun _ _ _ h => h) (Or.inl ⟨by kernel_rfl, ?_⟩) (by assumption) ?_
        rotate_left
        · intro wv hSw
          obtain ⟨s0, s1, s2, s3⟩ := hSw
          go_simp
          try with_reducible rfl
        simp only [Act.put, List.setIfInBounds_toArray, List.set_cons_zero, List.set_cons_succ, List.getElem_toArray, List.getElem_cons_succ, List.getElem_cons_zero]
        refine wpAnyH_take (i := 5) (v := undef) rfl (by kernel_rfl) (by kernel_rfl) (by kernel_rfl) (fun _ _ _ h => h) (Or.inr ⟨by kernel_rfl, rfl⟩) (by assumption) ?_
        simp only [Act.put, List.setIfInBounds_toArray, List.set_cons_zero, List.set_cons_succ, List.getElem_toArray, List.getElem_cons_succ, List.getElem_cons_zero]
        refine wpAnyH_take (i := 6) (v := undef) rfl (by kernel_rfl) (by kernel_rfl) (by kernel_rfl) (fun _ _ _ h => h) (Or.inr ⟨by kernel_rfl, rfl⟩) (by assumption) ?_
        simp only [Act.put, List.setIfInBounds_toArray, List.set_cons_zero, List.set_cons_succ, List.getElem_toArray, List.getElem_cons_succ, List.getElem_cons_zero]
        refine wpAnyH_take (i := 7) (v := undef) rfl (by kernel_rfl) (by kernel_rfl) (by kernel_rfl) (fun _ _ _ h => h) (Or.inr ⟨by kernel_rfl, rfl⟩) (by assumption) ?_
        simp only [Act.put, List.setIfInBounds_toArray, List.set_cons_zero, List.set_cons_succ, List.getElem_toArray, List.getElem_cons_succ, List.getElem_cons_zero]
        refine wpAnyH_take (i := 8) (v := undef) rfl (by kernel_rfl) (by kernel_rfl) (by kernel_rfl) (fun _ _ _ h => h) (Or.inr ⟨by kernel_rfl, rfl⟩) (by assumption) ?_
        simp only [Act.put, List.setIfInBounds_toArray, List.set_cons_zero, List.set_cons_succ, List.getElem_toArray, List.getElem_cons_succ, List.getElem_cons_zero]
        refine wpAnyH_take (i := 9) (v := undef) rfl (by kernel_rfl) (by kernel_rfl) (by kernel_rfl) (fun _ _ _ h => h) (Or.inr ⟨by kernel_rfl, rfl⟩) (by assumption) ?_
        simp only [Act.put, List.setIfInBounds_toArray, List.set_cons_zero, List.set_cons_succ, List.getElem_toArray, List.getElem_cons_succ, List.getElem_cons_zero]
        refine wpAnyH_take (i := 10) (v := undef) rfl (by kernel_rfl) (by kernel_rfl) (by kernel_rfl) (fun _ _ _ h => h) (Or.inr ⟨by kernel_rfl, rfl⟩) (by assumption) ?_
        simp only [Act.put, List.setIfInBounds_toArray, List.set_cons_zero, List.set_cons_succ, List.getElem_toArray, List.getElem_cons_succ, List.getElem_cons_zero]
        refine wpAnyH_take (i := 11) (v := undef) rfl (by kernel_rfl) (by kernel_rfl) (by kernel_rfl) (fun _ _ _ h => h) (Or.inr ⟨by kernel_rfl, rfl⟩) (by assumption) ?_
        simp only [Act.put, List.setIfInBounds_toArray, List.set_cons_zero, List.set_cons_succ, List.getElem_toArray, List.getElem_cons_succ, List.getElem_cons_zero]
        refine wpAnyH_take (i := 12) (v := undef) rfl (by kernel_rfl) (by kernel_rfl) (by kernel_rfl) (fun _ _ _ h => h) (Or.inr ⟨by kernel_rfl, rfl⟩) (by assumption) ?_
        simp only [Act.put, List.setIfInBounds_toArray, List.set_cons_zero, List.set_cons_succ, List.getElem_toArray, List.getElem_cons_succ, List.getElem_cons_zero]
        refine wpAnyH_take (i := 13) (v := ?_) rfl (by kernel_rfl) (by kernel_rfl) (by kernel_rfl) (fun _ _ _ h => h) (Or.inl ⟨by kernel_rfl, ?_⟩) (by assumption) ?_
        rotate_left
        · intro wv hSw
          obtain ⟨s0, s1, s2, s3⟩ := hSw
          go_simp
          try with_reducible rfl
        simp only [Act.put, List.setIfInBounds_toArray, List.set_cons_zero, List.set_cons_succ, List.getElem_toArray, List.getElem_cons_succ, List.getElem_cons_zero]
        refine wpAnyH_done (by kernel_rfl) ?_ _
        refine OnlyN.mk ?_
        gi_wp2_with fail
        have HLdd := Lib.hid HLd.out.drew
        have HRR : Hid (Boxed wr.drew.drew w.heap.size 4 (.bool false)) := Lib.hid ((HLdd.out.2.2.1.2 _ (Array.getElem?_eq_some_iff.1 HPP.out.1).1 hR6).trans HPP.out.1)
        have HSdd : Hid (SR5 b6 b5 b1 a3 M.length cap3 k x wr.drew.drew) := HSd
        clear HSd
        have HADV : Hid (Adv M x.1 i k) := Lib.hid ⟨hik, hkm, HA.out, fun h => absurd h hlt⟩
        have HFT : Hid (fitsR M k x = false) := Lib.hid (by simp only [fitsR, decide_eq_false hlt, Bool.false_and])
        refine wpIn_region_held (S := fun W => SR5 b6 b5 b1 a3 M.length cap3 k x W) (by kernel_rfl) (by repeat' (first | exact calm_nil | refine calm_cons ?_ ?_ | exact calm_load | exact calm_len | exact calm_bin | exact calm_move | exact calm_pick | exact calm_fieldAddr | exact calm_indexAddr)) ?_ (fun hHeld => ?_)
        · exact HSdd.out
        refine wpAnyH_take (i := 0) (v := ?_) rfl (by kernel_rfl) (by kernel_rfl) (by kernel_rfl) (fun _ _ _ h => h) (Or.inl ⟨by kernel_rfl, ?_⟩) (by assumption) ?_
        rotate_left
        · intro wv hSw
          obtain ⟨s0, s1, s2, s3⟩ := hSw
          go_simp
          try with_reducible rfl
        simp only [Act.put, List.setIfInBounds_toArray, List.set_cons_zero, List.set_cons_succ, List.getElem_toArray, List.getElem_cons_succ, List.getElem_cons_zero]
        refine wpAnyH_take (i := 1) (v := ?_) rfl (by kernel_rfl) (by kernel_rfl) (by kernel_rfl) (fun _ _ _ h => h) (Or.inl ⟨by kernel_rfl, ?_⟩) (by assumption) ?_
        rotate_left
        · intro wv hSw
          obtain ⟨s0, s1, s2, s3⟩ := hSw
          go_simp
          try with_reducible rfl
        simp only [Act.put, List.setIfInBounds_toArray, List.set_cons_zero, List.set_cons_succ, List.getElem_toArray, List.getElem_cons_succ, List.getElem_cons_zero]
        refine wpAnyH_take (i := 2) (v := ?_) rfl (by kernel_rfl) (by kernel_rfl) (by kernel_rfl) (fun _ _ _ h => h) (Or.inl ⟨by kernel_rfl, ?_⟩) (by assumption) ?_
        rotate_left
        · intro wv hSw
          obtain ⟨s0, s1, s2, s3⟩ := hSw
          go_simp
          try with_reducible rfl
        simp only [Act.put, List.setIfInBounds_toArray, List.set_cons_zero, List.set_cons_succ, List.getElem_toArray, List.getElem_cons_succ, List.getElem_cons_zero]
        refine wpAnyH_take (i := 3) (v := ?_) rfl (by kernel_rfl) (by kernel_rfl) (by kernel_rfl) (fun _ _ _ h => h) (Or.inl ⟨by kernel_rfl, ?_⟩) (by assumption) ?_
        rotate_left
        · intro wv hSw
          obtain ⟨s0, s1, s2, s3⟩ := hSw
          go_simp
          try with_reducible rfl
        simp only [Act.put, List.setIfInBounds_toArray, List.set_cons_zero, List.set_cons_succ, List.getElem_toArray, List.getElem_cons_succ, List.getElem_cons_zero]
        refine wpAnyH_take (i := 4) (v := ?_) rfl (by kernel_rfl) (by kernel_rfl) (by kernel_rfl) (fun _ _ _ h => h) (Or.inl ⟨by kernel_rfl, ?_⟩) (by assumption) ?_
        rotate_left
        · intro wv hSw
          obtain ⟨s0, s1, s2, s3⟩ := hSw
          go_simp
          try with_reducible rfl
        simp only [Act.put, List.setIfInBounds_toArray, List.set_cons_zero, List.set_cons_succ, List.getElem_toArray, List.getElem_cons_succ, List.getElem_cons_zero]
        refine wpAnyH_take (i := 5) (v := undef) rfl (by kernel_rfl) (by kernel_rfl) (by kernel_rfl) (fun _ _ _ h => h) (Or.inr ⟨by kernel_rfl, rfl⟩) (by assumption) ?_
        simp only [Act.put, List.setIfInBounds_toArray, List.set_cons_zero, List.set_cons_succ, List.getElem_toArray, List.getElem_cons_succ, List.getElem_cons_zero]
        refine wpAnyH_take (i := 6) (v := undef) rfl (by kernel_rfl) (by kernel_rfl) (by kernel_rfl) (fun _ _ _ h => h) (Or.inr ⟨by kernel_rfl, rfl⟩) (by assumption) ?_
        simp only [Act.put, List.setIfInBounds_toArray, List.set_cons_zero, List.set_cons_succ, List.getElem_toArray, List.getElem_cons_succ, List.getElem_cons_zero]
        refine wpAnyH_take (i := 7) (v := undef) rfl (by kernel_rfl) (by kernel_rfl) (by kernel_rfl) (fun _ _ _ h => h) (Or.inr ⟨by kernel_rfl, rfl⟩) (by assumption) ?_
        simp only [Act.put, List.setIfInBounds_toArray, List.set_cons_zero, List.set_cons_succ, List.getElem_toArray, List.getElem_cons_succ, List.getElem_cons_zero]
        refine wpAnyH_take (i := 8) (v := undef) rfl (by kernel_rfl) (by kernel_rfl) (by kernel_rfl) (fun _ _ _ h => h) (Or.inr ⟨by kernel_rfl, rfl⟩) (by assumption) ?_
        simp only [Act.put, List.setIfInBounds_toArray, List.set_cons_zero, List.set_cons_succ, List.getElem_toArray, List.getElem_cons_succ, List.getElem_cons_zero]
        refine wpAnyH_take (i := 9) (v := undef) rfl (by kernel_rfl) (by kernel_rfl) (by kernel_rfl) (fun _ _ _ h => h) (Or.inr ⟨by kernel_rfl, rfl⟩) (by assumption) ?_
        simp only [Act.put, List.setIfInBounds_toArray, List.set_cons_zero, List.set_cons_succ, List.getElem_toArray, List.getElem_cons_succ, List.getElem_cons_zero]
        refine wpAnyH_take (i := 10) (v := undef) rfl (by kernel_rfl) (by kernel_rfl) (by kernel_rfl) (fun _ _ _ h => h) (Or.inr ⟨by kernel_rfl, rfl⟩) (by assumption) ?_
        simp only [Act.put, List.setIfInBounds_toArray, List.set_cons_zero, List.set_cons_succ, List.getElem_toArray, List.getElem_cons_succ, List.getElem_cons_zero]
        refine wpAnyH_take (i := 11) (v := undef) rfl (by kernel_rfl) (by kernel_rfl) (by kernel_rfl) (fun _ _ _ h => h) (Or.inr ⟨by kernel_rfl, rfl⟩) (by assumption) ?_
        simp only [Act.put, List.setIfInBounds_toArray, List.set_cons_zero, List.set_cons_succ, List.getElem_toArray, List.getElem_cons_succ, List.getElem_cons_zero]
        refine wpAnyH_take (i := 12) (v := undef) rfl (by kernel_rfl) (by kernel_rfl) (by kernel_rfl) (fun _ _ _ h => h) (Or.inr ⟨by kernel_rfl, rfl⟩) (by assumption) ?_
        simp only [Act.put, List.setIfInBounds_toArray, List.set_cons_zero, List.set_cons_succ, List.getElem_toArray, List.getElem_cons_succ, List.getElem_cons_zero]
        refine wpAnyH_take (i := 13) (v := ?_) rfl (by kernel_rfl) (by kernel_rfl) (by kernel_rfl) (fun _ _ _ h => h) (Or.inl ⟨by kernel_rfl, ?_⟩) (by assumption) ?_
        rotate_left
        · intro wv hSw
          obtain ⟨s0, s1, s2, s3⟩ := hSw
          go_simp
          try with_reducible rfl
        simp only [Act.put, List.setIfInBounds_toArray, List.set_cons_zero, List.set_cons_succ, List.getElem_toArray, List.getElem_cons_succ, List.getElem_cons_zero]
        refine wpAnyH_take (i := 14) (v := ?_) rfl (by kernel_rfl) (by kernel_rfl) (by kernel_rfl) (fun _ _ _ h => h) (Or.inl ⟨by kernel_rfl, ?_⟩) (by assumption) ?_
        rotate_left
        · intro wv hSw
          obtain ⟨s0, s1, s2, s3⟩ := hSw
          go_simp
          try with_reducible rfl
        simp only [Act.put, List.setIfInBounds_toArray, List.set_cons_zero, List.set_cons_succ, List.getElem_toArray, List.getElem_cons_succ, List.getElem_cons_zero]
        refine wpAnyH_take (i := 15) (v := undef) rfl (by kernel_rfl) (by kernel_rfl) (by kernel_rfl) (fun _ _ _ h => h) (Or.inr ⟨by kernel_rfl, rfl⟩) (by assumption) ?_
        simp only [Act.put, List.setIfInBounds_toArray, List.set_cons_zero, List.set_cons_succ, List.getElem_toArray, List.getElem_cons_succ, List.getElem_cons_zero]
        refine wpAnyH_take (i := 16) (v := undef) rfl (by kernel_rfl) (by kernel_rfl) (by kernel_rfl) (fun _ _ _ h => h) (Or.inr ⟨by kernel_rfl, rfl⟩) (by assumption) ?_
        simp only [Act.put, List.setIfInBounds_toArray, List.set_cons_zero, List.set_cons_succ, List.getElem_toArray, List.getElem_cons_succ, List.getElem_cons_zero]
        refine wpAnyH_take (i := 17) (v := undef) rfl (by kernel_rfl) (by kernel_rfl) (by kernel_rfl) (fun _ _ _ h => h) (Or.inr ⟨by kernel_rfl, rfl⟩) (by assumption) ?_
        simp only [Act.put, List.setIfInBounds_toArray, List.set_cons_zero, List.set_cons_succ, List.getElem_toArray, List.getElem_cons_succ, List.getElem_cons_zero]
        refine wpAnyH_take (i := 18) (v := undef) rfl (by kernel_rfl) (by kernel_rfl) (by kernel_rfl) (fun _ _ _ h => h) (Or.inr ⟨by kernel_rfl, rfl⟩) (by assumption) ?_
        simp only [Act.put, List.setIfInBounds_toArray, List.set_cons_zero, List.set_cons_succ, List.getElem_toArray, List.getElem_cons_succ, List.getElem_cons_zero]
        refine wpAnyH_take (i := 19) (v := undef) rfl (by kernel_rfl) (by kernel_rfl) (by kernel_rfl) (fun _ _ _ h => h) (Or.inr ⟨by kernel_rfl, rfl⟩) (by assumption) ?_
        simp only [Act.put, List.setIfInBounds_toArray, List.set_cons_zero, List.set_cons_succ, List.getElem_toArray, List.getElem_cons_succ, List.getElem_cons_zero]
        refine wpAnyH_take (i := 20) (v := undef) rfl (by kernel_rfl) (by kernel_rfl) (by kernel_rfl) (fun _ _ _ h => h) (Or.inr ⟨by kernel_rfl, rfl⟩) (by assumption) ?_
        simp only [Act.put, List.setIfInBounds_toArray, List.set_cons_zero, List.set_cons_succ, List.getElem_toArray, List.getElem_cons_succ, List.getElem_cons_zero]
        refine wpAnyH_take (i := 21) (v := undef) rfl (by kernel_rfl) (by kernel_rfl) (by kernel_rfl) (fun _ _ _ h => h) (Or.inr ⟨by kernel_rfl, rfl⟩) (by assumption) ?_
        simp only [Act.put, List.setIfInBounds_toArray, List.set_cons_zero, List.set_cons_succ, List.getElem_toArray, List.getElem_cons_succ, List.getElem_cons_zero]
        refine wpAnyH_take (i := 22) (v := undef) rfl (by kernel_rfl) (by kernel_rfl) (by kernel_rfl) (fun _ _ _ h => h) (Or.inr ⟨by kernel_rfl, rfl⟩) (by assumption) ?_
        simp only [Act.put, List.setIfInBounds_toArray, List.set_cons_zero, List.set_cons_succ, List.getElem_toArray, List.getElem_cons_succ, List.getElem_cons_zero]
        refine wpAnyH_take (i := 23) (v := ?_) rfl (by kernel_rfl) (by kernel_rfl) (by kernel_rfl) (fun _ _ _ h => h) (Or.inl ⟨by kernel_rfl, ?_⟩) (by assumption) ?_
        rotate_left
        · intro wv hSw
          obtain ⟨s0, s1, s2, s3⟩ := hSw
          go_simp
          try with_reducible rfl
        simp only [Act.put, List.setIfInBounds_toArray, List.set_cons_zero, List.set_cons_succ, List.getElem_toArray, List.getElem_cons_succ, List.getElem_cons_zero]
        refine wpAnyH_done (by kernel_rfl) ?_ _
        refine OnlyN.mk ?_
        have cR := HRR.out.cell
        have fR := HRR.out.frozen
        gi_wp2_with fail
        exact ⟨(KeepsFrom.of_grownBy HLdd.out.2.1 (fun j e => by cases e; exact hb6l)).trans ((KeepsOthers.setCell _ _ _).from _), rfl, ⟨pre, x, i, k, rfl, HS0.out.1, HADV.out, HFT.out⟩, HRR.out.set _, (below_grown HS0.out.2 HLdd.out.2.1 hwb6).setCell (p := ⟨w.heap.size, 0, none⟩) (Nat.le_refl _) _⟩
  case done =>
    rintro D ys W hD hys hI hK
    subst hys
    obtain ⟨⟨i, hin, hbi⟩, hkx, hB⟩ := hI
    have HRW : Hid (Boxed W w.heap.size 4 (.bool false)) := Lib.hid ((hkx.2 _ (Array.getElem?_eq_some_iff.1 HPP.out.1).1 hR6).trans HPP.out.1)
    have hRl := (Array.getElem?_eq_some_iff.1 HPP.out.1).1
    have hK9 : (W.setCell ⟨w.heap.size, 0, none⟩ (.bool true)).heap[D]? = some (.deferred (some [])) := (Below.heap_setCell W ⟨w.heap.size, 0, none⟩ _ D (fun e => by dsimp only at e; omega)).trans hK
    have HK := Lib.hid hK9
    have HB : Hid (Below w.heap.size w (W.setCell ⟨w.heap.size, 0, none⟩ (.bool true))) := Lib.hid (hB.setCell (p := ⟨w.heap.size, 0, none⟩) (Nat.le_refl _) _)
    have hfin : subB zs z2 true := ⟨fun _ a h => by
      rw [← HM.out.2.1.has a]
      exact in_yes HQ.out.2.2.1.right hin a (by rw [HQ.out.2.2.1.has a]; exact h), fun _ => rfl⟩
    have HF := Lib.hid hfin
    have cR := HRW.out.cell
    have fR := HRW.out.frozen
    have HR9 := Lib.hid (HRW.out.set (.bool true))
    clear hin hbi hkx hB hK hK9 hfin
    go_wp2_with fail
    show bodyPostM Fence.wide 5 Try.prog Try.f21 _ Exit.ret _ _
    refine ⟨by simp, .inl ⟨_, _, rfl, run_takeDeferred HK.out, ?_⟩⟩
    exact ⟨_, res21 (t := true) rfl ((World.putObj_heap_other (show w.heap.size ≠ D by omega)).trans HR9.out), true, rfl, HF.out, HB.out.trans (belowK_b (w := w) (Nat.le_refl _) _ D _ _ (by omega) HK.out rfl rfl)⟩
  case stop =>
    rintro D c pre W hD hS ⟨rfl, hno, hbx, hB⟩ hK
    have HK := Lib.hid hK
    have HB := Lib.hid hB
    have hRl := (Array.getElem?_eq_some_iff.1 HPP.out.1).1
    have hfin : subB zs z2 false := ⟨(fun e => by cases e), fun h => absurd (fun a ha => by
      rw [HM.out.2.1.has a]
      exact h a (by rw [← HQ.out.2.2.1.has a]; exact ha)) (in_no HM.out.2.1.right HQ.out.2.2.1.right hS hno)⟩
    have HF := Lib.hid hfin
    have HR9 := Lib.hid hbx
    clear hno hbx hB hK hfin
    refine wpIn_wide.2 ?_
    go_wp2_with fail
    show bodyPostM Fence.wide 5 Try.prog Try.f21 _ Exit.ret _ _
    refine ⟨by simp, .inl ⟨_, _, rfl, run_takeDeferred HK.out, ?_⟩⟩
    exact ⟨_, res21 (t := false) rfl ((World.putObj_heap_other (show w.heap.size ≠ D by omega)).trans HR9.out), false, rfl, HF.out, HB.out.trans (belowK_b (w := w) (Nat.le_refl _) W D _ _ (by omega) HK.out rfl rfl)⟩
end Go.Proofs.Ytaaflkjdcablcaa
