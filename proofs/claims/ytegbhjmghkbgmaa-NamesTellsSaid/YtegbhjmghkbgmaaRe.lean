/- names.Read: what its loop keeps. -/
import Derived.Test.YtegbhjmghkbgmaaRb
namespace Go.Proofs.Ytegbhjmghkbgmaa
open Go.RowKit Go.Shelf
set_option linter.unusedVariables false
set_option linter.unusedSimpArgs false
attribute [local go_sem] Oper.semAt_some
/-- Whatever order comes up; behind each operation but number z, S holds. -/
def wpAnyZ (P : Program) (md : Region.Mode) (ops : Array Oper) (Q : Exit → Act → World → Prop) (S : World → Prop) (z : Nat) : Nat → Array Bool → Act → World → Prop
  | 0, L, a, w => Region.ready md ops L = [] ∧ Q .normal a w
  | k + 1, L, a, w => (Region.ready md ops L = [] → Q .normal a w) ∧ ∀ i, i ∈ Region.ready md ops L → wpOp P ops Q i (fun a' w' => (i ≠ z → S w') ∧ wpAnyZ P md ops Q S z k (L.setIfInBounds i true) a' w') a w
/-- Does operation z wait for operation i? -/
def waitsB (md : Region.Mode) (ops : Array Oper) (z i : Nat) : Bool := match ops[z]? with | some o => o.after.any fun e => Region.binds md e && e.on == i | none => false
theorem unlisted_of_ready {md : Region.Mode} {ops : Array Oper} {L : Array Bool} {i j : Nat} {oj : Oper} (hi : i ∈ Region.ready md ops L) (hj : j ∈ Region.ready md ops L) (ho : ops[j]? = some oj) : ∀ e, e ∈ oj.after → Region.binds md e = true → e.on ≠ i := fun e he hb h => by
  obtain ⟨_, o2, ho2, hall⟩ := mem_ready.1 hj
  rw [ho] at ho2
  cases ho2
  have h1 := hall e he hb
  have h0 := (mem_ready.1 hi).1
  rw [h] at h1
  rcases Nat.lt_or_ge i L.size with h' | h'
  · simp [h'] at h0 h1
    rw [h0] at h1
    cases h1
  · simp [Array.getElem?_eq_none h'] at h1
/-- What yields where S holds may be taken first, if number z, behind which S need not hold, waits for it. -/
theorem wpAnyZ_first {P : Program} {md : Region.Mode} {ops : Array Oper} {Q : Exit → Act → World → Prop} {S : World → Prop} {z i : Nat} {oi : Oper} {v : Value} (hi : ops[i]? = some oi) (hsel : ∀ (j : Nat) (o : Oper) cs b, ops[j]? = some o → o.op ≠ .select cs b)
    (hQ : ∀ c a w, Q (.panic c) (a.put oi.dst v) w → Q (.panic c) a w) (hz : waitsB md ops z i = true) :
    ∀ (k : Nat) (L : Array Bool) (a : Act) (w : World),
      (∀ j oj, ops[j]? = some oj → j ≠ i → L.getD j true = false → (∀ e ∈ oj.after, Region.binds md e = true → e.on ≠ i) → oi.apart ops oj = true) →
      i ∈ Region.ready md ops L → YieldsIf P ops S oi v a → S w → wpAnyZ P md ops Q S z k (L.setIfInBounds i true) (a.put oi.dst v) w → wpAnyZ P md ops Q S z (k + 1) L a w := by
  intro k
  induction k with
  | zero =>
    intro L a w _ hr hy hS H
    refine ⟨fun h => absurd hr (by rw [h]; simp), fun j hj => ?_⟩
    by_cases e : j = i
    · subst e
      exact hy.wpOp hi hS ⟨fun _ => hS, H⟩
    · have hm := ready_mono hj e
      rw [H.1] at hm
      cases hm
  | succ k ih =>
    intro L a w hf hr hy hS H
    refine ⟨fun h => absurd hr (by rw [h]; simp), fun j hj => ?_⟩
    by_cases e : j = i
    · subst e
      exact hy.wpOp hi hS ⟨fun _ => hS, H⟩
    · obtain ⟨hun, oj, hoj, _⟩ := mem_ready.1 hj
      have hno := unlisted_of_ready hr hj hoj
      have hjz : j ≠ z := fun ez => by
        subst ez
        unfold waitsB at hz
        rw [hoj] at hz
        obtain ⟨e2, he2, hb⟩ := Array.any_eq_true'.1 hz
        simp only [Bool.and_eq_true, beq_iff_eq] at hb
        exact hno e2 he2 hb.1 hb.2
      have hp := wpOp_putIf hoj (hf j oj hoj e hun hno) (fun cs b => hsel i oi cs b hi) (fun cs b => hsel j oj cs b hoj) hQ hy (H.2 j (ready_mono hj e))
      refine wpOp_mono (fun a' w' q => ⟨q.2.1, ih _ a' w' (fun m om hm hmi hmu hmn => hf m om hm hmi ?_ hmn) (ready_mono hr (fun x => e x.symm)) q.1 (q.2.1 hjz) (by rw [Array.setIfInBounds_comm _ _ e]; exact q.2.2)⟩) hp
      by_cases ejm : j = m
      · subst ejm
        exact hun
      · rw [getD_set_ne true ejm] at hmu
        exact hmu
theorem wpAnyZ_take {P : Program} {md : Region.Mode} {ops : Array Oper} {Q : Exit → Act → World → Prop} {S : World → Prop} {z i : Nat} {oi : Oper} {v : Value} {k : Nat} {L : Array Bool} {a : Act} {w : World} (hi : ops[i]? = some oi) (hz : waitsB md ops z i = true)
    (hs : Region.noSelect ops = true) (hf : Region.free md ops L i = true) (hr : (Region.ready md ops L).contains i = true)
    (hQ : ∀ c a w, Q (.panic c) (a.put oi.dst v) w → Q (.panic c) a w) (hy : YieldsIf P ops S oi v a) (hS : S w)
    (h : wpAnyZ P md ops Q S z k (L.setIfInBounds i true) (a.put oi.dst v) w) : wpAnyZ P md ops Q S z (k + 1) L a w :=
  wpAnyZ_first hi (Region.noSelect_spec hs) hQ hz k L a w (Region.free_spec hi hf) (by simpa using hr) hy hS h
/-- One alone may come up. -/
theorem wpAnyZ_one {P : Program} {md : Region.Mode} {ops : Array Oper} {Q : Exit → Act → World → Prop} {S : World → Prop} {z i : Nat} {o : Oper} {k : Nat} {L : Array Bool} {a : Act} {w : World} (hr : Region.ready md ops L = [i]) (ho : ops[i]? = some o)
    (h : ∀ K' : Act → World → Prop, Shut (∀ a w, (i ≠ z → S w) → wpAnyZ P md ops Q S z k (L.setIfInBounds i true) a w → K' a w) → if Region.wanted o (yielded ops a.tmps) = true then Oper.wp P o a w K' Q else K' (a.put o.dst undef) w) : wpAnyZ P md ops Q S z (k + 1) L a w := by
  refine ⟨fun h0 => absurd h0 (by rw [hr]; simp), fun j hj => ?_⟩
  rw [hr] at hj
  obtain rfl := List.mem_singleton.1 hj
  exact wpOp_step ho (fun K' hK => h K' (fun a w hS hW => hK a w ⟨hS, hW⟩))
theorem wpAnyZ_done {P : Program} {md : Region.Mode} {ops : Array Oper} {Q : Exit → Act → World → Prop} {S : World → Prop} {z : Nat} {L : Array Bool} {a : Act} {w : World} (hr : Region.ready md ops L = []) (h : Q .normal a w) : ∀ k, wpAnyZ P md ops Q S z k L a w
  | 0 => ⟨hr, h⟩
  | _ + 1 => ⟨fun _ => h, by rw [hr]; simp⟩
theorem wpAnyIn_of_z {l n : Nat} {P : Program} {md : Region.Mode} {ops : Array Oper} {Q : Exit → Act → World → Prop} {S : World → Prop} {z : Nat} (hd : ∀ (i : Nat) (o : Oper), ops[i]? = some o → ∀ c, o.op ≠ .defer c) :
    ∀ (fuel : Nat) (listed : Array Bool) (a : Act) (w : World), wpAnyZ P md ops (OnlyN Q) S z fuel listed a w → wpAnyIn (Fence.wide.inRound l) n P md ops Q fuel listed a w
  | 0, _, _, _, h => h
  | fuel + 1, _, _, _, h => ⟨h.1, fun i hi => wpOpIn_of_wpOp (hd i) (fun a' w' h' => wpAnyIn_of_z hd fuel _ a' w' h'.2) (h.2 i hi)⟩
/-- A region that draws, inside a round; behind number z what S says need not hold. -/
theorem wpIn_region_roundZ (z : Nat) {l n : Nat} {P : Program} {ops : Array Oper} {Q : Exit → Act → World → Prop} {S : World → Prop} {id : Nat} {a : Act} {w : World} (hm : P.follows .mixedOrders = true) (hd : ops.all noDefer = true) (hS : S w.drew)
    (h : S w.drew → wpAnyZ P .any ops (OnlyN Q) S z ops.size (Array.replicate ops.size false) a w.drew) : (Code.region id ops true).wpIn (Fence.wide.inRound l) n P Q a w :=
  wpIn_region_any hm (wpAnyIn_of_z (noDefer_ne hd) _ _ _ _ (h hS))
/-! What the loop keeps -/
theorem below_keeps {W W' : World} (h : Below W.heap.size W W') (B : Nat) : KeepsFrom B W W' := ⟨h.size, fun k o _ hk _ => (h.block k (Array.getElem?_eq_some_iff.1 hk).1).trans hk⟩
theorem ownFrom_block {β : Type} (B q : Nat) (c : β → Array Value) (t : TypeId) : OwnFrom B (fun (s : β) W => W.heap[q]? = some (.cells (c s) t (0, 0))) := fun s X Y row hs hg hr => by
  refine (hg.block q (Array.getElem?_eq_some_iff.1 hs).1 (fun e => ?_)).trans hs
  obtain ⟨_, o, ho, hc⟩ := hr q e.symm
  rw [hs] at ho; cases ho; cases hc
theorem orow_mono {W : World} {base base' : Nat} {v : Value} {n : Nat} {xs : List Value} (h : W.ownsRow base 42 4 v n xs) (hb : base' ≤ base) : W.ownsRow base' 42 4 v n xs := by
  refine ⟨h.1, ?_⟩
  rcases h.2 with h | ⟨g, cap, cur, hv, hg, h2⟩
  · exact .inl h
  · exact .inr ⟨g, cap, cur, hv, Nat.le_trans hb hg, h2⟩
/-- Of the blocks that were there, two alone may change. -/
def Keep2 (W0 : World) (bl be : Nat) (W : World) : Prop := ∀ q, q < W0.heap.size → q ≠ bl → q ≠ be → W.heap[q]? = W0.heap[q]?
/-- What Read's loop has: its symbols so far in a row, in a box; its error in a box. -/
structure LX (w W0 : World) (bl be k : Nat) (v : Value) (xs : List Value) (er : Int) (W : World) : Prop where
  box : Boxed W bl 36 v
  row : W.ownsRow W0.heap.size 42 4 v k xs
  err : Boxed W be 37 (.int .i64 er)
  b : Below w.heap.size w W
  size : W0.heap.size ≤ W.heap.size
  k2 : Keep2 W0 bl be W
theorem LX.own {w W0 : World} {bl be k : Nat} {v : Value} {xs : List Value} {er : Int} (hw : w.heap.size ≤ W0.heap.size) : OwnFrom W0.heap.size (fun (_ : Unit) W => LX w W0 bl be k v xs er W) := fun s X Y row h hg hr => by
  obtain ⟨v', h1, h2, rfl⟩ := (holdsRow_own W0.heap.size bl 36 42 4 (fun (_ : Unit) => k) (fun _ => xs) (fun _ u => u = v)) () X Y row ⟨v, h.box, h.row, rfl⟩ hg (fun r e => (hr r e).2)
  refine ⟨h1, h2, ownFrom_block _ be (fun (_ : Unit) => #[.int .i64 er]) 37 () X Y row h.err hg hr, ownFrom_below (Nat.le_refl _) hw () X Y row h.b hg hr, Nat.le_trans h.size hg.size, fun q hq h3 h4 => ?_⟩
  refine (hg.block q (Nat.lt_of_lt_of_le hq h.size) (fun e => ?_)).trans (h.k2 q hq h3 h4)
  have := (hr q e.symm).1
  omega
theorem LX.keep {w W0 : World} {bl be k : Nat} {v : Value} {xs : List Value} {er : Int} {W W' : World} (h : LX w W0 bl be k v xs er W) (hb : Below W.heap.size W W') : LX w W0 bl be k v xs er W' := by
  refine ⟨(hb.block _ h.box.lt).trans h.box, ?_, (hb.block _ h.err.lt).trans h.err, h.b.trans (hb.mono h.b.size), Nat.le_trans h.size hb.size, fun q hq h3 h4 => (hb.block q (Nat.lt_of_lt_of_le hq h.size)).trans (h.k2 q hq h3 h4)⟩
  refine ⟨h.row.1, ?_⟩
  rcases h.row.2 with ⟨hv, hn⟩ | ⟨g, cap, cur, hv, hg, hh, h2⟩
  · exact .inl ⟨hv, hn⟩
  · exact .inr ⟨g, cap, cur, hv, hg, (hb.block g (Array.getElem?_eq_some_iff.1 hh).1).trans hh, h2⟩
theorem LX.drew {w W0 : World} {bl be k : Nat} {v : Value} {xs : List Value} {er : Int} {W : World} (h : LX w W0 bl be k v xs er W) : LX w W0 bl be k v xs er W.drew := h.keep (Below.refl _ W).drew
/-- One more symbol behind the ones so far. -/
theorem LX.app {w W0 W w1 : World} {bl be k m : Nat} {v v' : Value} {xs ys : List Value} {er : Int} {tmp : Obj} (hw0 : w.heap.size ≤ W0.heap.size) (hbl : w.heap.size ≤ bl) (hbl0 : bl < W0.heap.size) (hne : bl ≠ be) (hbe0 : be < W0.heap.size) (h : LX w W0 bl be k v xs er W)
    (hown' : w1.ownsRow W0.heap.size 42 4 v' m ys) (hgrow : (W.alloc tmp).grownBy w1 v.ownBlock) : LX w W0 bl be m v' ys er (w1.setCell ⟨bl, 0, none⟩ v') ∧ KeepsOthers W (w1.setCell ⟨bl, 0, none⟩ v') ∧ Boxed w1 bl 36 v := by
  obtain ⟨h1, h2, h3, h4, h5⟩ := h.box.appended (t := 36) (e := 42) (by decide) (orow_mono h.row hw0) (Nat.le_trans hw0 h.size) hbl (orow_mono hown' hw0) hgrow
  have hsz := h.size
  have hk : ∀ q, q < W0.heap.size → w1.heap[q]? = W.heap[q]? := fun q hq => by
    refine (hgrow.block q (by simp; omega) (fun e => ?_)).trans (Below.heap_alloc W tmp q (by omega))
    rcases h.row.2 with ⟨rfl, _⟩ | ⟨g, cap, cur, rfl, hb, _, _⟩
    · simp [Value.ownBlock] at e
    · obtain rfl : q = g := by simpa [Value.ownBlock] using e
      omega
  have hk2 : ∀ q, q < W0.heap.size → q ≠ bl → (w1.setCell ⟨bl, 0, none⟩ v').heap[q]? = W.heap[q]? := fun q hq hn => (Below.heap_setCell w1 ⟨bl, 0, none⟩ v' q hn).trans (hk q hq)
  exact ⟨⟨h2, hown'.kept (grownBy_setCell' w1 bl v') (.inr (h1.not_row (by decide) hown').symm), (hk2 be hbe0 hne.symm).trans h.err, h.b.trans (h5.mono (Nat.le_refl _)), Nat.le_trans h.size h5.size, fun q hq h6 h7 => (hk2 q hq h6).trans (h.k2 q hq h6 h7)⟩, h4, h1⟩
/-- The name has no end: nothing, and the error. -/
theorem LX.fail {w W0 W : World} {bl be k : Nat} {v : Value} {xs : List Value} {er : Int} (h : LX w W0 bl be k v xs er W) (hbl : w.heap.size ≤ bl) (hbl0 : bl < W0.heap.size) (hne : bl ≠ be) (hbe0 : be < W0.heap.size) (hbe : w.heap.size ≤ be) :
    LX w W0 bl be 0 (.slice none 0 0) [] 33 ((W.setCell ⟨bl, 0, none⟩ (.slice none 0 0)).setCell ⟨be, 0, none⟩ (.int .i64 33)) ∧ KeepsOthers W ((W.setCell ⟨bl, 0, none⟩ (.slice none 0 0)).setCell ⟨be, 0, none⟩ (.int .i64 33)) ∧ Boxed (W.setCell ⟨bl, 0, none⟩ (.slice none 0 0)) be 37 (.int .i64 er) := by
  have h3 : Boxed (W.setCell ⟨bl, 0, none⟩ (.slice none 0 0)) be 37 (.int .i64 er) := (Below.heap_setCell W _ _ _ (Ne.symm hne)).trans h.err
  have h1 : Boxed (W.setCell ⟨bl, 0, none⟩ (.slice none 0 0)) bl 36 (.slice none 0 0) := h.box.set _
  refine ⟨⟨(Below.heap_setCell _ _ _ _ hne).trans h1, World.ownsRow_nil _ _ _ _, h3.set _, (h.b.setCell (p := ⟨bl, 0, none⟩) hbl _).setCell (p := ⟨be, 0, none⟩) hbe _, ?_, fun q hq h4 h5 => ?_⟩, (KeepsOthers.setCell _ _ _).trans (KeepsOthers.setCell _ _ _), h3⟩
  · have := h.size
    simpa using this
  · exact (Below.heap_setCell _ _ _ _ h5).trans ((Below.heap_setCell _ _ _ _ h4).trans (h.k2 q hq h4 h5))
theorem LX.sy {w W0 W : World} {bl be D : Nat} {L : List Sy} {v : Value} {er : Int} (h : LX w W0 bl be L.length v (cellsY L) er W) (hlw : w.heap.size ≤ W0.heap.size) (hD : W0.heap.size ≤ D) (hK : W.heap[D]? = some (.deferred (some []))) : SY w L v (W.drew.putObj D (.deferred none)) :=
  ⟨ownsRow_putObj (orow_mono h.drew.row hlw) _ hK rfl, h.drew.b.trans (belowK_b (w := w) (Nat.le_refl _) W.drew D _ _ (Nat.le_trans hlw hD) hK rfl rfl)⟩
theorem LX.kpN {w W0 : World} {bl be k k' : Nat} {v v' : Value} {xs xs' : List Value} {er er' : Int} {W W' : World} {g : Option Nat} {B : Nat} (h : LX w W0 bl be k v xs er W) (h' : LX w W0 bl be k' v' xs' er' W') (hs : W.heap.size ≤ W'.heap.size) (hg : ∀ q, (g = some q ∨ q = B) → q < W0.heap.size ∧ q ≠ bl ∧ q ≠ be) : KpN g B W W' :=
  ⟨hs, fun q hq _ => (h'.k2 q (hg q hq).1 (hg q hq).2.1 (hg q hq).2.2).trans (h.k2 q (hg q hq).1 (hg q hq).2.1 (hg q hq).2.2).symm⟩
theorem kpN_b {g : Option Nat} {B : Nat} {w : World} (hg : ∀ k, (g = some k ∨ k = B) → k < w.heap.size) (W : World) (l : Nat) (o o' : Obj) (hl : w.heap.size ≤ l) (h : W.heap[l]? = some o) (h1 : o.isCells = false) (h2 : o.isWalk = false) : KpN g B W (W.putObj l o') := by
  have hgr := grownBy_putObj' W l o'
  exact ⟨hgr.size, fun k e hk => hgr.block k hk (fun e2 => by cases e2; have := hg _ e; omega)⟩
/-- Bytes that can be read lie in no box of a slice or a number, and stay. -/
theorem BZ.keep2 {W0 W : World} {bl be : Nat} {a : Option Addr} {n c : Nat} {z : Nat → Nat} {p : Option Addr} {q r : Nat} {er : Int} (h : BZ W0 a n c z) (hl : Boxed W0 bl 36 (.slice p q r)) (he : Boxed W0 be 37 (.int .i64 er)) (hk : Keep2 W0 bl be W) : BZ W a n c z := by
  refine ⟨?_, h.2⟩
  rcases h.1 with h | ⟨b, off, ha, hc⟩
  · exact .inl h
  · refine .inr ⟨b, off, ha, fun j hj => ?_⟩
    have h1 := hc j hj
    have hlt := cell_lt' h1
    have hb1 : b ≠ bl := fun e => by
      subst e
      unfold World.cell? at h1
      rw [show W0.heap[b]? = some (.cells #[.slice p q r] 36 (0, 0)) from hl] at h1
      cases ho : off + j with
      | zero => simp [ho] at h1
      | succ i => simp [ho] at h1
    have hb2 : b ≠ be := fun e => by
      subst e
      unfold World.cell? at h1
      rw [show W0.heap[b]? = some (.cells #[.int .i64 er] 37 (0, 0)) from he] at h1
      cases ho : off + j with
      | zero => simp [ho] at h1
      | succ i => simp [ho] at h1
    have hh := hk b hlt hb1 hb2
    unfold World.cell? at h1 ⊢
    rw [hh]
    exact h1
/-! The rows of a table, as what is handed on in turn -/
/-- Number x, if there are so many. -/
def clN (N x : Nat) : Nat := if x < N then x else 0
theorem clN_lt {N x : Nat} (h : x < N) : clN N x = x := if_pos h
theorem clN_in {N x : Nat} (h : 0 < N) : clN N x < N := by unfold clN; split <;> omega
theorem clN_range (N : Nat) : (List.range N).map (clN N) = List.range N := by
  rw [List.map_eq_iff]
  intro i
  by_cases h : i < N
  · simp [h, clN_lt h]
  · simp [h]
def gN (a : Option Addr) (len : Nat) : Option Nat := if rowsM len = 0 then none else blk a
theorem seq_rows (a : Option Addr) (len c B : Nat) (z : Nat → Nat) (hlen : len ≤ 9223372036854775000) (W0 : World) (hB : TakeIs W0 B (.slice a len c)) (hz : BZ W0 a len c z) (n : Nat) (hn : 1 ≤ n) :
    SeqStopsK Fence.wide n Try.prog 34 #[.pointer (some ⟨B, 0, none⟩)] (fun k : Nat => #[rowV a c (clN (rowsM len) k)]) (KpN (gN a len) B) (fun ys => ys = List.range (rowsM len)) (fun q => q <+: List.range (rowsM len)) (rowsM len) W0 := fun l J Jx W hW hJ _ hY h0 => by
  have hv := rows_in Fence.wide (Lib.hid rfl) n hn trivial rfl l J Jx a len c B (fun hl => by
    obtain ⟨b, off, ha, _⟩ := hz.bs hl
    exact ⟨b, off, ha⟩) hz.2.1 hlen (fun m pre x W1 hj hl hx => YieldAt.anyDepth rfl m (by
    have h := hY pre x W1 hj hl
    subst hx
    dsimp only at h
    rw [show clN (rowsM len) pre.length = pre.length from clN_lt hl] at h
    rwa [show gN a len = blk a by unfold gN; rw [if_neg (by omega)]] at h)) W (hB.keep hW) h0
  refine hv.mono fun e W' h => ⟨h.1, ?_⟩
  rcases h.2 with h | ⟨q, hq, h⟩
  · exact .inl ⟨_, rfl, h⟩
  · exact .inr ⟨q, hq, h⟩
theorem numZ_sh (z : Nat → Nat) (a o s : Nat) : numZ (shZ z a) o s = numZ z (a + o) s := by
  unfold numZ shZ
  congr 1
  funext j
  rw [Nat.add_assoc]
theorem symsZ_cut {tz sz : Nat → Nat} {sn : Nat} {q r : List Nat} (h : symsZ tz sz sn q = none) (hp : q <+: r) : symsZ tz sz sn r = none := by
  obtain ⟨t, rfl⟩ := hp
  unfold symsZ at h ⊢
  rw [List.mapM_append, h]
  rfl
/-- The symbols of the rows so far. -/
def symR (tz sz : Nat → Nat) (sn N : Nat) (pre : List Nat) : Option (List Sy) := symsZ tz sz sn (pre.map (clN N))
theorem symR_snoc (tz sz : Nat → Nat) (sn N : Nat) (pre : List Nat) (x : Nat) : symR tz sz sn N (pre ++ [x]) = (symR tz sz sn N pre).bind fun l => (symZ tz sz sn (clN N x)).map fun s => l ++ [s] := by
  unfold symR
  rw [List.map_append]
  exact symsZ_snoc _ _ _ _ _
theorem symR_range (tz sz : Nat → Nat) (sn N : Nat) : symR tz sz sn N (List.range N) = symsZ tz sz sn (List.range N) := by
  unfold symR
  rw [clN_range]
theorem symR_cut {tz sz : Nat → Nat} {sn N : Nat} {q : List Nat} (h : symR tz sz sn N q = none) (hp : q <+: List.range N) : symsZ tz sz sn (List.range N) = none := by
  rw [← symR_range]
  unfold symR at h ⊢
  exact symsZ_cut h (hp.map _)
theorem mapM_len {α β : Type} (f : α → Option β) : ∀ (ks : List α) (l : List β), ks.mapM f = some l → l.length = ks.length
  | [], l, h => by
    simp at h
    simp [h]
  | k :: ks, l, h => by
    rw [List.mapM_cons] at h
    cases hk : f k with
    | none => simp [hk] at h
    | some b =>
      cases hs : ks.mapM f with
      | none => simp [hk, hs] at h
      | some bs =>
        simp [hk, hs] at h
        subst h
        simp [mapM_len f ks bs hs]
theorem symR_len {tz sz : Nat → Nat} {sn N : Nat} : ∀ {pre : List Nat} {l : List Sy}, symR tz sz sn N pre = some l → l.length = pre.length := by
  intro pre l h
  unfold symR symsZ at h
  have := mapM_len _ _ _ h
  simpa using this
end Go.Proofs.Ytegbhjmghkbgmaa
