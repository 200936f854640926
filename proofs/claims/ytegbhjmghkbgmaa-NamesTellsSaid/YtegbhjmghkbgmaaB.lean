/- Cells that can be read; a world with blocks and rows; copies: carried over. -/
import Derived.Test.YtegbhjmghkbgmaaA
namespace Go.Proofs.Ytegbhjmghkbgmaa
open Go.RowKit Go.Shelf
set_option linter.unusedVariables false
set_option linter.unusedSimpArgs false
attribute [local go_sem] Oper.semAt_some
/-- Cells that can be read. -/
def RX (W : World) (ad : Option Addr) (L : List Value) : Prop := 0 < L.length → ∃ b off, ad = some ⟨b, off, none⟩ ∧ ∀ j u, L[j]? = some u → W.cell? ⟨b, off + j, none⟩ = some u
theorem RX.keep {W W' : World} {ad : Option Addr} {L : List Value} (h : RX W ad L) (hb : Below W.heap.size W W') : RX W' ad L := fun hl => by
  obtain ⟨b, off, ha, hc⟩ := h hl
  exact ⟨b, off, ha, fun j u hu => cell_keep (hc j u hu) hb⟩
theorem RX.own {W : World} {n0 : Nat} {ty : TypeId} {sz k : Nat} {a : Option Addr} {l p : Nat} {L : List Value} (h : W.ownsRow n0 ty sz (.slice a l p) k L) : RX W a L := fun hl => by
  rcases h.2 with ⟨e, h0⟩ | ⟨g, cap, cur, e, _⟩
  · have := h.1; rw [h0] at this; omega
  · cases e
    exact ⟨g, 0, rfl, fun j u hu => by have := h.cells (g := g) rfl j u hu; rwa [Addr.add_mid] at this⟩
theorem rx_bs {W : World} {ad : Option Addr} {f : Nat → Nat} {n : Nat} (h : RX W ad (rowB f n)) : BS W ad n f := fun hn => by
  obtain ⟨b, off, ha, hc⟩ := h (by rw [rowB_len]; exact hn)
  exact ⟨b, off, ha, fun j hj => hc j _ (rowB_at f n j hj)⟩
theorem bs_rx {W : World} {ad : Option Addr} {f : Nat → Nat} {n : Nat} (h : BS W ad n f) : RX W ad (rowB f n) := fun hl => by
  rw [rowB_len] at hl
  obtain ⟨b, off, ha, hc⟩ := h hl
  refine ⟨b, off, ha, fun j u hu => ?_⟩
  have hj := (List.getElem?_eq_some_iff.1 hu).1
  rw [rowB_len] at hj
  rw [rowB_at f n j hj] at hu
  cases hu
  exact hc j hj
theorem flat_len {α : Type} {c : α → List Value} {m : Nat} (hc : ∀ z, (c z).length = m) (zs : List α) : (zs.flatMap c).length = zs.length * m := by
  induction zs with
  | nil => simp
  | cons z zs ih => rw [List.flatMap_cons, List.length_append, ih, hc, List.length_cons, Nat.add_mul]; omega
theorem flat_at {α : Type} {c : α → List Value} {m : Nat} (hc : ∀ z, (c z).length = m) (zs : List α) (k i : Nat) (s : α) (hk : zs[k]? = some s) (hi : i < m) : (zs.flatMap c)[k * m + i]? = (c s)[i]? := by
  induction zs generalizing k with
  | nil => simp at hk
  | cons z zs ih =>
    rw [List.flatMap_cons]
    cases k with
    | zero =>
      simp only [List.getElem?_cons_zero, Option.some.injEq] at hk
      subst hk
      rw [Nat.zero_mul, Nat.zero_add, List.getElem?_append_left (by rw [hc]; exact hi)]
    | succ k =>
      rw [List.getElem?_cons_succ] at hk
      rw [List.getElem?_append_right (by rw [hc, Nat.succ_mul]; omega), hc, ← ih k hk]
      congr 1
      rw [Nat.succ_mul]
      omega
theorem lit_k (d x : Nat) (t : TypeId) (k : IntKind) (hu : Try.prog.underlying t = some (.int k)) (hw : (Lit.int k (x : Nat)).wf = true) : Try.prog.keyLits (d + 1) t [.int k (x : Nat)] = some [.int k (x : Nat)] := by
  unfold Program.keyLits
  rw [hu]
  simp [hw]
theorem wf32 {x : Nat} (h : V32 x) : (Lit.int .u32 (x : Nat)).wf = true := by
  unfold V32 at h
  unfold Lit.wf
  simp [IntKind.has, IntKind.min, IntKind.max, IntKind.bits, IntKind.signed]
  omega
theorem wf64 {x : Nat} (h : U x) : (Lit.int .u64 (x : Nat)).wf = true := by
  unfold U at h
  unfold Lit.wf
  simp [IntKind.has, IntKind.min, IntKind.max, IntKind.bits, IntKind.signed]
  omega
/-- Blocks that hold what is told, rows that can be read, the tables, all else as it was. -/
def SB (w : World) (l : List (Nat × Array Value × TypeId)) (R : List (Option Addr × List Value)) (W : World) : Prop :=
  (∀ x ∈ l, W.heap[x.1]? = some (.cells x.2.1 x.2.2 (0, 0))) ∧ (∀ x ∈ R, RX W x.1 x.2) ∧ Below w.heap.size w W
section
variable {w W W' W0 : World} {l : List (Nat × Array Value × TypeId)} {R : List (Option Addr × List Value)}
theorem SB.keep (h : SB w l R W) (hb : Below W.heap.size W W') : SB w l R W' :=
  ⟨fun x hx => (hb.block _ (Array.getElem?_eq_some_iff.1 (h.1 x hx)).1).trans (h.1 x hx), fun x hx => (h.2.1 x hx).keep hb, h.2.2.trans (hb.mono h.2.2.size)⟩
theorem SB.drew (h : SB w l R W) : SB w l R W.drew := h.keep (Below.refl _ _).drew
theorem SB.alloc (h : SB w l R W) (o : Obj) : SB w l R (W.alloc o) := h.keep ((Below.refl _ _).alloc (Nat.le_refl _) o)
theorem SB.box (h : SB w l R W) (c : Array Value) (t : TypeId) : SB w ((W.heap.size, c, t) :: l) R (W.alloc (.cells c t)) := by
  have hk := h.alloc (.cells c t)
  refine ⟨fun x hx => ?_, hk.2⟩
  rcases List.mem_cons.1 hx with rfl | hx
  · exact heap_alloc_last W _
  · exact hk.1 x hx
theorem SB.row (h : SB w l R W) {g : Nat} {c : Array Value} {t : TypeId} (hc : W.heap[g]? = some (.cells c t (0, 0))) : SB w ((g, c, t) :: l) R W := by
  refine ⟨fun x hx => ?_, h.2⟩
  rcases List.mem_cons.1 hx with rfl | hx
  · exact hc
  · exact h.1 x hx
theorem SB.addr (h : SB w l R W) {a : Option Addr} {L : List Value} (hr : RX W a L) : SB w l ((a, L) :: R) W := by
  refine ⟨h.1, fun x hx => ?_, h.2.2⟩
  rcases List.mem_cons.1 hx with rfl | hx
  · exact hr
  · exact h.2.1 x hx
theorem RX.put {a : Option Addr} {L : List Value} (h0 : RX W0 a L) (h : RX W a L) {g : Nat} (hg : W0.heap.size ≤ g) (c : Array Value) : RX (W.setRow g c) a L := fun hl => by
  obtain ⟨b, off, ha, hc⟩ := h hl
  obtain ⟨b0, off0, ha0, hc0⟩ := h0 hl
  rw [ha] at ha0
  cases ha0
  have hb : b < W0.heap.size := by
    obtain ⟨v, hv⟩ : ∃ v, L[0]? = some v := ⟨L[0], List.getElem?_eq_getElem hl⟩
    exact cell_lt' (hc0 0 v hv)
  exact ⟨b, off, ha, fun j u hu => (World.cell?_of_block (a := ⟨b, off + j, none⟩) (setRow_other W g b c (by omega))).trans (hc j u hu)⟩
theorem below_row' {n : Nat} {b : Nat} {vs : Array Value} (h : Below n w W) (hb : n ≤ b) : Below n w (W.setRow b vs) :=
  ⟨h.os, h.tape, h.output, by simpa [World.setRow] using h.size, fun k hk => (setRow_other W b k vs (by omega)).trans (h.block k hk)⟩
theorem SB.less {l' : List (Nat × Array Value × TypeId)} (h : SB w l R W) (hl : ∀ x ∈ l', x ∈ l) : SB w l' R W := ⟨fun x hx => h.1 x (hl x hx), h.2⟩
end
theorem SB.put {w W W0 : World} {l : List (Nat × Array Value × TypeId)} {R : List (Option Addr × List Value)} (h : SB w l R W) (h0 : ∀ x ∈ R, RX W0 x.1 x.2) {g : Nat} (hg : W0.heap.size ≤ g) (hw : w.heap.size ≤ g) (hne : ∀ x ∈ l, x.1 ≠ g) {c0 : Array Value} {t : TypeId} (hc : W.heap[g]? = some (.cells c0 t (0, 0))) (c : Array Value) : SB w ((g, c, t) :: l) R (W.setRow g c) := by
  refine ⟨fun x hx => ?_, fun x hx => (h0 x hx).put (h.2.1 x hx) hg c, below_row' h.2.2 hw⟩
  rcases List.mem_cons.1 hx with rfl | hx
  · exact setRow_heap W g c0 c t (0, 0) hc
  · exact (setRow_other W g x.1 c (hne x hx)).trans (h.1 x hx)
/-- Bytes that come in: nil, or cells that can be read. -/
def RI (w : World) (ar : Option Addr) (nr cr : Nat) (rz : Nat → Nat) : Prop := (ar = none ∧ nr = 0 ∧ cr = 0) ∨ ∃ ad, ar = some ad ∧ ∀ j, j < nr → w.cell? (ad.add j) = some (.int .u8 (rz j : Nat))
theorem RI.keep {w W : World} {ar : Option Addr} {nr cr : Nat} {rz : Nat → Nat} (h : RI w ar nr cr rz) (hb : Below w.heap.size w W) : RI W ar nr cr rz := by
  rcases h with h | ⟨ad, ha, hc⟩
  · exact .inl h
  · exact .inr ⟨ad, ha, fun j hj => cell_keep (hc j hj) hb⟩
theorem ones_row (f : Nat → Nat) (n : Nat) : ∀ u ∈ rowB f n, u.oneCell' = true := fun u hu => by
  obtain ⟨j, _, rfl⟩ := List.mem_map.1 hu
  rfl
theorem wpList_rest {ops : Array Oper} {Q : Exit → Act → World → Prop} {o : Oper} {rest : List Oper} {a : Act} {W : World} {x y : Operand} {v : Value} {base n nr cr : Nat} {ar : Option Addr} {rz : Nat → Nat} {xs : List Value}
    (ho : o.op = .call { callee := .builtin .append, args := #[x, y], argTypes := #[27, 27] }) (hg : o.guard = none) (hx : a.eval x = v) (hy : a.eval y = .slice ar nr cr) (h : W.ownsRow base 5 1 v n xs) (hR : RI W ar nr cr rz) (hn : n ≤ 1000000) (hm : nr ≤ 1000000) (hb0 : base ≤ W.heap.size)
    (hk : ∀ v' W', W'.ownsRow base 5 1 v' (n + nr) (xs ++ rowB rz nr) → W.grownBy W' v.ownBlock → wpList Try.prog ops Q rest (a.put o.dst v') W') : wpList Try.prog ops Q (o :: rest) a W := by
  obtain ⟨i0, hi, hz0, hz1, hz2⟩ := info_parts info5
  rcases hR with ⟨rfl, rfl, rfl⟩ | ⟨ad, rfl, hc⟩
  · refine wpList_append_own_none hg x y 27 ho base 5 i0 1 Try.underlying27 hi v n xs hx h hy ?_
    exact hk v W (by simpa [rowB, upto] using h) ⟨rfl, rfl, rfl, Nat.le_refl _, fun _ _ _ => rfl⟩
  · refine wpList_append_own W hg x y 27 ho base 5 i0 (.int .u8 0) 1 1 Try.underlying27 hi hz0 hz1 hz2 rfl (by decide) v n xs hx h ad nr cr (rowB rz nr) hy (by rw [rowB_len]; omega) (fun j u hu => ?_) (ones_row rz nr) (by unfold maxLen; omega) (by omega) hb0 ?_
    · have hj := (List.getElem?_eq_some_iff.1 hu).1
      rw [rowB_len] at hj
      rw [rowB_at rz nr j hj] at hu
      cases hu
      exact hc j hj
    · exact fun v' W' h1 h2 _ => hk v' W' h1 h2
/-- The first bytes of a row's cells. -/
def TK (cur : Array Value) (len : Nat) (f : Nat → Nat) : Prop := cur.toList.take len = rowB f len
theorem TK.len {cur : Array Value} {len : Nat} {f : Nat → Nat} (h : TK cur len f) : len ≤ cur.size := by
  have := congrArg List.length h
  rw [List.length_take, rowB_len, Array.length_toList] at this
  omega
theorem TK.at_ {cur : Array Value} {len : Nat} {f : Nat → Nat} (h : TK cur len f) (j : Nat) (hj : j < len) : cur[j]? = some (.int .u8 (f j : Nat)) := by
  have h1 : (cur.toList.take len)[j]? = some (.int .u8 (f j : Nat)) := by rw [h]; exact rowB_at f len j hj
  rw [List.getElem?_take_of_lt hj, Array.getElem?_toList] at h1
  exact h1
theorem TK.bs {W : World} {g : Nat} {cur : Array Value} {t : TypeId} {len : Nat} {f : Nat → Nat} (h : TK cur len f) (hc : W.heap[g]? = some (.cells cur t (0, 0))) : BS W (some ⟨g, 0, none⟩) len f :=
  fun _ => ⟨g, 0, rfl, fun j hj => by rw [Nat.zero_add]; exact cell_at hc (h.at_ j hj)⟩
theorem own_tk {W : World} {n0 g len cap : Nat} {f : Nat → Nat} (h : W.ownsRow n0 5 1 (.slice (some ⟨g, 0, none⟩) len cap) len (rowB f len)) : ∃ cur, n0 ≤ g ∧ W.heap[g]? = some (.cells cur 5 (0, 0)) ∧ TK cur len f := by
  rcases h.2 with ⟨e, _⟩ | ⟨g', cap', cur, e, h1, h2, _, _, _, h5⟩
  · cases e
  · cases e
    exact ⟨cur, h1, h2, by rw [Nat.mul_one] at h5; exact h5⟩
def cpF (f : Nat → Nat) (o k : Nat) (y : Nat → Nat) : Nat → Nat := fun j => if o ≤ j ∧ j < o + k then y (j - o) else f j
theorem cpF_out {f : Nat → Nat} {o k : Nat} {y : Nat → Nat} {j : Nat} (h : j < o ∨ o + k ≤ j) : cpF f o k y j = f j := if_neg (by omega)
theorem cpF_lt {f y : Nat → Nat} (hf : ∀ j, f j < 256) (hy : ∀ j, y j < 256) (o k j : Nat) : cpF f o k y j < 256 := by
  unfold cpF
  split
  · exact hy _
  · exact hf _
theorem TK.copy {cur : Array Value} {len : Nat} {f : Nat → Nat} (h : TK cur len f) {o k : Nat} (y : Nat → Nat) (ho : o + k ≤ len) : TK (cur.toList.take o ++ rowB y k ++ cur.toList.drop (o + k)).toArray len (cpF f o k y) := by
  have hl := h.len
  have hto : (cur.toList.take o).length = o := by rw [List.length_take, Array.length_toList]; omega
  unfold TK
  apply List.ext_getElem?
  intro j
  by_cases hj : j < len
  · rw [List.getElem?_take_of_lt hj, rowB_at _ _ _ hj]
    show (cur.toList.take o ++ rowB y k ++ cur.toList.drop (o + k))[j]? = _
    by_cases h1 : j < o
    · rw [List.append_assoc, List.getElem?_append_left (by rw [hto]; exact h1), List.getElem?_take_of_lt h1, Array.getElem?_toList, h.at_ j hj, cpF_out (.inl h1)]
    · by_cases h2 : j < o + k
      · rw [List.append_assoc, List.getElem?_append_right (by rw [hto]; omega), hto, List.getElem?_append_left (by rw [rowB_len]; omega), rowB_at _ _ _ (by omega)]
        unfold cpF
        rw [if_pos ⟨by omega, h2⟩]
      · rw [List.getElem?_append_right (by rw [List.length_append, hto, rowB_len]; omega), List.length_append, hto, rowB_len, List.getElem?_drop, show o + k + (j - (o + k)) = j by omega, Array.getElem?_toList, h.at_ j hj, cpF_out (.inr (by omega))]
  · rw [List.getElem?_eq_none (by rw [List.length_take]; omega), List.getElem?_eq_none (by rw [rowB_len]; omega)]
theorem copy_run (W : World) (ty : TypeId) {g len o k dCap b so sCap : Nat} {f y : Nat → Nat} {cur : Array Value} (hc : W.heap[g]? = some (.cells cur 5 (0, 0))) (h : TK cur len f) (ho : o + k ≤ len) (hs : ∀ j, j < k → W.cell? ⟨b, so + j, none⟩ = some (.int .u8 (y j : Nat))) :
    (Builtin.copy_ #[27, 27] ty #[.slice (some ⟨g, o, none⟩) k dCap, .slice (some ⟨b, so, none⟩) k sCap]).run Try.prog W = .ok (goInt k) (W.setRow g (cur.toList.take o ++ rowB y k ++ cur.toList.drop (o + k)).toArray) := by
  have hl := h.len
  have hsrc : ∀ j v, (rowB y k)[j]? = some v → W.cell? ((⟨b, so, none⟩ : Addr).add j) = some v := fun j v hv => by
    have hj := (List.getElem?_eq_some_iff.1 hv).1
    rw [rowB_len] at hj
    rw [rowB_at y k j hj] at hv
    cases hv
    rw [Addr.add_lit]
    exact hs j hj
  have := run_copy_row (P := Try.prog) W 27 27 ty 5 g o k dCap ⟨b, so, none⟩ k sCap cur 5 (rowB y k) Try.underlying27 info5s hc (by rw [rowB_len]; exact (Nat.min_self k).symm) hsrc (by rw [rowB_len]; omega) (ones_row y k)
  rw [rowB_len] at this
  exact this

end Go.Proofs.Ytegbhjmghkbgmaa
