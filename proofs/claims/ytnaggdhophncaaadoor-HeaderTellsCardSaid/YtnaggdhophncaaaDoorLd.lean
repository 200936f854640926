/- The reference's Laid. -/
import Derived.Laws.AppendOwnNone
import Derived.Test.YtnaggdhophncaaaDoorRk
namespace Go.Proofs.YtnaggdhophncaaaDoor
open Go.RowKit Go.Shelf
set_option linter.unusedVariables false
set_option linter.unusedSimpArgs false
attribute [local go_sem] Oper.semAt_some
/-- The bytes of an object. -/
def laidZ (en : Nat) (zs : List Sg) (cs : List Sc) (rz : Nat → Nat) : Nat → Nat := fun j =>
  if j < 64 then headF en 64 (64 + 56 * zs.length) zs.length cs.length j
  else if j < 64 + 56 * zs.length then (zs.getD ((j - 64) / 56) (0, 0, 0, 0, 0, 0, 0)).f ((j - 64) % 56)
  else if j < 64 + 56 * zs.length + 64 * cs.length then (cs.getD ((j - (64 + 56 * zs.length)) / 64) (0, 0, 0, 0, 0)).f ((j - (64 + 56 * zs.length)) % 64)
  else rz (j - (64 + 56 * zs.length + 64 * cs.length))
section
variable {en : Nat} {zs : List Sg} {cs : List Sc} {rz : Nat → Nat}
theorem laid_head (j : Nat) (h : j < 64) : laidZ en zs cs rz j = headF en 64 (64 + 56 * zs.length) zs.length cs.length j := if_pos h
theorem laid_seg {k i : Nat} {s : Sg} (hk : zs[k]? = some s) (hi : i < 56) : laidZ en zs cs rz (64 + 56 * k + i) = s.f i := by
  have hl := (List.getElem?_eq_some_iff.1 hk).1
  have e1 : (64 + 56 * k + i - 64) / 56 = k := by omega
  have e2 : (64 + 56 * k + i - 64) % 56 = i := by omega
  unfold laidZ
  rw [if_neg (by omega), if_pos (by omega), e1, e2, List.getD_eq_getElem?_getD, hk]
  rfl
theorem laid_sec {k i : Nat} {s : Sc} (hk : cs[k]? = some s) (hi : i < 64) : laidZ en zs cs rz (64 + 56 * zs.length + 64 * k + i) = s.f i := by
  have hl := (List.getElem?_eq_some_iff.1 hk).1
  have e1 : (64 + 56 * zs.length + 64 * k + i - (64 + 56 * zs.length)) / 64 = k := by omega
  have e2 : (64 + 56 * zs.length + 64 * k + i - (64 + 56 * zs.length)) % 64 = i := by omega
  unfold laidZ
  rw [if_neg (by omega), if_neg (by omega), if_pos (by omega), e1, e2, List.getD_eq_getElem?_getD, hk]
  rfl
theorem laid_rest (i : Nat) : laidZ en zs cs rz (64 + 56 * zs.length + 64 * cs.length + i) = rz i := by
  unfold laidZ
  rw [if_neg (by omega), if_neg (by omega), if_neg (by omega), Nat.add_sub_cancel_left]
theorem laid_lt (hr : ∀ j, rz j < 256) (j : Nat) : laidZ en zs cs rz j < 256 := by
  unfold laidZ
  split
  · exact headF_lt _ _ _ _ _ _
  · split
    · exact segF_lt _ _ _ _ _ _ _ _
    · split
      · exact secF_lt _ _ _ _ _ _
      · exact hr _
theorem laid_row0 : rowB (laidZ en zs cs rz) (64 + 56 * 0) = rheadL en 64 (64 + 56 * zs.length) zs.length cs.length := by
  rw [head_row]
  exact rowB_congr fun j hj => laid_head j hj
theorem laid_row1 {k : Nat} {s : Sg} (hk : zs[k]? = some s) : rowB (laidZ en zs cs rz) (64 + 56 * (k + 1)) = rowB (laidZ en zs cs rz) (64 + 56 * k) ++ rowB s.f 56 := by
  rw [show 64 + 56 * (k + 1) = 64 + 56 * k + 56 by omega, rowB_app]
  congr 1
  exact rowB_congr fun j hj => laid_seg hk hj
theorem laid_row2 {k : Nat} {s : Sc} (hk : cs[k]? = some s) : rowB (laidZ en zs cs rz) (64 + 56 * zs.length + 64 * (k + 1)) = rowB (laidZ en zs cs rz) (64 + 56 * zs.length + 64 * k) ++ rowB s.f 64 := by
  rw [show 64 + 56 * zs.length + 64 * (k + 1) = 64 + 56 * zs.length + 64 * k + 64 by omega, rowB_app]
  congr 1
  exact rowB_congr fun j hj => laid_sec hk hj
theorem laid_row3 (n : Nat) : rowB (laidZ en zs cs rz) (64 + 56 * zs.length + 64 * cs.length + n) = rowB (laidZ en zs cs rz) (64 + 56 * zs.length + 64 * cs.length) ++ rowB rz n := by
  rw [rowB_app]
  congr 1
  exact rowB_congr fun j _ => laid_rest j
end
/-- Bytes that come in: nil, or cells that can be read. -/
def RI (w : World) (ar : Option Addr) (nr cr : Nat) (rz : Nat → Nat) : Prop := (ar = none ∧ nr = 0 ∧ cr = 0) ∨ ∃ ad, ar = some ad ∧ ∀ j, j < nr → w.cell? (ad.add j) = some (.int .u8 (rz j : Nat))
theorem RI.keep {w W : World} {ar : Option Addr} {nr cr : Nat} {rz : Nat → Nat} (h : RI w ar nr cr rz) (hb : Below w.heap.size w W) : RI W ar nr cr rz := by
  rcases h with h | ⟨ad, ha, hc⟩
  · exact .inl h
  · exact .inr ⟨ad, ha, fun j hj => cell_keep (hc j hj) hb⟩
theorem ones_row (f : Nat → Nat) (n : Nat) : ∀ u ∈ rowB f n, u.oneCell' = true := fun u hu => by
  obtain ⟨j, _, rfl⟩ := List.mem_map.1 hu
  rfl
theorem wpList_rest {ops : Array Oper} {Q : Exit → Act → World → Prop} {o : Oper} {rest : List Oper} {a : Act} {W : World} {x y : Operand} {v : Value} {base n nr cr : Nat} {ar : Option Addr} {rz : Nat → Nat} {xs : List Value}
    (ho : o.op = .call { callee := .builtin .append, args := #[x, y], argTypes := #[22, 22] }) (hg : o.guard = none) (hx : a.eval x = v) (hy : a.eval y = .slice ar nr cr) (h : W.ownsRow base 5 1 v n xs) (hR : RI W ar nr cr rz) (hn : n ≤ 1000000) (hm : nr ≤ 1000000) (hb0 : base ≤ W.heap.size)
    (hk : ∀ v' W', W'.ownsRow base 5 1 v' (n + nr) (xs ++ rowB rz nr) → W.grownBy W' v.ownBlock → wpList Tryd.prog ops Q rest (a.put o.dst v') W') : wpList Tryd.prog ops Q (o :: rest) a W := by
  obtain ⟨i0, hi, hz0, hz1, hz2⟩ := info_parts info5
  rcases hR with ⟨rfl, rfl, rfl⟩ | ⟨ad, rfl, hc⟩
  · refine wpList_append_own_none hg x y 22 ho base 5 i0 1 Tryd.underlying22 hi v n xs hx h hy ?_
    exact hk v W (by simpa [rowB, upto] using h) ⟨rfl, rfl, rfl, Nat.le_refl _, fun _ _ _ => rfl⟩
  · refine wpList_append_own W hg x y 22 ho base 5 i0 (.int .u8 0) 1 1 Tryd.underlying22 hi hz0 hz1 hz2 rfl (by decide) v n xs hx h ad nr cr (rowB rz nr) hy (by rw [rowB_len]; omega) (fun j u hu => ?_) (ones_row rz nr) (by unfold maxLen; omega) (by omega) hb0 ?_
    · have hj := (List.getElem?_eq_some_iff.1 hu).1
      rw [rowB_len] at hj
      rw [rowB_at rz nr j hj] at hu
      cases hu
      exact hc j hj
    · exact fun v' W' h1 h2 _ => hk v' W' h1 h2
theorem RG.below {w W W' : World} {b n0 n : Nat} {cs : Array Value} {t : TypeId} {xs : List Value} {v : Value} (h : RG w b n0 cs t n xs v W) (hb : Below W.heap.size W W') : RG w b n0 cs t n xs v W' :=
  ⟨(hb.block b (Array.getElem?_eq_some_iff.1 h.1).1).trans h.1, h.2.1.kept ⟨hb.os, hb.tape, hb.output, hb.size, fun q hq _ => hb.block q hq⟩ (row := none) (by cases v.ownBlock <;> simp), h.2.2.1.trans (hb.mono h.2.2.1.size), Nat.le_trans h.2.2.2 hb.size⟩
/-- A box and what is below. -/
def BX (w : World) (cs : Array Value) (W : World) : Prop := W.heap[w.heap.size]? = some (.cells cs 27 (0, 0)) ∧ Below w.heap.size w W
theorem BX.new {w : World} (cs : Array Value) : BX w cs (w.alloc (.cells cs 27)) := ⟨heap_alloc_last w _, (Below.refl _ w).alloc (Nat.le_refl _) _⟩
theorem BX.set {w W : World} {cs : Array Value} (h : BX w cs W) (i : Nat) (x : Value) : BX w (cs.setIfInBounds i x) (W.setCell ⟨w.heap.size, i, none⟩ x) := ⟨set_at h.1, h.2.setCell (p := ⟨w.heap.size, i, none⟩) (by dsimp only; omega) _⟩
set_option maxRecDepth 100000 in
set_option maxHeartbeats 8000000 in
theorem laid_any (en so sc : Nat) (zs : List Sg) (cs : List Sc) (a1 a2 : Option Addr) (p1 p2 : Nat) (ar : Option Addr) (nr cr : Nat) (rz : Nat → Nat) (hz : ∀ s ∈ zs, s.ok) (hc : ∀ s ∈ cs, s.ok) (hn : zs.length ≤ 1000) (hm : cs.length ≤ 1000) (hnr : nr ≤ 10000) (w : World)
    (h1 : RX w a1 (zs.flatMap Sg.cs)) (h2 : RX w a2 (cs.flatMap Sc.cs)) (h3 : RI w ar nr cr rz) :
    Calls Tryd.prog 24 #[.agg #[.int .u64 (en : Nat), .int .u64 (so : Nat), .int .u64 (sc : Nat), .slice a1 zs.length p1, .slice a2 cs.length p2], .slice ar nr cr] w fun e W' => ∃ v, e = .returned v ∧
      W'.ownsRow (w.heap.size + 1) 5 1 v (64 + 56 * zs.length + 64 * cs.length + nr) (rowB (laidZ en zs cs rz) (64 + 56 * zs.length + 64 * cs.length + nr)) ∧ Below w.heap.size w W' := by
  have HX1 := Lib.hid (fun W (hb : Below w.heap.size w W) => h1.keep hb)
  have HX2 := Lib.hid (fun W (hb : Below w.heap.size w W) => h2.keep hb)
  have HX3 := Lib.hid (fun W (hb : Below w.heap.size w W) => h3.keep hb)
  have HO := Lib.hid (And.intro hz hc)
  have HR0 : Hid (rowB (laidZ en zs cs rz) (64 + 56 * 0) = rheadL en 64 (64 + 56 * zs.length) zs.length cs.length) := Lib.hid laid_row0
  have HR1 : Hid (∀ k s, zs[k]? = some s → rowB (laidZ en zs cs rz) (64 + 56 * (k + 1)) = rowB (laidZ en zs cs rz) (64 + 56 * k) ++ rowB s.f 56) := Lib.hid (fun k s h => laid_row1 h)
  have HR2 : Hid (∀ k s, cs[k]? = some s → rowB (laidZ en zs cs rz) (64 + 56 * zs.length + 64 * (k + 1)) = rowB (laidZ en zs cs rz) (64 + 56 * zs.length + 64 * k) ++ rowB s.f 64) := Lib.hid (fun k s h => laid_row2 h)
  have HR3 : Hid (rowB (laidZ en zs cs rz) (64 + 56 * zs.length + 64 * cs.length + nr) = rowB (laidZ en zs cs rz) (64 + 56 * zs.length + 64 * cs.length) ++ rowB rz nr) := Lib.hid (laid_row3 nr)
  clear h1 h2 h3 hz hc
  generalize laidZ en zs cs rz = Z at *
  obtain ⟨i0, hi, hz0, hz1, hz2⟩ := info_parts info5
  have HI0 := Lib.hid (And.intro hi (And.intro hz0 (And.intro hz1 hz2)))
  clear hi hz0 hz1 hz2
  obtain ⟨n, hn1⟩ : ∃ n, zs.length = n := ⟨_, rfl⟩
  obtain ⟨m, hm1⟩ : ∃ m, cs.length = m := ⟨_, rfl⟩
  rw [hn1] at hn HR0 HR2 HR3
  rw [hm1] at hm HR0 HR3
  rw [hn1, hm1]
  have HL := Lib.hid (And.intro hn1 hm1)
  clear hn1 hm1
  have HS := Lib.hid (BX.new (w := w) #[.int .u64 (en : Nat), .int .u64 (so : Nat), .int .u64 (sc : Nat), .slice a1 n p1, .slice a2 m p2])
  have u1 : IntKind.u64.wrap (n : Int) = (n : Int) := IntWalk.u64_in _ (by omega)
  have u2 : IntKind.u64.wrap (56 * (n : Int)) = 56 * (n : Int) := IntWalk.u64_in _ (by omega)
  have u3 : IntKind.u64.wrap (64 + 56 * (n : Int)) = 64 + 56 * (n : Int) := IntWalk.u64_in _ (by omega)
  go_enter Tryd.func24, Tryd.ntmps24
  go_upto_region 1 with fail
  generalize World.alloc w _ = W1 at HS ⊢
  have f1 := frozen_at HS.out.1 1
  have r1 := cell_at (i := 1) (v := .int .u64 (so : Nat)) HS.out.1 rfl
  go_upto_region 2 with fail
  replace HS : Hid (BX w #[.int .u64 (en : Nat), .int .u64 64, .int .u64 (sc : Nat), .slice a1 n p1, .slice a2 m p2] _) := Lib.hid (HS.out.set 1 (.int .u64 64))
  generalize World.setCell W1 _ _ = W2 at HS ⊢
  clear f1 r1
  have f2 := frozen_at HS.out.1 2
  have r2 := cell_at (i := 2) (v := .int .u64 (sc : Nat)) HS.out.1 rfl
  have r3 := cell_at (i := 3) (v := .slice a1 n p1) HS.out.1 rfl
  go_upto_region 3 with fail
  replace HS : Hid (BX w #[.int .u64 (en : Nat), .int .u64 64, .int .u64 (64 + 56 * (n : Int)), .slice a1 n p1, .slice a2 m p2] _) := Lib.hid (HS.out.set 2 (.int .u64 (64 + 56 * (n : Int))))
  generalize World.setCell W2 _ _ = W3 at HS ⊢
  clear f2 r2 r3 u1 u2 u3
  have HCA : Hid ((64 + 56 * (n : Int)) = ((64 + 56 * n : Nat) : Int)) := Lib.hid (by omega)
  rw [HCA.out] at HS
  generalize hq : 64 + 56 * n = N0 at HS HCA HR0
  clear hq
  have r0 := cell_at (i := 0) (v := .int .u64 (en : Nat)) HS.out.1 rfl
  have r1 := cell_at (i := 1) (v := .int .u64 64) HS.out.1 rfl
  have r2 := cell_at (i := 2) (v := .int .u64 (N0 : Nat)) HS.out.1 rfl
  have r3 := cell_at (i := 3) (v := .slice a1 n p1) HS.out.1 rfl
  have r4 := cell_at (i := 4) (v := .slice a2 m p2) HS.out.1 rfl
  go_wp2_with fail
  go_at_call 15
  refine (rhead_any en 64 N0 n m a1 a2 p1 p2 (by omega) (by omega) _).mono ?_
  rintro e W4 ⟨v0, rfl, ho, hb⟩
  clear r0 r1 r2 r3 r4
  have HG : Hid (RG w w.heap.size (w.heap.size + 1) #[.int .u64 (en : Nat), .int .u64 64, .int .u64 (N0 : Nat), .slice a1 n p1, .slice a2 m p2] 27 (64 + 56 * 0) (rowB Z (64 + 56 * 0)) v0 W4) := Lib.hid
    ⟨(hb.block _ (Array.getElem?_eq_some_iff.1 HS.out.1).1).trans HS.out.1, by rw [HR0.out]; exact owns_lower ho (by have := (Array.getElem?_eq_some_iff.1 HS.out.1).1; omega), HS.out.2.trans (hb.mono HS.out.2.size), Nat.le_trans (Array.getElem?_eq_some_iff.1 HS.out.1).1 hb.size⟩
  clear ho hb HS HR0
  have hbg : w.heap.size < w.heap.size + 1 := by omega
  have hwg : w.heap.size ≤ w.heap.size + 1 := by omega
  go_wp2_with fail
  go_loopw [5, 6] (fun v i W => ∃ k : Nat, k ≤ n ∧ i = .int .i64 k ∧ Hid (RG w w.heap.size (w.heap.size + 1) #[.int .u64 (en : Nat), .int .u64 64, .int .u64 (N0 : Nat), .slice a1 n p1, .slice a2 m p2] 27 (64 + 56 * k) (rowB Z (64 + 56 * k)) v W)) (fun _ i _ => n - (intOf i).toNat)
  case atStart => exact ⟨0, by omega, rfl, HG⟩
  case round =>
    clear HG
    obtain ⟨k, hk, rfl, HG⟩ := hrel
    have c3 := cell_at (i := 3) (v := .slice a1 n p1) HG.out.1 rfl
    by_cases hlt : k < n
    · obtain ⟨s, hs⟩ : ∃ s, zs[k]? = some s := ⟨zs[k]'(by have := HL.out.1; omega), List.getElem?_eq_getElem _⟩
      have HK1 := Lib.hid hs
      have HOK := Lib.hid (HO.out.1 s (List.mem_of_getElem? hs))
      have HRR := Lib.hid (HR1.out k s hs)
      clear hs
      obtain ⟨x1, o1, ha1, f0, f1, f2, f3, f4, f5, f6⟩ := Sg_at (HX1.out wr HG.out.2.2.1) HK1.out
      subst ha1
      go_wp2_with fail
      go_at_call 17
      refine (rseg_any s.1 s.2.1 s.2.2.1 s.2.2.2.1 s.2.2.2.2.1 s.2.2.2.2.2.1 s.2.2.2.2.2.2 HOK.out.1 HOK.out.2.1 _).mono ?_
      rintro e W5 ⟨v5, rfl, ho, hb⟩
      clear f0 f1 f2 f3 f4 f5 f6 c3
      have HV : Hid (W5.ownsRow (wr.heap.size + 1) 5 1 v5 56 (rowB s.f 56)) := Lib.hid (by rw [seg_row] at ho; exact ho)
      replace HG := Lib.hid (HG.out.below hb)
      clear ho hb
      obtain ⟨g, cap, rfl⟩ : ∃ g cap, v5 = .slice (some ⟨g, 0, none⟩) 56 cap := by
        rcases HV.out.2 with ⟨_, h0⟩ | ⟨g, cap, cur, hv, _⟩
        · omega
        · exact ⟨g, cap, hv⟩
      have HC := Lib.hid (HV.out.cells (g := g) rfl)
      clear HV
      go_wp2_with (first | (at_builtin; refine wpList_append_own _ rfl _ _ 22 rfl (w.heap.size + 1) 5 i0 (.int .u8 0) 1 1 Tryd.underlying22 HI0.out.1 HI0.out.2.1 HI0.out.2.2.1 HI0.out.2.2.2 rfl (by decide) _ (64 + 56 * k) (rowB Z (64 + 56 * k)) rfl HG.out.2.1 ⟨g, 0, none⟩ 56 cap (rowB s.f 56) rfl (by rw [rowB_len]) HC.out (ones_row s.f 56) (by unfold maxLen; omega) (by omega) HG.out.2.2.2 ?_) | fail)
      intro v6 W6 hown hgr _
      rw [← HRR.out] at hown
      have HG2 := Lib.hid (HG.out.put hbg hwg hown hgr)
      clear hown hgr HG HC
      go_wp2_with fail
      go_roundw
      case rel => exact ⟨k + 1, by omega, by go_num, HG2⟩
      case measure => simp [intOf]; omega
    · obtain rfl : n = k := by omega
      go_wp2_with fail
      clear c3
      go_loopw [5, 7] (fun v i W => ∃ k : Nat, k ≤ m ∧ i = .int .i64 k ∧ Hid (RG w w.heap.size (w.heap.size + 1) #[.int .u64 (en : Nat), .int .u64 64, .int .u64 (N0 : Nat), .slice a1 n p1, .slice a2 m p2] 27 (64 + 56 * n + 64 * k) (rowB Z (64 + 56 * n + 64 * k)) v W)) (fun _ i _ => m - (intOf i).toNat)
      case atStart => exact ⟨0, by omega, rfl, HG⟩
      case round =>
        clear HG
        obtain ⟨k, hk, rfl, HG⟩ := hrel
        have c3 := cell_at (i := 4) (v := .slice a2 m p2) HG.out.1 rfl
        by_cases hlt : k < m
        · obtain ⟨s, hs⟩ : ∃ s, cs[k]? = some s := ⟨cs[k]'(by have := HL.out.2; omega), List.getElem?_eq_getElem _⟩
          have HK1 := Lib.hid hs
          have HOK := Lib.hid (HO.out.2 s (List.mem_of_getElem? hs))
          have HRR := Lib.hid (HR2.out k s hs)
          clear hs
          obtain ⟨x1, o1, ha1, f0, f1, f2, f3, f4⟩ := Sc_at (HX2.out wr HG.out.2.2.1) HK1.out
          subst ha1
          go_wp2_with fail
          go_at_call 19
          refine (rsec_any s.1 s.2.1 s.2.2.1 s.2.2.2.1 s.2.2.2.2 HOK.out.1 HOK.out.2.2.2.1 _).mono ?_
          rintro e W5 ⟨v5, rfl, ho, hb⟩
          clear f0 f1 f2 f3 f4 c3
          have HV : Hid (W5.ownsRow (wr.heap.size + 1) 5 1 v5 64 (rowB s.f 64)) := Lib.hid (by rw [sec_row] at ho; exact ho)
          replace HG := Lib.hid (HG.out.below hb)
          clear ho hb
          obtain ⟨g, cap, rfl⟩ : ∃ g cap, v5 = .slice (some ⟨g, 0, none⟩) 64 cap := by
            rcases HV.out.2 with ⟨_, h0⟩ | ⟨g, cap, cur, hv, _⟩
            · omega
            · exact ⟨g, cap, hv⟩
          have HC := Lib.hid (HV.out.cells (g := g) rfl)
          clear HV
          go_wp2_with (first | (at_builtin; refine wpList_append_own _ rfl _ _ 22 rfl (w.heap.size + 1) 5 i0 (.int .u8 0) 1 1 Tryd.underlying22 HI0.out.1 HI0.out.2.1 HI0.out.2.2.1 HI0.out.2.2.2 rfl (by decide) _ (64 + 56 * n + 64 * k) (rowB Z (64 + 56 * n + 64 * k)) rfl HG.out.2.1 ⟨g, 0, none⟩ 64 cap (rowB s.f 64) rfl (by rw [rowB_len]) HC.out (ones_row s.f 64) (by unfold maxLen; omega) (by omega) HG.out.2.2.2 ?_) | fail)
          intro v6 W6 hown hgr _
          rw [← HRR.out] at hown
          have HG2 := Lib.hid (HG.out.put hbg hwg hown hgr)
          clear hown hgr HG HC
          go_wp2_with fail
          go_roundw
          case rel => exact ⟨k + 1, by omega, by go_num, HG2⟩
          case measure => simp [intOf]; omega
        · obtain rfl : m = k := by omega
          go_wp2_with (first | (refine wpList_rest rfl rfl rfl rfl HG.out.2.1 (HX3.out _ HG.out.2.2.1) (by omega) (by omega) HG.out.2.2.2 ?_) | fail)
          intro v7 W7 hown hgr
          rw [← HR3.out] at hown
          have HG2 := Lib.hid (HG.out.put hbg hwg hown hgr)
          clear hown hgr HG
          go_wp2_with fail
          go_ret
          exact ⟨_, rfl, HG2.out.2.1, HG2.out.2.2.1⟩
end Go.Proofs.YtnaggdhophncaaaDoor
