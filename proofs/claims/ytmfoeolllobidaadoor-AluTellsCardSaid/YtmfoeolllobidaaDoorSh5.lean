/- alu.Shift: to the left. alu.Shift: to the right. alu.Shift: to the right, signed. alu.Shift: turned to the left. alu.Shift: turned to the right. -/
import Derived.Test.YtmfoeolllobidaaDoorShb
import Derived.Deep.RegionHeld3
import Derived.Deep.DrawnRows
import Derived.RegionTactic
namespace Go.Proofs.YtmfoeolllobidaaDoor
open Go.RowKit Go.Shelf
set_option linter.unusedSimpArgs false
set_option linter.unusedVariables false
attribute [local go_sem] Oper.semAt_some
theorem HST_shl (wd : Int) (r : Nat) (hr : U r) : U ((shlN r wd, sB r wd)).1 := shl_U r hr wd
def RES_shl (st : Nat → Nat × Bool) (x k : Nat) (wd : Int) (c z s o p : Bool) : Value := .tuple #[.int .u64 ((it st (cN x wd) k).1 : Nat), fl ((it st (cN x wd) k).2) (zB (it st (cN x wd) k).1 wd) (sB (it st (cN x wd) k).1 wd) (sB (it st (cN x wd) k).1 wd != (it st (cN x wd) k).2) (pB (it st (cN x wd) k).1)]
set_option maxRecDepth 100000 in
set_option maxHeartbeats 4000000 in
theorem shift_shl4_in (F : Fence) (HF : Hid (F = Fence.wide)) (n : Nat) (hn3 : 3 ≤ n) (wd : Int) (x : Nat) (hx : U x) (m k : Nat) (hm8 : m < 256) (hk : k = m % 32) (hk0 : 0 < k) (c z s o p : Bool) (h8 : (hI wd == 8) = false) (w : World) (hm : Mk w) :
    CallsIn F n Tryd.prog 20 #[.int .u8 16, .int .i64 wd, .int .u64 x, .int .u8 (m : Int), fl c z s o p] w fun e w' => e = .returned (RES_shl (fun r => (shlN r wd, sB r wd)) x k wd c z s o p) ∧ Below w.heap.size w w' := by
  have hc0 := cN_U x hx wd
  have HM := Lib.hid hm
  have hmk : ((m : Int) % 32) = (k : Int) := by rw [hk]; simp
  have hkz : ((k : Int) == 0) = false := by simp; omega
  have hk64 : k < 64 := by omega
  have HK := Lib.hid hk0
  clear hm hk hk0
  have h1 : 1 ≤ n := by omega
  have hro : F.round = none := by rw [HF.out]; rfl
  have h20 : F.fn 20 := by rw [HF.out]; trivial
  have h73 : F.fn 73 := by rw [HF.out]; trivial
  refine callsIn_of_wp_marks Tryd.func20 rfl h20 ?_ hro
  simp only [Tryd.ntmps20, List.size_toArray, List.length_cons, List.length_nil, Nat.reduceAdd, Nat.reduceSub, Array.replicate_succ, Array.replicate_zero, List.push_toArray, List.append_toArray, List.nil_append, List.cons_append]
  refine wpIn_of_wp HF ?_
  go_wp2_with (first | (go_at_call 36; refine (cut_any _ hx _ _ (((HM.out.alloc _).alloc _).alloc _)).mono ?_; rintro e w' ⟨rfl, rfl⟩) | (go_at_call 41; refine (aheld_any _ _).mono ?_; rintro e w' ⟨rfl, rfl⟩))
  go_at_call 42
  refine (shiftsAt_16 _ _ _).mono ?_
  rintro e W1 ⟨b, rfl, hlk, hl4⟩
  have HL4 := Lib.hid hl4
  clear hl4
  go_wp2_with fail
  go_at_call 43
  refine (fallen_calls _ _ _ _ _ _).mono ?_
  rintro e W2 ⟨rfl, rfl⟩
  go_wp2
  have hbase := base_of w W1 c z s o p wd (cN x wd) k (.func (Fn.func 62) #[] #[.pointer (some ⟨w.heap.size + 1 + 1 + 1, 0, none⟩), .pointer (some ⟨w.heap.size + 1 + 1 + 1 + 1 + 1 + 1, 0, none⟩)]) (.func (Fn.func 63) #[] #[.pointer (some ⟨w.heap.size + 1 + 1 + 1 + 1 + 1 + 1, 0, none⟩)]) false HL4.out
  have hbig := hbase.big
  change Code.wp Tryd.prog _ _ _ (base5 W1 (.func (Fn.func 62) #[] #[.pointer (some ⟨w.heap.size + 1 + 1 + 1, 0, none⟩), .pointer (some ⟨w.heap.size + 1 + 1 + 1 + 1 + 1 + 1, 0, none⟩)]) (.func (Fn.func 63) #[] #[.pointer (some ⟨w.heap.size + 1 + 1 + 1 + 1 + 1 + 1, 0, none⟩)]) false (cN x wd) k)
  generalize base5 W1 (.func (Fn.func 62) #[] #[.pointer (some ⟨w.heap.size + 1 + 1 + 1, 0, none⟩), .pointer (some ⟨w.heap.size + 1 + 1 + 1 + 1 + 1 + 1, 0, none⟩)]) (.func (Fn.func 63) #[] #[.pointer (some ⟨w.heap.size + 1 + 1 + 1 + 1 + 1 + 1, 0, none⟩)]) false (cN x wd) k = Wb at hbase ⊢
  have HB := Lib.hid hbase
  have hsz := hbase.sz
  clear hbase hlk HL4
  refine wp_of_wpIn HF n ?_
  have hfal := fallen_shl F HF (n - 1) k (cN x wd) hk64 hc0 wd (cN x wd) (w.heap.size + 1 + 1 + 1) (w.heap.size + 1 + 1 + 1 + 1) (w.heap.size + 1 + 1 + 1 + 1 + 1) (w.heap.size + 1 + 1 + 1 + 1 + 1 + 1) (W1.heap.size + 1 + 1 + 1) (W1.heap.size + 1 + 1 + 1 + 1) (W1.heap.size + 1 + 1) (Rnd w Wb (w.heap.size + 1) (W1.heap.size + 1) (W1.heap.size + 1 + 1) (cN x wd)) (HST_shl wd)
    (fun pre W h => HB.out.env HM.out h) (fun pre W h => (show Boxed W (W1.heap.size + 1 + 1 + 1) 3 (.int .i64 (k : Int)) from h.kp _ _ _ _ (by omega) (by omega) (by omega) HB.out.bn).cell) (fun pre W h => (show Boxed W (W1.heap.size + 1 + 1 + 1 + 1) 50 _ from h.kp _ _ _ _ (by omega) (by omega) (by omega) HB.out.bt).cell)
    (fun pre W h => by obtain ⟨v, hv, _⟩ := h.a; exact ⟨hv.frozen, v, hv.cell⟩) (fun W h => by obtain ⟨v, hv, e⟩ := h.a; rw [e rfl] at hv; exact hv.cell)
    (fun pre W x hp h => h.setA hp (by omega) (by omega) (by omega) x) (fun pre W q h => h.drewN q)
  have HF := Lib.hid hfal
  clear hfal
  refine range_cells (gf := 73) hro h1 rfl h73 (enters_of Tryd.func73 (by kernel_rfl) rfl) (fun x : Nat × Bool => #[.int .u64 (x.1 : Int), .bool x.2]) (fun _ => rfl)
    (Rnd w Wb (w.heap.size + 1) (W1.heap.size + 1) (W1.heap.size + 1 + 1) (cN x wd)) (fun xs => xs = ups (fun r => (shlN r wd, sB r wd)) (cN x wd) k) k (Rnd.own (by omega)) HB.out.start ?a1 ?assign ?body HF.out ?done
  case assign =>
    intro l x W K hK
    gi_wp2
    exact hK
  case body =>
    intro l pre x W hI hlt
    have HI := Lib.hid hI
    have c1 := hI.r.cell
    have f1 := hI.r.frozen
    have c2 := hI.q.cell
    have f2 := hI.q.frozen
    have n1 : ¬ w.heap.size + 1 = W1.heap.size + 1 := by omega
    have n2 : ¬ W1.heap.size + 1 = w.heap.size + 1 := by omega
    clear hI
    gi_wp2
    exact ⟨(KeepsOthers.setCell _ _ _).trans (KeepsOthers.setCell _ _ _), HI.out.next (by omega) (by omega) (by omega) (by omega) (by omega)⟩
  case done =>
    rintro D xs W hD rfl hI hK
    have hk0 := HK.out
    have hr := hI.r
    rw [rvOf_ups _ _ _ hk0] at hr
    have hq := hI.q
    rw [lvOf_ups _ _ _ hk0] at hq
    have hE := HB.out.env HM.out hI
    have hu := it_U (fun r => (shlN r wd, sB r wd)) (cN x wd) hc0 (HST_shl wd) k
    have hs : W.heap[W1.heap.size]? = some (.cells #[.func (Fn.func 62) #[] #[.pointer (some ⟨w.heap.size + 1 + 1 + 1, 0, none⟩), .pointer (some ⟨w.heap.size + 1 + 1 + 1 + 1 + 1 + 1, 0, none⟩)], .func (Fn.func 63) #[] #[.pointer (some ⟨w.heap.size + 1 + 1 + 1 + 1 + 1 + 1, 0, none⟩)], .bool false] 53 (0, 0)) := hI.kp _ _ _ _ (by omega) (by omega) (by omega) HB.out.bs
    have cs1 : W.cell? ⟨W1.heap.size, 1, none⟩ = some (.func (Fn.func 63) #[] #[.pointer (some ⟨w.heap.size + 1 + 1 + 1 + 1 + 1 + 1, 0, none⟩)]) := by simp [World.cell?, hs]
    have cs2 : W.cell? ⟨W1.heap.size, 2, none⟩ = some (.bool false) := by simp [World.cell?, hs]
    generalize hR : it (fun r => (shlN r wd, sB r wd)) (cN x wd) k = R at hr hq hu
    have HR := Lib.hid hR
    have HI := Lib.hid hI
    have HKD := Lib.hid hK
    have cr := hr.cell
    have fr := hr.frozen
    have cq := hq.cell
    obtain ⟨hMW, hcw, hca, hcl, hch⟩ := hE
    have HE : Hid (Env wd (cN x wd) (w.heap.size + 1 + 1 + 1) (w.heap.size + 1 + 1 + 1 + 1) (w.heap.size + 1 + 1 + 1 + 1 + 1) (w.heap.size + 1 + 1 + 1 + 1 + 1 + 1) W) := Lib.hid ⟨hMW, hcw, hca, hcl, hch⟩
    clear hk0 hr hq hs hR hI hK hMW hcw hca hcl hch
    go_wp2_with fail
    go_at_call 63
    refine (shl_flags _ hu _ wd _ _ _ _ _ _ HE.out).mono ?_
    rintro e w1 ⟨rfl, q, rfl⟩
    have HT : Hid (Tl w D (.int .u64 (R.1 : Int)) (W.drewN q)) := Lib.hid ((show Tl w D (.int .u64 (R.1 : Int)) W from ⟨by have := HI.out.r; rw [rvOf_ups _ _ _ HK.out, HR.out] at this; exact this, ⟨_, _, _, _, _, HI.out.kp _ _ _ _ (by omega) (by omega) (by omega) HB.out.bf⟩, HI.out.bel, HKD.out⟩).drewN q)
    go_wp2
    clear cs1 cs2 cr fr cq
    generalize W.drewN q = W2 at HT ⊢
    refine wp_region_noPanic ?_
    refine wp_region_held_drew (S := fun W => Tl w D (.int .u64 (R.1 : Int)) W) (by kernel_rfl) ?_ (fun hHeld => ?_)
    · (first | (with_reducible assumption) | exact HT.out.drew)
    refine wpAnyH_take (i := 0) (v := ?_) rfl (by kernel_rfl) (by kernel_rfl) (by kernel_rfl) (fun _ _ _ h => h) (Or.inl ⟨by kernel_rfl, ?_⟩) (by assumption) ?_
    rotate_left
    · intro w hSw
      have h1 := hSw.box.cell
      go_simp
      try with_reducible rfl
    simp only [Act.put, List.setIfInBounds_toArray, List.set_cons_zero, List.set_cons_succ, List.getElem_toArray, List.getElem_cons_succ, List.getElem_cons_zero]
    refine wpAnyH_take (i := 1) (v := ?_) rfl (by kernel_rfl) (by kernel_rfl) (by kernel_rfl) (fun _ _ _ h => h) (Or.inl ⟨by kernel_rfl, ?_⟩) (by assumption) ?_
    rotate_left
    · intro w hSw
      have h1 := hSw.box.cell
      go_simp
      try with_reducible rfl
    simp only [Act.put, List.setIfInBounds_toArray, List.set_cons_zero, List.set_cons_succ, List.getElem_toArray, List.getElem_cons_succ, List.getElem_cons_zero]
    refine wpAnyH_take (i := 2) (v := ?_) rfl (by kernel_rfl) (by kernel_rfl) (by kernel_rfl) (fun _ _ _ h => h) (Or.inl ⟨by kernel_rfl, ?_⟩) (by assumption) ?_
    rotate_left
    · intro w hSw
      have h1 := hSw.box.cell
      go_simp
      try with_reducible rfl
    simp only [Act.put, List.setIfInBounds_toArray, List.set_cons_zero, List.set_cons_succ, List.getElem_toArray, List.getElem_cons_succ, List.getElem_cons_zero]
    refine wpAnyH_take (i := 3) (v := ?_) rfl (by kernel_rfl) (by kernel_rfl) (by kernel_rfl) (fun _ _ _ h => h) (Or.inl ⟨by kernel_rfl, ?_⟩) (by assumption) ?_
    rotate_left
    · intro w hSw
      have h1 := hSw.box.cell
      go_simp
      try with_reducible rfl
    simp only [Act.put, List.setIfInBounds_toArray, List.set_cons_zero, List.set_cons_succ, List.getElem_toArray, List.getElem_cons_succ, List.getElem_cons_zero]
    refine wpAnyH_take (i := 4) (v := ?_) rfl (by kernel_rfl) (by kernel_rfl) (by kernel_rfl) (fun _ _ _ h => h) (Or.inl ⟨by kernel_rfl, ?_⟩) (by assumption) ?_
    rotate_left
    · intro w hSw
      have h1 := hSw.box.cell
      go_simp
      try with_reducible rfl
    simp only [Act.put, List.setIfInBounds_toArray, List.set_cons_zero, List.set_cons_succ, List.getElem_toArray, List.getElem_cons_succ, List.getElem_cons_zero]
    refine wpAnyH_ready (rs := [5]) (by kernel_rfl) (by simp) ?_
    refine AllReadyH.cons rfl (fun K hK => ?_) AllReadyH.nil
    rw [if_pos (by kernel_rfl)]; go_simp; go_at_call 33; (with_reducible refine (told_any _ hu _ _ _ _ (HM.out.own hHeld.bel)).mono ?_); rintro e w1 ⟨rfl, hb1⟩
    refine hK.out _ _ (hHeld.below hb1) (fun hHeld2 => ?_)
    clear hK K hHeld hb1
    have hHeld := hHeld2
    clear hHeld2
    try simp only [Act.put, List.setIfInBounds_toArray, List.set_cons_zero, List.set_cons_succ, List.getElem_toArray, List.getElem_cons_succ, List.getElem_cons_zero]
    refine wpAnyH_ready (rs := [6]) (by kernel_rfl) (by simp) ?_
    refine AllReadyH.cons rfl (fun K hK => ?_) AllReadyH.nil
    have c1 := hHeld.box.cell
    have f1 := hHeld.box.frozen
    go_simp
    refine hK.out _ _ hHeld.setr (fun hHeld2 => ?_)
    clear hK K hHeld c1 f1
    have hHeld := hHeld2
    clear hHeld2
    try simp only [Act.put, List.setIfInBounds_toArray, List.set_cons_zero, List.set_cons_succ, List.getElem_toArray, List.getElem_cons_succ, List.getElem_cons_zero]
    generalize World.setCell _ _ _ = W7 at hHeld ⊢
    refine wpAnyH_ready (rs := [7]) (by kernel_rfl) (by simp) ?_
    refine AllReadyH.cons rfl (fun K hK => ?_) AllReadyH.nil
    obtain ⟨v0, v1, v2, v3, v4, hv⟩ := hHeld.res
    have g0 : W7.cell? ⟨w.heap.size + 1 + 1, 0, none⟩ = some v0 := by simp [World.cell?, hv]
    have g1 : W7.cell? ⟨w.heap.size + 1 + 1, 1, none⟩ = some v1 := by simp [World.cell?, hv]
    have g2 : W7.cell? ⟨w.heap.size + 1 + 1, 2, none⟩ = some v2 := by simp [World.cell?, hv]
    have g3 : W7.cell? ⟨w.heap.size + 1 + 1, 3, none⟩ = some v3 := by simp [World.cell?, hv]
    have g4 : W7.cell? ⟨w.heap.size + 1 + 1, 4, none⟩ = some v4 := by simp [World.cell?, hv]
    have f0 : W7.frozen? ⟨w.heap.size + 1 + 1, 0, none⟩ = false := by simp [World.frozen?, hv]
    have f1 : W7.frozen? ⟨w.heap.size + 1 + 1, 1, none⟩ = false := by simp [World.frozen?, hv]
    have f2 : W7.frozen? ⟨w.heap.size + 1 + 1, 2, none⟩ = false := by simp [World.frozen?, hv]
    have f3 : W7.frozen? ⟨w.heap.size + 1 + 1, 3, none⟩ = false := by simp [World.frozen?, hv]
    have f4 : W7.frozen? ⟨w.heap.size + 1 + 1, 4, none⟩ = false := by simp [World.frozen?, hv]
    go_simp
    have h9 := Lib.hid (hHeld.setf (.bool R.2) (.bool (zB R.1 wd)) (.bool (sB R.1 wd)) (.bool (sB R.1 wd != R.2)) (.bool (pB R.1)))
    refine hK.out _ _ h9.out.1 (fun hHeld2 => ?_)
    clear hK K hHeld hHeld2 g0 g1 g2 g3 g4 f0 f1 f2 f3 f4 hv
    try simp only [Act.put, List.setIfInBounds_toArray, List.set_cons_zero, List.set_cons_succ, List.getElem_toArray, List.getElem_cons_succ, List.getElem_cons_zero]
    refine wpAnyH_done (by kernel_rfl) ?_ _
    refine NoPanic.normal ?_
    generalize World.setCell (World.setCell (World.setCell (World.setCell (World.setCell _ _ _) _ _) _ _) _ _) _ _ = W9 at h9 ⊢
    obtain ⟨⟨q1, _, q3, q4⟩, q5⟩ := h9.out
    have hRR := HR.out
    clear h9
    go_wp2
    refine ⟨by simp, .inl ⟨_, _, rfl, run_takeDeferred q4, ?_⟩⟩
    have n1 : w.heap.size + 1 ≠ D := by rintro rfl; rw [show W9.heap[w.heap.size + 1]? = _ from q1] at q4; cases q4
    have n2 : w.heap.size + 1 + 1 ≠ D := by rintro rfl; rw [q5] at q4; cases q4
    have e1 : (W9.putObj D (Obj.deferred none)).heap[w.heap.size + 1]? = _ := (World.putObj_heap_other n1).trans q1
    have e5 := (World.putObj_heap_other (o := Obj.deferred none) n2).trans q5
    have b9 : Below w.heap.size w (W9.putObj D (Obj.deferred none)) := q3.trans ⟨rfl, rfl, rfl, by simp, fun k hk => World.putObj_heap_other (by omega)⟩
    generalize W9.putObj D (Obj.deferred none) = W10 at e1 e5 b9 ⊢
    have c0 : W10.cell? ⟨w.heap.size + 1, 0, none⟩ = some (.int .u64 (R.1 : Int)) := by simp [World.cell?, e1]
    have g0 : W10.cell? ⟨w.heap.size + 1 + 1, 0, none⟩ = some (.bool (R.2)) := by simp [World.cell?, e5]
    have g1 : W10.cell? ⟨w.heap.size + 1 + 1, 1, none⟩ = some (.bool (zB R.1 wd)) := by simp [World.cell?, e5]
    have g2 : W10.cell? ⟨w.heap.size + 1 + 1, 2, none⟩ = some (.bool (sB R.1 wd)) := by simp [World.cell?, e5]
    have g3 : W10.cell? ⟨w.heap.size + 1 + 1, 3, none⟩ = some (.bool (sB R.1 wd != R.2)) := by simp [World.cell?, e5]
    have g4 : W10.cell? ⟨w.heap.size + 1 + 1, 4, none⟩ = some (.bool (pB R.1)) := by simp [World.cell?, e5]
    exact ⟨.tuple #[.int .u64 (R.1 : Int), fl (R.2) (zB R.1 wd) (sB R.1 wd) (sB R.1 wd != R.2) (pB R.1)], by simp [results, Tryd.results20, go_sem, *], by unfold RES_shl; rw [hRR], b9⟩
theorem shift_shl4 (wd : Int) (x : Nat) (hx : U x) (m k : Nat) (hm8 : m < 256) (hk : k = m % 32) (hk0 : 0 < k) (c z s o p : Bool) (h8 : (hI wd == 8) = false) (w : World) (hm : Mk w) :
    Calls Tryd.prog 20 #[.int .u8 16, .int .i64 wd, .int .u64 x, .int .u8 (m : Int), fl c z s o p] w fun e w' => e = .returned (RES_shl (fun r => (shlN r wd, sB r wd)) x k wd c z s o p) ∧ Below w.heap.size w w' :=
  callsIn_wide.1 (shift_shl4_in Fence.wide (Lib.hid rfl) 3 (Nat.le_refl _) wd x hx m k hm8 hk hk0 c z s o p h8 w hm)
set_option maxRecDepth 100000 in
set_option maxHeartbeats 4000000 in
theorem shift_shl8_in (F : Fence) (HF : Hid (F = Fence.wide)) (n : Nat) (hn3 : 3 ≤ n) (wd : Int) (x : Nat) (hx : U x) (m k : Nat) (hm8 : m < 256) (hk : k = m % 64) (hk0 : 0 < k) (c z s o p : Bool) (h8 : (hI wd == 8) = true) (w : World) (hm : Mk w) :
    CallsIn F n Tryd.prog 20 #[.int .u8 16, .int .i64 wd, .int .u64 x, .int .u8 (m : Int), fl c z s o p] w fun e w' => e = .returned (RES_shl (fun r => (shlN r wd, sB r wd)) x k wd c z s o p) ∧ Below w.heap.size w w' := by
  have hc0 := cN_U x hx wd
  have HM := Lib.hid hm
  have hmk : ((m : Int) % 64) = (k : Int) := by rw [hk]; simp
  have hkz : ((k : Int) == 0) = false := by simp; omega
  have hk64 : k < 64 := by omega
  have HK := Lib.hid hk0
  clear hm hk hk0
  have h1 : 1 ≤ n := by omega
  have hro : F.round = none := by rw [HF.out]; rfl
  have h20 : F.fn 20 := by rw [HF.out]; trivial
  have h73 : F.fn 73 := by rw [HF.out]; trivial
  refine callsIn_of_wp_marks Tryd.func20 rfl h20 ?_ hro
  simp only [Tryd.ntmps20, List.size_toArray, List.length_cons, List.length_nil, Nat.reduceAdd, Nat.reduceSub, Array.replicate_succ, Array.replicate_zero, List.push_toArray, List.append_toArray, List.nil_append, List.cons_append]
  refine wpIn_of_wp HF ?_
  go_wp2_with (first | (go_at_call 36; refine (cut_any _ hx _ _ (((HM.out.alloc _).alloc _).alloc _)).mono ?_; rintro e w' ⟨rfl, rfl⟩) | (go_at_call 41; refine (aheld_any _ _).mono ?_; rintro e w' ⟨rfl, rfl⟩))
  go_at_call 42
  refine (shiftsAt_16 _ _ _).mono ?_
  rintro e W1 ⟨b, rfl, hlk, hl4⟩
  have HL4 := Lib.hid hl4
  clear hl4
  go_wp2_with fail
  go_at_call 43
  refine (fallen_calls _ _ _ _ _ _).mono ?_
  rintro e W2 ⟨rfl, rfl⟩
  go_wp2
  have hbase := base_of w W1 c z s o p wd (cN x wd) k (.func (Fn.func 62) #[] #[.pointer (some ⟨w.heap.size + 1 + 1 + 1, 0, none⟩), .pointer (some ⟨w.heap.size + 1 + 1 + 1 + 1 + 1 + 1, 0, none⟩)]) (.func (Fn.func 63) #[] #[.pointer (some ⟨w.heap.size + 1 + 1 + 1 + 1 + 1 + 1, 0, none⟩)]) false HL4.out
  have hbig := hbase.big
  change Code.wp Tryd.prog _ _ _ (base5 W1 (.func (Fn.func 62) #[] #[.pointer (some ⟨w.heap.size + 1 + 1 + 1, 0, none⟩), .pointer (some ⟨w.heap.size + 1 + 1 + 1 + 1 + 1 + 1, 0, none⟩)]) (.func (Fn.func 63) #[] #[.pointer (some ⟨w.heap.size + 1 + 1 + 1 + 1 + 1 + 1, 0, none⟩)]) false (cN x wd) k)
  generalize base5 W1 (.func (Fn.func 62) #[] #[.pointer (some ⟨w.heap.size + 1 + 1 + 1, 0, none⟩), .pointer (some ⟨w.heap.size + 1 + 1 + 1 + 1 + 1 + 1, 0, none⟩)]) (.func (Fn.func 63) #[] #[.pointer (some ⟨w.heap.size + 1 + 1 + 1 + 1 + 1 + 1, 0, none⟩)]) false (cN x wd) k = Wb at hbase ⊢
  have HB := Lib.hid hbase
  have hsz := hbase.sz
  clear hbase hlk HL4
  refine wp_of_wpIn HF n ?_
  have hfal := fallen_shl F HF (n - 1) k (cN x wd) hk64 hc0 wd (cN x wd) (w.heap.size + 1 + 1 + 1) (w.heap.size + 1 + 1 + 1 + 1) (w.heap.size + 1 + 1 + 1 + 1 + 1) (w.heap.size + 1 + 1 + 1 + 1 + 1 + 1) (W1.heap.size + 1 + 1 + 1) (W1.heap.size + 1 + 1 + 1 + 1) (W1.heap.size + 1 + 1) (Rnd w Wb (w.heap.size + 1) (W1.heap.size + 1) (W1.heap.size + 1 + 1) (cN x wd)) (HST_shl wd)
    (fun pre W h => HB.out.env HM.out h) (fun pre W h => (show Boxed W (W1.heap.size + 1 + 1 + 1) 3 (.int .i64 (k : Int)) from h.kp _ _ _ _ (by omega) (by omega) (by omega) HB.out.bn).cell) (fun pre W h => (show Boxed W (W1.heap.size + 1 + 1 + 1 + 1) 50 _ from h.kp _ _ _ _ (by omega) (by omega) (by omega) HB.out.bt).cell)
    (fun pre W h => by obtain ⟨v, hv, _⟩ := h.a; exact ⟨hv.frozen, v, hv.cell⟩) (fun W h => by obtain ⟨v, hv, e⟩ := h.a; rw [e rfl] at hv; exact hv.cell)
    (fun pre W x hp h => h.setA hp (by omega) (by omega) (by omega) x) (fun pre W q h => h.drewN q)
  have HF := Lib.hid hfal
  clear hfal
  refine range_cells (gf := 73) hro h1 rfl h73 (enters_of Tryd.func73 (by kernel_rfl) rfl) (fun x : Nat × Bool => #[.int .u64 (x.1 : Int), .bool x.2]) (fun _ => rfl)
    (Rnd w Wb (w.heap.size + 1) (W1.heap.size + 1) (W1.heap.size + 1 + 1) (cN x wd)) (fun xs => xs = ups (fun r => (shlN r wd, sB r wd)) (cN x wd) k) k (Rnd.own (by omega)) HB.out.start ?a1 ?assign ?body HF.out ?done
  case assign =>
    intro l x W K hK
    gi_wp2
    exact hK
  case body =>
    intro l pre x W hI hlt
    have HI := Lib.hid hI
    have c1 := hI.r.cell
    have f1 := hI.r.frozen
    have c2 := hI.q.cell
    have f2 := hI.q.frozen
    have n1 : ¬ w.heap.size + 1 = W1.heap.size + 1 := by omega
    have n2 : ¬ W1.heap.size + 1 = w.heap.size + 1 := by omega
    clear hI
    gi_wp2
    exact ⟨(KeepsOthers.setCell _ _ _).trans (KeepsOthers.setCell _ _ _), HI.out.next (by omega) (by omega) (by omega) (by omega) (by omega)⟩
  case done =>
    rintro D xs W hD rfl hI hK
    have hk0 := HK.out
    have hr := hI.r
    rw [rvOf_ups _ _ _ hk0] at hr
    have hq := hI.q
    rw [lvOf_ups _ _ _ hk0] at hq
    have hE := HB.out.env HM.out hI
    have hu := it_U (fun r => (shlN r wd, sB r wd)) (cN x wd) hc0 (HST_shl wd) k
    have hs : W.heap[W1.heap.size]? = some (.cells #[.func (Fn.func 62) #[] #[.pointer (some ⟨w.heap.size + 1 + 1 + 1, 0, none⟩), .pointer (some ⟨w.heap.size + 1 + 1 + 1 + 1 + 1 + 1, 0, none⟩)], .func (Fn.func 63) #[] #[.pointer (some ⟨w.heap.size + 1 + 1 + 1 + 1 + 1 + 1, 0, none⟩)], .bool false] 53 (0, 0)) := hI.kp _ _ _ _ (by omega) (by omega) (by omega) HB.out.bs
    have cs1 : W.cell? ⟨W1.heap.size, 1, none⟩ = some (.func (Fn.func 63) #[] #[.pointer (some ⟨w.heap.size + 1 + 1 + 1 + 1 + 1 + 1, 0, none⟩)]) := by simp [World.cell?, hs]
    have cs2 : W.cell? ⟨W1.heap.size, 2, none⟩ = some (.bool false) := by simp [World.cell?, hs]
    generalize hR : it (fun r => (shlN r wd, sB r wd)) (cN x wd) k = R at hr hq hu
    have HR := Lib.hid hR
    have HI := Lib.hid hI
    have HKD := Lib.hid hK
    have cr := hr.cell
    have fr := hr.frozen
    have cq := hq.cell
    obtain ⟨hMW, hcw, hca, hcl, hch⟩ := hE
    have HE : Hid (Env wd (cN x wd) (w.heap.size + 1 + 1 + 1) (w.heap.size + 1 + 1 + 1 + 1) (w.heap.size + 1 + 1 + 1 + 1 + 1) (w.heap.size + 1 + 1 + 1 + 1 + 1 + 1) W) := Lib.hid ⟨hMW, hcw, hca, hcl, hch⟩
    clear hk0 hr hq hs hR hI hK hMW hcw hca hcl hch
    go_wp2_with fail
    go_at_call 63
    refine (shl_flags _ hu _ wd _ _ _ _ _ _ HE.out).mono ?_
    rintro e w1 ⟨rfl, q, rfl⟩
    have HT : Hid (Tl w D (.int .u64 (R.1 : Int)) (W.drewN q)) := Lib.hid ((show Tl w D (.int .u64 (R.1 : Int)) W from ⟨by have := HI.out.r; rw [rvOf_ups _ _ _ HK.out, HR.out] at this; exact this, ⟨_, _, _, _, _, HI.out.kp _ _ _ _ (by omega) (by omega) (by omega) HB.out.bf⟩, HI.out.bel, HKD.out⟩).drewN q)
    go_wp2
    clear cs1 cs2 cr fr cq
    generalize W.drewN q = W2 at HT ⊢
    refine wp_region_noPanic ?_
    refine wp_region_held_drew (S := fun W => Tl w D (.int .u64 (R.1 : Int)) W) (by kernel_rfl) ?_ (fun hHeld => ?_)
    · (first | (with_reducible assumption) | exact HT.out.drew)
    refine wpAnyH_take (i := 0) (v := ?_) rfl (by kernel_rfl) (by kernel_rfl) (by kernel_rfl) (fun _ _ _ h => h) (Or.inl ⟨by kernel_rfl, ?_⟩) (by assumption) ?_
    rotate_left
    · intro w hSw
      have h1 := hSw.box.cell
      go_simp
      try with_reducible rfl
    simp only [Act.put, List.setIfInBounds_toArray, List.set_cons_zero, List.set_cons_succ, List.getElem_toArray, List.getElem_cons_succ, List.getElem_cons_zero]
    refine wpAnyH_take (i := 1) (v := ?_) rfl (by kernel_rfl) (by kernel_rfl) (by kernel_rfl) (fun _ _ _ h => h) (Or.inl ⟨by kernel_rfl, ?_⟩) (by assumption) ?_
    rotate_left
    · intro w hSw
      have h1 := hSw.box.cell
      go_simp
      try with_reducible rfl
    simp only [Act.put, List.setIfInBounds_toArray, List.set_cons_zero, List.set_cons_succ, List.getElem_toArray, List.getElem_cons_succ, List.getElem_cons_zero]
    refine wpAnyH_take (i := 2) (v := ?_) rfl (by kernel_rfl) (by kernel_rfl) (by kernel_rfl) (fun _ _ _ h => h) (Or.inl ⟨by kernel_rfl, ?_⟩) (by assumption) ?_
    rotate_left
    · intro w hSw
      have h1 := hSw.box.cell
      go_simp
      try with_reducible rfl
    simp only [Act.put, List.setIfInBounds_toArray, List.set_cons_zero, List.set_cons_succ, List.getElem_toArray, List.getElem_cons_succ, List.getElem_cons_zero]
    refine wpAnyH_take (i := 3) (v := ?_) rfl (by kernel_rfl) (by kernel_rfl) (by kernel_rfl) (fun _ _ _ h => h) (Or.inl ⟨by kernel_rfl, ?_⟩) (by assumption) ?_
    rotate_left
    · intro w hSw
      have h1 := hSw.box.cell
      go_simp
      try with_reducible rfl
    simp only [Act.put, List.setIfInBounds_toArray, List.set_cons_zero, List.set_cons_succ, List.getElem_toArray, List.getElem_cons_succ, List.getElem_cons_zero]
    refine wpAnyH_take (i := 4) (v := ?_) rfl (by kernel_rfl) (by kernel_rfl) (by kernel_rfl) (fun _ _ _ h => h) (Or.inl ⟨by kernel_rfl, ?_⟩) (by assumption) ?_
    rotate_left
    · intro w hSw
      have h1 := hSw.box.cell
      go_simp
      try with_reducible rfl
    simp only [Act.put, List.setIfInBounds_toArray, List.set_cons_zero, List.set_cons_succ, List.getElem_toArray, List.getElem_cons_succ, List.getElem_cons_zero]
    refine wpAnyH_ready (rs := [5]) (by kernel_rfl) (by simp) ?_
    refine AllReadyH.cons rfl (fun K hK => ?_) AllReadyH.nil
    rw [if_pos (by kernel_rfl)]; go_simp; go_at_call 33; (with_reducible refine (told_any _ hu _ _ _ _ (HM.out.own hHeld.bel)).mono ?_); rintro e w1 ⟨rfl, hb1⟩
    refine hK.out _ _ (hHeld.below hb1) (fun hHeld2 => ?_)
    clear hK K hHeld hb1
    have hHeld := hHeld2
    clear hHeld2
    try simp only [Act.put, List.setIfInBounds_toArray, List.set_cons_zero, List.set_cons_succ, List.getElem_toArray, List.getElem_cons_succ, List.getElem_cons_zero]
    refine wpAnyH_ready (rs := [6]) (by kernel_rfl) (by simp) ?_
    refine AllReadyH.cons rfl (fun K hK => ?_) AllReadyH.nil
    have c1 := hHeld.box.cell
    have f1 := hHeld.box.frozen
    go_simp
    refine hK.out _ _ hHeld.setr (fun hHeld2 => ?_)
    clear hK K hHeld c1 f1
    have hHeld := hHeld2
    clear hHeld2
    try simp only [Act.put, List.setIfInBounds_toArray, List.set_cons_zero, List.set_cons_succ, List.getElem_toArray, List.getElem_cons_succ, List.getElem_cons_zero]
    generalize World.setCell _ _ _ = W7 at hHeld ⊢
    refine wpAnyH_ready (rs := [7]) (by kernel_rfl) (by simp) ?_
    refine AllReadyH.cons rfl (fun K hK => ?_) AllReadyH.nil
    obtain ⟨v0, v1, v2, v3, v4, hv⟩ := hHeld.res
    have g0 : W7.cell? ⟨w.heap.size + 1 + 1, 0, none⟩ = some v0 := by simp [World.cell?, hv]
    have g1 : W7.cell? ⟨w.heap.size + 1 + 1, 1, none⟩ = some v1 := by simp [World.cell?, hv]
    have g2 : W7.cell? ⟨w.heap.size + 1 + 1, 2, none⟩ = some v2 := by simp [World.cell?, hv]
    have g3 : W7.cell? ⟨w.heap.size + 1 + 1, 3, none⟩ = some v3 := by simp [World.cell?, hv]
    have g4 : W7.cell? ⟨w.heap.size + 1 + 1, 4, none⟩ = some v4 := by simp [World.cell?, hv]
    have f0 : W7.frozen? ⟨w.heap.size + 1 + 1, 0, none⟩ = false := by simp [World.frozen?, hv]
    have f1 : W7.frozen? ⟨w.heap.size + 1 + 1, 1, none⟩ = false := by simp [World.frozen?, hv]
    have f2 : W7.frozen? ⟨w.heap.size + 1 + 1, 2, none⟩ = false := by simp [World.frozen?, hv]
    have f3 : W7.frozen? ⟨w.heap.size + 1 + 1, 3, none⟩ = false := by simp [World.frozen?, hv]
    have f4 : W7.frozen? ⟨w.heap.size + 1 + 1, 4, none⟩ = false := by simp [World.frozen?, hv]
    go_simp
    have h9 := Lib.hid (hHeld.setf (.bool R.2) (.bool (zB R.1 wd)) (.bool (sB R.1 wd)) (.bool (sB R.1 wd != R.2)) (.bool (pB R.1)))
    refine hK.out _ _ h9.out.1 (fun hHeld2 => ?_)
    clear hK K hHeld hHeld2 g0 g1 g2 g3 g4 f0 f1 f2 f3 f4 hv
    try simp only [Act.put, List.setIfInBounds_toArray, List.set_cons_zero, List.set_cons_succ, List.getElem_toArray, List.getElem_cons_succ, List.getElem_cons_zero]
    refine wpAnyH_done (by kernel_rfl) ?_ _
    refine NoPanic.normal ?_
    generalize World.setCell (World.setCell (World.setCell (World.setCell (World.setCell _ _ _) _ _) _ _) _ _) _ _ = W9 at h9 ⊢
    obtain ⟨⟨q1, _, q3, q4⟩, q5⟩ := h9.out
    have hRR := HR.out
    clear h9
    go_wp2
    refine ⟨by simp, .inl ⟨_, _, rfl, run_takeDeferred q4, ?_⟩⟩
    have n1 : w.heap.size + 1 ≠ D := by rintro rfl; rw [show W9.heap[w.heap.size + 1]? = _ from q1] at q4; cases q4
    have n2 : w.heap.size + 1 + 1 ≠ D := by rintro rfl; rw [q5] at q4; cases q4
    have e1 : (W9.putObj D (Obj.deferred none)).heap[w.heap.size + 1]? = _ := (World.putObj_heap_other n1).trans q1
    have e5 := (World.putObj_heap_other (o := Obj.deferred none) n2).trans q5
    have b9 : Below w.heap.size w (W9.putObj D (Obj.deferred none)) := q3.trans ⟨rfl, rfl, rfl, by simp, fun k hk => World.putObj_heap_other (by omega)⟩
    generalize W9.putObj D (Obj.deferred none) = W10 at e1 e5 b9 ⊢
    have c0 : W10.cell? ⟨w.heap.size + 1, 0, none⟩ = some (.int .u64 (R.1 : Int)) := by simp [World.cell?, e1]
    have g0 : W10.cell? ⟨w.heap.size + 1 + 1, 0, none⟩ = some (.bool (R.2)) := by simp [World.cell?, e5]
    have g1 : W10.cell? ⟨w.heap.size + 1 + 1, 1, none⟩ = some (.bool (zB R.1 wd)) := by simp [World.cell?, e5]
    have g2 : W10.cell? ⟨w.heap.size + 1 + 1, 2, none⟩ = some (.bool (sB R.1 wd)) := by simp [World.cell?, e5]
    have g3 : W10.cell? ⟨w.heap.size + 1 + 1, 3, none⟩ = some (.bool (sB R.1 wd != R.2)) := by simp [World.cell?, e5]
    have g4 : W10.cell? ⟨w.heap.size + 1 + 1, 4, none⟩ = some (.bool (pB R.1)) := by simp [World.cell?, e5]
    exact ⟨.tuple #[.int .u64 (R.1 : Int), fl (R.2) (zB R.1 wd) (sB R.1 wd) (sB R.1 wd != R.2) (pB R.1)], by simp [results, Tryd.results20, go_sem, *], by unfold RES_shl; rw [hRR], b9⟩
theorem shift_shl8 (wd : Int) (x : Nat) (hx : U x) (m k : Nat) (hm8 : m < 256) (hk : k = m % 64) (hk0 : 0 < k) (c z s o p : Bool) (h8 : (hI wd == 8) = true) (w : World) (hm : Mk w) :
    Calls Tryd.prog 20 #[.int .u8 16, .int .i64 wd, .int .u64 x, .int .u8 (m : Int), fl c z s o p] w fun e w' => e = .returned (RES_shl (fun r => (shlN r wd, sB r wd)) x k wd c z s o p) ∧ Below w.heap.size w w' :=
  callsIn_wide.1 (shift_shl8_in Fence.wide (Lib.hid rfl) 3 (Nat.le_refl _) wd x hx m k hm8 hk hk0 c z s o p h8 w hm)
open Go.RowKit Go.Shelf
set_option linter.unusedSimpArgs false
set_option linter.unusedVariables false
attribute [local go_sem] Oper.semAt_some
theorem HST_shr (wd : Int) (r : Nat) (hr : U r) : U ((shrN r, lB r)).1 := by unfold shrN; unfold U at *; omega
def RES_shr (st : Nat → Nat × Bool) (x k : Nat) (wd : Int) (c z s o p : Bool) : Value := .tuple #[.int .u64 ((it st (cN x wd) k).1 : Nat), fl ((it st (cN x wd) k).2) (zB (it st (cN x wd) k).1 wd) (sB (it st (cN x wd) k).1 wd) (sB (cN x wd) wd) (pB (it st (cN x wd) k).1)]
set_option maxRecDepth 100000 in
set_option maxHeartbeats 4000000 in
theorem shift_shr4_in (F : Fence) (HF : Hid (F = Fence.wide)) (n : Nat) (hn3 : 3 ≤ n) (wd : Int) (x : Nat) (hx : U x) (m k : Nat) (hm8 : m < 256) (hk : k = m % 32) (hk0 : 0 < k) (c z s o p : Bool) (h8 : (hI wd == 8) = false) (w : World) (hm : Mk w) :
    CallsIn F n Tryd.prog 20 #[.int .u8 17, .int .i64 wd, .int .u64 x, .int .u8 (m : Int), fl c z s o p] w fun e w' => e = .returned (RES_shr (fun r => (shrN r, lB r)) x k wd c z s o p) ∧ Below w.heap.size w w' := by
  have hc0 := cN_U x hx wd
  have HM := Lib.hid hm
  have hmk : ((m : Int) % 32) = (k : Int) := by rw [hk]; simp
  have hkz : ((k : Int) == 0) = false := by simp; omega
  have hk64 : k < 64 := by omega
  have HK := Lib.hid hk0
  clear hm hk hk0
  have h1 : 1 ≤ n := by omega
  have hro : F.round = none := by rw [HF.out]; rfl
  have h20 : F.fn 20 := by rw [HF.out]; trivial
  have h73 : F.fn 73 := by rw [HF.out]; trivial
  refine callsIn_of_wp_marks Tryd.func20 rfl h20 ?_ hro
  simp only [Tryd.ntmps20, List.size_toArray, List.length_cons, List.length_nil, Nat.reduceAdd, Nat.reduceSub, Array.replicate_succ, Array.replicate_zero, List.push_toArray, List.append_toArray, List.nil_append, List.cons_append]
  refine wpIn_of_wp HF ?_
  go_wp2_with (first | (go_at_call 36; refine (cut_any _ hx _ _ (((HM.out.alloc _).alloc _).alloc _)).mono ?_; rintro e w' ⟨rfl, rfl⟩) | (go_at_call 41; refine (aheld_any _ _).mono ?_; rintro e w' ⟨rfl, rfl⟩))
  go_at_call 42
  refine (shiftsAt_17 _ _ _).mono ?_
  rintro e W1 ⟨b, rfl, hlk, hl4⟩
  have HL4 := Lib.hid hl4
  clear hl4
  go_wp2_with fail
  go_at_call 43
  refine (fallen_calls _ _ _ _ _ _).mono ?_
  rintro e W2 ⟨rfl, rfl⟩
  go_wp2
  have hbase := base_of w W1 c z s o p wd (cN x wd) k (.func (Fn.func 64) #[] #[.pointer (some ⟨w.heap.size + 1 + 1 + 1 + 1 + 1, 0, none⟩)]) (.func (Fn.func 65) #[] #[.pointer (some ⟨w.heap.size + 1 + 1 + 1 + 1 + 1 + 1, 0, none⟩), .pointer (some ⟨w.heap.size + 1 + 1 + 1 + 1, 0, none⟩)]) false HL4.out
  have hbig := hbase.big
  change Code.wp Tryd.prog _ _ _ (base5 W1 (.func (Fn.func 64) #[] #[.pointer (some ⟨w.heap.size + 1 + 1 + 1 + 1 + 1, 0, none⟩)]) (.func (Fn.func 65) #[] #[.pointer (some ⟨w.heap.size + 1 + 1 + 1 + 1 + 1 + 1, 0, none⟩), .pointer (some ⟨w.heap.size + 1 + 1 + 1 + 1, 0, none⟩)]) false (cN x wd) k)
  generalize base5 W1 (.func (Fn.func 64) #[] #[.pointer (some ⟨w.heap.size + 1 + 1 + 1 + 1 + 1, 0, none⟩)]) (.func (Fn.func 65) #[] #[.pointer (some ⟨w.heap.size + 1 + 1 + 1 + 1 + 1 + 1, 0, none⟩), .pointer (some ⟨w.heap.size + 1 + 1 + 1 + 1, 0, none⟩)]) false (cN x wd) k = Wb at hbase ⊢
  have HB := Lib.hid hbase
  have hsz := hbase.sz
  clear hbase hlk HL4
  refine wp_of_wpIn HF n ?_
  have hfal := fallen_shrN F HF (n - 1) k (cN x wd) hk64 hc0 wd (cN x wd) (w.heap.size + 1 + 1 + 1) (w.heap.size + 1 + 1 + 1 + 1) (w.heap.size + 1 + 1 + 1 + 1 + 1) (w.heap.size + 1 + 1 + 1 + 1 + 1 + 1) (W1.heap.size + 1 + 1 + 1) (W1.heap.size + 1 + 1 + 1 + 1) (W1.heap.size + 1 + 1) (Rnd w Wb (w.heap.size + 1) (W1.heap.size + 1) (W1.heap.size + 1 + 1) (cN x wd)) (HST_shr wd)
    (fun pre W h => HB.out.env HM.out h) (fun pre W h => (show Boxed W (W1.heap.size + 1 + 1 + 1) 3 (.int .i64 (k : Int)) from h.kp _ _ _ _ (by omega) (by omega) (by omega) HB.out.bn).cell) (fun pre W h => (show Boxed W (W1.heap.size + 1 + 1 + 1 + 1) 50 _ from h.kp _ _ _ _ (by omega) (by omega) (by omega) HB.out.bt).cell)
    (fun pre W h => by obtain ⟨v, hv, _⟩ := h.a; exact ⟨hv.frozen, v, hv.cell⟩) (fun W h => by obtain ⟨v, hv, e⟩ := h.a; rw [e rfl] at hv; exact hv.cell)
    (fun pre W x hp h => h.setA hp (by omega) (by omega) (by omega) x) (fun pre W q h => h.drewN q)
  have HF := Lib.hid hfal
  clear hfal
  refine range_cells (gf := 73) hro h1 rfl h73 (enters_of Tryd.func73 (by kernel_rfl) rfl) (fun x : Nat × Bool => #[.int .u64 (x.1 : Int), .bool x.2]) (fun _ => rfl)
    (Rnd w Wb (w.heap.size + 1) (W1.heap.size + 1) (W1.heap.size + 1 + 1) (cN x wd)) (fun xs => xs = ups (fun r => (shrN r, lB r)) (cN x wd) k) k (Rnd.own (by omega)) HB.out.start ?a1 ?assign ?body HF.out ?done
  case assign =>
    intro l x W K hK
    gi_wp2
    exact hK
  case body =>
    intro l pre x W hI hlt
    have HI := Lib.hid hI
    have c1 := hI.r.cell
    have f1 := hI.r.frozen
    have c2 := hI.q.cell
    have f2 := hI.q.frozen
    have n1 : ¬ w.heap.size + 1 = W1.heap.size + 1 := by omega
    have n2 : ¬ W1.heap.size + 1 = w.heap.size + 1 := by omega
    clear hI
    gi_wp2
    exact ⟨(KeepsOthers.setCell _ _ _).trans (KeepsOthers.setCell _ _ _), HI.out.next (by omega) (by omega) (by omega) (by omega) (by omega)⟩
  case done =>
    rintro D xs W hD rfl hI hK
    have hk0 := HK.out
    have hr := hI.r
    rw [rvOf_ups _ _ _ hk0] at hr
    have hq := hI.q
    rw [lvOf_ups _ _ _ hk0] at hq
    have hE := HB.out.env HM.out hI
    have hu := it_U (fun r => (shrN r, lB r)) (cN x wd) hc0 (HST_shr wd) k
    have hs : W.heap[W1.heap.size]? = some (.cells #[.func (Fn.func 64) #[] #[.pointer (some ⟨w.heap.size + 1 + 1 + 1 + 1 + 1, 0, none⟩)], .func (Fn.func 65) #[] #[.pointer (some ⟨w.heap.size + 1 + 1 + 1 + 1 + 1 + 1, 0, none⟩), .pointer (some ⟨w.heap.size + 1 + 1 + 1 + 1, 0, none⟩)], .bool false] 53 (0, 0)) := hI.kp _ _ _ _ (by omega) (by omega) (by omega) HB.out.bs
    have cs1 : W.cell? ⟨W1.heap.size, 1, none⟩ = some (.func (Fn.func 65) #[] #[.pointer (some ⟨w.heap.size + 1 + 1 + 1 + 1 + 1 + 1, 0, none⟩), .pointer (some ⟨w.heap.size + 1 + 1 + 1 + 1, 0, none⟩)]) := by simp [World.cell?, hs]
    have cs2 : W.cell? ⟨W1.heap.size, 2, none⟩ = some (.bool false) := by simp [World.cell?, hs]
    generalize hR : it (fun r => (shrN r, lB r)) (cN x wd) k = R at hr hq hu
    have HR := Lib.hid hR
    have HI := Lib.hid hI
    have HKD := Lib.hid hK
    have cr := hr.cell
    have fr := hr.frozen
    have cq := hq.cell
    obtain ⟨hMW, hcw, hca, hcl, hch⟩ := hE
    have HE : Hid (Env wd (cN x wd) (w.heap.size + 1 + 1 + 1) (w.heap.size + 1 + 1 + 1 + 1) (w.heap.size + 1 + 1 + 1 + 1 + 1) (w.heap.size + 1 + 1 + 1 + 1 + 1 + 1) W) := Lib.hid ⟨hMW, hcw, hca, hcl, hch⟩
    clear hk0 hr hq hs hR hI hK hMW hcw hca hcl hch
    go_wp2_with fail
    go_at_call 65
    refine (shr_flags _ hu _ wd _ _ _ _ _ hc0 _ HE.out).mono ?_
    rintro e w1 ⟨rfl, q, rfl⟩
    have HT : Hid (Tl w D (.int .u64 (R.1 : Int)) (W.drewN q)) := Lib.hid ((show Tl w D (.int .u64 (R.1 : Int)) W from ⟨by have := HI.out.r; rw [rvOf_ups _ _ _ HK.out, HR.out] at this; exact this, ⟨_, _, _, _, _, HI.out.kp _ _ _ _ (by omega) (by omega) (by omega) HB.out.bf⟩, HI.out.bel, HKD.out⟩).drewN q)
    go_wp2
    clear cs1 cs2 cr fr cq
    generalize W.drewN q = W2 at HT ⊢
    refine wp_region_noPanic ?_
    refine wp_region_held_drew (S := fun W => Tl w D (.int .u64 (R.1 : Int)) W) (by kernel_rfl) ?_ (fun hHeld => ?_)
    · (first | (with_reducible assumption) | exact HT.out.drew)
    refine wpAnyH_take (i := 0) (v := ?_) rfl (by kernel_rfl) (by kernel_rfl) (by kernel_rfl) (fun _ _ _ h => h) (Or.inl ⟨by kernel_rfl, ?_⟩) (by assumption) ?_
    rotate_left
    · intro w hSw
      have h1 := hSw.box.cell
      go_simp
      try with_reducible rfl
    simp only [Act.put, List.setIfInBounds_toArray, List.set_cons_zero, List.set_cons_succ, List.getElem_toArray, List.getElem_cons_succ, List.getElem_cons_zero]
    refine wpAnyH_take (i := 1) (v := ?_) rfl (by kernel_rfl) (by kernel_rfl) (by kernel_rfl) (fun _ _ _ h => h) (Or.inl ⟨by kernel_rfl, ?_⟩) (by assumption) ?_
    rotate_left
    · intro w hSw
      have h1 := hSw.box.cell
      go_simp
      try with_reducible rfl
    simp only [Act.put, List.setIfInBounds_toArray, List.set_cons_zero, List.set_cons_succ, List.getElem_toArray, List.getElem_cons_succ, List.getElem_cons_zero]
    refine wpAnyH_take (i := 2) (v := ?_) rfl (by kernel_rfl) (by kernel_rfl) (by kernel_rfl) (fun _ _ _ h => h) (Or.inl ⟨by kernel_rfl, ?_⟩) (by assumption) ?_
    rotate_left
    · intro w hSw
      have h1 := hSw.box.cell
      go_simp
      try with_reducible rfl
    simp only [Act.put, List.setIfInBounds_toArray, List.set_cons_zero, List.set_cons_succ, List.getElem_toArray, List.getElem_cons_succ, List.getElem_cons_zero]
    refine wpAnyH_take (i := 3) (v := ?_) rfl (by kernel_rfl) (by kernel_rfl) (by kernel_rfl) (fun _ _ _ h => h) (Or.inl ⟨by kernel_rfl, ?_⟩) (by assumption) ?_
    rotate_left
    · intro w hSw
      have h1 := hSw.box.cell
      go_simp
      try with_reducible rfl
    simp only [Act.put, List.setIfInBounds_toArray, List.set_cons_zero, List.set_cons_succ, List.getElem_toArray, List.getElem_cons_succ, List.getElem_cons_zero]
    refine wpAnyH_take (i := 4) (v := ?_) rfl (by kernel_rfl) (by kernel_rfl) (by kernel_rfl) (fun _ _ _ h => h) (Or.inl ⟨by kernel_rfl, ?_⟩) (by assumption) ?_
    rotate_left
    · intro w hSw
      have h1 := hSw.box.cell
      go_simp
      try with_reducible rfl
    simp only [Act.put, List.setIfInBounds_toArray, List.set_cons_zero, List.set_cons_succ, List.getElem_toArray, List.getElem_cons_succ, List.getElem_cons_zero]
    refine wpAnyH_ready (rs := [5]) (by kernel_rfl) (by simp) ?_
    refine AllReadyH.cons rfl (fun K hK => ?_) AllReadyH.nil
    rw [if_pos (by kernel_rfl)]; go_simp; go_at_call 33; (with_reducible refine (told_any _ hu _ _ _ _ (HM.out.own hHeld.bel)).mono ?_); rintro e w1 ⟨rfl, hb1⟩
    refine hK.out _ _ (hHeld.below hb1) (fun hHeld2 => ?_)
    clear hK K hHeld hb1
    have hHeld := hHeld2
    clear hHeld2
    try simp only [Act.put, List.setIfInBounds_toArray, List.set_cons_zero, List.set_cons_succ, List.getElem_toArray, List.getElem_cons_succ, List.getElem_cons_zero]
    refine wpAnyH_ready (rs := [6]) (by kernel_rfl) (by simp) ?_
    refine AllReadyH.cons rfl (fun K hK => ?_) AllReadyH.nil
    have c1 := hHeld.box.cell
    have f1 := hHeld.box.frozen
    go_simp
    refine hK.out _ _ hHeld.setr (fun hHeld2 => ?_)
    clear hK K hHeld c1 f1
    have hHeld := hHeld2
    clear hHeld2
    try simp only [Act.put, List.setIfInBounds_toArray, List.set_cons_zero, List.set_cons_succ, List.getElem_toArray, List.getElem_cons_succ, List.getElem_cons_zero]
    generalize World.setCell _ _ _ = W7 at hHeld ⊢
    refine wpAnyH_ready (rs := [7]) (by kernel_rfl) (by simp) ?_
    refine AllReadyH.cons rfl (fun K hK => ?_) AllReadyH.nil
    obtain ⟨v0, v1, v2, v3, v4, hv⟩ := hHeld.res
    have g0 : W7.cell? ⟨w.heap.size + 1 + 1, 0, none⟩ = some v0 := by simp [World.cell?, hv]
    have g1 : W7.cell? ⟨w.heap.size + 1 + 1, 1, none⟩ = some v1 := by simp [World.cell?, hv]
    have g2 : W7.cell? ⟨w.heap.size + 1 + 1, 2, none⟩ = some v2 := by simp [World.cell?, hv]
    have g3 : W7.cell? ⟨w.heap.size + 1 + 1, 3, none⟩ = some v3 := by simp [World.cell?, hv]
    have g4 : W7.cell? ⟨w.heap.size + 1 + 1, 4, none⟩ = some v4 := by simp [World.cell?, hv]
    have f0 : W7.frozen? ⟨w.heap.size + 1 + 1, 0, none⟩ = false := by simp [World.frozen?, hv]
    have f1 : W7.frozen? ⟨w.heap.size + 1 + 1, 1, none⟩ = false := by simp [World.frozen?, hv]
    have f2 : W7.frozen? ⟨w.heap.size + 1 + 1, 2, none⟩ = false := by simp [World.frozen?, hv]
    have f3 : W7.frozen? ⟨w.heap.size + 1 + 1, 3, none⟩ = false := by simp [World.frozen?, hv]
    have f4 : W7.frozen? ⟨w.heap.size + 1 + 1, 4, none⟩ = false := by simp [World.frozen?, hv]
    go_simp
    have h9 := Lib.hid (hHeld.setf (.bool R.2) (.bool (zB R.1 wd)) (.bool (sB R.1 wd)) (.bool (sB (cN x wd) wd)) (.bool (pB R.1)))
    refine hK.out _ _ h9.out.1 (fun hHeld2 => ?_)
    clear hK K hHeld hHeld2 g0 g1 g2 g3 g4 f0 f1 f2 f3 f4 hv
    try simp only [Act.put, List.setIfInBounds_toArray, List.set_cons_zero, List.set_cons_succ, List.getElem_toArray, List.getElem_cons_succ, List.getElem_cons_zero]
    refine wpAnyH_done (by kernel_rfl) ?_ _
    refine NoPanic.normal ?_
    generalize World.setCell (World.setCell (World.setCell (World.setCell (World.setCell _ _ _) _ _) _ _) _ _) _ _ = W9 at h9 ⊢
    obtain ⟨⟨q1, _, q3, q4⟩, q5⟩ := h9.out
    have hRR := HR.out
    clear h9
    go_wp2
    refine ⟨by simp, .inl ⟨_, _, rfl, run_takeDeferred q4, ?_⟩⟩
    have n1 : w.heap.size + 1 ≠ D := by rintro rfl; rw [show W9.heap[w.heap.size + 1]? = _ from q1] at q4; cases q4
    have n2 : w.heap.size + 1 + 1 ≠ D := by rintro rfl; rw [q5] at q4; cases q4
    have e1 : (W9.putObj D (Obj.deferred none)).heap[w.heap.size + 1]? = _ := (World.putObj_heap_other n1).trans q1
    have e5 := (World.putObj_heap_other (o := Obj.deferred none) n2).trans q5
    have b9 : Below w.heap.size w (W9.putObj D (Obj.deferred none)) := q3.trans ⟨rfl, rfl, rfl, by simp, fun k hk => World.putObj_heap_other (by omega)⟩
    generalize W9.putObj D (Obj.deferred none) = W10 at e1 e5 b9 ⊢
    have c0 : W10.cell? ⟨w.heap.size + 1, 0, none⟩ = some (.int .u64 (R.1 : Int)) := by simp [World.cell?, e1]
    have g0 : W10.cell? ⟨w.heap.size + 1 + 1, 0, none⟩ = some (.bool (R.2)) := by simp [World.cell?, e5]
    have g1 : W10.cell? ⟨w.heap.size + 1 + 1, 1, none⟩ = some (.bool (zB R.1 wd)) := by simp [World.cell?, e5]
    have g2 : W10.cell? ⟨w.heap.size + 1 + 1, 2, none⟩ = some (.bool (sB R.1 wd)) := by simp [World.cell?, e5]
    have g3 : W10.cell? ⟨w.heap.size + 1 + 1, 3, none⟩ = some (.bool (sB (cN x wd) wd)) := by simp [World.cell?, e5]
    have g4 : W10.cell? ⟨w.heap.size + 1 + 1, 4, none⟩ = some (.bool (pB R.1)) := by simp [World.cell?, e5]
    exact ⟨.tuple #[.int .u64 (R.1 : Int), fl (R.2) (zB R.1 wd) (sB R.1 wd) (sB (cN x wd) wd) (pB R.1)], by simp [results, Tryd.results20, go_sem, *], by unfold RES_shr; rw [hRR], b9⟩
theorem shift_shr4 (wd : Int) (x : Nat) (hx : U x) (m k : Nat) (hm8 : m < 256) (hk : k = m % 32) (hk0 : 0 < k) (c z s o p : Bool) (h8 : (hI wd == 8) = false) (w : World) (hm : Mk w) :
    Calls Tryd.prog 20 #[.int .u8 17, .int .i64 wd, .int .u64 x, .int .u8 (m : Int), fl c z s o p] w fun e w' => e = .returned (RES_shr (fun r => (shrN r, lB r)) x k wd c z s o p) ∧ Below w.heap.size w w' :=
  callsIn_wide.1 (shift_shr4_in Fence.wide (Lib.hid rfl) 3 (Nat.le_refl _) wd x hx m k hm8 hk hk0 c z s o p h8 w hm)
set_option maxRecDepth 100000 in
set_option maxHeartbeats 4000000 in
theorem shift_shr8_in (F : Fence) (HF : Hid (F = Fence.wide)) (n : Nat) (hn3 : 3 ≤ n) (wd : Int) (x : Nat) (hx : U x) (m k : Nat) (hm8 : m < 256) (hk : k = m % 64) (hk0 : 0 < k) (c z s o p : Bool) (h8 : (hI wd == 8) = true) (w : World) (hm : Mk w) :
    CallsIn F n Tryd.prog 20 #[.int .u8 17, .int .i64 wd, .int .u64 x, .int .u8 (m : Int), fl c z s o p] w fun e w' => e = .returned (RES_shr (fun r => (shrN r, lB r)) x k wd c z s o p) ∧ Below w.heap.size w w' := by
  have hc0 := cN_U x hx wd
  have HM := Lib.hid hm
  have hmk : ((m : Int) % 64) = (k : Int) := by rw [hk]; simp
  have hkz : ((k : Int) == 0) = false := by simp; omega
  have hk64 : k < 64 := by omega
  have HK := Lib.hid hk0
  clear hm hk hk0
  have h1 : 1 ≤ n := by omega
  have hro : F.round = none := by rw [HF.out]; rfl
  have h20 : F.fn 20 := by rw [HF.out]; trivial
  have h73 : F.fn 73 := by rw [HF.out]; trivial
  refine callsIn_of_wp_marks Tryd.func20 rfl h20 ?_ hro
  simp only [Tryd.ntmps20, List.size_toArray, List.length_cons, List.length_nil, Nat.reduceAdd, Nat.reduceSub, Array.replicate_succ, Array.replicate_zero, List.push_toArray, List.append_toArray, List.nil_append, List.cons_append]
  refine wpIn_of_wp HF ?_
  go_wp2_with (first | (go_at_call 36; refine (cut_any _ hx _ _ (((HM.out.alloc _).alloc _).alloc _)).mono ?_; rintro e w' ⟨rfl, rfl⟩) | (go_at_call 41; refine (aheld_any _ _).mono ?_; rintro e w' ⟨rfl, rfl⟩))
  go_at_call 42
  refine (shiftsAt_17 _ _ _).mono ?_
  rintro e W1 ⟨b, rfl, hlk, hl4⟩
  have HL4 := Lib.hid hl4
  clear hl4
  go_wp2_with fail
  go_at_call 43
  refine (fallen_calls _ _ _ _ _ _).mono ?_
  rintro e W2 ⟨rfl, rfl⟩
  go_wp2
  have hbase := base_of w W1 c z s o p wd (cN x wd) k (.func (Fn.func 64) #[] #[.pointer (some ⟨w.heap.size + 1 + 1 + 1 + 1 + 1, 0, none⟩)]) (.func (Fn.func 65) #[] #[.pointer (some ⟨w.heap.size + 1 + 1 + 1 + 1 + 1 + 1, 0, none⟩), .pointer (some ⟨w.heap.size + 1 + 1 + 1 + 1, 0, none⟩)]) false HL4.out
  have hbig := hbase.big
  change Code.wp Tryd.prog _ _ _ (base5 W1 (.func (Fn.func 64) #[] #[.pointer (some ⟨w.heap.size + 1 + 1 + 1 + 1 + 1, 0, none⟩)]) (.func (Fn.func 65) #[] #[.pointer (some ⟨w.heap.size + 1 + 1 + 1 + 1 + 1 + 1, 0, none⟩), .pointer (some ⟨w.heap.size + 1 + 1 + 1 + 1, 0, none⟩)]) false (cN x wd) k)
  generalize base5 W1 (.func (Fn.func 64) #[] #[.pointer (some ⟨w.heap.size + 1 + 1 + 1 + 1 + 1, 0, none⟩)]) (.func (Fn.func 65) #[] #[.pointer (some ⟨w.heap.size + 1 + 1 + 1 + 1 + 1 + 1, 0, none⟩), .pointer (some ⟨w.heap.size + 1 + 1 + 1 + 1, 0, none⟩)]) false (cN x wd) k = Wb at hbase ⊢
  have HB := Lib.hid hbase
  have hsz := hbase.sz
  clear hbase hlk HL4
  refine wp_of_wpIn HF n ?_
  have hfal := fallen_shrN F HF (n - 1) k (cN x wd) hk64 hc0 wd (cN x wd) (w.heap.size + 1 + 1 + 1) (w.heap.size + 1 + 1 + 1 + 1) (w.heap.size + 1 + 1 + 1 + 1 + 1) (w.heap.size + 1 + 1 + 1 + 1 + 1 + 1) (W1.heap.size + 1 + 1 + 1) (W1.heap.size + 1 + 1 + 1 + 1) (W1.heap.size + 1 + 1) (Rnd w Wb (w.heap.size + 1) (W1.heap.size + 1) (W1.heap.size + 1 + 1) (cN x wd)) (HST_shr wd)
    (fun pre W h => HB.out.env HM.out h) (fun pre W h => (show Boxed W (W1.heap.size + 1 + 1 + 1) 3 (.int .i64 (k : Int)) from h.kp _ _ _ _ (by omega) (by omega) (by omega) HB.out.bn).cell) (fun pre W h => (show Boxed W (W1.heap.size + 1 + 1 + 1 + 1) 50 _ from h.kp _ _ _ _ (by omega) (by omega) (by omega) HB.out.bt).cell)
    (fun pre W h => by obtain ⟨v, hv, _⟩ := h.a; exact ⟨hv.frozen, v, hv.cell⟩) (fun W h => by obtain ⟨v, hv, e⟩ := h.a; rw [e rfl] at hv; exact hv.cell)
    (fun pre W x hp h => h.setA hp (by omega) (by omega) (by omega) x) (fun pre W q h => h.drewN q)
  have HF := Lib.hid hfal
  clear hfal
  refine range_cells (gf := 73) hro h1 rfl h73 (enters_of Tryd.func73 (by kernel_rfl) rfl) (fun x : Nat × Bool => #[.int .u64 (x.1 : Int), .bool x.2]) (fun _ => rfl)
    (Rnd w Wb (w.heap.size + 1) (W1.heap.size + 1) (W1.heap.size + 1 + 1) (cN x wd)) (fun xs => xs = ups (fun r => (shrN r, lB r)) (cN x wd) k) k (Rnd.own (by omega)) HB.out.start ?a1 ?assign ?body HF.out ?done
  case assign =>
    intro l x W K hK
    gi_wp2
    exact hK
  case body =>
    intro l pre x W hI hlt
    have HI := Lib.hid hI
    have c1 := hI.r.cell
    have f1 := hI.r.frozen
    have c2 := hI.q.cell
    have f2 := hI.q.frozen
    have n1 : ¬ w.heap.size + 1 = W1.heap.size + 1 := by omega
    have n2 : ¬ W1.heap.size + 1 = w.heap.size + 1 := by omega
    clear hI
    gi_wp2
    exact ⟨(KeepsOthers.setCell _ _ _).trans (KeepsOthers.setCell _ _ _), HI.out.next (by omega) (by omega) (by omega) (by omega) (by omega)⟩
  case done =>
    rintro D xs W hD rfl hI hK
    have hk0 := HK.out
    have hr := hI.r
    rw [rvOf_ups _ _ _ hk0] at hr
    have hq := hI.q
    rw [lvOf_ups _ _ _ hk0] at hq
    have hE := HB.out.env HM.out hI
    have hu := it_U (fun r => (shrN r, lB r)) (cN x wd) hc0 (HST_shr wd) k
    have hs : W.heap[W1.heap.size]? = some (.cells #[.func (Fn.func 64) #[] #[.pointer (some ⟨w.heap.size + 1 + 1 + 1 + 1 + 1, 0, none⟩)], .func (Fn.func 65) #[] #[.pointer (some ⟨w.heap.size + 1 + 1 + 1 + 1 + 1 + 1, 0, none⟩), .pointer (some ⟨w.heap.size + 1 + 1 + 1 + 1, 0, none⟩)], .bool false] 53 (0, 0)) := hI.kp _ _ _ _ (by omega) (by omega) (by omega) HB.out.bs
    have cs1 : W.cell? ⟨W1.heap.size, 1, none⟩ = some (.func (Fn.func 65) #[] #[.pointer (some ⟨w.heap.size + 1 + 1 + 1 + 1 + 1 + 1, 0, none⟩), .pointer (some ⟨w.heap.size + 1 + 1 + 1 + 1, 0, none⟩)]) := by simp [World.cell?, hs]
    have cs2 : W.cell? ⟨W1.heap.size, 2, none⟩ = some (.bool false) := by simp [World.cell?, hs]
    generalize hR : it (fun r => (shrN r, lB r)) (cN x wd) k = R at hr hq hu
    have HR := Lib.hid hR
    have HI := Lib.hid hI
    have HKD := Lib.hid hK
    have cr := hr.cell
    have fr := hr.frozen
    have cq := hq.cell
    obtain ⟨hMW, hcw, hca, hcl, hch⟩ := hE
    have HE : Hid (Env wd (cN x wd) (w.heap.size + 1 + 1 + 1) (w.heap.size + 1 + 1 + 1 + 1) (w.heap.size + 1 + 1 + 1 + 1 + 1) (w.heap.size + 1 + 1 + 1 + 1 + 1 + 1) W) := Lib.hid ⟨hMW, hcw, hca, hcl, hch⟩
    clear hk0 hr hq hs hR hI hK hMW hcw hca hcl hch
    go_wp2_with fail
    go_at_call 65
    refine (shr_flags _ hu _ wd _ _ _ _ _ hc0 _ HE.out).mono ?_
    rintro e w1 ⟨rfl, q, rfl⟩
    have HT : Hid (Tl w D (.int .u64 (R.1 : Int)) (W.drewN q)) := Lib.hid ((show Tl w D (.int .u64 (R.1 : Int)) W from ⟨by have := HI.out.r; rw [rvOf_ups _ _ _ HK.out, HR.out] at this; exact this, ⟨_, _, _, _, _, HI.out.kp _ _ _ _ (by omega) (by omega) (by omega) HB.out.bf⟩, HI.out.bel, HKD.out⟩).drewN q)
    go_wp2
    clear cs1 cs2 cr fr cq
    generalize W.drewN q = W2 at HT ⊢
    refine wp_region_noPanic ?_
    refine wp_region_held_drew (S := fun W => Tl w D (.int .u64 (R.1 : Int)) W) (by kernel_rfl) ?_ (fun hHeld => ?_)
    · (first | (with_reducible assumption) | exact HT.out.drew)
    refine wpAnyH_take (i := 0) (v := ?_) rfl (by kernel_rfl) (by kernel_rfl) (by kernel_rfl) (fun _ _ _ h => h) (Or.inl ⟨by kernel_rfl, ?_⟩) (by assumption) ?_
    rotate_left
    · intro w hSw
      have h1 := hSw.box.cell
      go_simp
      try with_reducible rfl
    simp only [Act.put, List.setIfInBounds_toArray, List.set_cons_zero, List.set_cons_succ, List.getElem_toArray, List.getElem_cons_succ, List.getElem_cons_zero]
    refine wpAnyH_take (i := 1) (v := ?_) rfl (by kernel_rfl) (by kernel_rfl) (by kernel_rfl) (fun _ _ _ h => h) (Or.inl ⟨by kernel_rfl, ?_⟩) (by assumption) ?_
    rotate_left
    · intro w hSw
      have h1 := hSw.box.cell
      go_simp
      try with_reducible rfl
    simp only [Act.put, List.setIfInBounds_toArray, List.set_cons_zero, List.set_cons_succ, List.getElem_toArray, List.getElem_cons_succ, List.getElem_cons_zero]
    refine wpAnyH_take (i := 2) (v := ?_) rfl (by kernel_rfl) (by kernel_rfl) (by kernel_rfl) (fun _ _ _ h => h) (Or.inl ⟨by kernel_rfl, ?_⟩) (by assumption) ?_
    rotate_left
    · intro w hSw
      have h1 := hSw.box.cell
      go_simp
      try with_reducible rfl
    simp only [Act.put, List.setIfInBounds_toArray, List.set_cons_zero, List.set_cons_succ, List.getElem_toArray, List.getElem_cons_succ, List.getElem_cons_zero]
    refine wpAnyH_take (i := 3) (v := ?_) rfl (by kernel_rfl) (by kernel_rfl) (by kernel_rfl) (fun _ _ _ h => h) (Or.inl ⟨by kernel_rfl, ?_⟩) (by assumption) ?_
    rotate_left
    · intro w hSw
      have h1 := hSw.box.cell
      go_simp
      try with_reducible rfl
    simp only [Act.put, List.setIfInBounds_toArray, List.set_cons_zero, List.set_cons_succ, List.getElem_toArray, List.getElem_cons_succ, List.getElem_cons_zero]
    refine wpAnyH_take (i := 4) (v := ?_) rfl (by kernel_rfl) (by kernel_rfl) (by kernel_rfl) (fun _ _ _ h => h) (Or.inl ⟨by kernel_rfl, ?_⟩) (by assumption) ?_
    rotate_left
    · intro w hSw
      have h1 := hSw.box.cell
      go_simp
      try with_reducible rfl
    simp only [Act.put, List.setIfInBounds_toArray, List.set_cons_zero, List.set_cons_succ, List.getElem_toArray, List.getElem_cons_succ, List.getElem_cons_zero]
    refine wpAnyH_ready (rs := [5]) (by kernel_rfl) (by simp) ?_
    refine AllReadyH.cons rfl (fun K hK => ?_) AllReadyH.nil
    rw [if_pos (by kernel_rfl)]; go_simp; go_at_call 33; (with_reducible refine (told_any _ hu _ _ _ _ (HM.out.own hHeld.bel)).mono ?_); rintro e w1 ⟨rfl, hb1⟩
    refine hK.out _ _ (hHeld.below hb1) (fun hHeld2 => ?_)
    clear hK K hHeld hb1
    have hHeld := hHeld2
    clear hHeld2
    try simp only [Act.put, List.setIfInBounds_toArray, List.set_cons_zero, List.set_cons_succ, List.getElem_toArray, List.getElem_cons_succ, List.getElem_cons_zero]
    refine wpAnyH_ready (rs := [6]) (by kernel_rfl) (by simp) ?_
    refine AllReadyH.cons rfl (fun K hK => ?_) AllReadyH.nil
    have c1 := hHeld.box.cell
    have f1 := hHeld.box.frozen
    go_simp
    refine hK.out _ _ hHeld.setr (fun hHeld2 => ?_)
    clear hK K hHeld c1 f1
    have hHeld := hHeld2
    clear hHeld2
    try simp only [Act.put, List.setIfInBounds_toArray, List.set_cons_zero, List.set_cons_succ, List.getElem_toArray, List.getElem_cons_succ, List.getElem_cons_zero]
    generalize World.setCell _ _ _ = W7 at hHeld ⊢
    refine wpAnyH_ready (rs := [7]) (by kernel_rfl) (by simp) ?_
    refine AllReadyH.cons rfl (fun K hK => ?_) AllReadyH.nil
    obtain ⟨v0, v1, v2, v3, v4, hv⟩ := hHeld.res
    have g0 : W7.cell? ⟨w.heap.size + 1 + 1, 0, none⟩ = some v0 := by simp [World.cell?, hv]
    have g1 : W7.cell? ⟨w.heap.size + 1 + 1, 1, none⟩ = some v1 := by simp [World.cell?, hv]
    have g2 : W7.cell? ⟨w.heap.size + 1 + 1, 2, none⟩ = some v2 := by simp [World.cell?, hv]
    have g3 : W7.cell? ⟨w.heap.size + 1 + 1, 3, none⟩ = some v3 := by simp [World.cell?, hv]
    have g4 : W7.cell? ⟨w.heap.size + 1 + 1, 4, none⟩ = some v4 := by simp [World.cell?, hv]
    have f0 : W7.frozen? ⟨w.heap.size + 1 + 1, 0, none⟩ = false := by simp [World.frozen?, hv]
    have f1 : W7.frozen? ⟨w.heap.size + 1 + 1, 1, none⟩ = false := by simp [World.frozen?, hv]
    have f2 : W7.frozen? ⟨w.heap.size + 1 + 1, 2, none⟩ = false := by simp [World.frozen?, hv]
    have f3 : W7.frozen? ⟨w.heap.size + 1 + 1, 3, none⟩ = false := by simp [World.frozen?, hv]
    have f4 : W7.frozen? ⟨w.heap.size + 1 + 1, 4, none⟩ = false := by simp [World.frozen?, hv]
    go_simp
    have h9 := Lib.hid (hHeld.setf (.bool R.2) (.bool (zB R.1 wd)) (.bool (sB R.1 wd)) (.bool (sB (cN x wd) wd)) (.bool (pB R.1)))
    refine hK.out _ _ h9.out.1 (fun hHeld2 => ?_)
    clear hK K hHeld hHeld2 g0 g1 g2 g3 g4 f0 f1 f2 f3 f4 hv
    try simp only [Act.put, List.setIfInBounds_toArray, List.set_cons_zero, List.set_cons_succ, List.getElem_toArray, List.getElem_cons_succ, List.getElem_cons_zero]
    refine wpAnyH_done (by kernel_rfl) ?_ _
    refine NoPanic.normal ?_
    generalize World.setCell (World.setCell (World.setCell (World.setCell (World.setCell _ _ _) _ _) _ _) _ _) _ _ = W9 at h9 ⊢
    obtain ⟨⟨q1, _, q3, q4⟩, q5⟩ := h9.out
    have hRR := HR.out
    clear h9
    go_wp2
    refine ⟨by simp, .inl ⟨_, _, rfl, run_takeDeferred q4, ?_⟩⟩
    have n1 : w.heap.size + 1 ≠ D := by rintro rfl; rw [show W9.heap[w.heap.size + 1]? = _ from q1] at q4; cases q4
    have n2 : w.heap.size + 1 + 1 ≠ D := by rintro rfl; rw [q5] at q4; cases q4
    have e1 : (W9.putObj D (Obj.deferred none)).heap[w.heap.size + 1]? = _ := (World.putObj_heap_other n1).trans q1
    have e5 := (World.putObj_heap_other (o := Obj.deferred none) n2).trans q5
    have b9 : Below w.heap.size w (W9.putObj D (Obj.deferred none)) := q3.trans ⟨rfl, rfl, rfl, by simp, fun k hk => World.putObj_heap_other (by omega)⟩
    generalize W9.putObj D (Obj.deferred none) = W10 at e1 e5 b9 ⊢
    have c0 : W10.cell? ⟨w.heap.size + 1, 0, none⟩ = some (.int .u64 (R.1 : Int)) := by simp [World.cell?, e1]
    have g0 : W10.cell? ⟨w.heap.size + 1 + 1, 0, none⟩ = some (.bool (R.2)) := by simp [World.cell?, e5]
    have g1 : W10.cell? ⟨w.heap.size + 1 + 1, 1, none⟩ = some (.bool (zB R.1 wd)) := by simp [World.cell?, e5]
    have g2 : W10.cell? ⟨w.heap.size + 1 + 1, 2, none⟩ = some (.bool (sB R.1 wd)) := by simp [World.cell?, e5]
    have g3 : W10.cell? ⟨w.heap.size + 1 + 1, 3, none⟩ = some (.bool (sB (cN x wd) wd)) := by simp [World.cell?, e5]
    have g4 : W10.cell? ⟨w.heap.size + 1 + 1, 4, none⟩ = some (.bool (pB R.1)) := by simp [World.cell?, e5]
    exact ⟨.tuple #[.int .u64 (R.1 : Int), fl (R.2) (zB R.1 wd) (sB R.1 wd) (sB (cN x wd) wd) (pB R.1)], by simp [results, Tryd.results20, go_sem, *], by unfold RES_shr; rw [hRR], b9⟩
theorem shift_shr8 (wd : Int) (x : Nat) (hx : U x) (m k : Nat) (hm8 : m < 256) (hk : k = m % 64) (hk0 : 0 < k) (c z s o p : Bool) (h8 : (hI wd == 8) = true) (w : World) (hm : Mk w) :
    Calls Tryd.prog 20 #[.int .u8 17, .int .i64 wd, .int .u64 x, .int .u8 (m : Int), fl c z s o p] w fun e w' => e = .returned (RES_shr (fun r => (shrN r, lB r)) x k wd c z s o p) ∧ Below w.heap.size w w' :=
  callsIn_wide.1 (shift_shr8_in Fence.wide (Lib.hid rfl) 3 (Nat.le_refl _) wd x hx m k hm8 hk hk0 c z s o p h8 w hm)
open Go.RowKit Go.Shelf
set_option linter.unusedSimpArgs false
set_option linter.unusedVariables false
attribute [local go_sem] Oper.semAt_some
theorem HST_sar (wd : Int) (r : Nat) (hr : U r) : U ((sarN r wd, lB r)).1 := cN_U _ (by have := wrap_UI (wrap64 ((eN r wd : Nat) : Int) / 2); unfold UI at this; unfold U; omega) wd
def RES_sar (st : Nat → Nat × Bool) (x k : Nat) (wd : Int) (c z s o p : Bool) : Value := .tuple #[.int .u64 ((it st (cN x wd) k).1 : Nat), fl ((it st (cN x wd) k).2) (zB (it st (cN x wd) k).1 wd) (sB (it st (cN x wd) k).1 wd) (false) (pB (it st (cN x wd) k).1)]
set_option maxRecDepth 100000 in
set_option maxHeartbeats 4000000 in
theorem shift_sar4_in (F : Fence) (HF : Hid (F = Fence.wide)) (n : Nat) (hn3 : 3 ≤ n) (wd : Int) (x : Nat) (hx : U x) (m k : Nat) (hm8 : m < 256) (hk : k = m % 32) (hk0 : 0 < k) (c z s o p : Bool) (h8 : (hI wd == 8) = false) (w : World) (hm : Mk w) :
    CallsIn F n Tryd.prog 20 #[.int .u8 18, .int .i64 wd, .int .u64 x, .int .u8 (m : Int), fl c z s o p] w fun e w' => e = .returned (RES_sar (fun r => (sarN r wd, lB r)) x k wd c z s o p) ∧ Below w.heap.size w w' := by
  have hc0 := cN_U x hx wd
  have HM := Lib.hid hm
  have hmk : ((m : Int) % 32) = (k : Int) := by rw [hk]; simp
  have hkz : ((k : Int) == 0) = false := by simp; omega
  have hk64 : k < 64 := by omega
  have HK := Lib.hid hk0
  clear hm hk hk0
  have h1 : 1 ≤ n := by omega
  have hro : F.round = none := by rw [HF.out]; rfl
  have h20 : F.fn 20 := by rw [HF.out]; trivial
  have h73 : F.fn 73 := by rw [HF.out]; trivial
  refine callsIn_of_wp_marks Tryd.func20 rfl h20 ?_ hro
  simp only [Tryd.ntmps20, List.size_toArray, List.length_cons, List.length_nil, Nat.reduceAdd, Nat.reduceSub, Array.replicate_succ, Array.replicate_zero, List.push_toArray, List.append_toArray, List.nil_append, List.cons_append]
  refine wpIn_of_wp HF ?_
  go_wp2_with (first | (go_at_call 36; refine (cut_any _ hx _ _ (((HM.out.alloc _).alloc _).alloc _)).mono ?_; rintro e w' ⟨rfl, rfl⟩) | (go_at_call 41; refine (aheld_any _ _).mono ?_; rintro e w' ⟨rfl, rfl⟩))
  go_at_call 42
  refine (shiftsAt_18 _ _ _).mono ?_
  rintro e W1 ⟨b, rfl, hlk, hl4⟩
  have HL4 := Lib.hid hl4
  clear hl4
  go_wp2_with fail
  go_at_call 43
  refine (fallen_calls _ _ _ _ _ _).mono ?_
  rintro e W2 ⟨rfl, rfl⟩
  go_wp2
  have hbase := base_of w W1 c z s o p wd (cN x wd) k (.func (Fn.func 66) #[] #[.pointer (some ⟨w.heap.size + 1 + 1 + 1, 0, none⟩), .pointer (some ⟨w.heap.size + 1 + 1 + 1 + 1 + 1, 0, none⟩)]) (.func (Fn.func 67) #[] #[]) false HL4.out
  have hbig := hbase.big
  change Code.wp Tryd.prog _ _ _ (base5 W1 (.func (Fn.func 66) #[] #[.pointer (some ⟨w.heap.size + 1 + 1 + 1, 0, none⟩), .pointer (some ⟨w.heap.size + 1 + 1 + 1 + 1 + 1, 0, none⟩)]) (.func (Fn.func 67) #[] #[]) false (cN x wd) k)
  generalize base5 W1 (.func (Fn.func 66) #[] #[.pointer (some ⟨w.heap.size + 1 + 1 + 1, 0, none⟩), .pointer (some ⟨w.heap.size + 1 + 1 + 1 + 1 + 1, 0, none⟩)]) (.func (Fn.func 67) #[] #[]) false (cN x wd) k = Wb at hbase ⊢
  have HB := Lib.hid hbase
  have hsz := hbase.sz
  clear hbase hlk HL4
  refine wp_of_wpIn HF n ?_
  have hfal := fallen_sar F HF (n - 1) k (cN x wd) hk64 hc0 wd (cN x wd) (w.heap.size + 1 + 1 + 1) (w.heap.size + 1 + 1 + 1 + 1) (w.heap.size + 1 + 1 + 1 + 1 + 1) (w.heap.size + 1 + 1 + 1 + 1 + 1 + 1) (W1.heap.size + 1 + 1 + 1) (W1.heap.size + 1 + 1 + 1 + 1) (W1.heap.size + 1 + 1) (Rnd w Wb (w.heap.size + 1) (W1.heap.size + 1) (W1.heap.size + 1 + 1) (cN x wd)) (HST_sar wd)
    (fun pre W h => HB.out.env HM.out h) (fun pre W h => (show Boxed W (W1.heap.size + 1 + 1 + 1) 3 (.int .i64 (k : Int)) from h.kp _ _ _ _ (by omega) (by omega) (by omega) HB.out.bn).cell) (fun pre W h => (show Boxed W (W1.heap.size + 1 + 1 + 1 + 1) 50 _ from h.kp _ _ _ _ (by omega) (by omega) (by omega) HB.out.bt).cell)
    (fun pre W h => by obtain ⟨v, hv, _⟩ := h.a; exact ⟨hv.frozen, v, hv.cell⟩) (fun W h => by obtain ⟨v, hv, e⟩ := h.a; rw [e rfl] at hv; exact hv.cell)
    (fun pre W x hp h => h.setA hp (by omega) (by omega) (by omega) x) (fun pre W q h => h.drewN q)
  have HF := Lib.hid hfal
  clear hfal
  refine range_cells (gf := 73) hro h1 rfl h73 (enters_of Tryd.func73 (by kernel_rfl) rfl) (fun x : Nat × Bool => #[.int .u64 (x.1 : Int), .bool x.2]) (fun _ => rfl)
    (Rnd w Wb (w.heap.size + 1) (W1.heap.size + 1) (W1.heap.size + 1 + 1) (cN x wd)) (fun xs => xs = ups (fun r => (sarN r wd, lB r)) (cN x wd) k) k (Rnd.own (by omega)) HB.out.start ?a1 ?assign ?body HF.out ?done
  case assign =>
    intro l x W K hK
    gi_wp2
    exact hK
  case body =>
    intro l pre x W hI hlt
    have HI := Lib.hid hI
    have c1 := hI.r.cell
    have f1 := hI.r.frozen
    have c2 := hI.q.cell
    have f2 := hI.q.frozen
    have n1 : ¬ w.heap.size + 1 = W1.heap.size + 1 := by omega
    have n2 : ¬ W1.heap.size + 1 = w.heap.size + 1 := by omega
    clear hI
    gi_wp2
    exact ⟨(KeepsOthers.setCell _ _ _).trans (KeepsOthers.setCell _ _ _), HI.out.next (by omega) (by omega) (by omega) (by omega) (by omega)⟩
  case done =>
    rintro D xs W hD rfl hI hK
    have hk0 := HK.out
    have hr := hI.r
    rw [rvOf_ups _ _ _ hk0] at hr
    have hq := hI.q
    rw [lvOf_ups _ _ _ hk0] at hq
    have hE := HB.out.env HM.out hI
    have hu := it_U (fun r => (sarN r wd, lB r)) (cN x wd) hc0 (HST_sar wd) k
    have hs : W.heap[W1.heap.size]? = some (.cells #[.func (Fn.func 66) #[] #[.pointer (some ⟨w.heap.size + 1 + 1 + 1, 0, none⟩), .pointer (some ⟨w.heap.size + 1 + 1 + 1 + 1 + 1, 0, none⟩)], .func (Fn.func 67) #[] #[], .bool false] 53 (0, 0)) := hI.kp _ _ _ _ (by omega) (by omega) (by omega) HB.out.bs
    have cs1 : W.cell? ⟨W1.heap.size, 1, none⟩ = some (.func (Fn.func 67) #[] #[]) := by simp [World.cell?, hs]
    have cs2 : W.cell? ⟨W1.heap.size, 2, none⟩ = some (.bool false) := by simp [World.cell?, hs]
    generalize hR : it (fun r => (sarN r wd, lB r)) (cN x wd) k = R at hr hq hu
    have HR := Lib.hid hR
    have HI := Lib.hid hI
    have HKD := Lib.hid hK
    have cr := hr.cell
    have fr := hr.frozen
    have cq := hq.cell
    obtain ⟨hMW, hcw, hca, hcl, hch⟩ := hE
    have HE : Hid (Env wd (cN x wd) (w.heap.size + 1 + 1 + 1) (w.heap.size + 1 + 1 + 1 + 1) (w.heap.size + 1 + 1 + 1 + 1 + 1) (w.heap.size + 1 + 1 + 1 + 1 + 1 + 1) W) := Lib.hid ⟨hMW, hcw, hca, hcl, hch⟩
    clear hk0 hr hq hs hR hI hK hMW hcw hca hcl hch
    go_wp2_with fail
    go_at_call 67
    refine (sar_flags _ hu _ wd _ _ _ _ _ _ HE.out).mono ?_
    rintro e w1 ⟨rfl, q, rfl⟩
    have HT : Hid (Tl w D (.int .u64 (R.1 : Int)) (W.drewN q)) := Lib.hid ((show Tl w D (.int .u64 (R.1 : Int)) W from ⟨by have := HI.out.r; rw [rvOf_ups _ _ _ HK.out, HR.out] at this; exact this, ⟨_, _, _, _, _, HI.out.kp _ _ _ _ (by omega) (by omega) (by omega) HB.out.bf⟩, HI.out.bel, HKD.out⟩).drewN q)
    go_wp2
    clear cs1 cs2 cr fr cq
    generalize W.drewN q = W2 at HT ⊢
    refine wp_region_noPanic ?_
    refine wp_region_held_drew (S := fun W => Tl w D (.int .u64 (R.1 : Int)) W) (by kernel_rfl) ?_ (fun hHeld => ?_)
    · (first | (with_reducible assumption) | exact HT.out.drew)
    refine wpAnyH_take (i := 0) (v := ?_) rfl (by kernel_rfl) (by kernel_rfl) (by kernel_rfl) (fun _ _ _ h => h) (Or.inl ⟨by kernel_rfl, ?_⟩) (by assumption) ?_
    rotate_left
    · intro w hSw
      have h1 := hSw.box.cell
      go_simp
      try with_reducible rfl
    simp only [Act.put, List.setIfInBounds_toArray, List.set_cons_zero, List.set_cons_succ, List.getElem_toArray, List.getElem_cons_succ, List.getElem_cons_zero]
    refine wpAnyH_take (i := 1) (v := ?_) rfl (by kernel_rfl) (by kernel_rfl) (by kernel_rfl) (fun _ _ _ h => h) (Or.inl ⟨by kernel_rfl, ?_⟩) (by assumption) ?_
    rotate_left
    · intro w hSw
      have h1 := hSw.box.cell
      go_simp
      try with_reducible rfl
    simp only [Act.put, List.setIfInBounds_toArray, List.set_cons_zero, List.set_cons_succ, List.getElem_toArray, List.getElem_cons_succ, List.getElem_cons_zero]
    refine wpAnyH_take (i := 2) (v := ?_) rfl (by kernel_rfl) (by kernel_rfl) (by kernel_rfl) (fun _ _ _ h => h) (Or.inl ⟨by kernel_rfl, ?_⟩) (by assumption) ?_
    rotate_left
    · intro w hSw
      have h1 := hSw.box.cell
      go_simp
      try with_reducible rfl
    simp only [Act.put, List.setIfInBounds_toArray, List.set_cons_zero, List.set_cons_succ, List.getElem_toArray, List.getElem_cons_succ, List.getElem_cons_zero]
    refine wpAnyH_take (i := 3) (v := ?_) rfl (by kernel_rfl) (by kernel_rfl) (by kernel_rfl) (fun _ _ _ h => h) (Or.inl ⟨by kernel_rfl, ?_⟩) (by assumption) ?_
    rotate_left
    · intro w hSw
      have h1 := hSw.box.cell
      go_simp
      try with_reducible rfl
    simp only [Act.put, List.setIfInBounds_toArray, List.set_cons_zero, List.set_cons_succ, List.getElem_toArray, List.getElem_cons_succ, List.getElem_cons_zero]
    refine wpAnyH_take (i := 4) (v := ?_) rfl (by kernel_rfl) (by kernel_rfl) (by kernel_rfl) (fun _ _ _ h => h) (Or.inl ⟨by kernel_rfl, ?_⟩) (by assumption) ?_
    rotate_left
    · intro w hSw
      have h1 := hSw.box.cell
      go_simp
      try with_reducible rfl
    simp only [Act.put, List.setIfInBounds_toArray, List.set_cons_zero, List.set_cons_succ, List.getElem_toArray, List.getElem_cons_succ, List.getElem_cons_zero]
    refine wpAnyH_ready (rs := [5]) (by kernel_rfl) (by simp) ?_
    refine AllReadyH.cons rfl (fun K hK => ?_) AllReadyH.nil
    rw [if_pos (by kernel_rfl)]; go_simp; go_at_call 33; (with_reducible refine (told_any _ hu _ _ _ _ (HM.out.own hHeld.bel)).mono ?_); rintro e w1 ⟨rfl, hb1⟩
    refine hK.out _ _ (hHeld.below hb1) (fun hHeld2 => ?_)
    clear hK K hHeld hb1
    have hHeld := hHeld2
    clear hHeld2
    try simp only [Act.put, List.setIfInBounds_toArray, List.set_cons_zero, List.set_cons_succ, List.getElem_toArray, List.getElem_cons_succ, List.getElem_cons_zero]
    refine wpAnyH_ready (rs := [6]) (by kernel_rfl) (by simp) ?_
    refine AllReadyH.cons rfl (fun K hK => ?_) AllReadyH.nil
    have c1 := hHeld.box.cell
    have f1 := hHeld.box.frozen
    go_simp
    refine hK.out _ _ hHeld.setr (fun hHeld2 => ?_)
    clear hK K hHeld c1 f1
    have hHeld := hHeld2
    clear hHeld2
    try simp only [Act.put, List.setIfInBounds_toArray, List.set_cons_zero, List.set_cons_succ, List.getElem_toArray, List.getElem_cons_succ, List.getElem_cons_zero]
    generalize World.setCell _ _ _ = W7 at hHeld ⊢
    refine wpAnyH_ready (rs := [7]) (by kernel_rfl) (by simp) ?_
    refine AllReadyH.cons rfl (fun K hK => ?_) AllReadyH.nil
    obtain ⟨v0, v1, v2, v3, v4, hv⟩ := hHeld.res
    have g0 : W7.cell? ⟨w.heap.size + 1 + 1, 0, none⟩ = some v0 := by simp [World.cell?, hv]
    have g1 : W7.cell? ⟨w.heap.size + 1 + 1, 1, none⟩ = some v1 := by simp [World.cell?, hv]
    have g2 : W7.cell? ⟨w.heap.size + 1 + 1, 2, none⟩ = some v2 := by simp [World.cell?, hv]
    have g3 : W7.cell? ⟨w.heap.size + 1 + 1, 3, none⟩ = some v3 := by simp [World.cell?, hv]
    have g4 : W7.cell? ⟨w.heap.size + 1 + 1, 4, none⟩ = some v4 := by simp [World.cell?, hv]
    have f0 : W7.frozen? ⟨w.heap.size + 1 + 1, 0, none⟩ = false := by simp [World.frozen?, hv]
    have f1 : W7.frozen? ⟨w.heap.size + 1 + 1, 1, none⟩ = false := by simp [World.frozen?, hv]
    have f2 : W7.frozen? ⟨w.heap.size + 1 + 1, 2, none⟩ = false := by simp [World.frozen?, hv]
    have f3 : W7.frozen? ⟨w.heap.size + 1 + 1, 3, none⟩ = false := by simp [World.frozen?, hv]
    have f4 : W7.frozen? ⟨w.heap.size + 1 + 1, 4, none⟩ = false := by simp [World.frozen?, hv]
    go_simp
    have h9 := Lib.hid (hHeld.setf (.bool R.2) (.bool (zB R.1 wd)) (.bool (sB R.1 wd)) (.bool (false)) (.bool (pB R.1)))
    refine hK.out _ _ h9.out.1 (fun hHeld2 => ?_)
    clear hK K hHeld hHeld2 g0 g1 g2 g3 g4 f0 f1 f2 f3 f4 hv
    try simp only [Act.put, List.setIfInBounds_toArray, List.set_cons_zero, List.set_cons_succ, List.getElem_toArray, List.getElem_cons_succ, List.getElem_cons_zero]
    refine wpAnyH_done (by kernel_rfl) ?_ _
    refine NoPanic.normal ?_
    generalize World.setCell (World.setCell (World.setCell (World.setCell (World.setCell _ _ _) _ _) _ _) _ _) _ _ = W9 at h9 ⊢
    obtain ⟨⟨q1, _, q3, q4⟩, q5⟩ := h9.out
    have hRR := HR.out
    clear h9
    go_wp2
    refine ⟨by simp, .inl ⟨_, _, rfl, run_takeDeferred q4, ?_⟩⟩
    have n1 : w.heap.size + 1 ≠ D := by rintro rfl; rw [show W9.heap[w.heap.size + 1]? = _ from q1] at q4; cases q4
    have n2 : w.heap.size + 1 + 1 ≠ D := by rintro rfl; rw [q5] at q4; cases q4
    have e1 : (W9.putObj D (Obj.deferred none)).heap[w.heap.size + 1]? = _ := (World.putObj_heap_other n1).trans q1
    have e5 := (World.putObj_heap_other (o := Obj.deferred none) n2).trans q5
    have b9 : Below w.heap.size w (W9.putObj D (Obj.deferred none)) := q3.trans ⟨rfl, rfl, rfl, by simp, fun k hk => World.putObj_heap_other (by omega)⟩
    generalize W9.putObj D (Obj.deferred none) = W10 at e1 e5 b9 ⊢
    have c0 : W10.cell? ⟨w.heap.size + 1, 0, none⟩ = some (.int .u64 (R.1 : Int)) := by simp [World.cell?, e1]
    have g0 : W10.cell? ⟨w.heap.size + 1 + 1, 0, none⟩ = some (.bool (R.2)) := by simp [World.cell?, e5]
    have g1 : W10.cell? ⟨w.heap.size + 1 + 1, 1, none⟩ = some (.bool (zB R.1 wd)) := by simp [World.cell?, e5]
    have g2 : W10.cell? ⟨w.heap.size + 1 + 1, 2, none⟩ = some (.bool (sB R.1 wd)) := by simp [World.cell?, e5]
    have g3 : W10.cell? ⟨w.heap.size + 1 + 1, 3, none⟩ = some (.bool (false)) := by simp [World.cell?, e5]
    have g4 : W10.cell? ⟨w.heap.size + 1 + 1, 4, none⟩ = some (.bool (pB R.1)) := by simp [World.cell?, e5]
    exact ⟨.tuple #[.int .u64 (R.1 : Int), fl (R.2) (zB R.1 wd) (sB R.1 wd) (false) (pB R.1)], by simp [results, Tryd.results20, go_sem, *], by unfold RES_sar; rw [hRR], b9⟩
theorem shift_sar4 (wd : Int) (x : Nat) (hx : U x) (m k : Nat) (hm8 : m < 256) (hk : k = m % 32) (hk0 : 0 < k) (c z s o p : Bool) (h8 : (hI wd == 8) = false) (w : World) (hm : Mk w) :
    Calls Tryd.prog 20 #[.int .u8 18, .int .i64 wd, .int .u64 x, .int .u8 (m : Int), fl c z s o p] w fun e w' => e = .returned (RES_sar (fun r => (sarN r wd, lB r)) x k wd c z s o p) ∧ Below w.heap.size w w' :=
  callsIn_wide.1 (shift_sar4_in Fence.wide (Lib.hid rfl) 3 (Nat.le_refl _) wd x hx m k hm8 hk hk0 c z s o p h8 w hm)
set_option maxRecDepth 100000 in
set_option maxHeartbeats 4000000 in
theorem shift_sar8_in (F : Fence) (HF : Hid (F = Fence.wide)) (n : Nat) (hn3 : 3 ≤ n) (wd : Int) (x : Nat) (hx : U x) (m k : Nat) (hm8 : m < 256) (hk : k = m % 64) (hk0 : 0 < k) (c z s o p : Bool) (h8 : (hI wd == 8) = true) (w : World) (hm : Mk w) :
    CallsIn F n Tryd.prog 20 #[.int .u8 18, .int .i64 wd, .int .u64 x, .int .u8 (m : Int), fl c z s o p] w fun e w' => e = .returned (RES_sar (fun r => (sarN r wd, lB r)) x k wd c z s o p) ∧ Below w.heap.size w w' := by
  have hc0 := cN_U x hx wd
  have HM := Lib.hid hm
  have hmk : ((m : Int) % 64) = (k : Int) := by rw [hk]; simp
  have hkz : ((k : Int) == 0) = false := by simp; omega
  have hk64 : k < 64 := by omega
  have HK := Lib.hid hk0
  clear hm hk hk0
  have h1 : 1 ≤ n := by omega
  have hro : F.round = none := by rw [HF.out]; rfl
  have h20 : F.fn 20 := by rw [HF.out]; trivial
  have h73 : F.fn 73 := by rw [HF.out]; trivial
  refine callsIn_of_wp_marks Tryd.func20 rfl h20 ?_ hro
  simp only [Tryd.ntmps20, List.size_toArray, List.length_cons, List.length_nil, Nat.reduceAdd, Nat.reduceSub, Array.replicate_succ, Array.replicate_zero, List.push_toArray, List.append_toArray, List.nil_append, List.cons_append]
  refine wpIn_of_wp HF ?_
  go_wp2_with (first | (go_at_call 36; refine (cut_any _ hx _ _ (((HM.out.alloc _).alloc _).alloc _)).mono ?_; rintro e w' ⟨rfl, rfl⟩) | (go_at_call 41; refine (aheld_any _ _).mono ?_; rintro e w' ⟨rfl, rfl⟩))
  go_at_call 42
  refine (shiftsAt_18 _ _ _).mono ?_
  rintro e W1 ⟨b, rfl, hlk, hl4⟩
  have HL4 := Lib.hid hl4
  clear hl4
  go_wp2_with fail
  go_at_call 43
  refine (fallen_calls _ _ _ _ _ _).mono ?_
  rintro e W2 ⟨rfl, rfl⟩
  go_wp2
  have hbase := base_of w W1 c z s o p wd (cN x wd) k (.func (Fn.func 66) #[] #[.pointer (some ⟨w.heap.size + 1 + 1 + 1, 0, none⟩), .pointer (some ⟨w.heap.size + 1 + 1 + 1 + 1 + 1, 0, none⟩)]) (.func (Fn.func 67) #[] #[]) false HL4.out
  have hbig := hbase.big
  change Code.wp Tryd.prog _ _ _ (base5 W1 (.func (Fn.func 66) #[] #[.pointer (some ⟨w.heap.size + 1 + 1 + 1, 0, none⟩), .pointer (some ⟨w.heap.size + 1 + 1 + 1 + 1 + 1, 0, none⟩)]) (.func (Fn.func 67) #[] #[]) false (cN x wd) k)
  generalize base5 W1 (.func (Fn.func 66) #[] #[.pointer (some ⟨w.heap.size + 1 + 1 + 1, 0, none⟩), .pointer (some ⟨w.heap.size + 1 + 1 + 1 + 1 + 1, 0, none⟩)]) (.func (Fn.func 67) #[] #[]) false (cN x wd) k = Wb at hbase ⊢
  have HB := Lib.hid hbase
  have hsz := hbase.sz
  clear hbase hlk HL4
  refine wp_of_wpIn HF n ?_
  have hfal := fallen_sar F HF (n - 1) k (cN x wd) hk64 hc0 wd (cN x wd) (w.heap.size + 1 + 1 + 1) (w.heap.size + 1 + 1 + 1 + 1) (w.heap.size + 1 + 1 + 1 + 1 + 1) (w.heap.size + 1 + 1 + 1 + 1 + 1 + 1) (W1.heap.size + 1 + 1 + 1) (W1.heap.size + 1 + 1 + 1 + 1) (W1.heap.size + 1 + 1) (Rnd w Wb (w.heap.size + 1) (W1.heap.size + 1) (W1.heap.size + 1 + 1) (cN x wd)) (HST_sar wd)
    (fun pre W h => HB.out.env HM.out h) (fun pre W h => (show Boxed W (W1.heap.size + 1 + 1 + 1) 3 (.int .i64 (k : Int)) from h.kp _ _ _ _ (by omega) (by omega) (by omega) HB.out.bn).cell) (fun pre W h => (show Boxed W (W1.heap.size + 1 + 1 + 1 + 1) 50 _ from h.kp _ _ _ _ (by omega) (by omega) (by omega) HB.out.bt).cell)
    (fun pre W h => by obtain ⟨v, hv, _⟩ := h.a; exact ⟨hv.frozen, v, hv.cell⟩) (fun W h => by obtain ⟨v, hv, e⟩ := h.a; rw [e rfl] at hv; exact hv.cell)
    (fun pre W x hp h => h.setA hp (by omega) (by omega) (by omega) x) (fun pre W q h => h.drewN q)
  have HF := Lib.hid hfal
  clear hfal
  refine range_cells (gf := 73) hro h1 rfl h73 (enters_of Tryd.func73 (by kernel_rfl) rfl) (fun x : Nat × Bool => #[.int .u64 (x.1 : Int), .bool x.2]) (fun _ => rfl)
    (Rnd w Wb (w.heap.size + 1) (W1.heap.size + 1) (W1.heap.size + 1 + 1) (cN x wd)) (fun xs => xs = ups (fun r => (sarN r wd, lB r)) (cN x wd) k) k (Rnd.own (by omega)) HB.out.start ?a1 ?assign ?body HF.out ?done
  case assign =>
    intro l x W K hK
    gi_wp2
    exact hK
  case body =>
    intro l pre x W hI hlt
    have HI := Lib.hid hI
    have c1 := hI.r.cell
    have f1 := hI.r.frozen
    have c2 := hI.q.cell
    have f2 := hI.q.frozen
    have n1 : ¬ w.heap.size + 1 = W1.heap.size + 1 := by omega
    have n2 : ¬ W1.heap.size + 1 = w.heap.size + 1 := by omega
    clear hI
    gi_wp2
    exact ⟨(KeepsOthers.setCell _ _ _).trans (KeepsOthers.setCell _ _ _), HI.out.next (by omega) (by omega) (by omega) (by omega) (by omega)⟩
  case done =>
    rintro D xs W hD rfl hI hK
    have hk0 := HK.out
    have hr := hI.r
    rw [rvOf_ups _ _ _ hk0] at hr
    have hq := hI.q
    rw [lvOf_ups _ _ _ hk0] at hq
    have hE := HB.out.env HM.out hI
    have hu := it_U (fun r => (sarN r wd, lB r)) (cN x wd) hc0 (HST_sar wd) k
    have hs : W.heap[W1.heap.size]? = some (.cells #[.func (Fn.func 66) #[] #[.pointer (some ⟨w.heap.size + 1 + 1 + 1, 0, none⟩), .pointer (some ⟨w.heap.size + 1 + 1 + 1 + 1 + 1, 0, none⟩)], .func (Fn.func 67) #[] #[], .bool false] 53 (0, 0)) := hI.kp _ _ _ _ (by omega) (by omega) (by omega) HB.out.bs
    have cs1 : W.cell? ⟨W1.heap.size, 1, none⟩ = some (.func (Fn.func 67) #[] #[]) := by simp [World.cell?, hs]
    have cs2 : W.cell? ⟨W1.heap.size, 2, none⟩ = some (.bool false) := by simp [World.cell?, hs]
    generalize hR : it (fun r => (sarN r wd, lB r)) (cN x wd) k = R at hr hq hu
    have HR := Lib.hid hR
    have HI := Lib.hid hI
    have HKD := Lib.hid hK
    have cr := hr.cell
    have fr := hr.frozen
    have cq := hq.cell
    obtain ⟨hMW, hcw, hca, hcl, hch⟩ := hE
    have HE : Hid (Env wd (cN x wd) (w.heap.size + 1 + 1 + 1) (w.heap.size + 1 + 1 + 1 + 1) (w.heap.size + 1 + 1 + 1 + 1 + 1) (w.heap.size + 1 + 1 + 1 + 1 + 1 + 1) W) := Lib.hid ⟨hMW, hcw, hca, hcl, hch⟩
    clear hk0 hr hq hs hR hI hK hMW hcw hca hcl hch
    go_wp2_with fail
    go_at_call 67
    refine (sar_flags _ hu _ wd _ _ _ _ _ _ HE.out).mono ?_
    rintro e w1 ⟨rfl, q, rfl⟩
    have HT : Hid (Tl w D (.int .u64 (R.1 : Int)) (W.drewN q)) := Lib.hid ((show Tl w D (.int .u64 (R.1 : Int)) W from ⟨by have := HI.out.r; rw [rvOf_ups _ _ _ HK.out, HR.out] at this; exact this, ⟨_, _, _, _, _, HI.out.kp _ _ _ _ (by omega) (by omega) (by omega) HB.out.bf⟩, HI.out.bel, HKD.out⟩).drewN q)
    go_wp2
    clear cs1 cs2 cr fr cq
    generalize W.drewN q = W2 at HT ⊢
    refine wp_region_noPanic ?_
    refine wp_region_held_drew (S := fun W => Tl w D (.int .u64 (R.1 : Int)) W) (by kernel_rfl) ?_ (fun hHeld => ?_)
    · (first | (with_reducible assumption) | exact HT.out.drew)
    refine wpAnyH_take (i := 0) (v := ?_) rfl (by kernel_rfl) (by kernel_rfl) (by kernel_rfl) (fun _ _ _ h => h) (Or.inl ⟨by kernel_rfl, ?_⟩) (by assumption) ?_
    rotate_left
    · intro w hSw
      have h1 := hSw.box.cell
      go_simp
      try with_reducible rfl
    simp only [Act.put, List.setIfInBounds_toArray, List.set_cons_zero, List.set_cons_succ, List.getElem_toArray, List.getElem_cons_succ, List.getElem_cons_zero]
    refine wpAnyH_take (i := 1) (v := ?_) rfl (by kernel_rfl) (by kernel_rfl) (by kernel_rfl) (fun _ _ _ h => h) (Or.inl ⟨by kernel_rfl, ?_⟩) (by assumption) ?_
    rotate_left
    · intro w hSw
      have h1 := hSw.box.cell
      go_simp
      try with_reducible rfl
    simp only [Act.put, List.setIfInBounds_toArray, List.set_cons_zero, List.set_cons_succ, List.getElem_toArray, List.getElem_cons_succ, List.getElem_cons_zero]
    refine wpAnyH_take (i := 2) (v := ?_) rfl (by kernel_rfl) (by kernel_rfl) (by kernel_rfl) (fun _ _ _ h => h) (Or.inl ⟨by kernel_rfl, ?_⟩) (by assumption) ?_
    rotate_left
    · intro w hSw
      have h1 := hSw.box.cell
      go_simp
      try with_reducible rfl
    simp only [Act.put, List.setIfInBounds_toArray, List.set_cons_zero, List.set_cons_succ, List.getElem_toArray, List.getElem_cons_succ, List.getElem_cons_zero]
    refine wpAnyH_take (i := 3) (v := ?_) rfl (by kernel_rfl) (by kernel_rfl) (by kernel_rfl) (fun _ _ _ h => h) (Or.inl ⟨by kernel_rfl, ?_⟩) (by assumption) ?_
    rotate_left
    · intro w hSw
      have h1 := hSw.box.cell
      go_simp
      try with_reducible rfl
    simp only [Act.put, List.setIfInBounds_toArray, List.set_cons_zero, List.set_cons_succ, List.getElem_toArray, List.getElem_cons_succ, List.getElem_cons_zero]
    refine wpAnyH_take (i := 4) (v := ?_) rfl (by kernel_rfl) (by kernel_rfl) (by kernel_rfl) (fun _ _ _ h => h) (Or.inl ⟨by kernel_rfl, ?_⟩) (by assumption) ?_
    rotate_left
    · intro w hSw
      have h1 := hSw.box.cell
      go_simp
      try with_reducible rfl
    simp only [Act.put, List.setIfInBounds_toArray, List.set_cons_zero, List.set_cons_succ, List.getElem_toArray, List.getElem_cons_succ, List.getElem_cons_zero]
    refine wpAnyH_ready (rs := [5]) (by kernel_rfl) (by simp) ?_
    refine AllReadyH.cons rfl (fun K hK => ?_) AllReadyH.nil
    rw [if_pos (by kernel_rfl)]; go_simp; go_at_call 33; (with_reducible refine (told_any _ hu _ _ _ _ (HM.out.own hHeld.bel)).mono ?_); rintro e w1 ⟨rfl, hb1⟩
    refine hK.out _ _ (hHeld.below hb1) (fun hHeld2 => ?_)
    clear hK K hHeld hb1
    have hHeld := hHeld2
    clear hHeld2
    try simp only [Act.put, List.setIfInBounds_toArray, List.set_cons_zero, List.set_cons_succ, List.getElem_toArray, List.getElem_cons_succ, List.getElem_cons_zero]
    refine wpAnyH_ready (rs := [6]) (by kernel_rfl) (by simp) ?_
    refine AllReadyH.cons rfl (fun K hK => ?_) AllReadyH.nil
    have c1 := hHeld.box.cell
    have f1 := hHeld.box.frozen
    go_simp
    refine hK.out _ _ hHeld.setr (fun hHeld2 => ?_)
    clear hK K hHeld c1 f1
    have hHeld := hHeld2
    clear hHeld2
    try simp only [Act.put, List.setIfInBounds_toArray, List.set_cons_zero, List.set_cons_succ, List.getElem_toArray, List.getElem_cons_succ, List.getElem_cons_zero]
    generalize World.setCell _ _ _ = W7 at hHeld ⊢
    refine wpAnyH_ready (rs := [7]) (by kernel_rfl) (by simp) ?_
    refine AllReadyH.cons rfl (fun K hK => ?_) AllReadyH.nil
    obtain ⟨v0, v1, v2, v3, v4, hv⟩ := hHeld.res
    have g0 : W7.cell? ⟨w.heap.size + 1 + 1, 0, none⟩ = some v0 := by simp [World.cell?, hv]
    have g1 : W7.cell? ⟨w.heap.size + 1 + 1, 1, none⟩ = some v1 := by simp [World.cell?, hv]
    have g2 : W7.cell? ⟨w.heap.size + 1 + 1, 2, none⟩ = some v2 := by simp [World.cell?, hv]
    have g3 : W7.cell? ⟨w.heap.size + 1 + 1, 3, none⟩ = some v3 := by simp [World.cell?, hv]
    have g4 : W7.cell? ⟨w.heap.size + 1 + 1, 4, none⟩ = some v4 := by simp [World.cell?, hv]
    have f0 : W7.frozen? ⟨w.heap.size + 1 + 1, 0, none⟩ = false := by simp [World.frozen?, hv]
    have f1 : W7.frozen? ⟨w.heap.size + 1 + 1, 1, none⟩ = false := by simp [World.frozen?, hv]
    have f2 : W7.frozen? ⟨w.heap.size + 1 + 1, 2, none⟩ = false := by simp [World.frozen?, hv]
    have f3 : W7.frozen? ⟨w.heap.size + 1 + 1, 3, none⟩ = false := by simp [World.frozen?, hv]
    have f4 : W7.frozen? ⟨w.heap.size + 1 + 1, 4, none⟩ = false := by simp [World.frozen?, hv]
    go_simp
    have h9 := Lib.hid (hHeld.setf (.bool R.2) (.bool (zB R.1 wd)) (.bool (sB R.1 wd)) (.bool (false)) (.bool (pB R.1)))
    refine hK.out _ _ h9.out.1 (fun hHeld2 => ?_)
    clear hK K hHeld hHeld2 g0 g1 g2 g3 g4 f0 f1 f2 f3 f4 hv
    try simp only [Act.put, List.setIfInBounds_toArray, List.set_cons_zero, List.set_cons_succ, List.getElem_toArray, List.getElem_cons_succ, List.getElem_cons_zero]
    refine wpAnyH_done (by kernel_rfl) ?_ _
    refine NoPanic.normal ?_
    generalize World.setCell (World.setCell (World.setCell (World.setCell (World.setCell _ _ _) _ _) _ _) _ _) _ _ = W9 at h9 ⊢
    obtain ⟨⟨q1, _, q3, q4⟩, q5⟩ := h9.out
    have hRR := HR.out
    clear h9
    go_wp2
    refine ⟨by simp, .inl ⟨_, _, rfl, run_takeDeferred q4, ?_⟩⟩
    have n1 : w.heap.size + 1 ≠ D := by rintro rfl; rw [show W9.heap[w.heap.size + 1]? = _ from q1] at q4; cases q4
    have n2 : w.heap.size + 1 + 1 ≠ D := by rintro rfl; rw [q5] at q4; cases q4
    have e1 : (W9.putObj D (Obj.deferred none)).heap[w.heap.size + 1]? = _ := (World.putObj_heap_other n1).trans q1
    have e5 := (World.putObj_heap_other (o := Obj.deferred none) n2).trans q5
    have b9 : Below w.heap.size w (W9.putObj D (Obj.deferred none)) := q3.trans ⟨rfl, rfl, rfl, by simp, fun k hk => World.putObj_heap_other (by omega)⟩
    generalize W9.putObj D (Obj.deferred none) = W10 at e1 e5 b9 ⊢
    have c0 : W10.cell? ⟨w.heap.size + 1, 0, none⟩ = some (.int .u64 (R.1 : Int)) := by simp [World.cell?, e1]
    have g0 : W10.cell? ⟨w.heap.size + 1 + 1, 0, none⟩ = some (.bool (R.2)) := by simp [World.cell?, e5]
    have g1 : W10.cell? ⟨w.heap.size + 1 + 1, 1, none⟩ = some (.bool (zB R.1 wd)) := by simp [World.cell?, e5]
    have g2 : W10.cell? ⟨w.heap.size + 1 + 1, 2, none⟩ = some (.bool (sB R.1 wd)) := by simp [World.cell?, e5]
    have g3 : W10.cell? ⟨w.heap.size + 1 + 1, 3, none⟩ = some (.bool (false)) := by simp [World.cell?, e5]
    have g4 : W10.cell? ⟨w.heap.size + 1 + 1, 4, none⟩ = some (.bool (pB R.1)) := by simp [World.cell?, e5]
    exact ⟨.tuple #[.int .u64 (R.1 : Int), fl (R.2) (zB R.1 wd) (sB R.1 wd) (false) (pB R.1)], by simp [results, Tryd.results20, go_sem, *], by unfold RES_sar; rw [hRR], b9⟩
theorem shift_sar8 (wd : Int) (x : Nat) (hx : U x) (m k : Nat) (hm8 : m < 256) (hk : k = m % 64) (hk0 : 0 < k) (c z s o p : Bool) (h8 : (hI wd == 8) = true) (w : World) (hm : Mk w) :
    Calls Tryd.prog 20 #[.int .u8 18, .int .i64 wd, .int .u64 x, .int .u8 (m : Int), fl c z s o p] w fun e w' => e = .returned (RES_sar (fun r => (sarN r wd, lB r)) x k wd c z s o p) ∧ Below w.heap.size w w' :=
  callsIn_wide.1 (shift_sar8_in Fence.wide (Lib.hid rfl) 3 (Nat.le_refl _) wd x hx m k hm8 hk hk0 c z s o p h8 w hm)
open Go.RowKit Go.Shelf
set_option linter.unusedSimpArgs false
set_option linter.unusedVariables false
attribute [local go_sem] Oper.semAt_some
theorem turnN_U_rol (a k : Nat) (wd : Int) (ha : U a) : U (turnN a k wd) := by
  unfold turnN U
  have h1 := mN_lt wd
  have h2 : cN a wd < 18446744073709551616 := cN_U a ha wd
  refine Nat.or_lt_two_pow (n := 64) (Nat.lt_of_lt_of_le (Nat.mod_lt _ (Nat.two_pow_pos _)) h1) (Nat.lt_of_le_of_lt (Nat.div_le_self _ _) h2)
theorem HST_rol (wd : Int) (r : Nat) (hr : U r) : U ((turnN r (tN 1 wd) wd, sB r wd)).1 := turnN_U_rol _ _ _ hr
def RES_rol (st : Nat → Nat × Bool) (x k : Nat) (wd : Int) (c z s o p : Bool) : Value := .tuple #[.int .u64 ((it st (cN x wd) k).1 : Nat), fl (lB (it st (cN x wd) k).1) z s (sB (it st (cN x wd) k).1 wd != lB (it st (cN x wd) k).1) p]
set_option maxRecDepth 100000 in
set_option maxHeartbeats 4000000 in
theorem shift_rol4_in (F : Fence) (HF : Hid (F = Fence.wide)) (n : Nat) (hn3 : 3 ≤ n) (wd : Int) (x : Nat) (hx : U x) (m k : Nat) (hm8 : m < 256) (hk : k = m % 32) (hk0 : 0 < k) (c z s o p : Bool) (h8 : (hI wd == 8) = false) (w : World) (hm : Mk w) :
    CallsIn F n Tryd.prog 20 #[.int .u8 19, .int .i64 wd, .int .u64 x, .int .u8 (m : Int), fl c z s o p] w fun e w' => e = .returned (RES_rol (fun r => (turnN r (tN 1 wd) wd, sB r wd)) x k wd c z s o p) ∧ Below w.heap.size w w' := by
  have hc0 := cN_U x hx wd
  have HM := Lib.hid hm
  have hmk : ((m : Int) % 32) = (k : Int) := by rw [hk]; simp
  have hkz : ((k : Int) == 0) = false := by simp; omega
  have hk64 : k < 64 := by omega
  have HK := Lib.hid hk0
  clear hm hk hk0
  have h1 : 1 ≤ n := by omega
  have hro : F.round = none := by rw [HF.out]; rfl
  have h20 : F.fn 20 := by rw [HF.out]; trivial
  have h73 : F.fn 73 := by rw [HF.out]; trivial
  refine callsIn_of_wp_marks Tryd.func20 rfl h20 ?_ hro
  simp only [Tryd.ntmps20, List.size_toArray, List.length_cons, List.length_nil, Nat.reduceAdd, Nat.reduceSub, Array.replicate_succ, Array.replicate_zero, List.push_toArray, List.append_toArray, List.nil_append, List.cons_append]
  refine wpIn_of_wp HF ?_
  go_wp2_with (first | (go_at_call 36; refine (cut_any _ hx _ _ (((HM.out.alloc _).alloc _).alloc _)).mono ?_; rintro e w' ⟨rfl, rfl⟩) | (go_at_call 41; refine (aheld_any _ _).mono ?_; rintro e w' ⟨rfl, rfl⟩))
  go_at_call 42
  refine (shiftsAt_19 _ _ _).mono ?_
  rintro e W1 ⟨b, rfl, hlk, hl4⟩
  have HL4 := Lib.hid hl4
  clear hl4
  go_wp2_with fail
  go_at_call 43
  refine (fallen_calls _ _ _ _ _ _).mono ?_
  rintro e W2 ⟨rfl, rfl⟩
  go_wp2
  have hbase := base_of w W1 c z s o p wd (cN x wd) k (.func (Fn.func 68) #[] #[.pointer (some ⟨w.heap.size + 1 + 1 + 1, 0, none⟩), .pointer (some ⟨w.heap.size + 1 + 1 + 1 + 1 + 1 + 1, 0, none⟩)]) (.func (Fn.func 70) #[] #[.pointer (some ⟨w.heap.size + 1 + 1 + 1 + 1 + 1, 0, none⟩), .pointer (some ⟨w.heap.size + 1 + 1 + 1 + 1 + 1 + 1, 0, none⟩)]) true HL4.out
  have hbig := hbase.big
  change Code.wp Tryd.prog _ _ _ (base5 W1 (.func (Fn.func 68) #[] #[.pointer (some ⟨w.heap.size + 1 + 1 + 1, 0, none⟩), .pointer (some ⟨w.heap.size + 1 + 1 + 1 + 1 + 1 + 1, 0, none⟩)]) (.func (Fn.func 70) #[] #[.pointer (some ⟨w.heap.size + 1 + 1 + 1 + 1 + 1, 0, none⟩), .pointer (some ⟨w.heap.size + 1 + 1 + 1 + 1 + 1 + 1, 0, none⟩)]) true (cN x wd) k)
  generalize base5 W1 (.func (Fn.func 68) #[] #[.pointer (some ⟨w.heap.size + 1 + 1 + 1, 0, none⟩), .pointer (some ⟨w.heap.size + 1 + 1 + 1 + 1 + 1 + 1, 0, none⟩)]) (.func (Fn.func 70) #[] #[.pointer (some ⟨w.heap.size + 1 + 1 + 1 + 1 + 1, 0, none⟩), .pointer (some ⟨w.heap.size + 1 + 1 + 1 + 1 + 1 + 1, 0, none⟩)]) true (cN x wd) k = Wb at hbase ⊢
  have HB := Lib.hid hbase
  have hsz := hbase.sz
  clear hbase hlk HL4
  refine wp_of_wpIn HF n ?_
  have hfal := fallen_rol F HF (n - 1) k (cN x wd) hk64 hc0 wd (cN x wd) (w.heap.size + 1 + 1 + 1) (w.heap.size + 1 + 1 + 1 + 1) (w.heap.size + 1 + 1 + 1 + 1 + 1) (w.heap.size + 1 + 1 + 1 + 1 + 1 + 1) (W1.heap.size + 1 + 1 + 1) (W1.heap.size + 1 + 1 + 1 + 1) (W1.heap.size + 1 + 1) (Rnd w Wb (w.heap.size + 1) (W1.heap.size + 1) (W1.heap.size + 1 + 1) (cN x wd)) (HST_rol wd)
    (fun pre W h => HB.out.env HM.out h) (fun pre W h => (show Boxed W (W1.heap.size + 1 + 1 + 1) 3 (.int .i64 (k : Int)) from h.kp _ _ _ _ (by omega) (by omega) (by omega) HB.out.bn).cell) (fun pre W h => (show Boxed W (W1.heap.size + 1 + 1 + 1 + 1) 50 _ from h.kp _ _ _ _ (by omega) (by omega) (by omega) HB.out.bt).cell)
    (fun pre W h => by obtain ⟨v, hv, _⟩ := h.a; exact ⟨hv.frozen, v, hv.cell⟩) (fun W h => by obtain ⟨v, hv, e⟩ := h.a; rw [e rfl] at hv; exact hv.cell)
    (fun pre W x hp h => h.setA hp (by omega) (by omega) (by omega) x) (fun pre W q h => h.drewN q)
  have HF := Lib.hid hfal
  clear hfal
  refine range_cells (gf := 73) hro h1 rfl h73 (enters_of Tryd.func73 (by kernel_rfl) rfl) (fun x : Nat × Bool => #[.int .u64 (x.1 : Int), .bool x.2]) (fun _ => rfl)
    (Rnd w Wb (w.heap.size + 1) (W1.heap.size + 1) (W1.heap.size + 1 + 1) (cN x wd)) (fun xs => xs = ups (fun r => (turnN r (tN 1 wd) wd, sB r wd)) (cN x wd) k) k (Rnd.own (by omega)) HB.out.start ?a1 ?assign ?body HF.out ?done
  case assign =>
    intro l x W K hK
    gi_wp2
    exact hK
  case body =>
    intro l pre x W hI hlt
    have HI := Lib.hid hI
    have c1 := hI.r.cell
    have f1 := hI.r.frozen
    have c2 := hI.q.cell
    have f2 := hI.q.frozen
    have n1 : ¬ w.heap.size + 1 = W1.heap.size + 1 := by omega
    have n2 : ¬ W1.heap.size + 1 = w.heap.size + 1 := by omega
    clear hI
    gi_wp2
    exact ⟨(KeepsOthers.setCell _ _ _).trans (KeepsOthers.setCell _ _ _), HI.out.next (by omega) (by omega) (by omega) (by omega) (by omega)⟩
  case done =>
    rintro D xs W hD rfl hI hK
    have hk0 := HK.out
    have hr := hI.r
    rw [rvOf_ups _ _ _ hk0] at hr
    have hq := hI.q
    rw [lvOf_ups _ _ _ hk0] at hq
    have hE := HB.out.env HM.out hI
    have hu := it_U (fun r => (turnN r (tN 1 wd) wd, sB r wd)) (cN x wd) hc0 (HST_rol wd) k
    have hs : W.heap[W1.heap.size]? = some (.cells #[.func (Fn.func 68) #[] #[.pointer (some ⟨w.heap.size + 1 + 1 + 1, 0, none⟩), .pointer (some ⟨w.heap.size + 1 + 1 + 1 + 1 + 1 + 1, 0, none⟩)], .func (Fn.func 70) #[] #[.pointer (some ⟨w.heap.size + 1 + 1 + 1 + 1 + 1, 0, none⟩), .pointer (some ⟨w.heap.size + 1 + 1 + 1 + 1 + 1 + 1, 0, none⟩)], .bool true] 53 (0, 0)) := hI.kp _ _ _ _ (by omega) (by omega) (by omega) HB.out.bs
    have cs1 : W.cell? ⟨W1.heap.size, 1, none⟩ = some (.func (Fn.func 70) #[] #[.pointer (some ⟨w.heap.size + 1 + 1 + 1 + 1 + 1, 0, none⟩), .pointer (some ⟨w.heap.size + 1 + 1 + 1 + 1 + 1 + 1, 0, none⟩)]) := by simp [World.cell?, hs]
    have cs2 : W.cell? ⟨W1.heap.size, 2, none⟩ = some (.bool true) := by simp [World.cell?, hs]
    generalize hR : it (fun r => (turnN r (tN 1 wd) wd, sB r wd)) (cN x wd) k = R at hr hq hu
    have HR := Lib.hid hR
    have HI := Lib.hid hI
    have HKD := Lib.hid hK
    have cr := hr.cell
    have fr := hr.frozen
    have cq := hq.cell
    obtain ⟨hMW, hcw, hca, hcl, hch⟩ := hE
    have HE : Hid (Env wd (cN x wd) (w.heap.size + 1 + 1 + 1) (w.heap.size + 1 + 1 + 1 + 1) (w.heap.size + 1 + 1 + 1 + 1 + 1) (w.heap.size + 1 + 1 + 1 + 1 + 1 + 1) W) := Lib.hid ⟨hMW, hcw, hca, hcl, hch⟩
    clear hk0 hr hq hs hR hI hK hMW hcw hca hcl hch
    go_wp2_with fail
    go_at_call 70
    refine (rol_flags _ hu _ wd _ _ _ _ _ _ HE.out).mono ?_
    rintro e w1 ⟨rfl, q, rfl⟩
    have HT : Hid (Tw w D (.int .u64 (R.1 : Int)) c z s o p (W.drewN q)) := Lib.hid ((show Tw w D (.int .u64 (R.1 : Int)) c z s o p W from ⟨⟨by have := HI.out.r; rw [rvOf_ups _ _ _ HK.out, HR.out] at this; exact this, ⟨_, _, _, _, _, HI.out.kp _ _ _ _ (by omega) (by omega) (by omega) HB.out.bf⟩, HI.out.bel, HKD.out⟩, HI.out.kp _ _ _ _ (by omega) (by omega) (by omega) HB.out.bwas⟩).drewN q)
    have cs2' : (W.drewN q).cell? ⟨W1.heap.size, 2, none⟩ = some (.bool true) := cs2
    clear cs1 cs2 cr fr cq
    generalize W.drewN q = W2 at HT cs2' ⊢
    obtain ⟨g0, _, _, g3, _⟩ := HT.out.cells
    have f0 := HT.out.frozen 0 (by omega)
    have f3 := HT.out.frozen 3 (by omega)
    have hT3 := Lib.hid (HT.out.setw (lB R.1) (sB R.1 wd != lB R.1))
    go_wp2
    clear g0 g3 f0 f3 cs2'
    generalize World.setCell (World.setCell _ _ _) _ _ = W3 at hT3 ⊢
    refine wp_region_noPanic ?_
    refine wp_region_held_drew (S := fun W => Tw w D (.int .u64 (R.1 : Int)) (lB R.1) z s (sB R.1 wd != lB R.1) p W) (by kernel_rfl) ?_ (fun hHeld => ?_)
    · (first | (with_reducible assumption) | exact hT3.out.drew)
    generalize World.drew _ = W4 at hHeld ⊢
    refine wpAnyH_take (i := 0) (v := ?_) rfl (by kernel_rfl) (by kernel_rfl) (by kernel_rfl) (fun _ _ _ h => h) (Or.inl ⟨by kernel_rfl, ?_⟩) (by assumption) ?_
    rotate_left
    · intro w hSw
      have h1 := hSw.tl.box.cell
      go_simp
      try with_reducible rfl
    simp only [Act.put, List.setIfInBounds_toArray, List.set_cons_zero, List.set_cons_succ, List.getElem_toArray, List.getElem_cons_succ, List.getElem_cons_zero]
    refine wpAnyH_take (i := 1) (v := ?_) rfl (by kernel_rfl) (by kernel_rfl) (by kernel_rfl) (fun _ _ _ h => h) (Or.inl ⟨by kernel_rfl, ?_⟩) (by assumption) ?_
    rotate_left
    · intro w hSw
      obtain ⟨g0, g1, g2, g3, g4⟩ := hSw.cells
      go_simp
      try with_reducible rfl
    simp only [Act.put, List.setIfInBounds_toArray, List.set_cons_zero, List.set_cons_succ, List.getElem_toArray, List.getElem_cons_succ, List.getElem_cons_zero]
    refine wpAnyH_ready (rs := [2]) (by kernel_rfl) (by simp) ?_
    refine AllReadyH.cons rfl (fun K hK => ?_) AllReadyH.nil
    have c1 := hHeld.tl.box.cell
    have f1 := hHeld.tl.box.frozen
    go_simp
    refine hK.out _ _ hHeld.setr (fun hHeld2 => ?_)
    clear hK K hHeld c1 f1
    have hHeld := hHeld2
    clear hHeld2
    try simp only [Act.put, List.setIfInBounds_toArray, List.set_cons_zero, List.set_cons_succ, List.getElem_toArray, List.getElem_cons_succ, List.getElem_cons_zero]
    generalize World.setCell _ _ _ = W7 at hHeld ⊢
    refine wpAnyH_ready (rs := [3]) (by kernel_rfl) (by simp) ?_
    refine AllReadyH.cons rfl (fun K hK => ?_) AllReadyH.nil
    obtain ⟨v0, v1, v2, v3, v4, hv⟩ := hHeld.tl.res
    have g0 : W7.cell? ⟨w.heap.size + 1 + 1, 0, none⟩ = some v0 := by simp [World.cell?, hv]
    have g1 : W7.cell? ⟨w.heap.size + 1 + 1, 1, none⟩ = some v1 := by simp [World.cell?, hv]
    have g2 : W7.cell? ⟨w.heap.size + 1 + 1, 2, none⟩ = some v2 := by simp [World.cell?, hv]
    have g3 : W7.cell? ⟨w.heap.size + 1 + 1, 3, none⟩ = some v3 := by simp [World.cell?, hv]
    have g4 : W7.cell? ⟨w.heap.size + 1 + 1, 4, none⟩ = some v4 := by simp [World.cell?, hv]
    have f0 : W7.frozen? ⟨w.heap.size + 1 + 1, 0, none⟩ = false := by simp [World.frozen?, hv]
    have f1 : W7.frozen? ⟨w.heap.size + 1 + 1, 1, none⟩ = false := by simp [World.frozen?, hv]
    have f2 : W7.frozen? ⟨w.heap.size + 1 + 1, 2, none⟩ = false := by simp [World.frozen?, hv]
    have f3 : W7.frozen? ⟨w.heap.size + 1 + 1, 3, none⟩ = false := by simp [World.frozen?, hv]
    have f4 : W7.frozen? ⟨w.heap.size + 1 + 1, 4, none⟩ = false := by simp [World.frozen?, hv]
    go_simp
    have h9 := Lib.hid (hHeld.setf (.bool (lB R.1)) (.bool z) (.bool s) (.bool (sB R.1 wd != lB R.1)) (.bool p))
    refine hK.out _ _ h9.out.1 (fun hHeld2 => ?_)
    clear hK K hHeld hHeld2 g0 g1 g2 g3 g4 f0 f1 f2 f3 f4 hv
    try simp only [Act.put, List.setIfInBounds_toArray, List.set_cons_zero, List.set_cons_succ, List.getElem_toArray, List.getElem_cons_succ, List.getElem_cons_zero]
    refine wpAnyH_done (by kernel_rfl) ?_ _
    refine NoPanic.normal ?_
    generalize World.setCell (World.setCell (World.setCell (World.setCell (World.setCell _ _ _) _ _) _ _) _ _) _ _ = W9 at h9 ⊢
    obtain ⟨⟨⟨q1, _, q3, q4⟩, _⟩, q5⟩ := h9.out
    have hRR := HR.out
    clear h9
    go_wp2
    refine ⟨by simp, .inl ⟨_, _, rfl, run_takeDeferred q4, ?_⟩⟩
    have n1 : w.heap.size + 1 ≠ D := by rintro rfl; rw [show W9.heap[w.heap.size + 1]? = _ from q1] at q4; cases q4
    have n2 : w.heap.size + 1 + 1 ≠ D := by rintro rfl; rw [q5] at q4; cases q4
    have e1 : (W9.putObj D (Obj.deferred none)).heap[w.heap.size + 1]? = _ := (World.putObj_heap_other n1).trans q1
    have e5 := (World.putObj_heap_other (o := Obj.deferred none) n2).trans q5
    have b9 : Below w.heap.size w (W9.putObj D (Obj.deferred none)) := q3.trans ⟨rfl, rfl, rfl, by simp, fun k hk => World.putObj_heap_other (by omega)⟩
    generalize W9.putObj D (Obj.deferred none) = W10 at e1 e5 b9 ⊢
    have c0 : W10.cell? ⟨w.heap.size + 1, 0, none⟩ = some (.int .u64 (R.1 : Int)) := by simp [World.cell?, e1]
    have g0 : W10.cell? ⟨w.heap.size + 1 + 1, 0, none⟩ = some (.bool (lB R.1)) := by simp [World.cell?, e5]
    have g1 : W10.cell? ⟨w.heap.size + 1 + 1, 1, none⟩ = some (.bool z) := by simp [World.cell?, e5]
    have g2 : W10.cell? ⟨w.heap.size + 1 + 1, 2, none⟩ = some (.bool s) := by simp [World.cell?, e5]
    have g3 : W10.cell? ⟨w.heap.size + 1 + 1, 3, none⟩ = some (.bool (sB R.1 wd != lB R.1)) := by simp [World.cell?, e5]
    have g4 : W10.cell? ⟨w.heap.size + 1 + 1, 4, none⟩ = some (.bool p) := by simp [World.cell?, e5]
    exact ⟨.tuple #[.int .u64 (R.1 : Int), fl (lB R.1) z s (sB R.1 wd != lB R.1) p], by simp [results, Tryd.results20, go_sem, *], by unfold RES_rol; rw [hRR], b9⟩
theorem shift_rol4 (wd : Int) (x : Nat) (hx : U x) (m k : Nat) (hm8 : m < 256) (hk : k = m % 32) (hk0 : 0 < k) (c z s o p : Bool) (h8 : (hI wd == 8) = false) (w : World) (hm : Mk w) :
    Calls Tryd.prog 20 #[.int .u8 19, .int .i64 wd, .int .u64 x, .int .u8 (m : Int), fl c z s o p] w fun e w' => e = .returned (RES_rol (fun r => (turnN r (tN 1 wd) wd, sB r wd)) x k wd c z s o p) ∧ Below w.heap.size w w' :=
  callsIn_wide.1 (shift_rol4_in Fence.wide (Lib.hid rfl) 3 (Nat.le_refl _) wd x hx m k hm8 hk hk0 c z s o p h8 w hm)
set_option maxRecDepth 100000 in
set_option maxHeartbeats 4000000 in
theorem shift_rol8_in (F : Fence) (HF : Hid (F = Fence.wide)) (n : Nat) (hn3 : 3 ≤ n) (wd : Int) (x : Nat) (hx : U x) (m k : Nat) (hm8 : m < 256) (hk : k = m % 64) (hk0 : 0 < k) (c z s o p : Bool) (h8 : (hI wd == 8) = true) (w : World) (hm : Mk w) :
    CallsIn F n Tryd.prog 20 #[.int .u8 19, .int .i64 wd, .int .u64 x, .int .u8 (m : Int), fl c z s o p] w fun e w' => e = .returned (RES_rol (fun r => (turnN r (tN 1 wd) wd, sB r wd)) x k wd c z s o p) ∧ Below w.heap.size w w' := by
  have hc0 := cN_U x hx wd
  have HM := Lib.hid hm
  have hmk : ((m : Int) % 64) = (k : Int) := by rw [hk]; simp
  have hkz : ((k : Int) == 0) = false := by simp; omega
  have hk64 : k < 64 := by omega
  have HK := Lib.hid hk0
  clear hm hk hk0
  have h1 : 1 ≤ n := by omega
  have hro : F.round = none := by rw [HF.out]; rfl
  have h20 : F.fn 20 := by rw [HF.out]; trivial
  have h73 : F.fn 73 := by rw [HF.out]; trivial
  refine callsIn_of_wp_marks Tryd.func20 rfl h20 ?_ hro
  simp only [Tryd.ntmps20, List.size_toArray, List.length_cons, List.length_nil, Nat.reduceAdd, Nat.reduceSub, Array.replicate_succ, Array.replicate_zero, List.push_toArray, List.append_toArray, List.nil_append, List.cons_append]
  refine wpIn_of_wp HF ?_
  go_wp2_with (first | (go_at_call 36; refine (cut_any _ hx _ _ (((HM.out.alloc _).alloc _).alloc _)).mono ?_; rintro e w' ⟨rfl, rfl⟩) | (go_at_call 41; refine (aheld_any _ _).mono ?_; rintro e w' ⟨rfl, rfl⟩))
  go_at_call 42
  refine (shiftsAt_19 _ _ _).mono ?_
  rintro e W1 ⟨b, rfl, hlk, hl4⟩
  have HL4 := Lib.hid hl4
  clear hl4
  go_wp2_with fail
  go_at_call 43
  refine (fallen_calls _ _ _ _ _ _).mono ?_
  rintro e W2 ⟨rfl, rfl⟩
  go_wp2
  have hbase := base_of w W1 c z s o p wd (cN x wd) k (.func (Fn.func 68) #[] #[.pointer (some ⟨w.heap.size + 1 + 1 + 1, 0, none⟩), .pointer (some ⟨w.heap.size + 1 + 1 + 1 + 1 + 1 + 1, 0, none⟩)]) (.func (Fn.func 70) #[] #[.pointer (some ⟨w.heap.size + 1 + 1 + 1 + 1 + 1, 0, none⟩), .pointer (some ⟨w.heap.size + 1 + 1 + 1 + 1 + 1 + 1, 0, none⟩)]) true HL4.out
  have hbig := hbase.big
  change Code.wp Tryd.prog _ _ _ (base5 W1 (.func (Fn.func 68) #[] #[.pointer (some ⟨w.heap.size + 1 + 1 + 1, 0, none⟩), .pointer (some ⟨w.heap.size + 1 + 1 + 1 + 1 + 1 + 1, 0, none⟩)]) (.func (Fn.func 70) #[] #[.pointer (some ⟨w.heap.size + 1 + 1 + 1 + 1 + 1, 0, none⟩), .pointer (some ⟨w.heap.size + 1 + 1 + 1 + 1 + 1 + 1, 0, none⟩)]) true (cN x wd) k)
  generalize base5 W1 (.func (Fn.func 68) #[] #[.pointer (some ⟨w.heap.size + 1 + 1 + 1, 0, none⟩), .pointer (some ⟨w.heap.size + 1 + 1 + 1 + 1 + 1 + 1, 0, none⟩)]) (.func (Fn.func 70) #[] #[.pointer (some ⟨w.heap.size + 1 + 1 + 1 + 1 + 1, 0, none⟩), .pointer (some ⟨w.heap.size + 1 + 1 + 1 + 1 + 1 + 1, 0, none⟩)]) true (cN x wd) k = Wb at hbase ⊢
  have HB := Lib.hid hbase
  have hsz := hbase.sz
  clear hbase hlk HL4
  refine wp_of_wpIn HF n ?_
  have hfal := fallen_rol F HF (n - 1) k (cN x wd) hk64 hc0 wd (cN x wd) (w.heap.size + 1 + 1 + 1) (w.heap.size + 1 + 1 + 1 + 1) (w.heap.size + 1 + 1 + 1 + 1 + 1) (w.heap.size + 1 + 1 + 1 + 1 + 1 + 1) (W1.heap.size + 1 + 1 + 1) (W1.heap.size + 1 + 1 + 1 + 1) (W1.heap.size + 1 + 1) (Rnd w Wb (w.heap.size + 1) (W1.heap.size + 1) (W1.heap.size + 1 + 1) (cN x wd)) (HST_rol wd)
    (fun pre W h => HB.out.env HM.out h) (fun pre W h => (show Boxed W (W1.heap.size + 1 + 1 + 1) 3 (.int .i64 (k : Int)) from h.kp _ _ _ _ (by omega) (by omega) (by omega) HB.out.bn).cell) (fun pre W h => (show Boxed W (W1.heap.size + 1 + 1 + 1 + 1) 50 _ from h.kp _ _ _ _ (by omega) (by omega) (by omega) HB.out.bt).cell)
    (fun pre W h => by obtain ⟨v, hv, _⟩ := h.a; exact ⟨hv.frozen, v, hv.cell⟩) (fun W h => by obtain ⟨v, hv, e⟩ := h.a; rw [e rfl] at hv; exact hv.cell)
    (fun pre W x hp h => h.setA hp (by omega) (by omega) (by omega) x) (fun pre W q h => h.drewN q)
  have HF := Lib.hid hfal
  clear hfal
  refine range_cells (gf := 73) hro h1 rfl h73 (enters_of Tryd.func73 (by kernel_rfl) rfl) (fun x : Nat × Bool => #[.int .u64 (x.1 : Int), .bool x.2]) (fun _ => rfl)
    (Rnd w Wb (w.heap.size + 1) (W1.heap.size + 1) (W1.heap.size + 1 + 1) (cN x wd)) (fun xs => xs = ups (fun r => (turnN r (tN 1 wd) wd, sB r wd)) (cN x wd) k) k (Rnd.own (by omega)) HB.out.start ?a1 ?assign ?body HF.out ?done
  case assign =>
    intro l x W K hK
    gi_wp2
    exact hK
  case body =>
    intro l pre x W hI hlt
    have HI := Lib.hid hI
    have c1 := hI.r.cell
    have f1 := hI.r.frozen
    have c2 := hI.q.cell
    have f2 := hI.q.frozen
    have n1 : ¬ w.heap.size + 1 = W1.heap.size + 1 := by omega
    have n2 : ¬ W1.heap.size + 1 = w.heap.size + 1 := by omega
    clear hI
    gi_wp2
    exact ⟨(KeepsOthers.setCell _ _ _).trans (KeepsOthers.setCell _ _ _), HI.out.next (by omega) (by omega) (by omega) (by omega) (by omega)⟩
  case done =>
    rintro D xs W hD rfl hI hK
    have hk0 := HK.out
    have hr := hI.r
    rw [rvOf_ups _ _ _ hk0] at hr
    have hq := hI.q
    rw [lvOf_ups _ _ _ hk0] at hq
    have hE := HB.out.env HM.out hI
    have hu := it_U (fun r => (turnN r (tN 1 wd) wd, sB r wd)) (cN x wd) hc0 (HST_rol wd) k
    have hs : W.heap[W1.heap.size]? = some (.cells #[.func (Fn.func 68) #[] #[.pointer (some ⟨w.heap.size + 1 + 1 + 1, 0, none⟩), .pointer (some ⟨w.heap.size + 1 + 1 + 1 + 1 + 1 + 1, 0, none⟩)], .func (Fn.func 70) #[] #[.pointer (some ⟨w.heap.size + 1 + 1 + 1 + 1 + 1, 0, none⟩), .pointer (some ⟨w.heap.size + 1 + 1 + 1 + 1 + 1 + 1, 0, none⟩)], .bool true] 53 (0, 0)) := hI.kp _ _ _ _ (by omega) (by omega) (by omega) HB.out.bs
    have cs1 : W.cell? ⟨W1.heap.size, 1, none⟩ = some (.func (Fn.func 70) #[] #[.pointer (some ⟨w.heap.size + 1 + 1 + 1 + 1 + 1, 0, none⟩), .pointer (some ⟨w.heap.size + 1 + 1 + 1 + 1 + 1 + 1, 0, none⟩)]) := by simp [World.cell?, hs]
    have cs2 : W.cell? ⟨W1.heap.size, 2, none⟩ = some (.bool true) := by simp [World.cell?, hs]
    generalize hR : it (fun r => (turnN r (tN 1 wd) wd, sB r wd)) (cN x wd) k = R at hr hq hu
    have HR := Lib.hid hR
    have HI := Lib.hid hI
    have HKD := Lib.hid hK
    have cr := hr.cell
    have fr := hr.frozen
    have cq := hq.cell
    obtain ⟨hMW, hcw, hca, hcl, hch⟩ := hE
    have HE : Hid (Env wd (cN x wd) (w.heap.size + 1 + 1 + 1) (w.heap.size + 1 + 1 + 1 + 1) (w.heap.size + 1 + 1 + 1 + 1 + 1) (w.heap.size + 1 + 1 + 1 + 1 + 1 + 1) W) := Lib.hid ⟨hMW, hcw, hca, hcl, hch⟩
    clear hk0 hr hq hs hR hI hK hMW hcw hca hcl hch
    go_wp2_with fail
    go_at_call 70
    refine (rol_flags _ hu _ wd _ _ _ _ _ _ HE.out).mono ?_
    rintro e w1 ⟨rfl, q, rfl⟩
    have HT : Hid (Tw w D (.int .u64 (R.1 : Int)) c z s o p (W.drewN q)) := Lib.hid ((show Tw w D (.int .u64 (R.1 : Int)) c z s o p W from ⟨⟨by have := HI.out.r; rw [rvOf_ups _ _ _ HK.out, HR.out] at this; exact this, ⟨_, _, _, _, _, HI.out.kp _ _ _ _ (by omega) (by omega) (by omega) HB.out.bf⟩, HI.out.bel, HKD.out⟩, HI.out.kp _ _ _ _ (by omega) (by omega) (by omega) HB.out.bwas⟩).drewN q)
    have cs2' : (W.drewN q).cell? ⟨W1.heap.size, 2, none⟩ = some (.bool true) := cs2
    clear cs1 cs2 cr fr cq
    generalize W.drewN q = W2 at HT cs2' ⊢
    obtain ⟨g0, _, _, g3, _⟩ := HT.out.cells
    have f0 := HT.out.frozen 0 (by omega)
    have f3 := HT.out.frozen 3 (by omega)
    have hT3 := Lib.hid (HT.out.setw (lB R.1) (sB R.1 wd != lB R.1))
    go_wp2
    clear g0 g3 f0 f3 cs2'
    generalize World.setCell (World.setCell _ _ _) _ _ = W3 at hT3 ⊢
    refine wp_region_noPanic ?_
    refine wp_region_held_drew (S := fun W => Tw w D (.int .u64 (R.1 : Int)) (lB R.1) z s (sB R.1 wd != lB R.1) p W) (by kernel_rfl) ?_ (fun hHeld => ?_)
    · (first | (with_reducible assumption) | exact hT3.out.drew)
    generalize World.drew _ = W4 at hHeld ⊢
    refine wpAnyH_take (i := 0) (v := ?_) rfl (by kernel_rfl) (by kernel_rfl) (by kernel_rfl) (fun _ _ _ h => h) (Or.inl ⟨by kernel_rfl, ?_⟩) (by assumption) ?_
    rotate_left
    · intro w hSw
      have h1 := hSw.tl.box.cell
      go_simp
      try with_reducible rfl
    simp only [Act.put, List.setIfInBounds_toArray, List.set_cons_zero, List.set_cons_succ, List.getElem_toArray, List.getElem_cons_succ, List.getElem_cons_zero]
    refine wpAnyH_take (i := 1) (v := ?_) rfl (by kernel_rfl) (by kernel_rfl) (by kernel_rfl) (fun _ _ _ h => h) (Or.inl ⟨by kernel_rfl, ?_⟩) (by assumption) ?_
    rotate_left
    · intro w hSw
      obtain ⟨g0, g1, g2, g3, g4⟩ := hSw.cells
      go_simp
      try with_reducible rfl
    simp only [Act.put, List.setIfInBounds_toArray, List.set_cons_zero, List.set_cons_succ, List.getElem_toArray, List.getElem_cons_succ, List.getElem_cons_zero]
    refine wpAnyH_ready (rs := [2]) (by kernel_rfl) (by simp) ?_
    refine AllReadyH.cons rfl (fun K hK => ?_) AllReadyH.nil
    have c1 := hHeld.tl.box.cell
    have f1 := hHeld.tl.box.frozen
    go_simp
    refine hK.out _ _ hHeld.setr (fun hHeld2 => ?_)
    clear hK K hHeld c1 f1
    have hHeld := hHeld2
    clear hHeld2
    try simp only [Act.put, List.setIfInBounds_toArray, List.set_cons_zero, List.set_cons_succ, List.getElem_toArray, List.getElem_cons_succ, List.getElem_cons_zero]
    generalize World.setCell _ _ _ = W7 at hHeld ⊢
    refine wpAnyH_ready (rs := [3]) (by kernel_rfl) (by simp) ?_
    refine AllReadyH.cons rfl (fun K hK => ?_) AllReadyH.nil
    obtain ⟨v0, v1, v2, v3, v4, hv⟩ := hHeld.tl.res
    have g0 : W7.cell? ⟨w.heap.size + 1 + 1, 0, none⟩ = some v0 := by simp [World.cell?, hv]
    have g1 : W7.cell? ⟨w.heap.size + 1 + 1, 1, none⟩ = some v1 := by simp [World.cell?, hv]
    have g2 : W7.cell? ⟨w.heap.size + 1 + 1, 2, none⟩ = some v2 := by simp [World.cell?, hv]
    have g3 : W7.cell? ⟨w.heap.size + 1 + 1, 3, none⟩ = some v3 := by simp [World.cell?, hv]
    have g4 : W7.cell? ⟨w.heap.size + 1 + 1, 4, none⟩ = some v4 := by simp [World.cell?, hv]
    have f0 : W7.frozen? ⟨w.heap.size + 1 + 1, 0, none⟩ = false := by simp [World.frozen?, hv]
    have f1 : W7.frozen? ⟨w.heap.size + 1 + 1, 1, none⟩ = false := by simp [World.frozen?, hv]
    have f2 : W7.frozen? ⟨w.heap.size + 1 + 1, 2, none⟩ = false := by simp [World.frozen?, hv]
    have f3 : W7.frozen? ⟨w.heap.size + 1 + 1, 3, none⟩ = false := by simp [World.frozen?, hv]
    have f4 : W7.frozen? ⟨w.heap.size + 1 + 1, 4, none⟩ = false := by simp [World.frozen?, hv]
    go_simp
    have h9 := Lib.hid (hHeld.setf (.bool (lB R.1)) (.bool z) (.bool s) (.bool (sB R.1 wd != lB R.1)) (.bool p))
    refine hK.out _ _ h9.out.1 (fun hHeld2 => ?_)
    clear hK K hHeld hHeld2 g0 g1 g2 g3 g4 f0 f1 f2 f3 f4 hv
    try simp only [Act.put, List.setIfInBounds_toArray, List.set_cons_zero, List.set_cons_succ, List.getElem_toArray, List.getElem_cons_succ, List.getElem_cons_zero]
    refine wpAnyH_done (by kernel_rfl) ?_ _
    refine NoPanic.normal ?_
    generalize World.setCell (World.setCell (World.setCell (World.setCell (World.setCell _ _ _) _ _) _ _) _ _) _ _ = W9 at h9 ⊢
    obtain ⟨⟨⟨q1, _, q3, q4⟩, _⟩, q5⟩ := h9.out
    have hRR := HR.out
    clear h9
    go_wp2
    refine ⟨by simp, .inl ⟨_, _, rfl, run_takeDeferred q4, ?_⟩⟩
    have n1 : w.heap.size + 1 ≠ D := by rintro rfl; rw [show W9.heap[w.heap.size + 1]? = _ from q1] at q4; cases q4
    have n2 : w.heap.size + 1 + 1 ≠ D := by rintro rfl; rw [q5] at q4; cases q4
    have e1 : (W9.putObj D (Obj.deferred none)).heap[w.heap.size + 1]? = _ := (World.putObj_heap_other n1).trans q1
    have e5 := (World.putObj_heap_other (o := Obj.deferred none) n2).trans q5
    have b9 : Below w.heap.size w (W9.putObj D (Obj.deferred none)) := q3.trans ⟨rfl, rfl, rfl, by simp, fun k hk => World.putObj_heap_other (by omega)⟩
    generalize W9.putObj D (Obj.deferred none) = W10 at e1 e5 b9 ⊢
    have c0 : W10.cell? ⟨w.heap.size + 1, 0, none⟩ = some (.int .u64 (R.1 : Int)) := by simp [World.cell?, e1]
    have g0 : W10.cell? ⟨w.heap.size + 1 + 1, 0, none⟩ = some (.bool (lB R.1)) := by simp [World.cell?, e5]
    have g1 : W10.cell? ⟨w.heap.size + 1 + 1, 1, none⟩ = some (.bool z) := by simp [World.cell?, e5]
    have g2 : W10.cell? ⟨w.heap.size + 1 + 1, 2, none⟩ = some (.bool s) := by simp [World.cell?, e5]
    have g3 : W10.cell? ⟨w.heap.size + 1 + 1, 3, none⟩ = some (.bool (sB R.1 wd != lB R.1)) := by simp [World.cell?, e5]
    have g4 : W10.cell? ⟨w.heap.size + 1 + 1, 4, none⟩ = some (.bool p) := by simp [World.cell?, e5]
    exact ⟨.tuple #[.int .u64 (R.1 : Int), fl (lB R.1) z s (sB R.1 wd != lB R.1) p], by simp [results, Tryd.results20, go_sem, *], by unfold RES_rol; rw [hRR], b9⟩
theorem shift_rol8 (wd : Int) (x : Nat) (hx : U x) (m k : Nat) (hm8 : m < 256) (hk : k = m % 64) (hk0 : 0 < k) (c z s o p : Bool) (h8 : (hI wd == 8) = true) (w : World) (hm : Mk w) :
    Calls Tryd.prog 20 #[.int .u8 19, .int .i64 wd, .int .u64 x, .int .u8 (m : Int), fl c z s o p] w fun e w' => e = .returned (RES_rol (fun r => (turnN r (tN 1 wd) wd, sB r wd)) x k wd c z s o p) ∧ Below w.heap.size w w' :=
  callsIn_wide.1 (shift_rol8_in Fence.wide (Lib.hid rfl) 3 (Nat.le_refl _) wd x hx m k hm8 hk hk0 c z s o p h8 w hm)
open Go.RowKit Go.Shelf
set_option linter.unusedSimpArgs false
set_option linter.unusedVariables false
attribute [local go_sem] Oper.semAt_some
theorem turnN_U_ror (a k : Nat) (wd : Int) (ha : U a) : U (turnN a k wd) := by
  unfold turnN U
  have h1 := mN_lt wd
  have h2 : cN a wd < 18446744073709551616 := cN_U a ha wd
  refine Nat.or_lt_two_pow (n := 64) (Nat.lt_of_lt_of_le (Nat.mod_lt _ (Nat.two_pow_pos _)) h1) (Nat.lt_of_le_of_lt (Nat.div_le_self _ _) h2)
theorem HST_ror (wd : Int) (r : Nat) (hr : U r) : U ((turnN r (tN (-1) wd) wd, lB r)).1 := turnN_U_ror _ _ _ hr
def RES_ror (st : Nat → Nat × Bool) (x k : Nat) (wd : Int) (c z s o p : Bool) : Value := .tuple #[.int .u64 ((it st (cN x wd) k).1 : Nat), fl (sB (it st (cN x wd) k).1 wd) z s (sB (it st (cN x wd) k).1 wd != sB (shlN (it st (cN x wd) k).1 wd) wd) p]
set_option maxRecDepth 100000 in
set_option maxHeartbeats 4000000 in
theorem shift_ror4_in (F : Fence) (HF : Hid (F = Fence.wide)) (n : Nat) (hn3 : 3 ≤ n) (wd : Int) (x : Nat) (hx : U x) (m k : Nat) (hm8 : m < 256) (hk : k = m % 32) (hk0 : 0 < k) (c z s o p : Bool) (h8 : (hI wd == 8) = false) (w : World) (hm : Mk w) :
    CallsIn F n Tryd.prog 20 #[.int .u8 20, .int .i64 wd, .int .u64 x, .int .u8 (m : Int), fl c z s o p] w fun e w' => e = .returned (RES_ror (fun r => (turnN r (tN (-1) wd) wd, lB r)) x k wd c z s o p) ∧ Below w.heap.size w w' := by
  have hc0 := cN_U x hx wd
  have HM := Lib.hid hm
  have hmk : ((m : Int) % 32) = (k : Int) := by rw [hk]; simp
  have hkz : ((k : Int) == 0) = false := by simp; omega
  have hk64 : k < 64 := by omega
  have HK := Lib.hid hk0
  clear hm hk hk0
  have h1 : 1 ≤ n := by omega
  have hro : F.round = none := by rw [HF.out]; rfl
  have h20 : F.fn 20 := by rw [HF.out]; trivial
  have h73 : F.fn 73 := by rw [HF.out]; trivial
  refine callsIn_of_wp_marks Tryd.func20 rfl h20 ?_ hro
  simp only [Tryd.ntmps20, List.size_toArray, List.length_cons, List.length_nil, Nat.reduceAdd, Nat.reduceSub, Array.replicate_succ, Array.replicate_zero, List.push_toArray, List.append_toArray, List.nil_append, List.cons_append]
  refine wpIn_of_wp HF ?_
  go_wp2_with (first | (go_at_call 36; refine (cut_any _ hx _ _ (((HM.out.alloc _).alloc _).alloc _)).mono ?_; rintro e w' ⟨rfl, rfl⟩) | (go_at_call 41; refine (aheld_any _ _).mono ?_; rintro e w' ⟨rfl, rfl⟩))
  go_at_call 42
  refine (shiftsAt_20 _ _ _).mono ?_
  rintro e W1 ⟨b, rfl, hlk, hl4⟩
  have HL4 := Lib.hid hl4
  clear hl4
  go_wp2_with fail
  go_at_call 43
  refine (fallen_calls _ _ _ _ _ _).mono ?_
  rintro e W2 ⟨rfl, rfl⟩
  go_wp2
  have hbase := base_of w W1 c z s o p wd (cN x wd) k (.func (Fn.func 71) #[] #[.pointer (some ⟨w.heap.size + 1 + 1 + 1, 0, none⟩), .pointer (some ⟨w.heap.size + 1 + 1 + 1 + 1 + 1, 0, none⟩)]) (.func (Fn.func 72) #[] #[.pointer (some ⟨w.heap.size + 1 + 1 + 1 + 1 + 1 + 1, 0, none⟩), .pointer (some ⟨w.heap.size + 1 + 1 + 1, 0, none⟩)]) true HL4.out
  have hbig := hbase.big
  change Code.wp Tryd.prog _ _ _ (base5 W1 (.func (Fn.func 71) #[] #[.pointer (some ⟨w.heap.size + 1 + 1 + 1, 0, none⟩), .pointer (some ⟨w.heap.size + 1 + 1 + 1 + 1 + 1, 0, none⟩)]) (.func (Fn.func 72) #[] #[.pointer (some ⟨w.heap.size + 1 + 1 + 1 + 1 + 1 + 1, 0, none⟩), .pointer (some ⟨w.heap.size + 1 + 1 + 1, 0, none⟩)]) true (cN x wd) k)
  generalize base5 W1 (.func (Fn.func 71) #[] #[.pointer (some ⟨w.heap.size + 1 + 1 + 1, 0, none⟩), .pointer (some ⟨w.heap.size + 1 + 1 + 1 + 1 + 1, 0, none⟩)]) (.func (Fn.func 72) #[] #[.pointer (some ⟨w.heap.size + 1 + 1 + 1 + 1 + 1 + 1, 0, none⟩), .pointer (some ⟨w.heap.size + 1 + 1 + 1, 0, none⟩)]) true (cN x wd) k = Wb at hbase ⊢
  have HB := Lib.hid hbase
  have hsz := hbase.sz
  clear hbase hlk HL4
  refine wp_of_wpIn HF n ?_
  have hfal := fallen_ror F HF (n - 1) k (cN x wd) hk64 hc0 wd (cN x wd) (w.heap.size + 1 + 1 + 1) (w.heap.size + 1 + 1 + 1 + 1) (w.heap.size + 1 + 1 + 1 + 1 + 1) (w.heap.size + 1 + 1 + 1 + 1 + 1 + 1) (W1.heap.size + 1 + 1 + 1) (W1.heap.size + 1 + 1 + 1 + 1) (W1.heap.size + 1 + 1) (Rnd w Wb (w.heap.size + 1) (W1.heap.size + 1) (W1.heap.size + 1 + 1) (cN x wd)) (HST_ror wd)
    (fun pre W h => HB.out.env HM.out h) (fun pre W h => (show Boxed W (W1.heap.size + 1 + 1 + 1) 3 (.int .i64 (k : Int)) from h.kp _ _ _ _ (by omega) (by omega) (by omega) HB.out.bn).cell) (fun pre W h => (show Boxed W (W1.heap.size + 1 + 1 + 1 + 1) 50 _ from h.kp _ _ _ _ (by omega) (by omega) (by omega) HB.out.bt).cell)
    (fun pre W h => by obtain ⟨v, hv, _⟩ := h.a; exact ⟨hv.frozen, v, hv.cell⟩) (fun W h => by obtain ⟨v, hv, e⟩ := h.a; rw [e rfl] at hv; exact hv.cell)
    (fun pre W x hp h => h.setA hp (by omega) (by omega) (by omega) x) (fun pre W q h => h.drewN q)
  have HF := Lib.hid hfal
  clear hfal
  refine range_cells (gf := 73) hro h1 rfl h73 (enters_of Tryd.func73 (by kernel_rfl) rfl) (fun x : Nat × Bool => #[.int .u64 (x.1 : Int), .bool x.2]) (fun _ => rfl)
    (Rnd w Wb (w.heap.size + 1) (W1.heap.size + 1) (W1.heap.size + 1 + 1) (cN x wd)) (fun xs => xs = ups (fun r => (turnN r (tN (-1) wd) wd, lB r)) (cN x wd) k) k (Rnd.own (by omega)) HB.out.start ?a1 ?assign ?body HF.out ?done
  case assign =>
    intro l x W K hK
    gi_wp2
    exact hK
  case body =>
    intro l pre x W hI hlt
    have HI := Lib.hid hI
    have c1 := hI.r.cell
    have f1 := hI.r.frozen
    have c2 := hI.q.cell
    have f2 := hI.q.frozen
    have n1 : ¬ w.heap.size + 1 = W1.heap.size + 1 := by omega
    have n2 : ¬ W1.heap.size + 1 = w.heap.size + 1 := by omega
    clear hI
    gi_wp2
    exact ⟨(KeepsOthers.setCell _ _ _).trans (KeepsOthers.setCell _ _ _), HI.out.next (by omega) (by omega) (by omega) (by omega) (by omega)⟩
  case done =>
    rintro D xs W hD rfl hI hK
    have hk0 := HK.out
    have hr := hI.r
    rw [rvOf_ups _ _ _ hk0] at hr
    have hq := hI.q
    rw [lvOf_ups _ _ _ hk0] at hq
    have hE := HB.out.env HM.out hI
    have hu := it_U (fun r => (turnN r (tN (-1) wd) wd, lB r)) (cN x wd) hc0 (HST_ror wd) k
    have hs : W.heap[W1.heap.size]? = some (.cells #[.func (Fn.func 71) #[] #[.pointer (some ⟨w.heap.size + 1 + 1 + 1, 0, none⟩), .pointer (some ⟨w.heap.size + 1 + 1 + 1 + 1 + 1, 0, none⟩)], .func (Fn.func 72) #[] #[.pointer (some ⟨w.heap.size + 1 + 1 + 1 + 1 + 1 + 1, 0, none⟩), .pointer (some ⟨w.heap.size + 1 + 1 + 1, 0, none⟩)], .bool true] 53 (0, 0)) := hI.kp _ _ _ _ (by omega) (by omega) (by omega) HB.out.bs
    have cs1 : W.cell? ⟨W1.heap.size, 1, none⟩ = some (.func (Fn.func 72) #[] #[.pointer (some ⟨w.heap.size + 1 + 1 + 1 + 1 + 1 + 1, 0, none⟩), .pointer (some ⟨w.heap.size + 1 + 1 + 1, 0, none⟩)]) := by simp [World.cell?, hs]
    have cs2 : W.cell? ⟨W1.heap.size, 2, none⟩ = some (.bool true) := by simp [World.cell?, hs]
    generalize hR : it (fun r => (turnN r (tN (-1) wd) wd, lB r)) (cN x wd) k = R at hr hq hu
    have HR := Lib.hid hR
    have HI := Lib.hid hI
    have HKD := Lib.hid hK
    have cr := hr.cell
    have fr := hr.frozen
    have cq := hq.cell
    obtain ⟨hMW, hcw, hca, hcl, hch⟩ := hE
    have HE : Hid (Env wd (cN x wd) (w.heap.size + 1 + 1 + 1) (w.heap.size + 1 + 1 + 1 + 1) (w.heap.size + 1 + 1 + 1 + 1 + 1) (w.heap.size + 1 + 1 + 1 + 1 + 1 + 1) W) := Lib.hid ⟨hMW, hcw, hca, hcl, hch⟩
    clear hk0 hr hq hs hR hI hK hMW hcw hca hcl hch
    go_wp2_with fail
    go_at_call 72
    refine (ror_flags _ hu _ wd _ _ _ _ _ _ HE.out).mono ?_
    rintro e w1 ⟨rfl, q, rfl⟩
    have HT : Hid (Tw w D (.int .u64 (R.1 : Int)) c z s o p (W.drewN q)) := Lib.hid ((show Tw w D (.int .u64 (R.1 : Int)) c z s o p W from ⟨⟨by have := HI.out.r; rw [rvOf_ups _ _ _ HK.out, HR.out] at this; exact this, ⟨_, _, _, _, _, HI.out.kp _ _ _ _ (by omega) (by omega) (by omega) HB.out.bf⟩, HI.out.bel, HKD.out⟩, HI.out.kp _ _ _ _ (by omega) (by omega) (by omega) HB.out.bwas⟩).drewN q)
    have cs2' : (W.drewN q).cell? ⟨W1.heap.size, 2, none⟩ = some (.bool true) := cs2
    clear cs1 cs2 cr fr cq
    generalize W.drewN q = W2 at HT cs2' ⊢
    obtain ⟨g0, _, _, g3, _⟩ := HT.out.cells
    have f0 := HT.out.frozen 0 (by omega)
    have f3 := HT.out.frozen 3 (by omega)
    have hT3 := Lib.hid (HT.out.setw (sB R.1 wd) (sB R.1 wd != sB (shlN R.1 wd) wd))
    go_wp2
    clear g0 g3 f0 f3 cs2'
    generalize World.setCell (World.setCell _ _ _) _ _ = W3 at hT3 ⊢
    refine wp_region_noPanic ?_
    refine wp_region_held_drew (S := fun W => Tw w D (.int .u64 (R.1 : Int)) (sB R.1 wd) z s (sB R.1 wd != sB (shlN R.1 wd) wd) p W) (by kernel_rfl) ?_ (fun hHeld => ?_)
    · (first | (with_reducible assumption) | exact hT3.out.drew)
    generalize World.drew _ = W4 at hHeld ⊢
    refine wpAnyH_take (i := 0) (v := ?_) rfl (by kernel_rfl) (by kernel_rfl) (by kernel_rfl) (fun _ _ _ h => h) (Or.inl ⟨by kernel_rfl, ?_⟩) (by assumption) ?_
    rotate_left
    · intro w hSw
      have h1 := hSw.tl.box.cell
      go_simp
      try with_reducible rfl
    simp only [Act.put, List.setIfInBounds_toArray, List.set_cons_zero, List.set_cons_succ, List.getElem_toArray, List.getElem_cons_succ, List.getElem_cons_zero]
    refine wpAnyH_take (i := 1) (v := ?_) rfl (by kernel_rfl) (by kernel_rfl) (by kernel_rfl) (fun _ _ _ h => h) (Or.inl ⟨by kernel_rfl, ?_⟩) (by assumption) ?_
    rotate_left
    · intro w hSw
      obtain ⟨g0, g1, g2, g3, g4⟩ := hSw.cells
      go_simp
      try with_reducible rfl
    simp only [Act.put, List.setIfInBounds_toArray, List.set_cons_zero, List.set_cons_succ, List.getElem_toArray, List.getElem_cons_succ, List.getElem_cons_zero]
    refine wpAnyH_ready (rs := [2]) (by kernel_rfl) (by simp) ?_
    refine AllReadyH.cons rfl (fun K hK => ?_) AllReadyH.nil
    have c1 := hHeld.tl.box.cell
    have f1 := hHeld.tl.box.frozen
    go_simp
    refine hK.out _ _ hHeld.setr (fun hHeld2 => ?_)
    clear hK K hHeld c1 f1
    have hHeld := hHeld2
    clear hHeld2
    try simp only [Act.put, List.setIfInBounds_toArray, List.set_cons_zero, List.set_cons_succ, List.getElem_toArray, List.getElem_cons_succ, List.getElem_cons_zero]
    generalize World.setCell _ _ _ = W7 at hHeld ⊢
    refine wpAnyH_ready (rs := [3]) (by kernel_rfl) (by simp) ?_
    refine AllReadyH.cons rfl (fun K hK => ?_) AllReadyH.nil
    obtain ⟨v0, v1, v2, v3, v4, hv⟩ := hHeld.tl.res
    have g0 : W7.cell? ⟨w.heap.size + 1 + 1, 0, none⟩ = some v0 := by simp [World.cell?, hv]
    have g1 : W7.cell? ⟨w.heap.size + 1 + 1, 1, none⟩ = some v1 := by simp [World.cell?, hv]
    have g2 : W7.cell? ⟨w.heap.size + 1 + 1, 2, none⟩ = some v2 := by simp [World.cell?, hv]
    have g3 : W7.cell? ⟨w.heap.size + 1 + 1, 3, none⟩ = some v3 := by simp [World.cell?, hv]
    have g4 : W7.cell? ⟨w.heap.size + 1 + 1, 4, none⟩ = some v4 := by simp [World.cell?, hv]
    have f0 : W7.frozen? ⟨w.heap.size + 1 + 1, 0, none⟩ = false := by simp [World.frozen?, hv]
    have f1 : W7.frozen? ⟨w.heap.size + 1 + 1, 1, none⟩ = false := by simp [World.frozen?, hv]
    have f2 : W7.frozen? ⟨w.heap.size + 1 + 1, 2, none⟩ = false := by simp [World.frozen?, hv]
    have f3 : W7.frozen? ⟨w.heap.size + 1 + 1, 3, none⟩ = false := by simp [World.frozen?, hv]
    have f4 : W7.frozen? ⟨w.heap.size + 1 + 1, 4, none⟩ = false := by simp [World.frozen?, hv]
    go_simp
    have h9 := Lib.hid (hHeld.setf (.bool (sB R.1 wd)) (.bool z) (.bool s) (.bool (sB R.1 wd != sB (shlN R.1 wd) wd)) (.bool p))
    refine hK.out _ _ h9.out.1 (fun hHeld2 => ?_)
    clear hK K hHeld hHeld2 g0 g1 g2 g3 g4 f0 f1 f2 f3 f4 hv
    try simp only [Act.put, List.setIfInBounds_toArray, List.set_cons_zero, List.set_cons_succ, List.getElem_toArray, List.getElem_cons_succ, List.getElem_cons_zero]
    refine wpAnyH_done (by kernel_rfl) ?_ _
    refine NoPanic.normal ?_
    generalize World.setCell (World.setCell (World.setCell (World.setCell (World.setCell _ _ _) _ _) _ _) _ _) _ _ = W9 at h9 ⊢
    obtain ⟨⟨⟨q1, _, q3, q4⟩, _⟩, q5⟩ := h9.out
    have hRR := HR.out
    clear h9
    go_wp2
    refine ⟨by simp, .inl ⟨_, _, rfl, run_takeDeferred q4, ?_⟩⟩
    have n1 : w.heap.size + 1 ≠ D := by rintro rfl; rw [show W9.heap[w.heap.size + 1]? = _ from q1] at q4; cases q4
    have n2 : w.heap.size + 1 + 1 ≠ D := by rintro rfl; rw [q5] at q4; cases q4
    have e1 : (W9.putObj D (Obj.deferred none)).heap[w.heap.size + 1]? = _ := (World.putObj_heap_other n1).trans q1
    have e5 := (World.putObj_heap_other (o := Obj.deferred none) n2).trans q5
    have b9 : Below w.heap.size w (W9.putObj D (Obj.deferred none)) := q3.trans ⟨rfl, rfl, rfl, by simp, fun k hk => World.putObj_heap_other (by omega)⟩
    generalize W9.putObj D (Obj.deferred none) = W10 at e1 e5 b9 ⊢
    have c0 : W10.cell? ⟨w.heap.size + 1, 0, none⟩ = some (.int .u64 (R.1 : Int)) := by simp [World.cell?, e1]
    have g0 : W10.cell? ⟨w.heap.size + 1 + 1, 0, none⟩ = some (.bool (sB R.1 wd)) := by simp [World.cell?, e5]
    have g1 : W10.cell? ⟨w.heap.size + 1 + 1, 1, none⟩ = some (.bool z) := by simp [World.cell?, e5]
    have g2 : W10.cell? ⟨w.heap.size + 1 + 1, 2, none⟩ = some (.bool s) := by simp [World.cell?, e5]
    have g3 : W10.cell? ⟨w.heap.size + 1 + 1, 3, none⟩ = some (.bool (sB R.1 wd != sB (shlN R.1 wd) wd)) := by simp [World.cell?, e5]
    have g4 : W10.cell? ⟨w.heap.size + 1 + 1, 4, none⟩ = some (.bool p) := by simp [World.cell?, e5]
    exact ⟨.tuple #[.int .u64 (R.1 : Int), fl (sB R.1 wd) z s (sB R.1 wd != sB (shlN R.1 wd) wd) p], by simp [results, Tryd.results20, go_sem, *], by unfold RES_ror; rw [hRR], b9⟩
theorem shift_ror4 (wd : Int) (x : Nat) (hx : U x) (m k : Nat) (hm8 : m < 256) (hk : k = m % 32) (hk0 : 0 < k) (c z s o p : Bool) (h8 : (hI wd == 8) = false) (w : World) (hm : Mk w) :
    Calls Tryd.prog 20 #[.int .u8 20, .int .i64 wd, .int .u64 x, .int .u8 (m : Int), fl c z s o p] w fun e w' => e = .returned (RES_ror (fun r => (turnN r (tN (-1) wd) wd, lB r)) x k wd c z s o p) ∧ Below w.heap.size w w' :=
  callsIn_wide.1 (shift_ror4_in Fence.wide (Lib.hid rfl) 3 (Nat.le_refl _) wd x hx m k hm8 hk hk0 c z s o p h8 w hm)
set_option maxRecDepth 100000 in
set_option maxHeartbeats 4000000 in
theorem shift_ror8_in (F : Fence) (HF : Hid (F = Fence.wide)) (n : Nat) (hn3 : 3 ≤ n) (wd : Int) (x : Nat) (hx : U x) (m k : Nat) (hm8 : m < 256) (hk : k = m % 64) (hk0 : 0 < k) (c z s o p : Bool) (h8 : (hI wd == 8) = true) (w : World) (hm : Mk w) :
    CallsIn F n Tryd.prog 20 #[.int .u8 20, .int .i64 wd, .int .u64 x, .int .u8 (m : Int), fl c z s o p] w fun e w' => e = .returned (RES_ror (fun r => (turnN r (tN (-1) wd) wd, lB r)) x k wd c z s o p) ∧ Below w.heap.size w w' := by
  have hc0 := cN_U x hx wd
  have HM := Lib.hid hm
  have hmk : ((m : Int) % 64) = (k : Int) := by rw [hk]; simp
  have hkz : ((k : Int) == 0) = false := by simp; omega
  have hk64 : k < 64 := by omega
  have HK := Lib.hid hk0
  clear hm hk hk0
  have h1 : 1 ≤ n := by omega
  have hro : F.round = none := by rw [HF.out]; rfl
  have h20 : F.fn 20 := by rw [HF.out]; trivial
  have h73 : F.fn 73 := by rw [HF.out]; trivial
  refine callsIn_of_wp_marks Tryd.func20 rfl h20 ?_ hro
  simp only [Tryd.ntmps20, List.size_toArray, List.length_cons, List.length_nil, Nat.reduceAdd, Nat.reduceSub, Array.replicate_succ, Array.replicate_zero, List.push_toArray, List.append_toArray, List.nil_append, List.cons_append]
  refine wpIn_of_wp HF ?_
  go_wp2_with (first | (go_at_call 36; refine (cut_any _ hx _ _ (((HM.out.alloc _).alloc _).alloc _)).mono ?_; rintro e w' ⟨rfl, rfl⟩) | (go_at_call 41; refine (aheld_any _ _).mono ?_; rintro e w' ⟨rfl, rfl⟩))
  go_at_call 42
  refine (shiftsAt_20 _ _ _).mono ?_
  rintro e W1 ⟨b, rfl, hlk, hl4⟩
  have HL4 := Lib.hid hl4
  clear hl4
  go_wp2_with fail
  go_at_call 43
  refine (fallen_calls _ _ _ _ _ _).mono ?_
  rintro e W2 ⟨rfl, rfl⟩
  go_wp2
  have hbase := base_of w W1 c z s o p wd (cN x wd) k (.func (Fn.func 71) #[] #[.pointer (some ⟨w.heap.size + 1 + 1 + 1, 0, none⟩), .pointer (some ⟨w.heap.size + 1 + 1 + 1 + 1 + 1, 0, none⟩)]) (.func (Fn.func 72) #[] #[.pointer (some ⟨w.heap.size + 1 + 1 + 1 + 1 + 1 + 1, 0, none⟩), .pointer (some ⟨w.heap.size + 1 + 1 + 1, 0, none⟩)]) true HL4.out
  have hbig := hbase.big
  change Code.wp Tryd.prog _ _ _ (base5 W1 (.func (Fn.func 71) #[] #[.pointer (some ⟨w.heap.size + 1 + 1 + 1, 0, none⟩), .pointer (some ⟨w.heap.size + 1 + 1 + 1 + 1 + 1, 0, none⟩)]) (.func (Fn.func 72) #[] #[.pointer (some ⟨w.heap.size + 1 + 1 + 1 + 1 + 1 + 1, 0, none⟩), .pointer (some ⟨w.heap.size + 1 + 1 + 1, 0, none⟩)]) true (cN x wd) k)
  generalize base5 W1 (.func (Fn.func 71) #[] #[.pointer (some ⟨w.heap.size + 1 + 1 + 1, 0, none⟩), .pointer (some ⟨w.heap.size + 1 + 1 + 1 + 1 + 1, 0, none⟩)]) (.func (Fn.func 72) #[] #[.pointer (some ⟨w.heap.size + 1 + 1 + 1 + 1 + 1 + 1, 0, none⟩), .pointer (some ⟨w.heap.size + 1 + 1 + 1, 0, none⟩)]) true (cN x wd) k = Wb at hbase ⊢
  have HB := Lib.hid hbase
  have hsz := hbase.sz
  clear hbase hlk HL4
  refine wp_of_wpIn HF n ?_
  have hfal := fallen_ror F HF (n - 1) k (cN x wd) hk64 hc0 wd (cN x wd) (w.heap.size + 1 + 1 + 1) (w.heap.size + 1 + 1 + 1 + 1) (w.heap.size + 1 + 1 + 1 + 1 + 1) (w.heap.size + 1 + 1 + 1 + 1 + 1 + 1) (W1.heap.size + 1 + 1 + 1) (W1.heap.size + 1 + 1 + 1 + 1) (W1.heap.size + 1 + 1) (Rnd w Wb (w.heap.size + 1) (W1.heap.size + 1) (W1.heap.size + 1 + 1) (cN x wd)) (HST_ror wd)
    (fun pre W h => HB.out.env HM.out h) (fun pre W h => (show Boxed W (W1.heap.size + 1 + 1 + 1) 3 (.int .i64 (k : Int)) from h.kp _ _ _ _ (by omega) (by omega) (by omega) HB.out.bn).cell) (fun pre W h => (show Boxed W (W1.heap.size + 1 + 1 + 1 + 1) 50 _ from h.kp _ _ _ _ (by omega) (by omega) (by omega) HB.out.bt).cell)
    (fun pre W h => by obtain ⟨v, hv, _⟩ := h.a; exact ⟨hv.frozen, v, hv.cell⟩) (fun W h => by obtain ⟨v, hv, e⟩ := h.a; rw [e rfl] at hv; exact hv.cell)
    (fun pre W x hp h => h.setA hp (by omega) (by omega) (by omega) x) (fun pre W q h => h.drewN q)
  have HF := Lib.hid hfal
  clear hfal
  refine range_cells (gf := 73) hro h1 rfl h73 (enters_of Tryd.func73 (by kernel_rfl) rfl) (fun x : Nat × Bool => #[.int .u64 (x.1 : Int), .bool x.2]) (fun _ => rfl)
    (Rnd w Wb (w.heap.size + 1) (W1.heap.size + 1) (W1.heap.size + 1 + 1) (cN x wd)) (fun xs => xs = ups (fun r => (turnN r (tN (-1) wd) wd, lB r)) (cN x wd) k) k (Rnd.own (by omega)) HB.out.start ?a1 ?assign ?body HF.out ?done
  case assign =>
    intro l x W K hK
    gi_wp2
    exact hK
  case body =>
    intro l pre x W hI hlt
    have HI := Lib.hid hI
    have c1 := hI.r.cell
    have f1 := hI.r.frozen
    have c2 := hI.q.cell
    have f2 := hI.q.frozen
    have n1 : ¬ w.heap.size + 1 = W1.heap.size + 1 := by omega
    have n2 : ¬ W1.heap.size + 1 = w.heap.size + 1 := by omega
    clear hI
    gi_wp2
    exact ⟨(KeepsOthers.setCell _ _ _).trans (KeepsOthers.setCell _ _ _), HI.out.next (by omega) (by omega) (by omega) (by omega) (by omega)⟩
  case done =>
    rintro D xs W hD rfl hI hK
    have hk0 := HK.out
    have hr := hI.r
    rw [rvOf_ups _ _ _ hk0] at hr
    have hq := hI.q
    rw [lvOf_ups _ _ _ hk0] at hq
    have hE := HB.out.env HM.out hI
    have hu := it_U (fun r => (turnN r (tN (-1) wd) wd, lB r)) (cN x wd) hc0 (HST_ror wd) k
    have hs : W.heap[W1.heap.size]? = some (.cells #[.func (Fn.func 71) #[] #[.pointer (some ⟨w.heap.size + 1 + 1 + 1, 0, none⟩), .pointer (some ⟨w.heap.size + 1 + 1 + 1 + 1 + 1, 0, none⟩)], .func (Fn.func 72) #[] #[.pointer (some ⟨w.heap.size + 1 + 1 + 1 + 1 + 1 + 1, 0, none⟩), .pointer (some ⟨w.heap.size + 1 + 1 + 1, 0, none⟩)], .bool true] 53 (0, 0)) := hI.kp _ _ _ _ (by omega) (by omega) (by omega) HB.out.bs
    have cs1 : W.cell? ⟨W1.heap.size, 1, none⟩ = some (.func (Fn.func 72) #[] #[.pointer (some ⟨w.heap.size + 1 + 1 + 1 + 1 + 1 + 1, 0, none⟩), .pointer (some ⟨w.heap.size + 1 + 1 + 1, 0, none⟩)]) := by simp [World.cell?, hs]
    have cs2 : W.cell? ⟨W1.heap.size, 2, none⟩ = some (.bool true) := by simp [World.cell?, hs]
    generalize hR : it (fun r => (turnN r (tN (-1) wd) wd, lB r)) (cN x wd) k = R at hr hq hu
    have HR := Lib.hid hR
    have HI := Lib.hid hI
    have HKD := Lib.hid hK
    have cr := hr.cell
    have fr := hr.frozen
    have cq := hq.cell
    obtain ⟨hMW, hcw, hca, hcl, hch⟩ := hE
    have HE : Hid (Env wd (cN x wd) (w.heap.size + 1 + 1 + 1) (w.heap.size + 1 + 1 + 1 + 1) (w.heap.size + 1 + 1 + 1 + 1 + 1) (w.heap.size + 1 + 1 + 1 + 1 + 1 + 1) W) := Lib.hid ⟨hMW, hcw, hca, hcl, hch⟩
    clear hk0 hr hq hs hR hI hK hMW hcw hca hcl hch
    go_wp2_with fail
    go_at_call 72
    refine (ror_flags _ hu _ wd _ _ _ _ _ _ HE.out).mono ?_
    rintro e w1 ⟨rfl, q, rfl⟩
    have HT : Hid (Tw w D (.int .u64 (R.1 : Int)) c z s o p (W.drewN q)) := Lib.hid ((show Tw w D (.int .u64 (R.1 : Int)) c z s o p W from ⟨⟨by have := HI.out.r; rw [rvOf_ups _ _ _ HK.out, HR.out] at this; exact this, ⟨_, _, _, _, _, HI.out.kp _ _ _ _ (by omega) (by omega) (by omega) HB.out.bf⟩, HI.out.bel, HKD.out⟩, HI.out.kp _ _ _ _ (by omega) (by omega) (by omega) HB.out.bwas⟩).drewN q)
    have cs2' : (W.drewN q).cell? ⟨W1.heap.size, 2, none⟩ = some (.bool true) := cs2
    clear cs1 cs2 cr fr cq
    generalize W.drewN q = W2 at HT cs2' ⊢
    obtain ⟨g0, _, _, g3, _⟩ := HT.out.cells
    have f0 := HT.out.frozen 0 (by omega)
    have f3 := HT.out.frozen 3 (by omega)
    have hT3 := Lib.hid (HT.out.setw (sB R.1 wd) (sB R.1 wd != sB (shlN R.1 wd) wd))
    go_wp2
    clear g0 g3 f0 f3 cs2'
    generalize World.setCell (World.setCell _ _ _) _ _ = W3 at hT3 ⊢
    refine wp_region_noPanic ?_
    refine wp_region_held_drew (S := fun W => Tw w D (.int .u64 (R.1 : Int)) (sB R.1 wd) z s (sB R.1 wd != sB (shlN R.1 wd) wd) p W) (by kernel_rfl) ?_ (fun hHeld => ?_)
    · (first | (with_reducible assumption) | exact hT3.out.drew)
    generalize World.drew _ = W4 at hHeld ⊢
    refine wpAnyH_take (i := 0) (v := ?_) rfl (by kernel_rfl) (by kernel_rfl) (by kernel_rfl) (fun _ _ _ h => h) (Or.inl ⟨by kernel_rfl, ?_⟩) (by assumption) ?_
    rotate_left
    · intro w hSw
      have h1 := hSw.tl.box.cell
      go_simp
      try with_reducible rfl
    simp only [Act.put, List.setIfInBounds_toArray, List.set_cons_zero, List.set_cons_succ, List.getElem_toArray, List.getElem_cons_succ, List.getElem_cons_zero]
    refine wpAnyH_take (i := 1) (v := ?_) rfl (by kernel_rfl) (by kernel_rfl) (by kernel_rfl) (fun _ _ _ h => h) (Or.inl ⟨by kernel_rfl, ?_⟩) (by assumption) ?_
    rotate_left
    · intro w hSw
      obtain ⟨g0, g1, g2, g3, g4⟩ := hSw.cells
      go_simp
      try with_reducible rfl
    simp only [Act.put, List.setIfInBounds_toArray, List.set_cons_zero, List.set_cons_succ, List.getElem_toArray, List.getElem_cons_succ, List.getElem_cons_zero]
    refine wpAnyH_ready (rs := [2]) (by kernel_rfl) (by simp) ?_
    refine AllReadyH.cons rfl (fun K hK => ?_) AllReadyH.nil
    have c1 := hHeld.tl.box.cell
    have f1 := hHeld.tl.box.frozen
    go_simp
    refine hK.out _ _ hHeld.setr (fun hHeld2 => ?_)
    clear hK K hHeld c1 f1
    have hHeld := hHeld2
    clear hHeld2
    try simp only [Act.put, List.setIfInBounds_toArray, List.set_cons_zero, List.set_cons_succ, List.getElem_toArray, List.getElem_cons_succ, List.getElem_cons_zero]
    generalize World.setCell _ _ _ = W7 at hHeld ⊢
    refine wpAnyH_ready (rs := [3]) (by kernel_rfl) (by simp) ?_
    refine AllReadyH.cons rfl (fun K hK => ?_) AllReadyH.nil
    obtain ⟨v0, v1, v2, v3, v4, hv⟩ := hHeld.tl.res
    have g0 : W7.cell? ⟨w.heap.size + 1 + 1, 0, none⟩ = some v0 := by simp [World.cell?, hv]
    have g1 : W7.cell? ⟨w.heap.size + 1 + 1, 1, none⟩ = some v1 := by simp [World.cell?, hv]
    have g2 : W7.cell? ⟨w.heap.size + 1 + 1, 2, none⟩ = some v2 := by simp [World.cell?, hv]
    have g3 : W7.cell? ⟨w.heap.size + 1 + 1, 3, none⟩ = some v3 := by simp [World.cell?, hv]
    have g4 : W7.cell? ⟨w.heap.size + 1 + 1, 4, none⟩ = some v4 := by simp [World.cell?, hv]
    have f0 : W7.frozen? ⟨w.heap.size + 1 + 1, 0, none⟩ = false := by simp [World.frozen?, hv]
    have f1 : W7.frozen? ⟨w.heap.size + 1 + 1, 1, none⟩ = false := by simp [World.frozen?, hv]
    have f2 : W7.frozen? ⟨w.heap.size + 1 + 1, 2, none⟩ = false := by simp [World.frozen?, hv]
    have f3 : W7.frozen? ⟨w.heap.size + 1 + 1, 3, none⟩ = false := by simp [World.frozen?, hv]
    have f4 : W7.frozen? ⟨w.heap.size + 1 + 1, 4, none⟩ = false := by simp [World.frozen?, hv]
    go_simp
    have h9 := Lib.hid (hHeld.setf (.bool (sB R.1 wd)) (.bool z) (.bool s) (.bool (sB R.1 wd != sB (shlN R.1 wd) wd)) (.bool p))
    refine hK.out _ _ h9.out.1 (fun hHeld2 => ?_)
    clear hK K hHeld hHeld2 g0 g1 g2 g3 g4 f0 f1 f2 f3 f4 hv
    try simp only [Act.put, List.setIfInBounds_toArray, List.set_cons_zero, List.set_cons_succ, List.getElem_toArray, List.getElem_cons_succ, List.getElem_cons_zero]
    refine wpAnyH_done (by kernel_rfl) ?_ _
    refine NoPanic.normal ?_
    generalize World.setCell (World.setCell (World.setCell (World.setCell (World.setCell _ _ _) _ _) _ _) _ _) _ _ = W9 at h9 ⊢
    obtain ⟨⟨⟨q1, _, q3, q4⟩, _⟩, q5⟩ := h9.out
    have hRR := HR.out
    clear h9
    go_wp2
    refine ⟨by simp, .inl ⟨_, _, rfl, run_takeDeferred q4, ?_⟩⟩
    have n1 : w.heap.size + 1 ≠ D := by rintro rfl; rw [show W9.heap[w.heap.size + 1]? = _ from q1] at q4; cases q4
    have n2 : w.heap.size + 1 + 1 ≠ D := by rintro rfl; rw [q5] at q4; cases q4
    have e1 : (W9.putObj D (Obj.deferred none)).heap[w.heap.size + 1]? = _ := (World.putObj_heap_other n1).trans q1
    have e5 := (World.putObj_heap_other (o := Obj.deferred none) n2).trans q5
    have b9 : Below w.heap.size w (W9.putObj D (Obj.deferred none)) := q3.trans ⟨rfl, rfl, rfl, by simp, fun k hk => World.putObj_heap_other (by omega)⟩
    generalize W9.putObj D (Obj.deferred none) = W10 at e1 e5 b9 ⊢
    have c0 : W10.cell? ⟨w.heap.size + 1, 0, none⟩ = some (.int .u64 (R.1 : Int)) := by simp [World.cell?, e1]
    have g0 : W10.cell? ⟨w.heap.size + 1 + 1, 0, none⟩ = some (.bool (sB R.1 wd)) := by simp [World.cell?, e5]
    have g1 : W10.cell? ⟨w.heap.size + 1 + 1, 1, none⟩ = some (.bool z) := by simp [World.cell?, e5]
    have g2 : W10.cell? ⟨w.heap.size + 1 + 1, 2, none⟩ = some (.bool s) := by simp [World.cell?, e5]
    have g3 : W10.cell? ⟨w.heap.size + 1 + 1, 3, none⟩ = some (.bool (sB R.1 wd != sB (shlN R.1 wd) wd)) := by simp [World.cell?, e5]
    have g4 : W10.cell? ⟨w.heap.size + 1 + 1, 4, none⟩ = some (.bool p) := by simp [World.cell?, e5]
    exact ⟨.tuple #[.int .u64 (R.1 : Int), fl (sB R.1 wd) z s (sB R.1 wd != sB (shlN R.1 wd) wd) p], by simp [results, Tryd.results20, go_sem, *], by unfold RES_ror; rw [hRR], b9⟩
theorem shift_ror8 (wd : Int) (x : Nat) (hx : U x) (m k : Nat) (hm8 : m < 256) (hk : k = m % 64) (hk0 : 0 < k) (c z s o p : Bool) (h8 : (hI wd == 8) = true) (w : World) (hm : Mk w) :
    Calls Tryd.prog 20 #[.int .u8 20, .int .i64 wd, .int .u64 x, .int .u8 (m : Int), fl c z s o p] w fun e w' => e = .returned (RES_ror (fun r => (turnN r (tN (-1) wd) wd, lB r)) x k wd c z s o p) ∧ Below w.heap.size w w' :=
  callsIn_wide.1 (shift_ror8_in Fence.wide (Lib.hid rfl) 3 (Nat.le_refl _) wd x hx m k hm8 hk hk0 c z s o p h8 w hm)
end Go.Proofs.YtmfoeolllobidaaDoor
