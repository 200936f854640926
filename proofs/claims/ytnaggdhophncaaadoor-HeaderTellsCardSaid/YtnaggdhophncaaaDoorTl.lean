/- header.TakeSegment, header.TakeSection. -/
import Derived.Test.YtnaggdhophncaaaDoorTk
namespace Go.Proofs.YtnaggdhophncaaaDoor
open Go.RowKit Go.Shelf
set_option linter.unusedVariables false
set_option linter.unusedSimpArgs false
attribute [local go_sem] Oper.semAt_some
theorem NB.own (nn q : Nat) : Own (NB nn q) := fun s A B row hs hg hr j hj => ⟨cell_kept (hs j hj).1 hg hr, (frozen_kept (hs j hj).1 hg hr).trans (hs j hj).2⟩
theorem NI.own (w : World) (nn q r : Nat) (cs : Array Value) (t : TypeId) (B : Nat) (hB : w.heap.size ≤ B) : OwnFrom B (NI w nn q r cs t) :=
  OwnFrom.and (OwnFrom.and (Own.from (NB.own nn q) _) (ownFrom_block B r (fun _ => cs) t)) (ownFrom_below (Nat.le_refl _) hB)
theorem NI.put {w W : World} {nn q r : Nat} {cs : Array Value} {t : TypeId} {pre : List (Pl nn)} (h : NI w nn q r cs t pre W) (x : Pl nn) (hqr : r ≠ q) (hq : w.heap.size ≤ q) : NI w nn q r cs t (pre ++ [x]) (W.setCell ⟨q, x.1.1, none⟩ (.int .u64 (x.1.2 : Nat))) := by
  refine ⟨⟨fun j hj => ⟨?_, ?_⟩, (Below.heap_setCell W ⟨q, x.1.1, none⟩ _ r hqr).trans h.1.2⟩, h.2.setCell (p := ⟨q, x.1.1, none⟩) hq _⟩
  · rw [wr_snoc]
    by_cases he : x.1.1 = j
    · rw [if_pos he, ← he]; exact World.cell?_setCell_same _ _ _ (h.1.1 x.1.1 x.2).1
    · rw [if_neg he, farO _ _ _ _ _ he]; exact (h.1.1 j hj).1
  · rw [World.frozen?_setCell]; exact (h.1.1 j hj).2
theorem set_at {W : World} {b i : Nat} {cs : Array Value} {t : TypeId} {v : Value} (h : W.heap[b]? = some (.cells cs t (0, 0))) : (W.setCell ⟨b, i, none⟩ v).heap[b]? = some (.cells (cs.setIfInBounds i v) t (0, 0)) := by
  rw [setCell_eq_setRow W b i cs t (0, 0) v h]
  exact setRow_heap W b _ _ t (0, 0) h
theorem keep_set {w W : World} {D b i : Nat} {v : Value} {o : Option Obj} (h : Below w.heap.size w W ∧ W.heap[D]? = o) (hb : w.heap.size ≤ b) (hD : D ≠ b) : Below w.heap.size w (W.setCell ⟨b, i, none⟩ v) ∧ (W.setCell ⟨b, i, none⟩ v).heap[D]? = o :=
  ⟨h.1.setCell (p := ⟨b, i, none⟩) hb _, (Below.heap_setCell W ⟨b, i, none⟩ v D hD).trans h.2⟩
theorem res20 {W : World} {b : Nat} {tm : Array Value} {v0 v1 v2 v3 v4 v5 v6 : Int} (hp : tm.getD 2 undef = .pointer (some ⟨b, 0, none⟩)) (hr : tm.getD 3 undef = .int .i64 0) (h : W.heap[b]? = some (.cells #[.int .u32 v0, .int .u32 v1, .int .u64 v2, .int .u64 v3, .int .u64 v4, .int .u64 v5, .int .u64 v6] 30 (0, 0))) : (results Tryd.f20 tm).run Tryd.prog W = .ok (.tuple #[.agg #[.int .u32 v0, .int .u32 v1, .int .u64 v2, .int .u64 v3, .int .u64 v4, .int .u64 v5, .int .u64 v6], .int .i64 0]) W := by
  have c0 := cell_at (i := 0) (v := .int .u32 v0) h rfl
  have c1 := cell_at (i := 1) (v := .int .u32 v1) h rfl
  have c2 := cell_at (i := 2) (v := .int .u64 v2) h rfl
  have c3 := cell_at (i := 3) (v := .int .u64 v3) h rfl
  have c4 := cell_at (i := 4) (v := .int .u64 v4) h rfl
  have c5 := cell_at (i := 5) (v := .int .u64 v5) h rfl
  have c6 := cell_at (i := 6) (v := .int .u64 v6) h rfl
  rw [results_cell_tmp (fn := Tryd.f20) (p := 2) (u := 3) (ty := 30) rfl, hp, hr]
  go_simp
theorem res22 {W : World} {b : Nat} {tm : Array Value} {v0 v1 v2 v3 v4 : Int} (hp : tm.getD 2 undef = .pointer (some ⟨b, 0, none⟩)) (hr : tm.getD 3 undef = .int .i64 0) (h : W.heap[b]? = some (.cells #[.int .u32 v0, .int .u64 v1, .int .u64 v2, .int .u32 v3, .int .u64 v4] 32 (0, 0))) : (results Tryd.f22 tm).run Tryd.prog W = .ok (.tuple #[.agg #[.int .u32 v0, .int .u64 v1, .int .u64 v2, .int .u32 v3, .int .u64 v4], .int .i64 0]) W := by
  have c0 := cell_at (i := 0) (v := .int .u32 v0) h rfl
  have c1 := cell_at (i := 1) (v := .int .u64 v1) h rfl
  have c2 := cell_at (i := 2) (v := .int .u64 v2) h rfl
  have c3 := cell_at (i := 3) (v := .int .u32 v3) h rfl
  have c4 := cell_at (i := 4) (v := .int .u64 v4) h rfl
  rw [results_cell_tmp (fn := Tryd.f22) (p := 2) (u := 3) (ty := 32) rfl, hp, hr]
  go_simp
def TAseg (r q g off len cap : Nat) (x : Pl 7) : Act := { tmps := #[.slice (some ⟨g, off, none⟩) len cap, undef, .pointer (some ⟨r, 0, none⟩), .int .i64 0, .pointer (some ⟨q, 0, none⟩), .int .i64 (x.1.1 : Nat), .int .u64 (x.1.2 : Nat), .slice (some ⟨g, off, none⟩) len cap, .int .i64 (len : Nat), .bool (decide ((len : Int) < 56)), undef, .slice (some ⟨g, off, none⟩) len cap, .slice (some ⟨r + 2, 0, none⟩) 8 8, .func (.func 38) #[] #[.pointer (some ⟨r + 4, 0, none⟩), .pointer (some ⟨r + 3, 0, none⟩)], .int .i64 (x.1.1 : Nat), .int .u64 (x.1.2 : Nat), undef, undef, undef, undef, undef, undef, undef, undef, undef, undef, undef, undef, undef, undef, undef, undef, undef, undef, undef, undef], defers := [] }
set_option maxRecDepth 1000000 in
set_option maxHeartbeats 8000000 in
theorem take_seg (ad : Option Addr) (len cap : Nat) (z : Nat → Nat) (hz : ∀ j, z j < 256) (hn : 56 ≤ len) (hl : len ≤ cap) (hm : cap ≤ 9223372036854775807) (w : World) (h : BS w ad len z) :
    Calls Tryd.prog 20 #[.slice ad len cap] w fun e w' => e = .returned (.tuple #[.agg #[.int .u32 (numZ z 0 4 : Nat), .int .u32 (numZ z 4 4 : Nat), .int .u64 (numZ z 8 8 : Nat), .int .u64 (numZ z 16 8 : Nat), .int .u64 (numZ z 32 8 : Nat), .int .u64 (numZ z 40 8 : Nat), .int .u64 (numZ z 48 8 : Nat)], .int .i64 0]) ∧ Below w.heap.size w w' := by
  obtain ⟨g, off, rfl, hc⟩ := h (by omega)
  have HW := Lib.hid (seg_world w g off len cap z hc (by omega))
  have HO := Lib.hid (seg_out z)
  clear h hc
  refine (callsIn_wide (n := 5)).1 (callsIn_of_wp_marks Tryd.func20 rfl trivial ?_ rfl)
  simp only [Tryd.ntmps20, List.size_toArray, List.length_cons, List.length_nil, Nat.reduceAdd, Nat.reduceSub, Array.replicate_succ, Array.replicate_zero, List.push_toArray, List.append_toArray, List.nil_append, List.cons_append]
  refine (wpIn_wide (n := 5)).2 ?_
  go_wp2_with (first | (go_at_call 33; refine (taken_any _ _ _ _ _ _ _).mono ?_) | fail)
  rintro e W5 ⟨rfl, hW5⟩
  simp only [World.size_alloc, Nat.add_assoc, Nat.reduceAdd] at hW5 ⊢
  rw [← hW5] at HW
  clear hW5
  have hsz : w.heap.size ≤ W5.heap.size := HW.out.1.2.size
  have hs4 : w.heap.size + 4 < W5.heap.size := cell_lt' HW.out.2.1
  have hgw := HW.out.2.2.2
  have hRq : w.heap.size ≠ w.heap.size + 1 := by omega
  generalize hB : w.heap.size + 1 = q at *
  go_wp2_with fail
  refine (wpIn_wide (n := 5)).1 ?_
  refine wpIn_rangeFunc_ownH (F := Fence.wide) rfl (by decide) (gf := 38) (lb := #[.pointer (some ⟨w.heap.size + 4, 0, none⟩), .pointer (some ⟨w.heap.size + 3, 0, none⟩)]) rfl trivial (enters_of Tryd.func38 (by kernel_rfl) rfl)
    (taken_stops 4 (by decide) (w.heap.size + 4) (w.heap.size + 3) (w.heap.size + 2) 8 g off len cap 7 segZ z hz (seg_fit len hn) (by decide) (by decide) hl hm W5 HW.out.2.1 HW.out.2.2.1) kpT_t (fun W l o o' h1 h2 h3 h4 => kpT_b (w := W5) (by omega) (by omega) (by omega) W l o o' h1 h2 h3 h4) (Below.refl _ _) (fun _ => rfl)
    (NI w 7 q w.heap.size #[.int .u32 0, .int .u32 0, .int .u64 0, .int .u64 0, .int .u64 0, .int .u64 0, .int .u64 0] 30) (fun _ _ _ => False) (NI.own w 7 q w.heap.size _ 30 _ hsz) (fun _ _ _ _ _ hs _ _ => hs) HW.out.1
    (fun x a9 W => a9 = TAseg w.heap.size q g off len cap x) (fun x a9 _ X Y row hs hg hr => hs) ?assign ?body ?done ?stop
  case assign =>
    rintro l pre x W K hI hK
    gi_wp2_with fail
    exact hK _ _ (KeepsFrom.of_grownBy (row := none) ⟨rfl, rfl, rfl, Nat.le_refl _, fun _ _ _ => rfl⟩ (fun j e => by cases e)) ⟨rfl, rfl, rfl⟩ hI rfl
  case body =>
    rintro l pre x a9 W hl ⟨r, hr⟩ hI rfl hlt
    obtain ⟨c1, f1⟩ := hI.1.1 x.1.1 x.2
    have hx : (x.1.1 : Int) < 7 := by have := x.2; omega
    have hx2 := x.2
    have HI := Lib.hid hI
    clear hI hr
    unfold TAseg
    gi_wp2_with fail
    exact ⟨(KeepsOthers.setCell _ _ _).from _, ⟨Below.heap_setCell W ⟨q, x.1.1, none⟩ _ _ (by dsimp only; omega), Below.heap_setCell W ⟨q, x.1.1, none⟩ _ _ (by dsimp only; omega), Below.heap_setCell W ⟨q, x.1.1, none⟩ _ _ (by dsimp only; omega)⟩, HI.out.put x (by omega) (by omega)⟩
  case done =>
    rintro D ys W hD hys hI hK
    subst hys
    have HI := Lib.hid hI
    have HK := Lib.hid hK
    have hND := hI.1.1
    clear hI hK
    obtain ⟨o0, o1, o2, o3, o4, o5, o6⟩ := HO.out
    have c0 : W.cell? ⟨q, 0, none⟩ = some (.int .u64 (numZ z 0 4 : Nat)) := by rw [← o0]; exact (hND 0 (by decide)).1
    have w0 := w32n (numZ_lt z hz 0 4)
    have c1 : W.cell? ⟨q, 1, none⟩ = some (.int .u64 (numZ z 4 4 : Nat)) := by rw [← o1]; exact (hND 1 (by decide)).1
    have w1 := w32n (numZ_lt z hz 4 4)
    have c2 : W.cell? ⟨q, 2, none⟩ = some (.int .u64 (numZ z 8 8 : Nat)) := by rw [← o2]; exact (hND 2 (by decide)).1
    have c3 : W.cell? ⟨q, 3, none⟩ = some (.int .u64 (numZ z 16 8 : Nat)) := by rw [← o3]; exact (hND 3 (by decide)).1
    have c4 : W.cell? ⟨q, 4, none⟩ = some (.int .u64 (numZ z 32 8 : Nat)) := by rw [← o4]; exact (hND 4 (by decide)).1
    have c5 : W.cell? ⟨q, 5, none⟩ = some (.int .u64 (numZ z 40 8 : Nat)) := by rw [← o5]; exact (hND 5 (by decide)).1
    have c6 : W.cell? ⟨q, 6, none⟩ = some (.int .u64 (numZ z 48 8 : Nat)) := by rw [← o6]; exact (hND 6 (by decide)).1
    have r0 := cell_at (i := 0) (v := .int .u32 0) HI.out.1.2 rfl
    have f0 := frozen_at HI.out.1.2 0
    have r1 := cell_at (i := 1) (v := .int .u32 0) HI.out.1.2 rfl
    have f1 := frozen_at HI.out.1.2 1
    have r2 := cell_at (i := 2) (v := .int .u64 0) HI.out.1.2 rfl
    have f2 := frozen_at HI.out.1.2 2
    have r3 := cell_at (i := 3) (v := .int .u64 0) HI.out.1.2 rfl
    have f3 := frozen_at HI.out.1.2 3
    have r4 := cell_at (i := 4) (v := .int .u64 0) HI.out.1.2 rfl
    have f4 := frozen_at HI.out.1.2 4
    have r5 := cell_at (i := 5) (v := .int .u64 0) HI.out.1.2 rfl
    have f5 := frozen_at HI.out.1.2 5
    have r6 := cell_at (i := 6) (v := .int .u64 0) HI.out.1.2 rfl
    have f6 := frozen_at HI.out.1.2 6
    have h0 := set_at (i := 0) (v := .int .u32 (numZ z 0 4 : Nat)) HI.out.1.2
    have h1 := set_at (i := 1) (v := .int .u32 (numZ z 4 4 : Nat)) h0
    have h2 := set_at (i := 2) (v := .int .u64 (numZ z 8 8 : Nat)) h1
    have h3 := set_at (i := 3) (v := .int .u64 (numZ z 16 8 : Nat)) h2
    have h4 := set_at (i := 4) (v := .int .u64 (numZ z 32 8 : Nat)) h3
    have h5 := set_at (i := 5) (v := .int .u64 (numZ z 40 8 : Nat)) h4
    have h6 := set_at (i := 6) (v := .int .u64 (numZ z 48 8 : Nat)) h5
    have HR := Lib.hid (show _ = some (Obj.cells #[.int .u32 (numZ z 0 4 : Nat), .int .u32 (numZ z 4 4 : Nat), .int .u64 (numZ z 8 8 : Nat), .int .u64 (numZ z 16 8 : Nat), .int .u64 (numZ z 32 8 : Nat), .int .u64 (numZ z 40 8 : Nat), .int .u64 (numZ z 48 8 : Nat)] 30 (0, 0)) from h6)
    clear h6 h5 h4 h3 h2 h1 h0
    clear o0 o1 o2 o3 o4 o5 o6 hND
    have HBK := Lib.hid (keep_set (i := 6) (v := .int .u64 (numZ z 48 8 : Nat)) (keep_set (i := 5) (v := .int .u64 (numZ z 40 8 : Nat)) (keep_set (i := 4) (v := .int .u64 (numZ z 32 8 : Nat)) (keep_set (i := 3) (v := .int .u64 (numZ z 16 8 : Nat)) (keep_set (i := 2) (v := .int .u64 (numZ z 8 8 : Nat)) (keep_set (i := 1) (v := .int .u32 (numZ z 4 4 : Nat)) (keep_set (i := 0) (v := .int .u32 (numZ z 0 4 : Nat)) (And.intro HI.out.2 HK.out) (Nat.le_refl _) (show D ≠ w.heap.size from by omega)) (Nat.le_refl _) (show D ≠ w.heap.size from by omega)) (Nat.le_refl _) (show D ≠ w.heap.size from by omega)) (Nat.le_refl _) (show D ≠ w.heap.size from by omega)) (Nat.le_refl _) (show D ≠ w.heap.size from by omega)) (Nat.le_refl _) (show D ≠ w.heap.size from by omega)) (Nat.le_refl _) (show D ≠ w.heap.size from by omega))
    go_wp2_with fail
    generalize World.setCell (World.setCell (World.setCell (World.setCell (World.setCell (World.setCell (World.setCell W _ _) _ _) _ _) _ _) _ _) _ _) _ _ = W9 at HR HBK ⊢
    refine ⟨by simp, .inl ⟨_, _, rfl, run_takeDeferred HBK.out.2, ?_⟩⟩
    exact ⟨_, res20 rfl rfl ((World.putObj_heap_other (show w.heap.size ≠ D by omega)).trans HR.out), rfl, HBK.out.1.trans (belowK_b (w := w) (Nat.le_refl _) W9 D _ _ (by omega) HBK.out.2 rfl rfl)⟩
  case stop =>
    rintro D c pre W _ _ h _
    exact h.elim
def TAsec (r q g off len cap : Nat) (x : Pl 5) : Act := { tmps := #[.slice (some ⟨g, off, none⟩) len cap, undef, .pointer (some ⟨r, 0, none⟩), .int .i64 0, .pointer (some ⟨q, 0, none⟩), .int .i64 (x.1.1 : Nat), .int .u64 (x.1.2 : Nat), .slice (some ⟨g, off, none⟩) len cap, .int .i64 (len : Nat), .bool (decide ((len : Int) < 64)), undef, .slice (some ⟨g, off, none⟩) len cap, .slice (some ⟨r + 2, 0, none⟩) 8 8, .func (.func 38) #[] #[.pointer (some ⟨r + 4, 0, none⟩), .pointer (some ⟨r + 3, 0, none⟩)], .int .i64 (x.1.1 : Nat), .int .u64 (x.1.2 : Nat), undef, undef, undef, undef, undef, undef, undef, undef, undef, undef, undef, undef, undef, undef, undef, undef], defers := [] }
set_option maxRecDepth 1000000 in
set_option maxHeartbeats 8000000 in
theorem take_sec (ad : Option Addr) (len cap : Nat) (z : Nat → Nat) (hz : ∀ j, z j < 256) (hn : 64 ≤ len) (hl : len ≤ cap) (hm : cap ≤ 9223372036854775807) (w : World) (h : BS w ad len z) :
    Calls Tryd.prog 22 #[.slice ad len cap] w fun e w' => e = .returned (.tuple #[.agg #[.int .u32 (numZ z 4 4 : Nat), .int .u64 (numZ z 24 8 : Nat), .int .u64 (numZ z 32 8 : Nat), .int .u32 (numZ z 40 4 : Nat), .int .u64 (numZ z 56 8 : Nat)], .int .i64 0]) ∧ Below w.heap.size w w' := by
  obtain ⟨g, off, rfl, hc⟩ := h (by omega)
  have HW := Lib.hid (sec_world w g off len cap z hc (by omega))
  have HO := Lib.hid (sec_out z)
  clear h hc
  refine (callsIn_wide (n := 5)).1 (callsIn_of_wp_marks Tryd.func22 rfl trivial ?_ rfl)
  simp only [Tryd.ntmps22, List.size_toArray, List.length_cons, List.length_nil, Nat.reduceAdd, Nat.reduceSub, Array.replicate_succ, Array.replicate_zero, List.push_toArray, List.append_toArray, List.nil_append, List.cons_append]
  refine (wpIn_wide (n := 5)).2 ?_
  go_wp2_with (first | (go_at_call 33; refine (taken_any _ _ _ _ _ _ _).mono ?_) | fail)
  rintro e W5 ⟨rfl, hW5⟩
  simp only [World.size_alloc, Nat.add_assoc, Nat.reduceAdd] at hW5 ⊢
  rw [← hW5] at HW
  clear hW5
  have hsz : w.heap.size ≤ W5.heap.size := HW.out.1.2.size
  have hs4 : w.heap.size + 4 < W5.heap.size := cell_lt' HW.out.2.1
  have hgw := HW.out.2.2.2
  have hRq : w.heap.size ≠ w.heap.size + 1 := by omega
  generalize hB : w.heap.size + 1 = q at *
  go_wp2_with fail
  refine (wpIn_wide (n := 5)).1 ?_
  refine wpIn_rangeFunc_ownH (F := Fence.wide) rfl (by decide) (gf := 38) (lb := #[.pointer (some ⟨w.heap.size + 4, 0, none⟩), .pointer (some ⟨w.heap.size + 3, 0, none⟩)]) rfl trivial (enters_of Tryd.func38 (by kernel_rfl) rfl)
    (taken_stops 4 (by decide) (w.heap.size + 4) (w.heap.size + 3) (w.heap.size + 2) 8 g off len cap 5 secZ z hz (sec_fit len hn) (by decide) (by decide) hl hm W5 HW.out.2.1 HW.out.2.2.1) kpT_t (fun W l o o' h1 h2 h3 h4 => kpT_b (w := W5) (by omega) (by omega) (by omega) W l o o' h1 h2 h3 h4) (Below.refl _ _) (fun _ => rfl)
    (NI w 5 q w.heap.size #[.int .u32 0, .int .u64 0, .int .u64 0, .int .u32 0, .int .u64 0] 32) (fun _ _ _ => False) (NI.own w 5 q w.heap.size _ 32 _ hsz) (fun _ _ _ _ _ hs _ _ => hs) HW.out.1
    (fun x a9 W => a9 = TAsec w.heap.size q g off len cap x) (fun x a9 _ X Y row hs hg hr => hs) ?assign ?body ?done ?stop
  case assign =>
    rintro l pre x W K hI hK
    gi_wp2_with fail
    exact hK _ _ (KeepsFrom.of_grownBy (row := none) ⟨rfl, rfl, rfl, Nat.le_refl _, fun _ _ _ => rfl⟩ (fun j e => by cases e)) ⟨rfl, rfl, rfl⟩ hI rfl
  case body =>
    rintro l pre x a9 W hl ⟨r, hr⟩ hI rfl hlt
    obtain ⟨c1, f1⟩ := hI.1.1 x.1.1 x.2
    have hx : (x.1.1 : Int) < 5 := by have := x.2; omega
    have hx2 := x.2
    have HI := Lib.hid hI
    clear hI hr
    unfold TAsec
    gi_wp2_with fail
    exact ⟨(KeepsOthers.setCell _ _ _).from _, ⟨Below.heap_setCell W ⟨q, x.1.1, none⟩ _ _ (by dsimp only; omega), Below.heap_setCell W ⟨q, x.1.1, none⟩ _ _ (by dsimp only; omega), Below.heap_setCell W ⟨q, x.1.1, none⟩ _ _ (by dsimp only; omega)⟩, HI.out.put x (by omega) (by omega)⟩
  case done =>
    rintro D ys W hD hys hI hK
    subst hys
    have HI := Lib.hid hI
    have HK := Lib.hid hK
    have hND := hI.1.1
    clear hI hK
    obtain ⟨o0, o1, o2, o3, o4⟩ := HO.out
    have c0 : W.cell? ⟨q, 0, none⟩ = some (.int .u64 (numZ z 4 4 : Nat)) := by rw [← o0]; exact (hND 0 (by decide)).1
    have w0 := w32n (numZ_lt z hz 4 4)
    have c1 : W.cell? ⟨q, 1, none⟩ = some (.int .u64 (numZ z 24 8 : Nat)) := by rw [← o1]; exact (hND 1 (by decide)).1
    have c2 : W.cell? ⟨q, 2, none⟩ = some (.int .u64 (numZ z 32 8 : Nat)) := by rw [← o2]; exact (hND 2 (by decide)).1
    have c3 : W.cell? ⟨q, 3, none⟩ = some (.int .u64 (numZ z 40 4 : Nat)) := by rw [← o3]; exact (hND 3 (by decide)).1
    have w3 := w32n (numZ_lt z hz 40 4)
    have c4 : W.cell? ⟨q, 4, none⟩ = some (.int .u64 (numZ z 56 8 : Nat)) := by rw [← o4]; exact (hND 4 (by decide)).1
    have r0 := cell_at (i := 0) (v := .int .u32 0) HI.out.1.2 rfl
    have f0 := frozen_at HI.out.1.2 0
    have r1 := cell_at (i := 1) (v := .int .u64 0) HI.out.1.2 rfl
    have f1 := frozen_at HI.out.1.2 1
    have r2 := cell_at (i := 2) (v := .int .u64 0) HI.out.1.2 rfl
    have f2 := frozen_at HI.out.1.2 2
    have r3 := cell_at (i := 3) (v := .int .u32 0) HI.out.1.2 rfl
    have f3 := frozen_at HI.out.1.2 3
    have r4 := cell_at (i := 4) (v := .int .u64 0) HI.out.1.2 rfl
    have f4 := frozen_at HI.out.1.2 4
    have h0 := set_at (i := 0) (v := .int .u32 (numZ z 4 4 : Nat)) HI.out.1.2
    have h1 := set_at (i := 1) (v := .int .u64 (numZ z 24 8 : Nat)) h0
    have h2 := set_at (i := 2) (v := .int .u64 (numZ z 32 8 : Nat)) h1
    have h3 := set_at (i := 3) (v := .int .u32 (numZ z 40 4 : Nat)) h2
    have h4 := set_at (i := 4) (v := .int .u64 (numZ z 56 8 : Nat)) h3
    have HR := Lib.hid (show _ = some (Obj.cells #[.int .u32 (numZ z 4 4 : Nat), .int .u64 (numZ z 24 8 : Nat), .int .u64 (numZ z 32 8 : Nat), .int .u32 (numZ z 40 4 : Nat), .int .u64 (numZ z 56 8 : Nat)] 32 (0, 0)) from h4)
    clear h4 h3 h2 h1 h0
    clear o0 o1 o2 o3 o4 hND
    have HBK := Lib.hid (keep_set (i := 4) (v := .int .u64 (numZ z 56 8 : Nat)) (keep_set (i := 3) (v := .int .u32 (numZ z 40 4 : Nat)) (keep_set (i := 2) (v := .int .u64 (numZ z 32 8 : Nat)) (keep_set (i := 1) (v := .int .u64 (numZ z 24 8 : Nat)) (keep_set (i := 0) (v := .int .u32 (numZ z 4 4 : Nat)) (And.intro HI.out.2 HK.out) (Nat.le_refl _) (show D ≠ w.heap.size from by omega)) (Nat.le_refl _) (show D ≠ w.heap.size from by omega)) (Nat.le_refl _) (show D ≠ w.heap.size from by omega)) (Nat.le_refl _) (show D ≠ w.heap.size from by omega)) (Nat.le_refl _) (show D ≠ w.heap.size from by omega))
    go_wp2_with fail
    generalize World.setCell (World.setCell (World.setCell (World.setCell (World.setCell W _ _) _ _) _ _) _ _) _ _ = W9 at HR HBK ⊢
    refine ⟨by simp, .inl ⟨_, _, rfl, run_takeDeferred HBK.out.2, ?_⟩⟩
    exact ⟨_, res22 rfl rfl ((World.putObj_heap_other (show w.heap.size ≠ D by omega)).trans HR.out), rfl, HBK.out.1.trans (belowK_b (w := w) (Nat.le_refl _) W9 D _ _ (by omega) HBK.out.2 rfl rfl)⟩
  case stop =>
    rintro D c pre W _ _ h _
    exact h.elim
end Go.Proofs.YtnaggdhophncaaaDoor
