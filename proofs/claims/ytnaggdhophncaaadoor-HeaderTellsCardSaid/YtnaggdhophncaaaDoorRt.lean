/- The reference's at, TakeSegment, TakeSection; and too few bytes. -/
import Derived.Test.YtnaggdhophncaaaDoorTl
namespace Go.Proofs.YtnaggdhophncaaaDoor
open Go.RowKit Go.Shelf
set_option linter.unusedVariables false
set_option linter.unusedSimpArgs false
attribute [local go_sem] Oper.semAt_some
set_option maxRecDepth 100000 in
set_option maxHeartbeats 2000000 in
theorem rat_any (ad : Option Addr) (len cap : Nat) (z : Nat → Nat) (hz : ∀ j, z j < 256) (o s : Nat) (h1 : 1 ≤ s) (h8 : s ≤ 8) (ho : o + s ≤ len) (hl : len ≤ cap) (hm : cap ≤ 9223372036854775807) (w : World) (h : BS w ad len z) :
    Calls Tryd.prog 29 #[.slice ad len cap, .int .i64 (o : Nat), .int .i64 (s : Nat)] w fun e w' => e = .returned (.int .u64 (numZ z o s : Nat)) ∧ w' = w := by
  obtain ⟨b, off, rfl, hc⟩ := h (by omega)
  have HN := Lib.hid (rnumber_any b (off + o) s (cap - o) (fun j => z (o + j)) (fun j => hz _) w (fun j hj => by rw [Nat.add_assoc]; exact hc (o + j) (by omega)) (by omega))
  rw [Nat.min_eq_left h8] at HN
  have hw : IntKind.i64.wrap ((o : Int) + (s : Int)) = (o : Int) + (s : Int) := IntWalk.i64_in _ (by omega)
  have ht : ((o : Int) + (s : Int)).toNat = o + s := by omega
  have hi0 : 0 ≤ (o : Int) + (s : Int) := by omega
  have hi1 : (o : Int) + (s : Int) ≤ (cap : Int) := by omega
  have hne : ¬ cap = o := by omega
  clear h hc
  go_enter Tryd.func29, Tryd.ntmps29
  go_wp2_with (first | (go_at_call 35; refine HN.out.mono ?_) | fail)
  rintro e W1 ⟨rfl, rfl⟩
  go_wp2_with fail
  go_ret
  exact ⟨rfl, rfl⟩
theorem res21 {W : World} {b : Nat} {tm : Array Value} {v0 v1 v2 v3 v4 v5 v6 : Int} (hp : tm.getD 2 undef = .pointer (some ⟨b, 0, none⟩)) (hr : tm.getD 3 undef = .int .i64 0) (h : W.heap[b]? = some (.cells #[.int .u32 v0, .int .u32 v1, .int .u64 v2, .int .u64 v3, .int .u64 v4, .int .u64 v5, .int .u64 v6] 30 (0, 0))) : (results Tryd.f21 tm).run Tryd.prog W = .ok (.tuple #[.agg #[.int .u32 v0, .int .u32 v1, .int .u64 v2, .int .u64 v3, .int .u64 v4, .int .u64 v5, .int .u64 v6], .int .i64 0]) W := by
  have c0 := cell_at (i := 0) (v := .int .u32 v0) h rfl
  have c1 := cell_at (i := 1) (v := .int .u32 v1) h rfl
  have c2 := cell_at (i := 2) (v := .int .u64 v2) h rfl
  have c3 := cell_at (i := 3) (v := .int .u64 v3) h rfl
  have c4 := cell_at (i := 4) (v := .int .u64 v4) h rfl
  have c5 := cell_at (i := 5) (v := .int .u64 v5) h rfl
  have c6 := cell_at (i := 6) (v := .int .u64 v6) h rfl
  rw [results_cell_tmp (fn := Tryd.f21) (p := 2) (u := 3) (ty := 30) rfl, hp, hr]
  go_simp
theorem res23 {W : World} {b : Nat} {tm : Array Value} {v0 v1 v2 v3 v4 : Int} (hp : tm.getD 2 undef = .pointer (some ⟨b, 0, none⟩)) (hr : tm.getD 3 undef = .int .i64 0) (h : W.heap[b]? = some (.cells #[.int .u32 v0, .int .u64 v1, .int .u64 v2, .int .u32 v3, .int .u64 v4] 32 (0, 0))) : (results Tryd.f23 tm).run Tryd.prog W = .ok (.tuple #[.agg #[.int .u32 v0, .int .u64 v1, .int .u64 v2, .int .u32 v3, .int .u64 v4], .int .i64 0]) W := by
  have c0 := cell_at (i := 0) (v := .int .u32 v0) h rfl
  have c1 := cell_at (i := 1) (v := .int .u64 v1) h rfl
  have c2 := cell_at (i := 2) (v := .int .u64 v2) h rfl
  have c3 := cell_at (i := 3) (v := .int .u32 v3) h rfl
  have c4 := cell_at (i := 4) (v := .int .u64 v4) h rfl
  rw [results_cell_tmp (fn := Tryd.f23) (p := 2) (u := 3) (ty := 32) rfl, hp, hr]
  go_simp
set_option maxRecDepth 100000 in
set_option maxHeartbeats 8000000 in
theorem rtake_seg (ad : Option Addr) (len cap : Nat) (z : Nat → Nat) (hz : ∀ j, z j < 256) (hn : 56 ≤ len) (hl : len ≤ cap) (hm : cap ≤ 9223372036854775807) (w : World) (h : BS w ad len z) :
    Calls Tryd.prog 21 #[.slice ad len cap] w fun e w' => e = .returned (.tuple #[.agg #[.int .u32 (numZ z 0 4 : Nat), .int .u32 (numZ z 4 4 : Nat), .int .u64 (numZ z 8 8 : Nat), .int .u64 (numZ z 16 8 : Nat), .int .u64 (numZ z 32 8 : Nat), .int .u64 (numZ z 40 8 : Nat), .int .u64 (numZ z 48 8 : Nat)], .int .i64 0]) ∧ Below w.heap.size w w' := by
  have hb0 : Below w.heap.size w (w.alloc (.cells #[.int .u32 0, .int .u32 0, .int .u64 0, .int .u64 0, .int .u64 0, .int .u64 0, .int .u64 0] 30)) := (Below.refl _ w).alloc (Nat.le_refl _) _
  have HS := Lib.hid (And.intro (heap_alloc_last w (.cells #[.int .u32 0, .int .u32 0, .int .u64 0, .int .u64 0, .int .u64 0, .int .u64 0, .int .u64 0] 30)) (And.intro (h.keep hb0) hb0))
  have hln : ¬ (len : Int) < 56 := by omega
  clear h hb0
  generalize hB : w.heap.size = B at HS ⊢
  go_enter Tryd.func21, Tryd.ntmps21
  go_upto_region 1 with fail
  generalize World.alloc w _ = W at HS ⊢
  have w0 := w32n (numZ_lt z hz 0 4)
  have w1 := w32n (numZ_lt z hz 4 4)
  go_wp2_with fail
  go_at_call 29
  refine (rat_any ad len cap z hz 0 4 (by decide) (by decide) (by omega) hl hm W HS.out.2.1).mono ?_
  rintro e W9 ⟨rfl, h9⟩
  rw [h9]
  clear h9
  go_wp2_with fail
  go_at_call 29
  refine (rat_any ad len cap z hz 4 4 (by decide) (by decide) (by omega) hl hm W HS.out.2.1).mono ?_
  rintro e W9 ⟨rfl, h9⟩
  rw [h9]
  clear h9
  go_wp2_with fail
  go_at_call 29
  refine (rat_any ad len cap z hz 8 8 (by decide) (by decide) (by omega) hl hm W HS.out.2.1).mono ?_
  rintro e W9 ⟨rfl, h9⟩
  rw [h9]
  clear h9
  go_wp2_with fail
  go_at_call 29
  refine (rat_any ad len cap z hz 16 8 (by decide) (by decide) (by omega) hl hm W HS.out.2.1).mono ?_
  rintro e W9 ⟨rfl, h9⟩
  rw [h9]
  clear h9
  go_wp2_with fail
  go_at_call 29
  refine (rat_any ad len cap z hz 32 8 (by decide) (by decide) (by omega) hl hm W HS.out.2.1).mono ?_
  rintro e W9 ⟨rfl, h9⟩
  rw [h9]
  clear h9
  go_wp2_with fail
  go_at_call 29
  refine (rat_any ad len cap z hz 40 8 (by decide) (by decide) (by omega) hl hm W HS.out.2.1).mono ?_
  rintro e W9 ⟨rfl, h9⟩
  rw [h9]
  clear h9
  go_wp2_with fail
  go_at_call 29
  refine (rat_any ad len cap z hz 48 8 (by decide) (by decide) (by omega) hl hm W HS.out.2.1).mono ?_
  rintro e W9 ⟨rfl, h9⟩
  rw [h9]
  clear h9
  have r0 := cell_at (i := 0) (v := .int .u32 0) HS.out.1 rfl
  have f0 := frozen_at HS.out.1 0
  have r1 := cell_at (i := 1) (v := .int .u32 0) HS.out.1 rfl
  have f1 := frozen_at HS.out.1 1
  have r2 := cell_at (i := 2) (v := .int .u64 0) HS.out.1 rfl
  have f2 := frozen_at HS.out.1 2
  have r3 := cell_at (i := 3) (v := .int .u64 0) HS.out.1 rfl
  have f3 := frozen_at HS.out.1 3
  have r4 := cell_at (i := 4) (v := .int .u64 0) HS.out.1 rfl
  have f4 := frozen_at HS.out.1 4
  have r5 := cell_at (i := 5) (v := .int .u64 0) HS.out.1 rfl
  have f5 := frozen_at HS.out.1 5
  have r6 := cell_at (i := 6) (v := .int .u64 0) HS.out.1 rfl
  have f6 := frozen_at HS.out.1 6
  have h0 := set_at (i := 0) (v := .int .u32 (numZ z 0 4 : Nat)) HS.out.1
  have h1 := set_at (i := 1) (v := .int .u32 (numZ z 4 4 : Nat)) h0
  have h2 := set_at (i := 2) (v := .int .u64 (numZ z 8 8 : Nat)) h1
  have h3 := set_at (i := 3) (v := .int .u64 (numZ z 16 8 : Nat)) h2
  have h4 := set_at (i := 4) (v := .int .u64 (numZ z 32 8 : Nat)) h3
  have h5 := set_at (i := 5) (v := .int .u64 (numZ z 40 8 : Nat)) h4
  have h6 := set_at (i := 6) (v := .int .u64 (numZ z 48 8 : Nat)) h5
  have HR := Lib.hid (show _ = some (Obj.cells #[.int .u32 (numZ z 0 4 : Nat), .int .u32 (numZ z 4 4 : Nat), .int .u64 (numZ z 8 8 : Nat), .int .u64 (numZ z 16 8 : Nat), .int .u64 (numZ z 32 8 : Nat), .int .u64 (numZ z 40 8 : Nat), .int .u64 (numZ z 48 8 : Nat)] 30 (0, 0)) from h6)
  clear h6 h5 h4 h3 h2 h1 h0
  have HB9 := Lib.hid (Below.setCell (p := ⟨B, 6, none⟩) (Below.setCell (p := ⟨B, 5, none⟩) (Below.setCell (p := ⟨B, 4, none⟩) (Below.setCell (p := ⟨B, 3, none⟩) (Below.setCell (p := ⟨B, 2, none⟩) (Below.setCell (p := ⟨B, 1, none⟩) (Below.setCell (p := ⟨B, 0, none⟩) HS.out.2.2 (Nat.le_refl _) (.int .u32 (numZ z 0 4 : Nat))) (Nat.le_refl _) (.int .u32 (numZ z 4 4 : Nat))) (Nat.le_refl _) (.int .u64 (numZ z 8 8 : Nat))) (Nat.le_refl _) (.int .u64 (numZ z 16 8 : Nat))) (Nat.le_refl _) (.int .u64 (numZ z 32 8 : Nat))) (Nat.le_refl _) (.int .u64 (numZ z 40 8 : Nat))) (Nat.le_refl _) (.int .u64 (numZ z 48 8 : Nat)))
  go_wp2_with fail
  generalize World.setCell (World.setCell (World.setCell (World.setCell (World.setCell (World.setCell (World.setCell W _ _) _ _) _ _) _ _) _ _) _ _) _ _ = W9 at HR HB9 ⊢
  exact bodyPost_ret (res21 rfl rfl HR.out) rfl ⟨rfl, HB9.out⟩
set_option maxRecDepth 100000 in
set_option maxHeartbeats 8000000 in
theorem rtake_sec (ad : Option Addr) (len cap : Nat) (z : Nat → Nat) (hz : ∀ j, z j < 256) (hn : 64 ≤ len) (hl : len ≤ cap) (hm : cap ≤ 9223372036854775807) (w : World) (h : BS w ad len z) :
    Calls Tryd.prog 23 #[.slice ad len cap] w fun e w' => e = .returned (.tuple #[.agg #[.int .u32 (numZ z 4 4 : Nat), .int .u64 (numZ z 24 8 : Nat), .int .u64 (numZ z 32 8 : Nat), .int .u32 (numZ z 40 4 : Nat), .int .u64 (numZ z 56 8 : Nat)], .int .i64 0]) ∧ Below w.heap.size w w' := by
  have hb0 : Below w.heap.size w (w.alloc (.cells #[.int .u32 0, .int .u64 0, .int .u64 0, .int .u32 0, .int .u64 0] 32)) := (Below.refl _ w).alloc (Nat.le_refl _) _
  have HS := Lib.hid (And.intro (heap_alloc_last w (.cells #[.int .u32 0, .int .u64 0, .int .u64 0, .int .u32 0, .int .u64 0] 32)) (And.intro (h.keep hb0) hb0))
  have hln : ¬ (len : Int) < 64 := by omega
  clear h hb0
  generalize hB : w.heap.size = B at HS ⊢
  go_enter Tryd.func23, Tryd.ntmps23
  go_upto_region 1 with fail
  generalize World.alloc w _ = W at HS ⊢
  have w0 := w32n (numZ_lt z hz 4 4)
  have w3 := w32n (numZ_lt z hz 40 4)
  go_wp2_with fail
  go_at_call 29
  refine (rat_any ad len cap z hz 4 4 (by decide) (by decide) (by omega) hl hm W HS.out.2.1).mono ?_
  rintro e W9 ⟨rfl, h9⟩
  rw [h9]
  clear h9
  go_wp2_with fail
  go_at_call 29
  refine (rat_any ad len cap z hz 24 8 (by decide) (by decide) (by omega) hl hm W HS.out.2.1).mono ?_
  rintro e W9 ⟨rfl, h9⟩
  rw [h9]
  clear h9
  go_wp2_with fail
  go_at_call 29
  refine (rat_any ad len cap z hz 32 8 (by decide) (by decide) (by omega) hl hm W HS.out.2.1).mono ?_
  rintro e W9 ⟨rfl, h9⟩
  rw [h9]
  clear h9
  go_wp2_with fail
  go_at_call 29
  refine (rat_any ad len cap z hz 40 4 (by decide) (by decide) (by omega) hl hm W HS.out.2.1).mono ?_
  rintro e W9 ⟨rfl, h9⟩
  rw [h9]
  clear h9
  go_wp2_with fail
  go_at_call 29
  refine (rat_any ad len cap z hz 56 8 (by decide) (by decide) (by omega) hl hm W HS.out.2.1).mono ?_
  rintro e W9 ⟨rfl, h9⟩
  rw [h9]
  clear h9
  have r0 := cell_at (i := 0) (v := .int .u32 0) HS.out.1 rfl
  have f0 := frozen_at HS.out.1 0
  have r1 := cell_at (i := 1) (v := .int .u64 0) HS.out.1 rfl
  have f1 := frozen_at HS.out.1 1
  have r2 := cell_at (i := 2) (v := .int .u64 0) HS.out.1 rfl
  have f2 := frozen_at HS.out.1 2
  have r3 := cell_at (i := 3) (v := .int .u32 0) HS.out.1 rfl
  have f3 := frozen_at HS.out.1 3
  have r4 := cell_at (i := 4) (v := .int .u64 0) HS.out.1 rfl
  have f4 := frozen_at HS.out.1 4
  have h0 := set_at (i := 0) (v := .int .u32 (numZ z 4 4 : Nat)) HS.out.1
  have h1 := set_at (i := 1) (v := .int .u64 (numZ z 24 8 : Nat)) h0
  have h2 := set_at (i := 2) (v := .int .u64 (numZ z 32 8 : Nat)) h1
  have h3 := set_at (i := 3) (v := .int .u32 (numZ z 40 4 : Nat)) h2
  have h4 := set_at (i := 4) (v := .int .u64 (numZ z 56 8 : Nat)) h3
  have HR := Lib.hid (show _ = some (Obj.cells #[.int .u32 (numZ z 4 4 : Nat), .int .u64 (numZ z 24 8 : Nat), .int .u64 (numZ z 32 8 : Nat), .int .u32 (numZ z 40 4 : Nat), .int .u64 (numZ z 56 8 : Nat)] 32 (0, 0)) from h4)
  clear h4 h3 h2 h1 h0
  have HB9 := Lib.hid (Below.setCell (p := ⟨B, 4, none⟩) (Below.setCell (p := ⟨B, 3, none⟩) (Below.setCell (p := ⟨B, 2, none⟩) (Below.setCell (p := ⟨B, 1, none⟩) (Below.setCell (p := ⟨B, 0, none⟩) HS.out.2.2 (Nat.le_refl _) (.int .u32 (numZ z 4 4 : Nat))) (Nat.le_refl _) (.int .u64 (numZ z 24 8 : Nat))) (Nat.le_refl _) (.int .u64 (numZ z 32 8 : Nat))) (Nat.le_refl _) (.int .u32 (numZ z 40 4 : Nat))) (Nat.le_refl _) (.int .u64 (numZ z 56 8 : Nat)))
  go_wp2_with fail
  generalize World.setCell (World.setCell (World.setCell (World.setCell (World.setCell W _ _) _ _) _ _) _ _) _ _ = W9 at HR HB9 ⊢
  exact bodyPost_ret (res23 rfl rfl HR.out) rfl ⟨rfl, HB9.out⟩
end Go.Proofs.YtnaggdhophncaaaDoor
