/- Too few bytes to take a segment or a section. -/
import Derived.Test.YtnaggdhophncaaaDoorRt
namespace Go.Proofs.YtnaggdhophncaaaDoor
open Go.RowKit Go.Shelf
set_option linter.unusedVariables false
set_option linter.unusedSimpArgs false
attribute [local go_sem] Oper.semAt_some
theorem res20S {W : World} {b : Nat} {tm : Array Value} {v0 v1 v2 v3 v4 v5 v6 : Int} (hp : tm.getD 2 undef = .pointer (some ⟨b, 0, none⟩)) (hr : tm.getD 3 undef = .int .i64 30) (h : W.heap[b]? = some (.cells #[.int .u32 v0, .int .u32 v1, .int .u64 v2, .int .u64 v3, .int .u64 v4, .int .u64 v5, .int .u64 v6] 30 (0, 0))) : (results Tryd.f20 tm).run Tryd.prog W = .ok (.tuple #[.agg #[.int .u32 v0, .int .u32 v1, .int .u64 v2, .int .u64 v3, .int .u64 v4, .int .u64 v5, .int .u64 v6], .int .i64 30]) W := by
  have c0 := cell_at (i := 0) (v := .int .u32 v0) h rfl
  have c1 := cell_at (i := 1) (v := .int .u32 v1) h rfl
  have c2 := cell_at (i := 2) (v := .int .u64 v2) h rfl
  have c3 := cell_at (i := 3) (v := .int .u64 v3) h rfl
  have c4 := cell_at (i := 4) (v := .int .u64 v4) h rfl
  have c5 := cell_at (i := 5) (v := .int .u64 v5) h rfl
  have c6 := cell_at (i := 6) (v := .int .u64 v6) h rfl
  rw [results_cell_tmp (fn := Tryd.f20) (p := 2) (u := 3) (ty := 30) rfl, hp, hr]
  go_simp
theorem res22S {W : World} {b : Nat} {tm : Array Value} {v0 v1 v2 v3 v4 : Int} (hp : tm.getD 2 undef = .pointer (some ⟨b, 0, none⟩)) (hr : tm.getD 3 undef = .int .i64 30) (h : W.heap[b]? = some (.cells #[.int .u32 v0, .int .u64 v1, .int .u64 v2, .int .u32 v3, .int .u64 v4] 32 (0, 0))) : (results Tryd.f22 tm).run Tryd.prog W = .ok (.tuple #[.agg #[.int .u32 v0, .int .u64 v1, .int .u64 v2, .int .u32 v3, .int .u64 v4], .int .i64 30]) W := by
  have c0 := cell_at (i := 0) (v := .int .u32 v0) h rfl
  have c1 := cell_at (i := 1) (v := .int .u64 v1) h rfl
  have c2 := cell_at (i := 2) (v := .int .u64 v2) h rfl
  have c3 := cell_at (i := 3) (v := .int .u32 v3) h rfl
  have c4 := cell_at (i := 4) (v := .int .u64 v4) h rfl
  rw [results_cell_tmp (fn := Tryd.f22) (p := 2) (u := 3) (ty := 32) rfl, hp, hr]
  go_simp
theorem res21S {W : World} {b : Nat} {tm : Array Value} {v0 v1 v2 v3 v4 v5 v6 : Int} (hp : tm.getD 2 undef = .pointer (some ⟨b, 0, none⟩)) (hr : tm.getD 3 undef = .int .i64 30) (h : W.heap[b]? = some (.cells #[.int .u32 v0, .int .u32 v1, .int .u64 v2, .int .u64 v3, .int .u64 v4, .int .u64 v5, .int .u64 v6] 30 (0, 0))) : (results Tryd.f21 tm).run Tryd.prog W = .ok (.tuple #[.agg #[.int .u32 v0, .int .u32 v1, .int .u64 v2, .int .u64 v3, .int .u64 v4, .int .u64 v5, .int .u64 v6], .int .i64 30]) W := by
  have c0 := cell_at (i := 0) (v := .int .u32 v0) h rfl
  have c1 := cell_at (i := 1) (v := .int .u32 v1) h rfl
  have c2 := cell_at (i := 2) (v := .int .u64 v2) h rfl
  have c3 := cell_at (i := 3) (v := .int .u64 v3) h rfl
  have c4 := cell_at (i := 4) (v := .int .u64 v4) h rfl
  have c5 := cell_at (i := 5) (v := .int .u64 v5) h rfl
  have c6 := cell_at (i := 6) (v := .int .u64 v6) h rfl
  rw [results_cell_tmp (fn := Tryd.f21) (p := 2) (u := 3) (ty := 30) rfl, hp, hr]
  go_simp
theorem res23S {W : World} {b : Nat} {tm : Array Value} {v0 v1 v2 v3 v4 : Int} (hp : tm.getD 2 undef = .pointer (some ⟨b, 0, none⟩)) (hr : tm.getD 3 undef = .int .i64 30) (h : W.heap[b]? = some (.cells #[.int .u32 v0, .int .u64 v1, .int .u64 v2, .int .u32 v3, .int .u64 v4] 32 (0, 0))) : (results Tryd.f23 tm).run Tryd.prog W = .ok (.tuple #[.agg #[.int .u32 v0, .int .u64 v1, .int .u64 v2, .int .u32 v3, .int .u64 v4], .int .i64 30]) W := by
  have c0 := cell_at (i := 0) (v := .int .u32 v0) h rfl
  have c1 := cell_at (i := 1) (v := .int .u64 v1) h rfl
  have c2 := cell_at (i := 2) (v := .int .u64 v2) h rfl
  have c3 := cell_at (i := 3) (v := .int .u32 v3) h rfl
  have c4 := cell_at (i := 4) (v := .int .u64 v4) h rfl
  rw [results_cell_tmp (fn := Tryd.f23) (p := 2) (u := 3) (ty := 32) rfl, hp, hr]
  go_simp
set_option maxRecDepth 100000 in
set_option maxHeartbeats 4000000 in
theorem short_seg20 (ad : Option Addr) (len cap : Nat) (hn : len < 56) (w : World) :
    Calls Tryd.prog 20 #[.slice ad len cap] w fun e w' => e = .returned (.tuple #[.agg #[.int .u32 0, .int .u32 0, .int .u64 0, .int .u64 0, .int .u64 0, .int .u64 0, .int .u64 0], .int .i64 30]) ∧ Below w.heap.size w w' := by
  have hb0 : Below w.heap.size w (w.alloc (.cells #[.int .u32 0, .int .u32 0, .int .u64 0, .int .u64 0, .int .u64 0, .int .u64 0, .int .u64 0] 30)) := (Below.refl _ w).alloc (Nat.le_refl _) _
  have HS := Lib.hid (And.intro (heap_alloc_last w (.cells #[.int .u32 0, .int .u32 0, .int .u64 0, .int .u64 0, .int .u64 0, .int .u64 0, .int .u64 0] 30)) hb0)
  have hln : (len : Int) < 56 := by omega
  clear hb0
  generalize hB : w.heap.size = B at HS ⊢
  go_enter Tryd.func20, Tryd.ntmps20
  go_upto_region 1 with fail
  generalize World.alloc w _ = W at HS ⊢
  have r0 := cell_at (i := 0) (v := .int .u32 0) HS.out.1 rfl
  have f0 := frozen_at HS.out.1 0
  have r1 := cell_at (i := 1) (v := .int .u32 0) HS.out.1 rfl
  have f1 := frozen_at HS.out.1 1
  have r2 := cell_at (i := 2) (v := .int .u64 0) HS.out.1 rfl
  have f2 := frozen_at HS.out.1 2
  have r3 := cell_at (i := 3) (v := .int .u64 0) HS.out.1 rfl
  have f3 := frozen_at HS.out.1 3
  have r4 := cell_at (i := 4) (v := .int .u64 0) HS.out.1 rfl
  have f4 := frozen_at HS.out.1 4
  have r5 := cell_at (i := 5) (v := .int .u64 0) HS.out.1 rfl
  have f5 := frozen_at HS.out.1 5
  have r6 := cell_at (i := 6) (v := .int .u64 0) HS.out.1 rfl
  have f6 := frozen_at HS.out.1 6
  have h0 := set_at (i := 0) (v := .int .u32 0) HS.out.1
  have h1 := set_at (i := 1) (v := .int .u32 0) h0
  have h2 := set_at (i := 2) (v := .int .u64 0) h1
  have h3 := set_at (i := 3) (v := .int .u64 0) h2
  have h4 := set_at (i := 4) (v := .int .u64 0) h3
  have h5 := set_at (i := 5) (v := .int .u64 0) h4
  have h6 := set_at (i := 6) (v := .int .u64 0) h5
  have HR := Lib.hid (show _ = some (Obj.cells #[.int .u32 0, .int .u32 0, .int .u64 0, .int .u64 0, .int .u64 0, .int .u64 0, .int .u64 0] 30 (0, 0)) from h6)
  clear h6 h5 h4 h3 h2 h1 h0
  have HB9 := Lib.hid (Below.setCell (p := ⟨B, 6, none⟩) (Below.setCell (p := ⟨B, 5, none⟩) (Below.setCell (p := ⟨B, 4, none⟩) (Below.setCell (p := ⟨B, 3, none⟩) (Below.setCell (p := ⟨B, 2, none⟩) (Below.setCell (p := ⟨B, 1, none⟩) (Below.setCell (p := ⟨B, 0, none⟩) HS.out.2 (Nat.le_refl _) (.int .u32 0)) (Nat.le_refl _) (.int .u32 0)) (Nat.le_refl _) (.int .u64 0)) (Nat.le_refl _) (.int .u64 0)) (Nat.le_refl _) (.int .u64 0)) (Nat.le_refl _) (.int .u64 0)) (Nat.le_refl _) (.int .u64 0))
  go_wp2_with fail
  generalize World.setCell (World.setCell (World.setCell (World.setCell (World.setCell (World.setCell (World.setCell W _ _) _ _) _ _) _ _) _ _) _ _) _ _ = W9 at HR HB9 ⊢
  exact bodyPost_ret (res20S rfl rfl HR.out) rfl ⟨rfl, HB9.out⟩
set_option maxRecDepth 100000 in
set_option maxHeartbeats 4000000 in
theorem short_sec22 (ad : Option Addr) (len cap : Nat) (hn : len < 64) (w : World) :
    Calls Tryd.prog 22 #[.slice ad len cap] w fun e w' => e = .returned (.tuple #[.agg #[.int .u32 0, .int .u64 0, .int .u64 0, .int .u32 0, .int .u64 0], .int .i64 30]) ∧ Below w.heap.size w w' := by
  have hb0 : Below w.heap.size w (w.alloc (.cells #[.int .u32 0, .int .u64 0, .int .u64 0, .int .u32 0, .int .u64 0] 32)) := (Below.refl _ w).alloc (Nat.le_refl _) _
  have HS := Lib.hid (And.intro (heap_alloc_last w (.cells #[.int .u32 0, .int .u64 0, .int .u64 0, .int .u32 0, .int .u64 0] 32)) hb0)
  have hln : (len : Int) < 64 := by omega
  clear hb0
  generalize hB : w.heap.size = B at HS ⊢
  go_enter Tryd.func22, Tryd.ntmps22
  go_upto_region 1 with fail
  generalize World.alloc w _ = W at HS ⊢
  have r0 := cell_at (i := 0) (v := .int .u32 0) HS.out.1 rfl
  have f0 := frozen_at HS.out.1 0
  have r1 := cell_at (i := 1) (v := .int .u64 0) HS.out.1 rfl
  have f1 := frozen_at HS.out.1 1
  have r2 := cell_at (i := 2) (v := .int .u64 0) HS.out.1 rfl
  have f2 := frozen_at HS.out.1 2
  have r3 := cell_at (i := 3) (v := .int .u32 0) HS.out.1 rfl
  have f3 := frozen_at HS.out.1 3
  have r4 := cell_at (i := 4) (v := .int .u64 0) HS.out.1 rfl
  have f4 := frozen_at HS.out.1 4
  have h0 := set_at (i := 0) (v := .int .u32 0) HS.out.1
  have h1 := set_at (i := 1) (v := .int .u64 0) h0
  have h2 := set_at (i := 2) (v := .int .u64 0) h1
  have h3 := set_at (i := 3) (v := .int .u32 0) h2
  have h4 := set_at (i := 4) (v := .int .u64 0) h3
  have HR := Lib.hid (show _ = some (Obj.cells #[.int .u32 0, .int .u64 0, .int .u64 0, .int .u32 0, .int .u64 0] 32 (0, 0)) from h4)
  clear h4 h3 h2 h1 h0
  have HB9 := Lib.hid (Below.setCell (p := ⟨B, 4, none⟩) (Below.setCell (p := ⟨B, 3, none⟩) (Below.setCell (p := ⟨B, 2, none⟩) (Below.setCell (p := ⟨B, 1, none⟩) (Below.setCell (p := ⟨B, 0, none⟩) HS.out.2 (Nat.le_refl _) (.int .u32 0)) (Nat.le_refl _) (.int .u64 0)) (Nat.le_refl _) (.int .u64 0)) (Nat.le_refl _) (.int .u32 0)) (Nat.le_refl _) (.int .u64 0))
  go_wp2_with fail
  generalize World.setCell (World.setCell (World.setCell (World.setCell (World.setCell W _ _) _ _) _ _) _ _) _ _ = W9 at HR HB9 ⊢
  exact bodyPost_ret (res22S rfl rfl HR.out) rfl ⟨rfl, HB9.out⟩
set_option maxRecDepth 100000 in
set_option maxHeartbeats 4000000 in
theorem short_seg21 (ad : Option Addr) (len cap : Nat) (hn : len < 56) (w : World) :
    Calls Tryd.prog 21 #[.slice ad len cap] w fun e w' => e = .returned (.tuple #[.agg #[.int .u32 0, .int .u32 0, .int .u64 0, .int .u64 0, .int .u64 0, .int .u64 0, .int .u64 0], .int .i64 30]) ∧ Below w.heap.size w w' := by
  have hb0 : Below w.heap.size w (w.alloc (.cells #[.int .u32 0, .int .u32 0, .int .u64 0, .int .u64 0, .int .u64 0, .int .u64 0, .int .u64 0] 30)) := (Below.refl _ w).alloc (Nat.le_refl _) _
  have HS := Lib.hid (And.intro (heap_alloc_last w (.cells #[.int .u32 0, .int .u32 0, .int .u64 0, .int .u64 0, .int .u64 0, .int .u64 0, .int .u64 0] 30)) hb0)
  have hln : (len : Int) < 56 := by omega
  clear hb0
  generalize hB : w.heap.size = B at HS ⊢
  go_enter Tryd.func21, Tryd.ntmps21
  go_upto_region 1 with fail
  generalize World.alloc w _ = W at HS ⊢
  have r0 := cell_at (i := 0) (v := .int .u32 0) HS.out.1 rfl
  have f0 := frozen_at HS.out.1 0
  have r1 := cell_at (i := 1) (v := .int .u32 0) HS.out.1 rfl
  have f1 := frozen_at HS.out.1 1
  have r2 := cell_at (i := 2) (v := .int .u64 0) HS.out.1 rfl
  have f2 := frozen_at HS.out.1 2
  have r3 := cell_at (i := 3) (v := .int .u64 0) HS.out.1 rfl
  have f3 := frozen_at HS.out.1 3
  have r4 := cell_at (i := 4) (v := .int .u64 0) HS.out.1 rfl
  have f4 := frozen_at HS.out.1 4
  have r5 := cell_at (i := 5) (v := .int .u64 0) HS.out.1 rfl
  have f5 := frozen_at HS.out.1 5
  have r6 := cell_at (i := 6) (v := .int .u64 0) HS.out.1 rfl
  have f6 := frozen_at HS.out.1 6
  have h0 := set_at (i := 0) (v := .int .u32 0) HS.out.1
  have h1 := set_at (i := 1) (v := .int .u32 0) h0
  have h2 := set_at (i := 2) (v := .int .u64 0) h1
  have h3 := set_at (i := 3) (v := .int .u64 0) h2
  have h4 := set_at (i := 4) (v := .int .u64 0) h3
  have h5 := set_at (i := 5) (v := .int .u64 0) h4
  have h6 := set_at (i := 6) (v := .int .u64 0) h5
  have HR := Lib.hid (show _ = some (Obj.cells #[.int .u32 0, .int .u32 0, .int .u64 0, .int .u64 0, .int .u64 0, .int .u64 0, .int .u64 0] 30 (0, 0)) from h6)
  clear h6 h5 h4 h3 h2 h1 h0
  have HB9 := Lib.hid (Below.setCell (p := ⟨B, 6, none⟩) (Below.setCell (p := ⟨B, 5, none⟩) (Below.setCell (p := ⟨B, 4, none⟩) (Below.setCell (p := ⟨B, 3, none⟩) (Below.setCell (p := ⟨B, 2, none⟩) (Below.setCell (p := ⟨B, 1, none⟩) (Below.setCell (p := ⟨B, 0, none⟩) HS.out.2 (Nat.le_refl _) (.int .u32 0)) (Nat.le_refl _) (.int .u32 0)) (Nat.le_refl _) (.int .u64 0)) (Nat.le_refl _) (.int .u64 0)) (Nat.le_refl _) (.int .u64 0)) (Nat.le_refl _) (.int .u64 0)) (Nat.le_refl _) (.int .u64 0))
  go_wp2_with fail
  generalize World.setCell (World.setCell (World.setCell (World.setCell (World.setCell (World.setCell (World.setCell W _ _) _ _) _ _) _ _) _ _) _ _) _ _ = W9 at HR HB9 ⊢
  exact bodyPost_ret (res21S rfl rfl HR.out) rfl ⟨rfl, HB9.out⟩
set_option maxRecDepth 100000 in
set_option maxHeartbeats 4000000 in
theorem short_sec23 (ad : Option Addr) (len cap : Nat) (hn : len < 64) (w : World) :
    Calls Tryd.prog 23 #[.slice ad len cap] w fun e w' => e = .returned (.tuple #[.agg #[.int .u32 0, .int .u64 0, .int .u64 0, .int .u32 0, .int .u64 0], .int .i64 30]) ∧ Below w.heap.size w w' := by
  have hb0 : Below w.heap.size w (w.alloc (.cells #[.int .u32 0, .int .u64 0, .int .u64 0, .int .u32 0, .int .u64 0] 32)) := (Below.refl _ w).alloc (Nat.le_refl _) _
  have HS := Lib.hid (And.intro (heap_alloc_last w (.cells #[.int .u32 0, .int .u64 0, .int .u64 0, .int .u32 0, .int .u64 0] 32)) hb0)
  have hln : (len : Int) < 64 := by omega
  clear hb0
  generalize hB : w.heap.size = B at HS ⊢
  go_enter Tryd.func23, Tryd.ntmps23
  go_upto_region 1 with fail
  generalize World.alloc w _ = W at HS ⊢
  have r0 := cell_at (i := 0) (v := .int .u32 0) HS.out.1 rfl
  have f0 := frozen_at HS.out.1 0
  have r1 := cell_at (i := 1) (v := .int .u64 0) HS.out.1 rfl
  have f1 := frozen_at HS.out.1 1
  have r2 := cell_at (i := 2) (v := .int .u64 0) HS.out.1 rfl
  have f2 := frozen_at HS.out.1 2
  have r3 := cell_at (i := 3) (v := .int .u32 0) HS.out.1 rfl
  have f3 := frozen_at HS.out.1 3
  have r4 := cell_at (i := 4) (v := .int .u64 0) HS.out.1 rfl
  have f4 := frozen_at HS.out.1 4
  have h0 := set_at (i := 0) (v := .int .u32 0) HS.out.1
  have h1 := set_at (i := 1) (v := .int .u64 0) h0
  have h2 := set_at (i := 2) (v := .int .u64 0) h1
  have h3 := set_at (i := 3) (v := .int .u32 0) h2
  have h4 := set_at (i := 4) (v := .int .u64 0) h3
  have HR := Lib.hid (show _ = some (Obj.cells #[.int .u32 0, .int .u64 0, .int .u64 0, .int .u32 0, .int .u64 0] 32 (0, 0)) from h4)
  clear h4 h3 h2 h1 h0
  have HB9 := Lib.hid (Below.setCell (p := ⟨B, 4, none⟩) (Below.setCell (p := ⟨B, 3, none⟩) (Below.setCell (p := ⟨B, 2, none⟩) (Below.setCell (p := ⟨B, 1, none⟩) (Below.setCell (p := ⟨B, 0, none⟩) HS.out.2 (Nat.le_refl _) (.int .u32 0)) (Nat.le_refl _) (.int .u64 0)) (Nat.le_refl _) (.int .u64 0)) (Nat.le_refl _) (.int .u32 0)) (Nat.le_refl _) (.int .u64 0))
  go_wp2_with fail
  generalize World.setCell (World.setCell (World.setCell (World.setCell (World.setCell W _ _) _ _) _ _) _ _) _ _ = W9 at HR HB9 ⊢
  exact bodyPost_ret (res23S rfl rfl HR.out) rfl ⟨rfl, HB9.out⟩
end Go.Proofs.YtnaggdhophncaaaDoor
