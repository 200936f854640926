/- header.Segment, header.Section, number, within. -/
import Derived.Test.YtnaggdhophncaaaDoorPu
namespace Go.Proofs.YtnaggdhophncaaaDoor
open Go.RowKit Go.Shelf
set_option linter.unusedVariables false
set_option linter.unusedSimpArgs false
attribute [local go_sem] Oper.semAt_some
theorem make_n (n : Nat) (hn : n ≤ 100000) (w : World) : (Instr.makeSlice 22 (.int .i64 (n : Nat)) (.int .i64 (n : Nat))).run Tryd.prog w = .ok (.slice (some ⟨w.heap.size, 0, none⟩) n n) (w.alloc (.cells (madeCells #[.int .u8 0] n) 5)) :=
  run_make_row' 22 5 (.int .u8 0) 1 Tryd.underlying22 info5 rfl .i64 .i64 n (by omega) (by omega) w
theorem made_row (n : Nat) : madeCells #[.int .u8 0] n = (rowB (fun _ => 0) n).toArray := by
  apply Array.ext'
  simp [madeCells, rowB, upto, Nat.mod_one]
theorem PS.base {w W : World} {g n : Nat} {f h : Nat → Nat} {W' : World} (h1 : PS w g n f W) (h2 : BR W' g n h ∧ W.grownBy W' (some g)) : PS w g n h W' := ⟨h2.1, h1.2.trans h2.2⟩
theorem cell_at {W : World} {b i : Nat} {cs : Array Value} {t : TypeId} {v : Value} (h : W.heap[b]? = some (.cells cs t (0, 0))) (hv : cs[i]? = some v) : W.cell? ⟨b, i, none⟩ = some v := by
  unfold World.cell?
  rw [h]
  simpa using hv
/-- The thing that is told in its box, the bytes so far. -/
def SG (w : World) (b g n : Nat) (cs : Array Value) (t : TypeId) (f : Nat → Nat) (W : World) : Prop := W.heap[b]? = some (.cells cs t (0, 0)) ∧ BR W g n f ∧ Below w.heap.size w W
theorem SG.put {w W W' : World} {b g n : Nat} {cs : Array Value} {t : TypeId} {f h : Nat → Nat} (hS : SG w b g n cs t f W) (hbg : b ≠ g) (hg : w.heap.size ≤ g) (h1 : BR W' g n h) (h2 : W.grownBy W' (some g)) : SG w b g n cs t h W' :=
  ⟨(h2.block b (Array.getElem?_eq_some_iff.1 hS.1).1 (fun e => hbg (by cases e; rfl))).trans hS.1, h1, hS.2.2.grown h2 hS.2.2.size (fun q e => by cases e; exact hg)⟩
theorem SG.new (w : World) (n : Nat) (cs : Array Value) (t : TypeId) : SG w w.heap.size (w.heap.size + 1) n cs t (fun _ => 0) ((w.alloc (.cells cs t)).alloc (.cells (rowB (fun _ => 0) n).toArray 5)) := by
  have h1 := heap_alloc_last w (.cells cs t)
  have h2 := heap_alloc_last (w.alloc (.cells cs t)) (.cells (rowB (fun _ => 0) n).toArray 5)
  have k1 : Below (w.alloc (.cells cs t)).heap.size (w.alloc (.cells cs t)) ((w.alloc (.cells cs t)).alloc (.cells (rowB (fun _ => 0) n).toArray 5)) := (Below.refl _ _).alloc (Nat.le_refl _) _
  simp only [World.size_alloc] at h2
  exact ⟨(k1.block _ (by simp)).trans h1, h2, ((Below.refl _ w).alloc (Nat.le_refl _) _).alloc (by simp) _⟩
def V32 (k : Nat) : Prop := k < 4294967296
theorem w32 {k : Nat} (h : V32 k) : IntKind.u64.wrap (k : Int) = (k : Int) := by unfold V32 at h; exact IntWalk.u64_in _ (by omega)
def segF (kind flags off addr file mem align : Nat) : Nat → Nat := (putF (putF (putF (putF (putF (putF (putF (fun _ => 0) 0 4 kind) 4 4 flags) 8 8 off) 16 8 addr) 32 8 file) 40 8 mem) 48 8 align)
set_option maxRecDepth 100000 in
set_option maxHeartbeats 8000000 in
theorem seg_any (kind flags off addr file mem align : Nat) (hkind : V32 kind) (hflags : V32 flags) (w : World) : Calls Tryd.prog 16 #[.agg #[.int .u32 (kind : Nat), .int .u32 (flags : Nat), .int .u64 (off : Nat), .int .u64 (addr : Nat), .int .u64 (file : Nat), .int .u64 (mem : Nat), .int .u64 (align : Nat)]] w fun e W' => e = .returned (.slice (some ⟨w.heap.size + 1, 0, none⟩) 56 56) ∧ BR W' (w.heap.size + 1) 56 (segF kind flags off addr file mem align) ∧ Below w.heap.size w W' := by
  have wkind := w32 hkind
  have wflags := w32 hflags
  have hmk : (Instr.makeSlice 22 (.int .i64 56) (.int .i64 56)).run Tryd.prog (w.alloc (.cells #[.int .u32 (kind : Nat), .int .u32 (flags : Nat), .int .u64 (off : Nat), .int .u64 (addr : Nat), .int .u64 (file : Nat), .int .u64 (mem : Nat), .int .u64 (align : Nat)] 30)) = .ok (.slice (some ⟨(w.alloc (.cells #[.int .u32 (kind : Nat), .int .u32 (flags : Nat), .int .u64 (off : Nat), .int .u64 (addr : Nat), .int .u64 (file : Nat), .int .u64 (mem : Nat), .int .u64 (align : Nat)] 30)).heap.size, 0, none⟩) 56 56) ((w.alloc (.cells #[.int .u32 (kind : Nat), .int .u32 (flags : Nat), .int .u64 (off : Nat), .int .u64 (addr : Nat), .int .u64 (file : Nat), .int .u64 (mem : Nat), .int .u64 (align : Nat)] 30)).alloc (.cells (rowB (fun _ => 0) 56).toArray 5)) := by
    have := make_n 56 (by decide) (w.alloc (.cells #[.int .u32 (kind : Nat), .int .u32 (flags : Nat), .int .u64 (off : Nat), .int .u64 (addr : Nat), .int .u64 (file : Nat), .int .u64 (mem : Nat), .int .u64 (align : Nat)] 30))
    rwa [made_row] at this
  have HS := Lib.hid (SG.new w 56 #[.int .u32 (kind : Nat), .int .u32 (flags : Nat), .int .u64 (off : Nat), .int .u64 (addr : Nat), .int .u64 (file : Nat), .int .u64 (mem : Nat), .int .u64 (align : Nat)] 30)
  have hbg : w.heap.size ≠ w.heap.size + 1 := by omega
  have hwg : w.heap.size ≤ w.heap.size + 1 := by omega
  simp only [World.size_alloc] at hmk
  go_enter Tryd.func16, Tryd.ntmps16
  go_upto_region 2 with fail
  generalize World.alloc (World.alloc w _) _ = W1 at HS ⊢
  clear hmk
  have c0 := cell_at (i := 0) (v := .int .u32 (kind : Nat)) HS.out.1 rfl
  go_wp2_with (first | (go_at_call 31; refine (put_any (w.heap.size + 1) 56 56 _ 0 4 kind (by decide) (by decide) (by decide) (by decide) (by decide) (by decide) _ HS.out.2.1).mono ?_) | fail)
  rintro e W2 ⟨rfl, h1, h2⟩
  replace HS := Lib.hid (HS.out.put hbg hwg h1 h2)
  clear h1 h2 c0
  have c1 := cell_at (i := 1) (v := .int .u32 (flags : Nat)) HS.out.1 rfl
  go_wp2_with (first | (go_at_call 31; refine (put_any (w.heap.size + 1) 56 56 _ 4 4 flags (by decide) (by decide) (by decide) (by decide) (by decide) (by decide) _ HS.out.2.1).mono ?_) | fail)
  rintro e W3 ⟨rfl, h1, h2⟩
  replace HS := Lib.hid (HS.out.put hbg hwg h1 h2)
  clear h1 h2 c1
  have c2 := cell_at (i := 2) (v := .int .u64 (off : Nat)) HS.out.1 rfl
  go_wp2_with (first | (go_at_call 31; refine (put_any (w.heap.size + 1) 56 56 _ 8 8 off (by decide) (by decide) (by decide) (by decide) (by decide) (by decide) _ HS.out.2.1).mono ?_) | fail)
  rintro e W4 ⟨rfl, h1, h2⟩
  replace HS := Lib.hid (HS.out.put hbg hwg h1 h2)
  clear h1 h2 c2
  have c3 := cell_at (i := 3) (v := .int .u64 (addr : Nat)) HS.out.1 rfl
  go_wp2_with (first | (go_at_call 31; refine (put_any (w.heap.size + 1) 56 56 _ 16 8 addr (by decide) (by decide) (by decide) (by decide) (by decide) (by decide) _ HS.out.2.1).mono ?_) | fail)
  rintro e W5 ⟨rfl, h1, h2⟩
  replace HS := Lib.hid (HS.out.put hbg hwg h1 h2)
  clear h1 h2 c3
  have c4 := cell_at (i := 4) (v := .int .u64 (file : Nat)) HS.out.1 rfl
  go_wp2_with (first | (go_at_call 31; refine (put_any (w.heap.size + 1) 56 56 _ 32 8 file (by decide) (by decide) (by decide) (by decide) (by decide) (by decide) _ HS.out.2.1).mono ?_) | fail)
  rintro e W6 ⟨rfl, h1, h2⟩
  replace HS := Lib.hid (HS.out.put hbg hwg h1 h2)
  clear h1 h2 c4
  have c5 := cell_at (i := 5) (v := .int .u64 (mem : Nat)) HS.out.1 rfl
  go_wp2_with (first | (go_at_call 31; refine (put_any (w.heap.size + 1) 56 56 _ 40 8 mem (by decide) (by decide) (by decide) (by decide) (by decide) (by decide) _ HS.out.2.1).mono ?_) | fail)
  rintro e W7 ⟨rfl, h1, h2⟩
  replace HS := Lib.hid (HS.out.put hbg hwg h1 h2)
  clear h1 h2 c5
  have c6 := cell_at (i := 6) (v := .int .u64 (align : Nat)) HS.out.1 rfl
  go_wp2_with (first | (go_at_call 31; refine (put_any (w.heap.size + 1) 56 56 _ 48 8 align (by decide) (by decide) (by decide) (by decide) (by decide) (by decide) _ HS.out.2.1).mono ?_) | fail)
  rintro e W8 ⟨rfl, h1, h2⟩
  replace HS := Lib.hid (HS.out.put hbg hwg h1 h2)
  clear h1 h2 c6
  go_wp2_with fail
  go_ret
  exact ⟨rfl, HS.out.2.1, HS.out.2.2⟩
def secF (kind off size link each : Nat) : Nat → Nat := (putF (putF (putF (putF (putF (fun _ => 0) 4 4 kind) 24 8 off) 32 8 size) 40 4 link) 56 8 each)
set_option maxRecDepth 100000 in
set_option maxHeartbeats 8000000 in
theorem sec_any (kind off size link each : Nat) (hkind : V32 kind) (hlink : V32 link) (w : World) : Calls Tryd.prog 18 #[.agg #[.int .u32 (kind : Nat), .int .u64 (off : Nat), .int .u64 (size : Nat), .int .u32 (link : Nat), .int .u64 (each : Nat)]] w fun e W' => e = .returned (.slice (some ⟨w.heap.size + 1, 0, none⟩) 64 64) ∧ BR W' (w.heap.size + 1) 64 (secF kind off size link each) ∧ Below w.heap.size w W' := by
  have wkind := w32 hkind
  have wlink := w32 hlink
  have hmk : (Instr.makeSlice 22 (.int .i64 64) (.int .i64 64)).run Tryd.prog (w.alloc (.cells #[.int .u32 (kind : Nat), .int .u64 (off : Nat), .int .u64 (size : Nat), .int .u32 (link : Nat), .int .u64 (each : Nat)] 32)) = .ok (.slice (some ⟨(w.alloc (.cells #[.int .u32 (kind : Nat), .int .u64 (off : Nat), .int .u64 (size : Nat), .int .u32 (link : Nat), .int .u64 (each : Nat)] 32)).heap.size, 0, none⟩) 64 64) ((w.alloc (.cells #[.int .u32 (kind : Nat), .int .u64 (off : Nat), .int .u64 (size : Nat), .int .u32 (link : Nat), .int .u64 (each : Nat)] 32)).alloc (.cells (rowB (fun _ => 0) 64).toArray 5)) := by
    have := make_n 64 (by decide) (w.alloc (.cells #[.int .u32 (kind : Nat), .int .u64 (off : Nat), .int .u64 (size : Nat), .int .u32 (link : Nat), .int .u64 (each : Nat)] 32))
    rwa [made_row] at this
  have HS := Lib.hid (SG.new w 64 #[.int .u32 (kind : Nat), .int .u64 (off : Nat), .int .u64 (size : Nat), .int .u32 (link : Nat), .int .u64 (each : Nat)] 32)
  have hbg : w.heap.size ≠ w.heap.size + 1 := by omega
  have hwg : w.heap.size ≤ w.heap.size + 1 := by omega
  simp only [World.size_alloc] at hmk
  go_enter Tryd.func18, Tryd.ntmps18
  go_upto_region 2 with fail
  generalize World.alloc (World.alloc w _) _ = W1 at HS ⊢
  clear hmk
  have c0 := cell_at (i := 0) (v := .int .u32 (kind : Nat)) HS.out.1 rfl
  go_wp2_with (first | (go_at_call 31; refine (put_any (w.heap.size + 1) 64 64 _ 4 4 kind (by decide) (by decide) (by decide) (by decide) (by decide) (by decide) _ HS.out.2.1).mono ?_) | fail)
  rintro e W2 ⟨rfl, h1, h2⟩
  replace HS := Lib.hid (HS.out.put hbg hwg h1 h2)
  clear h1 h2 c0
  have c1 := cell_at (i := 1) (v := .int .u64 (off : Nat)) HS.out.1 rfl
  go_wp2_with (first | (go_at_call 31; refine (put_any (w.heap.size + 1) 64 64 _ 24 8 off (by decide) (by decide) (by decide) (by decide) (by decide) (by decide) _ HS.out.2.1).mono ?_) | fail)
  rintro e W3 ⟨rfl, h1, h2⟩
  replace HS := Lib.hid (HS.out.put hbg hwg h1 h2)
  clear h1 h2 c1
  have c2 := cell_at (i := 2) (v := .int .u64 (size : Nat)) HS.out.1 rfl
  go_wp2_with (first | (go_at_call 31; refine (put_any (w.heap.size + 1) 64 64 _ 32 8 size (by decide) (by decide) (by decide) (by decide) (by decide) (by decide) _ HS.out.2.1).mono ?_) | fail)
  rintro e W4 ⟨rfl, h1, h2⟩
  replace HS := Lib.hid (HS.out.put hbg hwg h1 h2)
  clear h1 h2 c2
  have c3 := cell_at (i := 3) (v := .int .u32 (link : Nat)) HS.out.1 rfl
  go_wp2_with (first | (go_at_call 31; refine (put_any (w.heap.size + 1) 64 64 _ 40 4 link (by decide) (by decide) (by decide) (by decide) (by decide) (by decide) _ HS.out.2.1).mono ?_) | fail)
  rintro e W5 ⟨rfl, h1, h2⟩
  replace HS := Lib.hid (HS.out.put hbg hwg h1 h2)
  clear h1 h2 c3
  have c4 := cell_at (i := 4) (v := .int .u64 (each : Nat)) HS.out.1 rfl
  go_wp2_with (first | (go_at_call 31; refine (put_any (w.heap.size + 1) 64 64 _ 56 8 each (by decide) (by decide) (by decide) (by decide) (by decide) (by decide) _ HS.out.2.1).mono ?_) | fail)
  rintro e W6 ⟨rfl, h1, h2⟩
  replace HS := Lib.hid (HS.out.put hbg hwg h1 h2)
  clear h1 h2 c4
  go_wp2_with fail
  go_ret
  exact ⟨rfl, HS.out.2.1, HS.out.2.2⟩
end Go.Proofs.YtnaggdhophncaaaDoor
