/- Shifts. -/
import Derived.Test.YtmfoeolllobidaaDoorAlu
import Derived.Laws.EntriesVeiled
import Derived.MapKept
import Derived.RangeFuncRecord
import Derived.BigRegion
namespace Go.Proofs.YtmfoeolllobidaaDoor
open Go.RowKit
theorem put_put (W : World) (b : Nat) (o o' : Obj) : (W.putObj b o).putObj b o' = W.putObj b o' := by
  simp [World.putObj]
theorem upd55 (W : World) (b : Nat) (es : Array MapEntry) (clock : Nat) (k : Int) (v : Value) (hobj : W.heap[b]? = some (.map es clock)) (hf : Instr.findNow (.int .u8) (.int .u8 k) es.toList 0 = some none) :
    (Instr.mapUpdate 55 (.map (some b)) (.int .u8 k) v).run Tryd.prog W = .ok () (W.putObj b (.map (es.push ⟨.int .u8 k, v, clock⟩) (clock + 1))) := by
  have hm : Tryd.prog.underlying 55 = some (.map 5 53) := by kernel_rfl
  have hd : Tryd.prog.underlying 5 = some (.int .u8) := by kernel_rfl
  have hk : MapKept.IsKey (.int .u8) (.int .u8 k) := by simp [MapKept.IsKey]
  simp [Instr.mapUpdate, run_underlying hm, MapKept.run_getObj_map hobj, MapKept.run_checkKey hd hk, MapKept.run_findKey hd hf, MapKept.run_setObj_map _ hobj, Result.andThen, World.putObj]
/-- The blocks that shifts lays. -/
def lay4 (w : World) (wd : Int) (a : Nat) : World :=
  ((((w.alloc (Obj.cells #[Value.int IntKind.i64 wd] 3)).alloc (Obj.cells #[Value.int IntKind.u64 ↑a] 22)).alloc (Obj.cells #[Value.func (Fn.func 60) #[] #[]] 48)).alloc (Obj.cells #[Value.func (Fn.func 61) #[] #[Value.pointer (some { block := w.heap.size, off := 0 })]] 48)).alloc (Obj.map #[] 0)
abbrev mE (k : Int) (v : Value) (n : Nat) : MapEntry := ⟨.int .u8 k, v, n⟩
theorem lay4_map (w : World) (wd : Int) (a : Nat) : (lay4 w wd a).heap[w.heap.size + 1 + 1 + 1 + 1]? = some (.map #[] 0) := by
  unfold lay4
  have := World.alloc_heap_new ((((w.alloc (Obj.cells #[Value.int IntKind.i64 wd] 3)).alloc (Obj.cells #[Value.int IntKind.u64 ↑a] 22)).alloc (Obj.cells #[Value.func (Fn.func 60) #[] #[]] 48)).alloc (Obj.cells #[Value.func (Fn.func 61) #[] #[Value.pointer (some { block := w.heap.size, off := 0 })]] 48)) (Obj.map #[] 0)
  simpa using this
theorem lay4_size (w : World) (wd : Int) (a : Nat) : (lay4 w wd a).heap.size = w.heap.size + 1 + 1 + 1 + 1 + 1 := by
  unfold lay4; simp
theorem upd_more (W : World) (b : Nat) (hb : b < W.heap.size) (es : Array MapEntry) (clock : Nat) (k : Int) (v : Value) (hf : Instr.findNow (.int .u8) (.int .u8 k) es.toList 0 = some none) :
    (Instr.mapUpdate 55 (.map (some b)) (.int .u8 k) v).run Tryd.prog (W.putObj b (.map es clock)) = .ok () (W.putObj b (.map (es.push ⟨.int .u8 k, v, clock⟩) (clock + 1))) := by
  rw [upd55 (W.putObj b (.map es clock)) b es clock k v (World.putObj_heap_same hb) hf, put_put]
set_option maxHeartbeats 1000000 in
theorem shifts_any (a : Nat) (wd : Int) (w : World) :
    Calls Tryd.prog 42 #[.int .i64 wd, .int .u64 a] w fun e w' => e = .returned (.map (some (w.heap.size + 1 + 1 + 1 + 1))) ∧ ∃ v1 v2 v3 v4, w' = (lay4 w wd a).putObj (w.heap.size + 1 + 1 + 1 + 1) (.map #[mE 16 (.agg #[.func (Fn.func 62) #[] #[.pointer (some { block := w.heap.size, off := 0 }), .pointer (some { block := w.heap.size + 1 + 1 + 1, off := 0 })], .func (Fn.func 63) #[] #[.pointer (some { block := w.heap.size + 1 + 1 + 1, off := 0 })], .bool false]) 0, mE 17 v1 1, mE 18 v2 2, mE 19 v3 3, mE 20 v4 4] 5) := by
  have hmf : ∀ (fn : Fn) (first cap : Array Value) (w : World), (Instr.makeFunc fn first cap).run Tryd.prog w = .ok (.func fn first cap) w := fun _ _ _ _ => rfl
  have hmm := @run_makeMap Tryd.prog
  have hz : w.heap.size + 1 + 1 + 1 + 1 < (lay4 w wd a).heap.size := by rw [lay4_size]; omega
  have g0 := fun v => upd55 (lay4 w wd a) (w.heap.size + 1 + 1 + 1 + 1) #[] 0 16 v (lay4_map w wd a) rfl
  have g1 := fun v0 v => upd_more (lay4 w wd a) (w.heap.size + 1 + 1 + 1 + 1) hz #[mE 16 v0 0] 1 17 v rfl
  have g2 := fun v0 v1 v => upd_more (lay4 w wd a) (w.heap.size + 1 + 1 + 1 + 1) hz #[mE 16 v0 0, mE 17 v1 1] 2 18 v rfl
  have g3 := fun v0 v1 v2 v => upd_more (lay4 w wd a) (w.heap.size + 1 + 1 + 1 + 1) hz #[mE 16 v0 0, mE 17 v1 1, mE 18 v2 2] 3 19 v rfl
  have g4 := fun v0 v1 v2 v3 v => upd_more (lay4 w wd a) (w.heap.size + 1 + 1 + 1 + 1) hz #[mE 16 v0 0, mE 17 v1 1, mE 18 v2 2, mE 19 v3 3] 4 20 v rfl
  simp only [List.push_toArray, List.nil_append, List.cons_append] at g0 g1 g2 g3 g4
  unfold lay4 at g0 g1 g2 g3 g4 ⊢
  clear hz
  go_enter Tryd.func42, Tryd.ntmps42
  go_wp2_with fail
  go_ret
  exact ⟨rfl, _, _, _, _, rfl⟩
theorem lay4_below (w : World) (wd : Int) (a : Nat) (o : Obj) : Below w.heap.size w ((lay4 w wd a).putObj (w.heap.size + 1 + 1 + 1 + 1) o) := by
  have h : Below w.heap.size w (lay4 w wd a) := by
    unfold lay4
    exact (((((Below.refl _ w).alloc (Nat.le_refl _) _).alloc (by simp) _).alloc (by simp; omega) _).alloc (by simp; omega) _).alloc (by simp; omega) _
  refine ⟨h.os, h.tape, h.output, ?_, fun k hk => ?_⟩
  · have := h.size; simp [World.putObj]; omega
  · rw [World.putObj_heap_other (by omega)]; exact h.block k hk
theorem look16 (W : World) (b : Nat) (v0 v1 v2 v3 v4 : Value) (hobj : W.heap[b]? = some (.map #[mE 16 v0 0, mE 17 v1 1, mE 18 v2 2, mE 19 v3 3, mE 20 v4 4] 5)) :
    (Instr.lookup 55 (.map (some b)) (.int .u8 16) true).run Tryd.prog W = .ok (.tuple #[v0, .bool true]) W := by
  have hm : Tryd.prog.underlying 55 = some (.map 5 53) := by kernel_rfl
  have hd : Tryd.prog.underlying 5 = some (.int .u8) := by kernel_rfl
  have hk : MapKept.IsKey (.int .u8) (.int .u8 16) := by simp [MapKept.IsKey]
  have hf : Instr.findNow (.int .u8) (.int .u8 16) (#[mE 16 v0 0, mE 17 v1 1, mE 18 v2 2, mE 19 v3 3, mE 20 v4 4] : Array MapEntry).toList 0 = some (some (0, v0)) := rfl
  simp [Instr.lookup, run_underlying hm, MapKept.run_getObj_map hobj, MapKept.run_checkKey hd hk, MapKept.run_findKey hd hf, Result.andThen]
theorem shifts_16 (a : Nat) (wd : Int) (w : World) :
    Calls Tryd.prog 42 #[.int .i64 wd, .int .u64 a] w fun e w' => ∃ b, e = .returned (.map (some b)) ∧ (Instr.lookup 55 (.map (some b)) (.int .u8 16) true).run Tryd.prog w' = .ok (.tuple #[(.agg #[.func (Fn.func 62) #[] #[.pointer (some { block := w.heap.size, off := 0 }), .pointer (some { block := w.heap.size + 1 + 1 + 1, off := 0 })], .func (Fn.func 63) #[] #[.pointer (some { block := w.heap.size + 1 + 1 + 1, off := 0 })], .bool false]), .bool true]) w' ∧ Below w.heap.size w w' :=
  (shifts_any a wd w).mono fun e w' ⟨h1, v1, v2, v3, v4, h2⟩ => ⟨_, h1, by
    subst h2
    exact look16 _ _ _ v1 v2 v3 v4 (World.putObj_heap_same (by rw [lay4_size]; omega)), by subst h2; exact lay4_below w wd a _⟩
theorem cut_3 (w : World) (hm : Mk w) : Calls Tryd.prog 36 #[.int .u64 3, .int .i64 4] w fun e w' => e = .returned (.int .u64 3) ∧ w = w' := cut_any 3 (by unfold U; decide) 4 w hm
theorem held_4 (w : World) : Calls Tryd.prog 41 #[.int .i64 4] w fun e w' => e = .returned (.int .i64 4) ∧ w = w' := aheld_any 4 w
/-- One cell in a block of its own. -/
def Slot1 (W : World) (b : Nat) (v : Value) : Prop := W.cell? ⟨b, 0, none⟩ = some v ∧ W.frozen? ⟨b, 0, none⟩ = false ∧ b < W.heap.size
theorem Slot1.new (w : World) (v : Value) (t : Nat) : Slot1 (w.alloc (Obj.cells #[v] t)) w.heap.size v := by
  unfold Slot1; simp [go_sem]
theorem Slot1.keep {W W' : World} {b : Nat} {v : Value} (h : Slot1 W b v) (hb : Below W.heap.size W W') : Slot1 W' b v := by
  obtain ⟨c0, f0, hs⟩ := h
  have hz := hb.size
  exact ⟨(hb.cell (p := ⟨b, 0, none⟩) hs).trans c0, (hb.frozen (p := ⟨b, 0, none⟩) hs).trans f0, by omega⟩
theorem Slot1.alloc {W : World} {b : Nat} {v : Value} (h : Slot1 W b v) (o : Obj) : Slot1 (W.alloc o) b v := h.keep ((Below.refl _ _).alloc (Nat.le_refl _) o)
abbrev fl0 : Obj := Obj.cells #[Value.bool false, Value.bool false, Value.bool false, Value.bool false, Value.bool false] 24
abbrev fl8 : Obj := Obj.cells #[Value.bool false, Value.bool false, Value.bool false, Value.bool true, Value.bool false] 24
set_option maxHeartbeats 2000000 in
theorem shift_none (w : World) (hm : Mk w) :
    Calls Tryd.prog 20 #[.int .u8 16, .int .i64 4, .int .u64 3, .int .u8 32, fl false false false true false] w fun e w' => e = .returned (.tuple #[.int .u64 3, fl false false false true false]) ∧ Below w.heap.size w w' := by
  have s1 := Lib.hid (((Slot5.new w (.bool false) (.bool false) (.bool false) (.bool true) (.bool false) 24).alloc (Obj.cells #[Value.int IntKind.u64 0] 22)).alloc fl0)
  have s2 := Lib.hid ((Slot1.new (w.alloc fl8) (.int .u64 0) 22).alloc fl0)
  have s3 := Lib.hid (Slot5.new ((w.alloc fl8).alloc (Obj.cells #[Value.int IntKind.u64 0] 22)) (.bool false) (.bool false) (.bool false) (.bool false) (.bool false) 24)
  have hb0 : Below w.heap.size w (((w.alloc fl8).alloc (Obj.cells #[Value.int IntKind.u64 0] 22)).alloc fl0) := (((Below.refl _ _).alloc (Nat.le_refl _) _).alloc (by simp) _).alloc (by simp; omega) _
  go_enter Tryd.func20, Tryd.ntmps20
  go_wp2_with (first | (go_at_call 36; refine (cut_3 _ (((hm.alloc _).alloc _).alloc _)).mono ?_; rintro e w' ⟨rfl, rfl⟩) | (go_at_call 41; refine (held_4 _).mono ?_; rintro e w' ⟨rfl, rfl⟩))
  go_at_call 42
  refine (shifts_16 3 4 _).mono ?_
  rintro e w1 ⟨b, rfl, hlk, hb⟩
  have hb2 := hb0.trans (hb.mono (by simp; omega))
  have A1 := fun o => (s1.out.keep hb).alloc o
  have A2 := fun o => (s2.out.keep hb).alloc o
  have A3 := fun o => (s3.out.keep hb).alloc o
  simp only [World.size_alloc] at A2 A3 hlk
  have c0 := fun o => (A1 o).1
  have c1 := fun o => (A1 o).2.1
  have c2 := fun o => (A1 o).2.2.1
  have c3 := fun o => (A1 o).2.2.2.1
  have c4 := fun o => (A1 o).2.2.2.2.1
  have d0 := fun o => (A2 o).1
  have e0 := fun o => (A2 o).2.1
  have x0 := fun o => (A3 o).1
  have x1 := fun o => (A3 o).2.1
  have x2 := fun o => (A3 o).2.2.1
  have x3 := fun o => (A3 o).2.2.2.1
  have x4 := fun o => (A3 o).2.2.2.2.1
  have y0 := fun o => (A3 o).2.2.2.2.2.1
  have y1 := fun o => (A3 o).2.2.2.2.2.2.1
  have y2 := fun o => (A3 o).2.2.2.2.2.2.2.1
  have y3 := fun o => (A3 o).2.2.2.2.2.2.2.2.1
  have y4 := fun o => (A3 o).2.2.2.2.2.2.2.2.2.1
  clear s1 s2 s3 hb hb0 hm A1 A2 A3
  have hsz := hb2.size
  go_wp2_with fail
  go_region
  all_goals
    go_wp2
    refine bodyPost_ret (v := .tuple #[.int .u64 3, fl false false false true false]) (by simp [results, Tryd.results20, go_sem, *]) rfl ⟨rfl, ?_⟩
    refine hb2.trans ?_
    go_grown
    all_goals omega
end Go.Proofs.YtmfoeolllobidaaDoor
