/- alu.shifts: how each shift goes, and where its closures lead. -/
import Derived.Test.YtmfoeolllobidaaDoorShift
import Derived.Test.YtmfoeolllobidaaDoorFal
namespace Go.Proofs.YtmfoeolllobidaaDoor
open Go.RowKit
set_option linter.unusedSimpArgs false
set_option linter.unusedVariables false
set_option maxHeartbeats 1000000 in
theorem shifts_all (a : Nat) (wd : Int) (w : World) :
    Calls Tryd.prog 42 #[.int .i64 wd, .int .u64 a] w fun e w' => e = .returned (.map (some (w.heap.size + 1 + 1 + 1 + 1))) ∧ w' = (lay4 w wd a).putObj (w.heap.size + 1 + 1 + 1 + 1) (.map #[mE 16 (.agg #[.func (Fn.func 62) #[] #[.pointer (some ⟨w.heap.size, 0, none⟩), .pointer (some ⟨w.heap.size + 1 + 1 + 1, 0, none⟩)], .func (Fn.func 63) #[] #[.pointer (some ⟨w.heap.size + 1 + 1 + 1, 0, none⟩)], .bool false]) 0, mE 17 (.agg #[.func (Fn.func 64) #[] #[.pointer (some ⟨w.heap.size + 1 + 1, 0, none⟩)], .func (Fn.func 65) #[] #[.pointer (some ⟨w.heap.size + 1 + 1 + 1, 0, none⟩), .pointer (some ⟨w.heap.size + 1, 0, none⟩)], .bool false]) 1, mE 18 (.agg #[.func (Fn.func 66) #[] #[.pointer (some ⟨w.heap.size, 0, none⟩), .pointer (some ⟨w.heap.size + 1 + 1, 0, none⟩)], .func (Fn.func 67) #[] #[], .bool false]) 2, mE 19 (.agg #[.func (Fn.func 68) #[] #[.pointer (some ⟨w.heap.size, 0, none⟩), .pointer (some ⟨w.heap.size + 1 + 1 + 1, 0, none⟩)], .func (Fn.func 70) #[] #[.pointer (some ⟨w.heap.size + 1 + 1, 0, none⟩), .pointer (some ⟨w.heap.size + 1 + 1 + 1, 0, none⟩)], .bool true]) 3, mE 20 (.agg #[.func (Fn.func 71) #[] #[.pointer (some ⟨w.heap.size, 0, none⟩), .pointer (some ⟨w.heap.size + 1 + 1, 0, none⟩)], .func (Fn.func 72) #[] #[.pointer (some ⟨w.heap.size + 1 + 1 + 1, 0, none⟩), .pointer (some ⟨w.heap.size, 0, none⟩)], .bool true]) 4] 5) := by
  have hmf : ∀ (fn : Fn) (first cap : Array Value) (w : World), (Instr.makeFunc fn first cap).run Tryd.prog w = .ok (.func fn first cap) w := fun _ _ _ _ => rfl
  have hmm := @run_makeMap Tryd.prog
  have hz : w.heap.size + 1 + 1 + 1 + 1 < (lay4 w wd a).heap.size := by rw [lay4_size]; omega
  have g0 := fun v => upd55 (lay4 w wd a) (w.heap.size + 1 + 1 + 1 + 1) #[] 0 16 v (lay4_map w wd a) rfl
  have g1 := fun v0 v => upd_more (lay4 w wd a) (w.heap.size + 1 + 1 + 1 + 1) hz #[mE 16 v0 0] 1 17 v rfl
  have g2 := fun v0 v1 v => upd_more (lay4 w wd a) (w.heap.size + 1 + 1 + 1 + 1) hz #[mE 16 v0 0, mE 17 v1 1] 2 18 v rfl
  have g3 := fun v0 v1 v2 v => upd_more (lay4 w wd a) (w.heap.size + 1 + 1 + 1 + 1) hz #[mE 16 v0 0, mE 17 v1 1, mE 18 v2 2] 3 19 v rfl
  have g4 := fun v0 v1 v2 v3 v => upd_more (lay4 w wd a) (w.heap.size + 1 + 1 + 1 + 1) hz #[mE 16 v0 0, mE 17 v1 1, mE 18 v2 2, mE 19 v3 3] 4 20 v rfl
  simp only [List.push_toArray, List.nil_append, List.cons_append] at g0 g1 g2 g3 g4
  unfold lay4 at g0 g1 g2 g3 g4 ⊢
  clear hz
  go_enter Tryd.func42, Tryd.ntmps42
  go_wp2_with fail
  go_ret
  exact ⟨rfl, rfl⟩
theorem lookAt (W : World) (b : Nat) (v0 v1 v2 v3 v4 v : Value) (k : Int) (hobj : W.heap[b]? = some (.map #[mE 16 v0 0, mE 17 v1 1, mE 18 v2 2, mE 19 v3 3, mE 20 v4 4] 5))
    (hf : ∃ i, Instr.findNow (.int .u8) (.int .u8 k) (#[mE 16 v0 0, mE 17 v1 1, mE 18 v2 2, mE 19 v3 3, mE 20 v4 4] : Array MapEntry).toList 0 = some (some (i, v))) :
    (Instr.lookup 55 (.map (some b)) (.int .u8 k) true).run Tryd.prog W = .ok (.tuple #[v, .bool true]) W := by
  obtain ⟨i, hf⟩ := hf
  have hm : Tryd.prog.underlying 55 = some (.map 5 53) := by kernel_rfl
  have hd : Tryd.prog.underlying 5 = some (.int .u8) := by kernel_rfl
  have hk : MapKept.IsKey (.int .u8) (.int .u8 k) := by simp [MapKept.IsKey]
  simp [Instr.lookup, run_underlying hm, MapKept.run_getObj_map hobj, MapKept.run_checkKey hd hk, MapKept.run_findKey hd hf, Result.andThen]
/-- What shifts leaves: the closures' own variables. -/
structure Laid4 (w : World) (wd : Int) (a : Nat) (w' : World) : Prop where
  bb : Below w.heap.size w w'
  bz : w.heap.size + 1 + 1 + 1 + 1 < w'.heap.size
  bw : Boxed w' (w.heap.size) 3 (.int .i64 wd)
  ba : Boxed w' (w.heap.size + 1) 22 (.int .u64 (a : Int))
  bl : Boxed w' (w.heap.size + 1 + 1) 48 (.func (Fn.func 60) #[] #[])
  bh : Boxed w' (w.heap.size + 1 + 1 + 1) 48 (.func (Fn.func 61) #[] #[.pointer (some ⟨w.heap.size, 0, none⟩)])
theorem laid4_of (w : World) (wd : Int) (a : Nat) (o : Obj) : Laid4 w wd a ((lay4 w wd a).putObj (w.heap.size + 1 + 1 + 1 + 1) o) := by
  have b0 := Boxed.new w 3 (.int .i64 wd)
  have b1 := Boxed.new (w.alloc (.cells #[.int .i64 wd] 3)) 22 (.int .u64 (a : Int))
  have b2 := Boxed.new ((w.alloc (.cells #[.int .i64 wd] 3)).alloc (.cells #[.int .u64 (a : Int)] 22)) 48 (.func (Fn.func 60) #[] #[])
  have b3 := Boxed.new (((w.alloc (.cells #[.int .i64 wd] 3)).alloc (.cells #[.int .u64 (a : Int)] 22)).alloc (.cells #[.func (Fn.func 60) #[] #[]] 48)) 48 (.func (Fn.func 61) #[] #[.pointer (some ⟨w.heap.size, 0, none⟩)])
  simp only [World.size_alloc] at b1 b2 b3
  have kp : ∀ (B : Nat) (t : TypeId) (v : Value), B ≠ w.heap.size + 1 + 1 + 1 + 1 → Boxed (lay4 w wd a) B t v → Boxed ((lay4 w wd a).putObj (w.heap.size + 1 + 1 + 1 + 1) o) B t v := fun B t v hB h => (World.putObj_heap_other hB).trans h
  refine ⟨lay4_below w wd a o, ?_, kp _ _ _ (by omega) ?_, kp _ _ _ (by omega) ?_, kp _ _ _ (by omega) ?_, kp _ _ _ (by omega) ?_⟩
  · have := lay4_size w wd a; simp [World.putObj]; omega
  · exact (((b0.alloc _).alloc _).alloc _).alloc _
  · exact ((b1.alloc _).alloc _).alloc _
  · exact (b2.alloc _).alloc _
  · exact b3.alloc _
theorem shiftsAt_16 (a : Nat) (wd : Int) (w : World) :
    Calls Tryd.prog 42 #[.int .i64 wd, .int .u64 a] w fun e w' => ∃ b, e = .returned (.map (some b)) ∧ (Instr.lookup 55 (.map (some b)) (.int .u8 16) true).run Tryd.prog w' = .ok (.tuple #[.agg #[.func (Fn.func 62) #[] #[.pointer (some ⟨w.heap.size, 0, none⟩), .pointer (some ⟨w.heap.size + 1 + 1 + 1, 0, none⟩)], .func (Fn.func 63) #[] #[.pointer (some ⟨w.heap.size + 1 + 1 + 1, 0, none⟩)], .bool false], .bool true]) w' ∧ Laid4 w wd a w' :=
  (shifts_all a wd w).mono fun e w' ⟨h1, h2⟩ => ⟨_, h1, by
    subst h2
    exact lookAt _ _ _ _ _ _ _ _ _ (World.putObj_heap_same (by rw [lay4_size]; omega)) ⟨_, rfl⟩, by subst h2; exact laid4_of w wd a _⟩
theorem shiftsAt_17 (a : Nat) (wd : Int) (w : World) :
    Calls Tryd.prog 42 #[.int .i64 wd, .int .u64 a] w fun e w' => ∃ b, e = .returned (.map (some b)) ∧ (Instr.lookup 55 (.map (some b)) (.int .u8 17) true).run Tryd.prog w' = .ok (.tuple #[.agg #[.func (Fn.func 64) #[] #[.pointer (some ⟨w.heap.size + 1 + 1, 0, none⟩)], .func (Fn.func 65) #[] #[.pointer (some ⟨w.heap.size + 1 + 1 + 1, 0, none⟩), .pointer (some ⟨w.heap.size + 1, 0, none⟩)], .bool false], .bool true]) w' ∧ Laid4 w wd a w' :=
  (shifts_all a wd w).mono fun e w' ⟨h1, h2⟩ => ⟨_, h1, by
    subst h2
    exact lookAt _ _ _ _ _ _ _ _ _ (World.putObj_heap_same (by rw [lay4_size]; omega)) ⟨_, rfl⟩, by subst h2; exact laid4_of w wd a _⟩
theorem shiftsAt_18 (a : Nat) (wd : Int) (w : World) :
    Calls Tryd.prog 42 #[.int .i64 wd, .int .u64 a] w fun e w' => ∃ b, e = .returned (.map (some b)) ∧ (Instr.lookup 55 (.map (some b)) (.int .u8 18) true).run Tryd.prog w' = .ok (.tuple #[.agg #[.func (Fn.func 66) #[] #[.pointer (some ⟨w.heap.size, 0, none⟩), .pointer (some ⟨w.heap.size + 1 + 1, 0, none⟩)], .func (Fn.func 67) #[] #[], .bool false], .bool true]) w' ∧ Laid4 w wd a w' :=
  (shifts_all a wd w).mono fun e w' ⟨h1, h2⟩ => ⟨_, h1, by
    subst h2
    exact lookAt _ _ _ _ _ _ _ _ _ (World.putObj_heap_same (by rw [lay4_size]; omega)) ⟨_, rfl⟩, by subst h2; exact laid4_of w wd a _⟩
theorem shiftsAt_19 (a : Nat) (wd : Int) (w : World) :
    Calls Tryd.prog 42 #[.int .i64 wd, .int .u64 a] w fun e w' => ∃ b, e = .returned (.map (some b)) ∧ (Instr.lookup 55 (.map (some b)) (.int .u8 19) true).run Tryd.prog w' = .ok (.tuple #[.agg #[.func (Fn.func 68) #[] #[.pointer (some ⟨w.heap.size, 0, none⟩), .pointer (some ⟨w.heap.size + 1 + 1 + 1, 0, none⟩)], .func (Fn.func 70) #[] #[.pointer (some ⟨w.heap.size + 1 + 1, 0, none⟩), .pointer (some ⟨w.heap.size + 1 + 1 + 1, 0, none⟩)], .bool true], .bool true]) w' ∧ Laid4 w wd a w' :=
  (shifts_all a wd w).mono fun e w' ⟨h1, h2⟩ => ⟨_, h1, by
    subst h2
    exact lookAt _ _ _ _ _ _ _ _ _ (World.putObj_heap_same (by rw [lay4_size]; omega)) ⟨_, rfl⟩, by subst h2; exact laid4_of w wd a _⟩
theorem shiftsAt_20 (a : Nat) (wd : Int) (w : World) :
    Calls Tryd.prog 42 #[.int .i64 wd, .int .u64 a] w fun e w' => ∃ b, e = .returned (.map (some b)) ∧ (Instr.lookup 55 (.map (some b)) (.int .u8 20) true).run Tryd.prog w' = .ok (.tuple #[.agg #[.func (Fn.func 71) #[] #[.pointer (some ⟨w.heap.size, 0, none⟩), .pointer (some ⟨w.heap.size + 1 + 1, 0, none⟩)], .func (Fn.func 72) #[] #[.pointer (some ⟨w.heap.size + 1 + 1 + 1, 0, none⟩), .pointer (some ⟨w.heap.size, 0, none⟩)], .bool true], .bool true]) w' ∧ Laid4 w wd a w' :=
  (shifts_all a wd w).mono fun e w' ⟨h1, h2⟩ => ⟨_, h1, by
    subst h2
    exact lookAt _ _ _ _ _ _ _ _ _ (World.putObj_heap_same (by rw [lay4_size]; omega)) ⟨_, rfl⟩, by subst h2; exact laid4_of w wd a _⟩
end Go.Proofs.YtmfoeolllobidaaDoor
