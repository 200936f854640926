/- alu.Shift, where the deed is no shift. -/
import Derived.Test.YtmfoeolllobidaaDoorShz
import Derived.Test.YtmfoeolllobidaaDoorSha
namespace Go.Proofs.YtmfoeolllobidaaDoor
open Go.RowKit Go.Shelf
set_option linter.unusedSimpArgs false
set_option linter.unusedVariables false
theorem lookMiss (W : World) (b : Nat) (v0 v1 v2 v3 v4 : Value) (k : Int) (hk : k ≠ 16 ∧ k ≠ 17 ∧ k ≠ 18 ∧ k ≠ 19 ∧ k ≠ 20) (hobj : W.heap[b]? = some (.map #[mE 16 v0 0, mE 17 v1 1, mE 18 v2 2, mE 19 v3 3, mE 20 v4 4] 5)) :
    (Instr.lookup 55 (.map (some b)) (.int .u8 k) true).run Tryd.prog W = .ok (.tuple #[.agg #[.nilFunc, .nilFunc, .bool false], .bool false]) W := by
  obtain ⟨h0, h1, h2, h3, h4⟩ := hk
  have hm : Tryd.prog.underlying 55 = some (.map 5 53) := by kernel_rfl
  have hd : Tryd.prog.underlying 5 = some (.int .u8) := by kernel_rfl
  have hkk : MapKept.IsKey (.int .u8) (.int .u8 k) := by simp [MapKept.IsKey]
  have hf : Instr.findNow (.int .u8) (.int .u8 k) (#[mE 16 v0 0, mE 17 v1 1, mE 18 v2 2, mE 19 v3 3, mE 20 v4 4] : Array MapEntry).toList 0 = some none := by
    have q0 := beq_false_of_ne h0
    have q1 := beq_false_of_ne h1
    have q2 := beq_false_of_ne h2
    have q3 := beq_false_of_ne h3
    have q4 := beq_false_of_ne h4
    simp [Instr.findNow, Instr.sameNow, mE, q0, q1, q2, q3, q4]
  have hz : (zeroValue 53).run Tryd.prog W = .ok (.agg #[.nilFunc, .nilFunc, .bool false]) W := by rfl
  simp [Instr.lookup, run_underlying hm, MapKept.run_getObj_map hobj, MapKept.run_checkKey hd hkk, MapKept.run_findKey hd hf, hz, Result.andThen]
set_option maxHeartbeats 2000000 in
theorem shift_n4 (K : Int) (wd : Int) (x a : Nat) (hx : U x) (hxa : cN x wd = a) (m : Nat) (c z s o p : Bool) (h8 : (hI wd == 8) = false)
    (HS : ∀ W, Calls Tryd.prog 42 #[.int .i64 wd, .int .u64 (a : Int)] W fun e w' => ∃ b, e = .returned (.map (some b)) ∧ (Instr.lookup 55 (.map (some b)) (.int .u8 K) true).run Tryd.prog w' = .ok (.tuple #[.agg #[.nilFunc, .nilFunc, .bool false], .bool false]) w' ∧ Below W.heap.size W w')
    (w : World) (hm : Mk w) :
    Calls Tryd.prog 20 #[.int .u8 K, .int .i64 wd, .int .u64 x, .int .u8 (m : Int), fl c z s o p] w fun e w' => e = .returned (.tuple #[.int .u64 (a : Int), fl c z s o p]) ∧ Below w.heap.size w w' := by
  have s1 := Lib.hid (((Slot5.new w (.bool c) (.bool z) (.bool s) (.bool o) (.bool p) 24).alloc (Obj.cells #[Value.int IntKind.u64 0] 22)).alloc fl0)
  have s2 := Lib.hid ((Slot1.new (w.alloc (flw c z s o p)) (.int .u64 0) 22).alloc fl0)
  have s3 := Lib.hid (Slot5.new ((w.alloc (flw c z s o p)).alloc (Obj.cells #[Value.int IntKind.u64 0] 22)) (.bool false) (.bool false) (.bool false) (.bool false) (.bool false) 24)
  have hb0 : Below w.heap.size w (((w.alloc (flw c z s o p)).alloc (Obj.cells #[Value.int IntKind.u64 0] 22)).alloc fl0) := (((Below.refl _ _).alloc (Nat.le_refl _) _).alloc (by simp) _).alloc (by simp; omega) _
  have hcut : ∀ W, Mk W → Calls Tryd.prog 36 #[.int .u64 x, .int .i64 wd] W fun e w' => e = .returned (.int .u64 (a : Int)) ∧ W = w' := fun W hW => by rw [← hxa]; exact cut_any x hx wd W hW
  have HC := Lib.hid hcut
  have HS' := Lib.hid HS
  have HM := Lib.hid hm
  clear hcut HS hm hxa hx
  go_enter Tryd.func20, Tryd.ntmps20
  go_wp2_with (first | (go_at_call 36; refine (HC.out _ (((HM.out.alloc _).alloc _).alloc _)).mono ?_; rintro e w' ⟨rfl, rfl⟩) | (go_at_call 41; refine (aheld_any _ _).mono ?_; rintro e w' ⟨rfl, rfl⟩))
  go_at_call 42
  refine (HS'.out _).mono ?_
  rintro e w1 ⟨b, rfl, hlk, hb⟩
  have hb2 := hb0.trans (hb.mono (by simp; omega))
  have A1 := fun o => (s1.out.keep hb).alloc o
  have A2 := fun o => (s2.out.keep hb).alloc o
  have A3 := fun o => (s3.out.keep hb).alloc o
  simp only [World.size_alloc] at A2 A3 hlk
  have c0 := fun o => (A1 o).1
  have c1 := fun o => (A1 o).2.1
  have c2 := fun o => (A1 o).2.2.1
  have c3 := fun o => (A1 o).2.2.2.1
  have c4 := fun o => (A1 o).2.2.2.2.1
  have d0 := fun o => (A2 o).1
  have e0 := fun o => (A2 o).2.1
  have x0 := fun o => (A3 o).1
  have x1 := fun o => (A3 o).2.1
  have x2 := fun o => (A3 o).2.2.1
  have x3 := fun o => (A3 o).2.2.2.1
  have x4 := fun o => (A3 o).2.2.2.2.1
  have y0 := fun o => (A3 o).2.2.2.2.2.1
  have y1 := fun o => (A3 o).2.2.2.2.2.2.1
  have y2 := fun o => (A3 o).2.2.2.2.2.2.2.1
  have y3 := fun o => (A3 o).2.2.2.2.2.2.2.2.1
  have y4 := fun o => (A3 o).2.2.2.2.2.2.2.2.2.1
  clear s1 s2 s3 hb hb0 A1 A2 A3
  have hsz := hb2.size
  go_wp2_with fail
  go_region
  all_goals
    go_wp2
    refine bodyPost_ret (v := .tuple #[.int .u64 (a : Int), fl c z s o p]) (by simp [results, Tryd.results20, go_sem, *]) rfl ⟨rfl, ?_⟩
    refine hb2.trans ?_
    go_grown
    all_goals omega
set_option maxHeartbeats 2000000 in
theorem shift_n8 (K : Int) (wd : Int) (x a : Nat) (hx : U x) (hxa : cN x wd = a) (m : Nat) (c z s o p : Bool) (h8 : (hI wd == 8) = true)
    (HS : ∀ W, Calls Tryd.prog 42 #[.int .i64 wd, .int .u64 (a : Int)] W fun e w' => ∃ b, e = .returned (.map (some b)) ∧ (Instr.lookup 55 (.map (some b)) (.int .u8 K) true).run Tryd.prog w' = .ok (.tuple #[.agg #[.nilFunc, .nilFunc, .bool false], .bool false]) w' ∧ Below W.heap.size W w')
    (w : World) (hm : Mk w) :
    Calls Tryd.prog 20 #[.int .u8 K, .int .i64 wd, .int .u64 x, .int .u8 (m : Int), fl c z s o p] w fun e w' => e = .returned (.tuple #[.int .u64 (a : Int), fl c z s o p]) ∧ Below w.heap.size w w' := by
  have s1 := Lib.hid (((Slot5.new w (.bool c) (.bool z) (.bool s) (.bool o) (.bool p) 24).alloc (Obj.cells #[Value.int IntKind.u64 0] 22)).alloc fl0)
  have s2 := Lib.hid ((Slot1.new (w.alloc (flw c z s o p)) (.int .u64 0) 22).alloc fl0)
  have s3 := Lib.hid (Slot5.new ((w.alloc (flw c z s o p)).alloc (Obj.cells #[Value.int IntKind.u64 0] 22)) (.bool false) (.bool false) (.bool false) (.bool false) (.bool false) 24)
  have hb0 : Below w.heap.size w (((w.alloc (flw c z s o p)).alloc (Obj.cells #[Value.int IntKind.u64 0] 22)).alloc fl0) := (((Below.refl _ _).alloc (Nat.le_refl _) _).alloc (by simp) _).alloc (by simp; omega) _
  have hcut : ∀ W, Mk W → Calls Tryd.prog 36 #[.int .u64 x, .int .i64 wd] W fun e w' => e = .returned (.int .u64 (a : Int)) ∧ W = w' := fun W hW => by rw [← hxa]; exact cut_any x hx wd W hW
  have HC := Lib.hid hcut
  have HS' := Lib.hid HS
  have HM := Lib.hid hm
  clear hcut HS hm hxa hx
  go_enter Tryd.func20, Tryd.ntmps20
  go_wp2_with (first | (go_at_call 36; refine (HC.out _ (((HM.out.alloc _).alloc _).alloc _)).mono ?_; rintro e w' ⟨rfl, rfl⟩) | (go_at_call 41; refine (aheld_any _ _).mono ?_; rintro e w' ⟨rfl, rfl⟩))
  go_at_call 42
  refine (HS'.out _).mono ?_
  rintro e w1 ⟨b, rfl, hlk, hb⟩
  have hb2 := hb0.trans (hb.mono (by simp; omega))
  have A1 := fun o => (s1.out.keep hb).alloc o
  have A2 := fun o => (s2.out.keep hb).alloc o
  have A3 := fun o => (s3.out.keep hb).alloc o
  simp only [World.size_alloc] at A2 A3 hlk
  have c0 := fun o => (A1 o).1
  have c1 := fun o => (A1 o).2.1
  have c2 := fun o => (A1 o).2.2.1
  have c3 := fun o => (A1 o).2.2.2.1
  have c4 := fun o => (A1 o).2.2.2.2.1
  have d0 := fun o => (A2 o).1
  have e0 := fun o => (A2 o).2.1
  have x0 := fun o => (A3 o).1
  have x1 := fun o => (A3 o).2.1
  have x2 := fun o => (A3 o).2.2.1
  have x3 := fun o => (A3 o).2.2.2.1
  have x4 := fun o => (A3 o).2.2.2.2.1
  have y0 := fun o => (A3 o).2.2.2.2.2.1
  have y1 := fun o => (A3 o).2.2.2.2.2.2.1
  have y2 := fun o => (A3 o).2.2.2.2.2.2.2.1
  have y3 := fun o => (A3 o).2.2.2.2.2.2.2.2.1
  have y4 := fun o => (A3 o).2.2.2.2.2.2.2.2.2.1
  clear s1 s2 s3 hb hb0 A1 A2 A3
  have hsz := hb2.size
  go_wp2_with fail
  go_region
  all_goals
    go_wp2
    refine bodyPost_ret (v := .tuple #[.int .u64 (a : Int), fl c z s o p]) (by simp [results, Tryd.results20, go_sem, *]) rfl ⟨rfl, ?_⟩
    refine hb2.trans ?_
    go_grown
    all_goals omega
theorem shift_miss (K : Nat) (hK : K ≠ 16 ∧ K ≠ 17 ∧ K ≠ 18 ∧ K ≠ 19 ∧ K ≠ 20) (wd : Int) (x : Nat) (hx : U x) (m : Nat) (c z s o p : Bool) (w : World) (hm : Mk w) :
    Calls Tryd.prog 20 #[.int .u8 (K : Int), .int .i64 wd, .int .u64 x, .int .u8 (m : Int), fl c z s o p] w fun e w' => e = .returned (.tuple #[.int .u64 (cN x wd : Nat), fl c z s o p]) ∧ Below w.heap.size w w' := by
  have hS : ∀ W, Calls Tryd.prog 42 #[.int .i64 wd, .int .u64 (cN x wd : Nat)] W fun e w' => ∃ b, e = .returned (.map (some b)) ∧ (Instr.lookup 55 (.map (some b)) (.int .u8 (K : Int)) true).run Tryd.prog w' = .ok (.tuple #[.agg #[.nilFunc, .nilFunc, .bool false], .bool false]) w' ∧ Below W.heap.size W w' := fun W =>
    (shifts_all (cN x wd) wd W).mono fun e w' ⟨h1, h2⟩ => ⟨_, h1, by
      subst h2
      exact lookMiss _ _ _ _ _ _ _ _ (by omega) (World.putObj_heap_same (by rw [lay4_size]; omega)), by subst h2; exact (laid4_of W wd _ _).bb⟩
  cases h8 : (hI wd == 8)
  · exact shift_n4 K wd x _ hx rfl m c z s o p h8 hS w hm
  · exact shift_n8 K wd x _ hx rfl m c z s o p h8 hS w hm
end Go.Proofs.YtmfoeolllobidaaDoor
