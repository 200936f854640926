/- alu.Shift, where nothing is shifted. -/
import Derived.Test.YtmfoeolllobidaaDoorShb
namespace Go.Proofs.YtmfoeolllobidaaDoor
open Go.RowKit Go.Shelf
set_option linter.unusedSimpArgs false
set_option linter.unusedVariables false
abbrev flw (c z s o p : Bool) : Obj := Obj.cells #[Value.bool c, Value.bool z, Value.bool s, Value.bool o, Value.bool p] 24
set_option maxHeartbeats 2000000 in
theorem shift_z4 (K : Int) (j1 j2 : Nat) (tn : Bool) (wd : Int) (x a : Nat) (hx : U x) (hxa : cN x wd = a) (m : Nat) (hk : m % 32 = 0) (c z s o p : Bool) (h8 : (hI wd == 8) = false)
    (HS : ∀ W, Calls Tryd.prog 42 #[.int .i64 wd, .int .u64 (a : Int)] W fun e w' => ∃ b cs1 cs2, e = .returned (.map (some b)) ∧ (Instr.lookup 55 (.map (some b)) (.int .u8 K) true).run Tryd.prog w' = .ok (.tuple #[.agg #[.func (Fn.func j1) #[] cs1, .func (Fn.func j2) #[] cs2, .bool tn], .bool true]) w' ∧ Below W.heap.size W w')
    (w : World) (hm : Mk w) :
    Calls Tryd.prog 20 #[.int .u8 K, .int .i64 wd, .int .u64 x, .int .u8 (m : Int), fl c z s o p] w fun e w' => e = .returned (.tuple #[.int .u64 (a : Int), fl c z s o p]) ∧ Below w.heap.size w w' := by
  have s1 := Lib.hid (((Slot5.new w (.bool c) (.bool z) (.bool s) (.bool o) (.bool p) 24).alloc (Obj.cells #[Value.int IntKind.u64 0] 22)).alloc fl0)
  have s2 := Lib.hid ((Slot1.new (w.alloc (flw c z s o p)) (.int .u64 0) 22).alloc fl0)
  have s3 := Lib.hid (Slot5.new ((w.alloc (flw c z s o p)).alloc (Obj.cells #[Value.int IntKind.u64 0] 22)) (.bool false) (.bool false) (.bool false) (.bool false) (.bool false) 24)
  have hb0 : Below w.heap.size w (((w.alloc (flw c z s o p)).alloc (Obj.cells #[Value.int IntKind.u64 0] 22)).alloc fl0) := (((Below.refl _ _).alloc (Nat.le_refl _) _).alloc (by simp) _).alloc (by simp; omega) _
  have hcut : ∀ W, Mk W → Calls Tryd.prog 36 #[.int .u64 x, .int .i64 wd] W fun e w' => e = .returned (.int .u64 (a : Int)) ∧ W = w' := fun W hW => by rw [← hxa]; exact cut_any x hx wd W hW
  have hmk : ((m : Int) % 32) = 0 := by omega
  have HC := Lib.hid hcut
  have HS' := Lib.hid HS
  have HM := Lib.hid hm
  clear hcut HS hm hxa hx hk
  go_enter Tryd.func20, Tryd.ntmps20
  go_wp2_with (first | (go_at_call 36; refine (HC.out _ (((HM.out.alloc _).alloc _).alloc _)).mono ?_; rintro e w' ⟨rfl, rfl⟩) | (go_at_call 41; refine (aheld_any _ _).mono ?_; rintro e w' ⟨rfl, rfl⟩))
  go_at_call 42
  refine (HS'.out _).mono ?_
  rintro e w1 ⟨b, cs1, cs2, rfl, hlk, hb⟩
  have hb2 := hb0.trans (hb.mono (by simp; omega))
  have A1 := fun o => (s1.out.keep hb).alloc o
  have A2 := fun o => (s2.out.keep hb).alloc o
  have A3 := fun o => (s3.out.keep hb).alloc o
  simp only [World.size_alloc] at A2 A3 hlk
  have c0 := fun o => (A1 o).1
  have c1 := fun o => (A1 o).2.1
  have c2 := fun o => (A1 o).2.2.1
  have c3 := fun o => (A1 o).2.2.2.1
  have c4 := fun o => (A1 o).2.2.2.2.1
  have d0 := fun o => (A2 o).1
  have e0 := fun o => (A2 o).2.1
  have x0 := fun o => (A3 o).1
  have x1 := fun o => (A3 o).2.1
  have x2 := fun o => (A3 o).2.2.1
  have x3 := fun o => (A3 o).2.2.2.1
  have x4 := fun o => (A3 o).2.2.2.2.1
  have y0 := fun o => (A3 o).2.2.2.2.2.1
  have y1 := fun o => (A3 o).2.2.2.2.2.2.1
  have y2 := fun o => (A3 o).2.2.2.2.2.2.2.1
  have y3 := fun o => (A3 o).2.2.2.2.2.2.2.2.1
  have y4 := fun o => (A3 o).2.2.2.2.2.2.2.2.2.1
  clear s1 s2 s3 hb hb0 A1 A2 A3
  have hsz := hb2.size
  go_wp2_with fail
  go_region
  all_goals
    go_wp2
    refine bodyPost_ret (v := .tuple #[.int .u64 (a : Int), fl c z s o p]) (by simp [results, Tryd.results20, go_sem, *]) rfl ⟨rfl, ?_⟩
    refine hb2.trans ?_
    go_grown
    all_goals omega
set_option maxHeartbeats 2000000 in
theorem shift_z8 (K : Int) (j1 j2 : Nat) (tn : Bool) (wd : Int) (x a : Nat) (hx : U x) (hxa : cN x wd = a) (m : Nat) (hk : m % 64 = 0) (c z s o p : Bool) (h8 : (hI wd == 8) = true)
    (HS : ∀ W, Calls Tryd.prog 42 #[.int .i64 wd, .int .u64 (a : Int)] W fun e w' => ∃ b cs1 cs2, e = .returned (.map (some b)) ∧ (Instr.lookup 55 (.map (some b)) (.int .u8 K) true).run Tryd.prog w' = .ok (.tuple #[.agg #[.func (Fn.func j1) #[] cs1, .func (Fn.func j2) #[] cs2, .bool tn], .bool true]) w' ∧ Below W.heap.size W w')
    (w : World) (hm : Mk w) :
    Calls Tryd.prog 20 #[.int .u8 K, .int .i64 wd, .int .u64 x, .int .u8 (m : Int), fl c z s o p] w fun e w' => e = .returned (.tuple #[.int .u64 (a : Int), fl c z s o p]) ∧ Below w.heap.size w w' := by
  have s1 := Lib.hid (((Slot5.new w (.bool c) (.bool z) (.bool s) (.bool o) (.bool p) 24).alloc (Obj.cells #[Value.int IntKind.u64 0] 22)).alloc fl0)
  have s2 := Lib.hid ((Slot1.new (w.alloc (flw c z s o p)) (.int .u64 0) 22).alloc fl0)
  have s3 := Lib.hid (Slot5.new ((w.alloc (flw c z s o p)).alloc (Obj.cells #[Value.int IntKind.u64 0] 22)) (.bool false) (.bool false) (.bool false) (.bool false) (.bool false) 24)
  have hb0 : Below w.heap.size w (((w.alloc (flw c z s o p)).alloc (Obj.cells #[Value.int IntKind.u64 0] 22)).alloc fl0) := (((Below.refl _ _).alloc (Nat.le_refl _) _).alloc (by simp) _).alloc (by simp; omega) _
  have hcut : ∀ W, Mk W → Calls Tryd.prog 36 #[.int .u64 x, .int .i64 wd] W fun e w' => e = .returned (.int .u64 (a : Int)) ∧ W = w' := fun W hW => by rw [← hxa]; exact cut_any x hx wd W hW
  have hmk : ((m : Int) % 64) = 0 := by omega
  have HC := Lib.hid hcut
  have HS' := Lib.hid HS
  have HM := Lib.hid hm
  clear hcut HS hm hxa hx hk
  go_enter Tryd.func20, Tryd.ntmps20
  go_wp2_with (first | (go_at_call 36; refine (HC.out _ (((HM.out.alloc _).alloc _).alloc _)).mono ?_; rintro e w' ⟨rfl, rfl⟩) | (go_at_call 41; refine (aheld_any _ _).mono ?_; rintro e w' ⟨rfl, rfl⟩))
  go_at_call 42
  refine (HS'.out _).mono ?_
  rintro e w1 ⟨b, cs1, cs2, rfl, hlk, hb⟩
  have hb2 := hb0.trans (hb.mono (by simp; omega))
  have A1 := fun o => (s1.out.keep hb).alloc o
  have A2 := fun o => (s2.out.keep hb).alloc o
  have A3 := fun o => (s3.out.keep hb).alloc o
  simp only [World.size_alloc] at A2 A3 hlk
  have c0 := fun o => (A1 o).1
  have c1 := fun o => (A1 o).2.1
  have c2 := fun o => (A1 o).2.2.1
  have c3 := fun o => (A1 o).2.2.2.1
  have c4 := fun o => (A1 o).2.2.2.2.1
  have d0 := fun o => (A2 o).1
  have e0 := fun o => (A2 o).2.1
  have x0 := fun o => (A3 o).1
  have x1 := fun o => (A3 o).2.1
  have x2 := fun o => (A3 o).2.2.1
  have x3 := fun o => (A3 o).2.2.2.1
  have x4 := fun o => (A3 o).2.2.2.2.1
  have y0 := fun o => (A3 o).2.2.2.2.2.1
  have y1 := fun o => (A3 o).2.2.2.2.2.2.1
  have y2 := fun o => (A3 o).2.2.2.2.2.2.2.1
  have y3 := fun o => (A3 o).2.2.2.2.2.2.2.2.1
  have y4 := fun o => (A3 o).2.2.2.2.2.2.2.2.2.1
  clear s1 s2 s3 hb hb0 A1 A2 A3
  have hsz := hb2.size
  go_wp2_with fail
  go_region
  all_goals
    go_wp2
    refine bodyPost_ret (v := .tuple #[.int .u64 (a : Int), fl c z s o p]) (by simp [results, Tryd.results20, go_sem, *]) rfl ⟨rfl, ?_⟩
    refine hb2.trans ?_
    go_grown
    all_goals omega
end Go.Proofs.YtmfoeolllobidaaDoor
