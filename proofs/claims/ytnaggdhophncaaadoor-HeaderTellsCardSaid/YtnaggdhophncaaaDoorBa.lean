/- bits.Bytes, bits.Number, and the reference's. -/
import Derived.Test.YtnaggdhophncaaaDoorRows
import Derived.WalkKit
import Derived.ProofKit
import Derived.Below
import Derived.Lib.Hide
import Derived.Handy
import Derived.WalkSpells
import Derived.WalkLawsBesides
import Derived.Deep.WholeRow
import Derived.Deep.MidRow
import Derived.Deep.RegionHeld3
import Derived.Deep.DrawnRows
import Derived.RegionTactic
import Derived.Deep.DeepCutAuto
import Derived.Deep.OwnRows
import Derived.LoopIn
import Derived.LoopNIn
import Derived.Maps.AppendAt
import Derived.OwnWalkIn
import Derived.RangeFuncBound
import Derived.RangeFuncBox
import Derived.RangeFuncCalls
import Derived.RangeFuncLeaves
import Derived.RangeFuncNested
import Derived.Shelf.Abstract
import Derived.Shelf.RegionOpen
import Derived.TacticsInMore
import Derived.IntWalk
import Derived.Laws.BitsAllLaws
namespace Go.Proofs.YtnaggdhophncaaaDoor
open Go.RowKit Go.Shelf
set_option linter.unusedVariables false
set_option linter.unusedSimpArgs false
attribute [local go_sem] Oper.semAt_some
def hI (wd : Int) : Int := if wd < 1 then 1 else if 8 < wd then 8 else wd
theorem hI_bd (wd : Int) : 1 ≤ hI wd ∧ hI wd ≤ 8 := by unfold hI; split <;> (try split) <;> omega
def hN (wd : Int) : Nat := (hI wd).toNat
theorem hN_bd (wd : Int) : 1 ≤ hN wd ∧ hN wd ≤ 8 := by have := hI_bd wd; unfold hN; omega
theorem hI_N (wd : Int) : hI wd = (hN wd : Int) := by have := hI_bd wd; unfold hN; omega
def U (a : Nat) : Prop := a < 18446744073709551616
/-- The word of the first k of these bytes, the lowest one first. -/
def numN (z : Nat → Nat) : Nat → Nat
  | 0 => 0
  | k + 1 => numN z k + z k * 2 ^ (8 * k)
theorem numN_lt (z : Nat → Nat) (hz : ∀ j, z j < 256) (k : Nat) : numN z k < 2 ^ (8 * k) := by
  induction k with
  | zero => simp [numN]
  | succ k ih =>
    unfold numN
    have e : 2 ^ (8 * (k + 1)) = 256 * 2 ^ (8 * k) := by rw [Nat.mul_add, Nat.pow_add]; omega
    have h1 := hz k
    have : z k * 2 ^ (8 * k) ≤ 255 * 2 ^ (8 * k) := Nat.mul_le_mul_right _ (by omega)
    omega
theorem num_step (z : Nat → Nat) (hz : ∀ j, z j < 256) (k : Nat) (hk : k < 8) : bits BinOp.or IntKind.u64 (↑(numN z k)) (IntKind.u64.wrap (IntKind.u64.wrap ↑(z k) * 2 ^ (8 * k))) = ((numN z (k + 1) : Nat) : Int) := by
  have h0 := numN_lt z hz k
  have h1 := hz k
  have hp : 2 ^ (8 * (k + 1)) ≤ 2 ^ 64 := Nat.pow_le_pow_right (by decide) (by omega)
  have e64 : (2 : Nat) ^ 64 = 18446744073709551616 := by decide
  have e1 : 2 ^ (8 * (k + 1)) = 256 * 2 ^ (8 * k) := by rw [Nat.mul_add, Nat.pow_add]; omega
  have h2 : z k * 2 ^ (8 * k) ≤ 255 * 2 ^ (8 * k) := Nat.mul_le_mul_right _ (by omega)
  have hw : IntKind.u64.wrap (IntKind.u64.wrap ↑(z k) * 2 ^ (8 * k)) = ((z k * 2 ^ (8 * k) : Nat) : Int) := by
    rw [IntKind.wrap_u64, IntKind.wrap_u64, Int.emod_eq_of_lt (a := (z k : Int)) (by omega) (by omega), show ((z k : Int) * 2 ^ (8 * k)) = ((z k * 2 ^ (8 * k) : Nat) : Int) by simp]
    exact Int.emod_eq_of_lt (by omega) (by omega)
  rw [hw, u64_or_nat _ _ (by omega) (by omega)]
  congr 1
  rw [Nat.or_comm, nat_join (8 * k) _ _ (Nat.mul_mod_left _ _) h0, Nat.add_comm]
  rfl

set_option maxHeartbeats 400000 in
theorem number_lt (b off len cap : Nat) (z : Nat → Nat) (hz : ∀ j, z j < 256) (w : World) (hc : ∀ j, j < len → w.cell? ⟨b, off + j, none⟩ = some (.int .u8 (z j : Nat))) (hcap : len ≤ cap) (h8 : len ≤ 8) :
    Calls Tryd.prog 34 #[.slice (some ⟨b, off, none⟩) len cap] w fun e w' => e = .returned (.int .u64 (numN z len : Nat)) ∧ w' = w := by
  go_enter Tryd.func34, Tryd.ntmps34
  go_wp2_with (fail)
  go_loop [3, 12] (fun x i => ∃ k : Nat, k ≤ len ∧ i = .int .i64 k ∧ x = .int .u64 (numN z k : Nat)) (fun _ i => len - (intOf i).toNat)
  case atStart => exact ⟨0, Nat.zero_le _, rfl, rfl⟩
  case round =>
    obtain ⟨k, hk, rfl, rfl⟩ := hrel
    by_cases hlt : k < len
    · have hck := hc k (by omega)
      have HS := Lib.hid (num_step z hz k (by omega))
      go_wp2
      go_round
      case rel => exact ⟨k + 1, by omega, by go_num, congrArg (Value.int IntKind.u64) HS.out⟩
      case measure => simp [intOf]; omega
    · obtain rfl : k = len := by omega
      go_wp2
      go_ret
      exact ⟨rfl, rfl⟩

set_option maxHeartbeats 400000 in
theorem number_ge (b off len cap : Nat) (z : Nat → Nat) (hz : ∀ j, z j < 256) (w : World) (hc : ∀ j, j < len → w.cell? ⟨b, off + j, none⟩ = some (.int .u8 (z j : Nat))) (hcap : len ≤ cap) (h8 : 8 < len) :
    Calls Tryd.prog 34 #[.slice (some ⟨b, off, none⟩) len cap] w fun e w' => e = .returned (.int .u64 (numN z 8 : Nat)) ∧ w' = w := by
  go_enter Tryd.func34, Tryd.ntmps34
  go_wp2_with (fail)
  go_loop [3, 12] (fun x i => ∃ k : Nat, k ≤ 8 ∧ i = .int .i64 k ∧ x = .int .u64 (numN z k : Nat)) (fun _ i => 8 - (intOf i).toNat)
  case atStart => exact ⟨0, Nat.zero_le _, rfl, rfl⟩
  case round =>
    obtain ⟨k, hk, rfl, rfl⟩ := hrel
    by_cases hlt : k < 8
    · have hck := hc k (by omega)
      have HS := Lib.hid (num_step z hz k (by omega))
      go_wp2
      go_round
      case rel => exact ⟨k + 1, by omega, by go_num, congrArg (Value.int IntKind.u64) HS.out⟩
      case measure => simp [intOf]; omega
    · obtain rfl : k = 8 := by omega
      go_wp2
      go_ret
      exact ⟨rfl, rfl⟩

theorem number_any (b off len cap : Nat) (z : Nat → Nat) (hz : ∀ j, z j < 256) (w : World) (hc : ∀ j, j < len → w.cell? ⟨b, off + j, none⟩ = some (.int .u8 (z j : Nat))) (hcap : len ≤ cap) :
    Calls Tryd.prog 34 #[.slice (some ⟨b, off, none⟩) len cap] w fun e w' => e = .returned (.int .u64 (numN z (min len 8) : Nat)) ∧ w' = w := by
  by_cases h8 : len ≤ 8
  · rw [Nat.min_eq_left (by omega)]; exact number_lt b off len cap z hz w hc hcap h8
  · rw [Nat.min_eq_right (by omega)]; exact number_ge b off len cap z hz w hc hcap (by omega)
set_option maxHeartbeats 400000 in
theorem number_nil (w : World) :
    Calls Tryd.prog 34 #[.slice none 0 0] w fun e w' => e = .returned (.int .u64 0) ∧ w' = w := by
  go_enter Tryd.func34, Tryd.ntmps34
  go_wp2_with (fail)
  go_loop [3, 12] (fun x i => i = .int .i64 0 ∧ x = .int .u64 0) (fun _ i => 0)
  case atStart => exact ⟨rfl, rfl⟩
  case round =>
    obtain ⟨rfl, rfl⟩ := hrel
    go_wp2
    go_ret
    exact ⟨rfl, rfl⟩
def upto {α : Type} (f : Nat → α) (k : Nat) : List α := (List.range k).map f
theorem upto_succ {α : Type} (f : Nat → α) (k : Nat) : upto f (k + 1) = upto f k ++ [f k] := by simp [upto, List.range_succ]
theorem upto_length {α : Type} (f : Nat → α) (k : Nat) : (upto f k).length = k := by simp [upto]

theorem held_in (F : Fence) (n : Nat) (h39 : F.fn 39) (hro : F.round = none) (wd : Int) (w : World) :
    CallsIn F n Tryd.prog 39 #[.int .i64 wd] w fun e w' => e = .returned (.int .i64 (hI wd)) ∧ w = w' := by
  refine callsIn_of_wp Tryd.func39 rfl h39 ?_ hro
  simp only [Tryd.ntmps39, List.size_toArray, List.length_cons, List.length_nil, Nat.reduceAdd, Nat.reduceSub, Array.replicate_succ, Array.replicate_zero, List.push_toArray, List.append_toArray, List.nil_append, List.cons_append]
  gi_wp2
  all_goals
    go_ret
    refine ⟨?_, rfl⟩
    show Ending.returned (.int .i64 _) = _
    congr 2
    unfold hI
    repeat' split
    all_goals omega

/-- The byte at a place of a word. -/
def byN (a k : Nat) : Nat := a / 2 ^ (8 * k) % 256
theorem byN_lt (a k : Nat) : byN a k < 256 := Nat.mod_lt _ (by decide)
theorem byI (a k : Nat) : ((byN a k : Nat) : Int) = (a : Int) / 2 ^ (8 * k) % 256 := by unfold byN; rw [Int.natCast_emod, Int.natCast_ediv]; simp
/-- A place below N, and a byte. -/
abbrev Pl (N : Nat) : Type := { x : Nat × Nat // x.1 < N }
def eachF (a : Nat) (wd : Int) (j : Nat) : Pl (hN wd) := if h : j < hN wd then ⟨(j, byN a j), h⟩ else ⟨(0, 0), (hN_bd wd).1⟩
theorem eachF_at (a : Nat) (wd : Int) (j : Nat) (h : j < hN wd) : eachF a wd j = ⟨(j, byN a j), h⟩ := dif_pos h

/-- What a round keeps of two boxes. -/
def Kp2 (A B : Nat) (W W' : World) : Prop := W'.cell? ⟨A, 0, none⟩ = W.cell? ⟨A, 0, none⟩ ∧ W'.cell? ⟨B, 0, none⟩ = W.cell? ⟨B, 0, none⟩
theorem kp2_t {A B : Nat} {X Y Z : World} (h : Kp2 A B X Y) (k : Kp2 A B Y Z) : Kp2 A B X Z := ⟨k.1.trans h.1, k.2.trans h.2⟩
theorem kp2_b {A B : Nat} {w : World} (hA : A < w.heap.size) (hB : B < w.heap.size) (W : World) (l : Nat) (o o' : Obj) (hl : w.heap.size ≤ l) (h : W.heap[l]? = some o) (h1 : o.isCells = false) (h2 : o.isWalk = false) : Kp2 A B W (W.putObj l o') :=
  have hb := belowK_b (Nat.le_refl w.heap.size) W l o o' hl h h1 h2
  ⟨hb.cell (p := ⟨A, 0, none⟩) hA, hb.cell (p := ⟨B, 0, none⟩) hB⟩

set_option maxRecDepth 100000 in
set_option maxHeartbeats 1000000 in
theorem each1_in (F : Fence) (n : Nat) (h42 : F.fn 42) (h39 : F.fn 39) (hro : F.round = none) (hn : 1 ≤ n) (l A B : Nat) (a : Nat) (wd : Int) (J Jx : List (Pl (hN wd)) → World → Prop)
    (hY : ∀ pre x W, J pre W → pre.length < hN wd → YieldAt F (n - 1) Tryd.prog l #[.int .i64 (x.1.1 : Int), .int .u8 ((x.1.2 : Nat) : Int)] W fun e W' =>
      (e = .returned (.bool true) ∧ J (pre ++ [x]) W' ∧ Kp2 A B W W') ∨ (e = .returned (.bool false) ∧ Jx (pre ++ [x]) W'))
    (W : World) (hA : W.cell? ⟨A, 0, none⟩ = some (.int .i64 wd)) (hB : W.cell? ⟨B, 0, none⟩ = some (.int .u64 a)) (h0 : J [] W) :
    CallsIn F n Tryd.prog 42 #[.func (.yield l) #[] #[], .pointer (some ⟨A, 0, none⟩), .pointer (some ⟨B, 0, none⟩)] W fun e W' => (∃ v, e = .returned v) ∧
      ((∃ ys, ys = upto (eachF a wd) (hN wd) ∧ J ys W') ∨ (∃ pre, (∃ k, k ≤ hN wd ∧ pre = upto (eachF a wd) k) ∧ Jx pre W')) := by
  have hbd := hI_bd wd
  refine callsIn_of_wp Tryd.func42 rfl h42 ?_ hro
  simp only [Tryd.ntmps42, List.size_toArray, List.length_cons, List.length_nil, Nat.reduceAdd, Nat.reduceSub, Array.replicate_succ, Array.replicate_zero, List.push_toArray, List.append_toArray, List.nil_append, List.cons_append]
  gi_wp2_with (gi_at_call 39; refine (held_in F _ h39 hro _ _).mono ?_; rintro e w' ⟨rfl, rfl⟩)
  gi_loopw [7] (fun i wr => ∃ k : Nat, k ≤ hN wd ∧ i = .int .i64 k ∧ J (upto (eachF a wd) k) wr ∧ Kp2 A B W wr)
    (fun i _ => hN wd - (intOf i).toNat)
  case atStart => exact ⟨0, Nat.zero_le _, rfl, h0, rfl, rfl⟩
  case round =>
    obtain ⟨k, hk, rfl, hJs, hnx⟩ := hrel
    have hAx := hnx.1.trans hA
    have hBx := hnx.2.trans hB
    have hIN := hI_N wd
    by_cases hlt : k < hN wd
    · have hlt' : (k : Int) < hI wd := by omega
      obtain ⟨fn, tmps, assign, body, hy, hR⟩ := hY _ (eachF a wd k) wr hJs (by rw [upto_length]; exact hlt)
      rw [eachF_at a wd k hlt] at hy
      dsimp only at hy
      rw [byI] at hy
      clear hIN
      gi_wp2
      refine hR.mono ?_
      rintro e W3 (⟨rfl, hJ3, hk3⟩ | ⟨rfl, hJx3⟩)
      · gi_wp2
        go_roundw
        case rel => exact ⟨k + 1, by omega, by simp, by rw [upto_succ]; exact hJ3, kp2_t hnx hk3⟩
        case measure => simp [intOf]; omega
      · gi_wp2
        refine bodyPost_ret (results_none rfl _ _ _) rfl ?_
        exact ⟨⟨_, rfl⟩, .inr ⟨_, ⟨k + 1, by omega, (upto_succ _ _).symm⟩, hJx3⟩⟩
    · obtain rfl : k = hN wd := by omega
      have hlt' : ¬ ((hN wd : Nat) : Int) < hI wd := by omega
      clear hIN
      gi_wp2
      go_end0
      first | exact ⟨⟨_, rfl⟩, .inl hJs⟩ | exact ⟨⟨_, rfl⟩, .inl ⟨_, rfl, hJs⟩⟩

set_option maxHeartbeats 1000000 in
theorem each_in (F : Fence) (n : Nat) (h40 : F.fn 40) (hro : F.round = none) (a : Nat) (wd : Int) (w : World) :
    CallsIn F n Tryd.prog 40 #[.int .u64 a, .int .i64 wd] w fun e w' => e = .returned (.func (.func 42) #[] #[.pointer (some ⟨w.heap.size + 1, 0, none⟩), .pointer (some ⟨w.heap.size, 0, none⟩)]) ∧ w' = (w.alloc (.cells #[.int .u64 a] 23)).alloc (.cells #[.int .i64 wd] 3) := by
  refine callsIn_of_wp Tryd.func40 rfl h40 ?_ hro
  simp only [Tryd.ntmps40, List.size_toArray, List.length_cons, List.length_nil, Nat.reduceAdd, Nat.reduceSub, Array.replicate_succ, Array.replicate_zero, List.push_toArray, List.append_toArray, List.nil_append, List.cons_append]
  gi_wp2
  go_ret
  exact ⟨rfl, rfl⟩

theorem each_stops (F : Fence) (n : Nat) (h42 : F.fn 42) (h39 : F.fn 39) (hro : F.round = none) (hn : 1 ≤ n) (A B : Nat) (a : Nat) (wd : Int) (w : World) (hAn : A < w.heap.size) (hBn : B < w.heap.size)
    (hA : w.cell? ⟨A, 0, none⟩ = some (.int .i64 wd)) (hB : w.cell? ⟨B, 0, none⟩ = some (.int .u64 a)) :
    SeqStopsK F n Tryd.prog 42 #[.pointer (some ⟨A, 0, none⟩), .pointer (some ⟨B, 0, none⟩)] (fun x : Pl (hN wd) => #[Value.int .i64 (x.1.1 : Int), Value.int .u8 ((x.1.2 : Nat) : Int)]) (Kp2 A B) (fun ys => ys = upto (eachF a wd) (hN wd))
      (fun pre => ∃ k, k ≤ hN wd ∧ pre = upto (eachF a wd) k) (hN wd) w := fun l J Jx W hW _ _ hY h0 =>
  each1_in F n h42 h39 hro hn l A B a wd J Jx hY W ((hW.cell (p := ⟨A, 0, none⟩) (by dsimp only; omega)).trans hA) ((hW.cell (p := ⟨B, 0, none⟩) (by dsimp only; omega)).trans hB) h0

/-- What stands at a place when these have been written. -/
def wr {N : Nat} (pre : List (Pl N)) (j : Nat) : Nat := pre.foldl (fun c x => if x.1.1 = j then x.1.2 else c) 0
theorem wr_snoc {N : Nat} (pre : List (Pl N)) (x : Pl N) (j : Nat) : wr (pre ++ [x]) j = if x.1.1 = j then x.1.2 else wr pre j := by simp [wr]
theorem wr_upto (a : Nat) (wd : Int) (k j : Nat) (hk : k ≤ hN wd) (hj : j < k) : wr (upto (eachF a wd) k) j = byN a j := by
  induction k with
  | zero => omega
  | succ k ih =>
    rw [upto_succ, wr_snoc, eachF_at a wd k (by omega)]
    dsimp only
    split
    · rename_i h; rw [h]
    · exact ih (by omega) (by omega)
theorem info5 : (Tryd.prog.info? 5).map (fun i => (i.zero, i.size, i.bytes)) = some (some (.int .u8 0), 1, 1) := by kernel_rfl
/-- A new row of so many bytes. -/
def row0 (wd : Int) : Obj := .cells (madeCells #[.int .u8 0] (hN wd)) 5
theorem make_row (wd : Int) (w : World) : (Instr.makeSlice 22 (.int .i64 (hI wd)) (.int .i64 (hI wd))).run Tryd.prog w = .ok (.slice (some ⟨w.heap.size, 0, none⟩) (hN wd) (hN wd)) (w.alloc (row0 wd)) := by
  have hb := hN_bd wd
  rw [hI_N]
  exact run_make_row' 22 5 (.int .u8 0) 1 Tryd.underlying22 info5 rfl .i64 .i64 (hN wd) (by omega) (by omega) w

theorem row0_cell (w : World) (wd : Int) (j : Nat) (hj : j < hN wd) : (w.alloc (row0 wd)).cell? ⟨w.heap.size, j, none⟩ = some (.int .u8 0) := by
  unfold row0
  rw [World.cell?_alloc_new]
  simp [madeCells, hj, Nat.mod_one]
theorem row0_frozen (w : World) (wd : Int) (j : Nat) : (w.alloc (row0 wd)).frozen? ⟨w.heap.size, j, none⟩ = false := by
  unfold row0
  simp [go_sem]
theorem far (W : World) (p q : Addr) (v : Value) (h : p.block ≠ q.block) : (W.setCell p v).cell? q = W.cell? q := by
  apply World.cell?_setCell_other
  intro e; exact h (by rw [e])
theorem farO (W : World) (b i j : Nat) (v : Value) (h : i ≠ j) : (W.setCell ⟨b, i, none⟩ v).cell? ⟨b, j, none⟩ = W.cell? ⟨b, j, none⟩ := by
  apply World.cell?_setCell_other
  intro e; cases e; exact h rfl
set_option maxRecDepth 100000 in
set_option maxHeartbeats 1000000 in
theorem bytes_in (F : Fence) (n : Nat) (h36 : F.fn 36) (h39 : F.fn 39) (h40 : F.fn 40) (h42 : F.fn 42) (hro : F.round = none) (hn : 3 ≤ n) (a : Nat) (wd : Int) (w : World) :
    CallsIn F n Tryd.prog 36 #[.int .u64 a, .int .i64 wd] w fun e W' => e = .returned (.slice (some ⟨w.heap.size, 0, none⟩) (hN wd) (hN wd)) ∧ (∀ j, j < hN wd → W'.cell? ⟨w.heap.size, j, none⟩ = some (.int .u8 (byN a j : Nat))) ∧ Below w.heap.size w W' := by
  have h1 : 1 ≤ n := by omega
  have hmk := make_row wd
  refine callsIn_of_wp_marks Tryd.func36 rfl h36 ?_ hro
  simp only [Tryd.ntmps36, List.size_toArray, List.length_cons, List.length_nil, Nat.reduceAdd, Nat.reduceSub, Array.replicate_succ, Array.replicate_zero, List.push_toArray, List.append_toArray, List.nil_append, List.cons_append]
  gi_wp2_with (first | (gi_at_call 39; refine (held_in F _ h39 hro _ _).mono ?_; rintro e w' ⟨rfl, rfl⟩) | (gi_at_call 40; refine (each_in F _ h40 hro _ _ _).mono ?_; rintro e w' ⟨rfl, rfl⟩))
  have hN0 := hN_bd wd
  have e1 : (((w.alloc (row0 wd)).alloc (Obj.cells #[Value.slice (some { block := w.heap.size, off := 0 }) (hN wd) (hN wd)] 22)).alloc (Obj.cells #[Value.int IntKind.u64 ↑a] 23)).heap.size = w.heap.size + 3 := by simp
  have bB := (Boxed.new (w.alloc (row0 wd)) 22 (.slice (some ⟨w.heap.size, 0, none⟩) (hN wd) (hN wd)))
  have bX := (Boxed.new ((w.alloc (row0 wd)).alloc (Obj.cells #[Value.slice (some { block := w.heap.size, off := 0 }) (hN wd) (hN wd)] 22)) 23 (.int .u64 a))
  have bW := (Boxed.new (((w.alloc (row0 wd)).alloc (Obj.cells #[Value.slice (some { block := w.heap.size, off := 0 }) (hN wd) (hN wd)] 22)).alloc (Obj.cells #[Value.int IntKind.u64 ↑a] 23)) 3 (.int .i64 wd))
  have hB0 : Below w.heap.size w ((((w.alloc (row0 wd)).alloc (Obj.cells #[Value.slice (some { block := w.heap.size, off := 0 }) (hN wd) (hN wd)] 22)).alloc (Obj.cells #[Value.int IntKind.u64 ↑a] 23)).alloc (Obj.cells #[Value.int IntKind.i64 wd] 3)) :=
    ((((Below.refl _ w).alloc (Nat.le_refl _) _).alloc (by simp) _).alloc (by simp; omega) _).alloc (by simp; omega) _
  simp only [World.size_alloc] at bB bX bW
  refine wpIn_rangeFunc_ownG hro h1 (gf := 42) (lb := #[.pointer (some ⟨w.heap.size + 1 + 1 + 1, 0, none⟩), .pointer (some ⟨w.heap.size + 1 + 1, 0, none⟩)]) rfl h42 (enters_of Tryd.func42 (by kernel_rfl) rfl)
    (each_stops F (n - 1) h42 h39 hro (by omega) (w.heap.size + 1 + 1 + 1) (w.heap.size + 1 + 1) a wd _ (by simp) (by simp) bW.cell (bX.alloc _).cell) kp2_t (kp2_b (by simp) (by simp)) (Below.refl _ _) (fun _ => rfl)
    (fun pre W => ((∀ j, j < hN wd → W.cell? ⟨w.heap.size, j, none⟩ = some (.int .u8 (wr pre j : Nat)) ∧ W.frozen? ⟨w.heap.size, j, none⟩ = false) ∧ W.cell? ⟨w.heap.size + 1, 0, none⟩ = some (.slice (some ⟨w.heap.size, 0, none⟩) (hN wd) (hN wd))) ∧ Below w.heap.size w W)
    (fun _ _ _ => False)
    (OwnFrom.and (Own.from (fun s A B row hs hg hr => ⟨fun j hj => ⟨cell_kept (hs.1 j hj).1 hg hr, (frozen_kept (hs.1 j hj).1 hg hr).trans (hs.1 j hj).2⟩, cell_kept hs.2 hg hr⟩) _) (ownFrom_below (Nat.le_refl _) (by simp; omega)))
    (fun _ _ _ _ _ hs _ _ => hs)
    ?start
    (fun x => { tmps := #[Value.int IntKind.u64 ↑a, Value.int IntKind.i64 wd, undef, undef, Value.slice none 0 0,
        Value.pointer (some { block := w.heap.size + 1, off := 0 }), .int .i64 (x.1.1 : Int), .int .u8 ((x.1.2 : Nat) : Int), Value.int IntKind.i64 wd,
        Value.int IntKind.i64 (hI wd), Value.slice (some { block := w.heap.size, off := 0 }) (hN wd) (hN wd),
        Value.int IntKind.u64 ↑a, Value.int IntKind.i64 wd,
        Value.func (Fn.func 42) #[]
          #[Value.pointer (some { block := w.heap.size + 1 + 1 + 1, off := 0 }),
            Value.pointer (some { block := w.heap.size + 1 + 1, off := 0 })],
        .int .i64 (x.1.1 : Int), .int .u8 ((x.1.2 : Nat) : Int), undef, undef, undef, undef, undef], defers := [] }) ?assign ?body ?done ?stop
  case start =>
    refine ⟨⟨fun j hj => ⟨?_, ?_⟩, ?_⟩, hB0⟩
    · have h := row0_cell w wd j hj
      simpa [wr, go_sem] using h
    · have h := row0_frozen w wd j
      simpa [go_sem] using h
    · exact ((bB.alloc _).alloc _).cell
  case assign =>
    intro l x W K hK
    gi_wp2
    exact hK
  case body =>
    rintro l pre x W ⟨⟨hc, hs⟩, hB⟩ _
    have hx := x.2
    have hcx := hc x.1.1 hx
    obtain ⟨hc1, hf1⟩ := hcx
    have hxI : (x.1.1 : Int) < (hN wd : Nat) := by omega
    have HC := Lib.hid hc
    clear hc
    gi_wp2
    refine ⟨(KeepsOthers.setCell _ _ _).from _, ⟨far _ _ _ _ (by dsimp only; omega), far _ _ _ _ (by dsimp only; omega)⟩, ⟨fun j hj => ⟨?_, ?_⟩, ?_⟩, hB.setCell (p := ⟨w.heap.size, x.1.1, none⟩) (Nat.le_refl _) _⟩
    · rw [wr_snoc]
      by_cases he : x.1.1 = j
      · rw [if_pos he, ← he]; exact World.cell?_setCell_same _ _ _ hc1
      · rw [if_neg he, farO _ _ _ _ _ he]; exact (HC.out j hj).1
    · rw [World.frozen?_setCell]; exact (HC.out j hj).2
    · rw [far _ _ _ _ (by dsimp only; omega)]; exact hs
  case done =>
    rintro D ys W hD rfl ⟨⟨hc, hs⟩, hB⟩ hK
    have HC := Lib.hid (fun j (hj : j < hN wd) => (hc j hj).1)
    clear hc
    gi_wp2
    refine ⟨by simp, .inl ⟨_, _, rfl, run_takeDeferred hK, ?_⟩⟩
    refine ⟨_, results_tmp rfl _ _ _, rfl, fun j hj => ?_, hB.trans (belowK_b (w := w) (Nat.le_refl _) W D _ _ (by simp at hD; omega) hK rfl rfl)⟩
    have h := HC.out j hj
    rw [wr_upto a wd _ j (Nat.le_refl _) hj] at h
    exact cell_kept h (grownBy_putObj' _ D (.deferred none)) (fun r e => by cases e; exact ⟨_, hK, rfl⟩)
  case stop =>
    rintro D c pre W _ _ h _
    exact h.elim
theorem bytes_any (a : Nat) (wd : Int) (w : World) :
    Calls Tryd.prog 36 #[.int .u64 a, .int .i64 wd] w fun e W' => e = .returned (.slice (some ⟨w.heap.size, 0, none⟩) (hN wd) (hN wd)) ∧ (∀ j, j < hN wd → W'.cell? ⟨w.heap.size, j, none⟩ = some (.int .u8 (byN a j : Nat))) ∧ Below w.heap.size w W' :=
  callsIn_wide.1 (bytes_in Fence.wide 3 trivial trivial trivial trivial rfl (Nat.le_refl _) a wd w)

set_option maxHeartbeats 1000000 in
theorem rnumber_any (b off len cap : Nat) (z : Nat → Nat) (hz : ∀ j, z j < 256) (w : World) (hc : ∀ j, j < len → w.cell? ⟨b, off + j, none⟩ = some (.int .u8 (z j : Nat))) (hcap : len ≤ cap) :
    Calls Tryd.prog 35 #[.slice (some ⟨b, off, none⟩) len cap] w fun e w' => e = .returned (.int .u64 (numN z (min len 8) : Nat)) ∧ w' = w := by
  go_enter Tryd.func35, Tryd.ntmps35
  go_wp2_with (fail)
  go_loop [3, 4] (fun x i => ∃ k : Nat, k ≤ min len 8 ∧ i = .int .i64 k ∧ x = .int .u64 (numN z k : Nat)) (fun _ i => 8 - (intOf i).toNat)
  case atStart => exact ⟨0, Nat.zero_le _, rfl, rfl⟩
  case round =>
    obtain ⟨k, hk, rfl, rfl⟩ := hrel
    by_cases hlt : k < len
    · by_cases h8 : k < 8
      · have hck := hc k (by omega)
        have HS := Lib.hid (num_step z hz k (by omega))
        have h8' : (k : Int) < 8 := by omega
        go_wp2
        go_round
        case rel => exact ⟨k + 1, by omega, by go_num, congrArg (Value.int IntKind.u64) HS.out⟩
        case measure => simp [intOf]; omega
      · obtain rfl : k = 8 := by omega
        have hm : min len 8 = 8 := by omega
        go_wp2
        go_ret
        exact ⟨rfl, rfl⟩
    · obtain rfl : k = len := by omega
      have hm : min k 8 = k := by omega
      go_wp2
      go_ret
      exact ⟨rfl, rfl⟩
set_option maxHeartbeats 400000 in
theorem rnumber_nil (w : World) :
    Calls Tryd.prog 35 #[.slice none 0 0] w fun e w' => e = .returned (.int .u64 0) ∧ w' = w := by
  go_enter Tryd.func35, Tryd.ntmps35
  go_wp2_with (fail)
  go_loop [3, 4] (fun x i => i = .int .i64 0 ∧ x = .int .u64 0) (fun _ i => 0)
  case atStart => exact ⟨rfl, rfl⟩
  case round =>
    obtain ⟨rfl, rfl⟩ := hrel
    go_wp2
    go_ret
    exact ⟨rfl, rfl⟩
set_option maxHeartbeats 400000 in
theorem wide_any (wd : Int) (w : World) :
    Calls Tryd.prog 41 #[.int .i64 wd] w fun e w' => e = .returned (.int .i64 (hI wd)) ∧ w = w' := by
  go_enter Tryd.func41, Tryd.ntmps41
  go_wp2
  all_goals
    go_ret
    refine ⟨?_, rfl⟩
    show Ending.returned (.int .i64 _) = _
    congr 2
    unfold hI
    repeat' split
    all_goals omega
theorem info_parts {t : TypeId} {z : Value} {s b : Nat} (h : (Tryd.prog.info? t).map (fun i => (i.zero, i.size, i.bytes)) = some (some z, s, b)) : ∃ i, Tryd.prog.info? t = some i ∧ i.zero = some z ∧ i.size = s ∧ i.bytes = b := by
  cases hi : Tryd.prog.info? t with
  | none => rw [hi] at h; cases h
  | some i =>
    rw [hi] at h
    simp only [Option.map_some, Option.some.injEq, Prod.mk.injEq] at h
    exact ⟨i, rfl, h.1, h.2.1, h.2.2⟩
abbrev bsV (a k : Nat) : List Value := upto (fun j => Value.int .u8 (byN a j : Nat)) k
theorem bsV_len (a k : Nat) : (bsV a k).length = k := upto_length _ _
theorem bsV_succ (a k : Nat) : bsV a (k + 1) = bsV a k ++ [.int .u8 (byN a k : Nat)] := upto_succ _ _
set_option maxHeartbeats 1000000 in
theorem rbytes_any (a : Nat) (wd : Int) (w : World) :
    Calls Tryd.prog 37 #[.int .u64 a, .int .i64 wd] w fun e W' => ∃ v, e = .returned v ∧ W'.ownsRow w.heap.size 5 1 v (hN wd) (bsV a (hN wd)) ∧ Below w.heap.size w W' := by
  have hbd := hN_bd wd
  have hIN := hI_N wd
  obtain ⟨i0, hi, hz0, hz1, hz2⟩ := info_parts info5
  go_enter Tryd.func37, Tryd.ntmps37
  go_wp2_with fail
  go_loopw [5, 6] (fun v i wr => ∃ k : Nat, k ≤ hN wd ∧ i = .int .i64 k ∧ wr.ownsRow w.heap.size 5 1 v k (bsV a k) ∧ Below w.heap.size w wr) (fun _ i _ => hN wd - (intOf i).toNat)
  case atStart => exact ⟨0, Nat.zero_le _, rfl, World.ownsRow_nil _ _ _ _, Below.refl _ _⟩
  case round =>
    obtain ⟨k, hk, rfl, hown, hnx⟩ := hrel
    by_cases hlt : k < hN wd
    · have hsz := hnx.size
      go_wp2_with (first | (go_at_call 41; refine (wide_any _ _).mono ?_; rintro e w' ⟨rfl, rfl⟩) | (at_builtin; refine wpList_append_own _ rfl _ _ 22 rfl w.heap.size 5 i0 (.int .u8 0) 1 1 Tryd.underlying22 hi hz0 hz1 hz2 rfl (by decide) _ k (bsV a k) rfl (hown.alloc _) ⟨wr.heap.size, 0, none⟩ 1 1 [.int .u8 ((a : Int) / 2 ^ (8 * k) % 256)] rfl rfl ?c1 ?c2 ?c3 ?c4 ?c5 ?_))
      case c1 =>
        intro j u hj
        match j, hj with
        | 0, hj => simp at hj; subst hj; simp [Addr.add]
      case c2 => intro u hu; simp at hu; subst hu; rfl
      case c3 => unfold maxLen; omega
      case c4 => omega
      case c5 => simp; omega
      intro v' w1 hown' hgrow _
      have hown2 : w1.ownsRow w.heap.size 5 1 v' (k + 1) (bsV a (k + 1)) := by rw [bsV_succ, byI]; exact hown'
      have hb2 : Below w.heap.size w w1 := (hnx.alloc (by omega) _).grown hgrow (by simp; omega) (fun j hj => by have := (hown.lt j hj).1; omega)
      clear hown' hgrow hown
      go_wp2
      go_roundw
      case rel => exact ⟨k + 1, by omega, by go_num, hown2, hb2⟩
      case measure => simp [intOf]; omega
    · obtain rfl : k = hN wd := by omega
      go_wp2_with (go_at_call 41; refine (wide_any _ _).mono ?_; rintro e w' ⟨rfl, rfl⟩)
      go_ret
      exact ⟨_, rfl, hown, hnx⟩
end Go.Proofs.YtnaggdhophncaaaDoor
