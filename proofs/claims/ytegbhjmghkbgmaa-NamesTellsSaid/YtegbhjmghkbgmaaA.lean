/- Bytes and numbers, rows, frames: carried over. -/
import Derived.Test.YtegbhjmghkbgmaaRows
import Derived.WalkKit
import Derived.ProofKit
import Derived.Below
import Derived.Lib.Hide
import Derived.Handy
import Derived.WalkSpells
import Derived.WalkLawsBesides
import Derived.Deep.WholeRow
import Derived.Deep.MidRow
import Derived.Deep.RegionHeld3
import Derived.Deep.DrawnRows
import Derived.RegionTactic
import Derived.Deep.DeepCutAuto
import Derived.Deep.OwnRows
import Derived.LoopIn
import Derived.LoopNIn
import Derived.Maps.AppendAt
import Derived.OwnWalkIn
import Derived.RangeFuncBound
import Derived.RangeFuncBox
import Derived.RangeFuncCalls
import Derived.RangeFuncLeaves
import Derived.RangeFuncNested
import Derived.Shelf.Abstract
import Derived.Shelf.RegionOpen
import Derived.TacticsInMore
import Derived.IntWalk
import Derived.Laws.BitsAllLaws
import Derived.Laws.BytesArg
import Derived.Laws.AppendOwnNone
import Derived.DeepKeys
import Derived.Deep.MidRow
namespace Go.Proofs.Ytegbhjmghkbgmaa
open Go.RowKit Go.Shelf
set_option linter.unusedVariables false
set_option linter.unusedSimpArgs false
attribute [local go_sem] Oper.semAt_some
def hI (wd : Int) : Int := if wd < 1 then 1 else if 8 < wd then 8 else wd
theorem hI_bd (wd : Int) : 1 ≤ hI wd ∧ hI wd ≤ 8 := by unfold hI; split <;> (try split) <;> omega
def hN (wd : Int) : Nat := (hI wd).toNat
theorem hN_bd (wd : Int) : 1 ≤ hN wd ∧ hN wd ≤ 8 := by have := hI_bd wd; unfold hN; omega
theorem hI_N (wd : Int) : hI wd = (hN wd : Int) := by have := hI_bd wd; unfold hN; omega
def U (a : Nat) : Prop := a < 18446744073709551616
/-- The word of the first k of these bytes, the lowest one first. -/
def numN (z : Nat → Nat) : Nat → Nat
  | 0 => 0
  | k + 1 => numN z k + z k * 2 ^ (8 * k)
theorem numN_lt (z : Nat → Nat) (hz : ∀ j, z j < 256) (k : Nat) : numN z k < 2 ^ (8 * k) := by
  induction k with
  | zero => simp [numN]
  | succ k ih =>
    unfold numN
    have e : 2 ^ (8 * (k + 1)) = 256 * 2 ^ (8 * k) := by rw [Nat.mul_add, Nat.pow_add]; omega
    have h1 := hz k
    have : z k * 2 ^ (8 * k) ≤ 255 * 2 ^ (8 * k) := Nat.mul_le_mul_right _ (by omega)
    omega
theorem num_step (z : Nat → Nat) (hz : ∀ j, z j < 256) (k : Nat) (hk : k < 8) : bits BinOp.or IntKind.u64 (↑(numN z k)) (IntKind.u64.wrap (IntKind.u64.wrap ↑(z k) * 2 ^ (8 * k))) = ((numN z (k + 1) : Nat) : Int) := by
  have h0 := numN_lt z hz k
  have h1 := hz k
  have hp : 2 ^ (8 * (k + 1)) ≤ 2 ^ 64 := Nat.pow_le_pow_right (by decide) (by omega)
  have e64 : (2 : Nat) ^ 64 = 18446744073709551616 := by decide
  have e1 : 2 ^ (8 * (k + 1)) = 256 * 2 ^ (8 * k) := by rw [Nat.mul_add, Nat.pow_add]; omega
  have h2 : z k * 2 ^ (8 * k) ≤ 255 * 2 ^ (8 * k) := Nat.mul_le_mul_right _ (by omega)
  have hw : IntKind.u64.wrap (IntKind.u64.wrap ↑(z k) * 2 ^ (8 * k)) = ((z k * 2 ^ (8 * k) : Nat) : Int) := by
    rw [IntKind.wrap_u64, IntKind.wrap_u64, Int.emod_eq_of_lt (a := (z k : Int)) (by omega) (by omega), show ((z k : Int) * 2 ^ (8 * k)) = ((z k * 2 ^ (8 * k) : Nat) : Int) by simp]
    exact Int.emod_eq_of_lt (by omega) (by omega)
  rw [hw, u64_or_nat _ _ (by omega) (by omega)]
  congr 1
  rw [Nat.or_comm, nat_join (8 * k) _ _ (Nat.mul_mod_left _ _) h0, Nat.add_comm]
  rfl

set_option maxHeartbeats 400000 in
theorem number_lt (b off len cap : Nat) (z : Nat → Nat) (hz : ∀ j, z j < 256) (w : World) (hc : ∀ j, j < len → w.cell? ⟨b, off + j, none⟩ = some (.int .u8 (z j : Nat))) (hcap : len ≤ cap) (h8 : len ≤ 8) :
    Calls Try.prog 36 #[.slice (some ⟨b, off, none⟩) len cap] w fun e w' => e = .returned (.int .u64 (numN z len : Nat)) ∧ w' = w := by
  go_enter Try.func36, Try.ntmps36
  go_wp2_with (fail)
  go_loop [3, 12] (fun x i => ∃ k : Nat, k ≤ len ∧ i = .int .i64 k ∧ x = .int .u64 (numN z k : Nat)) (fun _ i => len - (intOf i).toNat)
  case atStart => exact ⟨0, Nat.zero_le _, rfl, rfl⟩
  case round =>
    obtain ⟨k, hk, rfl, rfl⟩ := hrel
    by_cases hlt : k < len
    · have hck := hc k (by omega)
      have HS := Lib.hid (num_step z hz k (by omega))
      go_wp2
      go_round
      case rel => exact ⟨k + 1, by omega, by go_num, congrArg (Value.int IntKind.u64) HS.out⟩
      case measure => simp [intOf]; omega
    · obtain rfl : k = len := by omega
      go_wp2
      go_ret
      exact ⟨rfl, rfl⟩

set_option maxHeartbeats 400000 in
theorem number_ge (b off len cap : Nat) (z : Nat → Nat) (hz : ∀ j, z j < 256) (w : World) (hc : ∀ j, j < len → w.cell? ⟨b, off + j, none⟩ = some (.int .u8 (z j : Nat))) (hcap : len ≤ cap) (h8 : 8 < len) :
    Calls Try.prog 36 #[.slice (some ⟨b, off, none⟩) len cap] w fun e w' => e = .returned (.int .u64 (numN z 8 : Nat)) ∧ w' = w := by
  go_enter Try.func36, Try.ntmps36
  go_wp2_with (fail)
  go_loop [3, 12] (fun x i => ∃ k : Nat, k ≤ 8 ∧ i = .int .i64 k ∧ x = .int .u64 (numN z k : Nat)) (fun _ i => 8 - (intOf i).toNat)
  case atStart => exact ⟨0, Nat.zero_le _, rfl, rfl⟩
  case round =>
    obtain ⟨k, hk, rfl, rfl⟩ := hrel
    by_cases hlt : k < 8
    · have hck := hc k (by omega)
      have HS := Lib.hid (num_step z hz k (by omega))
      go_wp2
      go_round
      case rel => exact ⟨k + 1, by omega, by go_num, congrArg (Value.int IntKind.u64) HS.out⟩
      case measure => simp [intOf]; omega
    · obtain rfl : k = 8 := by omega
      go_wp2
      go_ret
      exact ⟨rfl, rfl⟩

theorem number_any (b off len cap : Nat) (z : Nat → Nat) (hz : ∀ j, z j < 256) (w : World) (hc : ∀ j, j < len → w.cell? ⟨b, off + j, none⟩ = some (.int .u8 (z j : Nat))) (hcap : len ≤ cap) :
    Calls Try.prog 36 #[.slice (some ⟨b, off, none⟩) len cap] w fun e w' => e = .returned (.int .u64 (numN z (min len 8) : Nat)) ∧ w' = w := by
  by_cases h8 : len ≤ 8
  · rw [Nat.min_eq_left (by omega)]; exact number_lt b off len cap z hz w hc hcap h8
  · rw [Nat.min_eq_right (by omega)]; exact number_ge b off len cap z hz w hc hcap (by omega)
set_option maxHeartbeats 400000 in
theorem number_nil (w : World) :
    Calls Try.prog 36 #[.slice none 0 0] w fun e w' => e = .returned (.int .u64 0) ∧ w' = w := by
  go_enter Try.func36, Try.ntmps36
  go_wp2_with (fail)
  go_loop [3, 12] (fun x i => i = .int .i64 0 ∧ x = .int .u64 0) (fun _ i => 0)
  case atStart => exact ⟨rfl, rfl⟩
  case round =>
    obtain ⟨rfl, rfl⟩ := hrel
    go_wp2
    go_ret
    exact ⟨rfl, rfl⟩
def upto {α : Type} (f : Nat → α) (k : Nat) : List α := (List.range k).map f
theorem upto_succ {α : Type} (f : Nat → α) (k : Nat) : upto f (k + 1) = upto f k ++ [f k] := by simp [upto, List.range_succ]
theorem upto_length {α : Type} (f : Nat → α) (k : Nat) : (upto f k).length = k := by simp [upto]

/-- The byte at a place of a word. -/
def byN (a k : Nat) : Nat := a / 2 ^ (8 * k) % 256
theorem byN_lt (a k : Nat) : byN a k < 256 := Nat.mod_lt _ (by decide)
theorem byI (a k : Nat) : ((byN a k : Nat) : Int) = (a : Int) / 2 ^ (8 * k) % 256 := by unfold byN; rw [Int.natCast_emod, Int.natCast_ediv]; simp
theorem info5 : (Try.prog.info? 5).map (fun i => (i.zero, i.size, i.bytes)) = some (some (.int .u8 0), 1, 1) := by kernel_rfl
set_option maxHeartbeats 1000000 in
theorem rnumber_any (b off len cap : Nat) (z : Nat → Nat) (hz : ∀ j, z j < 256) (w : World) (hc : ∀ j, j < len → w.cell? ⟨b, off + j, none⟩ = some (.int .u8 (z j : Nat))) (hcap : len ≤ cap) :
    Calls Try.prog 38 #[.slice (some ⟨b, off, none⟩) len cap] w fun e w' => e = .returned (.int .u64 (numN z (min len 8) : Nat)) ∧ w' = w := by
  go_enter Try.func38, Try.ntmps38
  go_wp2_with (fail)
  go_loop [3, 4] (fun x i => ∃ k : Nat, k ≤ min len 8 ∧ i = .int .i64 k ∧ x = .int .u64 (numN z k : Nat)) (fun _ i => 8 - (intOf i).toNat)
  case atStart => exact ⟨0, Nat.zero_le _, rfl, rfl⟩
  case round =>
    obtain ⟨k, hk, rfl, rfl⟩ := hrel
    by_cases hlt : k < len
    · by_cases h8 : k < 8
      · have hck := hc k (by omega)
        have HS := Lib.hid (num_step z hz k (by omega))
        have h8' : (k : Int) < 8 := by omega
        go_wp2
        go_round
        case rel => exact ⟨k + 1, by omega, by go_num, congrArg (Value.int IntKind.u64) HS.out⟩
        case measure => simp [intOf]; omega
      · obtain rfl : k = 8 := by omega
        have hm : min len 8 = 8 := by omega
        go_wp2
        go_ret
        exact ⟨rfl, rfl⟩
    · obtain rfl : k = len := by omega
      have hm : min k 8 = k := by omega
      go_wp2
      go_ret
      exact ⟨rfl, rfl⟩
set_option maxHeartbeats 400000 in
theorem rnumber_nil (w : World) :
    Calls Try.prog 38 #[.slice none 0 0] w fun e w' => e = .returned (.int .u64 0) ∧ w' = w := by
  go_enter Try.func38, Try.ntmps38
  go_wp2_with (fail)
  go_loop [3, 4] (fun x i => i = .int .i64 0 ∧ x = .int .u64 0) (fun _ i => 0)
  case atStart => exact ⟨rfl, rfl⟩
  case round =>
    obtain ⟨rfl, rfl⟩ := hrel
    go_wp2
    go_ret
    exact ⟨rfl, rfl⟩
set_option maxHeartbeats 400000 in
theorem wide_any (wd : Int) (w : World) :
    Calls Try.prog 41 #[.int .i64 wd] w fun e w' => e = .returned (.int .i64 (hI wd)) ∧ w = w' := by
  go_enter Try.func41, Try.ntmps41
  go_wp2
  all_goals
    go_ret
    refine ⟨?_, rfl⟩
    show Ending.returned (.int .i64 _) = _
    congr 2
    unfold hI
    repeat' split
    all_goals omega
theorem info_parts {t : TypeId} {z : Value} {s b : Nat} (h : (Try.prog.info? t).map (fun i => (i.zero, i.size, i.bytes)) = some (some z, s, b)) : ∃ i, Try.prog.info? t = some i ∧ i.zero = some z ∧ i.size = s ∧ i.bytes = b := by
  cases hi : Try.prog.info? t with
  | none => rw [hi] at h; cases h
  | some i =>
    rw [hi] at h
    simp only [Option.map_some, Option.some.injEq, Prod.mk.injEq] at h
    exact ⟨i, rfl, h.1, h.2.1, h.2.2⟩
abbrev bsV (a k : Nat) : List Value := upto (fun j => Value.int .u8 (byN a j : Nat)) k
theorem bsV_len (a k : Nat) : (bsV a k).length = k := upto_length _ _
theorem bsV_succ (a k : Nat) : bsV a (k + 1) = bsV a k ++ [.int .u8 (byN a k : Nat)] := upto_succ _ _
set_option maxHeartbeats 1000000 in
theorem rbytes_any (a : Nat) (wd : Int) (w : World) :
    Calls Try.prog 33 #[.int .u64 a, .int .i64 wd] w fun e W' => ∃ v, e = .returned v ∧ W'.ownsRow w.heap.size 5 1 v (hN wd) (bsV a (hN wd)) ∧ Below w.heap.size w W' := by
  have hbd := hN_bd wd
  have hIN := hI_N wd
  obtain ⟨i0, hi, hz0, hz1, hz2⟩ := info_parts info5
  go_enter Try.func33, Try.ntmps33
  go_wp2_with fail
  go_loopw [5, 6] (fun v i wr => ∃ k : Nat, k ≤ hN wd ∧ i = .int .i64 k ∧ wr.ownsRow w.heap.size 5 1 v k (bsV a k) ∧ Below w.heap.size w wr) (fun _ i _ => hN wd - (intOf i).toNat)
  case atStart => exact ⟨0, Nat.zero_le _, rfl, World.ownsRow_nil _ _ _ _, Below.refl _ _⟩
  case round =>
    obtain ⟨k, hk, rfl, hown, hnx⟩ := hrel
    by_cases hlt : k < hN wd
    · have hsz := hnx.size
      go_wp2_with (first | (go_at_call 41; refine (wide_any _ _).mono ?_; rintro e w' ⟨rfl, rfl⟩) | (at_builtin; refine wpList_append_own _ rfl _ _ 27 rfl w.heap.size 5 i0 (.int .u8 0) 1 1 Try.underlying27 hi hz0 hz1 hz2 rfl (by decide) _ k (bsV a k) rfl (hown.alloc _) ⟨wr.heap.size, 0, none⟩ 1 1 [.int .u8 ((a : Int) / 2 ^ (8 * k) % 256)] rfl rfl ?c1 ?c2 ?c3 ?c4 ?c5 ?_))
      case c1 =>
        intro j u hj
        match j, hj with
        | 0, hj => simp at hj; subst hj; simp [Addr.add]
      case c2 => intro u hu; simp at hu; subst hu; rfl
      case c3 => unfold maxLen; omega
      case c4 => omega
      case c5 => simp; omega
      intro v' w1 hown' hgrow _
      have hown2 : w1.ownsRow w.heap.size 5 1 v' (k + 1) (bsV a (k + 1)) := by rw [bsV_succ, byI]; exact hown'
      have hb2 : Below w.heap.size w w1 := (hnx.alloc (by omega) _).grown hgrow (by simp; omega) (fun j hj => by have := (hown.lt j hj).1; omega)
      clear hown' hgrow hown
      go_wp2
      go_roundw
      case rel => exact ⟨k + 1, by omega, by go_num, hown2, hb2⟩
      case measure => simp [intOf]; omega
    · obtain rfl : k = hN wd := by omega
      go_wp2_with (go_at_call 41; refine (wide_any _ _).mono ?_; rintro e w' ⟨rfl, rfl⟩)
      go_ret
      exact ⟨_, rfl, hown, hnx⟩

/-- A row of bytes in a block of its own. -/
def rowB (f : Nat → Nat) (n : Nat) : List Value := upto (fun j => Value.int .u8 (f j : Nat)) n
def BR (W : World) (g n : Nat) (f : Nat → Nat) : Prop := W.heap[g]? = some (.cells (rowB f n).toArray 5 (0, 0))
theorem rowB_at (f : Nat → Nat) (n j : Nat) (h : j < n) : (rowB f n)[j]? = some (.int .u8 (f j : Nat)) := by simp [rowB, upto, h]
theorem rowB_len (f : Nat → Nat) (n : Nat) : (rowB f n).length = n := upto_length _ _
theorem rowB_congr {f h : Nat → Nat} {n : Nat} (e : ∀ j, j < n → f j = h j) : rowB f n = rowB h n := by
  unfold rowB upto
  exact List.map_congr_left fun j hj => by rw [e j (List.mem_range.1 hj)]
theorem BR.c {W : World} {g n : Nat} {f : Nat → Nat} (h : BR W g n f) (j : Nat) (hj : j < n) : W.cell? ⟨g, j, none⟩ = some (.int .u8 (f j : Nat)) := by
  have h' : W.heap[g]? = _ := h
  have h2 := rowB_at f n j hj
  unfold World.cell?
  rw [h']
  simpa using h2
theorem BR.keep {W W' : World} {g n : Nat} {f : Nat → Nat} (h : BR W g n f) (hb : Below W.heap.size W W') : BR W' g n f := (hb.block g (Array.getElem?_eq_some_iff.1 h).1).trans h
theorem BR.congr {W : World} {g n : Nat} {f h : Nat → Nat} (hb : BR W g n f) (e : ∀ j, j < n → f j = h j) : BR W g n h := by
  unfold BR at *
  rw [← rowB_congr e]
  exact hb
/-- A number's bytes put at a place. -/
def putF (f : Nat → Nat) (o s x : Nat) (j : Nat) : Nat := if o ≤ j ∧ j < o + s then byN x (j - o) else f j
theorem splice (f : Nat → Nat) (n o s x : Nat) (h : o + s ≤ n) : (rowB f n).take o ++ upto (fun j => Value.int .u8 (byN x j : Nat)) s ++ (rowB f n).drop (o + s) = rowB (putF f o s x) n := by
  apply List.ext_getElem?
  intro j
  by_cases hj : j < n
  · rw [rowB_at _ _ _ hj]
    unfold putF
    by_cases h1 : j < o
    · rw [List.append_assoc, List.getElem?_append_left (by rw [List.length_take, rowB_len]; omega), List.getElem?_take_of_lt h1, rowB_at _ _ _ hj, if_neg (by omega)]
    · by_cases h2 : j < o + s
      · rw [List.getElem?_append_left (by rw [List.length_append, List.length_take, rowB_len, upto_length]; omega), List.getElem?_append_right (by rw [List.length_take, rowB_len]; omega), List.length_take, rowB_len, Nat.min_eq_left (by omega), if_pos ⟨by omega, h2⟩]
        simp [upto, show j - o < s by omega]
      · rw [List.getElem?_append_right (by rw [List.length_append, List.length_take, rowB_len, upto_length]; omega), List.length_append, List.length_take, rowB_len, upto_length, Nat.min_eq_left (by omega), List.getElem?_drop, show o + s + (j - (o + s)) = j by omega, rowB_at _ _ _ hj, if_neg (by omega)]
  · rw [List.getElem?_eq_none (by rw [List.length_append, List.length_append, List.length_take, List.length_drop, rowB_len, upto_length]; omega), List.getElem?_eq_none (by rw [rowB_len]; omega)]
theorem info5s : (Try.prog.info? 5).map (·.size) = some 1 := by kernel_rfl
theorem hN_s (s : Nat) (h1 : 1 ≤ s) (h8 : s ≤ 8) : hN (s : Int) = s := by unfold hN hI; split <;> (try split) <;> omega
theorem ones_by (x s : Nat) : ∀ v ∈ upto (fun j => Value.int .u8 (byN x j : Nat)) s, v.oneCell' = true := fun v hv => by
  unfold upto at hv
  obtain ⟨j, _, rfl⟩ := List.mem_map.1 hv
  rfl
theorem grown_row (W : World) (g : Nat) (c : Array Value) : W.grownBy (W.setRow g c) (some g) := ⟨rfl, rfl, rfl, by simp [World.setRow], fun k _ hk => setRow_other _ _ _ _ (fun e => hk (by rw [e]))⟩
theorem grown_below' {w W : World} (hb : Below w.heap.size w W) (r : Option Nat) : w.grownBy W r := ⟨hb.os, hb.tape, hb.output, hb.size, fun k hk _ => hb.block k hk⟩
theorem make_n (n : Nat) (hn : n ≤ 100000) (w : World) : (Instr.makeSlice 27 (.int .i64 (n : Nat)) (.int .i64 (n : Nat))).run Try.prog w = .ok (.slice (some ⟨w.heap.size, 0, none⟩) n n) (w.alloc (.cells (madeCells #[.int .u8 0] n) 5)) :=
  run_make_row' 27 5 (.int .u8 0) 1 Try.underlying27 info5 rfl .i64 .i64 n (by omega) (by omega) w
theorem made_row (n : Nat) : madeCells #[.int .u8 0] n = (rowB (fun _ => 0) n).toArray := by
  apply Array.ext'
  simp [madeCells, rowB, upto, Nat.mod_one]
theorem cell_at {W : World} {b i : Nat} {cs : Array Value} {t : TypeId} {v : Value} (h : W.heap[b]? = some (.cells cs t (0, 0))) (hv : cs[i]? = some v) : W.cell? ⟨b, i, none⟩ = some v := by
  unfold World.cell?
  rw [h]
  simpa using hv
def V32 (k : Nat) : Prop := k < 4294967296
theorem w32 {k : Nat} (h : V32 k) : IntKind.u64.wrap (k : Int) = (k : Int) := by unfold V32 at h; exact IntWalk.u64_in _ (by omega)
/-- Bytes that can be read. -/
def BS (w : World) (ad : Option Addr) (len : Nat) (z : Nat → Nat) : Prop := 0 < len → ∃ b off, ad = some ⟨b, off, none⟩ ∧ ∀ j, j < len → w.cell? ⟨b, off + j, none⟩ = some (.int .u8 (z j : Nat))
theorem cell_lt' {W : World} {p : Addr} {v : Value} (h : W.cell? p = some v) : p.block < W.heap.size := by
  unfold World.cell? at h
  by_cases hl : p.block < W.heap.size
  · exact hl
  · rw [Array.getElem?_eq_none (by omega)] at h
    simp at h
theorem cell_keep {W W' : World} {p : Addr} {v : Value} (h : W.cell? p = some v) (hb : Below W.heap.size W W') : W'.cell? p = some v := by
  have hl := cell_lt' h
  have e := hb.block p.block hl
  unfold World.cell? at h ⊢
  rw [e]
  exact h
theorem BS.keep {W W' : World} {ad : Option Addr} {len : Nat} {z : Nat → Nat} (h : BS W ad len z) (hb : Below W.heap.size W W') : BS W' ad len z := fun hl => by
  obtain ⟨b, off, ha, hc⟩ := h hl
  exact ⟨b, off, ha, fun j hj => cell_keep (hc j hj) hb⟩
theorem BR.bs {W : World} {g n : Nat} {f : Nat → Nat} (h : BR W g n f) : BS W (some ⟨g, 0, none⟩) n f := fun _ => ⟨g, 0, rfl, fun j hj => by rw [Nat.zero_add]; exact h.c j hj⟩
def numZ (z : Nat → Nat) (o s : Nat) : Nat := numN (fun j => z (o + j)) s
theorem numZ_lt (z : Nat → Nat) (hz : ∀ j, z j < 256) (o s : Nat) : numZ z o s < 2 ^ (8 * s) := numN_lt _ (fun j => hz _) s
theorem frozen_at {W : World} {b : Nat} {cs : Array Value} {t : TypeId} (h : W.heap[b]? = some (.cells cs t (0, 0))) (i : Nat) : W.frozen? ⟨b, i, none⟩ = false := by simp [World.frozen?, h]
theorem rowB_app (f : Nat → Nat) (a b : Nat) : rowB f (a + b) = rowB f a ++ rowB (fun j => f (a + j)) b := by
  unfold rowB upto
  rw [List.range_add]
  simp
theorem piece {f : Nat → Nat} {o s x : Nat} (h : ∀ j, j < s → f (o + j) = byN x j) : rowB (fun j => f (o + j)) s = bsV x s := by
  unfold rowB bsV upto
  exact List.map_congr_left fun j hj => congrArg (fun k : Nat => Value.int .u8 (k : Nat)) (h j (List.mem_range.1 hj))
theorem byN_0 (j : Nat) : byN 0 j = 0 := by simp [byN]
theorem putF_in {f : Nat → Nat} {o s x j : Nat} (h : j < s) : putF f o s x (o + j) = byN x j := by unfold putF; rw [if_pos ⟨by omega, by omega⟩, Nat.add_sub_cancel_left]
theorem putF_out {f : Nat → Nat} {o s x j : Nat} (h : j < o ∨ o + s ≤ j) : putF f o s x j = f j := by unfold putF; rw [if_neg (by omega)]
theorem numN_congr {y z : Nat → Nat} {k : Nat} (h : ∀ j, j < k → y j = z j) : numN y k = numN z k := by
  induction k with
  | zero => rfl
  | succ k ih =>
    unfold numN
    rw [ih (fun j hj => h j (by omega)), h k (by omega)]
theorem numN_by (x k : Nat) : numN (fun j => byN x j) k = x % 2 ^ (8 * k) := by
  induction k with
  | zero => simp [numN, Nat.mod_one]
  | succ k ih =>
    unfold numN
    rw [ih]
    unfold byN
    rw [show 8 * (k + 1) = 8 * k + 8 by omega, Nat.pow_add, Nat.mod_mul]
    simp [Nat.mul_comm]
theorem numZ_congr {y z : Nat → Nat} {o s : Nat} (h : ∀ j, o ≤ j → j < o + s → y j = z j) : numZ y o s = numZ z o s := numN_congr fun j hj => h _ (by omega) (by omega)
theorem numZ_in (f : Nat → Nat) (o s x : Nat) : numZ (putF f o s x) o s = x % 2 ^ (8 * s) := by
  rw [← numN_by x s]
  exact numN_congr fun j hj => putF_in hj
theorem numZ_out {f : Nat → Nat} {p q x o s : Nat} (h : o + s ≤ p ∨ p + q ≤ o) : numZ (putF f p q x) o s = numZ f o s := numZ_congr fun j h1 h2 => putF_out (by omega)
theorem putF_lt {f : Nat → Nat} (hf : ∀ j, f j < 256) (o s x j : Nat) : putF f o s x j < 256 := by
  unfold putF
  split
  · exact byN_lt _ _
  · exact hf j
theorem rangeAt_block {W W' : World} {b o : Nat} {cs : List Value} (h : W.rangeAt b o cs) (hb : W'.heap[b]? = W.heap[b]?) : W'.rangeAt b o cs := fun j v hv => (World.cell?_of_block (a := ⟨b, o + j, none⟩) hb).trans (h j v hv)
theorem grown_set {W : World} {g k : Nat} {v : Value} {c : Array Value} {t : TypeId} (h : W.heap[g]? = some (.cells c t (0, 0))) : W.grownBy (W.setCell ⟨g, k, none⟩ v) (some g) := by
  rw [setCell_eq_setRow W g k c t (0, 0) v h]
  exact grown_row W g _
theorem cells_newL (W : World) (L : List Value) (ty : TypeId) (j : Nat) (u : Value) (hu : L[j]? = some u) : (W.alloc (.cells L.toArray ty)).cell? ((⟨W.heap.size, 0, none⟩ : Addr).add j) = some u := by
  rw [Addr.add_mid, Nat.zero_add]
  exact cell_at (heap_alloc_last W (.cells L.toArray ty)) (by simpa using hu)
theorem owns_block {W : World} {n : Nat} {ty : TypeId} {sz : Nat} {v : Value} {k : Nat} {L : List Value} (h : W.ownsRow n ty sz v k L) : ∀ q, v.ownBlock = some q → n ≤ q := fun q e => by
  rcases h.2 with ⟨rfl, _⟩ | ⟨g, cap, cur, rfl, hg, _⟩
  · cases e
  · cases e; exact hg
theorem owns_slice {W : World} {n : Nat} {ty : TypeId} {sz : Nat} {v : Value} {k : Nat} {L : List Value} (h : W.ownsRow n ty sz v k L) : ∃ a c, v = .slice a k c := by
  rcases h.2 with ⟨rfl, rfl⟩ | ⟨g, cap, cur, rfl, hg, _⟩
  · exact ⟨_, _, rfl⟩
  · exact ⟨_, _, rfl⟩
theorem owns_ne {W : World} {n : Nat} {ty : TypeId} {sz : Nat} {v : Value} {k : Nat} {L : List Value} {b : Nat} (h : W.ownsRow n ty sz v k L) (hb : b < n) : v.ownBlock = none ∨ v.ownBlock ≠ some b := by
  cases hv : v.ownBlock with
  | none => exact .inl rfl
  | some q => exact .inr (fun e => by have := owns_block h q hv; cases e; omega)
theorem owns_lower {W : World} {n n' : Nat} {ty : TypeId} {sz : Nat} {v : Value} {k : Nat} {L : List Value} (h : W.ownsRow n ty sz v k L) (hn : n' ≤ n) : W.ownsRow n' ty sz v k L :=
  ⟨h.1, h.2.imp_right fun ⟨g, cap, cur, h1, h2, h3⟩ => ⟨g, cap, cur, h1, Nat.le_trans hn h2, h3⟩⟩
theorem owns_set {W : World} {n : Nat} {ty : TypeId} {sz : Nat} {v : Value} {k : Nat} {L : List Value} {b : Nat} (h : W.ownsRow n ty sz v k L) (hb : b < n) (c : Array Value) : (W.setRow b c).ownsRow n ty sz v k L := h.kept (grown_row W b c) (owns_ne h hb)
def tailF (f : Nat → Nat) (m : Nat) : Nat → Nat := fun j => if j < m then f j else 0
theorem tailF_in (f : Nat → Nat) (m : Nat) : ∀ j, j < m → tailF f m j = f j := fun j hj => if_pos hj
theorem tailF_lt {f : Nat → Nat} (hf : ∀ j, f j < 256) (m j : Nat) : tailF f m j < 256 := by
  unfold tailF
  split
  · exact hf j
  · decide
theorem zc_size (n : Nat) : (Builtin.zeroCells #[.int .u8 0] n).size = n := by simp [Builtin.zeroCells]
theorem zc_at (n j : Nat) (h : j < n) : (Builtin.zeroCells #[.int .u8 0] n)[j]? = some (.int .u8 0) := by
  unfold Builtin.zeroCells
  simp [h, Nat.mod_one]
theorem app_make (ty : TypeId) (g m n : Nat) (f : Nat → Nat) (W : World) (h : BR W g m f) (hm : m ≤ 100000) (hn : n ≤ 100000) : ∃ g' cap' W', (Builtin.append_ #[27, 3] ty #[.slice (some ⟨g, 0, none⟩) m m, .int .i64 (n : Nat)]).run Try.prog W = .ok (.slice (some ⟨g', 0, none⟩) (m + n) cap') W' ∧ m + n ≤ cap' ∧ cap' ≤ 9223372036854775807 ∧
    BS W' (some ⟨g', 0, none⟩) (m + n) (tailF f m) ∧ Below W.heap.size W W' := by
  obtain ⟨i, hi, hz, hs, hb⟩ := info_parts info5
  have hw : IntKind.i64.wrap (n : Int) = (n : Int) := IntWalk.i64_in _ (by omega)
  have hneg : ¬ ((n : Int) < 0) := by omega
  have hbig : ¬ (281474976710656 < (n : Int)) := by omega
  by_cases h0 : n = 0
  · subst h0
    refine ⟨g, m, W, ?_, Nat.le_refl _, by omega, ?_, Below.refl _ _⟩
    · have hw0 : IntKind.i64.wrap 0 = 0 := by decide
      simp [Builtin.append_, asInt, asIntOf, run_underlying Try.underlying27, run_underlying Try.underlying3, sizeOf, typeInfo, hi, hs, hb, hw0, storeCells]
    · have e : m + 0 = m := rfl
      rw [e]
      exact (h.congr (fun j hj => (tailF_in f m j hj).symm)).bs
  · have hgt : ¬ (m + n ≤ m) := by omega
    have h63 : ¬ (9223372036854775807 < ((m : Int) + (n : Int))) := by omega
    have hcap : Builtin.nextslicecap (m + n) m * i.bytes ≤ 281474976710656 := growslice_fits (by omega) (by rw [hb]; omega)
    have h48 : ¬ (281474976710656 < Builtin.nextslicecap (m + n) m) := by rw [hb, Nat.mul_one] at hcap; omega
    have hfo := run_firstCells_some (P := Try.prog) W.drew 1 m ⟨g, 0, none⟩ m m (rowB f m) (by rw [rowB_len]; omega) (fun j v hj => by
      have hjl := (List.getElem?_eq_some_iff.1 hj).1
      rw [rowB_len] at hjl
      rw [rowB_at f m j hjl] at hj
      cases hj
      rw [Addr.add_mid, Nat.zero_add]
      exact h.c j hjl)
    refine ⟨W.heap.size, grownCap W (m + n) m 5, W.drew.alloc (.cells ((rowB f m).toArray ++ Builtin.zeroCells #[.int .u8 0] n ++ Builtin.zeroCells #[.int .u8 0] (grownCap W (m + n) m 5 - (m + n))) 5), ?_, grownCap_ge _ _ _ _, grownCap_le_maxLen _ _ _ _ (by unfold maxLen; omega), ?_, ?_⟩
    · simp [Builtin.append_, asInt, asIntOf, run_underlying Try.underlying27, run_underlying Try.underlying3, sizeOf, typeInfo, zeroValue, hi, hz, hs, hb, hw, hgt, h0, h63, h48, hneg, hbig, Question.forced, hfo, newRow, grownCap, Value.cells]
    · intro _
      refine ⟨_, 0, rfl, fun j hj => ?_⟩
      rw [Nat.zero_add]
      refine cell_at (heap_alloc_last W.drew _) ?_
      unfold tailF
      by_cases hlt : j < m
      · rw [if_pos hlt, Array.append_assoc, Array.getElem?_append_left (by simpa [rowB_len] using hlt)]
        rw [List.getElem?_toArray, rowB_at f m j hlt]
      · rw [if_neg hlt, Array.append_assoc, Array.getElem?_append_right (by simp [rowB_len]; omega), Array.getElem?_append_left (by rw [zc_size]; simp [rowB_len]; omega)]
        exact zc_at _ _ (by simp [rowB_len]; omega)
    · exact ⟨rfl, rfl, rfl, by simp, fun k hk => heap_alloc_old W.drew _ hk⟩
theorem wpList_appmake {ops : Array Oper} {Q : Exit → Act → World → Prop} {o : Oper} {rest : List Oper} {a : Act} {W : World} {x y : Operand} {g m n : Nat} {f : Nat → Nat}
    (ho : o.op = .call { callee := .builtin .append, args := #[x, y], argTypes := #[27, 3] }) (hg : o.guard = none) (hx : a.eval x = .slice (some ⟨g, 0, none⟩) m m) {k : Int} (hy : a.eval y = .int .i64 k) (hkn : k = (n : Nat)) (h : BR W g m f) (hm : m ≤ 100000) (hn : n ≤ 100000)
    (hk : ∀ g' cap' W', m + n ≤ cap' → cap' ≤ 9223372036854775807 → BS W' (some ⟨g', 0, none⟩) (m + n) (tailF f m) → Below W.heap.size W W' → wpList Try.prog ops Q rest (a.put o.dst (.slice (some ⟨g', 0, none⟩) (m + n) cap')) W') : wpList Try.prog ops Q (o :: rest) a W := by
  subst hkn
  refine wpList_plain hg fun K hK => ?_
  obtain ⟨g', cap', W', hr, h1, h2, h3, h4⟩ := app_make o.type g m n f W h hm hn
  unfold Oper.wp execOp
  simp only [ho, resolve, invoke, builtin, Sem.run_bind, Sem.run_pure, Result.andThen_ok, List.map_toArray, List.map_cons, List.map_nil, hx, hy, hr]
  exact hK _ _ (hk g' cap' W' h1 h2 h3 h4)

theorem zc_list (m : Nat) : Builtin.zeroCells #[.int .u8 0] m = (List.replicate m (Value.int .u8 0)).toArray := by
  apply Array.ext_getElem?
  intro j
  by_cases h : j < m
  · rw [zc_at m j h, List.getElem?_toArray, List.getElem?_replicate_of_lt h]
  · rw [Array.getElem?_eq_none (by rw [zc_size]; omega), Array.getElem?_eq_none (by simp; omega)]
theorem app_make_own (ty : TypeId) (base : Nat) (v : Value) (n m : Nat) (xs : List Value) (W : World) (hown : W.ownsRow base 5 1 v n xs) (hn : n ≤ 1000000) (hm : m ≤ 100000) (hb0 : base ≤ W.heap.size) :
    ∃ v' W', (Builtin.append_ #[27, 3] ty #[v, .int .i64 (m : Nat)]).run Try.prog W = .ok v' W' ∧ W'.ownsRow base 5 1 v' (n + m) (xs ++ List.replicate m (Value.int .u8 0)) ∧ W.grownBy W' v.ownBlock := by
  obtain ⟨i, hi, hz, hs, hb⟩ := info_parts info5
  have hw : IntKind.i64.wrap (m : Int) = (m : Int) := IntWalk.i64_in _ (by omega)
  have hw0 : IntKind.i64.wrap 0 = 0 := by decide
  have hneg : ¬ ((m : Int) < 0) := by omega
  have hbig : ¬ (281474976710656 < (m : Int)) := by omega
  have hzl : ∀ k, (Builtin.zeroCells #[.int .u8 0] k).toList = List.replicate k (Value.int .u8 0) := fun k => by rw [zc_list]
  have hlen : (xs ++ List.replicate m (Value.int .u8 0)).length = (n + m) * 1 := by rw [List.length_append, hown.1, List.length_replicate]; omega
  by_cases h0 : m = 0
  · subst h0
    refine ⟨v, W, ?_, by simpa using hown, ⟨rfl, rfl, rfl, Nat.le_refl _, fun _ _ _ => rfl⟩⟩
    rcases hown.2 with ⟨rfl, rfl⟩ | ⟨g, cap, cur, rfl, hbg, hg, hnc, hcm, hcs, htake⟩
    · simp [Builtin.append_, asInt, asIntOf, run_underlying Try.underlying27, run_underlying Try.underlying3, sizeOf, typeInfo, hi, hs, hb, hw0]
    · simp [Builtin.append_, asInt, asIntOf, run_underlying Try.underlying27, run_underlying Try.underlying3, sizeOf, typeInfo, hi, hs, hb, hw0, hnc, storeCells]
  have grown : ∀ (old : Nat) (row : Option Nat),
      (W.drew.alloc (.cells (xs.toArray ++ Builtin.zeroCells #[.int .u8 0] m ++ Builtin.zeroCells #[.int .u8 0] (grownCap W (n + m) old 5 - (n + m))) 5)).ownsRow base 5 1 (.slice (some ⟨W.heap.size, 0, none⟩) (n + m) (grownCap W (n + m) old 5)) (n + m) (xs ++ List.replicate m (Value.int .u8 0)) ∧
      W.grownBy (W.drew.alloc (.cells (xs.toArray ++ Builtin.zeroCells #[.int .u8 0] m ++ Builtin.zeroCells #[.int .u8 0] (grownCap W (n + m) old 5 - (n + m))) 5)) row := by
    intro old row
    have hge := grownCap_ge W (n + m) old 5
    have hcm : grownCap W (n + m) old 5 ≤ maxLen := grownCap_le_maxLen W (n + m) old 5 (by unfold maxLen; omega)
    refine ⟨⟨hlen, .inr ⟨W.heap.size, _, _, rfl, hb0, heap_alloc_last W.drew _, hge, hcm, ?_, ?_⟩⟩, ⟨rfl, rfl, rfl, by simp, fun k hk _ => heap_alloc_old W.drew _ hk⟩⟩
    · simp only [Array.size_append, List.size_toArray, zc_size, hown.1]
      omega
    · simp only [Array.toList_append, List.append_assoc, hzl]
      rw [← List.append_assoc, ← hlen]
      exact List.take_left
  have h63 : ¬ (9223372036854775807 < ((n : Int) + (m : Int))) := by omega
  rcases hown.2 with ⟨rfl, rfl⟩ | ⟨g, cap, cur, rfl, hbg, hg, hnc, hcm, hcs, htake⟩
  · have hx : xs = [] := List.eq_nil_of_length_eq_zero (by simpa using hown.1)
    subst hx
    obtain ⟨g1, g2⟩ := grown 0 (Value.ownBlock (.slice none 0 0))
    have hcap : Builtin.nextslicecap (0 + m) 0 * i.bytes ≤ 281474976710656 := growslice_fits (by omega) (by rw [hb]; omega)
    have h48 : ¬ (281474976710656 < Builtin.nextslicecap m 0) := by rw [hb, Nat.mul_one, Nat.zero_add] at hcap; omega
    have hmm : ¬ (9223372036854775807 < (m : Int)) := by omega
    refine ⟨_, _, ?_, g1, g2⟩
    simp [Builtin.append_, asInt, asIntOf, run_underlying Try.underlying27, run_underlying Try.underlying3, sizeOf, typeInfo, zeroValue, hi, hz, hs, hb, hw, h0, hmm, h48, hneg, hbig, Question.forced, Builtin.firstCells, newRow, grownCap, Value.cells]
  · by_cases hroom : n + m ≤ cap
    · have hst := run_storeCells_at Try.prog g (n * 1) 5 (List.replicate m (Value.int .u8 0)) 0 cur W hg (by rw [List.length_replicate, hcs]; omega) (fun u hu => by rw [(List.mem_replicate.1 hu).2]; rfl)
      simp only [Nat.add_zero, Nat.mul_one] at hst
      have hW : ∃ c : Array Value, c = (cur.toList.take n ++ List.replicate m (Value.int .u8 0) ++ cur.toList.drop (n + (List.replicate m (Value.int .u8 0)).length)).toArray := ⟨_, rfl⟩
      obtain ⟨c, hc⟩ := hW
      rw [← hc] at hst
      refine ⟨.slice (some ⟨g, 0, none⟩) (n + m) cap, W.setRow g c, ?_, ⟨hlen, .inr ⟨g, cap, c, rfl, hbg, setRow_heap W g cur c 5 (0, 0) hg, hroom, hcm, ?_, ?_⟩⟩, grown_row W g c⟩
      · simp [Builtin.append_, asInt, asIntOf, run_underlying Try.underlying27, run_underlying Try.underlying3, sizeOf, typeInfo, zeroValue, hi, hz, hs, hb, hw, hroom, h0, hneg, hbig, Value.cells, hzl, Addr.add_mid, hst]
      · rw [hc]
        simp only [List.size_toArray, List.length_append, List.length_take, List.length_drop, Array.length_toList, List.length_replicate]
        omega
      · have e : cur.toList.take n = xs := by rw [← htake, Nat.mul_one]
        rw [hc]
        show List.take _ (_ ++ _ ++ _) = _
        rw [e, ← hlen]
        exact List.take_left
    · have hcap : Builtin.nextslicecap (n + m) cap * i.bytes ≤ 281474976710656 := growslice_fits (by omega) (by rw [hb]; omega)
      have h48 : ¬ (281474976710656 < Builtin.nextslicecap (n + m) cap) := by rw [hb, Nat.mul_one] at hcap; omega
      have hfo := run_firstCells_some (P := Try.prog) W.drew 1 n ⟨g, 0, none⟩ n cap xs hown.1 (by simpa using hown.cells (g := g) rfl)
      obtain ⟨g1, g2⟩ := grown cap (Value.ownBlock (.slice (some ⟨g, 0, none⟩) n cap))
      refine ⟨_, _, ?_, g1, g2⟩
      simp [Builtin.append_, asInt, asIntOf, run_underlying Try.underlying27, run_underlying Try.underlying3, sizeOf, typeInfo, zeroValue, hi, hz, hs, hb, hw, hroom, h0, h63, h48, hneg, hbig, Question.forced, hfo, newRow, grownCap, Value.cells]
theorem wpList_appmakeown {ops : Array Oper} {Q : Exit → Act → World → Prop} {o : Oper} {rest : List Oper} {a : Act} {W : World} {x y : Operand} {v : Value} {base m n : Nat} {xs : List Value}
    (ho : o.op = .call { callee := .builtin .append, args := #[x, y], argTypes := #[27, 3] }) (hg : o.guard = none) (hx : a.eval x = v) (hy : a.eval y = .int .i64 (m : Nat)) (h : W.ownsRow base 5 1 v n xs) (hn : n ≤ 1000000) (hm : m ≤ 100000) (hb0 : base ≤ W.heap.size)
    (hk : ∀ v' W', W'.ownsRow base 5 1 v' (n + m) (xs ++ List.replicate m (Value.int .u8 0)) → W.grownBy W' v.ownBlock → wpList Try.prog ops Q rest (a.put o.dst v') W') : wpList Try.prog ops Q (o :: rest) a W := by
  refine wpList_plain hg fun K hK => ?_
  obtain ⟨v', W', hr, h1, h2⟩ := app_make_own o.type base v n m xs W h hn hm hb0
  unfold Oper.wp execOp
  simp only [ho, resolve, invoke, builtin, Sem.run_bind, Sem.run_pure, Result.andThen_ok, List.map_toArray, List.map_cons, List.map_nil, hx, hy, hr]
  exact hK _ _ (hk v' W' h1 h2)

end Go.Proofs.Ytegbhjmghkbgmaa
