/- field.ones and field.Clmul: products without carries. -/
import Derived.Test.YtldicconopcipaaD
namespace Go.Proofs.Ytldicconopcipaa
open Go.RowKit Go.Shelf
set_option linter.unusedVariables false
set_option linter.unusedSimpArgs false
attribute [local go_sem] Oper.semAt_some
def bitB (b i : Nat) : Bool := ((b / 2 ^ i % 2 : Nat) : Int) == 1
theorem bit_val (b i : Nat) (hb : U b) : (bits .and .u64 ((b : Int) / 2 ^ i) 1 == 1) = bitB b i := by
  have e : ((b : Int) / 2 ^ i) = ((b / 2 ^ i : Nat) : Int) := by rw [Int.natCast_ediv]; simp
  have hl : b / 2 ^ i < 18446744073709551616 := Nat.lt_of_le_of_lt (Nat.div_le_self _ _) hb
  have h1 := u64_and_nat (b / 2 ^ i) 1 hl (by decide)
  rw [e]
  unfold bitB
  show (bits .and .u64 ((b / 2 ^ i : Nat) : Int) ((1 : Nat) : Int) == 1) = _
  rw [h1, Nat.and_one_is_mod]
abbrev P64 : Type := { x : Nat // x < 64 }
def oneF (i : Nat) : P64 := if h : i < 64 then ⟨i, h⟩ else ⟨0, by decide⟩
theorem oneF_at (i : Nat) (h : i < 64) : oneF i = ⟨i, h⟩ := dif_pos h
/-- The places of ones below k. -/
def onesU (b k : Nat) : List P64 := ((List.range k).filter fun i => bitB b i).map oneF
theorem onesU_len (b k : Nat) : (onesU b k).length ≤ k := by
  unfold onesU
  rw [List.length_map]
  exact Nat.le_trans (List.length_filter_le _ _) (by simp)
theorem onesU_succ (b k : Nat) : onesU b (k + 1) = onesU b k ++ (if bitB b k then [oneF k] else []) := by
  unfold onesU
  rw [List.range_succ, List.filter_append, List.map_append]
  congr 1
  cases h : bitB b k <;> simp [h]
def KpC (A : Nat) (W W' : World) : Prop := W'.cell? ⟨A, 0, none⟩ = W.cell? ⟨A, 0, none⟩
theorem kpC_t {A : Nat} {X Y Z : World} (h : KpC A X Y) (k : KpC A Y Z) : KpC A X Z := Eq.trans k h
theorem kpC_b {A : Nat} {w : World} (hA : A < w.heap.size) (W : World) (l : Nat) (o o' : Obj) (hl : w.heap.size ≤ l) (h : W.heap[l]? = some o) (h1 : o.isCells = false) (h2 : o.isWalk = false) : KpC A W (W.putObj l o') :=
  have hb := belowK_b (Nat.le_refl w.heap.size) W l o o' hl h h1 h2
  hb.cell (p := ⟨A, 0, none⟩) hA
set_option maxRecDepth 100000 in
set_option maxHeartbeats 1000000 in
theorem ones1_in (F : Fence) (n : Nat) (h56 : F.fn 56) (hro : F.round = none) (hn : 1 ≤ n) (l A : Nat) (b : Nat) (hb : U b) (J Jx : List P64 → World → Prop)
    (hY : ∀ pre x W, J pre W → pre.length < 64 → YieldAt F (n - 1) Try.prog l #[.int .i64 (x.1 : Int)] W fun e W' =>
      (e = .returned (.bool true) ∧ J (pre ++ [x]) W' ∧ KpC A W W') ∨ (e = .returned (.bool false) ∧ Jx (pre ++ [x]) W'))
    (W : World) (hA : W.cell? ⟨A, 0, none⟩ = some (.int .u64 (b : Int))) (h0 : J [] W) :
    CallsIn F n Try.prog 56 #[.func (.yield l) #[] #[], .pointer (some ⟨A, 0, none⟩)] W fun e W' => (∃ v, e = .returned v) ∧
      ((∃ ys, ys = onesU b 64 ∧ J ys W') ∨ (∃ pre, True ∧ Jx pre W')) := by
  have HY := Lib.hid hY
  clear hY
  refine callsIn_of_wp Try.func56 rfl h56 ?_ hro
  simp only [Try.ntmps56, List.size_toArray, List.length_cons, List.length_nil, Nat.reduceAdd, Nat.reduceSub, Array.replicate_succ, Array.replicate_zero, List.push_toArray, List.append_toArray, List.nil_append, List.cons_append]
  gi_wp2
  gi_loopw [4] (fun i wr => ∃ k : Nat, k ≤ 64 ∧ i = .int .i64 k ∧ J (onesU b k) wr ∧ KpC A W wr)
    (fun i _ => 64 - (intOf i).toNat)
  case atStart => exact ⟨0, Nat.zero_le _, rfl, h0, rfl⟩
  case round =>
    obtain ⟨k, hk, rfl, hJs, hnx⟩ := hrel
    have hAx := hnx.trans hA
    by_cases hlt : k < 64
    · have hv := bit_val b k hb
      cases hbit : bitB b k
      · rw [hbit] at hv
        gi_wp2
        refine ⟨(fun f h => nomatch h), ?_⟩
        gi_wp2
        go_roundw
        case rel => exact ⟨k + 1, by omega, by simp, by rw [onesU_succ, hbit]; simpa using hJs, hnx⟩
        case measure => simp [intOf]; omega
      · rw [hbit] at hv
        obtain ⟨fn, tmps, assign, body, hy, hR⟩ := HY.out _ (oneF k) wr hJs (Nat.lt_of_le_of_lt (onesU_len b k) hlt)
        have HR := Lib.hid hR
        clear hR
        rw [oneF_at k hlt] at hy
        dsimp only at hy
        gi_wp2
        refine HR.out.mono ?_
        rintro e W3 (⟨rfl, hJ3, hk3⟩ | ⟨rfl, hJx3⟩)
        · gi_wp2
          go_roundw
          case rel => exact ⟨k + 1, by omega, by simp, by rw [onesU_succ, hbit]; exact hJ3, kpC_t hnx hk3⟩
          case measure => simp [intOf]; omega
        · gi_wp2
          refine bodyPost_ret (results_none rfl _ _ _) rfl ?_
          exact ⟨⟨_, rfl⟩, .inr ⟨_, trivial, hJx3⟩⟩
    · obtain rfl : k = 64 := by omega
      gi_wp2
      go_end0
      exact ⟨⟨_, rfl⟩, .inl ⟨_, rfl, hJs⟩⟩
theorem ones_any (b : Nat) (w : World) :
    Calls Try.prog 51 #[.int .u64 (b : Int)] w fun e w' => e = .returned (.func (.func 56) #[] #[.pointer (some ⟨w.heap.size, 0, none⟩)]) ∧ w' = w.alloc (.cells #[.int .u64 (b : Int)] 23) := by
  go_enter Try.func51, Try.ntmps51
  go_wp2_with fail
  go_ret
  exact ⟨rfl, rfl⟩
theorem ones_stops (F : Fence) (n : Nat) (h56 : F.fn 56) (hro : F.round = none) (hn : 1 ≤ n) (A b : Nat) (hb : U b) (w : World) (hAn : A < w.heap.size)
    (hA : w.cell? ⟨A, 0, none⟩ = some (.int .u64 (b : Int))) :
    SeqStopsK F n Try.prog 56 #[.pointer (some ⟨A, 0, none⟩)] (fun x : P64 => #[Value.int .i64 (x.1 : Int)]) (KpC A) (fun ys => ys = onesU b 64) (fun _ => True) 64 w := fun l J Jx W hW _ _ hY h0 =>
  ones1_in F n h56 hro hn l A b hb J Jx hY W ((hW.cell (p := ⟨A, 0, none⟩) (by dsimp only; omega)).trans hA) h0
end Go.Proofs.Ytldicconopcipaa
