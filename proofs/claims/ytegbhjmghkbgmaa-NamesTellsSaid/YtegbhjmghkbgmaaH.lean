/- names.rows: the rows of a table but the first one. -/
import Derived.Test.YtegbhjmghkbgmaaG
namespace Go.Proofs.Ytegbhjmghkbgmaa
open Go.RowKit Go.Shelf
set_option linter.unusedVariables false
set_option linter.unusedSimpArgs false
attribute [local go_sem] Oper.semAt_some
theorem room_of_none {F : Fence} (hd : F.depth = none) (k : Nat) : F.room k := fun d h => by rw [hd] at h; cases h
theorem RoundIn.anyDepth {F : Fence} (hd : F.depth = none) {m m' : Nat} {P : Program} {l : Nat} {f : FuncId} {tmps : Array Value} {assign body : Code} {w : World} {R : Ending → World → Prop}
    (h : RoundIn F m P l f tmps assign body w R) : RoundIn F m' P l f tmps assign body w R := ⟨h.1, fun c cs _ => h.2 c cs (room_of_none hd _)⟩
theorem YieldAt.anyDepth {F : Fence} (hd : F.depth = none) {m : Nat} (m' : Nat) {P : Program} {l : Nat} {args : Array Value} {W : World} {R : Ending → World → Prop} (h : YieldAt F m P l args W R) : YieldAt F m' P l args W R := by
  obtain ⟨fn, tmps, assign, body, hy, hR⟩ := h
  exact ⟨fn, tmps, assign, body, hy, RoundIn.anyDepth hd hR⟩
theorem grown_below {W W' : World} (hb : Below W.heap.size W W') : W.grownBy W' none := ⟨hb.os, hb.tape, hb.output, hb.size, fun k hk _ => hb.block k hk⟩
theorem grown_alloc (W : World) (o : Obj) : W.grownBy (W.alloc o) none := grown_below ((Below.refl _ _).alloc (Nat.le_refl _) o)
/-- What a round keeps: the block of the table, and the box in which the table lies. -/
def KpN (g : Option Nat) (B : Nat) (W W' : World) : Prop := W.heap.size ≤ W'.heap.size ∧ ∀ k, (g = some k ∨ k = B) → k < W.heap.size → W'.heap[k]? = W.heap[k]?
theorem kpN_t {g : Option Nat} {B : Nat} {X Y Z : World} (h : KpN g B X Y) (k : KpN g B Y Z) : KpN g B X Z := ⟨Nat.le_trans h.1 k.1, fun j e hj => (k.2 j e (Nat.lt_of_lt_of_le hj h.1)).trans (h.2 j e hj)⟩
theorem kpN_below {g : Option Nat} {B : Nat} {W W' : World} (hb : Below W.heap.size W W') : KpN g B W W' := ⟨hb.size, fun k _ hk => hb.block k hk⟩
def blk (a : Option Addr) : Option Nat := a.map (·.block)
theorem TakeIs.kp {W W' : World} {g : Option Nat} {B : Nat} {v : Value} (h : TakeIs W B v) (hk : KpN g B W W') : TakeIs W' B v := (hk.2 B (.inr rfl) (Array.getElem?_eq_some_iff.1 h).1).trans h
/-- How many rows a table of so many bytes has but the first one. -/
def rowsM (n : Nat) : Nat := n / 24 - 1
/-- A row of a table, as it is handed on. -/
def rowV (a : Option Addr) (c k : Nat) : Value := .slice (a.map fun x => ⟨x.block, x.off + 24 * (k + 1), none⟩) 24 (c - 24 * (k + 1))
def YN (F : Fence) (l N : Nat) (a : Option Addr) (c B : Nat) (J Jx : List Nat → World → Prop) : Prop := ∀ (m : Nat) pre (x : Nat) W1, J pre W1 → pre.length < N → x = pre.length → YieldAt F m Try.prog l #[rowV a c x] W1 fun e W' => (e = .returned (.bool true) ∧ J (pre ++ [x]) W' ∧ KpN (blk a) B W1 W') ∨ (e = .returned (.bool false) ∧ Jx (pre ++ [x]) W')
theorem rows_any (a : Option Addr) (n c : Nat) (w : World) : Calls Try.prog 23 #[.slice a n c] w fun e W' => e = .returned (.func (.func 34) #[] #[.pointer (some ⟨w.heap.size, 0, none⟩)]) ∧ TakeIs W' w.heap.size (.slice a n c) ∧ Below w.heap.size w W' := by
  have HS := Lib.hid (And.intro (heap_alloc_last w (.cells #[.slice a n c] 27)) ((Below.refl _ w).alloc (Nat.le_refl _) (.cells #[.slice a n c] 27)))
  go_enter Try.func23, Try.ntmps23
  go_wp2_with fail
  go_ret
  exact ⟨rfl, HS.out.1, HS.out.2⟩
set_option maxRecDepth 100000 in
set_option maxHeartbeats 4000000 in
theorem rows_in (F : Fence) (HF : Hid (F = Fence.wide)) (n : Nat) (hn : 1 ≤ n) (h34 : F.fn 34) (hro : F.round = none) (l : Nat) (J Jx : List Nat → World → Prop)
    (a : Option Addr) (len c B : Nat) (ha : 0 < len → ∃ b off, a = some ⟨b, off, none⟩) (hlc : len ≤ c) (hlen : len ≤ 9223372036854775000) (hY : YN F l (rowsM len) a c B J Jx) (W : World) (hB : TakeIs W B (.slice a len c)) (hJ : J [] W) :
    CallsIn F n Try.prog 34 #[.func (.yield l) #[] #[], .pointer (some ⟨B, 0, none⟩)] W fun e W' => (∃ v, e = .returned v) ∧ ((J (List.range (rowsM len)) W') ∨ (∃ q, q <+: List.range (rowsM len) ∧ Jx q W')) := by
  have HY := Lib.hid hY
  have HA := Lib.hid ha
  have HB := Lib.hid hB
  have HM : Hid (rowsM len = len / 24 - 1) := Lib.hid rfl
  clear hY ha hB
  generalize rowsM len = M at *
  refine callsIn_of_wp Try.func34 rfl h34 ?_ hro
  simp only [Try.ntmps34, List.size_toArray, List.length_cons, List.length_nil, Nat.reduceAdd, Nat.reduceSub, Array.replicate_succ, Array.replicate_zero, List.push_toArray, List.append_toArray, List.nil_append, List.cons_append]
  gi_wp2
  gi_loopw [3] (fun i wr => ∃ k t : Nat, k ≤ M ∧ i = .int .i64 (t : Nat) ∧ t = 24 * (k + 1) ∧ J (List.range k) wr ∧ KpN (blk a) B W wr) (fun i _ => len + 24 - (intOf i).toNat)
  case atStart => exact ⟨0, 24, Nat.zero_le _, rfl, rfl, by simpa using hJ, kpN_below (Below.refl _ _)⟩
  case round =>
    obtain ⟨k, t, hk, rfl, ht, hJs, hKp⟩ := hrel
    have HB2 := Lib.hid (HB.out.kp hKp)
    have f0 := cell_at (i := 0) (v := .slice a len c) HB2.out rfl
    have hM := HM.out
    have HKP := Lib.hid hKp
    have HJS := Lib.hid hJs
    clear hJs hKp
    have u0 : IntKind.i64.wrap ((t : Int) + 24) = ((t + 24 : Nat) : Int) := by
      rw [IntWalk.i64_in _ (by omega)]
      omega
    obtain ⟨t2, h2⟩ : ∃ t2, t + 24 = t2 := ⟨_, rfl⟩
    rw [h2] at u0
    by_cases hlt : k < M
    · have d1 : decide (t2 ≤ len) = true := decide_eq_true (by omega)
      have d2 : decide (t ≤ t2) = true := decide_eq_true (by omega)
      have d3 : decide (t2 ≤ c) = true := decide_eq_true (by omega)
      have hne : ¬ c = t := by omega
      have hso : t2 - t = 24 := by omega
      obtain ⟨b, off, rfl⟩ := HA.out (by omega)
      have hx := HY.out (n - 1) _ k _ HJS.out (by simpa using hlt) (by simp)
      have HT : Hid (List.range (k + 1) = List.range k ++ [k]) := Lib.hid List.range_succ
      obtain ⟨fn, tmps, assign, body, hy, hR⟩ := hx
      have HRR := Lib.hid hR
      clear hR
      have hrow : rowV (some ⟨b, off, none⟩) c k = .slice (some ⟨b, off + t, none⟩) 24 (c - t) := by rw [ht]; rfl
      rw [hrow] at hy
      have HTT := Lib.hid (show t2 = 24 * (k + 1 + 1) by omega)
      have HME := Lib.hid (show k + 1 ≤ M by omega)
      have HMS := Lib.hid (show len + 24 - t2 < len + 24 - t by omega)
      have hi1 : t2 ≤ c := by omega
      have hi2 : t ≤ t2 := by omega
      clear hrow ht h2 hM hlt hk
      gi_wp2
      refine HRR.out.mono ?_
      rintro e W3 (⟨rfl, hJ3, hk3⟩ | ⟨rfl, hJx3⟩)
      · gi_wp2
        go_roundw
        case rel => exact ⟨k + 1, t2, HME.out, by first | done | rfl | (rw [u0]), HTT.out, by rw [HT.out]; exact hJ3, kpN_t HKP.out hk3⟩
        case measure => have := HMS.out; simp [intOf]; omega
      · gi_wp2
        have hk := HME.out
        refine bodyPost_ret (results_none rfl _ _ _) rfl ?_
        exact ⟨⟨_, rfl⟩, .inr ⟨List.range (k + 1), by
          rw [List.prefix_iff_eq_take, List.length_range, List.take_range, Nat.min_eq_left (by omega)], by rw [HT.out]; exact hJx3⟩⟩
    · have HKE : Hid (k = M) := Lib.hid (Nat.le_antisymm hk (Nat.not_lt.1 hlt))
      have d1 : decide (t2 ≤ len) = false := decide_eq_false (by omega)
      clear ht h2 hM hlt hk
      gi_wp2
      go_end0
      have hJs := HJS.out
      rw [HKE.out] at hJs
      exact ⟨⟨_, rfl⟩, .inl hJs⟩
end Go.Proofs.Ytegbhjmghkbgmaa
