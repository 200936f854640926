/- slices.Values: its iterator. -/
import Derived.Test.YtaaflkjdcablcaaL
namespace Go.Proofs.Ytaaflkjdcablcaa
open Go.RowKit Go.Shelf
set_option linter.unusedVariables false
set_option linter.unusedSimpArgs false
attribute [local go_sem] Oper.semAt_some
theorem room_of_none {F : Fence} (hd : F.depth = none) (k : Nat) : F.room k := fun d h => by rw [hd] at h; cases h
theorem RoundIn.anyDepth {F : Fence} (hd : F.depth = none) {m m' : Nat} {P : Program} {l : Nat} {f : FuncId} {tmps : Array Value} {assign body : Code} {w : World} {R : Ending → World → Prop}
    (h : RoundIn F m P l f tmps assign body w R) : RoundIn F m' P l f tmps assign body w R := ⟨h.1, fun c cs _ => h.2 c cs (room_of_none hd _)⟩
theorem YieldAt.anyDepth {F : Fence} (hd : F.depth = none) {m : Nat} (m' : Nat) {P : Program} {l : Nat} {args : Array Value} {W : World} {R : Ending → World → Prop} (h : YieldAt F m P l args W R) : YieldAt F m' P l args W R := by
  obtain ⟨fn, tmps, assign, body, hy, hR⟩ := h
  exact ⟨fn, tmps, assign, body, hy, RoundIn.anyDepth hd hR⟩
theorem grown_below {W W' : World} (hb : Below W.heap.size W W') : W.grownBy W' none := ⟨hb.os, hb.tape, hb.output, hb.size, fun k hk _ => hb.block k hk⟩
theorem grown_alloc (W : World) (o : Obj) : W.grownBy (W.alloc o) none := grown_below ((Below.refl _ _).alloc (Nat.le_refl _) o)
/-- What a round keeps: the row that is gone through. -/
def KpG (g : Option Nat) (W W' : World) : Prop := W.heap.size ≤ W'.heap.size ∧ ∀ k, g = some k → k < W.heap.size → W'.heap[k]? = W.heap[k]?
theorem kpG_t {g : Option Nat} {X Y Z : World} (h : KpG g X Y) (k : KpG g Y Z) : KpG g X Z := ⟨Nat.le_trans h.1 k.1, fun j e hj => (k.2 j e (Nat.lt_of_lt_of_le hj h.1)).trans (h.2 j e hj)⟩
theorem kpG_below {g : Option Nat} {W W' : World} (hb : Below W.heap.size W W') : KpG g W W' := ⟨hb.size, fun k _ hk => hb.block k hk⟩
def blk (a : Option Addr) : Option Nat := a.map (·.block)
theorem RD.kp {W W' : World} {a : Option Addr} {zs : List Rg} (h : RD W a zs) (hk : KpG (blk a) W W') : RD W' a zs := fun k hkk => by
  obtain ⟨b, off, ha, c0, c1⟩ := h k hkk
  have e := hk.2 b (by rw [ha]; rfl) (cell_lt' c0)
  refine ⟨b, off, ha, ?_, ?_⟩
  · unfold World.cell? at c0 ⊢
    rw [e]; exact c0
  · unfold World.cell? at c1 ⊢
    rw [e]; exact c1
def YC (F : Fence) (l N : Nat) (g : Option Nat) (J Jx : List Rg → World → Prop) : Prop := ∀ (m : Nat) pre (x : Rg) W1, J pre W1 → pre.length < N → YieldAt F m Try.prog l #[.agg #[.int .u64 (x.1 : Nat), .int .u64 (x.2 : Nat)]] W1 fun e W' => (e = .returned (.bool true) ∧ J (pre ++ [x]) W' ∧ KpG g W1 W') ∨ (e = .returned (.bool false) ∧ Jx (pre ++ [x]) W')
set_option maxRecDepth 100000 in
set_option maxHeartbeats 4000000 in
theorem vals_in (F : Fence) (HF : Hid (F = Fence.wide)) (n : Nat) (hn : 1 ≤ n) (h60 : F.fn 60) (hro : F.round = none) (l : Nat) (J Jx : List Rg → World → Prop) (hJg : ∀ pre W W', J pre W → W.grownBy W' none → J pre W')
    (a : Option Addr) (cap B : Nat) (zs : List Rg) (hm : zs.length ≤ 1000000) (hY : YC F l zs.length (blk a) J Jx) (W : World) (hB : W.cell? ⟨B, 0, none⟩ = some (.slice a zs.length cap)) (hr : RD W a zs) (hJ : J [] W) :
    CallsIn F n Try.prog 60 #[.func (.yield l) #[] #[], .pointer (some ⟨B, 0, none⟩)] W fun e W' => (∃ v, e = .returned v) ∧ ((J zs W') ∨ (∃ q, q <+: zs ∧ Jx q W')) := by
  have HJ := Lib.hid hJg
  have HY := Lib.hid hY
  have HR := Lib.hid hr
  clear hJg hY hr
  refine callsIn_of_wp Try.func60 rfl h60 ?_ hro
  simp only [Try.ntmps60, List.size_toArray, List.length_cons, List.length_nil, Nat.reduceAdd, Nat.reduceSub, Array.replicate_succ, Array.replicate_zero, List.push_toArray, List.append_toArray, List.nil_append, List.cons_append]
  gi_wp2
  gi_loopw [7] (fun i wr => ∃ k : Nat, k ≤ zs.length ∧ i = .int .i64 k ∧ J (zs.take k) wr ∧ KpG (blk a) W wr) (fun i _ => zs.length - (intOf i).toNat)
  case atStart => exact ⟨0, Nat.zero_le _, rfl, by simpa using hJ, kpG_below (Below.refl _ _)⟩
  case round =>
    obtain ⟨k, hk, rfl, hJs, hKp⟩ := hrel
    by_cases hlt : k < zs.length
    · obtain ⟨b, off, ha, c0, c1⟩ := HR.out.kp hKp k hlt
      have HT := Lib.hid (take_succ' zs k hlt)
      obtain ⟨x, hx⟩ : ∃ x, rAt zs k = x := ⟨_, rfl⟩
      have e0 : zl zs k = x.1 := by rw [← hx]; rfl
      have e1 : zh zs k = x.2 := by rw [← hx]; rfl
      rw [e0] at c0
      rw [e1] at c1
      rw [hx] at HT
      clear hx e0 e1
      have hJ2 := HJ.out _ _ _ hJs (grown_alloc wr (.cells #[.int .u64 (x.1 : Nat), .int .u64 (x.2 : Nat)] 25))
      have hx := HY.out (n - 1) _ x _ hJ2 (by simp; omega)
      have HK2 : Hid (KpG (blk a) wr (wr.alloc (.cells #[.int .u64 (x.1 : Nat), .int .u64 (x.2 : Nat)] 25))) := Lib.hid (kpG_below ((Below.refl _ _).alloc (Nat.le_refl _) _))
      have HKP := Lib.hid hKp
      obtain ⟨fn, tmps, assign, body, hy, hR⟩ := hx
      have HRR := Lib.hid hR
      clear hR hJ2 hKp hJs
      subst ha
      gi_wp2
      refine HRR.out.mono ?_
      rintro e W3 (⟨rfl, hJ3, hk3⟩ | ⟨rfl, hJx3⟩)
      · gi_wp2
        go_roundw
        case rel => exact ⟨k + 1, by omega, by go_num, by rw [HT.out]; exact hJ3, kpG_t (kpG_t HKP.out HK2.out) hk3⟩
        case measure => simp [intOf]; omega
      · gi_wp2
        refine bodyPost_ret (results_none rfl _ _ _) rfl ?_
        exact ⟨⟨_, rfl⟩, .inr ⟨_, List.take_prefix (k + 1) zs, by rw [HT.out]; exact hJx3⟩⟩
    · have HJS := Lib.hid hJs
      have HKE : Hid (k = zs.length) := Lib.hid (Nat.le_antisymm hk (Nat.not_lt.1 hlt))
      have hd : decide (k < zs.length) = false := decide_eq_false hlt
      clear hJs hKp
      gi_wp2
      go_end0
      have hJs := HJS.out
      rw [HKE.out, List.take_length] at hJs
      exact ⟨⟨_, rfl⟩, .inl hJs⟩
end Go.Proofs.Ytaaflkjdcablcaa
