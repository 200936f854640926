/- The contract of the document's own answer for layer 1: Bytes. -/
import Derived.Test.YtjnojonbaoecmaaDoorRefs
import Derived.Test.YtjnojonbaoecmaaDoorBytes
namespace Go.Proofs.YtjnojonbaoecmaaDoor
open Go.RowKit
abbrev bsV (a k : Nat) : List Value := upto (fun j => Value.int .u8 (byN a j : Nat)) k
theorem bsV_len (a k : Nat) : (bsV a k).length = k := upto_length _ _
theorem bsV_succ (a k : Nat) : bsV a (k + 1) = bsV a k ++ [.int .u8 (byN a k : Nat)] := upto_succ _ _
set_option maxHeartbeats 1000000 in
theorem rbytes_any (a : Nat) (wd : Int) (w : World) :
    Calls Tryd.prog 26 #[.int .u64 a, .int .i64 wd] w fun e W' => ∃ v, e = .returned v ∧ W'.ownsRow w.heap.size 5 1 v (hN wd) (bsV a (hN wd)) ∧ Below w.heap.size w W' := by
  have hbd := hN_bd wd
  have hIN := hI_N wd
  obtain ⟨i0, hi, hz0, hz1, hz2⟩ := info_parts info5
  go_enter Tryd.func26, Tryd.ntmps26
  go_wp2_with fail
  go_loopw [5, 6] (fun v i wr => ∃ k : Nat, k ≤ hN wd ∧ i = .int .i64 k ∧ wr.ownsRow w.heap.size 5 1 v k (bsV a k) ∧ Below w.heap.size w wr) (fun _ i _ => hN wd - (intOf i).toNat)
  case atStart => exact ⟨0, Nat.zero_le _, rfl, World.ownsRow_nil _ _ _ _, Below.refl _ _⟩
  case round =>
    obtain ⟨k, hk, rfl, hown, hnx⟩ := hrel
    by_cases hlt : k < hN wd
    · have hsz := hnx.size
      go_wp2_with (first | (go_at_call 33; refine (wide_any _ _).mono ?_; rintro e w' ⟨rfl, rfl⟩) | (at_builtin; refine wpList_append_own _ rfl _ _ 23 rfl w.heap.size 5 i0 (.int .u8 0) 1 1 Tryd.underlying23 hi hz0 hz1 hz2 rfl (by decide) _ k (bsV a k) rfl (hown.alloc _) ⟨wr.heap.size, 0, none⟩ 1 1 [.int .u8 ((a : Int) / 2 ^ (8 * k) % 256)] rfl rfl ?c1 ?c2 ?c3 ?c4 ?c5 ?_))
      case c1 =>
        intro j u hj
        match j, hj with
        | 0, hj => simp at hj; subst hj; simp [Addr.add]
      case c2 => intro u hu; simp at hu; subst hu; rfl
      case c3 => unfold maxLen; omega
      case c4 => omega
      case c5 => simp; omega
      intro v' w1 hown' hgrow _
      have hown2 : w1.ownsRow w.heap.size 5 1 v' (k + 1) (bsV a (k + 1)) := by rw [bsV_succ, byI]; exact hown'
      have hb2 : Below w.heap.size w w1 := (hnx.alloc (by omega) _).grown hgrow (by simp; omega) (fun j hj => by have := (hown.lt j hj).1; omega)
      clear hown' hgrow hown
      go_wp2
      go_roundw
      case rel => exact ⟨k + 1, by omega, by go_num, hown2, hb2⟩
      case measure => simp [intOf]; omega
    · obtain rfl : k = hN wd := by omega
      go_wp2_with (go_at_call 33; refine (wide_any _ _).mono ?_; rintro e w' ⟨rfl, rfl⟩)
      go_ret
      exact ⟨_, rfl, hown, hnx⟩
end Go.Proofs.YtjnojonbaoecmaaDoor
