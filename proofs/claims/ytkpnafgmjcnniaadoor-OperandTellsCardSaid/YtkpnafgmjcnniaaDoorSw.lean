/- The document's own shown: a number's bytes. -/
import Derived.Test.YtkpnafgmjcnniaaDoorSh
import Derived.Laws.AppendOwn
import Derived.Laws.AppendOwnNone
namespace Go.Proofs.YtkpnafgmjcnniaaDoor
open Go.RowKit
set_option linter.unusedVariables false
set_option linter.unusedSimpArgs false
/-- What is shown so far. -/
def SW (w : World) (n : Nat) (f : Nat → Int) (v : Value) (W : World) : Prop := W.ownsRow w.heap.size 5 1 v n (byL f n) ∧ Below w.heap.size w W
theorem SW.start (w : World) (f : Nat → Int) : SW w 0 f (.slice none 0 0) w := ⟨⟨rfl, .inl ⟨rfl, rfl⟩⟩, Below.refl _ _⟩
theorem byL_succ (f : Nat → Int) (n : Nat) : byL f (n + 1) = byL f n ++ [.int .u8 (f n)] := by simp [byL, List.range_succ]
theorem SW.next {w W W1 : World} {n : Nat} {f : Nat → Int} {v v' x : Value} (h : SW w n f v W) (hx : x = .int .u8 (f n)) (ho : W1.ownsRow w.heap.size 5 1 v' (n + 1) (byL f n ++ [x])) (hg : (W.alloc (.cells #[x] 5)).grownBy W1 v.ownBlock) : SW w (n + 1) f v' W1 := by
  subst hx
  refine ⟨by rw [byL_succ]; exact ho, ?_⟩
  have hl := h.2.size
  have h1 : Below w.heap.size (W.alloc (.cells #[.int .u8 (f n)] 5)) W1 := (Below.refl _ _).grown hg (by simp; omega) (fun q e => by
    rcases h.1.2 with ⟨h, _⟩ | ⟨g', cap', cur, h, hle, _⟩
    · rw [h] at e; cases e
    · rw [h] at e; cases e; exact hle)
  exact (h.2.alloc hl _).trans h1
theorem shown_step (d : Int) (k : Nat) (hk : k < 8) : IntKind.u64.wrap d / 2 ^ (8 * k) % 256 = ((byN (uN d) k : Nat) : Int) := by
  rw [byI, uN_val]
set_option maxRecDepth 100000 in
set_option maxHeartbeats 2000000 in
theorem shown_any (d : Int) (n : Nat) (hn : n ≤ 8) (w : World) :
    Calls Tryd.prog 50 #[.int .i64 d, .int .i64 n] w fun e w' => ∃ v, e = .returned v ∧ SW w n (dF d) v w' := by
  obtain ⟨ii, i1, i2, i3, i4⟩ := info5a
  have HI := Lib.hid (And.intro i1 (And.intro i2 (And.intro i3 i4)))
  clear i1 i2 i3 i4
  have H0 := Lib.hid (SW.start w (dF d))
  go_enter Tryd.func50, Tryd.ntmps50
  go_wp2_with fail
  go_loopw [5, 6] (fun v i W => ∃ k : Nat, k ≤ n ∧ i = .int .i64 k ∧ Hid (SW w k (dF d) v W)) (fun _ i _ => n - (intOf i).toNat)
  case atStart => exact ⟨0, Nat.zero_le _, rfl, H0⟩
  case round =>
    obtain ⟨k, hk, rfl, HS⟩ := hrel
    by_cases hlt : k < n
    · have HX := Lib.hid (shown_step d k (by omega))
      have hsz := HS.out.2.size
      go_wp2_with (at_builtin; refine wpList_append_own _ rfl _ _ 24 rfl w.heap.size 5 ii (.int .u8 0) 1 1 Tryd.underlying24 HI.out.1 HI.out.2.1 HI.out.2.2.1 HI.out.2.2.2 rfl (by decide) _ k (byL (dF d) k) rfl (HS.out.1.alloc _) ⟨_, 0, none⟩ 1 1 [.int .u8 (IntKind.u64.wrap d / 2 ^ (8 * k) % 256)] rfl rfl (cell_one_new _ _ _) (fun u hu => by simp at hu; subst hu; rfl) (by unfold maxLen; omega) (by omega) (by simp; omega) ?_)
      intro v1 W1 hown hgr _
      have HS1 := Lib.hid (HS.out.next (congrArg (Value.int .u8) HX.out) hown hgr)
      clear hown hgr
      go_wp2_with fail
      go_roundw
      case rel => exact ⟨k + 1, by omega, by go_num, HS1⟩
      case measure => simp [intOf]; omega
    · obtain rfl : k = n := by omega
      go_wp2_with fail
      go_ret
      exact ⟨_, rfl, HS.out⟩
end Go.Proofs.YtkpnafgmjcnniaaDoor
