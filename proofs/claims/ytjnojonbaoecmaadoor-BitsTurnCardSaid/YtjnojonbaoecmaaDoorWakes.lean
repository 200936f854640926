/- What wakes answers. -/
import Derived.Test.YtjnojonbaoecmaaDoorBytes
namespace Go.Proofs.YtjnojonbaoecmaaDoor
open Go.RowKit
theorem bytes_any (a : Nat) (wd : Int) (w : World) :
    Calls Tryd.prog 25 #[.int .u64 a, .int .i64 wd] w fun e W' => e = .returned (.slice (some ⟨w.heap.size, 0, none⟩) (hN wd) (hN wd)) ∧ (∀ j, j < hN wd → W'.cell? ⟨w.heap.size, j, none⟩ = some (.int .u8 (byN a j : Nat))) ∧ Below w.heap.size w W' :=
  callsIn_wide.1 (bytes_in Fence.wide 3 trivial trivial trivial trivial rfl (Nat.le_refl _) a wd w)

theorem Mk.pos {w : World} (h : Mk w) : 0 < w.heap.size := by
  have := h 0 (by decide)
  rcases Nat.eq_zero_or_pos w.heap.size with h0 | h0
  · unfold World.cell? at this
    rw [Array.getElem?_eq_none (by dsimp only; omega)] at this
    simp at this
  · exact h0
theorem Mk.below {n : Nat} {w w' : World} (h : Mk w) (hb : Below n w w') (hn : 0 < n) : Mk w' := fun i hi => (hb.cell (p := ⟨0, i, none⟩) hn).trans (h i hi)

theorem wk_add (w : World) (hm : Mk w) : Calls Tryd.prog 9 #[.int .u64 127, .int .u64 1, .bool false, .int .i64 1] w fun e w' => e = .returned (.tuple #[.int .u64 128, .bool false, .bool true]) ∧ w = w' :=
  add_any 127 1 (by unfold U; decide) (by unfold U; decide) false 1 w hm
theorem wk_sub (w : World) (hm : Mk w) : Calls Tryd.prog 11 #[.int .u64 128, .int .u64 1, .bool false, .int .i64 1] w fun e w' => e = .returned (.tuple #[.int .u64 127, .bool false, .bool true]) ∧ w = w' :=
  sub_any 128 1 (by unfold U; decide) (by unfold U; decide) false 1 w hm
theorem wk_ext (w : World) (hm : Mk w) : Calls Tryd.prog 19 #[.int .u64 128, .int .i64 1] w fun e w' => e = .returned (.int .u64 18446744073709551488) ∧ w = w' :=
  ext_any 128 (by unfold U; decide) 1 w hm
theorem wk_mask (w : World) (hm : Mk w) : Calls Tryd.prog 13 #[.int .i64 4] w fun e w' => e = .returned (.int .u64 4294967295) ∧ w = w' :=
  mask_any 4 w hm
theorem wk_par0 (w : World) : Calls Tryd.prog 21 #[.int .u64 0] w fun e w' => e = .returned (.bool true) ∧ w = w' :=
  parity_any 0 w
theorem wk_par1 (w : World) : Calls Tryd.prog 21 #[.int .u64 1] w fun e w' => e = .returned (.bool false) ∧ w = w' :=
  parity_any 1 w
theorem wk_bytes (w : World) : Calls Tryd.prog 25 #[.int .u64 4660, .int .i64 2] w fun e W' => e = .returned (.slice (some ⟨w.heap.size, 0, none⟩) 2 2) ∧ (∀ j, j < 2 → W'.cell? ⟨w.heap.size, 0 + j, none⟩ = some (.int .u8 (byN 4660 j : Nat))) ∧ Below w.heap.size w W' :=
  (bytes_any 4660 2 w).mono fun e W' ⟨h1, h2, h3⟩ => ⟨h1, fun j hj => by rw [Nat.zero_add]; exact h2 j hj, h3⟩
theorem wk_num (b : Nat) (w : World) (hc : ∀ j, j < 2 → w.cell? ⟨b, 0 + j, none⟩ = some (.int .u8 (byN 4660 j : Nat))) :
    Calls Tryd.prog 27 #[.slice (some ⟨b, 0, none⟩) 2 2] w fun e w' => e = .returned (.int .u64 4660) ∧ w' = w :=
  number_any b 0 2 2 (byN 4660) (byN_lt 4660) w hc (Nat.le_refl _)
set_option maxHeartbeats 1000000 in
theorem wakes_any (w : World) (hm : Mk w) : Calls Tryd.prog 8 #[] w fun e w' => e = .returned (.bool true) ∧ Below w.heap.size w w' := by
  go_enter Tryd.func8, Tryd.ntmps8
  go_wp2_with (first | (go_at_call 9; refine (wk_add _ hm).mono ?_; rintro e w' ⟨rfl, rfl⟩) | (go_at_call 11; refine (wk_sub _ hm).mono ?_; rintro e w' ⟨rfl, rfl⟩) | (go_at_call 19; refine (wk_ext _ hm).mono ?_; rintro e w' ⟨rfl, rfl⟩) | (go_at_call 13; refine (wk_mask _ hm).mono ?_; rintro e w' ⟨rfl, rfl⟩) | (go_at_call 21; refine (wk_par0 _).mono ?_; rintro e w' ⟨rfl, rfl⟩) | (go_at_call 21; refine (wk_par1 _).mono ?_; rintro e w' ⟨rfl, rfl⟩) | (go_at_call 25; refine (wk_bytes _).mono ?_; rintro e w2 ⟨rfl, hcs, hb2⟩; have HCS := Lib.hid hcs; clear hcs) | (go_at_call 27; refine (wk_num _ _ HCS.out).mono ?_; rintro e w3 ⟨rfl, rfl⟩))
  go_ret
  exact ⟨rfl, by assumption⟩
end Go.Proofs.YtjnojonbaoecmaaDoor
