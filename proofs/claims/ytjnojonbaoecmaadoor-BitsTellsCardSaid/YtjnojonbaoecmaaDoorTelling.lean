/- The walk of BitsTells. -/
import Derived.Test.YtjnojonbaoecmaaDoorTells
namespace Go.Proofs.YtjnojonbaoecmaaDoor
open Go.RowKit
set_option maxRecDepth 100000 in
set_option maxHeartbeats 8000000 in
theorem law_tells (a b : Nat) (ha : U a) (hb : U b) (wd n : Int) (cy : Bool) (ad : Option Addr) (len cap N : Nat) (w : World) (hm : Mk w) (h27 : Hid (∀ W, Gd w W → Calls Tryd.prog 27 #[.slice ad len cap] W fun e W' => e = .returned (.int .u64 (N : Nat)) ∧ W' = W)) (h28 : Hid (∀ W, Gd w W → Calls Tryd.prog 28 #[.slice ad len cap] W fun e W' => e = .returned (.int .u64 (N : Nat)) ∧ W' = W)) (h40 : ¬ (40 : Int) < len) :
    Calls Tryd.prog 3 #[.int .u64 a, .int .u64 b, .int .i64 wd, .int .i64 n, .bool cy, .slice ad len cap] w fun e w' => e = .returned (.bool true) ∧ Below w.heap.size w w' := by
  have hg0 : Gd w w.drew := ⟨hm, (Below.refl _ w).drew⟩
  go_enter Tryd.func3, Tryd.ntmps3
  go_wp2_with (first | (go_at_call 9; refine (add_any _ _ (by assumption) (by assumption) _ _ _ hm).mono ?_; rintro e w' ⟨rfl, rfl⟩) | (go_at_call 10; refine (radd_any _ _ (by assumption) (by assumption) _ _ _).mono ?_; rintro e w' ⟨rfl, rfl⟩) | (go_at_call 11; refine (sub_any _ _ (by assumption) (by assumption) _ _ _ hm).mono ?_; rintro e w' ⟨rfl, rfl⟩) | (go_at_call 12; refine (rsub_any _ _ (by assumption) (by assumption) _ _ _).mono ?_; rintro e w' ⟨rfl, rfl⟩) | (go_at_call 13; refine (mask_any _ _ hm).mono ?_; rintro e w' ⟨rfl, rfl⟩) | (go_at_call 14; refine (rmask_any _ _).mono ?_; rintro e w' ⟨rfl, rfl⟩) | (go_at_call 15; refine (cut_any _ (by assumption) _ _ hm).mono ?_; rintro e w' ⟨rfl, rfl⟩) | (go_at_call 16; refine (rcut_any _ (by assumption) _ _).mono ?_; rintro e w' ⟨rfl, rfl⟩) | (go_at_call 17; refine (sign_any _ (by assumption) _ _).mono ?_; rintro e w' ⟨rfl, rfl⟩) | (go_at_call 18; refine (rsign_any _ (by assumption) _ _).mono ?_; rintro e w' ⟨rfl, rfl⟩) | (go_at_call 19; refine (ext_any _ (by assumption) _ _ hm).mono ?_; rintro e w' ⟨rfl, rfl⟩) | (go_at_call 20; refine (rext_any _ (by assumption) _ _).mono ?_; rintro e w' ⟨rfl, rfl⟩) | (go_at_call 21; refine (parity_any _ _).mono ?_; rintro e w' ⟨rfl, rfl⟩) | (go_at_call 22; refine (rparity_any _ (by assumption) _).mono ?_; rintro e w' ⟨rfl, rfl⟩))
  go_region_with (first | (go_at_call 23; refine (gd_turn (w := w) (by assumption) _ (by assumption) _ _).mono ?_; rintro e w1 ⟨rfl, hg1⟩) | (go_at_call 24; refine (rturn_any _ (by assumption) _ _ _).mono ?_; rintro e w' ⟨rfl, rfl⟩) | (go_at_call 25; refine (gd_bytes (w := w) (by assumption) _ _).mono ?_; rintro e w2 ⟨rfl, hg2, hv2, HC2⟩) | (go_at_call 26; refine (gd_rbytes (w := w) hg2 _ _ _ (hN wd) HC2).mono ?_; rintro e w3 ⟨v3, rfl, hg3, hv3, hv4⟩) | (go_at_call 27; refine (h27.out _ hg3).mono ?_; rintro e w' ⟨rfl, rfl⟩) | (go_at_call 28; refine (h28.out _ hg3).mono ?_; rintro e w' ⟨rfl, rfl⟩) | (go_at_call 8; refine (wakes_any _ hg3.1).mono ?_; rintro e w4 ⟨rfl, hb4⟩))
  all_goals
    go_wp2
    go_ret
    exact ⟨rfl, hg3.2.trans (hb4.mono hg3.2.size)⟩
set_option maxHeartbeats 400000 in
theorem law_tells_long (a b : Nat) (wd n : Int) (cy : Bool) (ad : Option Addr) (len cap : Nat) (w : World) (hm : Mk w) (h40 : (40 : Int) < len) :
    Calls Tryd.prog 3 #[.int .u64 a, .int .u64 b, .int .i64 wd, .int .i64 n, .bool cy, .slice ad len cap] w fun e w' => e = .returned (.bool true) ∧ Below w.heap.size w w' := by
  go_enter Tryd.func3, Tryd.ntmps3
  go_wp2_with (go_at_call 8; ((with_reducible refine (wakes_any _ hm).mono ?_); rintro e w8 ⟨rfl, hb8⟩))
  go_ret
  exact ⟨rfl, by assumption⟩
theorem walkIn_tells (a b : Int) (ha : (Lit.int .u64 a).wf = true) (hb : (Lit.int .u64 b).wf = true) (wd n : Int) (cy : Bool) (sb off len cap : Nat) (z : Nat → Nat) (hz : ∀ j, z j < 256) (w : World) (hm : Mk w) (hc : ∀ j, j < len → w.cell? ⟨sb, off + j, none⟩ = some (.int .u8 (z j : Nat))) (hcap : len ≤ cap) :
    Calls Tryd.prog 3 #[.int .u64 a, .int .u64 b, .int .i64 wd, .int .i64 n, .bool cy, .slice (some ⟨sb, off, none⟩) len cap] w fun e w' => e = .returned (.bool true) ∧ Below w.heap.size w w' := by
  obtain ⟨k, rfl, hk⟩ := nat_of_wf ha
  obtain ⟨j, rfl, hj⟩ := nat_of_wf hb
  by_cases h : (40 : Int) < len
  · exact law_tells_long k j wd n cy _ len cap w hm h
  · exact law_tells k j hk hj wd n cy _ len cap (numN z (min len 8)) w hm (Lib.hid fun W hg => number_any _ _ _ _ z hz W (hg.cells hc) hcap) (Lib.hid fun W hg => rnumber_any _ _ _ _ z hz W (hg.cells hc) hcap) h
theorem walkIn_tells_nil (a b : Int) (ha : (Lit.int .u64 a).wf = true) (hb : (Lit.int .u64 b).wf = true) (wd n : Int) (cy : Bool) (w : World) (hm : Mk w) :
    Calls Tryd.prog 3 #[.int .u64 a, .int .u64 b, .int .i64 wd, .int .i64 n, .bool cy, .slice none 0 0] w fun e w' => e = .returned (.bool true) ∧ Below w.heap.size w w' := by
  obtain ⟨k, rfl, hk⟩ := nat_of_wf ha
  obtain ⟨j, rfl, hj⟩ := nat_of_wf hb
  exact law_tells k j hk hj wd n cy _ 0 0 0 w hm (Lib.hid fun W _ => number_nil W) (Lib.hid fun W _ => rnumber_nil W) (by decide)
end Go.Proofs.YtjnojonbaoecmaaDoor
