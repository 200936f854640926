/- BitsTells' walk over a slice that came in. -/
import Derived.Test.YtjnojonbaoecmaaDoorTelling
namespace Go.Proofs.YtjnojonbaoecmaaDoor
open Go.RowKit
set_option maxHeartbeats 400000 in
theorem number_zero (ad : Option Addr) (cap : Nat) (w : World) :
    Calls Tryd.prog 27 #[.slice ad 0 cap] w fun e w' => e = .returned (.int .u64 (0 : Nat)) ∧ w' = w := by
  have hcap : ¬ ((cap : Int) < 0) := by omega
  go_enter Tryd.func27, Tryd.ntmps27
  go_wp2_with (fail)
  go_loop [3, 12] (fun x i => i = .int .i64 0 ∧ x = .int .u64 0) (fun _ i => 0)
  case atStart => exact ⟨rfl, rfl⟩
  case round =>
    obtain ⟨rfl, rfl⟩ := hrel
    go_wp2
    go_ret
    exact ⟨rfl, rfl⟩
set_option maxHeartbeats 400000 in
theorem rnumber_zero (ad : Option Addr) (cap : Nat) (w : World) :
    Calls Tryd.prog 28 #[.slice ad 0 cap] w fun e w' => e = .returned (.int .u64 (0 : Nat)) ∧ w' = w := by
  go_enter Tryd.func28, Tryd.ntmps28
  go_wp2_with (fail)
  go_loop [3, 4] (fun x i => i = .int .i64 0 ∧ x = .int .u64 0) (fun _ i => 0)
  case atStart => exact ⟨rfl, rfl⟩
  case round =>
    obtain ⟨rfl, rfl⟩ := hrel
    go_wp2
    go_ret
    exact ⟨rfl, rfl⟩
theorem walkIn_tells_row (a0 a1 a2 a3 : Int) (a4 : Bool) (ad : Option Addr) (len cap : Nat) (zs : List Int) (W : World) (w0 : (Lit.int .u64 a0).wf = true) (w1 : (Lit.int .u64 a1).wf = true) (_ : (Lit.int .i64 a2).wf = true) (_ : (Lit.int .i64 a3).wf = true)
    (w5 : (ad = none ∧ len = 0 ∧ cap = 0 ∧ zs = []) ∨ ∃ x, ad = some x ∧ len ≤ cap ∧ cap ≤ maxLen ∧ zs.length = cap ∧ (∀ i, i < zs.length → W.cell? (x.add i) = some (.int .u8 (zs.getD i 0))) ∧ ∀ n ∈ zs, (Lit.int .u8 n).wf = true) (hm : Mk W) :
    Calls Tryd.prog 3 #[.int .u64 a0, .int .u64 a1, .int .i64 a2, .int .i64 a3, .bool a4, .slice ad len cap] W fun e w' => e = .returned (.bool true) ∧ Below W.heap.size W w' := by
  obtain ⟨k, rfl, hk⟩ := nat_of_wf w0
  obtain ⟨j, rfl, hj⟩ := nat_of_wf w1
  by_cases h0 : len = 0
  · subst h0
    exact law_tells k j hk hj a2 a3 a4 ad 0 cap 0 W hm (Lib.hid fun W _ => number_zero ad cap W) (Lib.hid fun W _ => rnumber_zero ad cap W) (by decide)
  · rcases w5 with ⟨rfl, rfl, rfl, rfl⟩ | ⟨x, rfl, hl, _, hz, hcell, hwz⟩
    · exact absurd rfl h0
    · obtain ⟨b, off, spot⟩ := x
      have hc := hcell 0 (by omega)
      have hspot : spot = none := by simpa [Addr.add] using World.cell?_spot hc
      subst hspot
      refine walkIn_tells k j w0 w1 a2 a3 a4 b off len cap (fun j => (zs.getD j 0).toNat) (fun j => ?_) W hm (fun j hj => ?_) hl
      · by_cases hjl : j < zs.length
        · have hb := Go.bounds_u8 (hwz (zs.getD j 0) (by simp [List.getD, hjl]))
          omega
        · simp [List.getD, List.getElem?_eq_none (Nat.le_of_not_lt hjl)]
      · have hb := Go.bounds_u8 (hwz (zs.getD j 0) (by simp [List.getD, show j < zs.length by omega]))
        have := hcell j (by omega)
        rw [show (⟨b, off, none⟩ : Addr).add j = ⟨b, off + j, none⟩ by simp [Addr.add]] at this
        rw [this]
        congr 2
        exact (Int.toNat_of_nonneg hb.1).symm
end Go.Proofs.YtjnojonbaoecmaaDoor
