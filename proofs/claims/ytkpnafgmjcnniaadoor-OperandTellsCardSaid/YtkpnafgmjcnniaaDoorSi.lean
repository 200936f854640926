/- The statement's own same and ints. -/
import Derived.Test.YtkpnafgmjcnniaaDoorWk
import Derived.Test.YtkpnafgmjcnniaaDoorUs
import Derived.Laws.BytesArg
import Derived.Deep.QuietTactic
import Derived.BigQuiet
namespace Go.Proofs.YtkpnafgmjcnniaaDoor
open Go.RowKit
set_option linter.unusedVariables false
set_option linter.unusedSimpArgs false
/-- The string of these bytes. -/
def stN (n : Nat) (z : Nat → Nat) : ByteArray := ⟨((List.range n).map fun j => UInt8.ofNat (z j)).toArray⟩
theorem st_run (W : World) (g cap n : Nat) (z : Nat → Nat) (hz : ∀ j, z j < 256) (hc : ∀ j, j < n → W.cell? ⟨g, j, none⟩ = some (.int .u8 (z j : Nat))) : (convert 24 9 (.slice (some ⟨g, 0, none⟩) n cap)).run Tryd.prog W = .ok (.string (stN n z)) W := by
  have h := run_convert_bytes_back (P := Tryd.prog) W 24 9 5 ⟨g, 0, none⟩ cap ((List.range n).map fun j => UInt8.ofNat (z j)) Tryd.underlying24 Tryd.underlying5 Tryd.underlying9 (fun j hj => by
    have hj3 : j < n := by simpa using hj
    rw [Addr.add_lit, Nat.zero_add, hc j hj3]
    have : (UInt8.ofNat (z j)).toNat = z j := by have := hz j; simp; omega
    simp [this])
  simp only [List.length_map, List.length_range] at h
  exact h
set_option maxHeartbeats 1000000 in
theorem same_any (g g2 cap cap2 n : Nat) (z : Nat → Nat) (hz : ∀ j, z j < 256) (w : World) (h1 : ∀ j, j < n → w.cell? ⟨g, j, none⟩ = some (.int .u8 (z j : Nat))) (h2 : ∀ j, j < n → w.cell? ⟨g2, j, none⟩ = some (.int .u8 (z j : Nat))) :
    Calls Tryd.prog 17 #[.slice (some ⟨g, 0, none⟩) n cap, .slice (some ⟨g2, 0, none⟩) n cap2] w fun e w' => e = .returned (.bool true) ∧ w = w' := by
  have e1 := st_run w g cap n z hz h1
  have e2 := st_run w g2 cap2 n z hz h2
  clear h1 h2
  generalize stN n z = s at *
  go_enter Tryd.func17, Tryd.ntmps17
  go_wp2
  go_ret
  exact ⟨by simp, rfl⟩
set_option maxRecDepth 100000 in
set_option maxHeartbeats 1000000 in
theorem same_nil (w : World) :
    Calls Tryd.prog 17 #[.slice none 0 0, .slice none 0 0] w fun e w' => e = .returned (.bool true) ∧ w = w' := by
  have e1 : (convert 24 9 (.slice none 0 0)).run Tryd.prog w = .ok (.string ⟨#[]⟩) w := by
    rw [run_convert_bytes_string w 24 9 5 none 0 0 Tryd.underlying24 Tryd.underlying5 Tryd.underlying9]
    rfl
  go_enter Tryd.func17, Tryd.ntmps17
  go_wp2
  go_ret
  exact ⟨rfl, rfl⟩
set_option maxRecDepth 100000 in
set_option maxHeartbeats 1000000 in
theorem ints_0 (sp sp2 : Option Addr) (cap cap2 : Nat) (w : World) :
    Calls Tryd.prog 20 #[.slice sp 0 cap, .slice sp2 0 cap2] w fun e w' => e = .returned (.bool true) ∧ w = w' := by
  go_enter Tryd.func20, Tryd.ntmps20
  go_wp2_with fail
  go_loop [5] (fun i => i = .int .i64 0) (fun i => 0)
  case atStart => rfl
  obtain rfl := hrel
  go_wp2_with fail
  go_ret
  exact ⟨rfl, rfl⟩
set_option maxRecDepth 100000 in
set_option maxHeartbeats 1000000 in
theorem ints_n (g g2 cap cap2 n : Nat) (hn : n ≤ 1000) (hc : n ≤ cap) (hc2 : n ≤ cap2) (x : Nat → Int) (w : World) (h1 : ∀ j, j < n → w.cell? ⟨g, j, none⟩ = some (.int .i64 (x j))) (h2 : ∀ j, j < n → w.cell? ⟨g2, j, none⟩ = some (.int .i64 (x j))) :
    Calls Tryd.prog 20 #[.slice (some ⟨g, 0, none⟩) n cap, .slice (some ⟨g2, 0, none⟩) n cap2] w fun e w' => ∃ q, e = .returned (.bool true) ∧ w' = w.drewN q := by
  have H1 := Lib.hid h1
  have H2 := Lib.hid h2
  clear h1 h2
  go_enter Tryd.func20, Tryd.ntmps20
  go_wp2_with fail
  go_loopw [5] (fun i W => ∃ k q : Nat, k ≤ n ∧ i = .int .i64 k ∧ W = w.drewN q) (fun i _ => n - (intOf i).toNat)
  case atStart => exact ⟨0, 0, Nat.zero_le _, rfl, rfl⟩
  obtain ⟨k, q, hk, rfl, rfl⟩ := hrel
  by_cases hlt : k < n
  · have c1 := H1.out k hlt
    have c2 := H2.out k hlt
    go_wp2_with fail
    go_quiet (fail)
    go_wp2_with fail
    go_roundw
    case rel => exact ⟨k + 1, q + nq, by omega, by go_num, rfl⟩
    case measure => simp [intOf]; omega
  · obtain rfl : n = k := by omega
    go_wp2_with fail
    go_ret
    exact ⟨_, rfl, rfl⟩
end Go.Proofs.YtkpnafgmjcnniaaDoor
