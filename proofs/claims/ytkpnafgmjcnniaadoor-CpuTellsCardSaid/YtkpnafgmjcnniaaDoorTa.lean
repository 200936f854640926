/- taker's functions. -/
import Derived.Test.YtkpnafgmjcnniaaDoorSm
import Derived.IntWalk
namespace Go.Proofs.YtkpnafgmjcnniaaDoor
open Go.RowKit
set_option linter.unusedVariables false
set_option linter.unusedSimpArgs false
theorem taker_any (sp : Option Addr) (len cap : Nat) (w : World) :
    Calls Tryd.prog 42 #[.slice sp len cap] w fun e w' => e = .returned (.tuple #[.func (.func 67) #[] #[.pointer (some ⟨w.heap.size, 0, none⟩), .pointer (some ⟨w.heap.size + 1, 0, none⟩)], .func (.func 70) #[] #[.pointer (some ⟨w.heap.size + 1, 0, none⟩)]]) ∧ w' = (w.alloc (.cells #[.slice sp len cap] 24)).alloc (.cells #[.int .i64 0] 3) := by
  go_enter Tryd.func42, Tryd.ntmps42
  go_wp2
  go_returns
  exact ⟨rfl, rfl⟩
theorem many_any (p2 : Nat) (at_ : Int) (w : World) (h : w.cell? ⟨p2, 0, none⟩ = some (.int .i64 at_)) :
    Calls Tryd.prog 70 #[.pointer (some ⟨p2, 0, none⟩)] w fun e w' => e = .returned (.int .i64 at_) ∧ w = w' := by
  go_enter Tryd.func70, Tryd.ntmps70
  go_wp2
  go_returns
  exact ⟨rfl, rfl⟩
theorem take_no (p1 p2 : Nat) (sp : Option Addr) (len cap k wd : Nat) (w : World) (hl : len ≤ 1000) (hk : k ≤ len) (hw : wd ≤ 8) (h : len - k < wd) (c1 : w.cell? ⟨p1, 0, none⟩ = some (.slice sp len cap)) (c2 : w.cell? ⟨p2, 0, none⟩ = some (.int .i64 k)) :
    Calls Tryd.prog 67 #[.int .i64 wd, .pointer (some ⟨p1, 0, none⟩), .pointer (some ⟨p2, 0, none⟩)] w fun e w' => e = .returned (.tuple #[.int .i64 0, .bool false]) ∧ w = w' := by
  have hd : (len : Int) - k < wd := by omega
  go_enter Tryd.func67, Tryd.ntmps67
  go_wp2
  go_returns
  exact ⟨rfl, rfl⟩
theorem Mk.set {w : World} (h : Mk w) {q i : Nat} (hq : q ≠ 0) (v : Value) : Mk (w.setCell ⟨q, i, none⟩ v) := fun j hj => by
  rw [far _ _ _ _ (by dsimp only; exact hq)]; exact h j hj
theorem num_U (z : Nat → Nat) (hz : ∀ j, z j < 256) (k : Nat) (hk : k ≤ 8) : U (numN z k) := by
  have h := numN_lt z hz k
  have : 2 ^ (8 * k) ≤ 2 ^ 64 := Nat.pow_le_pow_right (by decide) (by omega)
  have e64 : (2 : Nat) ^ 64 = 18446744073709551616 := by decide
  unfold U; omega
theorem take_ok (p1 p2 b off len cap k wd : Nat) (z : Nat → Nat) (hz : ∀ j, z j < 256) (w : World) (hm : Mk w) (hl : len ≤ 1000) (hcap : len ≤ cap) (hw : wd ≤ 8) (h : k + wd ≤ len) (hc : ∀ j, j < len → w.cell? ⟨b, off + j, none⟩ = some (.int .u8 (z j : Nat)))
    (c1 : w.cell? ⟨p1, 0, none⟩ = some (.slice (some ⟨b, off, none⟩) len cap)) (c2 : w.cell? ⟨p2, 0, none⟩ = some (.int .i64 k)) (f2 : w.frozen? ⟨p2, 0, none⟩ = false) (n1 : p1 ≠ p2) (n2 : p2 ≠ 0) (n3 : b ≠ p2) :
    Calls Tryd.prog 67 #[.int .i64 wd, .pointer (some ⟨p1, 0, none⟩), .pointer (some ⟨p2, 0, none⟩)] w fun e w' => e = .returned (.tuple #[.int .i64 (wrap64 ((eN (numN (fun j => z (k + j)) wd) wd : Nat) : Int)), .bool true]) ∧ w' = w.setCell ⟨p2, 0, none⟩ (.int .i64 ((k : Int) + wd)) := by
  have hd : (wd : Int) ≤ (len : Int) - k := by omega
  have HC := Lib.hid hc
  clear hc
  have HU := Lib.hid (num_U (fun j => z (k + j)) (fun _ => hz _) wd hw)
  have HM := Lib.hid (hm.set (i := 0) n2 (.int .i64 ((k : Int) + wd)))
  have HZ := Lib.hid hz
  have HC2 : Hid (∀ j, j < wd → (w.setCell ⟨p2, 0, none⟩ (.int .i64 ((k : Int) + wd))).cell? ⟨b, off + k + j, none⟩ = some (.int .u8 (z (k + j) : Nat))) := Lib.hid (fun j hj => by
    rw [far _ _ _ _ (by dsimp only; exact n3.symm), Nat.add_assoc]; exact HC.out (k + j) (by omega))
  clear hm hz HC
  go_enter Tryd.func67, Tryd.ntmps67
  go_wp2_with fail
  · have hw0 : wd ≤ 0 := by omega
    go_at_call 69
    with_reducible refine (number_lt b off wd 0 (fun j => z (k + j)) (fun _ => HZ.out _) _ (fun j hj => by omega) hw0 hw).mono ?_
    rintro e w1 ⟨rfl, rfl⟩
    go_wp2_with (go_at_call 68; (with_reducible refine (ext_any _ HU.out _ _ HM.out).mono ?_); rintro e w1 ⟨rfl, rfl⟩)
    go_returns
    exact ⟨rfl, rfl⟩
  · go_at_call 69
    with_reducible refine (number_lt b (off + k) wd (cap - k) (fun j => z (k + j)) (fun _ => HZ.out _) _ HC2.out (by omega) hw).mono ?_
    rintro e w1 ⟨rfl, rfl⟩
    go_wp2_with (go_at_call 68; (with_reducible refine (ext_any _ HU.out _ _ HM.out).mono ?_); rintro e w1 ⟨rfl, rfl⟩)
    go_returns
    exact ⟨rfl, rfl⟩
end Go.Proofs.YtkpnafgmjcnniaaDoor
