/- The closures of alu.shifts: a step, and the flags, of each shift. -/
import Derived.Test.YtmfoeolllobidaaDoorTurns
import Derived.BigQuiet
import Derived.Deep.QuietTactic
import Derived.IntWalk
namespace Go.Proofs.YtmfoeolllobidaaDoor
open Go.RowKit
set_option linter.unusedSimpArgs false
set_option linter.unusedVariables false
/-- Is the lowest bit 1? -/
def lB (r : Nat) : Bool := ((r % 2 : Nat) : Int) == 1
theorem and1 (r : Nat) (hr : U r) : bits .and .u64 (r : Int) 1 = ((r % 2 : Nat) : Int) := by
  have := u64_and_nat r 1 hr (by decide)
  rw [show ((1 : Int)) = ((1 : Nat) : Int) from rfl, this, Nat.and_one_is_mod]
theorem low_any (r : Nat) (hr : U r) (w : World) :
    Calls Tryd.prog 60 #[.int .u64 r] w fun e w' => e = .returned (.bool (lB r)) ∧ w' = w := by
  have H := Lib.hid (and1 r hr)
  go_enter Tryd.func60, Tryd.ntmps60
  go_wp2
  go_ret
  refine ⟨congrArg Ending.returned (congrArg Value.bool ?_), rfl⟩
  show ((bits .and .u64 (r : Int) 1) == 1) = lB r
  rw [H.out]; rfl
theorem high_any (r : Nat) (hr : U r) (wd : Int) (pw : Nat) (w : World) (cw : w.cell? ⟨pw, 0, none⟩ = some (.int .i64 wd)) :
    Calls Tryd.prog 61 #[.int .u64 r, .pointer (some ⟨pw, 0, none⟩)] w fun e w' => e = .returned (.bool (sB r wd)) ∧ w' = w := by
  go_enter Tryd.func61, Tryd.ntmps61
  go_wp2_with (go_at_call 37; refine (sign_any _ hr _ _).mono ?_; rintro e w' ⟨rfl, rfl⟩)
  go_ret
  exact ⟨rfl, rfl⟩
/-- What the closures of shifts lead to: the width, low, high, the word. -/
structure Env (wd : Int) (a pw pa pl ph : Nat) (w : World) : Prop where
  hm : Mk w
  cw : w.cell? ⟨pw, 0, none⟩ = some (.int .i64 wd)
  ca : w.cell? ⟨pa, 0, none⟩ = some (.int .u64 (a : Int))
  cl : w.cell? ⟨pl, 0, none⟩ = some (.func (Fn.func 60) #[] #[])
  ch : w.cell? ⟨ph, 0, none⟩ = some (.func (Fn.func 61) #[] #[.pointer (some ⟨pw, 0, none⟩)])
theorem Env.drewN {wd : Int} {a pw pa pl ph : Nat} {w : World} (h : Env wd a pw pa pl ph w) (n : Nat) : Env wd a pw pa pl ph (w.drewN n) := ⟨h.hm, h.cw, h.ca, h.cl, h.ch⟩
def shlN (r : Nat) (wd : Int) : Nat := cN (IntKind.u64.wrap ((r : Int) * 2)).toNat wd
def sarN (r : Nat) (wd : Int) : Nat := cN (IntKind.u64.wrap (wrap64 (eN r wd : Nat) / 2)).toNat wd
theorem wrap_UI (x : Int) : UI (IntKind.u64.wrap x) := by rw [IntKind.wrap_u64]; unfold UI; omega
set_option maxHeartbeats 1000000 in
theorem shl_step (r : Nat) (hr : U r) (wd : Int) (a pw pa pl ph : Nat) (w : World) (E : Env wd a pw pa pl ph w) :
    Calls Tryd.prog 62 #[.int .u64 r, .pointer (some ⟨pw, 0, none⟩), .pointer (some ⟨ph, 0, none⟩)] w fun e w' => e = .returned (.tuple #[.int .u64 (shlN r wd : Nat), .bool (sB r wd)]) ∧ ∃ k, w' = w.drewN k := by
  obtain ⟨hm, cw, ca, cl, ch⟩ := E
  go_enter Tryd.func62, Tryd.ntmps62
  go_wp2
  go_quiet ((first | (go_at_call 36; exact Calls.quiet_of_same (cutI_any _ (wrap_UI _) _ _ (hm.drewN _))) | (go_at_call 61; exact Calls.quiet_of_same (high_any _ (by assumption) _ _ _ (by assumption)))))
  go_wp2
  go_ret2
  first | exact ⟨rfl, _, rfl⟩ | exact ⟨rfl, 0, rfl⟩
theorem ext_any2 (a : Nat) (ha : U a) (wd : Int) (w : World) (hm : Mk w) :
    Calls Tryd.prog 46 #[.int .u64 a, .int .i64 wd] w fun e w' => e = .returned (.int .u64 (eN a wd : Nat)) ∧ w' = w := (ext_any a ha wd w hm).mono fun _ _ ⟨h, k⟩ => ⟨h, k.symm⟩
theorem shl_U (r : Nat) (hr : U r) (wd : Int) : U (shlN r wd) := by
  have := wrap_UI ((r : Int) * 2)
  unfold shlN; exact cN_U _ (by unfold UI at this; unfold U; omega) wd
set_option maxHeartbeats 1000000 in
theorem shl_flags (r : Nat) (hr : U r) (o : Bool) (wd : Int) (a pw pa pl ph : Nat) (w : World) (E : Env wd a pw pa pl ph w) :
    Calls Tryd.prog 63 #[.int .u64 r, .bool o, .pointer (some ⟨ph, 0, none⟩)] w fun e w' => e = .returned (.tuple #[.bool o, .bool (sB r wd != o)]) ∧ ∃ k, w' = w.drewN k := by
  obtain ⟨hm, cw, ca, cl, ch⟩ := E
  go_enter Tryd.func63, Tryd.ntmps63
  go_wp2_with (first | (go_at_call 61; refine (high_any _ (by assumption) _ _ _ (by assumption)).mono ?_; rintro e w1 ⟨rfl, rfl⟩) | (go_at_call 60; refine (low_any _ (by assumption) _).mono ?_; rintro e w1 ⟨rfl, rfl⟩))
  go_ret2
  first | exact ⟨rfl, _, rfl⟩ | exact ⟨rfl, 0, rfl⟩
set_option maxHeartbeats 1000000 in
theorem shr_step (r : Nat) (hr : U r) (wd : Int) (a pw pa pl ph : Nat) (w : World) (E : Env wd a pw pa pl ph w) :
    Calls Tryd.prog 64 #[.int .u64 r, .pointer (some ⟨pl, 0, none⟩)] w fun e w' => e = .returned (.tuple #[.int .u64 (r / 2 : Nat), .bool (lB r)]) ∧ ∃ k, w' = w.drewN k := by
  obtain ⟨hm, cw, ca, cl, ch⟩ := E
  go_enter Tryd.func64, Tryd.ntmps64
  go_wp2_with (first | (go_at_call 61; refine (high_any _ (by assumption) _ _ _ (by assumption)).mono ?_; rintro e w1 ⟨rfl, rfl⟩) | (go_at_call 60; refine (low_any _ (by assumption) _).mono ?_; rintro e w1 ⟨rfl, rfl⟩))
  go_ret2
  first | exact ⟨rfl, _, rfl⟩ | exact ⟨rfl, 0, rfl⟩
set_option maxHeartbeats 1000000 in
theorem shr_flags (r : Nat) (hr : U r) (o : Bool) (wd : Int) (a pw pa pl ph : Nat) (ha : U a) (w : World) (E : Env wd a pw pa pl ph w) :
    Calls Tryd.prog 65 #[.int .u64 r, .bool o, .pointer (some ⟨ph, 0, none⟩), .pointer (some ⟨pa, 0, none⟩)] w fun e w' => e = .returned (.tuple #[.bool o, .bool (sB a wd)]) ∧ ∃ k, w' = w.drewN k := by
  obtain ⟨hm, cw, ca, cl, ch⟩ := E
  go_enter Tryd.func65, Tryd.ntmps65
  go_wp2_with (first | (go_at_call 61; refine (high_any _ (by assumption) _ _ _ (by assumption)).mono ?_; rintro e w1 ⟨rfl, rfl⟩) | (go_at_call 60; refine (low_any _ (by assumption) _).mono ?_; rintro e w1 ⟨rfl, rfl⟩))
  go_ret2
  first | exact ⟨rfl, _, rfl⟩ | exact ⟨rfl, 0, rfl⟩
set_option maxHeartbeats 1000000 in
theorem sar_step (r : Nat) (hr : U r) (wd : Int) (a pw pa pl ph : Nat) (w : World) (E : Env wd a pw pa pl ph w) :
    Calls Tryd.prog 66 #[.int .u64 r, .pointer (some ⟨pw, 0, none⟩), .pointer (some ⟨pl, 0, none⟩)] w fun e w' => e = .returned (.tuple #[.int .u64 (sarN r wd : Nat), .bool (lB r)]) ∧ ∃ k, w' = w.drewN k := by
  obtain ⟨hm, cw, ca, cl, ch⟩ := E
  go_enter Tryd.func66, Tryd.ntmps66
  go_wp2
  go_quiet ((first | (go_at_call 36; exact Calls.quiet_of_same (cutI_any _ (wrap_UI _) _ _ (hm.drewN _))) | (go_at_call 46; exact Calls.quiet_of_same (ext_any2 _ (by assumption) _ _ (hm.drewN _))) | (go_at_call 60; exact Calls.quiet_of_same (low_any _ (by assumption) _))))
  go_wp2
  go_ret2
  first | exact ⟨rfl, _, rfl⟩ | exact ⟨rfl, 0, rfl⟩
set_option maxHeartbeats 1000000 in
theorem sar_flags (r : Nat) (hr : U r) (o : Bool) (wd : Int) (a pw pa pl ph : Nat) (w : World) (E : Env wd a pw pa pl ph w) :
    Calls Tryd.prog 67 #[.int .u64 r, .bool o] w fun e w' => e = .returned (.tuple #[.bool o, .bool false]) ∧ ∃ k, w' = w.drewN k := by
  obtain ⟨hm, cw, ca, cl, ch⟩ := E
  go_enter Tryd.func67, Tryd.ntmps67
  go_wp2_with (first | (go_at_call 61; refine (high_any _ (by assumption) _ _ _ (by assumption)).mono ?_; rintro e w1 ⟨rfl, rfl⟩) | (go_at_call 60; refine (low_any _ (by assumption) _).mono ?_; rintro e w1 ⟨rfl, rfl⟩))
  go_ret2
  first | exact ⟨rfl, _, rfl⟩ | exact ⟨rfl, 0, rfl⟩
set_option maxHeartbeats 1000000 in
theorem rol_step (r : Nat) (hr : U r) (wd : Int) (a pw pa pl ph : Nat) (w : World) (E : Env wd a pw pa pl ph w) :
    Calls Tryd.prog 68 #[.int .u64 r, .pointer (some ⟨pw, 0, none⟩), .pointer (some ⟨ph, 0, none⟩)] w fun e w' => e = .returned (.tuple #[.int .u64 (turnN r (tN 1 wd) wd : Nat), .bool (sB r wd)]) ∧ ∃ k, w' = w.drewN k := by
  obtain ⟨hm, cw, ca, cl, ch⟩ := E
  go_enter Tryd.func68, Tryd.ntmps68
  go_wp2
  go_quiet ((first | (go_at_call 69; exact Calls.quiet_of (turn_any _ (by assumption) _ _ _ (hm.drewN _))) | (go_at_call 61; exact Calls.quiet_of_same (high_any _ (by assumption) _ _ _ (by assumption)))))
  go_wp2
  go_ret2
  first | exact ⟨rfl, _, rfl⟩ | exact ⟨rfl, 0, rfl⟩
set_option maxHeartbeats 1000000 in
theorem rol_flags (r : Nat) (hr : U r) (o : Bool) (wd : Int) (a pw pa pl ph : Nat) (w : World) (E : Env wd a pw pa pl ph w) :
    Calls Tryd.prog 70 #[.int .u64 r, .bool o, .pointer (some ⟨pl, 0, none⟩), .pointer (some ⟨ph, 0, none⟩)] w fun e w' => e = .returned (.tuple #[.bool (lB r), .bool (sB r wd != lB r)]) ∧ ∃ k, w' = w.drewN k := by
  obtain ⟨hm, cw, ca, cl, ch⟩ := E
  go_enter Tryd.func70, Tryd.ntmps70
  go_wp2
  go_quiet ((first | (go_at_call 61; exact Calls.quiet_of_same (high_any _ (by assumption) _ _ _ (by assumption))) | (go_at_call 60; exact Calls.quiet_of_same (low_any _ (by assumption) _))))
  go_wp2
  go_ret2
  first | exact ⟨rfl, _, rfl⟩ | exact ⟨rfl, 0, rfl⟩
set_option maxHeartbeats 1000000 in
theorem ror_step (r : Nat) (hr : U r) (wd : Int) (a pw pa pl ph : Nat) (w : World) (E : Env wd a pw pa pl ph w) :
    Calls Tryd.prog 71 #[.int .u64 r, .pointer (some ⟨pw, 0, none⟩), .pointer (some ⟨pl, 0, none⟩)] w fun e w' => e = .returned (.tuple #[.int .u64 (turnN r (tN (-1) wd) wd : Nat), .bool (lB r)]) ∧ ∃ k, w' = w.drewN k := by
  obtain ⟨hm, cw, ca, cl, ch⟩ := E
  go_enter Tryd.func71, Tryd.ntmps71
  go_wp2
  go_quiet ((first | (go_at_call 69; exact Calls.quiet_of (turn_any _ (by assumption) _ _ _ (hm.drewN _))) | (go_at_call 60; exact Calls.quiet_of_same (low_any _ (by assumption) _))))
  go_wp2
  go_ret2
  first | exact ⟨rfl, _, rfl⟩ | exact ⟨rfl, 0, rfl⟩
set_option maxHeartbeats 1000000 in
theorem ror_flags (r : Nat) (hr : U r) (o : Bool) (wd : Int) (a pw pa pl ph : Nat) (w : World) (E : Env wd a pw pa pl ph w) :
    Calls Tryd.prog 72 #[.int .u64 r, .bool o, .pointer (some ⟨ph, 0, none⟩), .pointer (some ⟨pw, 0, none⟩)] w fun e w' => e = .returned (.tuple #[.bool (sB r wd), .bool (sB r wd != sB (shlN r wd) wd)]) ∧ ∃ k, w' = w.drewN k := by
  obtain ⟨hm, cw, ca, cl, ch⟩ := E
  go_enter Tryd.func72, Tryd.ntmps72
  go_wp2
  go_quiet ((first | (go_at_call 36; exact Calls.quiet_of_same (cutI_any _ (wrap_UI _) _ _ (hm.drewN _))) | (go_at_call 61; exact Calls.quiet_of_same (high_any _ (by first | assumption | exact shl_U _ hr _) _ _ _ (by assumption)))))
  go_wp2
  go_ret2
  first | exact ⟨rfl, _, rfl⟩ | exact ⟨rfl, 0, rfl⟩
end Go.Proofs.YtmfoeolllobidaaDoor
