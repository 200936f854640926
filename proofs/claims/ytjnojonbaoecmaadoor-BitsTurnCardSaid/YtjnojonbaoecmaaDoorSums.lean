/- The contracts of bits.told, Add and Sub. -/
import Derived.Test.YtjnojonbaoecmaaDoorBase
import Derived.Lib.Hide
import Derived.BigQuiet
import Derived.Deep.QuietTactic
namespace Go.Proofs.YtjnojonbaoecmaaDoor
open Go.RowKit
def oB (c s r : Nat) : Bool := (c : Int) == 1 || (s : Int) != r
def vB (alike sa sb sr : Bool) : Bool := (sa == sb) == alike && sr != sa

set_option maxHeartbeats 1000000 in
theorem toldA_any (a b : Nat) (ha : U a) (hb : U b) (c : Bool) (wd : Int) (w : World) (hm : Mk w) :
    Calls Tryd.prog 29 #[.int .u64 a, .int .u64 b, .bool c, .int .i64 wd, .func (.func 30) #[] #[], .bool true] w fun e w' => e = .returned (.tuple #[.int .u64 (cN (addS (cN a wd) (cN b wd) (b1 c)) wd : Nat), .bool (oB (addC (cN a wd) (cN b wd) (b1 c)) (addS (cN a wd) (cN b wd) (b1 c)) (cN (addS (cN a wd) (cN b wd) (b1 c)) wd)), .bool (vB true (sB (cN a wd) wd) (sB (cN b wd) wd) (sB (cN (addS (cN a wd) (cN b wd) (b1 c)) wd) wd))]) ∧ w = w' := by
  have ha' := cN_U a ha wd
  have hb' := cN_U b hb wd
  have hs : ∀ k, U (addS (cN a wd) (cN b wd) k) := fun k => Nat.mod_lt _ (by decide)
  have hr := fun k => cN_U _ (hs k) wd
  cases c
  all_goals
    go_enter Tryd.func29, Tryd.ntmps29
    go_wp2_with (first | (go_at_call 15; refine (cut_any _ (by first | assumption | exact hs _) _ _ hm).mono ?_; rintro e w' ⟨rfl, rfl⟩) | (go_at_call 30; refine (addw_any _ _ _ (by decide) _).mono ?_; rintro e w' ⟨rfl, rfl⟩) | (go_at_call 17; refine (sign_any _ (by first | assumption | exact hr _) _ _).mono ?_; rintro e w' ⟨rfl, rfl⟩) )
    all_goals
      go_ret3
      refine ⟨?_, rfl⟩
      clear hs hr ha' hb' hm ha hb
      simp [oB, vB, b1, bne, *]

set_option maxHeartbeats 1000000 in
theorem toldS_any (a b : Nat) (ha : U a) (hb : U b) (c : Bool) (wd : Int) (w : World) (hm : Mk w) :
    Calls Tryd.prog 29 #[.int .u64 a, .int .u64 b, .bool c, .int .i64 wd, .func (.func 34) #[] #[], .bool false] w fun e w' => e = .returned (.tuple #[.int .u64 (cN (subS (cN a wd) (cN b wd) (b1 c)) wd : Nat), .bool (oB (subC (cN a wd) (cN b wd) (b1 c)) (subS (cN a wd) (cN b wd) (b1 c)) (cN (subS (cN a wd) (cN b wd) (b1 c)) wd)), .bool (vB false (sB (cN a wd) wd) (sB (cN b wd) wd) (sB (cN (subS (cN a wd) (cN b wd) (b1 c)) wd) wd))]) ∧ w = w' := by
  have ha' := cN_U a ha wd
  have hb' := cN_U b hb wd
  have hs : ∀ k, U (subS (cN a wd) (cN b wd) k) := fun k => Nat.mod_lt _ (by decide)
  have hr := fun k => cN_U _ (hs k) wd
  cases c
  all_goals
    go_enter Tryd.func29, Tryd.ntmps29
    go_wp2_with (first | (go_at_call 15; refine (cut_any _ (by first | assumption | exact hs _) _ _ hm).mono ?_; rintro e w' ⟨rfl, rfl⟩) | (go_at_call 34; refine (subw_any _ _ _ (by decide) _).mono ?_; rintro e w' ⟨rfl, rfl⟩) | (go_at_call 17; refine (sign_any _ (by first | assumption | exact hr _) _ _).mono ?_; rintro e w' ⟨rfl, rfl⟩) )
    all_goals
      go_ret3
      refine ⟨?_, rfl⟩
      clear hs hr ha' hb' hm ha hb
      simp [oB, vB, b1, bne, *]


/-- What add answers, as the body reckons it. -/
def addR (a b : Nat) (c : Bool) (wd : Int) : Nat := cN (addS (cN a wd) (cN b wd) (b1 c)) wd
def addO (a b : Nat) (c : Bool) (wd : Int) : Bool := oB (addC (cN a wd) (cN b wd) (b1 c)) (addS (cN a wd) (cN b wd) (b1 c)) (cN (addS (cN a wd) (cN b wd) (b1 c)) wd)
def addV (a b : Nat) (c : Bool) (wd : Int) : Bool := vB true (sB (cN a wd) wd) (sB (cN b wd) wd) (sB (cN (addS (cN a wd) (cN b wd) (b1 c)) wd) wd)
theorem addR_U (a b : Nat) (c : Bool) (wd : Int) : U (addR a b c wd) := cN_U _ (Nat.mod_lt _ (by decide)) _

set_option maxHeartbeats 400000 in
theorem add_any (a b : Nat) (ha : U a) (hb : U b) (c : Bool) (wd : Int) (w : World) (hm : Mk w) :
    Calls Tryd.prog 9 #[.int .u64 a, .int .u64 b, .bool c, .int .i64 wd] w fun e w' => e = .returned (.tuple #[.int .u64 (addR a b c wd : Nat), .bool (addO a b c wd), .bool (addV a b c wd)]) ∧ w = w' := by
  go_enter Tryd.func9, Tryd.ntmps9
  go_wp2_with (go_at_call 29; refine (toldA_any _ _ (by assumption) (by assumption) _ _ _ hm).mono ?_; rintro e w' ⟨rfl, rfl⟩)
  go_ret3
  exact ⟨rfl, rfl⟩

/-- What sub answers, as the body reckons it. -/
def subR (a b : Nat) (c : Bool) (wd : Int) : Nat := cN (subS (cN a wd) (cN b wd) (b1 c)) wd
def subO (a b : Nat) (c : Bool) (wd : Int) : Bool := oB (subC (cN a wd) (cN b wd) (b1 c)) (subS (cN a wd) (cN b wd) (b1 c)) (cN (subS (cN a wd) (cN b wd) (b1 c)) wd)
def subV (a b : Nat) (c : Bool) (wd : Int) : Bool := vB false (sB (cN a wd) wd) (sB (cN b wd) wd) (sB (cN (subS (cN a wd) (cN b wd) (b1 c)) wd) wd)
theorem subR_U (a b : Nat) (c : Bool) (wd : Int) : U (subR a b c wd) := cN_U _ (Nat.mod_lt _ (by decide)) _

set_option maxHeartbeats 400000 in
theorem sub_any (a b : Nat) (ha : U a) (hb : U b) (c : Bool) (wd : Int) (w : World) (hm : Mk w) :
    Calls Tryd.prog 11 #[.int .u64 a, .int .u64 b, .bool c, .int .i64 wd] w fun e w' => e = .returned (.tuple #[.int .u64 (subR a b c wd : Nat), .bool (subO a b c wd), .bool (subV a b c wd)]) ∧ w = w' := by
  go_enter Tryd.func11, Tryd.ntmps11
  go_wp2_with (go_at_call 29; refine (toldS_any _ _ (by assumption) (by assumption) _ _ _ hm).mono ?_; rintro e w' ⟨rfl, rfl⟩)
  go_ret3
  exact ⟨rfl, rfl⟩
end Go.Proofs.YtjnojonbaoecmaaDoor
