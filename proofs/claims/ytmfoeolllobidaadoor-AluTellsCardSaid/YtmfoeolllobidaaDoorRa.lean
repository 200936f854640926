/- The document's own answer for layer 13: flags, sums, rests, single ones. -/
import Derived.Test.YtmfoeolllobidaaDoorRefs4
import Derived.Test.YtmfoeolllobidaaDoorAlu
import Derived.Test.YtmfoeolllobidaaDoorMath
import Derived.Test.YtmfoeolllobidaaDoorShz
namespace Go.Proofs.YtmfoeolllobidaaDoor
open Go.RowKit Go.Shelf
set_option linter.unusedSimpArgs false
set_option linter.unusedVariables false
set_option maxHeartbeats 400000 in
theorem rlogic_any (a : Nat) (ha : U a) (wd : Int) (w : World) :
    Calls Tryd.prog 13 #[.int .i64 wd, .int .u64 a] w fun e w' => e = .returned (fl false (zB a wd) (sB a wd) false (pB a)) ∧ Below w.heap.size w w' := by
  go_enter Tryd.func13, Tryd.ntmps13
  go_wp2_with (first | (go_at_call 29; refine (rcut_any _ (by assumption) _ _).mono ?_; rintro e w' ⟨rfl, rfl⟩) | (go_at_call 39; refine (rsign_any _ (by assumption) _ _).mono ?_; rintro e w' ⟨rfl, rfl⟩) | (go_at_call 40; refine (rparity_any a ha _).mono ?_; rintro e w' ⟨rfl, rfl⟩))
  refine bodyPost_ret (v := fl false (zB a wd) (sB a wd) false (pB a)) (by simp [results, Tryd.results13, go_sem, zB]) rfl ⟨rfl, by go_grown⟩
set_option maxHeartbeats 2000000 in
theorem radd13_any (a b : Nat) (ha : U a) (hb : U b) (c : Bool) (wd : Int) (w : World) :
    Calls Tryd.prog 9 #[.int .i64 wd, .int .u64 a, .int .u64 b, .bool c] w fun e w' => e = .returned (.tuple #[.int .u64 (addR a b c wd : Nat), fl (addO a b c wd) (zB (addR a b c wd) wd) (sB (addR a b c wd) wd) (addV a b c wd) (pB (addR a b c wd))]) ∧ Below w.heap.size w w' := by
  have hr := addR_U a b c wd
  have hs := Lib.hid (Slot5.new w (.bool false) (.bool false) (.bool false) (.bool false) (.bool false) 24)
  have hb0 : Below w.heap.size w (w.alloc fl0) := (Below.refl _ _).alloc (Nat.le_refl _) _
  go_enter Tryd.func9, Tryd.ntmps9
  go_wp2_with (go_at_call 30; refine (radd_any _ _ (by assumption) (by assumption) _ _ _).mono ?_; rintro e w' ⟨rfl, rfl⟩)
  go_at_call 13
  refine (rlogic_any _ hr _ _).mono ?_
  rintro e w1 ⟨rfl, hb⟩
  have hb2 := hb0.trans (hb.mono (by simp))
  have hsz := hb2.size
  have hne : w.heap.size < w1.heap.size := by have := hb.size; simp at this; omega
  have hsz2 := hb.size
  obtain ⟨c0, c1, c2, c3, c4, d0, d1, d2, d3, d4, -⟩ := hs.out.keep hb
  clear hs hb hb0 hsz2
  go_wp2_with fail
  go_region
  all_goals
    go_wp2
    refine bodyPost_ret (v := .tuple #[.int .u64 (addR a b c wd : Nat), fl (addO a b c wd) (zB (addR a b c wd) wd) (sB (addR a b c wd) wd) (addV a b c wd) (pB (addR a b c wd))]) (by simp [results, Tryd.results9, go_sem, *]) rfl ⟨rfl, ?_⟩
    refine hb2.trans ?_
    go_grown
    all_goals omega
set_option maxHeartbeats 2000000 in
theorem rsub13_any (a b : Nat) (ha : U a) (hb : U b) (c : Bool) (wd : Int) (w : World) :
    Calls Tryd.prog 11 #[.int .i64 wd, .int .u64 a, .int .u64 b, .bool c] w fun e w' => e = .returned (.tuple #[.int .u64 (subR a b c wd : Nat), fl (subO a b c wd) (zB (subR a b c wd) wd) (sB (subR a b c wd) wd) (subV a b c wd) (pB (subR a b c wd))]) ∧ Below w.heap.size w w' := by
  have hr := subR_U a b c wd
  have hs := Lib.hid (Slot5.new w (.bool false) (.bool false) (.bool false) (.bool false) (.bool false) 24)
  have hb0 : Below w.heap.size w (w.alloc fl0) := (Below.refl _ _).alloc (Nat.le_refl _) _
  go_enter Tryd.func11, Tryd.ntmps11
  go_wp2_with (go_at_call 35; refine (rsub_any _ _ (by assumption) (by assumption) _ _ _).mono ?_; rintro e w' ⟨rfl, rfl⟩)
  go_at_call 13
  refine (rlogic_any _ hr _ _).mono ?_
  rintro e w1 ⟨rfl, hb⟩
  have hb2 := hb0.trans (hb.mono (by simp))
  have hsz := hb2.size
  have hne : w.heap.size < w1.heap.size := by have := hb.size; simp at this; omega
  have hsz2 := hb.size
  obtain ⟨c0, c1, c2, c3, c4, d0, d1, d2, d3, d4, -⟩ := hs.out.keep hb
  clear hs hb hb0 hsz2
  go_wp2_with fail
  go_region
  all_goals
    go_wp2
    refine bodyPost_ret (v := .tuple #[.int .u64 (subR a b c wd : Nat), fl (subO a b c wd) (zB (subR a b c wd) wd) (sB (subR a b c wd) wd) (subV a b c wd) (pB (subR a b c wd))]) (by simp [results, Tryd.results11, go_sem, *]) rfl ⟨rfl, ?_⟩
    refine hb2.trans ?_
    go_grown
    all_goals omega
end Go.Proofs.YtmfoeolllobidaaDoor
