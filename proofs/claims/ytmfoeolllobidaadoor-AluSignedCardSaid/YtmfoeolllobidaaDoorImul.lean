/- The contract of alu.Imul. -/
import Derived.Test.YtmfoeolllobidaaDoorMuls
namespace Go.Proofs.YtmfoeolllobidaaDoor
open Go.RowKit
set_option maxHeartbeats 2000000 in
theorem imul_core (a b : Nat) (wd : Int) (A B PA PB W r : Nat) (sA sB' sW z s p : Bool)
    (hA : ∀ V, Mk V → Calls Tryd.prog 46 #[.int .u64 a, .int .i64 wd] V fun e w' => e = .returned (.int .u64 A) ∧ V = w')
    (hB : ∀ V, Mk V → Calls Tryd.prog 46 #[.int .u64 b, .int .i64 wd] V fun e w' => e = .returned (.int .u64 B) ∧ V = w')
    (hW : ∀ V, Mk V → Calls Tryd.prog 46 #[.int .u64 PB, .int .i64 wd] V fun e w' => e = .returned (.int .u64 W) ∧ V = w')
    (hP : ∀ V, Calls Tryd.prog 47 #[.int .u64 A, .int .u64 B] V fun e w' => e = .returned (.tuple #[.int .u64 PA, .int .u64 PB]) ∧ V = w')
    (hsA : ∀ V, Calls Tryd.prog 37 #[.int .u64 A, .int .i64 8] V fun e w' => e = .returned (.bool sA) ∧ V = w')
    (hsB : ∀ V, Calls Tryd.prog 37 #[.int .u64 B, .int .i64 8] V fun e w' => e = .returned (.bool sB') ∧ V = w')
    (hsW : ∀ V, Calls Tryd.prog 37 #[.int .u64 W, .int .i64 8] V fun e w' => e = .returned (.bool sW) ∧ V = w')
    (hr : ∀ V, Mk V → Calls Tryd.prog 36 #[.int .u64 PB, .int .i64 wd] V fun e w' => e = .returned (.int .u64 r) ∧ V = w')
    (X : Int) (hX : X = if sB' then IntKind.u64.wrap ((if sA then IntKind.u64.wrap (PA - B) else PA) - A) else (if sA then IntKind.u64.wrap (PA - B) else PA))
    (R : Bool) (hR : R = ((W : Int) != (PB : Int) || (if sW then (18446744073709551615 : Int) else 0) != X))
    (ht : ∀ V, Mk V → Calls Tryd.prog 33 #[.int .i64 wd, .int .u64 r, .bool R, .bool R] V fun e w' => e = .returned (fl R z s R p) ∧ Below V.heap.size V w')
    (w : World) (hm : Mk w) :
    Calls Tryd.prog 22 #[.int .i64 wd, .int .u64 a, .int .u64 b] w fun e w' => e = .returned (.tuple #[.int .u64 r, fl R z s R p]) ∧ Below w.heap.size w w' := by
  have HA := Lib.hid hA
  have HB := Lib.hid hB
  have HW := Lib.hid hW
  have HP := Lib.hid hP
  have HsA := Lib.hid hsA
  have HsB := Lib.hid hsB
  have HsW := Lib.hid hsW
  have Hr := Lib.hid hr
  have HX := Lib.hid hX
  have HR := Lib.hid hR
  have Ht : Hid (∀ Q : Bool, Q = R → ∀ V, Mk V → Calls Tryd.prog 33 #[.int .i64 wd, .int .u64 r, .bool Q, .bool Q] V fun e w' => e = .returned (fl R z s R p) ∧ Below V.heap.size V w') := Lib.hid (fun Q h V hV => by subst h; exact ht V hV)
  clear hA hB hW hP hsA hsB hsW hr hX hR ht
  have hs := Lib.hid (Slot5.new w (.bool false) (.bool false) (.bool false) (.bool false) (.bool false) 24)
  have hb0 : Below w.heap.size w (w.alloc (Obj.cells #[Value.bool false, Value.bool false, Value.bool false, Value.bool false, Value.bool false] 24)) := (Below.refl _ _).alloc (Nat.le_refl _) _
  have hm2 := hm.alloc (Obj.cells #[Value.bool false, Value.bool false, Value.bool false, Value.bool false, Value.bool false] 24)
  cases sA <;> cases sB' <;> cases sW
  all_goals
    have hX := HX.out
    simp only [if_true, if_false, Bool.false_eq_true] at hX
    have HX2 := Lib.hid hX
    clear hX
    have hR := HR.out
    simp only [if_true, if_false, Bool.false_eq_true] at hR
    have HR2 := Lib.hid hR
    clear hR HR HX
    go_enter Tryd.func22, Tryd.ntmps22
    go_wp2_with (first | (go_at_call 46; ((with_reducible refine (HA.out _ hm2).mono ?_); rintro e w' ⟨rfl, rfl⟩)) | (go_at_call 46; ((with_reducible refine (HB.out _ hm2).mono ?_); rintro e w' ⟨rfl, rfl⟩)) | (go_at_call 46; ((with_reducible refine (HW.out _ hm2).mono ?_); rintro e w' ⟨rfl, rfl⟩)) | (go_at_call 47; ((with_reducible refine (HP.out _).mono ?_); rintro e w' ⟨rfl, rfl⟩)) | (go_at_call 37; ((with_reducible refine (HsA.out _).mono ?_); rintro e w' ⟨rfl, rfl⟩)) | (go_at_call 37; ((with_reducible refine (HsB.out _).mono ?_); rintro e w' ⟨rfl, rfl⟩)) | (go_at_call 37; ((with_reducible refine (HsW.out _).mono ?_); rintro e w' ⟨rfl, rfl⟩)) | (go_at_call 36; ((with_reducible refine (Hr.out _ hm2).mono ?_); rintro e w' ⟨rfl, rfl⟩)))
  all_goals
    go_at_call 33
    refine (Ht.out _ ?eq _ hm2).mono ?_
    case eq =>
      have q := HX2.out
      have q2 := HR2.out
      rw [q2, q]
      simp [*]
    rintro e w1 ⟨rfl, hb1⟩
    have hb2 : Below w.heap.size w w1 := hb0.trans (hb1.mono hb0.size)
    obtain ⟨c0, c1, c2, c3, c4, f0, f1, f2, f3, f4, -⟩ := hs.out.keep hb1
    clear hs hb0 hb1 hm2 HX2 HR2 Ht HA HB HW HP HsA HsB HsW Hr
    go_wp2_with fail
    refine bodyPost_ret (v := .tuple #[.int .u64 r, fl R z s R p]) (by simp [results, Tryd.results22, go_sem, *]) rfl ⟨rfl, ?_⟩
    refine hb2.trans ?_
    go_grown
    all_goals exact hb2.size
end Go.Proofs.YtmfoeolllobidaaDoor
