/- names.number: a number of a row, by its closure. -/
import Derived.Test.YtegbhjmghkbgmaaF
namespace Go.Proofs.Ytegbhjmghkbgmaa
open Go.RowKit Go.Shelf
set_option linter.unusedVariables false
set_option linter.unusedSimpArgs false
attribute [local go_sem] Oper.semAt_some
/-- What a taker of numbers is, in a world: a closure over a box that holds the bytes. -/
def takeV (g : Nat) : Value := .func (.func 35) #[] #[.pointer (some ⟨g, 0, none⟩)]
def TakeIs (W : World) (g : Nat) (v : Value) : Prop := W.heap[g]? = some (.cells #[v] 27 (0, 0))
theorem TakeIs.keep {W W' : World} {g : Nat} {v : Value} (h : TakeIs W g v) (hb : Below W.heap.size W W') : TakeIs W' g v := (hb.block g (Array.getElem?_eq_some_iff.1 h).1).trans h
set_option maxRecDepth 100000 in
set_option maxHeartbeats 1000000 in
theorem number24_any (a : Option Addr) (n c : Nat) (w : World) : Calls Try.prog 24 #[.slice a n c] w fun e W' => e = .returned (takeV w.heap.size) ∧ TakeIs W' w.heap.size (.slice a n c) ∧ Below w.heap.size w W' := by
  have HS := Lib.hid (And.intro (heap_alloc_last w (.cells #[.slice a n c] 27)) ((Below.refl _ w).alloc (Nat.le_refl _) (.cells #[.slice a n c] 27)))
  go_enter Try.func24, Try.ntmps24
  go_wp2_with fail
  go_ret
  exact ⟨rfl, HS.out.1, HS.out.2⟩
set_option maxRecDepth 100000 in
set_option maxHeartbeats 1000000 in
/-- A taker over bytes of which so many stand behind the place. -/
theorem take_any (g b off n c : Nat) (z : Nat → Nat) (hz : ∀ j, z j < 256) (o s : Nat) (hos : o + s ≤ n) (hs1 : 1 ≤ s) (hs : s ≤ 8) (hnc : n ≤ c) (hc : c ≤ 9223372036854775807) (w : World) (ht : TakeIs w g (.slice (some ⟨b, off, none⟩) n c)) (h : ∀ j, j < n → w.cell? ⟨b, off + j, none⟩ = some (.int .u8 (z j : Nat))) : Calls Try.prog 35 #[.int .i64 (o : Nat), .int .i64 (s : Nat), .pointer (some ⟨g, 0, none⟩)] w fun e W' => e = .returned (.int .u64 (numZ z o s : Nat)) ∧ W' = w := by
  have f0 := cell_at (i := 0) (v := .slice (some ⟨b, off, none⟩) n c) ht rfl
  have HC := number_any b (off + o) s (c - o) (shZ z o) (fun j => hz _) w (fun j hj => by rw [Nat.add_assoc]; exact h (o + j) (by omega)) (by omega)

  have HC := Lib.hid HC
  have u0 : IntKind.i64.wrap ((o : Int) + (s : Int)) = ((o + s : Nat) : Int) := by
    rw [IntWalk.i64_in _ (by omega)]
    omega
  generalize hos0 : o + s = os at *
  have hso : os - o = s := by omega
  have hne : ¬ c = o := by omega
  have d1 : decide (os ≤ c) = true := decide_eq_true (by omega)
  have d2 : decide (o ≤ os) = true := decide_eq_true (by omega)
  clear ht h hz
  go_enter Try.func35, Try.ntmps35
  go_wp2_with fail
  go_at_call 36
  (with_reducible refine HC.out.mono ?_)
  rintro e w1 ⟨rfl, rfl⟩
  go_wp2_with fail
  go_ret
  exact ⟨rfl, rfl⟩
end Go.Proofs.Ytegbhjmghkbgmaa
