/- What every law of dirt asks at its end. -/
import Derived.Test.YtaaflkjdcablcaaW
namespace Go.Proofs.Ytaaflkjdcablcaa
open Go.RowKit Go.Shelf
set_option linter.unusedVariables false
set_option linter.unusedSimpArgs false
attribute [local go_sem] Oper.semAt_some
theorem rd1 {W : World} {b lo hi : Nat} (h : RB W b lo hi) : RD W (some ⟨b, 0, none⟩) [(lo, hi)] := fun k hk => by
  obtain rfl : k = 0 := by simpa using hk
  exact ⟨b, 0, rfl, h.c.1, h.c.2⟩
theorem rd2 (W : World) (a b c d : Nat) : RD (W.alloc (.cells #[.int .u64 (a : Nat), .int .u64 (b : Nat), .int .u64 (c : Nat), .int .u64 (d : Nat)] 25)) (some ⟨W.heap.size, 0, none⟩) [(a, b), (c, d)] := fun k hk => by
  have h := heap_alloc_last W (.cells #[.int .u64 (a : Nat), .int .u64 (b : Nat), .int .u64 (c : Nat), .int .u64 (d : Nat)] 25)
  have hc : ∀ p, (W.alloc (.cells #[.int .u64 (a : Nat), .int .u64 (b : Nat), .int .u64 (c : Nat), .int .u64 (d : Nat)] 25)).cell? ⟨W.heap.size, p, none⟩ = (#[.int .u64 (a : Nat), .int .u64 (b : Nat), .int .u64 (c : Nat), .int .u64 (d : Nat)] : Array Value)[p]? := fun p => by
    unfold World.cell?
    rw [h]
    rfl
  refine ⟨W.heap.size, 0, rfl, ?_, ?_⟩
  · rw [hc]
    rcases (by simp at hk; omega : k = 0 ∨ k = 1) with rfl | rfl <;> rfl
  · rw [hc]
    rcases (by simp at hk; omega : k = 0 ∨ k = 1) with rfl | rfl <;> rfl
theorem ok1 {a b : Nat} (ha : U a) (hb : U b) : OkL [(a, b)] := fun r hr => by
  obtain rfl := List.mem_singleton.1 hr
  exact ⟨ha, hb⟩
theorem same_any (a : Option Addr) (cap : Nat) (xs : List Rg) (hx : OkL xs) (hn : xs.length ≤ 1000000) (a2 : Option Addr) (cap2 : Nat) (ys : List Rg) (hy : OkL ys) (w : World) (hR : RD w a xs) (hR2 : RD w a2 ys) :
    Calls Try.prog 10 #[.slice a xs.length cap, .slice a2 ys.length cap2] w fun e w' => e = .returned (.bool (decide (xs = ys))) ∧ Below w.heap.size w w' := by
  have H := Lib.hid (rsame_any a cap xs hx hn a2 cap2 ys hy w hR hR2)
  generalize decide (xs = ys) = r at H ⊢
  clear hR hR2 hx hy hn
  generalize xs.length = n at *
  generalize ys.length = m at *
  go_enter Try.func10, Try.ntmps10
  go_wp2_with (first | (go_at_call 30; refine H.out.mono ?_) | fail)
  first | (rintro e W3 rfl hb) | (rintro e W3 ⟨rfl, hb⟩)
  have HB := Lib.hid hb
  clear hb
  go_wp2_with fail
  go_ret
  exact ⟨rfl, HB.out⟩
theorem add_is {ns : List Rg} (h : NormOf ([(1, 3)] ++ [(4, 6)]) ns) : ns = [(1, 6)] := by
  have hok : OkL ([(1, 3)] ++ [(4, 6)]) := OkL.app (ok1 (by unfold U; omega) (by unfold U; omega)) (ok1 (by unfold U; omega) (by unfold U; omega))
  obtain ⟨h1, _, h3, _⟩ := norm_good hok h
  refine one_row ns [(1, 6)] h1 (by decide +kernel) (fun a => ?_)
  rw [h3 a, Bool.eq_iff_iff]
  simp [hasL, inR]
  omega
theorem sub_is {ns : List Rg} (h1 : rightL ns = true) (h2 : ∀ x, hasL ns x = (hasL [(1, 9)] x && !(decide (3 ≤ x) && decide (x ≤ 4)))) : ns = [(1, 2), (5, 9)] := by
  refine one_row ns [(1, 2), (5, 9)] h1 (by decide +kernel) (fun a => ?_)
  rw [h2 a, Bool.eq_iff_iff]
  simp [hasL, inR]
  omega
end Go.Proofs.Ytaaflkjdcablcaa
