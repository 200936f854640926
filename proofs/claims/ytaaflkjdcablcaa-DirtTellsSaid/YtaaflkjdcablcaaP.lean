/- slices.Values, dirt.each. -/
import Derived.Test.YtaaflkjdcablcaaO
namespace Go.Proofs.Ytaaflkjdcablcaa
open Go.RowKit Go.Shelf
set_option linter.unusedVariables false
set_option linter.unusedSimpArgs false
attribute [local go_sem] Oper.semAt_some
theorem values_any (a : Option Addr) (n cap : Nat) (w : World) : Calls Try.prog 47 #[.slice a n cap] w fun e w' => e = .returned (.func (.func 60) #[] #[.pointer (some ⟨w.heap.size, 0, none⟩)]) ∧ w' = w.alloc (.cells #[.slice a n cap] 22) := by
  go_enter Try.func47, Try.ntmps47
  go_wp2_with fail
  go_ret
  exact ⟨rfl, rfl⟩
/-- A row that tells the same addresses, and may be. -/
structure Same (zs ns : List Rg) : Prop where
  right : rightL ns = true
  ok : OkL ns
  has : ∀ a, hasL ns a = hasL zs a
  len : ns.length ≤ zs.length
def EachOf (w : World) (zs : List Rg) (e : Ending) (w' : World) : Prop := ∃ B a cap ns, e = .returned (.func (.func 60) #[] #[.pointer (some ⟨B, 0, none⟩)]) ∧ w'.cell? ⟨B, 0, none⟩ = some (.slice a ns.length cap) ∧ RD w' a ns ∧ Same zs ns ∧ Below w.heap.size w w'
theorem box_cell (w : World) (v : Value) : (w.alloc (.cells #[v] 22)).cell? ⟨w.heap.size, 0, none⟩ = some v := by
  have h := heap_alloc_last w (.cells #[v] 22)
  unfold World.cell?
  rw [h]
  rfl
set_option maxRecDepth 100000 in
set_option maxHeartbeats 4000000 in
theorem each_any (a : Option Addr) (cap : Nat) (zs : List Rg) (hz : OkL zs) (hn : zs.length ≤ 1000000) (w : World) (hR : RD w a zs) :
    Calls Try.prog 39 #[.slice a zs.length cap] w fun e w' => EachOf w zs e w' := by
  have h8 := rightl_any a cap zs (by omega) hz w hR
  have H11 := Lib.hid (fun W (hb : Below w.heap.size w W) => norm_any a cap zs hz hn W (hR.keep hb))
  have HR := Lib.hid (fun W (hb : Below w.heap.size w W) => hR.keep hb)
  have HZ := Lib.hid hz
  clear hR hz hn
  obtain ⟨n, hl⟩ : ∃ n, zs.length = n := ⟨_, rfl⟩
  have HL := Lib.hid hl
  rw [hl] at h8 H11 ⊢
  clear hl
  cases hr : rightL zs
  · rw [hr] at h8
    have H8 := Lib.hid h8
    clear h8 hr
    go_enter Try.func39, Try.ntmps39
    go_wp2_with (first | (go_at_call 8; refine H8.out.mono ?_) | fail)
    rintro e W1 ⟨rfl, hb1⟩
    have HB1 := Lib.hid hb1
    clear hb1
    go_wp2_with (first | (go_at_call 11; refine (H11.out _ HB1.out).mono ?_) | fail)
    rintro e W2 ⟨v, ns, rfl, hS, hN⟩
    obtain ⟨a2, cap2, rfl, hrd⟩ := hS.rd
    have hg := norm_good HZ.out hN
    have HF := Lib.hid (And.intro hrd (And.intro (show Same zs ns from ⟨hg.1, hg.2.1, hg.2.2.1, hg.2.2.2⟩) (hS.base HB1.out).2))
    clear hS hN hrd hg
    go_wp2_with (first | (go_at_call 47; refine (values_any _ _ _ _).mono ?_) | fail)
    rintro e W3 ⟨rfl, rfl⟩
    have HX : Hid (EachOf w zs (.returned (.func (.func 60) #[] #[.pointer (some ⟨W2.heap.size, 0, none⟩)])) (W2.alloc (.cells #[.slice a2 ns.length cap2] 22))) := Lib.hid ⟨_, a2, cap2, ns, rfl, box_cell _ _, HF.out.1.keep ((Below.refl _ _).alloc (Nat.le_refl _) _), HF.out.2.1, HF.out.2.2.alloc HF.out.2.2.size _⟩
    generalize World.alloc W2 _ = W4 at HX ⊢
    go_wp2_with fail
    go_ret
    exact HX.out
  · rw [hr] at h8
    have H8 := Lib.hid h8
    have HRr := Lib.hid hr
    clear h8 hr
    go_enter Try.func39, Try.ntmps39
    go_wp2_with (first | (go_at_call 8; refine H8.out.mono ?_) | fail)
    rintro e W1 ⟨rfl, hb1⟩
    have HB1 := Lib.hid hb1
    clear hb1
    go_wp2_with (first | (go_at_call 47; refine (values_any _ _ _ _).mono ?_) | fail)
    rintro e W3 ⟨rfl, rfl⟩
    have HX : Hid (EachOf w zs (.returned (.func (.func 60) #[] #[.pointer (some ⟨W1.heap.size, 0, none⟩)])) (W1.alloc (.cells #[.slice a n cap] 22))) := Lib.hid ⟨_, a, cap, zs, rfl, by rw [HL.out]; exact box_cell _ _, HR.out _ (HB1.out.alloc HB1.out.size _), ⟨HRr.out, HZ.out, fun _ => rfl, Nat.le_refl _⟩, HB1.out.alloc HB1.out.size _⟩
    generalize World.alloc W1 _ = W4 at HX ⊢
    go_wp2_with fail
    go_ret
    exact HX.out
end Go.Proofs.Ytaaflkjdcablcaa
