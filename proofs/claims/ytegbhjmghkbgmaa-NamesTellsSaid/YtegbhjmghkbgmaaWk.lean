/- wakes. -/
import Derived.Test.YtegbhjmghkbgmaaNd
namespace Go.Proofs.Ytegbhjmghkbgmaa
open Go.RowKit Go.Shelf
set_option linter.unusedVariables false
set_option linter.unusedSimpArgs false
attribute [local go_sem] Oper.semAt_some
def l2 : List En := [(⟨#[120]⟩, 1, 1, 0, 0), (⟨#[102]⟩, 18, 1, 77, 5)]
def y2 : List Sy := [(⟨#[120]⟩, 0, 0, false), (⟨#[102]⟩, 77, 5, true)]
theorem l2_sy : l2.map En.sy = y2 := by decide +kernel
theorem l2_fine : ∀ x, x ∈ l2 → x.fine := by
  intro x hx
  simp [l2] at hx
  rcases hx with rfl | rfl
  · refine ⟨by decide, fun j hj => ?_⟩
    have : j = 0 := by simp [ByteArray.size] at hj; omega
    subst this
    show (120 : UInt8).toNat ≠ 0
    decide
  · refine ⟨by decide, fun j hj => ?_⟩
    have : j = 0 := by simp [ByteArray.size] at hj; omega
    subst this
    show (102 : UInt8).toNat ≠ 0
    decide
theorem l2_ok : ∀ x, x ∈ l2 → x.ok := by
  intro x hx
  simp [l2] at hx
  rcases hx with rfl | rfl <;> (unfold En.ok U; decide)
theorem find_f : findV y2 ⟨#[102]⟩ = .tuple #[.agg #[.string ⟨#[102]⟩, .int .u64 77, .int .u64 5, .bool true], .int .i64 0] := by
  have h : findS y2 ⟨#[102]⟩ = some (⟨#[102]⟩, 77, 5, true) := by decide +kernel
  unfold findV
  rw [h]
  rfl
theorem find_x : findV y2 ⟨#[120]⟩ = .tuple #[.agg #[.string ⟨#[]⟩, .int .u64 0, .int .u64 0, .bool false], .int .i64 40] := by
  have h : findS y2 ⟨#[120]⟩ = none := by decide +kernel
  unfold findV
  rw [h]
  rfl
theorem filt2 : y2.filter isF = [(⟨#[102]⟩, 77, 5, true)] := by decide +kernel
theorem bz_nil (w : World) (z : Nat → Nat) : BZ w none 0 0 z := ⟨.inl ⟨rfl, rfl, rfl⟩, Nat.le_refl _, by decide⟩
theorem rx_nil (w : World) : RX w none ([] : List Value) := fun h => absurd h (by simp)
theorem rx_two (W : World) : RX (W.alloc (.cells #[.string ⟨#[120]⟩, .int .u8 1, .int .u16 1, .int .u64 0, .int .u64 0, .string ⟨#[102]⟩, .int .u8 18, .int .u16 1, .int .u64 77, .int .u64 5] 49)) (some ⟨W.heap.size, 0, none⟩) (l2.flatMap En.cs) := fun _ => ⟨W.heap.size, 0, rfl, fun j u hu => by
  rw [Nat.zero_add]
  exact cell_at (heap_alloc_last W _) (by simpa [l2, En.cs] using hu)⟩
set_option maxRecDepth 100000 in
set_option maxHeartbeats 4000000 in
theorem wakes_any (w : World) : Calls Try.prog 8 #[] w fun e W' => e = .returned (.bool true) ∧ Below w.heap.size w W' := by
  have H1 := Lib.hid (fun W => read_none (.slice none 0 0) (.int .u64 0) (.int .u64 0) (.int .u64 0) (.slice none 0 0) none 0 [] (by decide) rfl W (rx_nil W))
  have H2 := Lib.hid (fun W (p : Nat) a (h : RX W a (l2.flatMap En.cs)) => made_any 10 (by decide) a p l2 (by decide) l2_ok (fun x hx => (l2_fine x hx).1) W h)
  have H3 := Lib.hid (fun W ab cb a (p : Nat) (hz : BZ W ab (madeN 10 l2) cb (madeZ 10 l2)) (hr : RX W a ((secsM 10 l2).flatMap Sc.cs)) => read_any ab (madeN 10 l2) cb (madeZ 10 l2) (madeZ_lt 10 l2) (.int .u64 0) (.int .u64 0) (.int .u64 0) (.slice none 0 0) a p (secsM 10 l2) (fun s hs => by
    simp [secsM] at hs
    rcases hs with rfl | rfl | rfl <;> (unfold Sc.ok V32 U; decide)) (by decide) W hz hr)
  rw [made_read (by decide) l2_fine l2_ok (fun _ _ => rfl) (madeZ_lt 10 l2) (Nat.le_refl _), l2_sy] at H3
  have H4 := Lib.hid (fun W a (p : Nat) (h : RX W a (y2.flatMap Sy.cs)) => find_any a p y2 ⟨#[102]⟩ (by decide) W h)
  rw [find_f] at H4
  have H5 := Lib.hid (fun W a (p : Nat) (h : RX W a (y2.flatMap Sy.cs)) => find_any a p y2 ⟨#[120]⟩ (by decide) W h)
  rw [find_x] at H5
  have H6 := Lib.hid (fun W a (p : Nat) (h : RX W a (y2.flatMap Sy.cs)) => funcs_one a p y2 (by decide) (by rw [filt2]; decide) W h)
  rw [filt2] at H6
  have HR := Lib.hid (fun W => rx_two W)
  go_enter Try.func8, Try.ntmps8
  go_wp2_with (first | (go_at_call 10; refine (H1.out _).mono ?_) | fail)
  first | (rintro e W1 rfl hb) | (rintro e W1 ⟨rfl, hb⟩)
  have HB := Lib.hid hb
  clear hb
  go_upto_region 2 with fail
  go_wp2_with (first | (go_at_call 9; refine (H2.out _ 2 _ (HR.out _)).mono ?_) | fail)
  rintro e W2 ⟨ab, cb, a2, p2, rfl, hz, hr, hb⟩
  have HB2 := Lib.hid (HB.out.trans ((((Below.refl _ W1).alloc (Nat.le_refl _) _).trans (hb.mono (by simp))).mono HB.out.size))
  have HM := Lib.hid (And.intro hz hr)
  clear hb hz hr HB H1 H2 HR
  go_upto_region 3 with fail
  have HM3 : Hid (BZ (W2.alloc (.cells #[.int .u64 0, .int .u64 0, .int .u64 0, .slice none 0 0, .slice a2 3 p2] 31)) ab (madeN 10 l2) cb (madeZ 10 l2) ∧ RX (W2.alloc (.cells #[.int .u64 0, .int .u64 0, .int .u64 0, .slice none 0 0, .slice a2 3 p2] 31)) a2 ((secsM 10 l2).flatMap Sc.cs) ∧ Below w.heap.size w (W2.alloc (.cells #[.int .u64 0, .int .u64 0, .int .u64 0, .slice none 0 0, .slice a2 3 p2] 31)) ∧ (W2.alloc (.cells #[.int .u64 0, .int .u64 0, .int .u64 0, .slice none 0 0, .slice a2 3 p2] 31)).heap[W2.heap.size]? = some (.cells #[.int .u64 0, .int .u64 0, .int .u64 0, .slice none 0 0, .slice a2 3 p2] 31 (0, 0))) := Lib.hid (by
    have hk := (Below.refl W2.heap.size W2).alloc (Nat.le_refl _) (.cells #[.int .u64 0, .int .u64 0, .int .u64 0, .slice none 0 0, .slice a2 3 p2] 31)
    exact ⟨HM.out.1.keep hk, HM.out.2.keep hk, HB2.out.alloc HB2.out.size _, heap_alloc_last W2 _⟩)
  generalize World.alloc W2 _ = W3 at HM3 ⊢
  clear HM HB2
  have c0 := cell_at (i := 0) (v := .int .u64 0) HM3.out.2.2.2 rfl
  have c1 := cell_at (i := 1) (v := .int .u64 0) HM3.out.2.2.2 rfl
  have c2 := cell_at (i := 2) (v := .int .u64 0) HM3.out.2.2.2 rfl
  have c3 := cell_at (i := 3) (v := .slice none 0 0) HM3.out.2.2.2 rfl
  have c4 := cell_at (i := 4) (v := .slice a2 3 p2) HM3.out.2.2.2 rfl
  go_wp2_with (first | (go_at_call 10; refine (H3.out _ ab cb a2 p2 HM3.out.1 HM3.out.2.1).mono ?_) | fail)
  first | (rintro e W4 v rfl hS) | (rintro e W4 ⟨v, rfl, hS⟩)
  obtain ⟨a4, c5, rfl⟩ := owns_slice hS.1
  have HS := Lib.hid (And.intro (RX.own hS.1) (HM3.out.2.2.1.trans (hS.2.mono HM3.out.2.2.1.size)))
  clear c0 c1 c2 c3 c4 hS HM3 H3
  have hy2 : y2.length = 2 := rfl
  rw [hy2] at H4 H5 H6 ⊢
  clear hy2
  go_wp2_with (first | (go_at_call 14; refine (H4.out _ _ _ HS.out.1).mono ?_) | fail)
  first | (rintro e W5 rfl hb) | (rintro e W5 ⟨rfl, hb⟩)
  have HS5 := Lib.hid (And.intro (HS.out.1.keep hb) (HS.out.2.trans (hb.mono HS.out.2.size)))
  clear hb HS
  go_upto_region 5 with fail
  have HS6 : Hid (RX (W5.alloc (.cells #[.string ⟨#[102]⟩, .int .u64 77, .int .u64 5, .bool true] 42)) a4 (y2.flatMap Sy.cs) ∧ Below w.heap.size w (W5.alloc (.cells #[.string ⟨#[102]⟩, .int .u64 77, .int .u64 5, .bool true] 42)) ∧ (W5.alloc (.cells #[.string ⟨#[102]⟩, .int .u64 77, .int .u64 5, .bool true] 42)).heap[W5.heap.size]? = some (.cells #[.string ⟨#[102]⟩, .int .u64 77, .int .u64 5, .bool true] 42 (0, 0))) := Lib.hid ⟨HS5.out.1.keep ((Below.refl _ _).alloc (Nat.le_refl _) _), HS5.out.2.alloc HS5.out.2.size _, heap_alloc_last W5 _⟩
  generalize World.alloc W5 _ = W6 at HS6 ⊢
  generalize (World.heap W5).size = b6 at HS6 ⊢
  clear HS5 H4
  go_wp2_with (first | (go_at_call 14; refine (H5.out _ _ _ HS6.out.1).mono ?_) | fail)
  first | (rintro e W7 rfl hb) | (rintro e W7 ⟨rfl, hb⟩)
  have hb6 := (Array.getElem?_eq_some_iff.1 HS6.out.2.2).1
  have HS7 := Lib.hid (And.intro (HS6.out.1.keep hb) (And.intro (HS6.out.2.1.trans (hb.mono HS6.out.2.1.size)) ((hb.block _ hb6).trans HS6.out.2.2)))
  clear hb HS6 hb6
  go_upto_region 6 with fail
  have HS8 : Hid (RX (W7.alloc (.cells #[.string ⟨#[]⟩, .int .u64 0, .int .u64 0, .bool false] 42)) a4 (y2.flatMap Sy.cs) ∧ Below w.heap.size w (W7.alloc (.cells #[.string ⟨#[]⟩, .int .u64 0, .int .u64 0, .bool false] 42)) ∧ (W7.alloc (.cells #[.string ⟨#[]⟩, .int .u64 0, .int .u64 0, .bool false] 42)).heap[b6]? = some (.cells #[.string ⟨#[102]⟩, .int .u64 77, .int .u64 5, .bool true] 42 (0, 0))) := Lib.hid (by
    have hk := (Below.refl W7.heap.size W7).alloc (Nat.le_refl _) (.cells #[.string ⟨#[]⟩, .int .u64 0, .int .u64 0, .bool false] 42)
    exact ⟨HS7.out.1.keep hk, HS7.out.2.1.alloc HS7.out.2.1.size _, (hk.block _ (Array.getElem?_eq_some_iff.1 HS7.out.2.2).1).trans HS7.out.2.2⟩)
  generalize World.alloc W7 _ = W8 at HS8 ⊢
  clear HS7 H5
  have c1 := cell_at (i := 1) (v := .int .u64 77) HS8.out.2.2 rfl
  go_wp2_with (first | (go_at_call 16; refine (H6.out _ _ _ HS8.out.1).mono ?_) | fail)
  first | (rintro e W9 v rfl hS) | (rintro e W9 ⟨v, rfl, hS⟩)
  obtain ⟨a9, c9, rfl⟩ := owns_slice hS.1
  have HS9 := Lib.hid (HS8.out.2.1.trans (hS.2.mono HS8.out.2.1.size))
  have hy1 : [((⟨#[102]⟩ : ByteArray), 77, 5, true)].length = 1 := rfl
  try rw [hy1]
  clear hS c1 hy1
  go_wp2_with fail
  go_ret
  exact ⟨rfl, HS9.out⟩
end Go.Proofs.Ytegbhjmghkbgmaa
