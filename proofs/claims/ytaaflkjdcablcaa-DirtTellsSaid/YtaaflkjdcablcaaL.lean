/- Meets, Has. -/
import Derived.Shelf.SlicesQ.IndexFunc
import Derived.Ground.SlgfProg
import Derived.Lib.SliceRun
import Derived.Shelf.Lay
import Derived.Shelf.SlGeneric
import Derived.Test.YtaaflkjdcablcaaK
namespace Go.Proofs
open Go.Shelf
shelf_lay_g SlLaysH0.n8 Slgf 8 at Try 40 as Try.l40
end Go.Proofs
namespace Go.Proofs.Ytaaflkjdcablcaa
open Go.RowKit Go.Shelf Go.Lib
set_option linter.unusedVariables false
set_option linter.unusedSimpArgs false
attribute [local go_sem] Oper.semAt_some
/-- Has a range that may be something of lo to hi? -/
def meetP (lo hi : Nat) (x : Rg) : Bool := decide (x.1 ≤ x.2) && (decide (x.1 ≤ hi) && decide (lo ≤ x.2))
set_option maxRecDepth 100000 in
set_option maxHeartbeats 4000000 in
theorem pred41 (lo hi B : Nat) (w : World) (hB : RB w B lo hi) : PredBelow Try.prog 41 #[.pointer (some ⟨B, 0, none⟩)] (fun x : Rg => .agg x.cs.toArray) (meetP lo hi) w := fun W x hb => by
  have hBW := hB.keep hb
  have hlt : B < W.heap.size := (Array.getElem?_eq_some_iff.1 hBW).1
  have HRT := Lib.hid (fun w => right_any x.1 x.2 w)
  have H1 := Lib.hid (RB.new W x.1 x.2)
  have H2 := Lib.hid (hBW.keep ((Below.refl _ _).alloc (Nat.le_refl _) (.cells #[.int .u64 (x.1 : Nat), .int .u64 (x.2 : Nat)] 25)))
  have H3 := Lib.hid (hb.alloc hb.size (.cells #[.int .u64 (x.1 : Nat), .int .u64 (x.2 : Nat)] 25))
  have hp : meetP lo hi x = (decide (x.1 ≤ x.2) && (decide (x.1 ≤ hi) && decide (lo ≤ x.2))) := rfl
  have HP := Lib.hid hp
  clear hp hB hBW hb
  show Calls Try.prog 41 #[.agg #[.int .u64 (x.1 : Nat), .int .u64 (x.2 : Nat)], .pointer (some ⟨B, 0, none⟩)] W _
  generalize meetP lo hi x = r at HP ⊢
  obtain ⟨p, q⟩ := x
  simp only at HRT H1 H2 H3 HP ⊢
  go_enter Try.func41, Try.ntmps41
  go_upto_region 1 with fail
  generalize World.alloc W _ = W1 at H1 H2 H3 ⊢
  generalize W.heap.size = b1 at *
  cases hr : decide (p ≤ q)
  · rw [hr] at HRT HP
    obtain ⟨d0, d1⟩ := H1.out.c
    go_wp2_with (first | (go_at_call 27; refine (HRT.out _).mono ?_) | fail)
    first | (rintro e W3 rfl hb) | (rintro e W3 ⟨rfl, hb⟩)
    obtain ⟨e0, e1⟩ := (H1.out.keep hb).c
    obtain ⟨g0, g1⟩ := (H2.out.keep hb).c
    have HF := Lib.hid (H3.out.trans (hb.mono H3.out.size))
    clear d0 d1 hb
    go_wp2_with fail
    go_ret
    exact ⟨by rw [HP.out]; simp [*], HF.out⟩
  · rw [hr] at HRT HP
    by_cases h1 : p ≤ hi
    · by_cases h2 : lo ≤ q
      · obtain ⟨d0, d1⟩ := H1.out.c
        go_wp2_with (first | (go_at_call 27; refine (HRT.out _).mono ?_) | fail)
        first | (rintro e W3 rfl hb) | (rintro e W3 ⟨rfl, hb⟩)
        obtain ⟨e0, e1⟩ := (H1.out.keep hb).c
        obtain ⟨g0, g1⟩ := (H2.out.keep hb).c
        have HF := Lib.hid (H3.out.trans (hb.mono H3.out.size))
        clear d0 d1 hb
        go_wp2_with fail
        go_ret
        exact ⟨by rw [HP.out]; simp [*], HF.out⟩
      · obtain ⟨d0, d1⟩ := H1.out.c
        go_wp2_with (first | (go_at_call 27; refine (HRT.out _).mono ?_) | fail)
        first | (rintro e W3 rfl hb) | (rintro e W3 ⟨rfl, hb⟩)
        obtain ⟨e0, e1⟩ := (H1.out.keep hb).c
        obtain ⟨g0, g1⟩ := (H2.out.keep hb).c
        have HF := Lib.hid (H3.out.trans (hb.mono H3.out.size))
        clear d0 d1 hb
        go_wp2_with fail
        go_ret
        exact ⟨by rw [HP.out]; simp [*], HF.out⟩
    · obtain ⟨d0, d1⟩ := H1.out.c
      go_wp2_with (first | (go_at_call 27; refine (HRT.out _).mono ?_) | fail)
      first | (rintro e W3 rfl hb) | (rintro e W3 ⟨rfl, hb⟩)
      obtain ⟨e0, e1⟩ := (H1.out.keep hb).c
      obtain ⟨g0, g1⟩ := (H2.out.keep hb).c
      have HF := Lib.hid (H3.out.trans (hb.mono H3.out.size))
      clear d0 d1 hb
      go_wp2_with fail
      go_ret
      exact ⟨by rw [HP.out]; simp [*], HF.out⟩
set_option maxRecDepth 100000 in
set_option maxHeartbeats 4000000 in
theorem index_nil (a : Option Addr) (cap : Nat) (fv : Value) (w : World) : Calls Try.prog 48 #[.slice a 0 cap, fv] w fun e w' => e = .returned (.int .i64 (-1)) ∧ w' = w := by
  go_enter Try.func48, Try.ntmps48
  go_wp2_with fail
  go_loopw [8] (fun i W => i = .int .i64 0 ∧ W = w) (fun _ _ => 0)
  case atStart => exact ⟨rfl, rfl⟩
  case round =>
    obtain ⟨rfl, rfl⟩ := hrel
    go_wp2_with fail
    go_ret
    exact ⟨rfl, rfl⟩
theorem contains_nil (a : Option Addr) (cap : Nat) (fv : Value) (w : World) : Calls Try.prog 40 #[.slice a 0 cap, fv] w fun e w' => e = .returned (.bool false) ∧ Below w.heap.size w w' := by
  have H := Lib.hid (fun w => index_nil a cap fv w)
  go_enter Try.func40, Try.ntmps40
  go_wp2_with (first | (go_at_call 48; refine (H.out _).mono ?_; rintro e w' ⟨rfl, rfl⟩) | fail)
  go_ret
  exact ⟨rfl, Below.refl _ _⟩
theorem contains_some (lo hi B : Nat) (a : Option Addr) (cap : Nat) (zs : List Rg) (hn : zs.length ≤ 1000000) (w : World) (hB : RB w B lo hi) (hR : RD w a zs) :
    Calls Try.prog 40 #[.slice a zs.length cap, .func (.func 41) #[] #[.pointer (some ⟨B, 0, none⟩)]] w fun e w' => e = .returned (.bool (zs.any (meetP lo hi))) ∧ Below w.heap.size w w' := by
  by_cases h0 : zs.length = 0
  · have hz := List.eq_nil_of_length_eq_zero h0
    subst hz
    exact contains_nil a cap _ w
  · obtain ⟨b, off, ha, c0, _⟩ := hR 0 (by omega)
    subst ha
    have eg : ∀ args w, (callFunc 41 args).run Try.prog w = .ok (.enter 41 args) w := enters_of Try.func41 (by kernel_rfl) rfl
    have hcon := AnyQ.slices_ContainsFunc Try.l40 2 Try.isAgg25 Try.sizeOf25 Rg.cs (fun _ => rfl) (meetP lo hi) 41 #[.pointer (some ⟨B, 0, none⟩)] eg b off zs.length cap zs w (pred41 lo hi B w hB) (Nat.le_refl _) (by omega) (cell_lt' c0) (fun j hj i v hi => by
      obtain ⟨b2, off2, ha, d0, d1⟩ := hR j hj
      simp only [Option.some.injEq, Addr.mk.injEq, and_true] at ha
      obtain ⟨rfl, rfl⟩ := ha
      have e : zs[j]! = rAt zs j := by simp [rAt, zl, zh, List.getD, hj]
      rw [e] at hi
      match i, hi with
      | 0, hi => simp [Rg.cs] at hi; rw [← hi]; exact d0
      | 1, hi => simp [Rg.cs] at hi; rw [← hi]; exact d1
      | i + 2, hi => simp [Rg.cs] at hi)
    rw [List.take_length] at hcon
    exact hcon
def meetsL (zs : List Rg) (lo hi : Nat) : Bool := decide (lo ≤ hi) && zs.any (meetP lo hi)
set_option maxRecDepth 100000 in
set_option maxHeartbeats 4000000 in
theorem meets_any (a : Option Addr) (cap : Nat) (zs : List Rg) (hn : zs.length ≤ 1000000) (lo hi : Nat) (w : World) (hR : RD w a zs) :
    Calls Try.prog 19 #[.slice a zs.length cap, .agg #[.int .u64 (lo : Nat), .int .u64 (hi : Nat)]] w fun e w' => e = .returned (.bool (meetsL zs lo hi)) ∧ Below w.heap.size w w' := by
  have HC := Lib.hid (fun W (hb : Below w.heap.size w W) (hB : RB W w.heap.size lo hi) => contains_some lo hi w.heap.size a cap zs hn W hB (hR.keep hb))
  have HRT := Lib.hid (fun w => right_any lo hi w)
  have H1 := Lib.hid (RB.new w lo hi)
  have H2 := Lib.hid ((Below.refl w.heap.size w).alloc (Nat.le_refl _) (.cells #[.int .u64 (lo : Nat), .int .u64 (hi : Nat)] 25))
  have HM := Lib.hid (show meetsL zs lo hi = (decide (lo ≤ hi) && zs.any (meetP lo hi)) from rfl)
  clear hR hn
  generalize zs.length = n at *
  generalize meetsL zs lo hi = r at *
  generalize zs.any (meetP lo hi) = s at *
  go_enter Try.func19, Try.ntmps19
  go_upto_region 1 with fail
  generalize World.alloc w _ = W1 at H1 H2 ⊢
  obtain ⟨d0, d1⟩ := H1.out.c
  cases hr : decide (lo ≤ hi)
  · rw [hr] at HRT HM
    go_wp2_with (first | (go_at_call 27; refine (HRT.out _).mono ?_) | fail)
    first | (rintro e W3 rfl hb) | (rintro e W3 ⟨rfl, hb⟩)
    have HF := Lib.hid (H2.out.trans (hb.mono H2.out.size))
    clear hb d0 d1
    go_wp2_with fail
    go_ret
    exact ⟨by rw [HM.out]; rfl, HF.out⟩
  · rw [hr] at HRT HM
    go_wp2_with (first | (go_at_call 27; refine (HRT.out _).mono ?_) | fail)
    first | (rintro e W3 rfl hb) | (rintro e W3 ⟨rfl, hb⟩)
    have HF := Lib.hid (H2.out.trans (hb.mono H2.out.size))
    have HB := Lib.hid (H1.out.keep hb)
    clear hb d0 d1
    go_wp2_with (first | (go_at_call 40; refine (HC.out _ HF.out HB.out).mono ?_) | fail)
    first | (rintro e W4 rfl hb) | (rintro e W4 ⟨rfl, hb⟩)
    have HG := Lib.hid (HF.out.trans (hb.mono HF.out.size))
    clear hb
    go_wp2_with fail
    go_ret
    exact ⟨by rw [HM.out]; rfl, HG.out⟩
theorem meets_has (zs : List Rg) (x : Nat) : meetsL zs x x = hasL zs x := by
  unfold meetsL hasL
  rw [Bool.eq_iff_iff]
  simp only [Bool.and_eq_true, decide_eq_true_eq, List.any_eq_true, meetP, inR]
  exact ⟨fun ⟨_, r, h1, h2⟩ => ⟨r, h1, by omega⟩, fun ⟨r, h1, h2⟩ => ⟨Nat.le_refl _, r, h1, by omega⟩⟩
theorem has_any (a : Option Addr) (cap : Nat) (zs : List Rg) (hn : zs.length ≤ 1000000) (x : Nat) (w : World) (hR : RD w a zs) :
    Calls Try.prog 23 #[.slice a zs.length cap, .int .u64 (x : Nat)] w fun e w' => e = .returned (.bool (hasL zs x)) ∧ Below w.heap.size w w' := by
  have HM := Lib.hid (meets_any a cap zs hn x x w hR)
  rw [meets_has] at HM
  clear hR hn
  generalize zs.length = n at *
  generalize hasL zs x = r at *
  go_enter Try.func23, Try.ntmps23
  go_wp2_with (first | (go_at_call 19; refine HM.out.mono ?_) | fail)
  first | (rintro e W4 rfl hb) | (rintro e W4 ⟨rfl, hb⟩)
  have HB := Lib.hid hb
  clear hb
  go_wp2_with fail
  go_ret
  exact ⟨rfl, HB.out⟩
end Go.Proofs.Ytaaflkjdcablcaa
