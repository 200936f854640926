/- DirtHas' walk. -/
import Derived.Test.YtaaflkjdcablcaaY
import Derived.Test.YtaaflkjdcablcaaSb
namespace Go.Proofs.Ytaaflkjdcablcaa
open Go.RowKit Go.Shelf
set_option linter.unusedVariables false
set_option linter.unusedSimpArgs false
attribute [local go_sem] Oper.semAt_some
/-- What the law's walk keeps: both rows, the range. -/
def LW (w : World) (a a2 : Option Addr) (zs z2 : List Rg) (b lo hi : Nat) (W : World) : Prop := RD W a zs ∧ RD W a2 z2 ∧ RB W b lo hi ∧ Below w.heap.size w W
theorem LW.keep {w W W' : World} {a a2 : Option Addr} {zs z2 : List Rg} {b lo hi : Nat} (h : LW w a a2 zs z2 b lo hi W) (hb : Below W.heap.size W W') : LW w a a2 zs z2 b lo hi W' := ⟨h.1.keep hb, h.2.1.keep hb, h.2.2.1.keep hb, h.2.2.2.trans (hb.mono h.2.2.2.size)⟩
theorem LW.drew {w W : World} {a a2 : Option Addr} {zs z2 : List Rg} {b lo hi : Nat} (h : LW w a a2 zs z2 b lo hi W) : LW w a a2 zs z2 b lo hi W.drew := ⟨h.1, h.2.1, h.2.2.1, h.2.2.2.drew⟩
set_option maxRecDepth 100000 in
set_option maxHeartbeats 8000000 in
theorem has_great (a : Option Addr) (n cap : Nat) (a2 : Option Addr) (n2 cap2 : Nat) (lo hi x : Nat) (hg : 60 < n ∨ 60 < n2) (w : World) :
    Calls Try.prog 4 #[.slice a n cap, .slice a2 n2 cap2, .agg #[.int .u64 (lo : Nat), .int .u64 (hi : Nat)], .int .u64 (x : Nat)] w fun e w' => e = .returned (.bool true) ∧ Below w.heap.size w w' := by
  have HG := Lib.hid hg
  have hb0 := (Below.refl w.heap.size w).alloc (Nat.le_refl _) (.cells #[.int .u64 (lo : Nat), .int .u64 (hi : Nat)] 25)
  have HB := Lib.hid hb0
  clear hb0 hg
  go_enter Try.func4, Try.ntmps4
  go_upto_region 1 with fail
  generalize World.alloc w _ = W1 at HB ⊢
  have hg := HG.out
  go_wp2_with (first | (go_at_call 7; refine (wakes_any _).mono ?_) | fail)
  first | (rintro e W3 rfl hb) | (rintro e W3 ⟨rfl, hb⟩)
  have HF := Lib.hid (HB.out.trans (hb.mono HB.out.size))
  clear hb
  go_wp2_with fail
  go_ret
  exact ⟨rfl, HF.out⟩
def RowIs (w : World) (P : List Rg → Prop) (e : Ending) (w' : World) : Prop := ∃ v ns, e = .returned v ∧ SR w ns v w' ∧ ns.length ≤ 1000000 ∧ OkL ns ∧ rightL ns = true ∧ P ns
theorem row_rd {w w' : World} {P : List Rg → Prop} {e : Ending} (h : RowIs w P e w') : ∃ a k cap ns, e = .returned (.slice a k cap) ∧ ns.length = k ∧ RD w' a ns ∧ k ≤ 1000000 ∧ OkL ns ∧ rightL ns = true ∧ P ns ∧ Below w.heap.size w w' := by
  obtain ⟨v, ns, rfl, h1, h2, h3, h4, h5⟩ := h
  obtain ⟨a, cap, rfl, hr⟩ := h1.rd
  exact ⟨a, ns.length, cap, ns, rfl, rfl, hr, h2, h3, h4, h5, h1.2⟩
theorem r8 (W : World) (a : Option Addr) (k cap : Nat) (ns : List Rg) (hk : ns.length = k) (hk2 : k ≤ 1000000) (ho : OkL ns) (hr : rightL ns = true) (h : RD W a ns) : Calls Try.prog 8 #[.slice a k cap] W fun e w' => e = .returned (.bool true) ∧ Below W.heap.size W w' := by
  have := rightl_any a cap ns (by omega) ho W h
  rwa [hk, hr] at this
theorem r26 (W : World) (a : Option Addr) (k cap : Nat) (ns : List Rg) (x : Nat) (t : Bool) (ht : hasL ns x = t) (hk : ns.length = k) (hk2 : k ≤ 1000000) (h : RD W a ns) : Calls Try.prog 26 #[.slice a k cap, .int .u64 (x : Nat)] W fun e w' => e = .returned (.bool t) ∧ w' = W := by
  have := had_any a cap ns (by omega) x W h
  rwa [hk, ht] at this
theorem r23 (W : World) (a : Option Addr) (k cap : Nat) (ns : List Rg) (x : Nat) (t : Bool) (ht : hasL ns x = t) (hk : ns.length = k) (hk2 : k ≤ 1000000) (h : RD W a ns) : Calls Try.prog 23 #[.slice a k cap, .int .u64 (x : Nat)] W fun e w' => e = .returned (.bool t) ∧ Below W.heap.size W w' := by
  have := has_any a cap ns (by omega) x W h
  rwa [hk, ht] at this
theorem r19 (W : World) (a : Option Addr) (k cap : Nat) (ns : List Rg) (lo hi : Nat) (ht : meetsL ns lo hi = true) (hk : ns.length = k) (hk2 : k ≤ 1000000) (h : RD W a ns) : Calls Try.prog 19 #[.slice a k cap, .agg #[.int .u64 (lo : Nat), .int .u64 (hi : Nat)]] W fun e w' => e = .returned (.bool true) ∧ Below W.heap.size W w' := by
  have := meets_any a cap ns (by omega) lo hi W h
  rwa [hk, ht] at this
theorem r11 (W : World) (a : Option Addr) (k cap : Nat) (zs : List Rg) (x : Nat) (t : Bool) (ht : hasL zs x = t) (hk : zs.length = k) (hk2 : k ≤ 60) (ho : OkL zs) (h : RD W a zs) : Calls Try.prog 11 #[.slice a k cap] W (RowIs W (fun ns => hasL ns x = t)) := by
  have := norm_any a cap zs ho (by omega) W h
  rw [hk] at this
  refine this.mono fun e w' ⟨v, ns, h1, h2, h3⟩ => ?_
  have hg := norm_good ho h3
  exact ⟨v, ns, h1, h2, by omega, hg.2.1, hg.1, by show hasL ns x = t; rw [hg.2.2.1, ht]⟩
theorem r13 (f : Nat) (hf : f = 13 ∨ f = 17) (W : World) (a : Option Addr) (k cap : Nat) (zs : List Rg) (a2 : Option Addr) (k2 cap2 : Nat) (z2 : List Rg) (x : Nat) (t t2 : Bool) (ht : hasL zs x = t) (ht2 : hasL z2 x = t2) (hk : zs.length = k) (hk2 : k ≤ 60) (ho : OkL zs) (h : RD W a zs) (hc : a = none → cap = 0)
    (hk3 : z2.length = k2) (hk4 : k2 ≤ 60) (ho2 : OkL z2) (h2 : RD W a2 z2) (hc2 : a2 = none → cap2 = 0) : Calls Try.prog f #[.slice a k cap, .slice a2 k2 cap2] W (RowIs W (fun ns => hasL ns x = (t || t2))) := by
  have : Calls Try.prog f #[.slice a k cap, .slice a2 k2 cap2] W fun e w' => ∃ v ns, e = .returned v ∧ SR W ns v w' ∧ NormOf (zs ++ z2) ns := by
    rcases hf with rfl | rfl
    · have := add_any a cap zs ho (by omega) hc a2 cap2 z2 ho2 (by omega) hc2 W h h2
      rwa [hk, hk3] at this
    · have := join_any a cap zs ho (by omega) hc a2 cap2 z2 ho2 (by omega) hc2 W h h2
      rwa [hk, hk3] at this
  refine this.mono fun e w' ⟨v, ns, h1, h2, h3⟩ => ?_
  have hg := norm_good (ho.app ho2) h3
  have hl := hg.2.2.2
  rw [List.length_append] at hl
  exact ⟨v, ns, h1, h2, by omega, hg.2.1, hg.1, by show hasL ns x = (t || t2); rw [hg.2.2.1, hasL_app, ht, ht2]⟩
theorem r15 (W : World) (a : Option Addr) (k cap : Nat) (zs : List Rg) (x : Nat) (t : Bool) (lo hi : Nat) (hlu : U lo) (hhu : U hi) (s : Bool) (hs : (decide (lo ≤ x) && decide (x ≤ hi)) = s) (ht : hasL zs x = t) (hk : zs.length = k) (hk2 : k ≤ 60) (ho : OkL zs) (h : RD W a zs) : Calls Try.prog 15 #[.slice a k cap, .agg #[.int .u64 (lo : Nat), .int .u64 (hi : Nat)]] W (RowIs W (fun ns => hasL ns x = (t && !s))) := by
  have := sub_all a cap zs ho (by omega) lo hi hlu hhu W h
  rw [hk] at this
  refine this.mono fun e w' ⟨v, ns, h1, h2, h3, h4, h5, h6⟩ => ?_
  exact ⟨v, ns, h1, h2, by omega, h3, h5, by show hasL ns x = (t && !s); rw [h6 x, ht, hs]⟩
end Go.Proofs.Ytaaflkjdcablcaa
