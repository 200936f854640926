/- DirtBack: what is called, as rows that may be. -/
import Derived.Test.YtaaflkjdcablcaaHa
import Derived.Test.YtaaflkjdcablcaaIn
namespace Go.Proofs.Ytaaflkjdcablcaa
open Go.RowKit Go.Shelf
set_option linter.unusedVariables false
set_option linter.unusedSimpArgs false
attribute [local go_sem] Oper.semAt_some
set_option maxRecDepth 100000 in
set_option maxHeartbeats 4000000 in
theorem sub_fit (a : Option Addr) (cap : Nat) (zs : List Rg) (hz : OkL zs) (hn : zs.length ≤ 100000) (lo hi : Nat) (hlu : U lo) (hhu : U hi) (w : World) (hR : RD w a zs) :
    Calls Try.prog 15 #[.slice a zs.length cap, .agg #[.int .u64 (lo : Nat), .int .u64 (hi : Nat)]] w fun e w' => ∃ v ns, e = .returned v ∧ SR w ns v w' ∧ OkL ns ∧ ns.length ≤ 2 * zs.length ∧ rightL ns = true ∧ ∀ x, hasL ns x = (hasL zs x && !(decide (lo ≤ x) && decide (x ≤ hi))) := by
  cases hle : decide (lo ≤ hi)
  · have HN := Lib.hid (fun W (hb : Below w.heap.size w W) => norm_any a cap zs hz (by omega) W (hR.keep hb))
    have HZ := Lib.hid hz
    have HK := Lib.hid hn
    have hno : ¬ lo ≤ hi := of_decide_eq_false hle
    have HRT := Lib.hid (fun w => right_any lo hi w)
    have H1 := Lib.hid (RB.new w lo hi)
    have H2 := Lib.hid ((Below.refl w.heap.size w).alloc (Nat.le_refl _) (.cells #[.int .u64 (lo : Nat), .int .u64 (hi : Nat)] 25))
    rw [hle] at HRT
    clear hR hz hn hle
    obtain ⟨n, hl⟩ : ∃ n, zs.length = n := ⟨_, rfl⟩
    have HL := Lib.hid hl
    rw [hl] at HN ⊢
    clear hl
    go_enter Try.func15, Try.ntmps15
    go_upto_region 1 with fail
    generalize World.alloc w _ = W1 at H1 H2 ⊢
    obtain ⟨d0, d1⟩ := H1.out.c
    go_wp2_with (first | (go_at_call 27; refine (HRT.out _).mono ?_) | fail)
    first | (rintro e W3 rfl hb) | (rintro e W3 ⟨rfl, hb⟩)
    have HB := Lib.hid (H2.out.trans (hb.mono H2.out.size))
    clear hb d0 d1 H1 H2
    go_wp2_with (first | (go_at_call 11; refine (HN.out _ HB.out).mono ?_) | fail)
    rintro e W4 ⟨v, ns, rfl, hS, hN⟩
    have hg := norm_good HZ.out hN
    have HF := Lib.hid (And.intro (hS.base HB.out) hg)
    clear hS hN hg
    go_wp2_with fail
    go_ret
    refine ⟨_, _, rfl, HF.out.1, HF.out.2.2.1, (by have h1 := HF.out.2.2.2.2; have h2 := HL.out; omega), HF.out.2.1, fun x => ?_⟩
    rw [HF.out.2.2.2.1 x]
    have : (decide (lo ≤ x) && decide (x ≤ hi)) = false := by
      rw [Bool.eq_false_iff]
      simp only [ne_eq, Bool.and_eq_true, decide_eq_true_eq]
      omega
    rw [this]
    simp
  · refine (sub_range a zs.length cap lo hi zs hn hlu w (Lib.hid fun W hb => each_any a cap zs hz (by omega) W (hR.keep hb)) hle).mono fun e w' h => ?_
    obtain ⟨v, ns, h1, h2, h3⟩ := h
    have hg := sub_good (of_decide_eq_true hle) h3
    have ho := sub_okl hlu hhu hn h3
    exact ⟨v, ns, h1, h2, ho.1, by
      obtain ⟨ms, hm, rfl⟩ := h3
      have h4 := subL_len lo hi ms
      have h5 := hm.len
      omega, hg.1, hg.2⟩
theorem SR.rdc {w W : World} {zs : List Rg} {v : Value} (h : SR w zs v W) : ∃ a cap, v = .slice a zs.length cap ∧ RD W a zs ∧ (a = none → cap = 0) := by
  obtain ⟨a, cap, rfl, hr⟩ := h.rd
  refine ⟨a, cap, rfl, hr, fun e => ?_⟩
  subst e
  rcases h.bk with ⟨hv, _⟩ | ⟨g, c, hv, _⟩
  · exact (Value.slice.inj hv).2.2
  · exact absurd (Value.slice.inj hv).1 (by simp)
/-- A row that may be, told by a call, or handed in: what is said of it. -/
def RW (W : World) (a : Option Addr) (k cap : Nat) (ns : List Rg) : Prop := ns.length = k ∧ RD W a ns ∧ k ≤ 1000 ∧ OkL ns ∧ (a = none → cap = 0)
theorem RW.keep {W W' : World} {a : Option Addr} {k cap : Nat} {ns : List Rg} (h : RW W a k cap ns) (hb : Below W.heap.size W W') : RW W' a k cap ns := ⟨h.1, h.2.1.keep hb, h.2.2⟩
theorem RW.drew {W : World} {a : Option Addr} {k cap : Nat} {ns : List Rg} (h : RW W a k cap ns) : RW W.drew a k cap ns := h
def TellsRow (W : World) (P : List Rg → Prop) (m : Nat) (e : Ending) (W' : World) : Prop := ∃ a k cap ns, e = .returned (.slice a k cap) ∧ RW W' a k cap ns ∧ k ≤ m ∧ rightL ns = true ∧ P ns ∧ Below W.heap.size W W'
theorem q11 (W : World) (a : Option Addr) (k cap : Nat) (zs : List Rg) (h : RW W a k cap zs) : Calls Try.prog 11 #[.slice a k cap] W (TellsRow W (fun ns => ∀ x, hasL ns x = hasL zs x) k) := by
  obtain ⟨hl, hr, hk, ho, _⟩ := h
  have := norm_any a cap zs ho (by omega) W hr
  rw [hl] at this
  refine this.mono fun e w' ⟨v, ns, h1, h2, h3⟩ => ?_
  have hg := norm_good ho h3
  obtain ⟨a', cap', rfl, h4, h5⟩ := h2.rdc
  exact ⟨a', ns.length, cap', ns, h1, ⟨rfl, h4, by omega, hg.2.1, h5⟩, by omega, hg.1, hg.2.2.1, h2.2⟩
theorem q15 (W : World) (a : Option Addr) (k cap : Nat) (zs : List Rg) (lo hi : Nat) (hlu : U lo) (hhu : U hi) (hk2 : k ≤ 500) (h : RW W a k cap zs) : Calls Try.prog 15 #[.slice a k cap, .agg #[.int .u64 (lo : Nat), .int .u64 (hi : Nat)]] W (TellsRow W (fun ns => ∀ x, hasL ns x = (hasL zs x && !(decide (lo ≤ x) && decide (x ≤ hi)))) (2 * k)) := by
  obtain ⟨hl, hr, hk, ho, _⟩ := h
  have := sub_fit a cap zs ho (by omega) lo hi hlu hhu W hr
  rw [hl] at this
  refine this.mono fun e w' ⟨v, ns, h1, h2, h3, h4, h5, h6⟩ => ?_
  obtain ⟨a', cap', rfl, h7, h8⟩ := h2.rdc
  exact ⟨a', ns.length, cap', ns, h1, ⟨rfl, h7, by omega, h3, h8⟩, h4, h5, h6, h2.2⟩
theorem q13 (f : Nat) (hf : f = 13 ∨ f = 17) (W : World) (a : Option Addr) (k cap : Nat) (zs : List Rg) (a2 : Option Addr) (k2 cap2 : Nat) (z2 : List Rg) (h : RW W a k cap zs) (h2 : RW W a2 k2 cap2 z2) (hs : k + k2 ≤ 1000) : Calls Try.prog f #[.slice a k cap, .slice a2 k2 cap2] W (TellsRow W (fun ns => ∀ x, hasL ns x = (hasL zs x || hasL z2 x)) (k + k2)) := by
  obtain ⟨hl, hr, hk, ho, hc⟩ := h
  obtain ⟨hl2, hr2, hk2, ho2, hc2⟩ := h2
  have : Calls Try.prog f #[.slice a k cap, .slice a2 k2 cap2] W fun e w' => ∃ v ns, e = .returned v ∧ SR W ns v w' ∧ NormOf (zs ++ z2) ns := by
    rcases hf with rfl | rfl
    · have := add_any a cap zs ho (by omega) hc a2 cap2 z2 ho2 (by omega) hc2 W hr hr2
      rwa [hl, hl2] at this
    · have := join_any a cap zs ho (by omega) hc a2 cap2 z2 ho2 (by omega) hc2 W hr hr2
      rwa [hl, hl2] at this
  refine this.mono fun e w' ⟨v, ns, h1, h3, h4⟩ => ?_
  have hg := norm_good (ho.app ho2) h4
  have hle := hg.2.2.2
  rw [List.length_append] at hle
  obtain ⟨a', cap', rfl, h7, h8⟩ := h3.rdc
  exact ⟨a', ns.length, cap', ns, h1, ⟨rfl, h7, by omega, hg.2.1, h8⟩, by omega, hg.1, fun x => by rw [hg.2.2.1, hasL_app], h3.2⟩
theorem q10 (W : World) (a : Option Addr) (k cap : Nat) (xs : List Rg) (a2 : Option Addr) (k2 cap2 : Nat) (ys : List Rg) (t : Bool) (ht : decide (xs = ys) = t) (h : RW W a k cap xs) (h2 : RW W a2 k2 cap2 ys) : Calls Try.prog 10 #[.slice a k cap, .slice a2 k2 cap2] W fun e w' => e = .returned (.bool t) ∧ Below W.heap.size W w' := by
  have := same_any a cap xs h.2.2.2.1 (by have := h.1; have := h.2.2.1; omega) a2 cap2 ys h2.2.2.2.1 W h.2.1 h2.2.1
  rwa [h.1, h2.1, ht] at this
theorem q8 (W : World) (a : Option Addr) (k cap : Nat) (xs : List Rg) (t : Bool) (ht : rightL xs = t) (h : RW W a k cap xs) : Calls Try.prog 8 #[.slice a k cap] W fun e w' => e = .returned (.bool t) ∧ Below W.heap.size W w' := by
  have := rightl_any a cap xs (by have := h.1; have := h.2.2.1; omega) h.2.2.2.1 W h.2.1
  rwa [h.1, ht] at this
theorem q19 (W : World) (a : Option Addr) (k cap : Nat) (ns : List Rg) (lo hi : Nat) (t : Bool) (ht : meetsL ns lo hi = t) (h : RW W a k cap ns) : Calls Try.prog 19 #[.slice a k cap, .agg #[.int .u64 (lo : Nat), .int .u64 (hi : Nat)]] W fun e w' => e = .returned (.bool t) ∧ Below W.heap.size W w' := by
  have := meets_any a cap ns (by have := h.1; have := h.2.2.1; omega) lo hi W h.2.1
  rwa [h.1, ht] at this
theorem q21 (W : World) (a : Option Addr) (k cap : Nat) (xs : List Rg) (a2 : Option Addr) (k2 cap2 : Nat) (ys : List Rg) (t : Bool) (ht : subB xs ys t) (h : RW W a k cap xs) (h2 : RW W a2 k2 cap2 ys) : Calls Try.prog 21 #[.slice a k cap, .slice a2 k2 cap2] W fun e w' => e = .returned (.bool t) ∧ Below W.heap.size W w' := by
  have := in_any a cap xs h.2.2.2.1 (by have := h.1; have := h.2.2.1; omega) a2 cap2 ys h2.2.2.2.1 (by have := h2.1; have := h2.2.2.1; omega) W h.2.1 h2.2.1
  rw [h.1, h2.1] at this
  refine this.mono fun e w' ⟨t', h3, h4, h5⟩ => ⟨?_, h5⟩
  have : t' = t := by
    rw [Bool.eq_iff_iff]
    exact h4.trans ht.symm
  rw [h3, this]
theorem meets_iff {zs : List Rg} {lo hi : Nat} : meetsL zs lo hi = true ↔ ∃ x, hasL zs x = true ∧ lo ≤ x ∧ x ≤ hi := by
  unfold meetsL hasL
  rw [Bool.and_eq_true, List.any_eq_true]
  constructor
  · rintro ⟨h1, r, hr, h2⟩
    simp only [meetP, Bool.and_eq_true, decide_eq_true_eq] at h1 h2
    by_cases h : lo ≤ r.1
    · exact ⟨r.1, List.any_eq_true.2 ⟨r, hr, by simp only [inR, Bool.and_eq_true, decide_eq_true_eq]; omega⟩, h, by omega⟩
    · exact ⟨lo, List.any_eq_true.2 ⟨r, hr, by simp only [inR, Bool.and_eq_true, decide_eq_true_eq]; omega⟩, Nat.le_refl _, h1⟩
  · rintro ⟨x, hx, h1, h2⟩
    obtain ⟨r, hr, h3⟩ := List.any_eq_true.1 hx
    simp only [inR, Bool.and_eq_true, decide_eq_true_eq] at h3
    exact ⟨decide_eq_true (by omega), r, hr, by simp only [meetP, Bool.and_eq_true, decide_eq_true_eq]; omega⟩
theorem same_of {xs ys : List Rg} (h1 : rightL xs = true) (h2 : rightL ys = true) (h : ∀ a, hasL xs a = hasL ys a) : decide (xs = ys) = true := decide_eq_true (one_row xs ys h1 h2 h)
theorem not_in {lo hi x : Nat} (h : ¬ lo ≤ hi) : (decide (lo ≤ x) && decide (x ≤ hi)) = false := by
  rw [Bool.eq_false_iff]
  simp only [ne_eq, Bool.and_eq_true, decide_eq_true_eq]
  omega
theorem meets_not {zs : List Rg} {lo hi : Nat} (h : ¬ lo ≤ hi) : meetsL zs lo hi = false := by unfold meetsL; rw [decide_eq_false h, Bool.false_and]
/-- What is met is what taking away changes. -/
theorem meets_sub {zs ns ss : List Rg} {lo hi : Nat} (hn : rightL ns = true) (hs : rightL ss = true) (h1 : ∀ x, hasL ns x = hasL zs x) (h2 : ∀ x, hasL ss x = (hasL zs x && !(decide (lo ≤ x) && decide (x ≤ hi)))) : decide (ss = ns) = !meetsL zs lo hi := by
  cases hm : meetsL zs lo hi
  · refine same_of hs hn fun x => ?_
    rw [h1, h2]
    cases hx : hasL zs x
    · rfl
    · have : (decide (lo ≤ x) && decide (x ≤ hi)) = false := by
        rw [Bool.eq_false_iff]
        intro h
        simp only [Bool.and_eq_true, decide_eq_true_eq] at h
        rw [meets_iff.2 ⟨x, hx, h.1, h.2⟩] at hm
        cases hm
      rw [this]
      rfl
  · obtain ⟨x, hx, h3, h4⟩ := meets_iff.1 hm
    refine decide_eq_false fun e => ?_
    have e1 := h2 x
    rw [e, h1, hx, decide_eq_true h3, decide_eq_true h4] at e1
    cases e1
theorem meets_gone {zs ss : List Rg} {lo hi : Nat} (h2 : ∀ x, hasL ss x = (hasL zs x && !(decide (lo ≤ x) && decide (x ≤ hi)))) : meetsL ss lo hi = false := by
  rw [Bool.eq_false_iff]
  intro hm
  obtain ⟨x, hx, h3, h4⟩ := meets_iff.1 hm
  rw [h2, decide_eq_true h3, decide_eq_true h4] at hx
  simp at hx
theorem sub_in {zs ss : List Rg} {lo hi : Nat} (h2 : ∀ x, hasL ss x = (hasL zs x && !(decide (lo ≤ x) && decide (x ≤ hi)))) : subB ss zs true := ⟨fun _ a h => by
  rw [h2, Bool.and_eq_true] at h
  exact h.1, fun _ => rfl⟩
theorem rw1 {W : World} {b lo hi : Nat} (h : RB W b lo hi) (hl : U lo) (hh : U hi) : RW W (some ⟨b, 0, none⟩) 1 1 [(lo, hi)] := ⟨rfl, rd1 h, by decide, ok1 hl hh, fun e => by cases e⟩
end Go.Proofs.Ytaaflkjdcablcaa
