/- Sub, whole, with what its row keeps. -/
import Derived.Test.YtaaflkjdcablcaaS
namespace Go.Proofs.Ytaaflkjdcablcaa
open Go.RowKit Go.Shelf
set_option linter.unusedVariables false
set_option linter.unusedSimpArgs false
attribute [local go_sem] Oper.semAt_some
theorem sub_okl {lo hi : Nat} (hlo : U lo) (hhi : U hi) {zs ns : List Rg} (hn : zs.length ≤ 100000) (h : SubOf lo hi zs ns) : OkL ns ∧ ns.length ≤ 200000 := by
  obtain ⟨ms, hs, rfl⟩ := h
  refine ⟨fun y hy => ?_, ?_⟩
  · unfold subL at hy
    obtain ⟨x, hx, hy⟩ := List.mem_flatMap.1 hy
    have hor := hs.ok x hx
    have hxr : x.1 ≤ x.2 := by
      obtain ⟨k, hk, rfl⟩ := mem_at hx
      exact right_each hs.right hk
    exact (pieces_right hlo hhi hxr hor.2 y hy).2.2.2
  · have h1 := subL_len lo hi ms
    have h2 := hs.len
    omega
set_option maxRecDepth 100000 in
set_option maxHeartbeats 4000000 in
/-- Sub's answer, with what its row keeps. -/
theorem sub_all (a : Option Addr) (cap : Nat) (zs : List Rg) (hz : OkL zs) (hn : zs.length ≤ 100000) (lo hi : Nat) (hlu : U lo) (hhu : U hi) (w : World) (hR : RD w a zs) :
    Calls Try.prog 15 #[.slice a zs.length cap, .agg #[.int .u64 (lo : Nat), .int .u64 (hi : Nat)]] w fun e w' => ∃ v ns, e = .returned v ∧ SR w ns v w' ∧ OkL ns ∧ ns.length ≤ 200000 ∧ rightL ns = true ∧ ∀ x, hasL ns x = (hasL zs x && !(decide (lo ≤ x) && decide (x ≤ hi))) := by
  cases hle : decide (lo ≤ hi)
  · have HN := Lib.hid (fun W (hb : Below w.heap.size w W) => norm_any a cap zs hz (by omega) W (hR.keep hb))
    have HZ := Lib.hid hz
    have HK := Lib.hid hn
    have hno : ¬ lo ≤ hi := of_decide_eq_false hle
    have HRT := Lib.hid (fun w => right_any lo hi w)
    have H1 := Lib.hid (RB.new w lo hi)
    have H2 := Lib.hid ((Below.refl w.heap.size w).alloc (Nat.le_refl _) (.cells #[.int .u64 (lo : Nat), .int .u64 (hi : Nat)] 25))
    rw [hle] at HRT
    clear hR hz hn hle
    generalize zs.length = n at HN ⊢
    go_enter Try.func15, Try.ntmps15
    go_upto_region 1 with fail
    generalize World.alloc w _ = W1 at H1 H2 ⊢
    obtain ⟨d0, d1⟩ := H1.out.c
    go_wp2_with (first | (go_at_call 27; refine (HRT.out _).mono ?_) | fail)
    first | (rintro e W3 rfl hb) | (rintro e W3 ⟨rfl, hb⟩)
    have HB := Lib.hid (H2.out.trans (hb.mono H2.out.size))
    clear hb d0 d1 H1 H2
    go_wp2_with (first | (go_at_call 11; refine (HN.out _ HB.out).mono ?_) | fail)
    rintro e W4 ⟨v, ns, rfl, hS, hN⟩
    have hg := norm_good HZ.out hN
    have HF := Lib.hid (And.intro (hS.base HB.out) hg)
    clear hS hN hg
    go_wp2_with fail
    go_ret
    refine ⟨_, _, rfl, HF.out.1, HF.out.2.2.1, Nat.le_trans HF.out.2.2.2.2 (Nat.le_trans HK.out (by decide)), HF.out.2.1, fun x => ?_⟩
    rw [HF.out.2.2.2.1 x]
    have : (decide (lo ≤ x) && decide (x ≤ hi)) = false := by
      rw [Bool.eq_false_iff]
      simp only [ne_eq, Bool.and_eq_true, decide_eq_true_eq]
      omega
    rw [this]
    simp
  · refine (sub_range a zs.length cap lo hi zs hn hlu w (Lib.hid fun W hb => each_any a cap zs hz (by omega) W (hR.keep hb)) hle).mono fun e w' h => ?_
    obtain ⟨v, ns, h1, h2, h3⟩ := h
    have hg := sub_good (of_decide_eq_true hle) h3
    have ho := sub_okl hlu hhu hn h3
    exact ⟨v, ns, h1, h2, ho.1, ho.2, hg.1, hg.2⟩
end Go.Proofs.Ytaaflkjdcablcaa
