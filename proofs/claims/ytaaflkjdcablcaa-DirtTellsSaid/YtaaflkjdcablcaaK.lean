/- Add, Join. -/
import Derived.Test.YtaaflkjdcablcaaJ
namespace Go.Proofs.Ytaaflkjdcablcaa
open Go.RowKit Go.Shelf
set_option linter.unusedVariables false
set_option linter.unusedSimpArgs false
attribute [local go_sem] Oper.semAt_some
theorem SR.norm {w W : World} {zs : List Rg} {v : Value} (h : SR w zs v W) (hz : OkL zs) (hn : zs.length ≤ 1000000) : Calls Try.prog 11 #[v] W fun e w' => ∃ v ns, e = .returned v ∧ SR w ns v w' ∧ NormOf zs ns := by
  obtain ⟨a, cap, rfl, hr⟩ := h.rd
  exact (norm_any a cap zs hz hn W hr).mono fun e w' ⟨v, ns, h1, h2, h3⟩ => ⟨v, ns, h1, h2.base h.2, h3⟩
theorem OkL.app {p q : List Rg} (hp : OkL p) (hq : OkL q) : OkL (p ++ q) := fun r hr => by
  rcases List.mem_append.1 hr with h | h
  · exact hp r h
  · exact hq r h
set_option maxRecDepth 100000 in
set_option maxHeartbeats 4000000 in
theorem add_any (a : Option Addr) (cap : Nat) (zs : List Rg) (hz : OkL zs) (hn : zs.length ≤ 1000) (hcap : a = none → cap = 0) (a2 : Option Addr) (cap2 : Nat) (z2 : List Rg) (hz2 : OkL z2) (hn2 : z2.length ≤ 1000) (hcap2 : a2 = none → cap2 = 0) (w : World) (hR : RD w a zs) (hR2 : RD w a2 z2) :
    Calls Try.prog 13 #[.slice a zs.length cap, .slice a2 z2.length cap2] w fun e w' => ∃ v ns, e = .returned v ∧ SR w ns v w' ∧ NormOf (zs ++ z2) ns := by
  obtain ⟨i0, hi, hz0, hz1, hz3⟩ := info_parts infoE25
  have HI0 := Lib.hid (And.intro hi (And.intro hz0 (And.intro hz1 hz3)))
  clear hi hz0 hz1 hz3
  have HC := Lib.hid (clone_any a cap zs (by omega) hcap w hR)
  have HZ := Lib.hid (OkL.app hz hz2)
  clear hR hz hz2 hcap
  obtain ⟨n, hl⟩ : ∃ n, zs.length = n := ⟨_, rfl⟩
  have HL := Lib.hid hl
  rw [hl] at hn HC ⊢
  clear hl
  cases a2 with
  | none =>
    obtain rfl := hR2.none
    obtain rfl := hcap2 rfl
    clear hR2 hcap2 hn2
    go_enter Try.func13, Try.ntmps13
    go_wp2_with (first | (go_at_call 38; refine HC.out.mono ?_) | fail)
    rintro e W1 ⟨v1, rfl, hS⟩
    have HS := Lib.hid hS
    clear hS HC
    rcases HS.out.bk with ⟨rfl, hnil⟩ | ⟨g, cp, rfl, hg, hcm, hbk⟩
    · go_wp2_with (first | (go_at_call 11; refine (HS.out.norm (by have := HZ.out; rwa [List.append_nil] at this) (by rw [HL.out]; omega)).mono ?_) | fail)
      rintro e W2 ⟨v, ns, rfl, h1, h2⟩
      have HF := Lib.hid (And.intro h1 h2)
      clear h1 h2
      go_wp2_with fail
      go_ret
      exact ⟨_, _, rfl, HF.out.1, by rw [List.append_nil]; exact HF.out.2⟩
    · have HNO := Lib.hid (HS.out.norm (by have := HZ.out; rwa [List.append_nil] at this) (by rw [HL.out]; omega))
      have hle : zs.length ≤ cp := by obtain ⟨cur, _, _, h, _⟩ := hbk; exact h
      rw [HL.out] at hle
      rw [HL.out] at HNO ⊢
      clear hbk HS
      go_wp2_with (first | (go_at_call 11; refine HNO.out.mono ?_) | fail)
      rintro e W2 ⟨v, ns, rfl, h1, h2⟩
      have HF := Lib.hid (And.intro h1 h2)
      clear h1 h2
      go_wp2_with fail
      go_ret
      exact ⟨_, _, rfl, HF.out.1, by rw [List.append_nil]; exact HF.out.2⟩
  | some p =>
    have HR := Lib.hid (fun W (hb : Below w.heap.size w W) => (hR2.keep hb).news)
    obtain ⟨n2, hl⟩ : ∃ n, z2.length = n := ⟨_, rfl⟩
    have HL2 := Lib.hid hl
    rw [hl] at hn2 ⊢
    clear hl hR2 hcap2
    go_enter Try.func13, Try.ntmps13
    go_wp2_with (first | (go_at_call 38; refine HC.out.mono ?_) | fail)
    rintro e W1 ⟨v1, rfl, hS⟩
    have HS := Lib.hid hS
    clear hS HC
    go_wp2_with (first | (at_builtin; refine wpList_append_own _ rfl _ _ 22 rfl w.heap.size 25 i0 (.agg #[.int .u64 0, .int .u64 0]) 2 16 Try.underlying22 HI0.out.1 HI0.out.2.1 HI0.out.2.2.1 HI0.out.2.2.2 rfl (by decide) v1 zs.length (cellsR zs) rfl HS.out.1 p n2 cap2 (cellsR z2) rfl (by rw [cellsR_len, HL2.out]) (HR.out _ HS.out.2) (ones_R _) (by have := HL.out; unfold maxLen; omega) (by have := HL.out; omega) HS.out.2.size ?_) | fail)
    intro v5 W5 hown hgr _
    have HS5 := Lib.hid (SR.nextL (L := zs) (M := z2) HS.out (by rw [HL2.out]; exact hown) hgr)
    clear hown hgr HS
    go_wp2_with (first | (go_at_call 11; refine (HS5.out.norm HZ.out (by rw [List.length_append, HL.out, HL2.out]; omega)).mono ?_) | fail)
    rintro e W2 ⟨v, ns, rfl, h1, h2⟩
    have HF := Lib.hid (And.intro h1 h2)
    clear h1 h2
    go_wp2_with fail
    go_ret
    exact ⟨_, _, rfl, HF.out.1, HF.out.2⟩
theorem join_any (a : Option Addr) (cap : Nat) (zs : List Rg) (hz : OkL zs) (hn : zs.length ≤ 1000) (hcap : a = none → cap = 0) (a2 : Option Addr) (cap2 : Nat) (z2 : List Rg) (hz2 : OkL z2) (hn2 : z2.length ≤ 1000) (hcap2 : a2 = none → cap2 = 0) (w : World) (hR : RD w a zs) (hR2 : RD w a2 z2) :
    Calls Try.prog 17 #[.slice a zs.length cap, .slice a2 z2.length cap2] w fun e w' => ∃ v ns, e = .returned v ∧ SR w ns v w' ∧ NormOf (zs ++ z2) ns := by
  have HA := Lib.hid (add_any a cap zs hz hn hcap a2 cap2 z2 hz2 hn2 hcap2 w hR hR2)
  clear hz hn hcap hz2 hn2 hcap2 hR hR2
  generalize zs.length = n at *
  generalize z2.length = n2 at *
  go_enter Try.func17, Try.ntmps17
  go_wp2_with (first | (go_at_call 13; refine HA.out.mono ?_) | fail)
  rintro e W2 ⟨v, ns, rfl, h1, h2⟩
  have HF := Lib.hid (And.intro h1 h2)
  clear h1 h2
  go_wp2_with fail
  go_ret
  exact ⟨_, _, rfl, HF.out.1, HF.out.2⟩
end Go.Proofs.Ytaaflkjdcablcaa
