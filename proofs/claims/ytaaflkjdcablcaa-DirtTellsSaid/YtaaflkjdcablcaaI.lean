/- dirt.Norm. -/
import Derived.Test.YtaaflkjdcablcaaG
import Derived.Test.YtaaflkjdcablcaaH
namespace Go.Proofs.Ytaaflkjdcablcaa
open Go.RowKit Go.Shelf
set_option linter.unusedVariables false
set_option linter.unusedSimpArgs false
attribute [local go_sem] Oper.semAt_some
theorem SR.base {w w1 W : World} {zs : List Rg} {v : Value} (h : SR w1 zs v W) (hb : Below w.heap.size w w1) : SR w zs v W := by
  refine ⟨⟨h.1.1, ?_⟩, hb.trans (h.2.mono hb.size)⟩
  rcases h.1.2 with ⟨hv, hn⟩ | ⟨g, cap, cur, hv, hg, h2⟩
  · exact .inl ⟨hv, hn⟩
  · exact .inr ⟨g, cap, cur, hv, Nat.le_trans hb.size hg, h2⟩
theorem JW.sr {w W : World} {g cap k : Nat} {js zs : List Rg} (h : JW w g cap k js zs W) (hg : w.heap.size ≤ g) (hm : js.length ≤ cap) (hc : cap ≤ maxLen) : SR w js (.slice (some ⟨g, 0, none⟩) js.length cap) W := by
  obtain ⟨⟨cur, h1, h2⟩, h3, _, h5⟩ := h
  have hc2 : ∀ p, W.cell? ⟨g, p, none⟩ = cur[p]? := fun p => by
    unfold World.cell?
    rw [h1]
    rfl
  refine ⟨⟨cellsR_len js, .inr ⟨g, cap, cur, rfl, hg, h1, hm, hc, h2, ?_⟩⟩, h5⟩
  apply List.ext_getElem?
  intro p
  by_cases hp : p < js.length * 2
  · rw [List.getElem?_take, if_pos hp]
    obtain ⟨d0, d1⟩ := h3 (p / 2) (by omega)
    rw [hc2] at d0 d1
    have hq := fun j hj => cellsR_at js (p / 2) j (by omega) hj
    rcases (by omega : p % 2 = 0 ∨ p % 2 = 1) with e | e
    · have et : p = p / 2 * 2 + 0 := by omega
      have h0 := hq 0 (by omega)
      rw [← et] at h0
      rw [h0, show cur.toList[p]? = cur[p]? by simp, show cur[p]? = cur[p / 2 * 2]? by congr 1, d0]
      rfl
    · have et : p = p / 2 * 2 + 1 := by omega
      have h0 := hq 1 (by omega)
      rw [← et] at h0 d1
      rw [h0, show cur.toList[p]? = cur[p]? by simp, d1]
      rfl
  · rw [List.getElem?_take, if_neg hp, List.getElem?_eq_none (by rw [cellsR_len]; omega)]
set_option maxRecDepth 100000 in
set_option maxHeartbeats 2000000 in
theorem joined_nil (fv : Value) (w : World) : Calls Try.prog 35 #[.slice none 0 0, fv] w fun e w' => e = .returned (.slice none 0 0) ∧ w' = w := by
  go_enter Try.func35, Try.ntmps35
  go_wp2_with fail
  go_loopw [5, 14] (fun v i W => v = .slice none 0 0 ∧ i = .int .i64 0 ∧ W = w) (fun _ _ _ => 0)
  case atStart => exact ⟨rfl, rfl, rfl⟩
  case round =>
    obtain ⟨rfl, rfl, rfl⟩ := hrel
    go_wp2_with fail
    go_ret
    exact ⟨rfl, rfl⟩
def sortedL (zs : List Rg) : Prop := ∀ i j, i < j → j < zs.length → ¬ (zl zs j < zl zs i)
def NormOf (zs ns : List Rg) : Prop := (rightL zs = true ∧ ns = zs.filter rightR) ∨ (rightL zs = false ∧ ∃ zs', zs'.Perm (zs.filter rightR) ∧ sortedL zs' ∧ ns = joinK zs' zs'.length)
set_option maxRecDepth 100000 in
set_option maxHeartbeats 4000000 in
theorem norm_any (a : Option Addr) (cap : Nat) (zs : List Rg) (hz : OkL zs) (hn : zs.length ≤ 1000000) (w : World) (hR : RD w a zs) :
    Calls Try.prog 11 #[.slice a zs.length cap] w fun e w' => ∃ v ns, e = .returned v ∧ SR w ns v w' ∧ NormOf zs ns := by
  have h8 := rightl_any a cap zs (by omega) hz w hR
  have H31 := Lib.hid (fun W (hb : Below w.heap.size w W) => rights_any a cap zs hn W (hR.keep hb))
  have hOkf : OkL (zs.filter rightR) := fun r hr => hz r (List.mem_filter.1 hr).1
  have hLf : (zs.filter rightR).length ≤ 1000000 := Nat.le_trans (List.length_filter_le _ _) hn
  have HO := Lib.hid (And.intro hOkf hLf)
  clear hR hz hn hOkf hLf
  generalize zs.length = n at h8 H31 ⊢
  cases hr : rightL zs
  · rw [hr] at h8
    have H8 := Lib.hid h8
    have HRr := Lib.hid hr
    clear h8 hr
    go_enter Try.func11, Try.ntmps11
    go_wp2_with (first | (go_at_call 8; refine H8.out.mono ?_) | fail)
    rintro e W1 ⟨rfl, hb1⟩
    have HB1 := Lib.hid hb1
    clear hb1
    go_wp2_with (first | (go_at_call 31; refine (H31.out _ HB1.out).mono ?_) | fail)
    rintro e W2 ⟨v, rfl, hS⟩
    have HS := Lib.hid (hS.base HB1.out)
    clear hS
    rcases HS.out.bk with ⟨rfl, hnil⟩ | ⟨g, cp, rfl, hg, hcm, hbk⟩
    · have HNIL := Lib.hid hnil
      clear hnil
      go_wp2_with (first | (go_at_call 32; refine (sort_none _ _ _ _).mono ?_) | fail)
      rintro e W3 ⟨rfl, rfl⟩
      go_wp2_with (first | (go_at_call 35; refine (joined_nil _ _).mono ?_) | fail)
      rintro e W4 ⟨rfl, rfl⟩
      go_wp2_with fail
      go_ret
      refine ⟨_, _, rfl, HS.out, .inr ⟨HRr.out, [], ?_, fun i j _ h => absurd h (by simp), ?_⟩⟩
      · rw [HNIL.out]
      · rw [HNIL.out]; rfl
    · have HK := Lib.hid (And.intro hbk HS.out.2)
      clear hbk
      have hlz : (zs.filter rightR).length ≤ cp := by obtain ⟨cur, _, _, h, _⟩ := HK.out.1; exact h
      have H32 := Lib.hid (sorted_any w g cp (zs.filter rightR) W2 HK.out.1 hg HK.out.2 HO.out.2)
      obtain ⟨fl, hfl⟩ : ∃ fl, (zs.filter rightR).length = fl := ⟨_, rfl⟩
      rw [hfl] at H32 hlz ⊢
      have HFL := Lib.hid hfl
      clear hfl HS
      go_wp2_with (first | (go_at_call 32; refine H32.out.mono ?_) | fail)
      rintro e W3 ⟨rfl, zs', hp, hs, hJ⟩
      have hl' : zs'.length = fl := by rw [hp.length_eq, HFL.out]
      have HP := Lib.hid (And.intro hp hs)
      have hok' : OkL zs' := fun r hr => HO.out.1 r (hp.mem_iff.1 hr)
      have H35 := Lib.hid (joined_any w g cp zs' hok' (by rw [hl']; exact hlz) (by have := HO.out.2; have := HFL.out; omega) W3 hJ hg)
      clear hp hs hJ hok' H32
      rw [hl'] at H35
      go_wp2_with (first | (go_at_call 35; refine H35.out.mono ?_) | fail)
      rintro e W4 ⟨rfl, hJ⟩
      have HJ := Lib.hid hJ
      clear hJ H35
      have hjl := joinK_len zs' fl (by omega)
      have HE := Lib.hid (HJ.out.sr hg (by omega) hcm)
      clear HJ
      go_wp2_with fail
      go_ret
      exact ⟨_, _, rfl, HE.out, .inr ⟨HRr.out, zs', HP.out.1, HP.out.2, by rw [hl']⟩⟩
  · rw [hr] at h8
    have H8 := Lib.hid h8
    have HRr := Lib.hid hr
    clear h8 hr
    go_enter Try.func11, Try.ntmps11
    go_wp2_with (first | (go_at_call 8; refine H8.out.mono ?_) | fail)
    rintro e W1 ⟨rfl, hb1⟩
    have HB1 := Lib.hid hb1
    clear hb1
    go_wp2_with (first | (go_at_call 31; refine (H31.out _ HB1.out).mono ?_) | fail)
    rintro e W2 ⟨v, rfl, hS⟩
    have HS := Lib.hid (hS.base HB1.out)
    clear hS
    go_wp2_with fail
    go_ret
    exact ⟨_, _, rfl, HS.out, .inl ⟨HRr.out, rfl⟩⟩
end Go.Proofs.Ytaaflkjdcablcaa
