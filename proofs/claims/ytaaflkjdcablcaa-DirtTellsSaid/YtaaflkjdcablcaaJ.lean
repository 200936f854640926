/- had, Same, Clone. -/
import Derived.Test.YtaaflkjdcablcaaM
namespace Go.Proofs.Ytaaflkjdcablcaa
open Go.RowKit Go.Shelf
set_option linter.unusedVariables false
set_option linter.unusedSimpArgs false
attribute [local go_sem] Oper.semAt_some
theorem any_take_succ (zs : List Rg) (h : Rg → Bool) (k : Nat) (hk : k < zs.length) : (zs.take (k + 1)).any h = ((zs.take k).any h || h (rAt zs k)) := by
  rw [take_succ' zs k hk, List.any_append]
  simp
theorem any_at {zs : List Rg} {h : Rg → Bool} {k : Nat} (hk : k < zs.length) (hh : h (rAt zs k) = true) : zs.any h = true := List.any_eq_true.2 ⟨_, at_mem hk, hh⟩
set_option maxRecDepth 100000 in
set_option maxHeartbeats 4000000 in
theorem had_any (a : Option Addr) (cap : Nat) (zs : List Rg) (hn : zs.length ≤ 1000000) (x : Nat) (w : World) (hR : RD w a zs) :
    Calls Try.prog 26 #[.slice a zs.length cap, .int .u64 (x : Nat)] w fun e w' => e = .returned (.bool (hasL zs x)) ∧ w' = w := by
  have HR := Lib.hid hR
  clear hR
  obtain ⟨n, hl⟩ : ∃ n, zs.length = n := ⟨_, rfl⟩
  have HL := Lib.hid hl
  rw [hl] at hn ⊢
  clear hl
  go_enter Try.func26, Try.ntmps26
  go_wp2_with fail
  go_loopw [5] (fun i W => ∃ k : Nat, k ≤ n ∧ i = .int .i64 k ∧ Hid ((zs.take k).any (inR x) = false) ∧ W = w) (fun i _ => n - (intOf i).toNat)
  case atStart => exact ⟨0, by omega, rfl, Lib.hid rfl, rfl⟩
  case round =>
    obtain ⟨k, hk, rfl, HA, rfl⟩ := hrel
    by_cases hlt : k < n
    · have hlt' : k < zs.length := by rw [HL.out]; exact hlt
      obtain ⟨b, off, ha, c0, c1⟩ := HR.out k hlt'
      subst ha
      have HS := Lib.hid (any_take_succ zs (inR x) k hlt')
      have hin : inR x (rAt zs k) = (decide (zl zs k ≤ x) && decide (x ≤ zh zs k)) := rfl
      have HIN := Lib.hid hin
      have HAT := Lib.hid (any_at (zs := zs) (h := inR x) hlt')
      clear hin
      generalize zl zs k = lo at *
      generalize zh zs k = hi at *
      by_cases h1 : lo ≤ x
      · by_cases h2 : x ≤ hi
        · go_wp2_with fail
          go_ret
          have hh : hasL zs x = true := HAT.out (by rw [HIN.out]; simp [h1, h2])
          exact ⟨by rw [hh]; rfl, rfl⟩
        · go_wp2_with fail
          go_roundw
          case rel => exact ⟨k + 1, by omega, by go_num, Lib.hid (by rw [HS.out, HA.out, HIN.out]; simp [h2]), by first | rfl | trivial⟩
          case measure => simp [intOf]; omega
      · go_wp2_with fail
        go_roundw
        case rel => exact ⟨k + 1, by omega, by go_num, Lib.hid (by rw [HS.out, HA.out, HIN.out]; simp [h1]), by first | rfl | trivial⟩
        case measure => simp [intOf]; omega
    · obtain rfl : k = n := by omega
      have hh : hasL zs x = false := by
        unfold hasL
        have := HA.out
        rwa [← HL.out, List.take_length] at this
      have HH := Lib.hid hh
      clear hh HA
      go_wp2_with fail
      go_ret
      exact ⟨by rw [HH.out]; rfl, rfl⟩
/-- A row of ranges of one's own can be read. -/
theorem SR.rd {w W : World} {zs : List Rg} {v : Value} (h : SR w zs v W) : ∃ a cap, v = .slice a zs.length cap ∧ RD W a zs := by
  rcases h.bk with ⟨rfl, rfl⟩ | ⟨g, cap, rfl, _, _, hb⟩
  · exact ⟨none, 0, rfl, fun k hk => absurd hk (by simp)⟩
  · refine ⟨some ⟨g, 0, none⟩, cap, rfl, fun k hk => ⟨g, 0, rfl, ?_⟩⟩
    have := hb.c k hk
    rw [Nat.zero_add]
    exact this
theorem cellsR_get {zs : List Rg} {j : Nat} {u : Value} (h : (cellsR zs)[j]? = some u) : j / 2 < zs.length ∧ ((j % 2 = 0 ∧ u = .int .u64 (zl zs (j / 2) : Nat)) ∨ (j % 2 = 1 ∧ u = .int .u64 (zh zs (j / 2) : Nat))) := by
  have hj : j < zs.length * 2 := by
    have := (List.getElem?_eq_some_iff.1 h).1
    rwa [cellsR_len] at this
  have hi : j / 2 < zs.length := by omega
  refine ⟨hi, ?_⟩
  rcases (by omega : j % 2 = 0 ∨ j % 2 = 1) with e | e
  · have h0 := cellsR_at zs (j / 2) 0 hi (by omega)
    rw [show j / 2 * 2 + 0 = j by omega, h] at h0
    exact .inl ⟨e, Option.some.inj h0⟩
  · have h0 := cellsR_at zs (j / 2) 1 hi (by omega)
    rw [show j / 2 * 2 + 1 = j by omega, h] at h0
    exact .inr ⟨e, Option.some.inj h0⟩
theorem RD.news {W : World} {p : Addr} {zs : List Rg} (h : RD W (some p) zs) (j : Nat) (u : Value) (hu : (cellsR zs)[j]? = some u) : W.cell? (p.add j) = some u := by
  obtain ⟨hi, hc⟩ := cellsR_get hu
  obtain ⟨b, off, ha, c0, c1⟩ := h (j / 2) hi
  simp only [Option.some.injEq] at ha
  subst ha
  rw [Addr.add_mid]
  rcases hc with ⟨e, rfl⟩ | ⟨e, rfl⟩
  · rw [show off + j = off + j / 2 * 2 by omega]
    exact c0
  · rw [show off + j = off + j / 2 * 2 + 1 by omega]
    exact c1
theorem RD.none {W : World} {zs : List Rg} (h : RD W none zs) : zs = [] := by
  cases zs with
  | nil => rfl
  | cons x l =>
    obtain ⟨b, off, ha, _⟩ := h 0 (by simp)
    cases ha
set_option maxRecDepth 100000 in
set_option maxHeartbeats 4000000 in
theorem clone_any (a : Option Addr) (cap : Nat) (zs : List Rg) (hn : zs.length ≤ 1000000) (hcap : a = none → cap = 0) (w : World) (hR : RD w a zs) :
    Calls Try.prog 38 #[.slice a zs.length cap] w fun e w' => ∃ v, e = .returned v ∧ SR w zs v w' := by
  obtain ⟨i0, hi, hz0, hz1, hz2⟩ := info_parts infoE25
  have HI0 := Lib.hid (And.intro hi (And.intro hz0 (And.intro hz1 hz2)))
  clear hi hz0 hz1 hz2
  cases a with
  | none =>
    obtain rfl := hR.none
    obtain rfl := hcap rfl
    have e1 : ∀ w, (binOp .eql 22 (.slice none 0 0) (.slice none 0 0)).run Try.prog w = .ok (.bool true) w := fun w => by kernel_rfl
    go_enter Try.func38, Try.ntmps38
    go_wp2_with fail
    go_ret
    exact ⟨_, rfl, SR.nil w w (Below.refl _ _)⟩
  | some p =>
    have e1 : ∀ (n : Nat) w, (binOp .eql 22 (.slice (some p) n cap) (.slice none 0 0)).run Try.prog w = .ok (.bool false) w := fun n w => by kernel_rfl
    have HR := Lib.hid (fun W (hb : Below w.heap.size w W) => (hR.keep hb).news)
    clear hR hcap
    have HN0 : Hid (SR w [] (.slice (some ⟨w.heap.size, 0, none⟩) 0 0) (w.alloc (.cells #[] 25))) := Lib.hid ⟨⟨rfl, .inr ⟨w.heap.size, 0, #[], rfl, Nat.le_refl _, heap_alloc_last w _, Nat.le_refl _, by unfold maxLen; omega, rfl, rfl⟩⟩, (Below.refl _ _).alloc (Nat.le_refl _) _⟩
    go_enter Try.func38, Try.ntmps38
    go_wp2_with (first | (at_builtin; refine wpList_append_own _ rfl _ _ 22 rfl w.heap.size 25 i0 (.agg #[.int .u64 0, .int .u64 0]) 2 16 Try.underlying22 HI0.out.1 HI0.out.2.1 HI0.out.2.2.1 HI0.out.2.2.2 rfl (by decide) _ 0 [] rfl HN0.out.1 p zs.length cap (cellsR zs) rfl (cellsR_len _) (HR.out _ HN0.out.2) (ones_R _) (by unfold maxLen; omega) (by omega) HN0.out.2.size ?_) | fail)
    intro v5 W5 hown hgr _
    have HS5 : Hid (SR w ([] ++ zs) v5 W5) := Lib.hid (SR.nextL (L := []) (M := zs) HN0.out (by simpa [cellsR] using hown) hgr)
    clear hown hgr
    go_wp2_with fail
    go_ret
    exact ⟨_, rfl, HS5.out⟩
end Go.Proofs.Ytaaflkjdcablcaa
