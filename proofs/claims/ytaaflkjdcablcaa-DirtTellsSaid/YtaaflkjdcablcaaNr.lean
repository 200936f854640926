/- The reference's Norm, Add, Join. -/
import Derived.Test.YtaaflkjdcablcaaOn
namespace Go.Proofs.Ytaaflkjdcablcaa
open Go.RowKit Go.Shelf
set_option linter.unusedVariables false
set_option linter.unusedSimpArgs false
attribute [local go_sem] Oper.semAt_some
/-- What the loops over one keep. -/
def NK (w : World) (P : Nat → Bool) (m : Nat) (zs : List Rg) (k : Nat) (v : Value) (W : World) : Prop := ∃ out, SR w out v W ∧ OkL out ∧ rightL out = true ∧ (∀ x, hasL out x = (P x || hasL (zs.take k) x)) ∧ out.length ≤ m + k
theorem one_next {w W : World} {P : Nat → Bool} {m k : Nat} {zs : List Rg} {v : Value} {lo hi : Nat} (h : NK w P m zs k v W) (hz : OkL zs) (hk : k < zs.length) (hl : m + k ≤ 10000) (e0 : zl zs k = lo) (e1 : zh zs k = hi) :
    Calls Try.prog 37 #[v, .agg #[.int .u64 (lo : Nat), .int .u64 (hi : Nat)]] W fun e W' => ∃ v', e = .returned v' ∧ NK w P m zs (k + 1) v' W' := by
  obtain ⟨out, h1, h2, h3, h4, h5⟩ := h
  obtain ⟨a, cap, rfl, hr, hc⟩ := h1.rdc
  have hu := z_ok hz hk
  rw [e0, e1] at hu
  refine (one_any a cap out h2 h3 (by omega) (lo, hi) hu hc W hr).mono fun e W' ⟨v', ns, g1, g2, g3, g4, g5, g6⟩ => ⟨v', g1, ns, g2.base h1.2, g3, g4, fun x => ?_, by omega⟩
  rw [g5, h4, take_has hk, show rAt zs k = (lo, hi) from by unfold rAt; rw [e0, e1], Bool.or_assoc]
theorem NK.rd {w W : World} {P : Nat → Bool} {m k : Nat} {zs : List Rg} {v : Value} (h : NK w P m zs k v W) : Below w.heap.size w W := by
  obtain ⟨out, h1, _⟩ := h
  exact h1.2
set_option maxRecDepth 100000 in
set_option maxHeartbeats 8000000 in
theorem rnorm_any (a : Option Addr) (cap : Nat) (zs : List Rg) (hz : OkL zs) (hn : zs.length ≤ 1000) (w : World) (hR : RD w a zs) :
    Calls Try.prog 12 #[.slice a zs.length cap] w fun e w' => ∃ v, e = .returned v ∧ NK w (fun _ => false) 0 zs zs.length v w' := by
  have HR := Lib.hid hR
  have HZ := Lib.hid hz
  have HS : Hid (NK w (fun _ => false) 0 zs 0 (.slice none 0 0) w) := Lib.hid ⟨[], SR.nil w w (Below.refl _ _), fun r h => by simp at h, rfl, fun x => by simp [hasL], by simp⟩
  clear hR hz
  obtain ⟨n, hl⟩ : ∃ n, zs.length = n := ⟨_, rfl⟩
  have HL := Lib.hid hl
  rw [hl] at hn ⊢
  clear hl
  go_enter Try.func12, Try.ntmps12
  go_wp2_with fail
  go_loopw [3, 4] (fun v i W => ∃ k : Nat, k ≤ n ∧ i = .int .i64 k ∧ Hid (NK w (fun _ => false) 0 zs k v W)) (fun _ i _ => n - (intOf i).toNat)
  case atStart => exact ⟨0, by omega, rfl, HS⟩
  case round =>
    clear HS
    obtain ⟨k, hk, rfl, HS⟩ := hrel
    by_cases hlt : k < n
    · have hlt' : k < zs.length := by rw [HL.out]; exact hlt
      obtain ⟨b, off, ha, -, -⟩ := HR.out.keep HS.out.rd k hlt'
      subst ha
      obtain ⟨lo, hlo⟩ : ∃ lo, zl zs k = lo := ⟨_, rfl⟩
      obtain ⟨hi, hhi⟩ : ∃ hi, zh zs k = hi := ⟨_, rfl⟩
      obtain ⟨c0, c1⟩ := row_cells (HR.out.keep HS.out.rd) hlt' hlo hhi
      have HC := Lib.hid (one_next HS.out HZ.out hlt' (by omega) hlo hhi)
      clear hlo hhi
      go_wp2_with (first | (go_at_call 37; refine HC.out.mono ?_) | fail)
      rintro e W4 ⟨v4, rfl, hv⟩
      have HV := Lib.hid hv
      clear hv HC HS c0 c1
      go_wp2_with fail
      go_roundw
      case rel => exact ⟨k + 1, by omega, by go_num, HV⟩
      case measure => simp [intOf]; omega
    · obtain rfl : k = n := by omega
      go_wp2_with fail
      go_ret
      exact ⟨_, rfl, HS.out⟩
set_option maxRecDepth 100000 in
set_option maxHeartbeats 8000000 in
theorem radd_any (a : Option Addr) (cap : Nat) (zs : List Rg) (hz : OkL zs) (hn : zs.length ≤ 1000) (a2 : Option Addr) (cap2 : Nat) (z2 : List Rg) (hz2 : OkL z2) (hn2 : z2.length ≤ 1000) (w : World) (hR : RD w a zs) (hR2 : RD w a2 z2) :
    Calls Try.prog 14 #[.slice a zs.length cap, .slice a2 z2.length cap2] w fun e w' => ∃ v, e = .returned v ∧ NK w (hasL zs) zs.length z2 z2.length v w' := by
  have HN := Lib.hid (rnorm_any a cap zs hz hn w hR)
  have HR := Lib.hid hR2
  have HZ := Lib.hid hz2
  clear hR hz hR2 hz2
  obtain ⟨m, hm⟩ : ∃ m, zs.length = m := ⟨_, rfl⟩
  have HM := Lib.hid hm
  obtain ⟨n, hl⟩ : ∃ n, z2.length = n := ⟨_, rfl⟩
  have HL := Lib.hid hl
  rw [hl] at hn2 ⊢
  rw [hm] at hn HN ⊢
  clear hl hm
  go_enter Try.func14, Try.ntmps14
  go_wp2_with (first | (go_at_call 12; refine HN.out.mono ?_) | fail)
  rintro e W1 ⟨v, rfl, hv⟩
  have HS : Hid (NK w (hasL zs) m z2 0 v W1) := Lib.hid (by
    obtain ⟨out, g1, g2, g3, g4, g5⟩ := hv
    refine ⟨out, g1, g2, g3, fun x => ?_, by omega⟩
    rw [g4 x, ← HM.out, List.take_length]
    simp [hasL])
  clear hv HN
  go_wp2_with fail
  go_loopw [5, 6] (fun v i W => ∃ k : Nat, k ≤ n ∧ i = .int .i64 k ∧ Hid (NK w (hasL zs) m z2 k v W)) (fun _ i _ => n - (intOf i).toNat)
  case atStart => exact ⟨0, by omega, rfl, HS⟩
  case round =>
    clear HS
    obtain ⟨k, hk, rfl, HS⟩ := hrel
    by_cases hlt : k < n
    · have hlt' : k < z2.length := by rw [HL.out]; exact hlt
      obtain ⟨b, off, ha, -, -⟩ := HR.out.keep HS.out.rd k hlt'
      subst ha
      obtain ⟨lo, hlo⟩ : ∃ lo, zl z2 k = lo := ⟨_, rfl⟩
      obtain ⟨hi, hhi⟩ : ∃ hi, zh z2 k = hi := ⟨_, rfl⟩
      obtain ⟨c0, c1⟩ := row_cells (HR.out.keep HS.out.rd) hlt' hlo hhi
      have HC := Lib.hid (one_next HS.out HZ.out hlt' (by omega) hlo hhi)
      clear hlo hhi
      go_wp2_with (first | (go_at_call 37; refine HC.out.mono ?_) | fail)
      rintro e W4 ⟨v4, rfl, hv⟩
      have HV := Lib.hid hv
      clear hv HC HS c0 c1
      go_wp2_with fail
      go_roundw
      case rel => exact ⟨k + 1, by omega, by go_num, HV⟩
      case measure => simp [intOf]; omega
    · obtain rfl : k = n := by omega
      go_wp2_with fail
      go_ret
      exact ⟨_, rfl, HS.out⟩
theorem rjoin_any (a : Option Addr) (cap : Nat) (zs : List Rg) (hz : OkL zs) (hn : zs.length ≤ 1000) (a2 : Option Addr) (cap2 : Nat) (z2 : List Rg) (hz2 : OkL z2) (hn2 : z2.length ≤ 1000) (w : World) (hR : RD w a zs) (hR2 : RD w a2 z2) :
    Calls Try.prog 18 #[.slice a zs.length cap, .slice a2 z2.length cap2] w fun e w' => ∃ v, e = .returned v ∧ NK w (hasL zs) zs.length z2 z2.length v w' := by
  have HA := Lib.hid (radd_any a cap zs hz hn a2 cap2 z2 hz2 hn2 w hR hR2)
  clear hz hn hz2 hn2 hR hR2
  go_enter Try.func18, Try.ntmps18
  go_wp2_with (first | (go_at_call 14; refine HA.out.mono ?_) | fail)
  rintro e W1 ⟨v, rfl, hv⟩
  have HV := Lib.hid hv
  clear hv HA
  go_wp2_with fail
  go_ret
  exact ⟨_, rfl, HV.out⟩
theorem NK.tells {w W : World} {P : Nat → Bool} {m k c : Nat} {zs : List Rg} {v : Value} {Q : List Rg → Prop} (h : NK w P m zs k v W) (hk : zs.length = k) (hc : m + k = c) (hb : c ≤ 1000) (hQ : ∀ ns, (∀ x, hasL ns x = (P x || hasL zs x)) → Q ns) : TellsRow w Q c (.returned v) W := by
  obtain ⟨out, h1, h2, h3, h4, h5⟩ := h
  obtain ⟨a, cap, rfl, hr, hcp⟩ := h1.rdc
  exact ⟨a, out.length, cap, out, rfl, ⟨rfl, hr, by omega, h2, hcp⟩, by omega, h3, hQ out (fun x => by rw [h4, ← hk, List.take_length]), h1.2⟩
theorem q12 (W : World) (a : Option Addr) (k cap : Nat) (zs : List Rg) (h : RW W a k cap zs) : Calls Try.prog 12 #[.slice a k cap] W (TellsRow W (fun ns => ∀ x, hasL ns x = hasL zs x) k) := by
  obtain ⟨hl, hr, hk, ho, _⟩ := h
  have := rnorm_any a cap zs ho (by omega) W hr
  rw [hl] at this
  refine this.mono fun e w' ⟨v, h1, h2⟩ => ?_
  rw [h1]
  exact h2.tells hl (by omega) (by omega) (fun ns h x => by rw [h x, Bool.false_or])
theorem q14 (f : Nat) (hf : f = 14 ∨ f = 18) (W : World) (a : Option Addr) (k cap : Nat) (zs : List Rg) (a2 : Option Addr) (k2 cap2 : Nat) (z2 : List Rg) (h : RW W a k cap zs) (h2 : RW W a2 k2 cap2 z2) (hs : k + k2 ≤ 1000) : Calls Try.prog f #[.slice a k cap, .slice a2 k2 cap2] W (TellsRow W (fun ns => ∀ x, hasL ns x = (hasL zs x || hasL z2 x)) (k + k2)) := by
  obtain ⟨hl, hr, hk, ho, hc⟩ := h
  obtain ⟨hl2, hr2, hk2, ho2, hc2⟩ := h2
  have : Calls Try.prog f #[.slice a k cap, .slice a2 k2 cap2] W fun e w' => ∃ v, e = .returned v ∧ NK W (hasL zs) k z2 k2 v w' := by
    rcases hf with rfl | rfl
    · have := radd_any a cap zs ho (by omega) a2 cap2 z2 ho2 (by omega) W hr hr2
      rwa [hl, hl2] at this
    · have := rjoin_any a cap zs ho (by omega) a2 cap2 z2 ho2 (by omega) W hr hr2
      rwa [hl, hl2] at this
  refine this.mono fun e w' ⟨v, h1, h3⟩ => ?_
  rw [h1]
  exact h3.tells hl2 rfl hs (fun ns h x => h x)
end Go.Proofs.Ytaaflkjdcablcaa
