/- great: what of entries it tells; the world stays. -/
import Derived.Test.YtegbhjmghkbgmaaH
namespace Go.Proofs.Ytegbhjmghkbgmaa
open Go.RowKit Go.Shelf
set_option linter.unusedVariables false
set_option linter.unusedSimpArgs false
attribute [local go_sem] Oper.semAt_some
/-- An entry: name, kind, section, address, size. -/
abbrev En := ByteArray × Nat × Nat × Nat × Nat
def En.cs (s : En) : List Value := [.string s.1, .int .u8 (s.2.1 : Nat), .int .u16 (s.2.2.1 : Nat), .int .u64 (s.2.2.2.1 : Nat), .int .u64 (s.2.2.2.2 : Nat)]
theorem En_len (s : En) : s.cs.length = 5 := rfl
theorem En_at {W : World} {ad : Option Addr} {zs : List En} (h : RX W ad (zs.flatMap En.cs)) {k : Nat} {s : En} (hk : zs[k]? = some s) : ∃ b off, ad = some ⟨b, off, none⟩ ∧ W.cell? ⟨b, off + k * 5, none⟩ = some (.string s.1) ∧ W.cell? ⟨b, off + k * 5 + 1, none⟩ = some (.int .u8 (s.2.1 : Nat)) ∧ W.cell? ⟨b, off + k * 5 + 2, none⟩ = some (.int .u16 (s.2.2.1 : Nat)) ∧ W.cell? ⟨b, off + k * 5 + 3, none⟩ = some (.int .u64 (s.2.2.2.1 : Nat)) ∧ W.cell? ⟨b, off + k * 5 + 4, none⟩ = some (.int .u64 (s.2.2.2.2 : Nat)) := by
  have hl := (List.getElem?_eq_some_iff.1 hk).1
  obtain ⟨b, off, ha, hc⟩ := h (by rw [flat_len En_len]; omega)
  have g : ∀ i, i < 5 → W.cell? ⟨b, off + (k * 5 + i), none⟩ = s.cs[i]? := fun i hi => by
    have e := flat_at En_len zs k i s hk hi
    obtain ⟨u, hu⟩ : ∃ u, s.cs[i]? = some u := ⟨s.cs[i]'(by rw [En_len]; exact hi), List.getElem?_eq_getElem _⟩
    rw [hu]
    exact hc _ _ (e.trans hu)
  exact ⟨b, off, ha, g 0 (by decide), g 1 (by decide), g 2 (by decide), g 3 (by decide), g 4 (by decide)⟩
/-- A name that is not too long, and has no byte 0. -/
def En.fine (s : En) : Prop := s.1.size ≤ 60 ∧ ∀ j (h : j < s.1.size), (s.1[j]'h).toNat ≠ 0
set_option maxRecDepth 100000 in
set_option maxHeartbeats 4000000 in
theorem great_any (a : Option Addr) (p : Nat) (l : List En) (hn : l.length ≤ 9223372036854775807) (hs : ∀ x ∈ l, x.1.size ≤ 9223372036854775807) (w : World) (h : RX w a (l.flatMap En.cs)) : Calls Try.prog 7 #[.slice a l.length p] w fun e W' => W' = w ∧ ∃ g : Bool, e = .returned (.bool g) ∧ (g = false → l.length ≤ 60 ∧ ∀ x ∈ l, x.fine) := by
  have HX := Lib.hid h
  have HSZ := Lib.hid hs
  obtain ⟨n, hn1⟩ : ∃ n, l.length = n := ⟨_, rfl⟩
  rw [hn1] at hn ⊢
  have HL := Lib.hid hn1
  clear h hn1 hs
  go_enter Try.func7, Try.ntmps7
  go_wp2_with fail
  go_loopw [3] (fun i W => ∃ k : Nat, k ≤ n ∧ k ≤ 61 ∧ i = .int .i64 k ∧ Hid (∀ j, j < k → ∀ x, l[j]? = some x → x.fine) ∧ W = w) (fun i _ => n - (intOf i).toNat)
  case atStart => exact ⟨0, by omega, by omega, rfl, Lib.hid (fun j hj => absurd hj (by omega)), rfl⟩
  case round =>
    obtain ⟨k, hk, hk61, rfl, HA, rfl⟩ := hrel
    by_cases hlt : k < n
    rotate_left
    · obtain rfl : n = k := by omega
      go_wp2_with fail
      go_ret
      exact ⟨rfl, _, rfl, fun hg => ⟨by have : (n : Int) ≤ 60 := (by simpa using hg); omega, fun x hx => by
        obtain ⟨j, hj⟩ := List.getElem?_of_mem hx
        exact HA.out j (by have := (List.getElem?_eq_some_iff.1 hj).1; have := HL.out; omega) x hj⟩⟩
    by_cases h60 : k ≤ 60
    rotate_left
    · go_wp2_with fail
      go_ret
      exact ⟨rfl, _, rfl, fun hg => absurd hg (by simp; omega)⟩
    obtain ⟨s, hs⟩ : ∃ s, l[k]? = some s := ⟨l[k]'(by have := HL.out; omega), List.getElem?_eq_getElem _⟩
    have HK1 := Lib.hid hs
    have hsz : s.1.size ≤ 9223372036854775807 := HSZ.out s (List.mem_of_getElem? hs)
    clear hs
    obtain ⟨x1, o1, ha1, f0, f1, f2, f3, f4⟩ := En_at HX.out HK1.out
    subst ha1
    clear f1 f2 f3 f4
    obtain ⟨nm, hnm⟩ : ∃ nm, s.1 = nm := ⟨_, rfl⟩
    rw [hnm] at f0 hsz
    have HNM := Lib.hid hnm
    clear hnm
    obtain ⟨z, hz⟩ : ∃ z, nm.size = z := ⟨_, rfl⟩
    by_cases hz60 : 60 < z
    · go_wp2_with fail
      go_ret
      exact ⟨rfl, true, rfl, fun hg => by cases hg⟩
    go_wp2_with fail
    go_loopw [4] (fun i W => ∃ m : Nat, m ≤ z ∧ i = .int .i64 m ∧ Hid (∀ j (h : j < nm.size), j < m → (nm[j]'h).toNat ≠ 0) ∧ W = wr) (fun i _ => z - (intOf i).toNat)
    case atStart => exact ⟨0, by omega, rfl, Lib.hid (fun j _ hj => absurd hj (by omega)), rfl⟩
    case round =>
      obtain ⟨m, hm, rfl, HB, rfl⟩ := hrel
      by_cases hlm : m < z
      · have hm2 : m < nm.size := by omega
        by_cases hd : (nm[m]'hm2).toNat = 0
        · have d1 : (((nm[m]'hm2).toNat : Int) == 0) = true := by rw [hd]; rfl
          go_wp2_with fail
          go_ret
          exact ⟨rfl, true, rfl, fun hg => by cases hg⟩
        · have d1 : (((nm[m]'hm2).toNat : Int) == 0) = false := by
            rw [beq_eq_false_iff_ne]
            omega
          have HD := Lib.hid hd
          clear hd
          go_wp2_with fail
          go_roundw
          case rel => exact ⟨m + 1, by omega, by go_num, Lib.hid (fun j h hj => by
            by_cases e : j = m
            · subst e
              exact HD.out
            · exact HB.out j h (by omega)), trivial⟩
          case measure => simp [intOf]; omega
      · obtain rfl : z = m := by omega
        go_wp2_with fail
        go_roundw
        case rel => exact ⟨k + 1, by omega, by omega, by go_num, Lib.hid (fun j hj x hx => by
          by_cases e : j = k
          · subst e
            have := Option.some.inj (HK1.out.symm.trans hx)
            rw [← this]
            unfold En.fine
            have e1 := HNM.out
            subst e1
            exact ⟨by omega, fun i hi => HB.out i hi (by omega)⟩
          · exact HA.out j (by omega) x hx), trivial⟩
        case measure => simp [intOf]; omega
end Go.Proofs.Ytegbhjmghkbgmaa
