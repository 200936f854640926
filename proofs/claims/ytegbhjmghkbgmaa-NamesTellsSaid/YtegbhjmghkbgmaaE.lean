/- slices.IndexFunc at the sections; names.kinds. -/
import Derived.Test.YtegbhjmghkbgmaaD
namespace Go.Proofs.Ytegbhjmghkbgmaa
open Go.RowKit Go.Shelf
set_option linter.unusedVariables false
set_option linter.unusedSimpArgs false
attribute [local go_sem] Oper.semAt_some
/-- The first section of symbols. -/
def symI (cs : List Sc) : Option Nat := cs.findIdx? fun s => s.1 == 2
def symV (cs : List Sc) : Int := match symI cs with | some i => (i : Int) | none => -1
theorem symI_some {cs : List Sc} {k : Nat} {s : Sc} (hk : cs[k]? = some s) (hs : s.1 = 2) (hb : ∀ j, j < k → ∀ x, cs[j]? = some x → x.1 ≠ 2) : symI cs = some k := by
  unfold symI
  rw [List.findIdx?_eq_some_iff_getElem]
  obtain ⟨hl, e⟩ := List.getElem?_eq_some_iff.1 hk
  refine ⟨hl, by rw [e, hs]; rfl, fun j hj => ?_⟩
  have := hb j hj _ (List.getElem?_eq_getElem (by omega))
  simpa using this
theorem symI_none {cs : List Sc} (hb : ∀ j, j < cs.length → ∀ x, cs[j]? = some x → x.1 ≠ 2) : symI cs = none := by
  unfold symI
  rw [List.findIdx?_eq_none_iff]
  intro x hx
  obtain ⟨j, hj⟩ := List.getElem?_of_mem hx
  have := hb j (List.getElem?_eq_some_iff.1 hj).1 x hj
  simpa using this
set_option maxRecDepth 100000 in
set_option maxHeartbeats 1000000 in
theorem kind2_any (s : Sc) (w : World) : Calls Try.prog 20 #[.agg #[.int .u32 (s.1 : Nat), .int .u64 (s.2.1 : Nat), .int .u64 (s.2.2.1 : Nat), .int .u32 (s.2.2.2.1 : Nat), .int .u64 (s.2.2.2.2 : Nat)]] w fun e W' => e = .returned (.bool (s.1 == 2)) ∧ Below w.heap.size w W' := by
  have HS := Lib.hid (And.intro (heap_alloc_last w (.cells #[.int .u32 (s.1 : Nat), .int .u64 (s.2.1 : Nat), .int .u64 (s.2.2.1 : Nat), .int .u32 (s.2.2.2.1 : Nat), .int .u64 (s.2.2.2.2 : Nat)] 54)) ((Below.refl _ w).alloc (Nat.le_refl _) (.cells #[.int .u32 (s.1 : Nat), .int .u64 (s.2.1 : Nat), .int .u64 (s.2.2.1 : Nat), .int .u32 (s.2.2.2.1 : Nat), .int .u64 (s.2.2.2.2 : Nat)] 54)))
  obtain ⟨k, o, sz, l, ea⟩ := s
  dsimp only at *
  go_enter Try.func20, Try.ntmps20
  go_upto_region 1 with fail
  generalize World.alloc w _ = W1 at HS ⊢
  have c0 := cell_at (i := 0) (v := .int .u32 (k : Nat)) HS.out.1 rfl
  by_cases h : k = 2
  · subst h
    go_wp2_with fail
    go_ret
    exact ⟨rfl, HS.out.2⟩
  · have d1 : ((k : Int) == 2) = false := by
      rw [beq_eq_false_iff_ne]
      omega
    have d2 : (k == 2) = false := by simpa using h
    have HD := Lib.hid d2
    clear d2 h
    go_wp2_with fail
    go_ret
    exact ⟨by rw [HD.out]; first | done | rfl, HS.out.2⟩
set_option maxRecDepth 100000 in
set_option maxHeartbeats 4000000 in
theorem index_func (a : Option Addr) (p : Nat) (cs : List Sc) (hn : cs.length ≤ 1000000) (w : World) (h : RX w a (cs.flatMap Sc.cs)) : Calls Try.prog 19 #[.slice a cs.length p, .func (.func 20) #[] #[]] w fun e W' => e = .returned (.int .i64 (symV cs)) ∧ Below w.heap.size w W' := by
  have HX := Lib.hid (fun W (hb : Below w.heap.size w W) => h.keep hb)
  have HB0 : Hid (Below w.heap.size w w) := Lib.hid (Below.refl _ _)
  obtain ⟨n, hn1⟩ : ∃ n, cs.length = n := ⟨_, rfl⟩
  rw [hn1] at hn ⊢
  have HL := Lib.hid hn1
  clear h hn1
  go_enter Try.func19, Try.ntmps19
  go_wp2_with fail
  go_loopw [8] (fun i W => ∃ k : Nat, k ≤ n ∧ i = .int .i64 k ∧ Hid (∀ j, j < k → ∀ x, cs[j]? = some x → x.1 ≠ 2) ∧ Hid (Below w.heap.size w W)) (fun i _ => n - (intOf i).toNat)
  case atStart => exact ⟨0, by omega, rfl, Lib.hid (fun j hj => absurd hj (by omega)), HB0⟩
  case round =>
    clear HB0
    obtain ⟨k, hk, rfl, HA, HB⟩ := hrel
    by_cases hlt : k < n
    · obtain ⟨s, hs⟩ : ∃ s, cs[k]? = some s := ⟨cs[k]'(by have := HL.out; omega), List.getElem?_eq_getElem _⟩
      have HK1 := Lib.hid hs
      clear hs
      obtain ⟨x1, o1, ha1, f0, f1, f2, f3, f4⟩ := Sc_at (HX.out wr HB.out) HK1.out
      subst ha1
      go_wp2_with fail
      go_at_call 20
      refine (kind2_any s _).mono ?_
      rintro e W5 ⟨rfl, hb⟩
      clear f0 f1 f2 f3 f4
      have HB5 := Lib.hid (HB.out.trans (hb.mono HB.out.size))
      clear hb
      by_cases h2 : s.1 = 2
      · have HE := Lib.hid (show symV cs = (k : Int) by unfold symV; rw [symI_some HK1.out h2 HA.out])
        have d : (s.1 == 2) = true := by simpa using h2
        rw [d]
        clear d h2
        go_wp2_with fail
        go_ret
        exact ⟨by rw [HE.out]; first | done | rfl, HB5.out⟩
      · have HNE := Lib.hid h2
        have d : (s.1 == 2) = false := by simpa using h2
        rw [d]
        clear d h2
        go_wp2_with fail
        go_roundw
        case rel => exact ⟨k + 1, by omega, by go_num, Lib.hid (fun j hj x hx => by
          by_cases e : j = k
          · subst e
            have := Option.some.inj (HK1.out.symm.trans hx)
            rw [← this]
            exact HNE.out
          · exact HA.out j (by omega) x hx), HB5⟩
        case measure => simp [intOf]; omega
    · obtain rfl : n = k := by omega
      have HE := Lib.hid (show symV cs = -1 by unfold symV; rw [symI_none (fun j hj => HA.out j (by have := HL.out; omega))])
      go_wp2_with fail
      go_ret
      exact ⟨by rw [HE.out]; first | done | rfl, HB.out⟩
end Go.Proofs.Ytegbhjmghkbgmaa
