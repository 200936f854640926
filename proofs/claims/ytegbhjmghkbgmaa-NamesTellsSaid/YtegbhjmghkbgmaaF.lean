/- names.kinds. -/
import Derived.Test.YtegbhjmghkbgmaaE
namespace Go.Proofs.Ytegbhjmghkbgmaa
open Go.RowKit Go.Shelf
set_option linter.unusedVariables false
set_option linter.unusedSimpArgs false
attribute [local go_sem] Oper.semAt_some
/-- Is the table one of symbols, and are its strings strings? -/
def kindsS (s : Sc) (cs : List Sc) : Bool := (((s.2.2.2.2 == 24 && s.2.2.1 % 24 == 0) && decide (s.2.2.1 / 24 ≤ 200)) && decide (s.2.2.2.1 < cs.length)) && (match cs[s.2.2.2.1]? with | some x => x.1 == 3 | none => false)
set_option maxRecDepth 100000 in
set_option maxHeartbeats 4000000 in
theorem kinds_any (s : Sc) (hs : s.ok) (a : Option Addr) (p : Nat) (cs : List Sc) (hn : cs.length ≤ 1000000) (w : World) (h : RX w a (cs.flatMap Sc.cs)) : Calls Try.prog 21 #[.agg #[.int .u32 (s.1 : Nat), .int .u64 (s.2.1 : Nat), .int .u64 (s.2.2.1 : Nat), .int .u32 (s.2.2.2.1 : Nat), .int .u64 (s.2.2.2.2 : Nat)], .slice a cs.length p] w fun e W' => e = .returned (.bool (kindsS s cs)) ∧ Below w.heap.size w W' := by
  have HX := Lib.hid (fun W (hb : Below w.heap.size w W) => h.keep hb)
  have HS := Lib.hid (And.intro (heap_alloc_last w (.cells #[.int .u32 (s.1 : Nat), .int .u64 (s.2.1 : Nat), .int .u64 (s.2.2.1 : Nat), .int .u32 (s.2.2.2.1 : Nat), .int .u64 (s.2.2.2.2 : Nat)] 54)) ((Below.refl _ w).alloc (Nat.le_refl _) (.cells #[.int .u32 (s.1 : Nat), .int .u64 (s.2.1 : Nat), .int .u64 (s.2.2.1 : Nat), .int .u32 (s.2.2.2.1 : Nat), .int .u64 (s.2.2.2.2 : Nat)] 54)))
  have hsz : s.2.2.1 < 18446744073709551616 := hs.2.2.1
  have hl : s.2.2.2.1 < 4294967296 := hs.2.2.2.1
  have HK : Hid (kindsS s cs = ((((s.2.2.2.2 == 24 && s.2.2.1 % 24 == 0) && decide (s.2.2.1 / 24 ≤ 200)) && decide (s.2.2.2.1 < cs.length)) && (match cs[s.2.2.2.1]? with | some x => x.1 == 3 | none => false))) := Lib.hid rfl
  generalize kindsS s cs = K at *
  obtain ⟨n, hn1⟩ : ∃ n, cs.length = n := ⟨_, rfl⟩
  rw [hn1] at hn HK ⊢
  have HL := Lib.hid hn1
  clear h hn1 hs
  obtain ⟨k, o, sz, l, ea⟩ := s
  dsimp only at *
  have u0 : IntKind.u64.wrap (l : Int) = (l : Int) := IntWalk.u64_in _ (by omega)
  have u1 : IntKind.u64.wrap (n : Int) = (n : Int) := IntWalk.u64_in _ (by omega)
  by_cases h1 : ea = 24
  rotate_left
  · have d1 : ((ea : Int) == 24) = false := by
      rw [beq_eq_false_iff_ne]
      omega
    have HE := Lib.hid (show K = false by rw [HK.out]; simp [h1])
    clear HK h1
    go_enter Try.func21, Try.ntmps21
    go_upto_region 1 with fail
    generalize World.alloc w _ = W1 at HS ⊢
    have c2 := cell_at (i := 2) (v := .int .u64 (sz : Nat)) HS.out.1 rfl
    have c3 := cell_at (i := 3) (v := .int .u32 (l : Nat)) HS.out.1 rfl
    have c4 := cell_at (i := 4) (v := .int .u64 (ea : Nat)) HS.out.1 rfl
    go_wp2_with fail
    go_ret
    exact ⟨by rw [HE.out]; first | done | rfl, HS.out.2⟩
  have d1 : ((ea : Int) == 24) = true := by simp; omega
  by_cases h2 : sz % 24 = 0
  rotate_left
  · have HE := Lib.hid (show K = false by rw [HK.out]; simp [h2])
    obtain ⟨r, hr⟩ : ∃ r, sz % 24 = r := ⟨_, rfl⟩
    have e2 : (sz : Int).tmod 24 = (r : Int) := by
      rw [Int.tmod_eq_emod_of_nonneg (by omega)]
      omega
    have d2 : ((r : Int) == 0) = false := by
      rw [beq_eq_false_iff_ne]
      omega
    clear HK h1 h2 hr
    go_enter Try.func21, Try.ntmps21
    go_upto_region 1 with fail
    generalize World.alloc w _ = W1 at HS ⊢
    have c2 := cell_at (i := 2) (v := .int .u64 (sz : Nat)) HS.out.1 rfl
    have c3 := cell_at (i := 3) (v := .int .u32 (l : Nat)) HS.out.1 rfl
    have c4 := cell_at (i := 4) (v := .int .u64 (ea : Nat)) HS.out.1 rfl
    go_wp2_with fail
    go_ret
    exact ⟨by rw [HE.out]; first | done | rfl, HS.out.2⟩
  have e2 : (sz : Int).tmod 24 = 0 := by
    rw [Int.tmod_eq_emod_of_nonneg (by omega)]
    omega
  obtain ⟨q, hq⟩ : ∃ q, sz / 24 = q := ⟨_, rfl⟩
  have e3 : (sz : Int).tdiv 24 = (q : Int) := by
    rw [Int.tdiv_eq_ediv_of_nonneg (by omega)]
    omega
  have u2 : IntKind.u64.wrap (q : Int) = (q : Int) := IntWalk.u64_in _ (by omega)
  by_cases h3 : q ≤ 200
  rotate_left
  · have HE := Lib.hid (show K = false by rw [HK.out, hq]; simp [h3])
    have d3 : decide ((q : Int) ≤ 200) = false := decide_eq_false (by omega)
    clear HK h1 h2 h3 hq
    go_enter Try.func21, Try.ntmps21
    go_upto_region 1 with fail
    generalize World.alloc w _ = W1 at HS ⊢
    have c2 := cell_at (i := 2) (v := .int .u64 (sz : Nat)) HS.out.1 rfl
    have c3 := cell_at (i := 3) (v := .int .u32 (l : Nat)) HS.out.1 rfl
    have c4 := cell_at (i := 4) (v := .int .u64 (ea : Nat)) HS.out.1 rfl
    go_wp2_with fail
    go_ret
    exact ⟨by rw [HE.out]; first | done | rfl, HS.out.2⟩
  have d3 : decide ((q : Int) ≤ 200) = true := decide_eq_true (by omega)
  by_cases h4 : l < n
  rotate_left
  · have HE := Lib.hid (show K = false by rw [HK.out]; simp [h4])
    have d4 : decide (l < n) = false := decide_eq_false h4
    clear HK h1 h2 h3 h4 hq
    go_enter Try.func21, Try.ntmps21
    go_upto_region 1 with fail
    generalize World.alloc w _ = W1 at HS ⊢
    have c2 := cell_at (i := 2) (v := .int .u64 (sz : Nat)) HS.out.1 rfl
    have c3 := cell_at (i := 3) (v := .int .u32 (l : Nat)) HS.out.1 rfl
    have c4 := cell_at (i := 4) (v := .int .u64 (ea : Nat)) HS.out.1 rfl
    go_wp2_with fail
    go_ret
    exact ⟨by rw [HE.out]; first | done | rfl, HS.out.2⟩
  have d4 : decide (l < n) = true := decide_eq_true h4
  obtain ⟨x, hx⟩ : ∃ x, cs[l]? = some x := ⟨cs[l]'(by have := HL.out; omega), List.getElem?_eq_getElem _⟩
  have HK1 := Lib.hid hx
  have HE := Lib.hid (show K = (x.1 == 3) by rw [HK.out, hx, hq]; simp [h1, h2, h3, h4])
  clear HK h1 h2 h3 hx hq
  obtain ⟨x1, o1, ha1, _⟩ := Sc_at (HX.out w (Below.refl _ _)) HK1.out
  subst ha1
  by_cases h5 : x.1 = 3
  · have d5 : ((x.1 : Int) == 3) = true := by simp; omega
    have HE2 := Lib.hid (show K = true by rw [HE.out]; simpa using h5)
    clear HE h5
    go_enter Try.func21, Try.ntmps21
    go_upto_region 1 with fail
    generalize World.alloc w _ = W1 at HS ⊢
    have c2 := cell_at (i := 2) (v := .int .u64 (sz : Nat)) HS.out.1 rfl
    have c3 := cell_at (i := 3) (v := .int .u32 (l : Nat)) HS.out.1 rfl
    have c4 := cell_at (i := 4) (v := .int .u64 (ea : Nat)) HS.out.1 rfl
    obtain ⟨x2, o2, ha2, f0, f1, f2, f3, f4⟩ := Sc_at (HX.out W1 HS.out.2) HK1.out
    simp only [Option.some.injEq, Addr.mk.injEq, and_true] at ha2
    obtain ⟨rfl, rfl⟩ := ha2
    clear f1 f2 f3 f4
    go_wp2_with fail
    go_ret
    exact ⟨by rw [HE2.out]; first | done | rfl, HS.out.2⟩
  · have d5 : ((x.1 : Int) == 3) = false := by
      rw [beq_eq_false_iff_ne]
      omega
    have HE2 := Lib.hid (show K = false by rw [HE.out]; simpa using h5)
    clear HE h5
    go_enter Try.func21, Try.ntmps21
    go_upto_region 1 with fail
    generalize World.alloc w _ = W1 at HS ⊢
    have c2 := cell_at (i := 2) (v := .int .u64 (sz : Nat)) HS.out.1 rfl
    have c3 := cell_at (i := 3) (v := .int .u32 (l : Nat)) HS.out.1 rfl
    have c4 := cell_at (i := 4) (v := .int .u64 (ea : Nat)) HS.out.1 rfl
    obtain ⟨x2, o2, ha2, f0, f1, f2, f3, f4⟩ := Sc_at (HX.out W1 HS.out.2) HK1.out
    simp only [Option.some.injEq, Addr.mk.injEq, and_true] at ha2
    obtain ⟨rfl, rfl⟩ := ha2
    clear f1 f2 f3 f4
    go_wp2_with fail
    go_ret
    exact ⟨by rw [HE2.out]; first | done | rfl, HS.out.2⟩
end Go.Proofs.Ytegbhjmghkbgmaa
