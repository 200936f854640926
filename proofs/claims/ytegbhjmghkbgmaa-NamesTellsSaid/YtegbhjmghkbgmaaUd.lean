/- The reference's Read. -/
import Derived.Test.YtegbhjmghkbgmaaUc
import Derived.Test.YtegbhjmghkbgmaaUb
import Derived.Test.YtegbhjmghkbgmaaRn
import Derived.Test.YtegbhjmghkbgmaaFs
namespace Go.Proofs.Ytegbhjmghkbgmaa
open Go.RowKit Go.Shelf
set_option linter.unusedVariables false
set_option linter.unusedSimpArgs false
attribute [local go_sem] Oper.semAt_some
section
variable {z : Nat → Nat} {bn : Nat} {cs : List Sc} {i : Nat} {s x : Sc}
theorem rz_many (h : 32 < cs.length) : readZ z bn cs = ([], 2) := by unfold readZ; rw [if_pos h]
theorem rz_none (h : cs.length ≤ 32) (hi : symI cs = none) : readZ z bn cs = ([], 0) := by unfold readZ; rw [if_neg (by omega), hi]
theorem rz_kind (h : cs.length ≤ 32) (hi : symI cs = some i) (hs : cs[i]? = some s) (hk : kindsS s cs = false) : readZ z bn cs = ([], 32) := by
  unfold readZ
  rw [if_neg (by omega), hi]
  dsimp only
  rw [hs]
  dsimp only
  rw [hk]
  rfl
theorem rz_place (h : cs.length ≤ 32) (hi : symI cs = some i) (hs : cs[i]? = some s) (hk : kindsS s cs = true) (hx : cs[s.2.2.2.1]? = some x) (hp : (pieceB s bn && pieceB x bn) = false) : readZ z bn cs = ([], 33) := by
  unfold readZ
  rw [if_neg (by omega), hi]
  dsimp only
  rw [hs]
  dsimp only
  rw [if_pos hk, hx]
  dsimp only
  rw [hp]
  rfl
theorem rz_fail (h : cs.length ≤ 32) (hi : symI cs = some i) (hs : cs[i]? = some s) (hk : kindsS s cs = true) (hx : cs[s.2.2.2.1]? = some x) (hp : (pieceB s bn && pieceB x bn) = true) (hn : symsZ (shZ z s.2.1) (shZ z x.2.1) x.2.2.1 (List.range (rowsM s.2.2.1)) = none) : readZ z bn cs = ([], 33) := by
  unfold readZ
  rw [if_neg (by omega), hi]
  dsimp only
  rw [hs]
  dsimp only
  rw [if_pos hk, hx]
  dsimp only
  rw [if_pos hp, hn]
theorem rz_ok {l : List Sy} (h : cs.length ≤ 32) (hi : symI cs = some i) (hs : cs[i]? = some s) (hk : kindsS s cs = true) (hx : cs[s.2.2.2.1]? = some x) (hp : (pieceB s bn && pieceB x bn) = true) (hn : symsZ (shZ z s.2.1) (shZ z x.2.1) x.2.2.1 (List.range (rowsM s.2.2.1)) = some l) : readZ z bn cs = (l, 0) := by
  unfold readZ
  rw [if_neg (by omega), hi]
  dsimp only
  rw [hs]
  dsimp only
  rw [if_pos hk, hx]
  dsimp only
  rw [if_pos hp, hn]
end
/-- The first section of symbols from a place on; -1: none. -/
def FirstFrom (cs : List Sc) (k : Nat) (τ : Int) : Prop := (∃ j : Nat, τ = (j : Int) ∧ k ≤ j ∧ (∃ x, cs[j]? = some x ∧ x.1 = 2) ∧ ∀ j', k ≤ j' → j' < j → ∀ x, cs[j']? = some x → x.1 ≠ 2) ∨ (τ = -1 ∧ ∀ j', k ≤ j' → ∀ x, cs[j']? = some x → x.1 ≠ 2)
theorem FirstFrom.zero {cs : List Sc} {τ : Int} (h : FirstFrom cs 0 τ) : (∃ i, symI cs = some i ∧ τ = (i : Int)) ∨ (symI cs = none ∧ τ = -1) := by
  rcases h with ⟨j, e, _, ⟨x, hx, h2⟩, hb⟩ | ⟨e, hb⟩
  · exact .inl ⟨j, symI_some hx h2 (fun j' hj' => hb j' (by omega) hj'), e⟩
  · exact .inr ⟨symI_none (fun j _ => hb j (by omega)), e⟩
theorem FirstFrom.hit {cs : List Sc} {j : Nat} {s : Sc} (hs : cs[j]? = some s) (h2 : s.1 = 2) : FirstFrom cs j (j : Int) := .inl ⟨j, rfl, Nat.le_refl _, ⟨s, hs, h2⟩, fun j' h1 h2 => by omega⟩
theorem FirstFrom.miss {cs : List Sc} {j : Nat} {s : Sc} {τ : Int} (hs : cs[j]? = some s) (h2 : s.1 ≠ 2) (h : FirstFrom cs (j + 1) τ) : FirstFrom cs j τ := by
  have hn : ∀ j', j ≤ j' → ¬ j + 1 ≤ j' → ∀ x, cs[j']? = some x → x.1 ≠ 2 := fun j' h1 h3 x hx => by
    obtain rfl : j' = j := by omega
    rw [hs] at hx
    cases hx
    exact h2
  rcases h with ⟨i, e, h1, hx, hb⟩ | ⟨e, hb⟩
  · exact .inl ⟨i, e, by omega, hx, fun j' h3 h4 => by
      by_cases h5 : j + 1 ≤ j'
      · exact hb j' h5 h4
      · exact hn j' h3 h5⟩
  · exact .inr ⟨e, fun j' h3 => by
      by_cases h5 : j + 1 ≤ j'
      · exact hb j' h5
      · exact hn j' h3 h5⟩
theorem kinds_parts {s : Sc} {cs : List Sc} : kindsS s cs = (((s.2.2.2.2 == 24 && s.2.2.1 % 24 == 0) && decide (s.2.2.1 / 24 ≤ 200)) && decide (s.2.2.2.1 < cs.length) && (match cs[s.2.2.2.1]? with | some x => x.1 == 3 | none => false)) := rfl
theorem syms_none {tz sz : Nat → Nat} {sn k n : Nat} {L : List Sy} (h : symsZ tz sz sn (List.range k) = some L) (hk : k < n) (h0 : symZ tz sz sn k = none) : symsZ tz sz sn (List.range n) = none := by
  have h1 : symsZ tz sz sn (List.range (k + 1)) = none := by
    rw [List.range_succ, symsZ_snoc, h, h0]
    rfl
  obtain ⟨d, rfl⟩ : ∃ d, n = (k + 1) + d := ⟨n - (k + 1), by omega⟩
  unfold symsZ at *
  rw [List.range_add, List.mapM_append, h1]
  rfl
theorem syms_some {tz sz : Nat → Nat} {sn k : Nat} {L : List Sy} {s : Sy} (h : symsZ tz sz sn (List.range k) = some L) (h0 : symZ tz sz sn k = some s) : symsZ tz sz sn (List.range (k + 1)) = some (L ++ [s]) := by
  rw [List.range_succ, symsZ_snoc, h, h0]
  rfl
theorem syms_len {tz sz : Nat → Nat} {sn : Nat} : ∀ {k : Nat} {L : List Sy}, symsZ tz sz sn (List.range k) = some L → L.length = k := by
  intro k
  induction k with
  | zero =>
    intro L h
    unfold symsZ at h
    simp at h
    rw [h]
    rfl
  | succ k ih =>
    intro L h
    rw [List.range_succ, symsZ_snoc] at h
    cases h1 : symsZ tz sz sn (List.range k) with
    | none => rw [h1] at h; cases h
    | some L1 =>
      rw [h1] at h
      cases h2 : symZ tz sz sn k with
      | none => rw [h2] at h; cases h
      | some s =>
        rw [h2] at h
        cases h
        rw [List.length_append, ih h1]
        rfl
theorem own_mono {W : World} {n0 n1 : Nat} {ty : TypeId} {sz k : Nat} {v : Value} {L : List Value} (h : W.ownsRow n1 ty sz v k L) (hle : n0 ≤ n1) : W.ownsRow n0 ty sz v k L := by
  refine ⟨h.1, ?_⟩
  rcases h.2 with ⟨hv, hn⟩ | ⟨g, cap, cur, hv, hg, hh, h2⟩
  · exact .inl ⟨hv, hn⟩
  · exact .inr ⟨g, cap, cur, hv, by omega, hh, h2⟩
theorem SY.from {w W2 W : World} {L : List Sy} {v : Value} (h : SY W2 L v W) (hb : Below w.heap.size w W2) : SY w L v W := ⟨own_mono h.1 hb.size, hb.trans (h.2.mono hb.size)⟩
theorem symZ_at (z : Nat → Nat) {of_ xo xs k at_ : Nat} (h : of_ + 24 * (k + 1) = at_) : symZ (shZ z of_) (shZ z xo) xs k = (nameZ (shZ z xo) xs (numZ z at_ 4)).map fun nm => (nm, numZ z (at_ + 8) 8, numZ z (at_ + 16) 8, (z (at_ + 4) % 16 == 2) && !(numZ z (at_ + 6) 2 == 0)) := by
  unfold symZ
  rw [numZ_sh, numZ_sh, numZ_sh, numZ_sh, numZ_sh, h, show of_ + (24 * (k + 1) + 8) = at_ + 8 by omega, show of_ + (24 * (k + 1) + 16) = at_ + 16 by omega, show of_ + (24 * (k + 1) + 4) = at_ + 4 by omega, show of_ + (24 * (k + 1) + 6) = at_ + 6 by omega]
  have e : numZ z (at_ + 4) 1 = z (at_ + 4) := by simp [numZ, numN]
  rw [e]
theorem low15c : ∀ (a : Fin 256), bits .and .u8 (a.val : Int) 15 = ((a.val % 16 : Nat) : Int) := by decide +kernel
theorem sy_snoc {w W : World} {L : List Sy} {s : Sy} {v : Value} (h : W.ownsRow w.heap.size 42 4 v (L.length + 1) (cellsY L ++ cellsY [s])) (hb : Below w.heap.size w W) : SY w (L ++ [s]) v W := by
  refine ⟨?_, hb⟩
  have e : cellsY (L ++ [s]) = cellsY L ++ cellsY [s] := by simp [cellsY]
  rw [List.length_append, e]
  exact h
def rsOf (z : Nat → Nat) (bn : Nat) (cs : List Sc) (w : World) (e : Ending) (W' : World) : Prop := ∃ v, e = .returned (.tuple #[v, .int .i64 (readZ z bn cs).2]) ∧ SY w (readZ z bn cs).1 v W'
theorem rs_nil {z : Nat → Nat} {bn : Nat} {cs : List Sc} {w W' : World} {k : Int} (h : readZ z bn cs = ([], k)) (hb : Below w.heap.size w W') : rsOf z bn cs w (.returned (.tuple #[.slice none 0 0, .int .i64 k])) W' := by
  unfold rsOf
  rw [h]
  exact ⟨_, rfl, SY.nil w W' hb⟩
set_option maxRecDepth 100000 in
set_option maxHeartbeats 16000000 in
theorem rread_any (ab : Option Addr) (bn bc : Nat) (z : Nat → Nat) (hzz : ∀ j, z j < 256) (v0 v1 v2 v3 : Value) (a : Option Addr) (p : Nat) (cs : List Sc) (hok : ∀ s, s ∈ cs → s.ok) (hn2 : cs.length ≤ 9223372036854775807) (w : World) (hbz : BZ w ab bn bc z) (h : RX w a (cs.flatMap Sc.cs)) :
    Calls Try.prog 11 #[.slice ab bn bc, .agg #[v0, v1, v2, v3, .slice a cs.length p]] w (rsOf z bn cs w) := by
  have HX := Lib.hid (fun W (hb : Below w.heap.size w W) => h.keep hb)
  have HZ := Lib.hid (fun W (hb : Below w.heap.size w W) => hbz.keep hb)
  have hbc := hbz.2
  clear h hbz
  obtain ⟨n, hn1⟩ : ∃ n, cs.length = n := ⟨_, rfl⟩
  have HL := Lib.hid hn1
  rw [hn1] at hn2 ⊢
  clear hn1
  have HS := Lib.hid (HW.new w v0 v1 v2 v3 a n p)
  by_cases hn : 32 < n
  · have HE := Lib.hid (rz_many (z := z) (bn := bn) (cs := cs) (by have := HL.out; omega))
    have hx : (32 : Int) < (n : Int) := by omega
    clear hbc
    go_enter Try.func11, Try.ntmps11
    go_upto_region 1 with fail
    generalize World.alloc w _ = W1 at HS ⊢
    have c4 := HS.out.c
    go_wp2_with fail
    go_returns
    exact rs_nil HE.out HS.out.2
  have hx : ¬ (32 : Int) < (n : Int) := by omega
  have HLn := Lib.hid (show cs.length ≤ 32 by have := HL.out; omega)
  go_enter Try.func11, Try.ntmps11
  go_upto_region 1 with fail
  generalize World.alloc w _ = W1 at HS ⊢
  have c4 := HS.out.c
  go_wp2_with fail
  clear c4 hx
  go_loopw [7, 8] (fun t i W => ∃ (k : Nat) (τ : Int), k ≤ n ∧ t = .int .i64 τ ∧ i = .int .i64 ((k : Int) - 1) ∧ Hid (FirstFrom cs k τ) ∧ W = W1) (fun _ i _ => (intOf i + 1).toNat)
  case atStart => exact ⟨n, -1, Nat.le_refl _, rfl, rfl, Lib.hid (.inr ⟨rfl, fun j' hj x hx => by
    have h1 := (List.getElem?_eq_some_iff.1 hx).1
    have := HL.out
    omega⟩), rfl⟩
  case round =>
    obtain ⟨k, τ, hk, rfl, rfl, HF, rfl⟩ := hrel
    by_cases hk0 : k = 0
    rotate_left
    · obtain ⟨j, rfl⟩ : ∃ j, k = j + 1 := ⟨k - 1, by omega⟩
      have ej : ((j + 1 : Nat) : Int) - 1 = (j : Int) := by omega
      rw [ej]
      clear ej
      obtain ⟨s, hs⟩ : ∃ s, cs[j]? = some s := ⟨cs[j]'(by have := HL.out; omega), List.getElem?_eq_getElem _⟩
      obtain ⟨x1, o1, ha1, f0, f1, f2, f3, f4⟩ := Sc_at (HX.out wr HS.out.2) hs
      subst ha1
      have uj : IntKind.i64.wrap ((j : Int) - 1) = (j : Int) - 1 := IntWalk.i64_in _ (by omega)
      have hjn : (j : Int) < (n : Int) := by omega
      have hjn2 : j < n := by omega
      clear f1 f2 f3 f4
      by_cases h2 : s.1 = 2
      · have HF2 := Lib.hid (FirstFrom.hit hs h2)
        rw [h2] at f0
        clear hs h2 HF
        go_wp2_with fail
        go_roundw
        case rel => exact ⟨j, _, by omega, rfl, by first | rfl | go_num, HF2, by first | rfl | trivial⟩
        case measure => first | (simp [intOf]; done) | (simp [intOf]; omega)
      · have HF2 := Lib.hid (FirstFrom.miss hs h2 HF.out)
        have h3 : ¬ (s.1 : Int) = 2 := by omega
        clear hs h2 HF
        go_wp2_with fail
        go_roundw
        case rel => exact ⟨j, _, by omega, rfl, by first | rfl | go_num, HF2, by first | rfl | trivial⟩
        case measure => first | (simp [intOf]; done) | (simp [intOf]; omega)
    subst hk0
    rw [show ((0 : Nat) : Int) - 1 = -1 from rfl]
    rcases HF.out.zero with ⟨i, hi, ht⟩ | ⟨hi, ht⟩
    rotate_left
    · subst ht
      have HE := Lib.hid (rz_none (z := z) (bn := bn) HLn.out hi)
      clear hi HF
      go_wp2_with fail
      go_returns
      exact rs_nil HE.out HS.out.2
    subst ht
    clear HF hk
    have hin : i < n := by
      unfold symI at hi
      have := (List.findIdx?_eq_some_iff_getElem.1 hi).1
      have := HL.out
      omega
    obtain ⟨s, hs⟩ : ∃ s, cs[i]? = some s := ⟨cs[i]'(by have := HL.out; omega), List.getElem?_eq_getElem _⟩
    have hsok := hok s (List.mem_of_getElem? hs)
    have HI := Lib.hid (And.intro hi hs)
    have HOK := Lib.hid hok
    obtain ⟨x1, o1, ha1, f0, f1, f2, f3, f4⟩ := Sc_at (HX.out wr HS.out.2) hs
    subst ha1
    clear hi hs hok
    have HKI := Lib.hid (kinds_parts (s := s) (cs := cs))
    have hini : (i : Int) < (n : Int) := by omega
    obtain ⟨kd, of, sz, lk, ea⟩ := s
    obtain ⟨o0, ok1, ok2, ok3, ok4⟩ := hsok
    unfold V32 at o0 ok3
    unfold U at ok1 ok2 ok4
    dsimp only at *
    have u0 : IntKind.u64.wrap (lk : Int) = (lk : Int) := IntWalk.u64_in _ (by omega)
    have u1 : IntKind.u64.wrap (n : Int) = (n : Int) := IntWalk.u64_in _ (by omega)
    by_cases h1 : ea = 24
    rotate_left
    · have HE := Lib.hid (rz_kind (z := z) (bn := bn) HLn.out HI.out.1 HI.out.2 (by rw [HKI.out]; simp [h1]))
      have d1 : ¬ (ea : Int) = 24 := by omega
      clear HKI h1
      go_wp2_with fail
      go_returns
      exact rs_nil HE.out HS.out.2
    subst h1
    by_cases h2 : sz % 24 = 0
    rotate_left
    · have HE := Lib.hid (rz_kind (z := z) (bn := bn) HLn.out HI.out.1 HI.out.2 (by rw [HKI.out]; simp [h2]))
      obtain ⟨r, hr⟩ : ∃ r, sz % 24 = r := ⟨_, rfl⟩
      have e2 : (sz : Int).tmod 24 = (r : Int) := by
        rw [Int.tmod_eq_emod_of_nonneg (by omega)]
        omega
      have ur : IntKind.u64.wrap (r : Int) = (r : Int) := IntWalk.u64_in _ (by omega)
      have d2 : ¬ (r : Int) = 0 := by omega
      have d3 : ¬ r = 0 := by omega
      clear HKI h2 hr
      go_wp2_with fail
      go_returns
      exact rs_nil HE.out HS.out.2
    have e2 : (sz : Int).tmod 24 = 0 := by
      rw [Int.tmod_eq_emod_of_nonneg (by omega)]
      omega
    obtain ⟨q, hq⟩ : ∃ q, sz / 24 = q := ⟨_, rfl⟩
    have e3 : (sz : Int).tdiv 24 = (q : Int) := by
      rw [Int.tdiv_eq_ediv_of_nonneg (by omega)]
      omega
    have u2 : IntKind.u64.wrap (q : Int) = (q : Int) := IntWalk.u64_in _ (by omega)
    by_cases h3 : q ≤ 200
    rotate_left
    · have HE := Lib.hid (rz_kind (z := z) (bn := bn) HLn.out HI.out.1 HI.out.2 (by rw [HKI.out, hq]; simp [h3]))
      have d3 : (200 : Int) < (q : Int) := by omega
      clear HKI h2 h3 hq
      go_wp2_with fail
      go_returns
      exact rs_nil HE.out HS.out.2
    have d3 : ¬ (200 : Int) < (q : Int) := by omega
    by_cases h4 : lk < n
    rotate_left
    · have HE := Lib.hid (rz_kind (z := z) (bn := bn) HLn.out HI.out.1 HI.out.2 (by rw [HKI.out, HL.out]; simp [h4]))
      have d4 : (n : Int) ≤ (lk : Int) := by omega
      clear HKI h2 h3 h4 hq
      go_wp2_with fail
      go_returns
      exact rs_nil HE.out HS.out.2
    have d4 : ¬ (n : Int) ≤ (lk : Int) := by omega
    have hlki : (lk : Int) < (n : Int) := by omega
    obtain ⟨x, hx⟩ : ∃ x, cs[lk]? = some x := ⟨cs[lk]'(by have := HL.out; omega), List.getElem?_eq_getElem _⟩
    have hxok := HOK.out x (List.mem_of_getElem? hx)
    obtain ⟨x2, o2, ha2, g0, g1, g2, g3, g4⟩ := Sc_at (HX.out wr HS.out.2) hx
    cases ha2
    have HK : Hid (kindsS (kd, of, sz, lk, 24) cs = (x.1 == 3)) := Lib.hid (by
      rw [HKI.out, HL.out, hq, hx]
      simp [h2, h3, h4])
    have HXX := Lib.hid hx
    have HQ := Lib.hid (And.intro hq h2)
    clear HKI h2 hx hq
    obtain ⟨xk, xo, xs, xl, xe⟩ := x
    obtain ⟨p0, pk1, pk2, pk3, pk4⟩ := hxok
    unfold V32 at p0 pk3
    unfold U at pk1 pk2 pk4
    dsimp only at *
    clear o0 pk3 pk4 p0 f0
    have HB9 : Hid (QB (wr.alloc (.cells #[.int .u32 (xk : Nat), .int .u64 (xo : Nat), .int .u64 (xs : Nat), .int .u32 (xl : Nat), .int .u64 (xe : Nat)] 54)) wr.heap.size (xk, xo, xs, xl, xe) ∧ Below w.heap.size w (wr.alloc (.cells #[.int .u32 (xk : Nat), .int .u64 (xo : Nat), .int .u64 (xs : Nat), .int .u32 (xl : Nat), .int .u64 (xe : Nat)] 54)) ∧ (wr.alloc (.cells #[.int .u32 (xk : Nat), .int .u64 (xo : Nat), .int .u64 (xs : Nat), .int .u32 (xl : Nat), .int .u64 (xe : Nat)] 54)).cell? ⟨x1, o1 + i * 5 + 1, none⟩ = some (.int .u64 (of : Nat)) ∧ (wr.alloc (.cells #[.int .u32 (xk : Nat), .int .u64 (xo : Nat), .int .u64 (xs : Nat), .int .u32 (xl : Nat), .int .u64 (xe : Nat)] 54)).cell? ⟨x1, o1 + i * 5 + 2, none⟩ = some (.int .u64 (sz : Nat))) := Lib.hid (by
      have hk := (Below.refl wr.heap.size wr).alloc (Nat.le_refl _) (.cells #[.int .u32 (xk : Nat), .int .u64 (xo : Nat), .int .u64 (xs : Nat), .int .u32 (xl : Nat), .int .u64 (xe : Nat)] 54)
      exact ⟨heap_alloc_last wr _, HS.out.2.trans (hk.mono HS.out.2.size), cell_keep f1 hk, cell_keep f2 hk⟩)
    go_upto_region 15 with fail
    generalize World.alloc wr _ = W2 at HB9 ⊢
    generalize wr.heap.size = b9 at HB9 ⊢
    clear f1 f2 f3 f4 g0 g1 g2 g3 g4 HS u0 u1 d3 d4 e2
    obtain ⟨c0, c1, c2, c3, c4⟩ := HB9.out.1.c
    obtain ⟨_, _, f1, f2⟩ := HB9.out
    dsimp only at c0 c1 c2 c3 c4
    by_cases h5 : xk = 3
    rotate_left
    · have HE := Lib.hid (rz_kind (z := z) (bn := bn) HLn.out HI.out.1 HI.out.2 (by rw [HK.out]; simpa using h5))
      have d5 : ¬ (xk : Int) = 3 := by omega
      clear h5 HK
      go_wp2_with fail
      go_returns
      exact rs_nil HE.out HB9.out.2.1
    have HKT : Hid (kindsS (kd, of, sz, lk, 24) cs = true) := Lib.hid (by rw [HK.out, h5]; rfl)
    subst h5
    rw [show ((3 : Nat) : Int) = 3 from rfl]
    clear HK c3 c4
    have HW1 := Lib.hid (fun (W : World) => rwithin_any ab bn bc of sz (by omega) ok1 ok2 W)
    have HW2 := Lib.hid (fun (W : World) => rwithin_any ab bn bc xo xs (by omega) pk1 pk2 W)
    have HB10 : Hid (∀ q, Below w.heap.size w (W2.drewN q)) := Lib.hid (fun q => below_drewN HB9.out.2.1 q)
    have mixed := mixedT
    cases hp1 : (decide (of ≤ bn) && decide (sz ≤ bn - of)) with
    | false =>
      have HE := Lib.hid (rz_place (z := z) (bn := bn) HLn.out HI.out.1 HI.out.2 HKT.out HXX.out (by unfold pieceB; dsimp only; rw [hp1]; rfl))
      rw [hp1] at HW1
      clear hp1 HW2
      go_wp2_with fail
      go_big_quiet_o (first | (go_at_call 26; with_reducible refine Calls.quiet_of_same (HW1.out _)) | fail)
      go_wp2_with fail
      go_returns
      exact rs_nil HE.out (HB10.out _)
    | true =>
      rw [hp1] at HW1
      cases hp2 : (decide (xo ≤ bn) && decide (xs ≤ bn - xo)) with
      | false =>
        have HE := Lib.hid (rz_place (z := z) (bn := bn) HLn.out HI.out.1 HI.out.2 HKT.out HXX.out (by unfold pieceB; dsimp only; rw [hp2, Bool.and_false]))
        rw [hp2] at HW2
        clear hp1 hp2
        go_wp2_with fail
        go_big_quiet_o (first | (go_at_call 26; with_reducible refine Calls.quiet_of_same (HW1.out _)) | (go_at_call 26; with_reducible refine Calls.quiet_of_same (HW2.out _)) | fail)
        go_wp2_with fail
        go_returns
        exact rs_nil HE.out (HB10.out _)
      | true =>
        rw [hp2] at HW2
        have HPP : Hid ((pieceB (kd, of, sz, lk, 24) bn && pieceB (3, xo, xs, xl, xe) bn) = true) := Lib.hid (by unfold pieceB; dsimp only; rw [hp1, hp2]; rfl)
        have hpo : of ≤ bn ∧ sz ≤ bn - of := by simpa using hp1
        have hpx : xo ≤ bn ∧ xs ≤ bn - xo := by simpa using hp2
        clear hp1 hp2
        go_wp2_with fail
        go_big_quiet_o (first | (go_at_call 26; with_reducible refine Calls.quiet_of_same (HW1.out _)) | (go_at_call 26; with_reducible refine Calls.quiet_of_same (HW2.out _)) | fail)
        clear c0 c1 c2 f1 f2 HW1 HW2
        go_wp2_with fail
        have HB11 : Hid (QB (W2.drewN nq) b9 (3, xo, xs, xl, xe) ∧ Below w.heap.size w (W2.drewN nq) ∧ (W2.drewN nq).cell? ⟨x1, o1 + i * 5 + 1, none⟩ = some (.int .u64 (of : Nat)) ∧ (W2.drewN nq).cell? ⟨x1, o1 + i * 5 + 2, none⟩ = some (.int .u64 (sz : Nat))) := Lib.hid ⟨HB9.out.1, HB10.out nq, HB9.out.2.2.1, HB9.out.2.2.2⟩
        clear HB9 HB10
        generalize W2.drewN nq = W3 at HB11 ⊢
        have HC3 : Hid (∀ W, Below W3.heap.size W3 W → W.cell? ⟨x1, o1 + i * 5 + 1, none⟩ = some (.int .u64 (of : Nat)) ∧ W.cell? ⟨x1, o1 + i * 5 + 2, none⟩ = some (.int .u64 (sz : Nat)) ∧ W.cell? ⟨b9, 1, none⟩ = some (.int .u64 (xo : Nat)) ∧ W.cell? ⟨b9, 2, none⟩ = some (.int .u64 (xs : Nat)) ∧ BZ W ab bn bc z) := Lib.hid (fun W hb => ⟨cell_keep HB11.out.2.2.1 hb, cell_keep HB11.out.2.2.2 hb, cell_keep HB11.out.1.c.2.1 hb, cell_keep HB11.out.1.c.2.2.1 hb, HZ.out W (HB11.out.2.1.trans (hb.mono HB11.out.2.1.size))⟩)
        have HB12 := Lib.hid HB11.out.2.1
        have HRZ := Lib.hid hzz
        have hN : rowsM sz = q - 1 := by unfold rowsM; rw [HQ.out.1]
        have HSZQ : Hid (sz = 24 * q) := Lib.hid (by have := HQ.out; omega)
        clear HB11 HX HZ
        go_loopw [10, 11] (fun v i W => ∃ (k : Nat) (L : List Sy), (k ≤ q - 1) ∧ i = .int .u64 ((k + 1 : Nat) : Int) ∧ Hid (symsZ (shZ z of) (shZ z xo) xs (List.range k) = some L) ∧ Hid (SY W3 L v W)) (fun _ i _ => q + 1 - (intOf i).toNat)
        case atStart => exact ⟨0, [], Nat.zero_le _, rfl, Lib.hid rfl, Lib.hid (SY.nil _ _ (Below.refl _ _))⟩
        case round =>
          obtain ⟨k, L, hk, rfl, HSL, HS⟩ := hrel
          rename_i vout _
          obtain ⟨f1, f2, c1, c2, hbz⟩ := HC3.out wr HS.out.2
          by_cases hlt : k < q - 1
          rotate_left
          · have HE := Lib.hid (rz_ok (z := z) (bn := bn) HLn.out HI.out.1 HI.out.2 HKT.out HXX.out HPP.out (l := L) (by
              have hkk : k = rowsM sz := by rw [hN]; omega
              dsimp only
              rw [← hkk]
              exact HSL.out))
            have d6 : ¬ ((k + 1 : Nat) : Int) < (q : Int) := by omega
            clear hbz
            go_wp2_with fail
            go_returns
            unfold rsOf
            rw [HE.out]
            exact ⟨_, rfl, HS.out.from HB12.out⟩
          have hk24 : 24 * (k + 1) + 24 ≤ sz := by have := HSZQ.out; omega
          obtain ⟨b, o, rfl, hcz⟩ := hbz.bs (by omega)
          clear hcz
          obtain ⟨kk, hkk⟩ : ∃ kk, k + 1 = kk := ⟨_, rfl⟩
          have HKK := Lib.hid hkk
          have hsub : ((k + 1 : Nat) : Int) = (kk : Int) := by rw [hkk]
          rw [hsub]
          clear hsub
          have d6 : (kk : Int) < (q : Int) := by omega
          have d6n : kk < q := by omega
          obtain ⟨m24, hm24⟩ : ∃ m24, 24 * kk = m24 := ⟨_, rfl⟩
          have um : IntKind.u64.wrap (24 * (kk : Int)) = (m24 : Int) := by
            rw [IntWalk.u64_in _ (by omega)]
            omega
          obtain ⟨at_, hat0⟩ : ∃ at_, of + m24 = at_ := ⟨_, rfl⟩
          have ua : IntKind.u64.wrap ((of : Int) + (m24 : Int)) = (at_ : Int) := by
            rw [IntWalk.u64_in _ (by omega)]
            omega
          have hat : of + 24 * (k + 1) = at_ := by omega
          have HLN := Lib.hid (show L.length ≤ 200 by have := syms_len HSL.out; omega)
          obtain ⟨a4, ha4⟩ : ∃ x, at_ + 4 = x := ⟨_, rfl⟩
          obtain ⟨a6, ha6⟩ : ∃ x, at_ + 6 = x := ⟨_, rfl⟩
          obtain ⟨a8, ha8⟩ : ∃ x, at_ + 8 = x := ⟨_, rfl⟩
          obtain ⟨a16, ha16⟩ : ∃ x, at_ + 16 = x := ⟨_, rfl⟩
          have hbb : at_ + 24 ≤ bn := by omega
          have ua4 : IntKind.u64.wrap ((at_ : Int) + 4) = (a4 : Int) := by
            rw [IntWalk.u64_in _ (by omega)]
            omega
          have ua6 : IntKind.u64.wrap ((at_ : Int) + 6) = (a6 : Int) := by
            rw [IntWalk.u64_in _ (by omega)]
            omega
          have ua8 : IntKind.u64.wrap ((at_ : Int) + 8) = (a8 : Int) := by
            rw [IntWalk.u64_in _ (by omega)]
            omega
          have ua16 : IntKind.u64.wrap ((at_ : Int) + 16) = (a16 : Int) := by
            rw [IntWalk.u64_in _ (by omega)]
            omega
          have b4 : (a4 : Int) < (bn : Int) := by omega
          have b4n : a4 < bn := by omega
          have ukk : IntKind.u64.wrap ((kk : Int) + 1) = ((kk + 1 : Nat) : Int) := by
            rw [IntWalk.u64_in _ (by omega)]
            omega
          obtain ⟨xz, hxz⟩ : ∃ xz, xo + xs = xz := ⟨_, rfl⟩
          have ux : IntKind.u64.wrap ((xo : Int) + (xs : Int)) = (xz : Int) := by
            rw [IntWalk.u64_in _ (by omega)]
            omega
          have i1 : (xo : Int) ≤ (xz : Int) := by omega
          have i2 : (xz : Int) ≤ (bc : Int) := by omega
          have i3 : xz ≤ bc := by omega
          have i4 : xo ≤ xz := by omega
          clear hkk hat0 hm24
          by_cases hcx0 : bc = xo
          · have hcx : (bc = xo) = True := eq_true hcx0
            have HCX := Lib.hid hcx0
            have hso : xz - xo = xs := by omega
            clear hcx0 hxz
            have hsy := symZ_at z (xo := xo) (xs := xs) hat
            have HNMn : ∀ on : Option ByteArray, nameZ (shZ z xo) xs (numZ z at_ 4) = on → Hid (∀ i, Calls Try.prog 27 #[.slice (some ⟨b, o, none⟩) xs (bc - xo), .int .u64 (numZ z at_ 4 : Nat)] (wr.drewN i) fun e W' => e = .returned (nameV on) ∧ W' = wr.drewN i) := fun on ho => Lib.hid (fun i => by
              have h1 := rname_any (some ⟨b, o, none⟩) xs (bc - xo) (shZ z xo) (fun j => HRZ.out _) (numZ z at_ 4) (by have := numZ_lt z HRZ.out at_ 4; omega) (wr.drewN i) ⟨.inr ⟨b, o, rfl, fun j hj => by have := HCX.out; omega⟩, by have := HCX.out; omega, by omega⟩
              rw [ho] at h1
              exact h1)
            have HT4 : Hid (∀ i, Calls Try.prog 28 #[.slice (some ⟨b, o, none⟩) bn bc, .int .u64 (at_ : Nat), .int .i64 4] (wr.drewN i) fun e W' => e = .returned (.int .u64 (numZ z at_ 4 : Nat)) ∧ W' = wr.drewN i) := Lib.hid (fun i => rnum_any _ bn bc z HRZ.out at_ 4 (by omega) (by decide) (by decide) _ (hbz.keep (below_drewN (Below.refl _ _) i)))
            have HT8 : Hid (∀ V, Below W3.heap.size W3 V → Calls Try.prog 28 #[.slice (some ⟨b, o, none⟩) bn bc, .int .u64 (a8 : Nat), .int .i64 8] V fun e W' => e = .returned (.int .u64 (numZ z (at_ + 8) 8 : Nat)) ∧ W' = V) := Lib.hid (fun V hV => by
              have h1 := rnum_any _ bn bc z HRZ.out (at_ + 8) 8 (by omega) (by decide) (by decide) V (HC3.out V hV).2.2.2.2
              rw [ha8] at h1 ⊢
              exact h1)
            have HT16 : Hid (∀ V, Below W3.heap.size W3 V → Calls Try.prog 28 #[.slice (some ⟨b, o, none⟩) bn bc, .int .u64 (a16 : Nat), .int .i64 8] V fun e W' => e = .returned (.int .u64 (numZ z (at_ + 16) 8 : Nat)) ∧ W' = V) := Lib.hid (fun V hV => by
              have h1 := rnum_any _ bn bc z HRZ.out (at_ + 16) 8 (by omega) (by decide) (by decide) V (HC3.out V hV).2.2.2.2
              rw [ha16] at h1 ⊢
              exact h1)
            have HT6 : Hid (∀ V, Below W3.heap.size W3 V → Calls Try.prog 28 #[.slice (some ⟨b, o, none⟩) bn bc, .int .u64 (a6 : Nat), .int .i64 2] V fun e W' => e = .returned (.int .u64 (numZ z (at_ + 6) 2 : Nat)) ∧ W' = V) := Lib.hid (fun V hV => by
              have h1 := rnum_any _ bn bc z HRZ.out (at_ + 6) 2 (by omega) (by decide) (by decide) V (HC3.out V hV).2.2.2.2
              rw [ha6] at h1 ⊢
              exact h1)
            have HCB : Hid (∀ V, Below W3.heap.size W3 V → V.cell? ⟨b, o + a4, none⟩ = some (.int .u8 (z (at_ + 4) : Nat))) := Lib.hid (fun V hV => by
              obtain ⟨b1, o1', he, hc⟩ := (HC3.out V hV).2.2.2.2.bs (by omega)
              cases he
              rw [← ha4]
              exact hc (at_ + 4) (by omega))
            have hm4 := HRZ.out (at_ + 4)
            have e15 : bits BinOp.and IntKind.u8 (z (at_ + 4) : Int) 15 = ((z (at_ + 4) % 16 : Nat) : Int) := low15c ⟨z (at_ + 4), hm4⟩
            clear hbz hm4 ha8 ha16 ha6 ha4 hat
            generalize numZ z at_ 4 = m0 at *
            generalize z (at_ + 4) = m4 at *
            generalize numZ z (at_ + 6) 2 = m6 at *
            generalize numZ z (at_ + 8) 8 = m8 at *
            generalize numZ z (at_ + 16) 8 = m16 at *
            rcases hnm : nameZ (shZ z xo) xs m0 with _ | nm
            · have HNM := HNMn _ hnm
              have HE := Lib.hid (rz_fail (z := z) (bn := bn) HLn.out HI.out.1 HI.out.2 HKT.out HXX.out HPP.out (by
                dsimp only
                exact syms_none HSL.out (by rw [hN]; exact hlt) (by rw [hsy, hnm]; rfl)))
              unfold nameV at HNM
              dsimp only at HNM
              clear hnm hsy e15 HNMn
              go_wp2_with fail
              go_big_quiet_o (first | (go_at_call 28; with_reducible refine Calls.quiet_of_same (HT4.out _)) | (go_at_call 27; with_reducible refine Calls.quiet_of_same (HNM.out _)) | fail)
              clear c1 c2 f1 f2 HNM HT4
              go_wp2_with fail
              go_returns
              exact rs_nil HE.out (HB12.out.trans ((below_drewN HS.out.2 nq).mono HB12.out.size))
            · have HNM := HNMn _ hnm
              unfold nameV at HNM
              dsimp only at HNM
              clear HNMn
              have HSY : Hid (symZ (shZ z of) (shZ z xo) xs k = some (nm, m8, m16, (m4 % 16 == 2) && !(m6 == 0))) := Lib.hid (by rw [hsy, hnm]; rfl)
              clear hnm hsy
              go_wp2_with fail
              go_big_quiet_o (first | (go_at_call 28; with_reducible refine Calls.quiet_of_same (HT4.out _)) | (go_at_call 27; with_reducible refine Calls.quiet_of_same (HNM.out _)) | fail)
              clear c1 c2 f1 f2 HNM HT4
              go_wp2_with fail
              have HS4 : Hid (SY W3 L u10 (wr.drewN nq)) := Lib.hid (HS.out.keep (below_drewN (Below.refl _ _) nq))
              generalize wr.drewN nq = W4 at HS4 ⊢
              clear HS
              by_cases hf1 : m4 % 16 = 2
              · rw [hf1] at e15
                replace e15 : bits BinOp.and IntKind.u8 (m4 : Int) 15 = 2 := e15
                have HF1 := Lib.hid hf1
                by_cases hf2 : m6 = 0
                · subst hf2
                  have HF2 := Lib.hid (show (0 : Nat) = 0 from rfl)
                  have HO := Lib.hid (own_keep HS4.out.1 (Below.refl _ _).drew)
                  refine wp_region_noPanic ?_
                  refine wp_region_held_drew (S := fun W : World => Below W3.heap.size W3 W) (by kernel_rfl) ?_ (fun hHeld => ?_)
                  · exact HS4.out.2.drew
                  generalize World.drew _ = V5 at HO hHeld ⊢
                  refine wpAnyH_take (i := 0) (v := ?_) rfl (by kernel_rfl) (by kernel_rfl) (by kernel_rfl) (fun _ _ _ h => h) (Or.inl ⟨by kernel_rfl, ?_⟩) (by assumption) ?_
                  rotate_left
                  · intro wv hSw
                    go_simp
                    try with_reducible rfl
                  simp only [Act.put, List.setIfInBounds_toArray, List.set_cons_zero, List.set_cons_succ, List.getElem_toArray, List.getElem_cons_succ, List.getElem_cons_zero]
                  refine wpAnyH_take (i := 1) (v := ?_) rfl (by kernel_rfl) (by kernel_rfl) (by kernel_rfl) (fun _ _ _ h => h) (Or.inl ⟨by kernel_rfl, ?_⟩) (by assumption) ?_
                  rotate_left
                  · intro wv hSw
                    go_simp
                    try with_reducible rfl
                  simp only [Act.put, List.setIfInBounds_toArray, List.set_cons_zero, List.set_cons_succ, List.getElem_toArray, List.getElem_cons_succ, List.getElem_cons_zero]
                  refine wpAnyH_take (i := 2) (v := ?_) rfl (by kernel_rfl) (by kernel_rfl) (by kernel_rfl) (fun _ _ _ h => h) (Or.inl ⟨by kernel_rfl, ?_⟩) (by assumption) ?_
                  rotate_left
                  · intro wv hSw
                    go_simp
                    try with_reducible rfl
                  simp only [Act.put, List.setIfInBounds_toArray, List.set_cons_zero, List.set_cons_succ, List.getElem_toArray, List.getElem_cons_succ, List.getElem_cons_zero]
                  refine wpAnyH_take (i := 3) (v := ?_) rfl (by kernel_rfl) (by kernel_rfl) (by kernel_rfl) (fun _ _ _ h => h) (Or.inl ⟨by kernel_rfl, ?_⟩) (by assumption) ?_
                  rotate_left
                  · intro wv hSw
                    go_simp
                    try with_reducible rfl
                  simp only [Act.put, List.setIfInBounds_toArray, List.set_cons_zero, List.set_cons_succ, List.getElem_toArray, List.getElem_cons_succ, List.getElem_cons_zero]
                  refine wpAnyH_take (i := 4) (v := ?_) rfl (by kernel_rfl) (by kernel_rfl) (by kernel_rfl) (fun _ _ _ h => h) (Or.inl ⟨by kernel_rfl, ?_⟩) (by assumption) ?_
                  rotate_left
                  · intro wv hSw
                    go_simp
                    try with_reducible rfl
                  simp only [Act.put, List.setIfInBounds_toArray, List.set_cons_zero, List.set_cons_succ, List.getElem_toArray, List.getElem_cons_succ, List.getElem_cons_zero]
                  refine wpAnyH_take (i := 6) (v := ?_) rfl (by kernel_rfl) (by kernel_rfl) (by kernel_rfl) (fun _ _ _ h => h) (Or.inl ⟨by kernel_rfl, ?_⟩) (by assumption) ?_
                  rotate_left
                  · intro wv hSw
                    go_simp
                    try with_reducible rfl
                  simp only [Act.put, List.setIfInBounds_toArray, List.set_cons_zero, List.set_cons_succ, List.getElem_toArray, List.getElem_cons_succ, List.getElem_cons_zero]
                  refine wpAnyH_take (i := 7) (v := ?_) rfl (by kernel_rfl) (by kernel_rfl) (by kernel_rfl) (fun _ _ _ h => h) (Or.inl ⟨by kernel_rfl, ?_⟩) (by assumption) ?_
                  rotate_left
                  · intro wv hSw
                    go_simp
                    try with_reducible rfl
                  simp only [Act.put, List.setIfInBounds_toArray, List.set_cons_zero, List.set_cons_succ, List.getElem_toArray, List.getElem_cons_succ, List.getElem_cons_zero]
                  refine wpAnyH_take (i := 8) (v := ?_) rfl (by kernel_rfl) (by kernel_rfl) (by kernel_rfl) (fun _ _ _ h => h) (Or.inl ⟨by kernel_rfl, ?_⟩) (by assumption) ?_
                  rotate_left
                  · intro wv hSw
                    go_simp
                    try with_reducible rfl
                  simp only [Act.put, List.setIfInBounds_toArray, List.set_cons_zero, List.set_cons_succ, List.getElem_toArray, List.getElem_cons_succ, List.getElem_cons_zero]
                  refine wpAnyH_take (i := 10) (v := ?_) rfl (by kernel_rfl) (by kernel_rfl) (by kernel_rfl) (fun _ _ _ h => h) (Or.inl ⟨by kernel_rfl, ?_⟩) (by assumption) ?_
                  rotate_left
                  · intro wv hSw
                    go_simp
                    try with_reducible rfl
                  simp only [Act.put, List.setIfInBounds_toArray, List.set_cons_zero, List.set_cons_succ, List.getElem_toArray, List.getElem_cons_succ, List.getElem_cons_zero]
                  refine wpAnyH_take (i := 11) (v := ?_) rfl (by kernel_rfl) (by kernel_rfl) (by kernel_rfl) (fun _ _ _ h => h) (Or.inl ⟨by kernel_rfl, ?_⟩) (by assumption) ?_
                  rotate_left
                  · intro wv hSw
                    go_simp
                    try with_reducible rfl
                  simp only [Act.put, List.setIfInBounds_toArray, List.set_cons_zero, List.set_cons_succ, List.getElem_toArray, List.getElem_cons_succ, List.getElem_cons_zero]
                  refine wpAnyH_take (i := 12) (v := ?_) rfl (by kernel_rfl) (by kernel_rfl) (by kernel_rfl) (fun _ _ _ h => h) (Or.inl ⟨by kernel_rfl, ?_⟩) (by assumption) ?_
                  rotate_left
                  · intro wv hSw
                    go_simp
                    try with_reducible rfl
                  simp only [Act.put, List.setIfInBounds_toArray, List.set_cons_zero, List.set_cons_succ, List.getElem_toArray, List.getElem_cons_succ, List.getElem_cons_zero]
                  refine wpAnyH_take (i := 13) (v := ?_) rfl (by kernel_rfl) (by kernel_rfl) (by kernel_rfl) (fun _ _ _ h => h) (Or.inl ⟨by kernel_rfl, ?_⟩) (by assumption) ?_
                  rotate_left
                  · intro wv hSw
                    go_simp
                    try with_reducible rfl
                  simp only [Act.put, List.setIfInBounds_toArray, List.set_cons_zero, List.set_cons_succ, List.getElem_toArray, List.getElem_cons_succ, List.getElem_cons_zero]
                  refine wpAnyH_take (i := 14) (v := ?_) rfl (by kernel_rfl) (by kernel_rfl) (by kernel_rfl) (fun _ _ _ h => h) (Or.inl ⟨by kernel_rfl, ?_⟩) (by assumption) ?_
                  rotate_left
                  · intro wv hSw
                    have cq := HCB.out wv hSw
                    go_simp
                    try with_reducible rfl
                  simp only [Act.put, List.setIfInBounds_toArray, List.set_cons_zero, List.set_cons_succ, List.getElem_toArray, List.getElem_cons_succ, List.getElem_cons_zero]
                  refine wpAnyH_take (i := 15) (v := ?_) rfl (by kernel_rfl) (by kernel_rfl) (by kernel_rfl) (fun _ _ _ h => h) (Or.inl ⟨by kernel_rfl, ?_⟩) (by assumption) ?_
                  rotate_left
                  · intro wv hSw
                    go_simp
                    try with_reducible rfl
                  simp only [Act.put, List.setIfInBounds_toArray, List.set_cons_zero, List.set_cons_succ, List.getElem_toArray, List.getElem_cons_succ, List.getElem_cons_zero]
                  refine wpAnyH_take (i := 16) (v := ?_) rfl (by kernel_rfl) (by kernel_rfl) (by kernel_rfl) (fun _ _ _ h => h) (Or.inl ⟨by kernel_rfl, ?_⟩) (by assumption) ?_
                  rotate_left
                  · intro wv hSw
                    go_simp
                    try with_reducible rfl
                  simp only [Act.put, List.setIfInBounds_toArray, List.set_cons_zero, List.set_cons_succ, List.getElem_toArray, List.getElem_cons_succ, List.getElem_cons_zero]
                  refine wpAnyH_ready (rs := [5]) (by kernel_rfl) (by simp) ?_
                  refine AllReadyH.cons rfl (fun K hK => ?_) (AllReadyH.nil)
                  go_simp
                  go_at_call 28
                  with_reducible refine (HT8.out _ hHeld).mono ?_
                  rintro e W9x ⟨rfl, hw9⟩
                  rw [hw9]
                  clear hw9
                  refine hK.out _ _ hHeld (fun hHeld2 => ?_)
                  clear hK K hHeld2
                  try simp only [Act.put, List.setIfInBounds_toArray, List.set_cons_zero, List.set_cons_succ, List.getElem_toArray, List.getElem_cons_succ, List.getElem_cons_zero]
                  refine wpAnyH_ready (rs := [9]) (by kernel_rfl) (by simp) ?_
                  refine AllReadyH.cons rfl (fun K hK => ?_) (AllReadyH.nil)
                  go_simp
                  go_at_call 28
                  with_reducible refine (HT16.out _ hHeld).mono ?_
                  rintro e W9x ⟨rfl, hw9⟩
                  rw [hw9]
                  clear hw9
                  refine hK.out _ _ hHeld (fun hHeld2 => ?_)
                  clear hK K hHeld2
                  try simp only [Act.put, List.setIfInBounds_toArray, List.set_cons_zero, List.set_cons_succ, List.getElem_toArray, List.getElem_cons_succ, List.getElem_cons_zero]
                  refine wpAnyH_take (i := 17) (v := ?_) rfl (by kernel_rfl) (by kernel_rfl) (by kernel_rfl) (fun _ _ _ h => h) (Or.inl ⟨by kernel_rfl, ?_⟩) (by assumption) ?_
                  rotate_left
                  · intro wv hSw
                    go_simp
                    try with_reducible rfl
                  simp only [Act.put, List.setIfInBounds_toArray, List.set_cons_zero, List.set_cons_succ, List.getElem_toArray, List.getElem_cons_succ, List.getElem_cons_zero]
                  refine wpAnyH_take (i := 18) (v := ?_) rfl (by kernel_rfl) (by kernel_rfl) (by kernel_rfl) (fun _ _ _ h => h) (Or.inl ⟨by kernel_rfl, ?_⟩) (by assumption) ?_
                  rotate_left
                  · intro wv hSw
                    go_simp
                    try with_reducible rfl
                  simp only [Act.put, List.setIfInBounds_toArray, List.set_cons_zero, List.set_cons_succ, List.getElem_toArray, List.getElem_cons_succ, List.getElem_cons_zero]
                  refine wpAnyH_take (i := 19) (v := ?_) rfl (by kernel_rfl) (by kernel_rfl) (by kernel_rfl) (fun _ _ _ h => h) (Or.inl ⟨by kernel_rfl, ?_⟩) (by assumption) ?_
                  rotate_left
                  · intro wv hSw
                    go_simp
                    try with_reducible rfl
                  simp only [Act.put, List.setIfInBounds_toArray, List.set_cons_zero, List.set_cons_succ, List.getElem_toArray, List.getElem_cons_succ, List.getElem_cons_zero]
                  refine wpAnyH_take (i := 20) (v := ?_) rfl (by kernel_rfl) (by kernel_rfl) (by kernel_rfl) (fun _ _ _ h => h) (Or.inl ⟨by kernel_rfl, ?_⟩) (by assumption) ?_
                  rotate_left
                  · intro wv hSw
                    go_simp
                    try with_reducible rfl
                  simp only [Act.put, List.setIfInBounds_toArray, List.set_cons_zero, List.set_cons_succ, List.getElem_toArray, List.getElem_cons_succ, List.getElem_cons_zero]
                  refine wpAnyH_ready (rs := [21]) (by kernel_rfl) (by simp) ?_
                  refine AllReadyH.cons rfl (fun K hK => ?_) (AllReadyH.nil)
                  go_simp
                  go_at_call 28
                  with_reducible refine (HT6.out _ hHeld).mono ?_
                  rintro e W9x ⟨rfl, hw9⟩
                  rw [hw9]
                  clear hw9
                  refine hK.out _ _ hHeld (fun hHeld2 => ?_)
                  clear hK K hHeld2
                  try simp only [Act.put, List.setIfInBounds_toArray, List.set_cons_zero, List.set_cons_succ, List.getElem_toArray, List.getElem_cons_succ, List.getElem_cons_zero]
                  refine wpAnyH_take (i := 22) (v := ?_) rfl (by kernel_rfl) (by kernel_rfl) (by kernel_rfl) (fun _ _ _ h => h) (Or.inl ⟨by kernel_rfl, ?_⟩) (by assumption) ?_
                  rotate_left
                  · intro wv hSw
                    go_simp
                    try with_reducible rfl
                  simp only [Act.put, List.setIfInBounds_toArray, List.set_cons_zero, List.set_cons_succ, List.getElem_toArray, List.getElem_cons_succ, List.getElem_cons_zero]
                  refine wpAnyH_take (i := 23) (v := ?_) rfl (by kernel_rfl) (by kernel_rfl) (by kernel_rfl) (fun _ _ _ h => h) (Or.inl ⟨by kernel_rfl, ?_⟩) (by assumption) ?_
                  rotate_left
                  · intro wv hSw
                    go_simp
                    try with_reducible rfl
                  simp only [Act.put, List.setIfInBounds_toArray, List.set_cons_zero, List.set_cons_succ, List.getElem_toArray, List.getElem_cons_succ, List.getElem_cons_zero]
                  refine wpAnyH_take (i := 24) (v := ?_) rfl (by kernel_rfl) (by kernel_rfl) (by kernel_rfl) (fun _ _ _ h => h) (Or.inl ⟨by kernel_rfl, ?_⟩) (by assumption) ?_
                  rotate_left
                  · intro wv hSw
                    go_simp
                    try with_reducible rfl
                  simp only [Act.put, List.setIfInBounds_toArray, List.set_cons_zero, List.set_cons_succ, List.getElem_toArray, List.getElem_cons_succ, List.getElem_cons_zero]
                  refine wpAnyH_ready (rs := [25]) (by kernel_rfl) (by simp) ?_
                  refine AllReadyH.cons rfl (fun K hK => ?_) (AllReadyH.nil)
                  have h9 : YB (World.alloc V5 (.cells #[.string nm, .int .u64 (m8 : Nat), .int .u64 (m16 : Nat), .bool false] 42)) (World.heap V5).size (nm, m8, m16, false) := heap_alloc_last V5 _
                  have hB : Below W3.heap.size W3 (World.alloc V5 (.cells #[.string nm, .int .u64 (m8 : Nat), .int .u64 (m16 : Nat), .bool false] 42)) := hHeld.alloc hHeld.size _
                  have HO2 := Lib.hid (own_keep HO.out ((Below.refl _ _).alloc (Nat.le_refl _) (.cells #[.string nm, .int .u64 (m8 : Nat), .int .u64 (m16 : Nat), .bool false] 42)))
                  clear HO
                  go_simp
                  refine hK.out _ _ hB (fun hHeld2 => ?_)
                  clear hK K hHeld hHeld2
                  have HB9 := Lib.hid h9
                  clear h9
                  generalize World.alloc V5 _ = V6 at HB9 hB HO2 ⊢
                  generalize (World.heap V5).size = b6 at HB9 ⊢
                  have hHeld : (fun W : World => Below W3.heap.size W3 W) V6 := hB
                  clear hB
                  try simp only [Act.put, List.setIfInBounds_toArray, List.set_cons_zero, List.set_cons_succ, List.getElem_toArray, List.getElem_cons_succ, List.getElem_cons_zero]
                  refine wpAnyH_ready (rs := [26]) (by kernel_rfl) (by simp) ?_
                  refine AllReadyH.cons rfl (fun K hK => ?_) (AllReadyH.nil)
                  rw [if_pos (by kernel_rfl)]
                  refine wp_app_syms (x := .tmp 141) (y := .tmp 166) (base := W3.heap.size) (v := u10) (n := L.length) (xs := cellsY L) (M := [(nm, m8, m16, false)]) rfl rfl rfl HO2.out (.inr ⟨_, rfl, rfl, src_one HB9.out⟩) (by have := HLN.out; omega) hHeld.size ?_
                  intro v9 V9 hown hgr
                  have hB := hHeld.grown hgr hHeld.size (fun x e => owns_block HO2.out x e)
                  refine hK.out _ _ hB (fun hHeld2 => ?_)
                  clear hK K hHeld hHeld2 hgr HO2 HB9
                  have HN9 := Lib.hid (sy_snoc hown hB)
                  clear hown
                  have hHeld : (fun W : World => Below W3.heap.size W3 W) V9 := hB
                  clear hB
                  try simp only [Act.put, List.setIfInBounds_toArray, List.set_cons_zero, List.set_cons_succ, List.getElem_toArray, List.getElem_cons_succ, List.getElem_cons_zero]
                  refine wpAnyH_take (i := 27) (v := ?_) rfl (by kernel_rfl) (by kernel_rfl) (by kernel_rfl) (fun _ _ _ h => h) (Or.inl ⟨by kernel_rfl, ?_⟩) (by assumption) ?_
                  rotate_left
                  · intro wv hSw
                    go_simp
                    try with_reducible rfl
                  simp only [Act.put, List.setIfInBounds_toArray, List.set_cons_zero, List.set_cons_succ, List.getElem_toArray, List.getElem_cons_succ, List.getElem_cons_zero]
                  refine wpAnyH_done (by kernel_rfl) ?_ _
                  refine NoPanic.normal ?_
                  clear hHeld
                  have HSN := Lib.hid (syms_some HSL.out (s := (nm, m8, m16, false)) (by rw [HSY.out]; simp [HF1.out, HF2.out]))
                  go_wp2_with fail
                  go_roundw
                  case rel => exact ⟨k + 1, L ++ [(nm, m8, m16, false)], by omega, by first | done | (congr 1; have := HKK.out; omega), HSN, HN9⟩
                  case measure => have := HKK.out; simp [intOf]; omega
                · have dm : ((m6 : Int) == 0) = false := by
                    rw [beq_eq_false_iff_ne]
                    omega
                  have dm2 : ((m6 : Int) != 0) = true := by rw [bne, dm]; rfl
                  have dm3 : ¬ (m6 : Int) = 0 := by omega
                  have HF2 := Lib.hid hf2
                  have HO := Lib.hid (own_keep HS4.out.1 (Below.refl _ _).drew)
                  refine wp_region_noPanic ?_
                  refine wp_region_held_drew (S := fun W : World => Below W3.heap.size W3 W) (by kernel_rfl) ?_ (fun hHeld => ?_)
                  · exact HS4.out.2.drew
                  generalize World.drew _ = V5 at HO hHeld ⊢
                  refine wpAnyH_take (i := 0) (v := ?_) rfl (by kernel_rfl) (by kernel_rfl) (by kernel_rfl) (fun _ _ _ h => h) (Or.inl ⟨by kernel_rfl, ?_⟩) (by assumption) ?_
                  rotate_left
                  · intro wv hSw
                    go_simp
                    try with_reducible rfl
                  simp only [Act.put, List.setIfInBounds_toArray, List.set_cons_zero, List.set_cons_succ, List.getElem_toArray, List.getElem_cons_succ, List.getElem_cons_zero]
                  refine wpAnyH_take (i := 1) (v := ?_) rfl (by kernel_rfl) (by kernel_rfl) (by kernel_rfl) (fun _ _ _ h => h) (Or.inl ⟨by kernel_rfl, ?_⟩) (by assumption) ?_
                  rotate_left
                  · intro wv hSw
                    go_simp
                    try with_reducible rfl
                  simp only [Act.put, List.setIfInBounds_toArray, List.set_cons_zero, List.set_cons_succ, List.getElem_toArray, List.getElem_cons_succ, List.getElem_cons_zero]
                  refine wpAnyH_take (i := 2) (v := ?_) rfl (by kernel_rfl) (by kernel_rfl) (by kernel_rfl) (fun _ _ _ h => h) (Or.inl ⟨by kernel_rfl, ?_⟩) (by assumption) ?_
                  rotate_left
                  · intro wv hSw
                    go_simp
                    try with_reducible rfl
                  simp only [Act.put, List.setIfInBounds_toArray, List.set_cons_zero, List.set_cons_succ, List.getElem_toArray, List.getElem_cons_succ, List.getElem_cons_zero]
                  refine wpAnyH_take (i := 3) (v := ?_) rfl (by kernel_rfl) (by kernel_rfl) (by kernel_rfl) (fun _ _ _ h => h) (Or.inl ⟨by kernel_rfl, ?_⟩) (by assumption) ?_
                  rotate_left
                  · intro wv hSw
                    go_simp
                    try with_reducible rfl
                  simp only [Act.put, List.setIfInBounds_toArray, List.set_cons_zero, List.set_cons_succ, List.getElem_toArray, List.getElem_cons_succ, List.getElem_cons_zero]
                  refine wpAnyH_take (i := 4) (v := ?_) rfl (by kernel_rfl) (by kernel_rfl) (by kernel_rfl) (fun _ _ _ h => h) (Or.inl ⟨by kernel_rfl, ?_⟩) (by assumption) ?_
                  rotate_left
                  · intro wv hSw
                    go_simp
                    try with_reducible rfl
                  simp only [Act.put, List.setIfInBounds_toArray, List.set_cons_zero, List.set_cons_succ, List.getElem_toArray, List.getElem_cons_succ, List.getElem_cons_zero]
                  refine wpAnyH_take (i := 6) (v := ?_) rfl (by kernel_rfl) (by kernel_rfl) (by kernel_rfl) (fun _ _ _ h => h) (Or.inl ⟨by kernel_rfl, ?_⟩) (by assumption) ?_
                  rotate_left
                  · intro wv hSw
                    go_simp
                    try with_reducible rfl
                  simp only [Act.put, List.setIfInBounds_toArray, List.set_cons_zero, List.set_cons_succ, List.getElem_toArray, List.getElem_cons_succ, List.getElem_cons_zero]
                  refine wpAnyH_take (i := 7) (v := ?_) rfl (by kernel_rfl) (by kernel_rfl) (by kernel_rfl) (fun _ _ _ h => h) (Or.inl ⟨by kernel_rfl, ?_⟩) (by assumption) ?_
                  rotate_left
                  · intro wv hSw
                    go_simp
                    try with_reducible rfl
                  simp only [Act.put, List.setIfInBounds_toArray, List.set_cons_zero, List.set_cons_succ, List.getElem_toArray, List.getElem_cons_succ, List.getElem_cons_zero]
                  refine wpAnyH_take (i := 8) (v := ?_) rfl (by kernel_rfl) (by kernel_rfl) (by kernel_rfl) (fun _ _ _ h => h) (Or.inl ⟨by kernel_rfl, ?_⟩) (by assumption) ?_
                  rotate_left
                  · intro wv hSw
                    go_simp
                    try with_reducible rfl
                  simp only [Act.put, List.setIfInBounds_toArray, List.set_cons_zero, List.set_cons_succ, List.getElem_toArray, List.getElem_cons_succ, List.getElem_cons_zero]
                  refine wpAnyH_take (i := 10) (v := ?_) rfl (by kernel_rfl) (by kernel_rfl) (by kernel_rfl) (fun _ _ _ h => h) (Or.inl ⟨by kernel_rfl, ?_⟩) (by assumption) ?_
                  rotate_left
                  · intro wv hSw
                    go_simp
                    try with_reducible rfl
                  simp only [Act.put, List.setIfInBounds_toArray, List.set_cons_zero, List.set_cons_succ, List.getElem_toArray, List.getElem_cons_succ, List.getElem_cons_zero]
                  refine wpAnyH_take (i := 11) (v := ?_) rfl (by kernel_rfl) (by kernel_rfl) (by kernel_rfl) (fun _ _ _ h => h) (Or.inl ⟨by kernel_rfl, ?_⟩) (by assumption) ?_
                  rotate_left
                  · intro wv hSw
                    go_simp
                    try with_reducible rfl
                  simp only [Act.put, List.setIfInBounds_toArray, List.set_cons_zero, List.set_cons_succ, List.getElem_toArray, List.getElem_cons_succ, List.getElem_cons_zero]
                  refine wpAnyH_take (i := 12) (v := ?_) rfl (by kernel_rfl) (by kernel_rfl) (by kernel_rfl) (fun _ _ _ h => h) (Or.inl ⟨by kernel_rfl, ?_⟩) (by assumption) ?_
                  rotate_left
                  · intro wv hSw
                    go_simp
                    try with_reducible rfl
                  simp only [Act.put, List.setIfInBounds_toArray, List.set_cons_zero, List.set_cons_succ, List.getElem_toArray, List.getElem_cons_succ, List.getElem_cons_zero]
                  refine wpAnyH_take (i := 13) (v := ?_) rfl (by kernel_rfl) (by kernel_rfl) (by kernel_rfl) (fun _ _ _ h => h) (Or.inl ⟨by kernel_rfl, ?_⟩) (by assumption) ?_
                  rotate_left
                  · intro wv hSw
                    go_simp
                    try with_reducible rfl
                  simp only [Act.put, List.setIfInBounds_toArray, List.set_cons_zero, List.set_cons_succ, List.getElem_toArray, List.getElem_cons_succ, List.getElem_cons_zero]
                  refine wpAnyH_take (i := 14) (v := ?_) rfl (by kernel_rfl) (by kernel_rfl) (by kernel_rfl) (fun _ _ _ h => h) (Or.inl ⟨by kernel_rfl, ?_⟩) (by assumption) ?_
                  rotate_left
                  · intro wv hSw
                    have cq := HCB.out wv hSw
                    go_simp
                    try with_reducible rfl
                  simp only [Act.put, List.setIfInBounds_toArray, List.set_cons_zero, List.set_cons_succ, List.getElem_toArray, List.getElem_cons_succ, List.getElem_cons_zero]
                  refine wpAnyH_take (i := 15) (v := ?_) rfl (by kernel_rfl) (by kernel_rfl) (by kernel_rfl) (fun _ _ _ h => h) (Or.inl ⟨by kernel_rfl, ?_⟩) (by assumption) ?_
                  rotate_left
                  · intro wv hSw
                    go_simp
                    try with_reducible rfl
                  simp only [Act.put, List.setIfInBounds_toArray, List.set_cons_zero, List.set_cons_succ, List.getElem_toArray, List.getElem_cons_succ, List.getElem_cons_zero]
                  refine wpAnyH_take (i := 16) (v := ?_) rfl (by kernel_rfl) (by kernel_rfl) (by kernel_rfl) (fun _ _ _ h => h) (Or.inl ⟨by kernel_rfl, ?_⟩) (by assumption) ?_
                  rotate_left
                  · intro wv hSw
                    go_simp
                    try with_reducible rfl
                  simp only [Act.put, List.setIfInBounds_toArray, List.set_cons_zero, List.set_cons_succ, List.getElem_toArray, List.getElem_cons_succ, List.getElem_cons_zero]
                  refine wpAnyH_ready (rs := [5]) (by kernel_rfl) (by simp) ?_
                  refine AllReadyH.cons rfl (fun K hK => ?_) (AllReadyH.nil)
                  go_simp
                  go_at_call 28
                  with_reducible refine (HT8.out _ hHeld).mono ?_
                  rintro e W9x ⟨rfl, hw9⟩
                  rw [hw9]
                  clear hw9
                  refine hK.out _ _ hHeld (fun hHeld2 => ?_)
                  clear hK K hHeld2
                  try simp only [Act.put, List.setIfInBounds_toArray, List.set_cons_zero, List.set_cons_succ, List.getElem_toArray, List.getElem_cons_succ, List.getElem_cons_zero]
                  refine wpAnyH_ready (rs := [9]) (by kernel_rfl) (by simp) ?_
                  refine AllReadyH.cons rfl (fun K hK => ?_) (AllReadyH.nil)
                  go_simp
                  go_at_call 28
                  with_reducible refine (HT16.out _ hHeld).mono ?_
                  rintro e W9x ⟨rfl, hw9⟩
                  rw [hw9]
                  clear hw9
                  refine hK.out _ _ hHeld (fun hHeld2 => ?_)
                  clear hK K hHeld2
                  try simp only [Act.put, List.setIfInBounds_toArray, List.set_cons_zero, List.set_cons_succ, List.getElem_toArray, List.getElem_cons_succ, List.getElem_cons_zero]
                  refine wpAnyH_take (i := 17) (v := ?_) rfl (by kernel_rfl) (by kernel_rfl) (by kernel_rfl) (fun _ _ _ h => h) (Or.inl ⟨by kernel_rfl, ?_⟩) (by assumption) ?_
                  rotate_left
                  · intro wv hSw
                    go_simp
                    try with_reducible rfl
                  simp only [Act.put, List.setIfInBounds_toArray, List.set_cons_zero, List.set_cons_succ, List.getElem_toArray, List.getElem_cons_succ, List.getElem_cons_zero]
                  refine wpAnyH_take (i := 18) (v := ?_) rfl (by kernel_rfl) (by kernel_rfl) (by kernel_rfl) (fun _ _ _ h => h) (Or.inl ⟨by kernel_rfl, ?_⟩) (by assumption) ?_
                  rotate_left
                  · intro wv hSw
                    go_simp
                    try with_reducible rfl
                  simp only [Act.put, List.setIfInBounds_toArray, List.set_cons_zero, List.set_cons_succ, List.getElem_toArray, List.getElem_cons_succ, List.getElem_cons_zero]
                  refine wpAnyH_take (i := 19) (v := ?_) rfl (by kernel_rfl) (by kernel_rfl) (by kernel_rfl) (fun _ _ _ h => h) (Or.inl ⟨by kernel_rfl, ?_⟩) (by assumption) ?_
                  rotate_left
                  · intro wv hSw
                    go_simp
                    try with_reducible rfl
                  simp only [Act.put, List.setIfInBounds_toArray, List.set_cons_zero, List.set_cons_succ, List.getElem_toArray, List.getElem_cons_succ, List.getElem_cons_zero]
                  refine wpAnyH_take (i := 20) (v := ?_) rfl (by kernel_rfl) (by kernel_rfl) (by kernel_rfl) (fun _ _ _ h => h) (Or.inl ⟨by kernel_rfl, ?_⟩) (by assumption) ?_
                  rotate_left
                  · intro wv hSw
                    go_simp
                    try with_reducible rfl
                  simp only [Act.put, List.setIfInBounds_toArray, List.set_cons_zero, List.set_cons_succ, List.getElem_toArray, List.getElem_cons_succ, List.getElem_cons_zero]
                  refine wpAnyH_ready (rs := [21]) (by kernel_rfl) (by simp) ?_
                  refine AllReadyH.cons rfl (fun K hK => ?_) (AllReadyH.nil)
                  go_simp
                  go_at_call 28
                  with_reducible refine (HT6.out _ hHeld).mono ?_
                  rintro e W9x ⟨rfl, hw9⟩
                  rw [hw9]
                  clear hw9
                  refine hK.out _ _ hHeld (fun hHeld2 => ?_)
                  clear hK K hHeld2
                  try simp only [Act.put, List.setIfInBounds_toArray, List.set_cons_zero, List.set_cons_succ, List.getElem_toArray, List.getElem_cons_succ, List.getElem_cons_zero]
                  refine wpAnyH_take (i := 22) (v := ?_) rfl (by kernel_rfl) (by kernel_rfl) (by kernel_rfl) (fun _ _ _ h => h) (Or.inl ⟨by kernel_rfl, ?_⟩) (by assumption) ?_
                  rotate_left
                  · intro wv hSw
                    go_simp
                    try with_reducible rfl
                  simp only [Act.put, List.setIfInBounds_toArray, List.set_cons_zero, List.set_cons_succ, List.getElem_toArray, List.getElem_cons_succ, List.getElem_cons_zero]
                  refine wpAnyH_take (i := 23) (v := ?_) rfl (by kernel_rfl) (by kernel_rfl) (by kernel_rfl) (fun _ _ _ h => h) (Or.inl ⟨by kernel_rfl, ?_⟩) (by assumption) ?_
                  rotate_left
                  · intro wv hSw
                    go_simp
                    try with_reducible rfl
                  simp only [Act.put, List.setIfInBounds_toArray, List.set_cons_zero, List.set_cons_succ, List.getElem_toArray, List.getElem_cons_succ, List.getElem_cons_zero]
                  refine wpAnyH_take (i := 24) (v := ?_) rfl (by kernel_rfl) (by kernel_rfl) (by kernel_rfl) (fun _ _ _ h => h) (Or.inl ⟨by kernel_rfl, ?_⟩) (by assumption) ?_
                  rotate_left
                  · intro wv hSw
                    go_simp
                    try with_reducible rfl
                  simp only [Act.put, List.setIfInBounds_toArray, List.set_cons_zero, List.set_cons_succ, List.getElem_toArray, List.getElem_cons_succ, List.getElem_cons_zero]
                  refine wpAnyH_ready (rs := [25]) (by kernel_rfl) (by simp) ?_
                  refine AllReadyH.cons rfl (fun K hK => ?_) (AllReadyH.nil)
                  have h9 : YB (World.alloc V5 (.cells #[.string nm, .int .u64 (m8 : Nat), .int .u64 (m16 : Nat), .bool true] 42)) (World.heap V5).size (nm, m8, m16, true) := heap_alloc_last V5 _
                  have hB : Below W3.heap.size W3 (World.alloc V5 (.cells #[.string nm, .int .u64 (m8 : Nat), .int .u64 (m16 : Nat), .bool true] 42)) := hHeld.alloc hHeld.size _
                  have HO2 := Lib.hid (own_keep HO.out ((Below.refl _ _).alloc (Nat.le_refl _) (.cells #[.string nm, .int .u64 (m8 : Nat), .int .u64 (m16 : Nat), .bool true] 42)))
                  clear HO
                  go_simp
                  refine hK.out _ _ hB (fun hHeld2 => ?_)
                  clear hK K hHeld hHeld2
                  have HB9 := Lib.hid h9
                  clear h9
                  generalize World.alloc V5 _ = V6 at HB9 hB HO2 ⊢
                  generalize (World.heap V5).size = b6 at HB9 ⊢
                  have hHeld : (fun W : World => Below W3.heap.size W3 W) V6 := hB
                  clear hB
                  try simp only [Act.put, List.setIfInBounds_toArray, List.set_cons_zero, List.set_cons_succ, List.getElem_toArray, List.getElem_cons_succ, List.getElem_cons_zero]
                  refine wpAnyH_ready (rs := [26]) (by kernel_rfl) (by simp) ?_
                  refine AllReadyH.cons rfl (fun K hK => ?_) (AllReadyH.nil)
                  rw [if_pos (by kernel_rfl)]
                  refine wp_app_syms (x := .tmp 141) (y := .tmp 166) (base := W3.heap.size) (v := u10) (n := L.length) (xs := cellsY L) (M := [(nm, m8, m16, true)]) rfl rfl rfl HO2.out (.inr ⟨_, rfl, rfl, src_one HB9.out⟩) (by have := HLN.out; omega) hHeld.size ?_
                  intro v9 V9 hown hgr
                  have hB := hHeld.grown hgr hHeld.size (fun x e => owns_block HO2.out x e)
                  refine hK.out _ _ hB (fun hHeld2 => ?_)
                  clear hK K hHeld hHeld2 hgr HO2 HB9
                  have HN9 := Lib.hid (sy_snoc hown hB)
                  clear hown
                  have hHeld : (fun W : World => Below W3.heap.size W3 W) V9 := hB
                  clear hB
                  try simp only [Act.put, List.setIfInBounds_toArray, List.set_cons_zero, List.set_cons_succ, List.getElem_toArray, List.getElem_cons_succ, List.getElem_cons_zero]
                  refine wpAnyH_take (i := 27) (v := ?_) rfl (by kernel_rfl) (by kernel_rfl) (by kernel_rfl) (fun _ _ _ h => h) (Or.inl ⟨by kernel_rfl, ?_⟩) (by assumption) ?_
                  rotate_left
                  · intro wv hSw
                    go_simp
                    try with_reducible rfl
                  simp only [Act.put, List.setIfInBounds_toArray, List.set_cons_zero, List.set_cons_succ, List.getElem_toArray, List.getElem_cons_succ, List.getElem_cons_zero]
                  refine wpAnyH_done (by kernel_rfl) ?_ _
                  refine NoPanic.normal ?_
                  clear hHeld
                  have HSN := Lib.hid (syms_some HSL.out (s := (nm, m8, m16, true)) (by rw [HSY.out]; simp [HF1.out, HF2.out]))
                  go_wp2_with fail
                  go_roundw
                  case rel => exact ⟨k + 1, L ++ [(nm, m8, m16, true)], by omega, by first | done | (congr 1; have := HKK.out; omega), HSN, HN9⟩
                  case measure => have := HKK.out; simp [intOf]; omega
              · have HF1 := Lib.hid hf1
                obtain ⟨qq, hqq⟩ : ∃ qq, m4 % 16 = qq := ⟨_, rfl⟩
                rw [hqq] at e15
                have dl2 : ¬ (qq : Int) = 2 := by omega
                have dl : ((qq : Int) == 2) = false := by
                  rw [beq_eq_false_iff_ne]
                  omega
                clear hf1 hqq
                have HO := Lib.hid (own_keep HS4.out.1 (Below.refl _ _).drew)
                refine wp_region_noPanic ?_
                refine wp_region_held_drew (S := fun W : World => Below W3.heap.size W3 W) (by kernel_rfl) ?_ (fun hHeld => ?_)
                · exact HS4.out.2.drew
                generalize World.drew _ = V5 at HO hHeld ⊢
                refine wpAnyH_take (i := 0) (v := ?_) rfl (by kernel_rfl) (by kernel_rfl) (by kernel_rfl) (fun _ _ _ h => h) (Or.inl ⟨by kernel_rfl, ?_⟩) (by assumption) ?_
                rotate_left
                · intro wv hSw
                  go_simp
                  try with_reducible rfl
                simp only [Act.put, List.setIfInBounds_toArray, List.set_cons_zero, List.set_cons_succ, List.getElem_toArray, List.getElem_cons_succ, List.getElem_cons_zero]
                refine wpAnyH_take (i := 1) (v := ?_) rfl (by kernel_rfl) (by kernel_rfl) (by kernel_rfl) (fun _ _ _ h => h) (Or.inl ⟨by kernel_rfl, ?_⟩) (by assumption) ?_
                rotate_left
                · intro wv hSw
                  go_simp
                  try with_reducible rfl
                simp only [Act.put, List.setIfInBounds_toArray, List.set_cons_zero, List.set_cons_succ, List.getElem_toArray, List.getElem_cons_succ, List.getElem_cons_zero]
                refine wpAnyH_take (i := 2) (v := ?_) rfl (by kernel_rfl) (by kernel_rfl) (by kernel_rfl) (fun _ _ _ h => h) (Or.inl ⟨by kernel_rfl, ?_⟩) (by assumption) ?_
                rotate_left
                · intro wv hSw
                  go_simp
                  try with_reducible rfl
                simp only [Act.put, List.setIfInBounds_toArray, List.set_cons_zero, List.set_cons_succ, List.getElem_toArray, List.getElem_cons_succ, List.getElem_cons_zero]
                refine wpAnyH_take (i := 3) (v := ?_) rfl (by kernel_rfl) (by kernel_rfl) (by kernel_rfl) (fun _ _ _ h => h) (Or.inl ⟨by kernel_rfl, ?_⟩) (by assumption) ?_
                rotate_left
                · intro wv hSw
                  go_simp
                  try with_reducible rfl
                simp only [Act.put, List.setIfInBounds_toArray, List.set_cons_zero, List.set_cons_succ, List.getElem_toArray, List.getElem_cons_succ, List.getElem_cons_zero]
                refine wpAnyH_take (i := 4) (v := ?_) rfl (by kernel_rfl) (by kernel_rfl) (by kernel_rfl) (fun _ _ _ h => h) (Or.inl ⟨by kernel_rfl, ?_⟩) (by assumption) ?_
                rotate_left
                · intro wv hSw
                  go_simp
                  try with_reducible rfl
                simp only [Act.put, List.setIfInBounds_toArray, List.set_cons_zero, List.set_cons_succ, List.getElem_toArray, List.getElem_cons_succ, List.getElem_cons_zero]
                refine wpAnyH_take (i := 6) (v := ?_) rfl (by kernel_rfl) (by kernel_rfl) (by kernel_rfl) (fun _ _ _ h => h) (Or.inl ⟨by kernel_rfl, ?_⟩) (by assumption) ?_
                rotate_left
                · intro wv hSw
                  go_simp
                  try with_reducible rfl
                simp only [Act.put, List.setIfInBounds_toArray, List.set_cons_zero, List.set_cons_succ, List.getElem_toArray, List.getElem_cons_succ, List.getElem_cons_zero]
                refine wpAnyH_take (i := 7) (v := ?_) rfl (by kernel_rfl) (by kernel_rfl) (by kernel_rfl) (fun _ _ _ h => h) (Or.inl ⟨by kernel_rfl, ?_⟩) (by assumption) ?_
                rotate_left
                · intro wv hSw
                  go_simp
                  try with_reducible rfl
                simp only [Act.put, List.setIfInBounds_toArray, List.set_cons_zero, List.set_cons_succ, List.getElem_toArray, List.getElem_cons_succ, List.getElem_cons_zero]
                refine wpAnyH_take (i := 8) (v := ?_) rfl (by kernel_rfl) (by kernel_rfl) (by kernel_rfl) (fun _ _ _ h => h) (Or.inl ⟨by kernel_rfl, ?_⟩) (by assumption) ?_
                rotate_left
                · intro wv hSw
                  go_simp
                  try with_reducible rfl
                simp only [Act.put, List.setIfInBounds_toArray, List.set_cons_zero, List.set_cons_succ, List.getElem_toArray, List.getElem_cons_succ, List.getElem_cons_zero]
                refine wpAnyH_take (i := 10) (v := ?_) rfl (by kernel_rfl) (by kernel_rfl) (by kernel_rfl) (fun _ _ _ h => h) (Or.inl ⟨by kernel_rfl, ?_⟩) (by assumption) ?_
                rotate_left
                · intro wv hSw
                  go_simp
                  try with_reducible rfl
                simp only [Act.put, List.setIfInBounds_toArray, List.set_cons_zero, List.set_cons_succ, List.getElem_toArray, List.getElem_cons_succ, List.getElem_cons_zero]
                refine wpAnyH_take (i := 11) (v := ?_) rfl (by kernel_rfl) (by kernel_rfl) (by kernel_rfl) (fun _ _ _ h => h) (Or.inl ⟨by kernel_rfl, ?_⟩) (by assumption) ?_
                rotate_left
                · intro wv hSw
                  go_simp
                  try with_reducible rfl
                simp only [Act.put, List.setIfInBounds_toArray, List.set_cons_zero, List.set_cons_succ, List.getElem_toArray, List.getElem_cons_succ, List.getElem_cons_zero]
                refine wpAnyH_take (i := 12) (v := ?_) rfl (by kernel_rfl) (by kernel_rfl) (by kernel_rfl) (fun _ _ _ h => h) (Or.inl ⟨by kernel_rfl, ?_⟩) (by assumption) ?_
                rotate_left
                · intro wv hSw
                  go_simp
                  try with_reducible rfl
                simp only [Act.put, List.setIfInBounds_toArray, List.set_cons_zero, List.set_cons_succ, List.getElem_toArray, List.getElem_cons_succ, List.getElem_cons_zero]
                refine wpAnyH_take (i := 13) (v := ?_) rfl (by kernel_rfl) (by kernel_rfl) (by kernel_rfl) (fun _ _ _ h => h) (Or.inl ⟨by kernel_rfl, ?_⟩) (by assumption) ?_
                rotate_left
                · intro wv hSw
                  go_simp
                  try with_reducible rfl
                simp only [Act.put, List.setIfInBounds_toArray, List.set_cons_zero, List.set_cons_succ, List.getElem_toArray, List.getElem_cons_succ, List.getElem_cons_zero]
                refine wpAnyH_take (i := 14) (v := ?_) rfl (by kernel_rfl) (by kernel_rfl) (by kernel_rfl) (fun _ _ _ h => h) (Or.inl ⟨by kernel_rfl, ?_⟩) (by assumption) ?_
                rotate_left
                · intro wv hSw
                  have cq := HCB.out wv hSw
                  go_simp
                  try with_reducible rfl
                simp only [Act.put, List.setIfInBounds_toArray, List.set_cons_zero, List.set_cons_succ, List.getElem_toArray, List.getElem_cons_succ, List.getElem_cons_zero]
                refine wpAnyH_take (i := 15) (v := ?_) rfl (by kernel_rfl) (by kernel_rfl) (by kernel_rfl) (fun _ _ _ h => h) (Or.inl ⟨by kernel_rfl, ?_⟩) (by assumption) ?_
                rotate_left
                · intro wv hSw
                  go_simp
                  try with_reducible rfl
                simp only [Act.put, List.setIfInBounds_toArray, List.set_cons_zero, List.set_cons_succ, List.getElem_toArray, List.getElem_cons_succ, List.getElem_cons_zero]
                refine wpAnyH_take (i := 16) (v := ?_) rfl (by kernel_rfl) (by kernel_rfl) (by kernel_rfl) (fun _ _ _ h => h) (Or.inl ⟨by kernel_rfl, ?_⟩) (by assumption) ?_
                rotate_left
                · intro wv hSw
                  go_simp
                  try with_reducible rfl
                simp only [Act.put, List.setIfInBounds_toArray, List.set_cons_zero, List.set_cons_succ, List.getElem_toArray, List.getElem_cons_succ, List.getElem_cons_zero]
                refine wpAnyH_ready (rs := [5]) (by kernel_rfl) (by simp) ?_
                refine AllReadyH.cons rfl (fun K hK => ?_) (AllReadyH.nil)
                go_simp
                go_at_call 28
                with_reducible refine (HT8.out _ hHeld).mono ?_
                rintro e W9x ⟨rfl, hw9⟩
                rw [hw9]
                clear hw9
                refine hK.out _ _ hHeld (fun hHeld2 => ?_)
                clear hK K hHeld2
                try simp only [Act.put, List.setIfInBounds_toArray, List.set_cons_zero, List.set_cons_succ, List.getElem_toArray, List.getElem_cons_succ, List.getElem_cons_zero]
                refine wpAnyH_ready (rs := [9]) (by kernel_rfl) (by simp) ?_
                refine AllReadyH.cons rfl (fun K hK => ?_) (AllReadyH.nil)
                go_simp
                go_at_call 28
                with_reducible refine (HT16.out _ hHeld).mono ?_
                rintro e W9x ⟨rfl, hw9⟩
                rw [hw9]
                clear hw9
                refine hK.out _ _ hHeld (fun hHeld2 => ?_)
                clear hK K hHeld2
                try simp only [Act.put, List.setIfInBounds_toArray, List.set_cons_zero, List.set_cons_succ, List.getElem_toArray, List.getElem_cons_succ, List.getElem_cons_zero]
                refine wpAnyH_take (i := 17) (v := ?_) rfl (by kernel_rfl) (by kernel_rfl) (by kernel_rfl) (fun _ _ _ h => h) (Or.inl ⟨by kernel_rfl, ?_⟩) (by assumption) ?_
                rotate_left
                · intro wv hSw
                  go_simp
                  try with_reducible rfl
                simp only [Act.put, List.setIfInBounds_toArray, List.set_cons_zero, List.set_cons_succ, List.getElem_toArray, List.getElem_cons_succ, List.getElem_cons_zero]
                refine wpAnyH_take (i := 18) (v := undef) rfl (by kernel_rfl) (by kernel_rfl) (by kernel_rfl) (fun _ _ _ h => h) (Or.inr ⟨by kernel_rfl, rfl⟩) (by assumption) ?_
                simp only [Act.put, List.setIfInBounds_toArray, List.set_cons_zero, List.set_cons_succ, List.getElem_toArray, List.getElem_cons_succ, List.getElem_cons_zero]
                refine wpAnyH_take (i := 19) (v := undef) rfl (by kernel_rfl) (by kernel_rfl) (by kernel_rfl) (fun _ _ _ h => h) (Or.inr ⟨by kernel_rfl, rfl⟩) (by assumption) ?_
                simp only [Act.put, List.setIfInBounds_toArray, List.set_cons_zero, List.set_cons_succ, List.getElem_toArray, List.getElem_cons_succ, List.getElem_cons_zero]
                refine wpAnyH_take (i := 20) (v := undef) rfl (by kernel_rfl) (by kernel_rfl) (by kernel_rfl) (fun _ _ _ h => h) (Or.inr ⟨by kernel_rfl, rfl⟩) (by assumption) ?_
                simp only [Act.put, List.setIfInBounds_toArray, List.set_cons_zero, List.set_cons_succ, List.getElem_toArray, List.getElem_cons_succ, List.getElem_cons_zero]
                refine wpAnyH_take (i := 21) (v := undef) rfl (by kernel_rfl) (by kernel_rfl) (by kernel_rfl) (fun _ _ _ h => h) (Or.inr ⟨by kernel_rfl, rfl⟩) (by assumption) ?_
                simp only [Act.put, List.setIfInBounds_toArray, List.set_cons_zero, List.set_cons_succ, List.getElem_toArray, List.getElem_cons_succ, List.getElem_cons_zero]
                refine wpAnyH_take (i := 22) (v := undef) rfl (by kernel_rfl) (by kernel_rfl) (by kernel_rfl) (fun _ _ _ h => h) (Or.inr ⟨by kernel_rfl, rfl⟩) (by assumption) ?_
                simp only [Act.put, List.setIfInBounds_toArray, List.set_cons_zero, List.set_cons_succ, List.getElem_toArray, List.getElem_cons_succ, List.getElem_cons_zero]
                refine wpAnyH_take (i := 23) (v := ?_) rfl (by kernel_rfl) (by kernel_rfl) (by kernel_rfl) (fun _ _ _ h => h) (Or.inl ⟨by kernel_rfl, ?_⟩) (by assumption) ?_
                rotate_left
                · intro wv hSw
                  go_simp
                  try with_reducible rfl
                simp only [Act.put, List.setIfInBounds_toArray, List.set_cons_zero, List.set_cons_succ, List.getElem_toArray, List.getElem_cons_succ, List.getElem_cons_zero]
                refine wpAnyH_take (i := 24) (v := ?_) rfl (by kernel_rfl) (by kernel_rfl) (by kernel_rfl) (fun _ _ _ h => h) (Or.inl ⟨by kernel_rfl, ?_⟩) (by assumption) ?_
                rotate_left
                · intro wv hSw
                  go_simp
                  try with_reducible rfl
                simp only [Act.put, List.setIfInBounds_toArray, List.set_cons_zero, List.set_cons_succ, List.getElem_toArray, List.getElem_cons_succ, List.getElem_cons_zero]
                refine wpAnyH_ready (rs := [25]) (by kernel_rfl) (by simp) ?_
                refine AllReadyH.cons rfl (fun K hK => ?_) (AllReadyH.nil)
                have h9 : YB (World.alloc V5 (.cells #[.string nm, .int .u64 (m8 : Nat), .int .u64 (m16 : Nat), .bool false] 42)) (World.heap V5).size (nm, m8, m16, false) := heap_alloc_last V5 _
                have hB : Below W3.heap.size W3 (World.alloc V5 (.cells #[.string nm, .int .u64 (m8 : Nat), .int .u64 (m16 : Nat), .bool false] 42)) := hHeld.alloc hHeld.size _
                have HO2 := Lib.hid (own_keep HO.out ((Below.refl _ _).alloc (Nat.le_refl _) (.cells #[.string nm, .int .u64 (m8 : Nat), .int .u64 (m16 : Nat), .bool false] 42)))
                clear HO
                go_simp
                refine hK.out _ _ hB (fun hHeld2 => ?_)
                clear hK K hHeld hHeld2
                have HB9 := Lib.hid h9
                clear h9
                generalize World.alloc V5 _ = V6 at HB9 hB HO2 ⊢
                generalize (World.heap V5).size = b6 at HB9 ⊢
                have hHeld : (fun W : World => Below W3.heap.size W3 W) V6 := hB
                clear hB
                try simp only [Act.put, List.setIfInBounds_toArray, List.set_cons_zero, List.set_cons_succ, List.getElem_toArray, List.getElem_cons_succ, List.getElem_cons_zero]
                refine wpAnyH_ready (rs := [26]) (by kernel_rfl) (by simp) ?_
                refine AllReadyH.cons rfl (fun K hK => ?_) (AllReadyH.nil)
                rw [if_pos (by kernel_rfl)]
                refine wp_app_syms (x := .tmp 141) (y := .tmp 166) (base := W3.heap.size) (v := u10) (n := L.length) (xs := cellsY L) (M := [(nm, m8, m16, false)]) rfl rfl rfl HO2.out (.inr ⟨_, rfl, rfl, src_one HB9.out⟩) (by have := HLN.out; omega) hHeld.size ?_
                intro v9 V9 hown hgr
                have hB := hHeld.grown hgr hHeld.size (fun x e => owns_block HO2.out x e)
                refine hK.out _ _ hB (fun hHeld2 => ?_)
                clear hK K hHeld hHeld2 hgr HO2 HB9
                have HN9 := Lib.hid (sy_snoc hown hB)
                clear hown
                have hHeld : (fun W : World => Below W3.heap.size W3 W) V9 := hB
                clear hB
                try simp only [Act.put, List.setIfInBounds_toArray, List.set_cons_zero, List.set_cons_succ, List.getElem_toArray, List.getElem_cons_succ, List.getElem_cons_zero]
                refine wpAnyH_take (i := 27) (v := ?_) rfl (by kernel_rfl) (by kernel_rfl) (by kernel_rfl) (fun _ _ _ h => h) (Or.inl ⟨by kernel_rfl, ?_⟩) (by assumption) ?_
                rotate_left
                · intro wv hSw
                  go_simp
                  try with_reducible rfl
                simp only [Act.put, List.setIfInBounds_toArray, List.set_cons_zero, List.set_cons_succ, List.getElem_toArray, List.getElem_cons_succ, List.getElem_cons_zero]
                refine wpAnyH_done (by kernel_rfl) ?_ _
                refine NoPanic.normal ?_
                clear hHeld
                have HSN := Lib.hid (syms_some HSL.out (s := (nm, m8, m16, false)) (by rw [HSY.out]; simp [HF1.out]))
                go_wp2_with fail
                go_roundw
                case rel => exact ⟨k + 1, L ++ [(nm, m8, m16, false)], by omega, by first | done | (congr 1; have := HKK.out; omega), HSN, HN9⟩
                case measure => have := HKK.out; simp [intOf]; omega
          · have hcx := hcx0
            have hso : xz - xo = xs := by omega
            clear hxz hcx0
            have hsy := symZ_at z (xo := xo) (xs := xs) hat
            have HNMn : ∀ on : Option ByteArray, nameZ (shZ z xo) xs (numZ z at_ 4) = on → Hid (∀ i, Calls Try.prog 27 #[.slice (some ⟨b, o + xo, none⟩) xs (bc - xo), .int .u64 (numZ z at_ 4 : Nat)] (wr.drewN i) fun e W' => e = .returned (nameV on) ∧ W' = wr.drewN i) := fun on ho => Lib.hid (fun i => by
              have h1 := rname_any (some ⟨b, o + xo, none⟩) xs (bc - xo) (shZ z xo) (fun j => HRZ.out _) (numZ z at_ 4) (by have := numZ_lt z HRZ.out at_ 4; omega) (wr.drewN i) ⟨.inr ⟨b, o + xo, rfl, fun j hj => by
                obtain ⟨b1, o1', he, hc⟩ := (hbz.keep (below_drewN (Below.refl _ _) i)).bs (by omega)
                cases he
                have := hc (xo + j) (by omega)
                rwa [← Nat.add_assoc] at this⟩, by omega, by omega⟩
              rw [ho] at h1
              exact h1)
            have HT4 : Hid (∀ i, Calls Try.prog 28 #[.slice (some ⟨b, o, none⟩) bn bc, .int .u64 (at_ : Nat), .int .i64 4] (wr.drewN i) fun e W' => e = .returned (.int .u64 (numZ z at_ 4 : Nat)) ∧ W' = wr.drewN i) := Lib.hid (fun i => rnum_any _ bn bc z HRZ.out at_ 4 (by omega) (by decide) (by decide) _ (hbz.keep (below_drewN (Below.refl _ _) i)))
            have HT8 : Hid (∀ V, Below W3.heap.size W3 V → Calls Try.prog 28 #[.slice (some ⟨b, o, none⟩) bn bc, .int .u64 (a8 : Nat), .int .i64 8] V fun e W' => e = .returned (.int .u64 (numZ z (at_ + 8) 8 : Nat)) ∧ W' = V) := Lib.hid (fun V hV => by
              have h1 := rnum_any _ bn bc z HRZ.out (at_ + 8) 8 (by omega) (by decide) (by decide) V (HC3.out V hV).2.2.2.2
              rw [ha8] at h1 ⊢
              exact h1)
            have HT16 : Hid (∀ V, Below W3.heap.size W3 V → Calls Try.prog 28 #[.slice (some ⟨b, o, none⟩) bn bc, .int .u64 (a16 : Nat), .int .i64 8] V fun e W' => e = .returned (.int .u64 (numZ z (at_ + 16) 8 : Nat)) ∧ W' = V) := Lib.hid (fun V hV => by
              have h1 := rnum_any _ bn bc z HRZ.out (at_ + 16) 8 (by omega) (by decide) (by decide) V (HC3.out V hV).2.2.2.2
              rw [ha16] at h1 ⊢
              exact h1)
            have HT6 : Hid (∀ V, Below W3.heap.size W3 V → Calls Try.prog 28 #[.slice (some ⟨b, o, none⟩) bn bc, .int .u64 (a6 : Nat), .int .i64 2] V fun e W' => e = .returned (.int .u64 (numZ z (at_ + 6) 2 : Nat)) ∧ W' = V) := Lib.hid (fun V hV => by
              have h1 := rnum_any _ bn bc z HRZ.out (at_ + 6) 2 (by omega) (by decide) (by decide) V (HC3.out V hV).2.2.2.2
              rw [ha6] at h1 ⊢
              exact h1)
            have HCB : Hid (∀ V, Below W3.heap.size W3 V → V.cell? ⟨b, o + a4, none⟩ = some (.int .u8 (z (at_ + 4) : Nat))) := Lib.hid (fun V hV => by
              obtain ⟨b1, o1', he, hc⟩ := (HC3.out V hV).2.2.2.2.bs (by omega)
              cases he
              rw [← ha4]
              exact hc (at_ + 4) (by omega))
            have hm4 := HRZ.out (at_ + 4)
            have e15 : bits BinOp.and IntKind.u8 (z (at_ + 4) : Int) 15 = ((z (at_ + 4) % 16 : Nat) : Int) := low15c ⟨z (at_ + 4), hm4⟩
            clear hbz hm4 ha8 ha16 ha6 ha4 hat
            generalize numZ z at_ 4 = m0 at *
            generalize z (at_ + 4) = m4 at *
            generalize numZ z (at_ + 6) 2 = m6 at *
            generalize numZ z (at_ + 8) 8 = m8 at *
            generalize numZ z (at_ + 16) 8 = m16 at *
            rcases hnm : nameZ (shZ z xo) xs m0 with _ | nm
            · have HNM := HNMn _ hnm
              have HE := Lib.hid (rz_fail (z := z) (bn := bn) HLn.out HI.out.1 HI.out.2 HKT.out HXX.out HPP.out (by
                dsimp only
                exact syms_none HSL.out (by rw [hN]; exact hlt) (by rw [hsy, hnm]; rfl)))
              unfold nameV at HNM
              dsimp only at HNM
              clear hnm hsy e15 HNMn
              go_wp2_with fail
              go_big_quiet_o (first | (go_at_call 28; with_reducible refine Calls.quiet_of_same (HT4.out _)) | (go_at_call 27; with_reducible refine Calls.quiet_of_same (HNM.out _)) | fail)
              clear c1 c2 f1 f2 HNM HT4
              go_wp2_with fail
              go_returns
              exact rs_nil HE.out (HB12.out.trans ((below_drewN HS.out.2 nq).mono HB12.out.size))
            · have HNM := HNMn _ hnm
              unfold nameV at HNM
              dsimp only at HNM
              clear HNMn
              have HSY : Hid (symZ (shZ z of) (shZ z xo) xs k = some (nm, m8, m16, (m4 % 16 == 2) && !(m6 == 0))) := Lib.hid (by rw [hsy, hnm]; rfl)
              clear hnm hsy
              go_wp2_with fail
              go_big_quiet_o (first | (go_at_call 28; with_reducible refine Calls.quiet_of_same (HT4.out _)) | (go_at_call 27; with_reducible refine Calls.quiet_of_same (HNM.out _)) | fail)
              clear c1 c2 f1 f2 HNM HT4
              go_wp2_with fail
              have HS4 : Hid (SY W3 L u10 (wr.drewN nq)) := Lib.hid (HS.out.keep (below_drewN (Below.refl _ _) nq))
              generalize wr.drewN nq = W4 at HS4 ⊢
              clear HS
              by_cases hf1 : m4 % 16 = 2
              · rw [hf1] at e15
                replace e15 : bits BinOp.and IntKind.u8 (m4 : Int) 15 = 2 := e15
                have HF1 := Lib.hid hf1
                by_cases hf2 : m6 = 0
                · subst hf2
                  have HF2 := Lib.hid (show (0 : Nat) = 0 from rfl)
                  have HO := Lib.hid (own_keep HS4.out.1 (Below.refl _ _).drew)
                  refine wp_region_noPanic ?_
                  refine wp_region_held_drew (S := fun W : World => Below W3.heap.size W3 W) (by kernel_rfl) ?_ (fun hHeld => ?_)
                  · exact HS4.out.2.drew
                  generalize World.drew _ = V5 at HO hHeld ⊢
                  refine wpAnyH_take (i := 0) (v := ?_) rfl (by kernel_rfl) (by kernel_rfl) (by kernel_rfl) (fun _ _ _ h => h) (Or.inl ⟨by kernel_rfl, ?_⟩) (by assumption) ?_
                  rotate_left
                  · intro wv hSw
                    go_simp
                    try with_reducible rfl
                  simp only [Act.put, List.setIfInBounds_toArray, List.set_cons_zero, List.set_cons_succ, List.getElem_toArray, List.getElem_cons_succ, List.getElem_cons_zero]
                  refine wpAnyH_take (i := 1) (v := ?_) rfl (by kernel_rfl) (by kernel_rfl) (by kernel_rfl) (fun _ _ _ h => h) (Or.inl ⟨by kernel_rfl, ?_⟩) (by assumption) ?_
                  rotate_left
                  · intro wv hSw
                    go_simp
                    try with_reducible rfl
                  simp only [Act.put, List.setIfInBounds_toArray, List.set_cons_zero, List.set_cons_succ, List.getElem_toArray, List.getElem_cons_succ, List.getElem_cons_zero]
                  refine wpAnyH_take (i := 2) (v := ?_) rfl (by kernel_rfl) (by kernel_rfl) (by kernel_rfl) (fun _ _ _ h => h) (Or.inl ⟨by kernel_rfl, ?_⟩) (by assumption) ?_
                  rotate_left
                  · intro wv hSw
                    go_simp
                    try with_reducible rfl
                  simp only [Act.put, List.setIfInBounds_toArray, List.set_cons_zero, List.set_cons_succ, List.getElem_toArray, List.getElem_cons_succ, List.getElem_cons_zero]
                  refine wpAnyH_take (i := 3) (v := ?_) rfl (by kernel_rfl) (by kernel_rfl) (by kernel_rfl) (fun _ _ _ h => h) (Or.inl ⟨by kernel_rfl, ?_⟩) (by assumption) ?_
                  rotate_left
                  · intro wv hSw
                    go_simp
                    try with_reducible rfl
                  simp only [Act.put, List.setIfInBounds_toArray, List.set_cons_zero, List.set_cons_succ, List.getElem_toArray, List.getElem_cons_succ, List.getElem_cons_zero]
                  refine wpAnyH_take (i := 4) (v := ?_) rfl (by kernel_rfl) (by kernel_rfl) (by kernel_rfl) (fun _ _ _ h => h) (Or.inl ⟨by kernel_rfl, ?_⟩) (by assumption) ?_
                  rotate_left
                  · intro wv hSw
                    go_simp
                    try with_reducible rfl
                  simp only [Act.put, List.setIfInBounds_toArray, List.set_cons_zero, List.set_cons_succ, List.getElem_toArray, List.getElem_cons_succ, List.getElem_cons_zero]
                  refine wpAnyH_take (i := 6) (v := ?_) rfl (by kernel_rfl) (by kernel_rfl) (by kernel_rfl) (fun _ _ _ h => h) (Or.inl ⟨by kernel_rfl, ?_⟩) (by assumption) ?_
                  rotate_left
                  · intro wv hSw
                    go_simp
                    try with_reducible rfl
                  simp only [Act.put, List.setIfInBounds_toArray, List.set_cons_zero, List.set_cons_succ, List.getElem_toArray, List.getElem_cons_succ, List.getElem_cons_zero]
                  refine wpAnyH_take (i := 7) (v := ?_) rfl (by kernel_rfl) (by kernel_rfl) (by kernel_rfl) (fun _ _ _ h => h) (Or.inl ⟨by kernel_rfl, ?_⟩) (by assumption) ?_
                  rotate_left
                  · intro wv hSw
                    go_simp
                    try with_reducible rfl
                  simp only [Act.put, List.setIfInBounds_toArray, List.set_cons_zero, List.set_cons_succ, List.getElem_toArray, List.getElem_cons_succ, List.getElem_cons_zero]
                  refine wpAnyH_take (i := 8) (v := ?_) rfl (by kernel_rfl) (by kernel_rfl) (by kernel_rfl) (fun _ _ _ h => h) (Or.inl ⟨by kernel_rfl, ?_⟩) (by assumption) ?_
                  rotate_left
                  · intro wv hSw
                    go_simp
                    try with_reducible rfl
                  simp only [Act.put, List.setIfInBounds_toArray, List.set_cons_zero, List.set_cons_succ, List.getElem_toArray, List.getElem_cons_succ, List.getElem_cons_zero]
                  refine wpAnyH_take (i := 10) (v := ?_) rfl (by kernel_rfl) (by kernel_rfl) (by kernel_rfl) (fun _ _ _ h => h) (Or.inl ⟨by kernel_rfl, ?_⟩) (by assumption) ?_
                  rotate_left
                  · intro wv hSw
                    go_simp
                    try with_reducible rfl
                  simp only [Act.put, List.setIfInBounds_toArray, List.set_cons_zero, List.set_cons_succ, List.getElem_toArray, List.getElem_cons_succ, List.getElem_cons_zero]
                  refine wpAnyH_take (i := 11) (v := ?_) rfl (by kernel_rfl) (by kernel_rfl) (by kernel_rfl) (fun _ _ _ h => h) (Or.inl ⟨by kernel_rfl, ?_⟩) (by assumption) ?_
                  rotate_left
                  · intro wv hSw
                    go_simp
                    try with_reducible rfl
                  simp only [Act.put, List.setIfInBounds_toArray, List.set_cons_zero, List.set_cons_succ, List.getElem_toArray, List.getElem_cons_succ, List.getElem_cons_zero]
                  refine wpAnyH_take (i := 12) (v := ?_) rfl (by kernel_rfl) (by kernel_rfl) (by kernel_rfl) (fun _ _ _ h => h) (Or.inl ⟨by kernel_rfl, ?_⟩) (by assumption) ?_
                  rotate_left
                  · intro wv hSw
                    go_simp
                    try with_reducible rfl
                  simp only [Act.put, List.setIfInBounds_toArray, List.set_cons_zero, List.set_cons_succ, List.getElem_toArray, List.getElem_cons_succ, List.getElem_cons_zero]
                  refine wpAnyH_take (i := 13) (v := ?_) rfl (by kernel_rfl) (by kernel_rfl) (by kernel_rfl) (fun _ _ _ h => h) (Or.inl ⟨by kernel_rfl, ?_⟩) (by assumption) ?_
                  rotate_left
                  · intro wv hSw
                    go_simp
                    try with_reducible rfl
                  simp only [Act.put, List.setIfInBounds_toArray, List.set_cons_zero, List.set_cons_succ, List.getElem_toArray, List.getElem_cons_succ, List.getElem_cons_zero]
                  refine wpAnyH_take (i := 14) (v := ?_) rfl (by kernel_rfl) (by kernel_rfl) (by kernel_rfl) (fun _ _ _ h => h) (Or.inl ⟨by kernel_rfl, ?_⟩) (by assumption) ?_
                  rotate_left
                  · intro wv hSw
                    have cq := HCB.out wv hSw
                    go_simp
                    try with_reducible rfl
                  simp only [Act.put, List.setIfInBounds_toArray, List.set_cons_zero, List.set_cons_succ, List.getElem_toArray, List.getElem_cons_succ, List.getElem_cons_zero]
                  refine wpAnyH_take (i := 15) (v := ?_) rfl (by kernel_rfl) (by kernel_rfl) (by kernel_rfl) (fun _ _ _ h => h) (Or.inl ⟨by kernel_rfl, ?_⟩) (by assumption) ?_
                  rotate_left
                  · intro wv hSw
                    go_simp
                    try with_reducible rfl
                  simp only [Act.put, List.setIfInBounds_toArray, List.set_cons_zero, List.set_cons_succ, List.getElem_toArray, List.getElem_cons_succ, List.getElem_cons_zero]
                  refine wpAnyH_take (i := 16) (v := ?_) rfl (by kernel_rfl) (by kernel_rfl) (by kernel_rfl) (fun _ _ _ h => h) (Or.inl ⟨by kernel_rfl, ?_⟩) (by assumption) ?_
                  rotate_left
                  · intro wv hSw
                    go_simp
                    try with_reducible rfl
                  simp only [Act.put, List.setIfInBounds_toArray, List.set_cons_zero, List.set_cons_succ, List.getElem_toArray, List.getElem_cons_succ, List.getElem_cons_zero]
                  refine wpAnyH_ready (rs := [5]) (by kernel_rfl) (by simp) ?_
                  refine AllReadyH.cons rfl (fun K hK => ?_) (AllReadyH.nil)
                  go_simp
                  go_at_call 28
                  with_reducible refine (HT8.out _ hHeld).mono ?_
                  rintro e W9x ⟨rfl, hw9⟩
                  rw [hw9]
                  clear hw9
                  refine hK.out _ _ hHeld (fun hHeld2 => ?_)
                  clear hK K hHeld2
                  try simp only [Act.put, List.setIfInBounds_toArray, List.set_cons_zero, List.set_cons_succ, List.getElem_toArray, List.getElem_cons_succ, List.getElem_cons_zero]
                  refine wpAnyH_ready (rs := [9]) (by kernel_rfl) (by simp) ?_
                  refine AllReadyH.cons rfl (fun K hK => ?_) (AllReadyH.nil)
                  go_simp
                  go_at_call 28
                  with_reducible refine (HT16.out _ hHeld).mono ?_
                  rintro e W9x ⟨rfl, hw9⟩
                  rw [hw9]
                  clear hw9
                  refine hK.out _ _ hHeld (fun hHeld2 => ?_)
                  clear hK K hHeld2
                  try simp only [Act.put, List.setIfInBounds_toArray, List.set_cons_zero, List.set_cons_succ, List.getElem_toArray, List.getElem_cons_succ, List.getElem_cons_zero]
                  refine wpAnyH_take (i := 17) (v := ?_) rfl (by kernel_rfl) (by kernel_rfl) (by kernel_rfl) (fun _ _ _ h => h) (Or.inl ⟨by kernel_rfl, ?_⟩) (by assumption) ?_
                  rotate_left
                  · intro wv hSw
                    go_simp
                    try with_reducible rfl
                  simp only [Act.put, List.setIfInBounds_toArray, List.set_cons_zero, List.set_cons_succ, List.getElem_toArray, List.getElem_cons_succ, List.getElem_cons_zero]
                  refine wpAnyH_take (i := 18) (v := ?_) rfl (by kernel_rfl) (by kernel_rfl) (by kernel_rfl) (fun _ _ _ h => h) (Or.inl ⟨by kernel_rfl, ?_⟩) (by assumption) ?_
                  rotate_left
                  · intro wv hSw
                    go_simp
                    try with_reducible rfl
                  simp only [Act.put, List.setIfInBounds_toArray, List.set_cons_zero, List.set_cons_succ, List.getElem_toArray, List.getElem_cons_succ, List.getElem_cons_zero]
                  refine wpAnyH_take (i := 19) (v := ?_) rfl (by kernel_rfl) (by kernel_rfl) (by kernel_rfl) (fun _ _ _ h => h) (Or.inl ⟨by kernel_rfl, ?_⟩) (by assumption) ?_
                  rotate_left
                  · intro wv hSw
                    go_simp
                    try with_reducible rfl
                  simp only [Act.put, List.setIfInBounds_toArray, List.set_cons_zero, List.set_cons_succ, List.getElem_toArray, List.getElem_cons_succ, List.getElem_cons_zero]
                  refine wpAnyH_take (i := 20) (v := ?_) rfl (by kernel_rfl) (by kernel_rfl) (by kernel_rfl) (fun _ _ _ h => h) (Or.inl ⟨by kernel_rfl, ?_⟩) (by assumption) ?_
                  rotate_left
                  · intro wv hSw
                    go_simp
                    try with_reducible rfl
                  simp only [Act.put, List.setIfInBounds_toArray, List.set_cons_zero, List.set_cons_succ, List.getElem_toArray, List.getElem_cons_succ, List.getElem_cons_zero]
                  refine wpAnyH_ready (rs := [21]) (by kernel_rfl) (by simp) ?_
                  refine AllReadyH.cons rfl (fun K hK => ?_) (AllReadyH.nil)
                  go_simp
                  go_at_call 28
                  with_reducible refine (HT6.out _ hHeld).mono ?_
                  rintro e W9x ⟨rfl, hw9⟩
                  rw [hw9]
                  clear hw9
                  refine hK.out _ _ hHeld (fun hHeld2 => ?_)
                  clear hK K hHeld2
                  try simp only [Act.put, List.setIfInBounds_toArray, List.set_cons_zero, List.set_cons_succ, List.getElem_toArray, List.getElem_cons_succ, List.getElem_cons_zero]
                  refine wpAnyH_take (i := 22) (v := ?_) rfl (by kernel_rfl) (by kernel_rfl) (by kernel_rfl) (fun _ _ _ h => h) (Or.inl ⟨by kernel_rfl, ?_⟩) (by assumption) ?_
                  rotate_left
                  · intro wv hSw
                    go_simp
                    try with_reducible rfl
                  simp only [Act.put, List.setIfInBounds_toArray, List.set_cons_zero, List.set_cons_succ, List.getElem_toArray, List.getElem_cons_succ, List.getElem_cons_zero]
                  refine wpAnyH_take (i := 23) (v := ?_) rfl (by kernel_rfl) (by kernel_rfl) (by kernel_rfl) (fun _ _ _ h => h) (Or.inl ⟨by kernel_rfl, ?_⟩) (by assumption) ?_
                  rotate_left
                  · intro wv hSw
                    go_simp
                    try with_reducible rfl
                  simp only [Act.put, List.setIfInBounds_toArray, List.set_cons_zero, List.set_cons_succ, List.getElem_toArray, List.getElem_cons_succ, List.getElem_cons_zero]
                  refine wpAnyH_take (i := 24) (v := ?_) rfl (by kernel_rfl) (by kernel_rfl) (by kernel_rfl) (fun _ _ _ h => h) (Or.inl ⟨by kernel_rfl, ?_⟩) (by assumption) ?_
                  rotate_left
                  · intro wv hSw
                    go_simp
                    try with_reducible rfl
                  simp only [Act.put, List.setIfInBounds_toArray, List.set_cons_zero, List.set_cons_succ, List.getElem_toArray, List.getElem_cons_succ, List.getElem_cons_zero]
                  refine wpAnyH_ready (rs := [25]) (by kernel_rfl) (by simp) ?_
                  refine AllReadyH.cons rfl (fun K hK => ?_) (AllReadyH.nil)
                  have h9 : YB (World.alloc V5 (.cells #[.string nm, .int .u64 (m8 : Nat), .int .u64 (m16 : Nat), .bool false] 42)) (World.heap V5).size (nm, m8, m16, false) := heap_alloc_last V5 _
                  have hB : Below W3.heap.size W3 (World.alloc V5 (.cells #[.string nm, .int .u64 (m8 : Nat), .int .u64 (m16 : Nat), .bool false] 42)) := hHeld.alloc hHeld.size _
                  have HO2 := Lib.hid (own_keep HO.out ((Below.refl _ _).alloc (Nat.le_refl _) (.cells #[.string nm, .int .u64 (m8 : Nat), .int .u64 (m16 : Nat), .bool false] 42)))
                  clear HO
                  go_simp
                  refine hK.out _ _ hB (fun hHeld2 => ?_)
                  clear hK K hHeld hHeld2
                  have HB9 := Lib.hid h9
                  clear h9
                  generalize World.alloc V5 _ = V6 at HB9 hB HO2 ⊢
                  generalize (World.heap V5).size = b6 at HB9 ⊢
                  have hHeld : (fun W : World => Below W3.heap.size W3 W) V6 := hB
                  clear hB
                  try simp only [Act.put, List.setIfInBounds_toArray, List.set_cons_zero, List.set_cons_succ, List.getElem_toArray, List.getElem_cons_succ, List.getElem_cons_zero]
                  refine wpAnyH_ready (rs := [26]) (by kernel_rfl) (by simp) ?_
                  refine AllReadyH.cons rfl (fun K hK => ?_) (AllReadyH.nil)
                  rw [if_pos (by kernel_rfl)]
                  refine wp_app_syms (x := .tmp 141) (y := .tmp 166) (base := W3.heap.size) (v := u10) (n := L.length) (xs := cellsY L) (M := [(nm, m8, m16, false)]) rfl rfl rfl HO2.out (.inr ⟨_, rfl, rfl, src_one HB9.out⟩) (by have := HLN.out; omega) hHeld.size ?_
                  intro v9 V9 hown hgr
                  have hB := hHeld.grown hgr hHeld.size (fun x e => owns_block HO2.out x e)
                  refine hK.out _ _ hB (fun hHeld2 => ?_)
                  clear hK K hHeld hHeld2 hgr HO2 HB9
                  have HN9 := Lib.hid (sy_snoc hown hB)
                  clear hown
                  have hHeld : (fun W : World => Below W3.heap.size W3 W) V9 := hB
                  clear hB
                  try simp only [Act.put, List.setIfInBounds_toArray, List.set_cons_zero, List.set_cons_succ, List.getElem_toArray, List.getElem_cons_succ, List.getElem_cons_zero]
                  refine wpAnyH_take (i := 27) (v := ?_) rfl (by kernel_rfl) (by kernel_rfl) (by kernel_rfl) (fun _ _ _ h => h) (Or.inl ⟨by kernel_rfl, ?_⟩) (by assumption) ?_
                  rotate_left
                  · intro wv hSw
                    go_simp
                    try with_reducible rfl
                  simp only [Act.put, List.setIfInBounds_toArray, List.set_cons_zero, List.set_cons_succ, List.getElem_toArray, List.getElem_cons_succ, List.getElem_cons_zero]
                  refine wpAnyH_done (by kernel_rfl) ?_ _
                  refine NoPanic.normal ?_
                  clear hHeld
                  have HSN := Lib.hid (syms_some HSL.out (s := (nm, m8, m16, false)) (by rw [HSY.out]; simp [HF1.out, HF2.out]))
                  go_wp2_with fail
                  go_roundw
                  case rel => exact ⟨k + 1, L ++ [(nm, m8, m16, false)], by omega, by first | done | (congr 1; have := HKK.out; omega), HSN, HN9⟩
                  case measure => have := HKK.out; simp [intOf]; omega
                · have dm : ((m6 : Int) == 0) = false := by
                    rw [beq_eq_false_iff_ne]
                    omega
                  have dm2 : ((m6 : Int) != 0) = true := by rw [bne, dm]; rfl
                  have dm3 : ¬ (m6 : Int) = 0 := by omega
                  have HF2 := Lib.hid hf2
                  have HO := Lib.hid (own_keep HS4.out.1 (Below.refl _ _).drew)
                  refine wp_region_noPanic ?_
                  refine wp_region_held_drew (S := fun W : World => Below W3.heap.size W3 W) (by kernel_rfl) ?_ (fun hHeld => ?_)
                  · exact HS4.out.2.drew
                  generalize World.drew _ = V5 at HO hHeld ⊢
                  refine wpAnyH_take (i := 0) (v := ?_) rfl (by kernel_rfl) (by kernel_rfl) (by kernel_rfl) (fun _ _ _ h => h) (Or.inl ⟨by kernel_rfl, ?_⟩) (by assumption) ?_
                  rotate_left
                  · intro wv hSw
                    go_simp
                    try with_reducible rfl
                  simp only [Act.put, List.setIfInBounds_toArray, List.set_cons_zero, List.set_cons_succ, List.getElem_toArray, List.getElem_cons_succ, List.getElem_cons_zero]
                  refine wpAnyH_take (i := 1) (v := ?_) rfl (by kernel_rfl) (by kernel_rfl) (by kernel_rfl) (fun _ _ _ h => h) (Or.inl ⟨by kernel_rfl, ?_⟩) (by assumption) ?_
                  rotate_left
                  · intro wv hSw
                    go_simp
                    try with_reducible rfl
                  simp only [Act.put, List.setIfInBounds_toArray, List.set_cons_zero, List.set_cons_succ, List.getElem_toArray, List.getElem_cons_succ, List.getElem_cons_zero]
                  refine wpAnyH_take (i := 2) (v := ?_) rfl (by kernel_rfl) (by kernel_rfl) (by kernel_rfl) (fun _ _ _ h => h) (Or.inl ⟨by kernel_rfl, ?_⟩) (by assumption) ?_
                  rotate_left
                  · intro wv hSw
                    go_simp
                    try with_reducible rfl
                  simp only [Act.put, List.setIfInBounds_toArray, List.set_cons_zero, List.set_cons_succ, List.getElem_toArray, List.getElem_cons_succ, List.getElem_cons_zero]
                  refine wpAnyH_take (i := 3) (v := ?_) rfl (by kernel_rfl) (by kernel_rfl) (by kernel_rfl) (fun _ _ _ h => h) (Or.inl ⟨by kernel_rfl, ?_⟩) (by assumption) ?_
                  rotate_left
                  · intro wv hSw
                    go_simp
                    try with_reducible rfl
                  simp only [Act.put, List.setIfInBounds_toArray, List.set_cons_zero, List.set_cons_succ, List.getElem_toArray, List.getElem_cons_succ, List.getElem_cons_zero]
                  refine wpAnyH_take (i := 4) (v := ?_) rfl (by kernel_rfl) (by kernel_rfl) (by kernel_rfl) (fun _ _ _ h => h) (Or.inl ⟨by kernel_rfl, ?_⟩) (by assumption) ?_
                  rotate_left
                  · intro wv hSw
                    go_simp
                    try with_reducible rfl
                  simp only [Act.put, List.setIfInBounds_toArray, List.set_cons_zero, List.set_cons_succ, List.getElem_toArray, List.getElem_cons_succ, List.getElem_cons_zero]
                  refine wpAnyH_take (i := 6) (v := ?_) rfl (by kernel_rfl) (by kernel_rfl) (by kernel_rfl) (fun _ _ _ h => h) (Or.inl ⟨by kernel_rfl, ?_⟩) (by assumption) ?_
                  rotate_left
                  · intro wv hSw
                    go_simp
                    try with_reducible rfl
                  simp only [Act.put, List.setIfInBounds_toArray, List.set_cons_zero, List.set_cons_succ, List.getElem_toArray, List.getElem_cons_succ, List.getElem_cons_zero]
                  refine wpAnyH_take (i := 7) (v := ?_) rfl (by kernel_rfl) (by kernel_rfl) (by kernel_rfl) (fun _ _ _ h => h) (Or.inl ⟨by kernel_rfl, ?_⟩) (by assumption) ?_
                  rotate_left
                  · intro wv hSw
                    go_simp
                    try with_reducible rfl
                  simp only [Act.put, List.setIfInBounds_toArray, List.set_cons_zero, List.set_cons_succ, List.getElem_toArray, List.getElem_cons_succ, List.getElem_cons_zero]
                  refine wpAnyH_take (i := 8) (v := ?_) rfl (by kernel_rfl) (by kernel_rfl) (by kernel_rfl) (fun _ _ _ h => h) (Or.inl ⟨by kernel_rfl, ?_⟩) (by assumption) ?_
                  rotate_left
                  · intro wv hSw
                    go_simp
                    try with_reducible rfl
                  simp only [Act.put, List.setIfInBounds_toArray, List.set_cons_zero, List.set_cons_succ, List.getElem_toArray, List.getElem_cons_succ, List.getElem_cons_zero]
                  refine wpAnyH_take (i := 10) (v := ?_) rfl (by kernel_rfl) (by kernel_rfl) (by kernel_rfl) (fun _ _ _ h => h) (Or.inl ⟨by kernel_rfl, ?_⟩) (by assumption) ?_
                  rotate_left
                  · intro wv hSw
                    go_simp
                    try with_reducible rfl
                  simp only [Act.put, List.setIfInBounds_toArray, List.set_cons_zero, List.set_cons_succ, List.getElem_toArray, List.getElem_cons_succ, List.getElem_cons_zero]
                  refine wpAnyH_take (i := 11) (v := ?_) rfl (by kernel_rfl) (by kernel_rfl) (by kernel_rfl) (fun _ _ _ h => h) (Or.inl ⟨by kernel_rfl, ?_⟩) (by assumption) ?_
                  rotate_left
                  · intro wv hSw
                    go_simp
                    try with_reducible rfl
                  simp only [Act.put, List.setIfInBounds_toArray, List.set_cons_zero, List.set_cons_succ, List.getElem_toArray, List.getElem_cons_succ, List.getElem_cons_zero]
                  refine wpAnyH_take (i := 12) (v := ?_) rfl (by kernel_rfl) (by kernel_rfl) (by kernel_rfl) (fun _ _ _ h => h) (Or.inl ⟨by kernel_rfl, ?_⟩) (by assumption) ?_
                  rotate_left
                  · intro wv hSw
                    go_simp
                    try with_reducible rfl
                  simp only [Act.put, List.setIfInBounds_toArray, List.set_cons_zero, List.set_cons_succ, List.getElem_toArray, List.getElem_cons_succ, List.getElem_cons_zero]
                  refine wpAnyH_take (i := 13) (v := ?_) rfl (by kernel_rfl) (by kernel_rfl) (by kernel_rfl) (fun _ _ _ h => h) (Or.inl ⟨by kernel_rfl, ?_⟩) (by assumption) ?_
                  rotate_left
                  · intro wv hSw
                    go_simp
                    try with_reducible rfl
                  simp only [Act.put, List.setIfInBounds_toArray, List.set_cons_zero, List.set_cons_succ, List.getElem_toArray, List.getElem_cons_succ, List.getElem_cons_zero]
                  refine wpAnyH_take (i := 14) (v := ?_) rfl (by kernel_rfl) (by kernel_rfl) (by kernel_rfl) (fun _ _ _ h => h) (Or.inl ⟨by kernel_rfl, ?_⟩) (by assumption) ?_
                  rotate_left
                  · intro wv hSw
                    have cq := HCB.out wv hSw
                    go_simp
                    try with_reducible rfl
                  simp only [Act.put, List.setIfInBounds_toArray, List.set_cons_zero, List.set_cons_succ, List.getElem_toArray, List.getElem_cons_succ, List.getElem_cons_zero]
                  refine wpAnyH_take (i := 15) (v := ?_) rfl (by kernel_rfl) (by kernel_rfl) (by kernel_rfl) (fun _ _ _ h => h) (Or.inl ⟨by kernel_rfl, ?_⟩) (by assumption) ?_
                  rotate_left
                  · intro wv hSw
                    go_simp
                    try with_reducible rfl
                  simp only [Act.put, List.setIfInBounds_toArray, List.set_cons_zero, List.set_cons_succ, List.getElem_toArray, List.getElem_cons_succ, List.getElem_cons_zero]
                  refine wpAnyH_take (i := 16) (v := ?_) rfl (by kernel_rfl) (by kernel_rfl) (by kernel_rfl) (fun _ _ _ h => h) (Or.inl ⟨by kernel_rfl, ?_⟩) (by assumption) ?_
                  rotate_left
                  · intro wv hSw
                    go_simp
                    try with_reducible rfl
                  simp only [Act.put, List.setIfInBounds_toArray, List.set_cons_zero, List.set_cons_succ, List.getElem_toArray, List.getElem_cons_succ, List.getElem_cons_zero]
                  refine wpAnyH_ready (rs := [5]) (by kernel_rfl) (by simp) ?_
                  refine AllReadyH.cons rfl (fun K hK => ?_) (AllReadyH.nil)
                  go_simp
                  go_at_call 28
                  with_reducible refine (HT8.out _ hHeld).mono ?_
                  rintro e W9x ⟨rfl, hw9⟩
                  rw [hw9]
                  clear hw9
                  refine hK.out _ _ hHeld (fun hHeld2 => ?_)
                  clear hK K hHeld2
                  try simp only [Act.put, List.setIfInBounds_toArray, List.set_cons_zero, List.set_cons_succ, List.getElem_toArray, List.getElem_cons_succ, List.getElem_cons_zero]
                  refine wpAnyH_ready (rs := [9]) (by kernel_rfl) (by simp) ?_
                  refine AllReadyH.cons rfl (fun K hK => ?_) (AllReadyH.nil)
                  go_simp
                  go_at_call 28
                  with_reducible refine (HT16.out _ hHeld).mono ?_
                  rintro e W9x ⟨rfl, hw9⟩
                  rw [hw9]
                  clear hw9
                  refine hK.out _ _ hHeld (fun hHeld2 => ?_)
                  clear hK K hHeld2
                  try simp only [Act.put, List.setIfInBounds_toArray, List.set_cons_zero, List.set_cons_succ, List.getElem_toArray, List.getElem_cons_succ, List.getElem_cons_zero]
                  refine wpAnyH_take (i := 17) (v := ?_) rfl (by kernel_rfl) (by kernel_rfl) (by kernel_rfl) (fun _ _ _ h => h) (Or.inl ⟨by kernel_rfl, ?_⟩) (by assumption) ?_
                  rotate_left
                  · intro wv hSw
                    go_simp
                    try with_reducible rfl
                  simp only [Act.put, List.setIfInBounds_toArray, List.set_cons_zero, List.set_cons_succ, List.getElem_toArray, List.getElem_cons_succ, List.getElem_cons_zero]
                  refine wpAnyH_take (i := 18) (v := ?_) rfl (by kernel_rfl) (by kernel_rfl) (by kernel_rfl) (fun _ _ _ h => h) (Or.inl ⟨by kernel_rfl, ?_⟩) (by assumption) ?_
                  rotate_left
                  · intro wv hSw
                    go_simp
                    try with_reducible rfl
                  simp only [Act.put, List.setIfInBounds_toArray, List.set_cons_zero, List.set_cons_succ, List.getElem_toArray, List.getElem_cons_succ, List.getElem_cons_zero]
                  refine wpAnyH_take (i := 19) (v := ?_) rfl (by kernel_rfl) (by kernel_rfl) (by kernel_rfl) (fun _ _ _ h => h) (Or.inl ⟨by kernel_rfl, ?_⟩) (by assumption) ?_
                  rotate_left
                  · intro wv hSw
                    go_simp
                    try with_reducible rfl
                  simp only [Act.put, List.setIfInBounds_toArray, List.set_cons_zero, List.set_cons_succ, List.getElem_toArray, List.getElem_cons_succ, List.getElem_cons_zero]
                  refine wpAnyH_take (i := 20) (v := ?_) rfl (by kernel_rfl) (by kernel_rfl) (by kernel_rfl) (fun _ _ _ h => h) (Or.inl ⟨by kernel_rfl, ?_⟩) (by assumption) ?_
                  rotate_left
                  · intro wv hSw
                    go_simp
                    try with_reducible rfl
                  simp only [Act.put, List.setIfInBounds_toArray, List.set_cons_zero, List.set_cons_succ, List.getElem_toArray, List.getElem_cons_succ, List.getElem_cons_zero]
                  refine wpAnyH_ready (rs := [21]) (by kernel_rfl) (by simp) ?_
                  refine AllReadyH.cons rfl (fun K hK => ?_) (AllReadyH.nil)
                  go_simp
                  go_at_call 28
                  with_reducible refine (HT6.out _ hHeld).mono ?_
                  rintro e W9x ⟨rfl, hw9⟩
                  rw [hw9]
                  clear hw9
                  refine hK.out _ _ hHeld (fun hHeld2 => ?_)
                  clear hK K hHeld2
                  try simp only [Act.put, List.setIfInBounds_toArray, List.set_cons_zero, List.set_cons_succ, List.getElem_toArray, List.getElem_cons_succ, List.getElem_cons_zero]
                  refine wpAnyH_take (i := 22) (v := ?_) rfl (by kernel_rfl) (by kernel_rfl) (by kernel_rfl) (fun _ _ _ h => h) (Or.inl ⟨by kernel_rfl, ?_⟩) (by assumption) ?_
                  rotate_left
                  · intro wv hSw
                    go_simp
                    try with_reducible rfl
                  simp only [Act.put, List.setIfInBounds_toArray, List.set_cons_zero, List.set_cons_succ, List.getElem_toArray, List.getElem_cons_succ, List.getElem_cons_zero]
                  refine wpAnyH_take (i := 23) (v := ?_) rfl (by kernel_rfl) (by kernel_rfl) (by kernel_rfl) (fun _ _ _ h => h) (Or.inl ⟨by kernel_rfl, ?_⟩) (by assumption) ?_
                  rotate_left
                  · intro wv hSw
                    go_simp
                    try with_reducible rfl
                  simp only [Act.put, List.setIfInBounds_toArray, List.set_cons_zero, List.set_cons_succ, List.getElem_toArray, List.getElem_cons_succ, List.getElem_cons_zero]
                  refine wpAnyH_take (i := 24) (v := ?_) rfl (by kernel_rfl) (by kernel_rfl) (by kernel_rfl) (fun _ _ _ h => h) (Or.inl ⟨by kernel_rfl, ?_⟩) (by assumption) ?_
                  rotate_left
                  · intro wv hSw
                    go_simp
                    try with_reducible rfl
                  simp only [Act.put, List.setIfInBounds_toArray, List.set_cons_zero, List.set_cons_succ, List.getElem_toArray, List.getElem_cons_succ, List.getElem_cons_zero]
                  refine wpAnyH_ready (rs := [25]) (by kernel_rfl) (by simp) ?_
                  refine AllReadyH.cons rfl (fun K hK => ?_) (AllReadyH.nil)
                  have h9 : YB (World.alloc V5 (.cells #[.string nm, .int .u64 (m8 : Nat), .int .u64 (m16 : Nat), .bool true] 42)) (World.heap V5).size (nm, m8, m16, true) := heap_alloc_last V5 _
                  have hB : Below W3.heap.size W3 (World.alloc V5 (.cells #[.string nm, .int .u64 (m8 : Nat), .int .u64 (m16 : Nat), .bool true] 42)) := hHeld.alloc hHeld.size _
                  have HO2 := Lib.hid (own_keep HO.out ((Below.refl _ _).alloc (Nat.le_refl _) (.cells #[.string nm, .int .u64 (m8 : Nat), .int .u64 (m16 : Nat), .bool true] 42)))
                  clear HO
                  go_simp
                  refine hK.out _ _ hB (fun hHeld2 => ?_)
                  clear hK K hHeld hHeld2
                  have HB9 := Lib.hid h9
                  clear h9
                  generalize World.alloc V5 _ = V6 at HB9 hB HO2 ⊢
                  generalize (World.heap V5).size = b6 at HB9 ⊢
                  have hHeld : (fun W : World => Below W3.heap.size W3 W) V6 := hB
                  clear hB
                  try simp only [Act.put, List.setIfInBounds_toArray, List.set_cons_zero, List.set_cons_succ, List.getElem_toArray, List.getElem_cons_succ, List.getElem_cons_zero]
                  refine wpAnyH_ready (rs := [26]) (by kernel_rfl) (by simp) ?_
                  refine AllReadyH.cons rfl (fun K hK => ?_) (AllReadyH.nil)
                  rw [if_pos (by kernel_rfl)]
                  refine wp_app_syms (x := .tmp 141) (y := .tmp 166) (base := W3.heap.size) (v := u10) (n := L.length) (xs := cellsY L) (M := [(nm, m8, m16, true)]) rfl rfl rfl HO2.out (.inr ⟨_, rfl, rfl, src_one HB9.out⟩) (by have := HLN.out; omega) hHeld.size ?_
                  intro v9 V9 hown hgr
                  have hB := hHeld.grown hgr hHeld.size (fun x e => owns_block HO2.out x e)
                  refine hK.out _ _ hB (fun hHeld2 => ?_)
                  clear hK K hHeld hHeld2 hgr HO2 HB9
                  have HN9 := Lib.hid (sy_snoc hown hB)
                  clear hown
                  have hHeld : (fun W : World => Below W3.heap.size W3 W) V9 := hB
                  clear hB
                  try simp only [Act.put, List.setIfInBounds_toArray, List.set_cons_zero, List.set_cons_succ, List.getElem_toArray, List.getElem_cons_succ, List.getElem_cons_zero]
                  refine wpAnyH_take (i := 27) (v := ?_) rfl (by kernel_rfl) (by kernel_rfl) (by kernel_rfl) (fun _ _ _ h => h) (Or.inl ⟨by kernel_rfl, ?_⟩) (by assumption) ?_
                  rotate_left
                  · intro wv hSw
                    go_simp
                    try with_reducible rfl
                  simp only [Act.put, List.setIfInBounds_toArray, List.set_cons_zero, List.set_cons_succ, List.getElem_toArray, List.getElem_cons_succ, List.getElem_cons_zero]
                  refine wpAnyH_done (by kernel_rfl) ?_ _
                  refine NoPanic.normal ?_
                  clear hHeld
                  have HSN := Lib.hid (syms_some HSL.out (s := (nm, m8, m16, true)) (by rw [HSY.out]; simp [HF1.out, HF2.out]))
                  go_wp2_with fail
                  go_roundw
                  case rel => exact ⟨k + 1, L ++ [(nm, m8, m16, true)], by omega, by first | done | (congr 1; have := HKK.out; omega), HSN, HN9⟩
                  case measure => have := HKK.out; simp [intOf]; omega
              · have HF1 := Lib.hid hf1
                obtain ⟨qq, hqq⟩ : ∃ qq, m4 % 16 = qq := ⟨_, rfl⟩
                rw [hqq] at e15
                have dl2 : ¬ (qq : Int) = 2 := by omega
                have dl : ((qq : Int) == 2) = false := by
                  rw [beq_eq_false_iff_ne]
                  omega
                clear hf1 hqq
                have HO := Lib.hid (own_keep HS4.out.1 (Below.refl _ _).drew)
                refine wp_region_noPanic ?_
                refine wp_region_held_drew (S := fun W : World => Below W3.heap.size W3 W) (by kernel_rfl) ?_ (fun hHeld => ?_)
                · exact HS4.out.2.drew
                generalize World.drew _ = V5 at HO hHeld ⊢
                refine wpAnyH_take (i := 0) (v := ?_) rfl (by kernel_rfl) (by kernel_rfl) (by kernel_rfl) (fun _ _ _ h => h) (Or.inl ⟨by kernel_rfl, ?_⟩) (by assumption) ?_
                rotate_left
                · intro wv hSw
                  go_simp
                  try with_reducible rfl
                simp only [Act.put, List.setIfInBounds_toArray, List.set_cons_zero, List.set_cons_succ, List.getElem_toArray, List.getElem_cons_succ, List.getElem_cons_zero]
                refine wpAnyH_take (i := 1) (v := ?_) rfl (by kernel_rfl) (by kernel_rfl) (by kernel_rfl) (fun _ _ _ h => h) (Or.inl ⟨by kernel_rfl, ?_⟩) (by assumption) ?_
                rotate_left
                · intro wv hSw
                  go_simp
                  try with_reducible rfl
                simp only [Act.put, List.setIfInBounds_toArray, List.set_cons_zero, List.set_cons_succ, List.getElem_toArray, List.getElem_cons_succ, List.getElem_cons_zero]
                refine wpAnyH_take (i := 2) (v := ?_) rfl (by kernel_rfl) (by kernel_rfl) (by kernel_rfl) (fun _ _ _ h => h) (Or.inl ⟨by kernel_rfl, ?_⟩) (by assumption) ?_
                rotate_left
                · intro wv hSw
                  go_simp
                  try with_reducible rfl
                simp only [Act.put, List.setIfInBounds_toArray, List.set_cons_zero, List.set_cons_succ, List.getElem_toArray, List.getElem_cons_succ, List.getElem_cons_zero]
                refine wpAnyH_take (i := 3) (v := ?_) rfl (by kernel_rfl) (by kernel_rfl) (by kernel_rfl) (fun _ _ _ h => h) (Or.inl ⟨by kernel_rfl, ?_⟩) (by assumption) ?_
                rotate_left
                · intro wv hSw
                  go_simp
                  try with_reducible rfl
                simp only [Act.put, List.setIfInBounds_toArray, List.set_cons_zero, List.set_cons_succ, List.getElem_toArray, List.getElem_cons_succ, List.getElem_cons_zero]
                refine wpAnyH_take (i := 4) (v := ?_) rfl (by kernel_rfl) (by kernel_rfl) (by kernel_rfl) (fun _ _ _ h => h) (Or.inl ⟨by kernel_rfl, ?_⟩) (by assumption) ?_
                rotate_left
                · intro wv hSw
                  go_simp
                  try with_reducible rfl
                simp only [Act.put, List.setIfInBounds_toArray, List.set_cons_zero, List.set_cons_succ, List.getElem_toArray, List.getElem_cons_succ, List.getElem_cons_zero]
                refine wpAnyH_take (i := 6) (v := ?_) rfl (by kernel_rfl) (by kernel_rfl) (by kernel_rfl) (fun _ _ _ h => h) (Or.inl ⟨by kernel_rfl, ?_⟩) (by assumption) ?_
                rotate_left
                · intro wv hSw
                  go_simp
                  try with_reducible rfl
                simp only [Act.put, List.setIfInBounds_toArray, List.set_cons_zero, List.set_cons_succ, List.getElem_toArray, List.getElem_cons_succ, List.getElem_cons_zero]
                refine wpAnyH_take (i := 7) (v := ?_) rfl (by kernel_rfl) (by kernel_rfl) (by kernel_rfl) (fun _ _ _ h => h) (Or.inl ⟨by kernel_rfl, ?_⟩) (by assumption) ?_
                rotate_left
                · intro wv hSw
                  go_simp
                  try with_reducible rfl
                simp only [Act.put, List.setIfInBounds_toArray, List.set_cons_zero, List.set_cons_succ, List.getElem_toArray, List.getElem_cons_succ, List.getElem_cons_zero]
                refine wpAnyH_take (i := 8) (v := ?_) rfl (by kernel_rfl) (by kernel_rfl) (by kernel_rfl) (fun _ _ _ h => h) (Or.inl ⟨by kernel_rfl, ?_⟩) (by assumption) ?_
                rotate_left
                · intro wv hSw
                  go_simp
                  try with_reducible rfl
                simp only [Act.put, List.setIfInBounds_toArray, List.set_cons_zero, List.set_cons_succ, List.getElem_toArray, List.getElem_cons_succ, List.getElem_cons_zero]
                refine wpAnyH_take (i := 10) (v := ?_) rfl (by kernel_rfl) (by kernel_rfl) (by kernel_rfl) (fun _ _ _ h => h) (Or.inl ⟨by kernel_rfl, ?_⟩) (by assumption) ?_
                rotate_left
                · intro wv hSw
                  go_simp
                  try with_reducible rfl
                simp only [Act.put, List.setIfInBounds_toArray, List.set_cons_zero, List.set_cons_succ, List.getElem_toArray, List.getElem_cons_succ, List.getElem_cons_zero]
                refine wpAnyH_take (i := 11) (v := ?_) rfl (by kernel_rfl) (by kernel_rfl) (by kernel_rfl) (fun _ _ _ h => h) (Or.inl ⟨by kernel_rfl, ?_⟩) (by assumption) ?_
                rotate_left
                · intro wv hSw
                  go_simp
                  try with_reducible rfl
                simp only [Act.put, List.setIfInBounds_toArray, List.set_cons_zero, List.set_cons_succ, List.getElem_toArray, List.getElem_cons_succ, List.getElem_cons_zero]
                refine wpAnyH_take (i := 12) (v := ?_) rfl (by kernel_rfl) (by kernel_rfl) (by kernel_rfl) (fun _ _ _ h => h) (Or.inl ⟨by kernel_rfl, ?_⟩) (by assumption) ?_
                rotate_left
                · intro wv hSw
                  go_simp
                  try with_reducible rfl
                simp only [Act.put, List.setIfInBounds_toArray, List.set_cons_zero, List.set_cons_succ, List.getElem_toArray, List.getElem_cons_succ, List.getElem_cons_zero]
                refine wpAnyH_take (i := 13) (v := ?_) rfl (by kernel_rfl) (by kernel_rfl) (by kernel_rfl) (fun _ _ _ h => h) (Or.inl ⟨by kernel_rfl, ?_⟩) (by assumption) ?_
                rotate_left
                · intro wv hSw
                  go_simp
                  try with_reducible rfl
                simp only [Act.put, List.setIfInBounds_toArray, List.set_cons_zero, List.set_cons_succ, List.getElem_toArray, List.getElem_cons_succ, List.getElem_cons_zero]
                refine wpAnyH_take (i := 14) (v := ?_) rfl (by kernel_rfl) (by kernel_rfl) (by kernel_rfl) (fun _ _ _ h => h) (Or.inl ⟨by kernel_rfl, ?_⟩) (by assumption) ?_
                rotate_left
                · intro wv hSw
                  have cq := HCB.out wv hSw
                  go_simp
                  try with_reducible rfl
                simp only [Act.put, List.setIfInBounds_toArray, List.set_cons_zero, List.set_cons_succ, List.getElem_toArray, List.getElem_cons_succ, List.getElem_cons_zero]
                refine wpAnyH_take (i := 15) (v := ?_) rfl (by kernel_rfl) (by kernel_rfl) (by kernel_rfl) (fun _ _ _ h => h) (Or.inl ⟨by kernel_rfl, ?_⟩) (by assumption) ?_
                rotate_left
                · intro wv hSw
                  go_simp
                  try with_reducible rfl
                simp only [Act.put, List.setIfInBounds_toArray, List.set_cons_zero, List.set_cons_succ, List.getElem_toArray, List.getElem_cons_succ, List.getElem_cons_zero]
                refine wpAnyH_take (i := 16) (v := ?_) rfl (by kernel_rfl) (by kernel_rfl) (by kernel_rfl) (fun _ _ _ h => h) (Or.inl ⟨by kernel_rfl, ?_⟩) (by assumption) ?_
                rotate_left
                · intro wv hSw
                  go_simp
                  try with_reducible rfl
                simp only [Act.put, List.setIfInBounds_toArray, List.set_cons_zero, List.set_cons_succ, List.getElem_toArray, List.getElem_cons_succ, List.getElem_cons_zero]
                refine wpAnyH_ready (rs := [5]) (by kernel_rfl) (by simp) ?_
                refine AllReadyH.cons rfl (fun K hK => ?_) (AllReadyH.nil)
                go_simp
                go_at_call 28
                with_reducible refine (HT8.out _ hHeld).mono ?_
                rintro e W9x ⟨rfl, hw9⟩
                rw [hw9]
                clear hw9
                refine hK.out _ _ hHeld (fun hHeld2 => ?_)
                clear hK K hHeld2
                try simp only [Act.put, List.setIfInBounds_toArray, List.set_cons_zero, List.set_cons_succ, List.getElem_toArray, List.getElem_cons_succ, List.getElem_cons_zero]
                refine wpAnyH_ready (rs := [9]) (by kernel_rfl) (by simp) ?_
                refine AllReadyH.cons rfl (fun K hK => ?_) (AllReadyH.nil)
                go_simp
                go_at_call 28
                with_reducible refine (HT16.out _ hHeld).mono ?_
                rintro e W9x ⟨rfl, hw9⟩
                rw [hw9]
                clear hw9
                refine hK.out _ _ hHeld (fun hHeld2 => ?_)
                clear hK K hHeld2
                try simp only [Act.put, List.setIfInBounds_toArray, List.set_cons_zero, List.set_cons_succ, List.getElem_toArray, List.getElem_cons_succ, List.getElem_cons_zero]
                refine wpAnyH_take (i := 17) (v := ?_) rfl (by kernel_rfl) (by kernel_rfl) (by kernel_rfl) (fun _ _ _ h => h) (Or.inl ⟨by kernel_rfl, ?_⟩) (by assumption) ?_
                rotate_left
                · intro wv hSw
                  go_simp
                  try with_reducible rfl
                simp only [Act.put, List.setIfInBounds_toArray, List.set_cons_zero, List.set_cons_succ, List.getElem_toArray, List.getElem_cons_succ, List.getElem_cons_zero]
                refine wpAnyH_take (i := 18) (v := undef) rfl (by kernel_rfl) (by kernel_rfl) (by kernel_rfl) (fun _ _ _ h => h) (Or.inr ⟨by kernel_rfl, rfl⟩) (by assumption) ?_
                simp only [Act.put, List.setIfInBounds_toArray, List.set_cons_zero, List.set_cons_succ, List.getElem_toArray, List.getElem_cons_succ, List.getElem_cons_zero]
                refine wpAnyH_take (i := 19) (v := undef) rfl (by kernel_rfl) (by kernel_rfl) (by kernel_rfl) (fun _ _ _ h => h) (Or.inr ⟨by kernel_rfl, rfl⟩) (by assumption) ?_
                simp only [Act.put, List.setIfInBounds_toArray, List.set_cons_zero, List.set_cons_succ, List.getElem_toArray, List.getElem_cons_succ, List.getElem_cons_zero]
                refine wpAnyH_take (i := 20) (v := undef) rfl (by kernel_rfl) (by kernel_rfl) (by kernel_rfl) (fun _ _ _ h => h) (Or.inr ⟨by kernel_rfl, rfl⟩) (by assumption) ?_
                simp only [Act.put, List.setIfInBounds_toArray, List.set_cons_zero, List.set_cons_succ, List.getElem_toArray, List.getElem_cons_succ, List.getElem_cons_zero]
                refine wpAnyH_take (i := 21) (v := undef) rfl (by kernel_rfl) (by kernel_rfl) (by kernel_rfl) (fun _ _ _ h => h) (Or.inr ⟨by kernel_rfl, rfl⟩) (by assumption) ?_
                simp only [Act.put, List.setIfInBounds_toArray, List.set_cons_zero, List.set_cons_succ, List.getElem_toArray, List.getElem_cons_succ, List.getElem_cons_zero]
                refine wpAnyH_take (i := 22) (v := undef) rfl (by kernel_rfl) (by kernel_rfl) (by kernel_rfl) (fun _ _ _ h => h) (Or.inr ⟨by kernel_rfl, rfl⟩) (by assumption) ?_
                simp only [Act.put, List.setIfInBounds_toArray, List.set_cons_zero, List.set_cons_succ, List.getElem_toArray, List.getElem_cons_succ, List.getElem_cons_zero]
                refine wpAnyH_take (i := 23) (v := ?_) rfl (by kernel_rfl) (by kernel_rfl) (by kernel_rfl) (fun _ _ _ h => h) (Or.inl ⟨by kernel_rfl, ?_⟩) (by assumption) ?_
                rotate_left
                · intro wv hSw
                  go_simp
                  try with_reducible rfl
                simp only [Act.put, List.setIfInBounds_toArray, List.set_cons_zero, List.set_cons_succ, List.getElem_toArray, List.getElem_cons_succ, List.getElem_cons_zero]
                refine wpAnyH_take (i := 24) (v := ?_) rfl (by kernel_rfl) (by kernel_rfl) (by kernel_rfl) (fun _ _ _ h => h) (Or.inl ⟨by kernel_rfl, ?_⟩) (by assumption) ?_
                rotate_left
                · intro wv hSw
                  go_simp
                  try with_reducible rfl
                simp only [Act.put, List.setIfInBounds_toArray, List.set_cons_zero, List.set_cons_succ, List.getElem_toArray, List.getElem_cons_succ, List.getElem_cons_zero]
                refine wpAnyH_ready (rs := [25]) (by kernel_rfl) (by simp) ?_
                refine AllReadyH.cons rfl (fun K hK => ?_) (AllReadyH.nil)
                have h9 : YB (World.alloc V5 (.cells #[.string nm, .int .u64 (m8 : Nat), .int .u64 (m16 : Nat), .bool false] 42)) (World.heap V5).size (nm, m8, m16, false) := heap_alloc_last V5 _
                have hB : Below W3.heap.size W3 (World.alloc V5 (.cells #[.string nm, .int .u64 (m8 : Nat), .int .u64 (m16 : Nat), .bool false] 42)) := hHeld.alloc hHeld.size _
                have HO2 := Lib.hid (own_keep HO.out ((Below.refl _ _).alloc (Nat.le_refl _) (.cells #[.string nm, .int .u64 (m8 : Nat), .int .u64 (m16 : Nat), .bool false] 42)))
                clear HO
                go_simp
                refine hK.out _ _ hB (fun hHeld2 => ?_)
                clear hK K hHeld hHeld2
                have HB9 := Lib.hid h9
                clear h9
                generalize World.alloc V5 _ = V6 at HB9 hB HO2 ⊢
                generalize (World.heap V5).size = b6 at HB9 ⊢
                have hHeld : (fun W : World => Below W3.heap.size W3 W) V6 := hB
                clear hB
                try simp only [Act.put, List.setIfInBounds_toArray, List.set_cons_zero, List.set_cons_succ, List.getElem_toArray, List.getElem_cons_succ, List.getElem_cons_zero]
                refine wpAnyH_ready (rs := [26]) (by kernel_rfl) (by simp) ?_
                refine AllReadyH.cons rfl (fun K hK => ?_) (AllReadyH.nil)
                rw [if_pos (by kernel_rfl)]
                refine wp_app_syms (x := .tmp 141) (y := .tmp 166) (base := W3.heap.size) (v := u10) (n := L.length) (xs := cellsY L) (M := [(nm, m8, m16, false)]) rfl rfl rfl HO2.out (.inr ⟨_, rfl, rfl, src_one HB9.out⟩) (by have := HLN.out; omega) hHeld.size ?_
                intro v9 V9 hown hgr
                have hB := hHeld.grown hgr hHeld.size (fun x e => owns_block HO2.out x e)
                refine hK.out _ _ hB (fun hHeld2 => ?_)
                clear hK K hHeld hHeld2 hgr HO2 HB9
                have HN9 := Lib.hid (sy_snoc hown hB)
                clear hown
                have hHeld : (fun W : World => Below W3.heap.size W3 W) V9 := hB
                clear hB
                try simp only [Act.put, List.setIfInBounds_toArray, List.set_cons_zero, List.set_cons_succ, List.getElem_toArray, List.getElem_cons_succ, List.getElem_cons_zero]
                refine wpAnyH_take (i := 27) (v := ?_) rfl (by kernel_rfl) (by kernel_rfl) (by kernel_rfl) (fun _ _ _ h => h) (Or.inl ⟨by kernel_rfl, ?_⟩) (by assumption) ?_
                rotate_left
                · intro wv hSw
                  go_simp
                  try with_reducible rfl
                simp only [Act.put, List.setIfInBounds_toArray, List.set_cons_zero, List.set_cons_succ, List.getElem_toArray, List.getElem_cons_succ, List.getElem_cons_zero]
                refine wpAnyH_done (by kernel_rfl) ?_ _
                refine NoPanic.normal ?_
                clear hHeld
                have HSN := Lib.hid (syms_some HSL.out (s := (nm, m8, m16, false)) (by rw [HSY.out]; simp [HF1.out]))
                go_wp2_with fail
                go_roundw
                case rel => exact ⟨k + 1, L ++ [(nm, m8, m16, false)], by omega, by first | done | (congr 1; have := HKK.out; omega), HSN, HN9⟩
                case measure => have := HKK.out; simp [intOf]; omega
end Go.Proofs.Ytegbhjmghkbgmaa
