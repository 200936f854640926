/- What may be any: mathematics. -/
import Derived.Test.YtnaggdhophncaaaDoorSb
namespace Go.Proofs.YtnaggdhophncaaaDoor
open Go.RowKit Go.Shelf
set_option linter.unusedVariables false
set_option linter.unusedSimpArgs false
attribute [local go_sem] Oper.semAt_some
theorem mu_any : (List.range 10).all (fun k => (decide (mA k + mS k ≤ 7) || (decide (16 ≤ mA k) && decide (mA k + mS k ≤ 62))) && (decide (mU k + 2 ≤ 7) || (decide (16 ≤ mU k) && decide (mU k + 2 ≤ 62)))) = true := by decide
/-- The bytes from 7 to 15 and behind 61 make no difference. -/
theorem any_kinds {y z : Nat → Nat} (h : ∀ j, j < 62 → j < 7 ∨ 16 ≤ j → y j = z j) : kindsB y = kindsB z := by
  have hn : ∀ o s, (o + s ≤ 7 ∨ (16 ≤ o ∧ o + s ≤ 62)) → numZ y o s = numZ z o s := fun o s ho => numZ_congr fun j h1 h2 => h j (by omega) (by omega)
  have hm : mustsB y = mustsB z := by
    unfold mustsB
    rw [Bool.eq_iff_iff, List.all_eq_true, List.all_eq_true]
    have e : ∀ k ∈ List.range 10, mustOk y k = mustOk z k := fun k hk => by
      have hf := List.all_eq_true.1 mu_any k hk
      simp only [Bool.and_eq_true, Bool.or_eq_true, decide_eq_true_eq] at hf
      unfold mustOk
      rw [hn _ _ hf.1, hn _ _ hf.2]
    exact ⟨fun a k hk => by rw [← e k hk]; exact a k hk, fun a k hk => by rw [e k hk]; exact a k hk⟩
  unfold kindsB
  rw [hm, hn 56 2 (by decide), hn 60 2 (by decide)]
theorem any_mag {y z : Nat → Nat} (h : ∀ j, j < 62 → j < 7 ∨ 16 ≤ j → y j = z j) : magZ y = magZ z := by
  unfold magZ
  rw [h 0 (by decide) (by decide), h 1 (by decide) (by decide), h 2 (by decide) (by decide), h 3 (by decide) (by decide)]
theorem any_num {y z : Nat → Nat} (h : ∀ j, j < 62 → j < 7 ∨ 16 ≤ j → y j = z j) {o s : Nat} (h1 : 16 ≤ o) (h2 : o + s ≤ 62) : numZ y o s = numZ z o s := numZ_congr fun j a b => h j (by omega) (by omega)
theorem segC_any {y z : Nat → Nat} (h : ∀ j, j < 56 → j < 24 ∨ 32 ≤ j → y j = z j) : segC y = segC z := by
  have hn : ∀ o s, (o + s ≤ 24 ∨ (32 ≤ o ∧ o + s ≤ 56)) → numZ y o s = numZ z o s := fun o s ho => numZ_congr fun j h1 h2 => h j (by omega) (by omega)
  unfold segC
  rw [hn 0 4 (by decide), hn 4 4 (by decide), hn 8 8 (by decide), hn 16 8 (by decide), hn 32 8 (by decide), hn 40 8 (by decide), hn 48 8 (by decide)]
theorem secC_any {y z : Nat → Nat} (h : ∀ j, j < 64 → 4 ≤ j → y j = z j) : secC y = secC z := by
  have hn : ∀ o s, 4 ≤ o → o + s ≤ 64 → numZ y o s = numZ z o s := fun o s h0 ho => numZ_congr fun j h1 h2 => h j (by omega) (by omega)
  unfold secC
  rw [hn 4 4 (by decide) (by decide), hn 24 8 (by decide) (by decide), hn 32 8 (by decide) (by decide), hn 40 4 (by decide) (by decide), hn 56 8 (by decide) (by decide)]
/-- The object whose bytes that may be any are others. -/
def anyZ (Z y : Nat → Nat) : Nat → Nat := cpF (cpF Z 7 9 y) 62 2 (fun j => y (9 + j))
theorem anyZ_out (Z y : Nat → Nat) {j : Nat} (h : j < 7 ∨ (16 ≤ j ∧ j < 62) ∨ 64 ≤ j) : anyZ Z y j = Z j := by
  unfold anyZ
  rw [cpF_out (by omega), cpF_out (by omega)]
theorem anyZ_lt {Z y : Nat → Nat} (hZ : ∀ j, Z j < 256) (hy : ∀ j, y j < 256) (j : Nat) : anyZ Z y j < 256 := cpF_lt (cpF_lt hZ hy 7 9) (fun j => hy _) 62 2 j
section
variable {en : Nat} {zs : List Sg} {cs : List Sc} {rz y : Nat → Nat}
theorem anyL (j : Nat) (h1 : j < 62) (h2 : j < 7 ∨ 16 ≤ j) : anyZ (laidZ en zs cs rz) y j = laidZ en zs cs rz j := anyZ_out _ _ (by omega)
theorem any_nums (h1 : U en) (h4 : zs.length < 1000) (h5 : cs.length < 1000) : numZ (anyZ (laidZ en zs cs rz) y) 24 8 = en ∧ numZ (anyZ (laidZ en zs cs rz) y) 32 8 = 64 ∧ numZ (anyZ (laidZ en zs cs rz) y) 40 8 = 64 + 56 * zs.length ∧ numZ (anyZ (laidZ en zs cs rz) y) 56 2 = zs.length ∧ numZ (anyZ (laidZ en zs cs rz) y) 60 2 = cs.length := by
  obtain ⟨e1, e2, e3, e4, e5⟩ := laid_nums (en := en) (zs := zs) (cs := cs) (rz := rz) h1 h4 h5
  have hl := anyL (en := en) (zs := zs) (cs := cs) (rz := rz) (y := y)
  exact ⟨(any_num hl (by decide) (by decide)).trans e1, (any_num hl (by decide) (by decide)).trans e2, (any_num hl (by decide) (by decide)).trans e3, (any_num hl (by decide) (by decide)).trans e4, (any_num hl (by decide) (by decide)).trans e5⟩
theorem any_srows (hz : ∀ s ∈ zs, s.ok) : rowsL segC (anyZ (laidZ en zs cs rz) y) 64 56 zs.length = zs.flatMap Sg.cs :=
  seg_rows hz fun k s hk j hj => by rw [anyZ_out _ _ (by omega), show 64 + k * 56 + j = 64 + 56 * k + j by omega]; exact laid_seg hk hj
theorem any_crows (hc : ∀ s ∈ cs, s.ok) : rowsL secC (anyZ (laidZ en zs cs rz) y) (64 + 56 * zs.length) 64 cs.length = cs.flatMap Sc.cs :=
  sec_rows hc fun k s hk j hj => by rw [anyZ_out _ _ (by omega), show 64 + 56 * zs.length + k * 64 + j = 64 + 56 * zs.length + 64 * k + j by omega]; exact laid_sec hk hj
end
/-- What Read tells of an object that was laid, or of one whose bytes that may be any are others. -/
def ReadsAs (en N0 : Nat) (zs : List Sg) (cs : List Sc) (w : World) (e : Ending) (W' : World) : Prop :=
  ∃ x1 q1 x2 q2, e = .returned (.tuple #[.agg #[.int .u64 (en : Nat), .int .u64 64, .int .u64 (N0 : Nat), .slice x1 zs.length q1, .slice x2 cs.length q2], .int .i64 0]) ∧ RX W' x1 (zs.flatMap Sg.cs) ∧ RX W' x2 (cs.flatMap Sc.cs) ∧ Below w.heap.size w W'
theorem read_laid {en : Nat} {zs : List Sg} {cs : List Sc} {rz : Nat → Nat} (hz : ∀ s ∈ zs, s.ok) (hc : ∀ s ∈ cs, s.ok) (hen : U en) (hrz : ∀ j, rz j < 256) (h1 : zs.length ≤ 16) (h2 : cs.length ≤ 32) {ad : Option Addr} {len cap : Nat} (hl : len ≤ cap) (hm : cap ≤ 9223372036854775807) (hn : 64 + 56 * zs.length + 64 * cs.length ≤ len) (hn2 : len ≤ 131072) (w : World) (h : BS w ad len (laidZ en zs cs rz)) (hG : GM w) :
    Calls Tryd.prog 10 #[.slice ad len cap] w (ReadsAs en (64 + 56 * zs.length) zs cs w) := by
  obtain ⟨e1, e2, e3, e4, e5⟩ := laid_nums (en := en) (zs := zs) (cs := cs) (rz := rz) hen (by omega) (by omega)
  refine (read_good (z := laidZ en zs cs rz) (laid_lt hrz) hl hm h hG (readE_of (by omega) (by omega) laid_mag (by rw [laid_kinds (by omega) (by omega)]; simp [h1, h2]) (by rw [place_of e2 e3 e4 e5]; exact place_yes hn)) e1 e2 e3 e4 e5).mono ?_
  rintro e W ⟨x1, q1, x2, q2, rfl, o1, o2, hb⟩
  rw [laid_srows hz] at o1
  rw [laid_crows hc] at o2
  exact ⟨x1, q1, x2, q2, rfl, RX.own o1, RX.own o2, hb⟩
theorem read_any_laid {en : Nat} {zs : List Sg} {cs : List Sc} {rz y : Nat → Nat} (hz : ∀ s ∈ zs, s.ok) (hc : ∀ s ∈ cs, s.ok) (hen : U en) (hrz : ∀ j, rz j < 256) (hy : ∀ j, y j < 256) (h1 : zs.length ≤ 16) (h2 : cs.length ≤ 32) {ad : Option Addr} {len cap : Nat} (hl : len ≤ cap) (hm : cap ≤ 9223372036854775807) (hn : 64 + 56 * zs.length + 64 * cs.length ≤ len) (hn2 : len ≤ 131072) (w : World) (h : BS w ad len (anyZ (laidZ en zs cs rz) y)) (hG : GM w) :
    Calls Tryd.prog 10 #[.slice ad len cap] w (ReadsAs en (64 + 56 * zs.length) zs cs w) := by
  obtain ⟨e1, e2, e3, e4, e5⟩ := any_nums (en := en) (zs := zs) (cs := cs) (rz := rz) (y := y) hen (by omega) (by omega)
  refine (read_good (z := anyZ (laidZ en zs cs rz) y) (anyZ_lt (laid_lt hrz) hy) hl hm h hG (readE_of (by omega) (by omega) ((any_mag anyL).trans laid_mag) (by rw [any_kinds anyL, laid_kinds (by omega) (by omega)]; simp [h1, h2]) (by rw [place_of e2 e3 e4 e5]; exact place_yes hn)) e1 e2 e3 e4 e5).mono ?_
  rintro e W ⟨x1, q1, x2, q2, rfl, o1, o2, hb⟩
  rw [any_srows hz] at o1
  rw [any_crows hc] at o2
  exact ⟨x1, q1, x2, q2, rfl, RX.own o1, RX.own o2, hb⟩
theorem take_any1 {ad : Option Addr} {cap : Nat} {s : Sg} (hs : s.ok) (hl : 56 ≤ cap) (hm : cap ≤ 9223372036854775807) {y : Nat → Nat} (hy : ∀ j, y j < 256) (w : World) (h : BS w ad 56 (cpF s.f 24 8 y)) : Calls Tryd.prog 20 #[.slice ad 56 cap] w fun e w' => e = .returned (.tuple #[s.v, .int .i64 0]) ∧ Below w.heap.size w w' := by
  have h1 := take_seg ad 56 cap (cpF s.f 24 8 y) (cpF_lt (fun j => segF_lt _ _ _ _ _ _ _ j) hy 24 8) (Nat.le_refl _) hl hm w h
  have e : segC (cpF s.f 24 8 y) = s.cs := (segC_any fun j _ hj => cpF_out (by omega)).trans (seg_cells hs fun j _ => rfl)
  have e2 : Value.agg (segC (cpF s.f 24 8 y)).toArray = s.v := by rw [e]; rfl
  rw [← e2]
  exact h1
theorem take_any2 {ad : Option Addr} {cap : Nat} {s : Sc} (hs : s.ok) (hl : 64 ≤ cap) (hm : cap ≤ 9223372036854775807) {y : Nat → Nat} (hy : ∀ j, y j < 256) (w : World) (h : BS w ad 64 (cpF s.f 0 4 y)) : Calls Tryd.prog 22 #[.slice ad 64 cap] w fun e w' => e = .returned (.tuple #[s.v, .int .i64 0]) ∧ Below w.heap.size w w' := by
  have h1 := take_sec ad 64 cap (cpF s.f 0 4 y) (cpF_lt (fun j => secF_lt _ _ _ _ _ j) hy 0 4) (Nat.le_refl _) hl hm w h
  have e : secC (cpF s.f 0 4 y) = s.cs := (secC_any fun j _ hj => cpF_out (by omega)).trans (sec_cells hs fun j _ => rfl)
  have e2 : Value.agg (secC (cpF s.f 0 4 y)).toArray = s.v := by rw [e]; rfl
  rw [← e2]
  exact h1
end Go.Proofs.YtnaggdhophncaaaDoor
