/- HeaderErrors: what is read of an object whose one byte is another, or that was cut. -/
import Derived.Test.YtnaggdhophncaaaDoorAa
import Derived.Test.YtnaggdhophncaaaDoorEx
namespace Go.Proofs.YtnaggdhophncaaaDoor
open Go.RowKit Go.Shelf
set_option linter.unusedVariables false
set_option linter.unusedSimpArgs false
attribute [local go_sem] Oper.semAt_some
theorem numN_ne {y z : Nat → Nat} {i : Nat} (hi : y i ≠ z i) : ∀ k, i < k → (∀ j, j < k → j ≠ i → y j = z j) → numN y k ≠ numN z k := by
  intro k
  induction k with
  | zero => intro h; omega
  | succ k ih =>
    intro hik hj
    unfold numN
    by_cases e : i = k
    · subst e
      rw [numN_congr (fun j hj' => hj j (by omega) (by omega))]
      intro h
      have h2 : y i * 2 ^ (8 * i) = z i * 2 ^ (8 * i) := by omega
      exact hi (Nat.eq_of_mul_eq_mul_right (Nat.pow_pos (by decide)) h2)
    · rw [hj k (by omega) (by omega)]
      have := ih (by omega) (fun j h1 h2 => hj j (by omega) h2)
      intro h
      apply this
      omega
/-- One byte is another. -/
def oneF (z : Nat → Nat) (p x : Nat) : Nat → Nat := fun j => if j = p then x else z j
theorem oneF_ne {z : Nat → Nat} {p x j : Nat} (h : j ≠ p) : oneF z p x j = z j := if_neg h
theorem oneF_at (z : Nat → Nat) (p x : Nat) : oneF z p x p = x := if_pos rfl
theorem oneF_lt {z : Nat → Nat} {p x : Nat} (hz : ∀ j, z j < 256) (hx : x < 256) (j : Nat) : oneF z p x j < 256 := by
  unfold oneF
  split
  · exact hx
  · exact hz j
theorem one_num {z : Nat → Nat} {p x o s : Nat} (hx : x ≠ z p) (h1 : o ≤ p) (h2 : p < o + s) : numZ (oneF z p x) o s ≠ numZ z o s :=
  numN_ne (i := p - o) (by rw [show o + (p - o) = p by omega, oneF_at]; exact hx) s (by omega) (fun j _ h => oneF_ne (by omega))
theorem one_mag {z : Nat → Nat} {p x : Nat} (hm : magZ z = true) (hx : x ≠ z p) (hp : p < 4) : magZ (oneF z p x) = false := by
  unfold magZ magB at hm ⊢
  simp only [Bool.and_eq_true, beq_iff_eq] at hm
  obtain ⟨h0, h1, h2, h3⟩ := hm
  rw [Bool.eq_false_iff]
  intro e
  simp only [Bool.and_eq_true, beq_iff_eq] at e
  obtain ⟨e0, e1, e2, e3⟩ := e
  rcases (by omega : p = 0 ∨ p = 1 ∨ p = 2 ∨ p = 3) with rfl | rfl | rfl | rfl
  · rw [oneF_at] at e0; omega
  · rw [oneF_at] at e1; omega
  · rw [oneF_at] at e2; omega
  · rw [oneF_at] at e3; omega
theorem must_of {z : Nat → Nat} (hk : kindsB z = true) {k : Nat} (h : k < 10) (hu : mU k = 0) : numZ z (mA k) (mS k) = mW k := by
  unfold kindsB mustsB at hk
  rw [Bool.and_eq_true] at hk
  have := List.all_eq_true.1 hk.1 k (List.mem_range.2 h)
  unfold mustOk at this
  rw [hu] at this
  simpa using this
theorem kinds_no {z : Nat → Nat} {k : Nat} (h : k < 10) (hu : mU k = 0) (hn : numZ z (mA k) (mS k) ≠ mW k) : kindsB z = false := by
  unfold kindsB mustsB
  have : (List.range 10).all (mustOk z) = false := by
    rw [Bool.eq_false_iff]
    intro e
    have := List.all_eq_true.1 e k (List.mem_range.2 h)
    unfold mustOk at this
    rw [hu] at this
    simp at this
    exact hn this
  rw [this]
  rfl
theorem one_kinds {z : Nat → Nat} {p x : Nat} (hk : kindsB z = true) (hx : x ≠ z p) (hp : (4 ≤ p ∧ p < 7) ∨ (16 ≤ p ∧ p < 24)) : kindsB (oneF z p x) = false := by
  have key : ∀ k, k < 10 → mU k = 0 → mA k ≤ p → p < mA k + mS k → kindsB (oneF z p x) = false := fun k h1 h2 h3 h4 =>
    kinds_no h1 h2 (by rw [← must_of hk h1 h2]; exact one_num hx h3 h4)
  rcases (by omega : p = 4 ∨ p = 5 ∨ p = 6 ∨ (16 ≤ p ∧ p < 18) ∨ (18 ≤ p ∧ p < 20) ∨ (20 ≤ p ∧ p < 24)) with h | h | h | h | h | h
  · exact key 0 (by decide) rfl (by show 4 ≤ p; omega) (by show p < 4 + 1; omega)
  · exact key 1 (by decide) rfl (by show 5 ≤ p; omega) (by show p < 5 + 1; omega)
  · exact key 2 (by decide) rfl (by show 6 ≤ p; omega) (by show p < 6 + 1; omega)
  · exact key 3 (by decide) rfl (by show 16 ≤ p; omega) (by show p < 16 + 2; omega)
  · exact key 4 (by decide) rfl (by show 18 ≤ p; omega) (by show p < 18 + 2; omega)
  · exact key 5 (by decide) rfl (by show 20 ≤ p; omega) (by show p < 20 + 4; omega)
def HZV : Value := .agg #[.int .u64 0, .int .u64 0, .int .u64 0, .slice none 0 0, .slice none 0 0]
/-- Read tells this error, and nothing. -/
def BadAs (E : Nat) (w : World) (e : Ending) (W' : World) : Prop := e = .returned (.tuple #[.agg #[.int .u64 0, .int .u64 0, .int .u64 0, .slice none 0 0, .slice none 0 0], .int .i64 (E : Nat)]) ∧ Below w.heap.size w W'
section
variable {en : Nat} {zs : List Sg} {cs : List Sc} {rz : Nat → Nat}
theorem laid_kinds1 (h1 : zs.length ≤ 16) (h2 : cs.length ≤ 32) : kindsB (laidZ en zs cs rz) = true := by rw [laid_kinds (by omega) (by omega)]; simp [h1, h2]
theorem cut_short (hrz : ∀ j, rz j < 256) {ad : Option Addr} {len cap : Nat} (hl : len ≤ cap) (hm : cap ≤ 9223372036854775807) (hn : len < 64) (w : World) (h : BS w ad len (laidZ en zs cs rz)) (hG : GM w) : Calls Tryd.prog 10 #[.slice ad len cap] w (BadAs 30 w) :=
  read_bad (E := 30) (z := laidZ en zs cs rz) (laid_lt hrz) hl hm h hG (readE_short hn) (by decide)
theorem cut_place (hrz : ∀ j, rz j < 256) (hen : U en) (h1 : zs.length ≤ 16) (h2 : cs.length ≤ 32) {ad : Option Addr} {len cap : Nat} (hl : len ≤ cap) (hm : cap ≤ 9223372036854775807) (hn : 64 ≤ len) (hn2 : len < 64 + 56 * zs.length + 64 * cs.length) (w : World) (h : BS w ad len (laidZ en zs cs rz)) (hG : GM w) : Calls Tryd.prog 10 #[.slice ad len cap] w (BadAs 33 w) := by
  obtain ⟨e1, e2, e3, e4, e5⟩ := laid_nums (en := en) (zs := zs) (cs := cs) (rz := rz) hen (by omega) (by omega)
  exact read_bad (E := 33) (z := laidZ en zs cs rz) (laid_lt hrz) hl hm h hG (readE_place (by omega) hn laid_mag (laid_kinds1 h1 h2) (by rw [place_of e2 e3 e4 e5]; exact place_no hn2 hn)) (by decide)
theorem big_arg {ad : Option Addr} {len cap : Nat} {z : Nat → Nat} (hz : ∀ j, z j < 256) (hl : len ≤ cap) (hm : cap ≤ 9223372036854775807) (hn : 131072 < len) (w : World) (h : BS w ad len z) (hG : GM w) : Calls Tryd.prog 10 #[.slice ad len cap] w (BadAs 2 w) :=
  read_bad (E := 2) (z := z) hz hl hm h hG (by unfold readE; rw [if_pos hn]) (by decide)
theorem one_bad31 (hrz : ∀ j, rz j < 256) {ad : Option Addr} {len cap p x : Nat} (hl : len ≤ cap) (hm : cap ≤ 9223372036854775807) (hn : 64 ≤ len) (hn2 : len ≤ 131072) (hp : p < 4) (hx : x ≠ laidZ en zs cs rz p) (hx2 : x < 256) (w : World) (h : BS w ad len (oneF (laidZ en zs cs rz) p x)) (hG : GM w) : Calls Tryd.prog 10 #[.slice ad len cap] w (BadAs 31 w) :=
  read_bad (E := 31) (z := oneF (laidZ en zs cs rz) p x) (oneF_lt (laid_lt hrz) hx2) hl hm h hG (readE_mag hn2 hn (one_mag laid_mag hx hp)) (by decide)
theorem one_bad32 (hrz : ∀ j, rz j < 256) (h1 : zs.length ≤ 16) (h2 : cs.length ≤ 32) {ad : Option Addr} {len cap p x : Nat} (hl : len ≤ cap) (hm : cap ≤ 9223372036854775807) (hn : 64 ≤ len) (hn2 : len ≤ 131072) (hp : (4 ≤ p ∧ p < 7) ∨ (16 ≤ p ∧ p < 24)) (hx : x ≠ laidZ en zs cs rz p) (hx2 : x < 256) (w : World) (h : BS w ad len (oneF (laidZ en zs cs rz) p x)) (hG : GM w) : Calls Tryd.prog 10 #[.slice ad len cap] w (BadAs 32 w) :=
  read_bad (E := 32) (z := oneF (laidZ en zs cs rz) p x) (oneF_lt (laid_lt hrz) hx2) hl hm h hG (readE_kind hn2 hn (by
    unfold magZ
    rw [oneF_ne (by omega), oneF_ne (by omega), oneF_ne (by omega), oneF_ne (by omega)]
    exact laid_mag) (one_kinds (laid_kinds1 h1 h2) hx hp)) (by decide)
theorem one_good (hz : ∀ s ∈ zs, s.ok) (hc : ∀ s ∈ cs, s.ok) (hen : U en) (hrz : ∀ j, rz j < 256) (h1 : zs.length ≤ 16) (h2 : cs.length ≤ 32) {ad : Option Addr} {len cap p x : Nat} (hl : len ≤ cap) (hm : cap ≤ 9223372036854775807) (hn : 64 + 56 * zs.length + 64 * cs.length ≤ len) (hn2 : len ≤ 131072) (hp : 7 ≤ p ∧ p < 16) (hx2 : x < 256) (w : World) (h : BS w ad len (oneF (laidZ en zs cs rz) p x)) (hG : GM w) :
    Calls Tryd.prog 10 #[.slice ad len cap] w (ReadsAs en (64 + 56 * zs.length) zs cs w) := by
  obtain ⟨e1, e2, e3, e4, e5⟩ := laid_nums (en := en) (zs := zs) (cs := cs) (rz := rz) hen (by omega) (by omega)
  have hl1 : ∀ j, j < 62 → j < 7 ∨ 16 ≤ j → oneF (laidZ en zs cs rz) p x j = laidZ en zs cs rz j := fun j _ h => oneF_ne (by omega)
  refine (read_good (z := oneF (laidZ en zs cs rz) p x) (oneF_lt (laid_lt hrz) hx2) hl hm h hG (readE_of (by omega) (by omega) ((any_mag hl1).trans laid_mag) (by rw [any_kinds hl1]; exact laid_kinds1 h1 h2) (by rw [place_of ((any_num hl1 (by decide) (by decide)).trans e2) ((any_num hl1 (by decide) (by decide)).trans e3) ((any_num hl1 (by decide) (by decide)).trans e4) ((any_num hl1 (by decide) (by decide)).trans e5)]; exact place_yes hn)) ((any_num hl1 (by decide) (by decide)).trans e1) ((any_num hl1 (by decide) (by decide)).trans e2) ((any_num hl1 (by decide) (by decide)).trans e3) ((any_num hl1 (by decide) (by decide)).trans e4) ((any_num hl1 (by decide) (by decide)).trans e5)).mono ?_
  rintro e W ⟨x1, q1, x2, q2, rfl, o1, o2, hb⟩
  rw [seg_rows hz fun k s hk j hj => by rw [oneF_ne (by omega), show 64 + k * 56 + j = 64 + 56 * k + j by omega]; exact laid_seg hk hj] at o1
  rw [sec_rows hc fun k s hk j hj => by rw [oneF_ne (by omega), show 64 + 56 * zs.length + k * 64 + j = 64 + 56 * zs.length + 64 * k + j by omega]; exact laid_sec hk hj] at o2
  exact ⟨x1, q1, x2, q2, rfl, RX.own o1, RX.own o2, hb⟩
end
theorem TK.one {cur : Array Value} {len : Nat} {f : Nat → Nat} (h : TK cur len f) {p : Nat} (hp : p < len) (x : Nat) : TK (cur.setIfInBounds p (.int .u8 (x : Nat))) len (oneF f p x) := by
  have hl := h.len
  unfold TK
  apply List.ext_getElem?
  intro j
  by_cases hj : j < len
  · rw [List.getElem?_take_of_lt hj, rowB_at _ _ _ hj, Array.getElem?_toList, Array.getElem?_setIfInBounds]
    by_cases e : p = j
    · subst e
      rw [if_pos rfl, if_pos (by omega), oneF_at]
    · rw [if_neg e, h.at_ j hj, oneF_ne (fun h => e h.symm)]
  · rw [List.getElem?_eq_none (by rw [List.length_take]; omega), List.getElem?_eq_none (by rw [rowB_len]; omega)]
theorem make_big (n : Nat) (hn : n ≤ 1000000) (w : World) : (Instr.makeSlice 22 (.int .i64 (n : Nat)) (.int .i64 (n : Nat))).run Tryd.prog w = .ok (.slice (some ⟨w.heap.size, 0, none⟩) n n) (w.alloc (.cells (rowB (fun _ => 0) n).toArray 5)) := by
  rw [← made_row]
  exact run_make_row' 22 5 (.int .u8 0) 1 Tryd.underlying22 info5 rfl .i64 .i64 n (by omega) (by omega) w
end Go.Proofs.YtnaggdhophncaaaDoor
