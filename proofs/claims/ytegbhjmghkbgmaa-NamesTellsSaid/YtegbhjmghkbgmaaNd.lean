/- What Read tells of made's objects, and of ones of which a section is another. -/
import Derived.Test.YtegbhjmghkbgmaaNb
import Derived.Test.YtegbhjmghkbgmaaRn
namespace Go.Proofs.Ytegbhjmghkbgmaa
open Go.RowKit Go.Shelf
set_option linter.unusedVariables false
set_option linter.unusedSimpArgs false
attribute [local go_sem] Oper.semAt_some
theorem madeZ_tab {ahead : Nat} {l : List En} {j : Nat} (h : j < 24 * (l.length + 1)) : madeZ ahead l (ahead + j) = tabF l l.length j := by
  unfold madeZ madeL
  rw [List.getD_eq_getElem?_getD, List.getElem?_append_left (by rw [List.length_append, List.length_replicate, List.length_map, List.length_range]; omega), List.getElem?_append_right (by simp)]
  simp [h]
theorem madeZ_str (ahead : Nat) (l : List En) (j : Nat) : madeZ ahead l (ahead + 24 * (l.length + 1) + j) = (strL l).getD j 0 := by
  unfold madeZ madeL
  rw [List.getD_eq_getElem?_getD, List.getElem?_append_right (by rw [List.length_append, List.length_replicate, List.length_map, List.length_range]; omega), List.getD_eq_getElem?_getD]
  congr 2
  first | done | (simp <;> omega) | omega
theorem tabF_lt (l : List En) : ∀ k j, tabF l k j < 256 := by
  intro k
  induction k with
  | zero => intro j; show (0 : Nat) < 256; decide
  | succ k ih =>
    intro j
    cases hx : l[k]? with
    | none =>
      have e : tabF l (k + 1) = tabF l k := by
        show (match l[k]? with | some s => _ | none => _) = _
        rw [hx]
      rw [e]
      exact ih j
    | some s =>
      rw [tabF_succ hx]
      unfold entF
      exact putF_lt (putF_lt (putF_lt (putF_lt (putF_lt ih _ _ _) _ _ _) _ _ _) _ _ _) _ _ _ j
theorem nameL_lt (b : ByteArray) : ∀ x, x ∈ nameL b → x < 256 := fun x hx => by
  obtain ⟨u, _, rfl⟩ := List.mem_map.1 hx
  exact u.toNat_lt
theorem madeL_lt (ahead : Nat) (l : List En) : ∀ x, x ∈ madeL ahead l → x < 256 := fun x hx => by
  unfold madeL at hx
  rcases List.mem_append.1 hx with hx | hx
  · rcases List.mem_append.1 hx with hx | hx
    · rw [List.eq_of_mem_replicate hx]
      decide
    · obtain ⟨j, _, rfl⟩ := List.mem_map.1 hx
      exact tabF_lt _ _ _
  · unfold strL at hx
    rcases List.mem_cons.1 hx with rfl | hx
    · decide
    · obtain ⟨s, _, hx⟩ := List.mem_flatMap.1 hx
      rcases List.mem_append.1 hx with hx | hx
      · exact nameL_lt _ _ hx
      · rw [List.mem_singleton.1 hx]
        decide
theorem getD_lt {ys : List Nat} (h : ∀ x, x ∈ ys → x < 256) (j : Nat) : ys.getD j 0 < 256 := by
  rw [List.getD_eq_getElem?_getD]
  cases hx : ys[j]? with
  | none => show (0 : Nat) < 256; decide
  | some v => exact h v (List.mem_of_getElem? hx)
theorem madeZ_lt (ahead : Nat) (l : List En) (j : Nat) : madeZ ahead l j < 256 := getD_lt (madeL_lt ahead l) j
def readT (z : Nat → Nat) (bn : Nat) (t : Sc) (o : Option Sc) : List Sy × Int := match o with
  | none => ([], 0)
  | some s => if (pieceB t bn && pieceB s bn) = true then (match symsZ (shZ z t.2.1) (shZ z s.2.1) s.2.2.1 (List.range (rowsM t.2.2.1)) with
    | none => ([], 33)
    | some l => (l, 0)) else ([], 33)
def readK (z : Nat → Nat) (bn : Nat) (t : Sc) (cs : List Sc) : List Sy × Int := if kindsS t cs = true then readT z bn t cs[t.2.2.2.1]? else ([], 32)
theorem readZ_three (z : Nat → Nat) (bn : Nat) (t s : Sc) (ht : t.1 = 2) : readZ z bn [(0, 0, 0, 0, 0), t, s] = readK z bn t [(0, 0, 0, 0, 0), t, s] := by
  have hi : symI [(0, 0, 0, 0, 0), t, s] = some 1 := by
    unfold symI
    simp [List.findIdx?_cons, ht]
  unfold readZ
  rw [if_neg (by simp), hi]
  rfl
section
variable {ahead : Nat} {l : List En} {z : Nat → Nat} {bn : Nat}
theorem made_sy (hl : l.length ≤ 60) (hf : ∀ x, x ∈ l → x.fine) (hok : ∀ x, x ∈ l → x.ok) (hz : ∀ j, j < madeN ahead l → z j = madeZ ahead l j) (hzz : ∀ j, z j < 256) : symsZ (shZ z ahead) (shZ z (ahead + 24 * (l.length + 1))) (strL l).length (List.range (rowsM (24 * (l.length + 1)))) = some (l.map En.sy) := by
  refine made_syms hl hf hok (fun j hj => ?_) (fun j hj => ?_) (fun j => hzz _)
  · show z (ahead + j) = _
    rw [hz _ (by unfold madeN; omega), madeZ_tab hj]
  · show z (ahead + 24 * (l.length + 1) + j) = _
    rw [hz _ (by unfold madeN; omega), madeZ_str]
theorem kinds_all (ao m lk ea : Nat) (s : Sc) (hm : m % 24 = 0) (hm2 : m / 24 ≤ 200) : kindsS (2, ao, m, lk, ea) [(0, 0, 0, 0, 0), (2, ao, m, lk, ea), s] = (ea == 24 && (lk == 2 && s.1 == 3)) := by
  unfold kindsS
  dsimp only
  rw [hm]
  have h1 : decide (m / 24 ≤ 200) = true := decide_eq_true hm2
  rw [h1]
  rcases lk with _ | _ | _ | lk
  · simp
  · simp
  · cases ea == 24 <;> simp
  · simp
theorem pieces_all (hn : madeN ahead l ≤ bn) (ea lk : Nat) : (pieceB (2, ahead, 24 * (l.length + 1), lk, ea) bn && pieceB (3, ahead + 24 * (l.length + 1), (strL l).length, 0, 0) bn) = true := by
  unfold madeN at hn
  unfold pieceB
  simp
  omega
theorem made_read (hl : l.length ≤ 60) (hf : ∀ x, x ∈ l → x.fine) (hok : ∀ x, x ∈ l → x.ok) (hz : ∀ j, j < madeN ahead l → z j = madeZ ahead l j) (hzz : ∀ j, z j < 256) (hn : madeN ahead l ≤ bn) : readZ z bn (secsM ahead l) = (l.map En.sy, 0) := by
  unfold secsM
  rw [readZ_three _ _ (2, _, _, _, _) _ rfl, readK, kinds_all _ _ _ _ _ (by omega) (by omega), if_pos (by rfl)]
  show readT z bn (2, ahead, 24 * (l.length + 1), 2, 24) (some (3, ahead + 24 * (l.length + 1), (strL l).length, 0, 0)) = _
  unfold readT
  dsimp only
  rw [if_pos (pieces_all hn 24 2)]
  rw [made_sy hl hf hok hz hzz]
theorem err_each (hl : l.length ≤ 60) (hf : ∀ x, x ∈ l → x.fine) (hok : ∀ x, x ∈ l → x.ok) (hz : ∀ j, j < madeN 0 l → z j = madeZ 0 l j) (hzz : ∀ j, z j < 256) (hn : madeN 0 l ≤ bn) (ea : Nat) : (readZ z bn [(0, 0, 0, 0, 0), (2, 0, 24 * (l.length + 1), 2, ea), (3, 0 + 24 * (l.length + 1), (strL l).length, 0, 0)]).2 = if ea = 24 then 0 else 32 := by
  by_cases h : ea = 24
  · subst h
    have := made_read hl hf hok hz hzz hn
    unfold secsM at this
    rw [this]
    rfl
  · rw [readZ_three _ _ (2, _, _, _, _) _ rfl, readK, kinds_all _ _ _ _ _ (by omega) (by omega), if_neg (by simp [h]), if_neg h]
theorem err_kind (hl : l.length ≤ 60) (hf : ∀ x, x ∈ l → x.fine) (hok : ∀ x, x ∈ l → x.ok) (hz : ∀ j, j < madeN 0 l → z j = madeZ 0 l j) (hzz : ∀ j, z j < 256) (hn : madeN 0 l ≤ bn) (kd : Nat) : (readZ z bn [(0, 0, 0, 0, 0), (2, 0, 24 * (l.length + 1), 2, 24), (kd, 0 + 24 * (l.length + 1), (strL l).length, 0, 0)]).2 = if kd = 3 then 0 else 32 := by
  by_cases h : kd = 3
  · subst h
    have := made_read hl hf hok hz hzz hn
    unfold secsM at this
    rw [this]
    rfl
  · rw [readZ_three _ _ (2, _, _, _, _) _ rfl, readK, kinds_all _ _ _ _ _ (by omega) (by omega), if_neg (by simp [h]), if_neg h]
theorem err_link (hl : l.length ≤ 60) (hf : ∀ x, x ∈ l → x.fine) (hok : ∀ x, x ∈ l → x.ok) (hz : ∀ j, j < madeN 0 l → z j = madeZ 0 l j) (hzz : ∀ j, z j < 256) (hn : madeN 0 l ≤ bn) (lk : Nat) : (readZ z bn [(0, 0, 0, 0, 0), (2, 0, 24 * (l.length + 1), lk, 24), (3, 0 + 24 * (l.length + 1), (strL l).length, 0, 0)]).2 = if lk = 2 then 0 else 32 := by
  by_cases h : lk = 2
  · subst h
    have := made_read hl hf hok hz hzz hn
    unfold secsM at this
    rw [this]
    rfl
  · rw [readZ_three _ _ (2, _, _, _, _) _ rfl, readK, kinds_all _ _ _ _ _ (by omega) (by omega), if_neg (by simp [h]), if_neg h]
theorem err_place (hl : l.length ≤ 60) (o : Nat) (ho : bn < o) : (readZ z bn [(0, 0, 0, 0, 0), (2, 0, 24 * (l.length + 1), 2, 24), (3, o, (strL l).length, 0, 0)]).2 = 33 := by
  rw [readZ_three _ _ (2, _, _, _, _) _ rfl, readK, kinds_all _ _ _ _ _ (by omega) (by omega), if_pos (by rfl)]
  show (readT z bn (2, 0, 24 * (l.length + 1), 2, 24) (some (3, o, (strL l).length, 0, 0))).2 = _
  unfold readT
  dsimp only
  have hp : pieceB (3, o, (strL l).length, 0, 0) bn = false := by
    unfold pieceB
    simp
    omega
  rw [hp, Bool.and_false, if_neg (by simp)]
theorem read_cut (hl : l.length ≤ 60) (hn : bn + 1 = madeN ahead l) : (readZ z bn (secsM ahead l)).2 = 33 := by
  unfold secsM
  rw [readZ_three _ _ (2, _, _, _, _) _ rfl, readK, kinds_all _ _ _ _ _ (by omega) (by omega), if_pos (by rfl)]
  show (readT z bn (2, ahead, 24 * (l.length + 1), 2, 24) (some (3, ahead + 24 * (l.length + 1), (strL l).length, 0, 0))).2 = _
  unfold readT
  dsimp only
  have hs : 0 < (strL l).length := by simp [strL]
  have hp : pieceB (3, ahead + 24 * (l.length + 1), (strL l).length, 0, 0) bn = false := by
    unfold madeN at hn
    unfold pieceB
    simp
    omega
  rw [hp, Bool.and_false, if_neg (by simp)]
end
end Go.Proofs.Ytegbhjmghkbgmaa
