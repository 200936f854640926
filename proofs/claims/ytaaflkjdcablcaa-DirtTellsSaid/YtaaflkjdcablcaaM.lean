/- dirt: ranges as sets of addresses. -/
import Derived.Test.YtaaflkjdcablcaaI
namespace Go.Proofs.Ytaaflkjdcablcaa
open Go.RowKit Go.Shelf
set_option linter.unusedVariables false
set_option linter.unusedSimpArgs false
attribute [local go_sem] Oper.semAt_some
def inR (a : Nat) (r : Rg) : Bool := decide (r.1 ≤ a) && decide (a ≤ r.2)
/-- Is an address had? -/
def hasL (zs : List Rg) (a : Nat) : Bool := zs.any (inR a)
theorem hasL_app (p q : List Rg) (a : Nat) : hasL (p ++ q) a = (hasL p a || hasL q a) := List.any_append
theorem hasL_one (r : Rg) (a : Nat) : hasL [r] a = inR a r := by simp [hasL]
theorem hasL_filter (zs : List Rg) (a : Nat) : hasL (zs.filter rightR) a = hasL zs a := by
  unfold hasL
  rw [Bool.eq_iff_iff]
  simp only [List.any_eq_true, List.mem_filter, inR, rightR, Bool.and_eq_true, decide_eq_true_eq]
  exact ⟨fun ⟨r, h1, h2⟩ => ⟨r, h1.1, h2⟩, fun ⟨r, h1, h2⟩ => ⟨r, ⟨h1, by omega⟩, h2⟩⟩
theorem hasL_perm {p q : List Rg} (h : p.Perm q) (a : Nat) : hasL p a = hasL q a := by
  unfold hasL
  rw [Bool.eq_iff_iff]
  simp only [List.any_eq_true]
  exact ⟨fun ⟨r, h1, h2⟩ => ⟨r, h.mem_iff.1 h1, h2⟩, fun ⟨r, h1, h2⟩ => ⟨r, h.mem_iff.2 h1, h2⟩⟩
theorem okAt_snoc_lt {js : List Rg} {x : Rg} {i : Nat} (hi : i < js.length) : okAt (js ++ [x]) i = okAt js i := by
  have h1 := rAt_app_lt (x := x) hi
  have h2 : zl (js ++ [x]) i = zl js i := congrArg Prod.fst h1
  have h3 : zh (js ++ [x]) i = zh js i := congrArg Prod.snd h1
  have h4 : zh (js ++ [x]) (i - 1) = zh js (i - 1) := congrArg Prod.snd (rAt_app_lt (x := x) (show i - 1 < js.length by omega))
  unfold okAt
  rw [h2, h3, h4]
theorem okAt_snoc_eq (js : List Rg) (x : Rg) : okAt (js ++ [x]) js.length = (rightR x && (js.length == 0 || apartB (zh js (js.length - 1)) x.1)) := by
  have h1 := rAt_app_eq (js := js) (x := x)
  have h2 : zl (js ++ [x]) js.length = x.1 := congrArg Prod.fst h1
  have h3 : zh (js ++ [x]) js.length = x.2 := congrArg Prod.snd h1
  unfold okAt rightR
  rw [h2, h3]
  by_cases hm : js.length = 0
  · simp [hm]
  · have h4 : zh (js ++ [x]) (js.length - 1) = zh js (js.length - 1) := congrArg Prod.snd (rAt_app_lt (x := x) (show js.length - 1 < js.length by omega))
    rw [h4]
theorem rightL_snoc (js : List Rg) (x : Rg) : rightL (js ++ [x]) = (rightL js && (rightR x && (js.length == 0 || apartB (zh js (js.length - 1)) x.1))) := by
  unfold rightL
  rw [List.length_append, List.length_singleton, all_succ, okAt_snoc_eq]
  congr 1
  rw [Bool.eq_iff_iff]
  simp only [List.all_eq_true, List.mem_range]
  exact ⟨fun h i hi => by rw [← okAt_snoc_lt (x := x) hi]; exact h i hi, fun h i hi => by rw [okAt_snoc_lt hi]; exact h i hi⟩
theorem snoc_of {js : List Rg} {j : Nat} (h : js.length = j + 1) : js = js.take j ++ [rAt js j] := by
  have h1 := take_succ' js j (by omega)
  rw [← h1, ← h, List.take_length]
/-- What joining keeps of what has been gone through. -/
structure Good (js zs : List Rg) (k : Nat) : Prop where
  right : rightL js = true
  has : ∀ a, hasL js a = hasL (zs.take k) a
  ok : OkL js
  low : 0 < js.length → ∀ i, k ≤ i → i < zs.length → zl js (js.length - 1) ≤ zl zs i
theorem good_all (zs : List Rg) (hz : OkL zs) (hr : ∀ k, k < zs.length → zl zs k ≤ zh zs k) (hs : sortedL zs) : ∀ k, k ≤ zs.length → Good (joinK zs k) zs k
  | 0, _ => ⟨rfl, fun a => by simp [joinK, hasL], fun r h => by simp [joinK] at h, fun h => by simp [joinK] at h⟩
  | k + 1, hk => by
    have ih := good_all zs hz hr hs k (by omega)
    have hkk := hr k (by omega)
    have hu := z_ok hz (show k < zs.length by omega)
    have hmono : ∀ i, k + 1 ≤ i → i < zs.length → zl zs k ≤ zl zs i := fun i h1 h2 => by
      have := hs k i (by omega) h2
      omega
    have hlow := ih.low
    rw [joinK_succ zs k (by omega)]
    have htk := take_succ' zs k (show k < zs.length by omega)
    have hx1 : (rAt zs k).1 = zl zs k := rfl
    have hx2 : (rAt zs k).2 = zh zs k := rfl
    generalize joinK zs k = js at ih hlow
    generalize rAt zs k = x at htk hx1 hx2
    have hxr : rightR x = true := by unfold rightR; simp; omega
    unfold stepJ
    by_cases hm : js.length = 0
    · rw [if_pos hm]
      have hnil : js = [] := List.eq_nil_of_length_eq_zero hm
      subst hnil
      refine ⟨?_, fun a => ?_, fun r h => ?_, fun _ i h1 h2 => ?_⟩
      · have := rightL_snoc [] x
        rw [List.nil_append] at this
        rw [this, hxr]
        rfl
      · rw [htk, hasL_app, ← ih.has a]
        simp [hasL]
      · obtain rfl := List.mem_singleton.1 h
        exact ⟨by rw [hx1]; exact hu.1, by rw [hx2]; exact hu.2⟩
      · have := hmono i h1 h2
        simp [zl, List.getD]
        simp [zl, List.getD] at this hx1
        omega
    · rw [if_neg hm]
      obtain ⟨j, hj⟩ : ∃ j, js.length = j + 1 := ⟨js.length - 1, by omega⟩
      have hlj := hlow (by omega) k (Nat.le_refl _) (by omega)
      have hjs := snoc_of hj
      have hj1 : js.length - 1 = j := by omega
      rw [hj1] at hlj ⊢
      have hrj : (rAt js j).1 = zl js j ∧ (rAt js j).2 = zh js j := ⟨rfl, rfl⟩
      have hrl := ih.right
      have hjl : (js.take j).length = j := by rw [List.length_take]; omega
      by_cases hap : apartB (zh js j) x.1 = true
      · rw [if_pos hap]
        refine ⟨?_, fun a => ?_, fun r h => ?_, fun _ i h1 h2 => ?_⟩
        · rw [rightL_snoc, hrl, hxr, hj1, hap]
          simp
        · rw [htk, hasL_app, hasL_app, ih.has a]
        · rcases List.mem_append.1 h with h | h
          · exact ih.ok r h
          · obtain rfl := List.mem_singleton.1 h
            exact ⟨by rw [hx1]; exact hu.1, by rw [hx2]; exact hu.2⟩
        · have := hmono i h1 h2
          have e : zl (js ++ [x]) ((js ++ [x]).length - 1) = x.1 := by
            rw [List.length_append, List.length_singleton, Nat.add_sub_cancel]
            exact congrArg Prod.fst (rAt_app_eq (js := js) (x := x))
          omega
      · rw [if_neg hap]
        have hrlast : rightL (js.take j) = true ∧ rightR (rAt js j) = true ∧ ((js.take j).length == 0 || apartB (zh (js.take j) ((js.take j).length - 1)) (rAt js j).1) = true := by
          rw [hjs, rightL_snoc] at hrl
          simpa [Bool.and_eq_true] using hrl
        have hru : U (rAt js j).1 ∧ U (rAt js j).2 := z_ok ih.ok (by omega)
        have hrr : zl js j ≤ zh js j := by
          exact of_decide_eq_true hrlast.2.1
        have hap' : ¬ (zh js j < x.1 ∧ 1 < x.1 - zh js j) := fun h => hap (by unfold apartB; simp [h.1, h.2])
        refine ⟨?_, fun a => ?_, fun r h => ?_, fun _ i h1 h2 => ?_⟩
        · rw [rightL_snoc, hrlast.1]
          have h2 := hrlast.2.2
          rw [hrj.1] at h2
          simp only [h2, Bool.true_and, Bool.and_true]
          unfold rightR maxN
          simp
          omega
        · rw [htk, hasL_app (zs.take k), ← ih.has a]
          conv => rhs; rw [hjs]
          rw [hasL_app, hasL_app, Bool.or_assoc]
          congr 1
          rw [hasL_one, hasL_one, hasL_one]
          unfold inR maxN
          rw [Bool.eq_iff_iff]
          simp only [Bool.and_eq_true, Bool.or_eq_true, decide_eq_true_eq, hrj.1, hrj.2]
          omega
        · rcases List.mem_append.1 h with h | h
          · exact ih.ok r (List.mem_of_mem_take h)
          · obtain rfl := List.mem_singleton.1 h
            refine ⟨hru.1, ?_⟩
            unfold maxN U at *
            rw [hrj.2] at hru
            simp only
            omega
        · have := hmono i h1 h2
          have e : zl (js.take j ++ [(zl js j, maxN (zh js j) x.2)]) ((js.take j ++ [(zl js j, maxN (zh js j) x.2)]).length - 1) = zl js j := by
            rw [List.length_append, List.length_singleton, Nat.add_sub_cancel]
            have h5 : (rAt (js.take j ++ [(zl js j, maxN (zh js j) x.2)]) (js.take j).length).1 = ((zl js j, maxN (zh js j) x.2) : Rg).1 := by rw [rAt_app_eq]
            exact h5
          omega
theorem right_each {zs : List Rg} (h : rightL zs = true) {k : Nat} (hk : k < zs.length) : zl zs k ≤ zh zs k := by
  have := List.all_eq_true.1 h k (List.mem_range.2 hk)
  unfold okAt at this
  simp at this
  exact this.1
theorem mem_at {zs : List Rg} {r : Rg} (h : r ∈ zs) : ∃ k, k < zs.length ∧ rAt zs k = r := by
  obtain ⟨k, hk, e⟩ := List.getElem_of_mem h
  exact ⟨k, hk, by rw [← e]; simp [rAt, zl, zh, List.getD, hk]⟩
theorem at_mem {zs : List Rg} {k : Nat} (h : k < zs.length) : rAt zs k ∈ zs := by
  have : rAt zs k = zs[k] := by simp [rAt, zl, zh, List.getD, h]
  rw [this]
  exact List.getElem_mem h
theorem filter_right {zs : List Rg} (h : rightL zs = true) : zs.filter rightR = zs := by
  rw [List.filter_eq_self]
  intro r hr
  obtain ⟨k, hk, rfl⟩ := mem_at hr
  exact decide_eq_true (right_each h hk)
/-- What Norm tells: ranges that may be, of the same addresses. -/
theorem norm_good {zs ns : List Rg} (hz : OkL zs) (h : NormOf zs ns) : rightL ns = true ∧ OkL ns ∧ (∀ a, hasL ns a = hasL zs a) ∧ ns.length ≤ zs.length := by
  rcases h with ⟨hr, rfl⟩ | ⟨hr, zs', hp, hs, rfl⟩
  · rw [filter_right hr]
    exact ⟨hr, hz, fun _ => rfl, Nat.le_refl _⟩
  · have hz' : OkL zs' := fun r h => hz r (List.mem_filter.1 (hp.mem_iff.1 h)).1
    have hr' : ∀ k, k < zs'.length → zl zs' k ≤ zh zs' k := fun k hk => by
      have h1 := (List.mem_filter.1 (hp.mem_iff.1 (at_mem hk))).2
      exact of_decide_eq_true h1
    have hg := good_all zs' hz' hr' hs zs'.length (Nat.le_refl _)
    refine ⟨hg.right, hg.ok, fun a => ?_, ?_⟩
    · rw [hg.has a, List.take_length, hasL_perm hp, hasL_filter]
    · have h1 := joinK_len zs' zs'.length (Nat.le_refl _)
      have h2 := hp.length_eq
      have h3 := List.length_filter_le rightR zs
      omega
end Go.Proofs.Ytaaflkjdcablcaa
