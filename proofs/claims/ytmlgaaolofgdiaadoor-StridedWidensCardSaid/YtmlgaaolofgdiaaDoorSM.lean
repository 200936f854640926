/- Strided sets as plain numbers: what joins, sums and rests are within. -/
import Derived.WalkKit
namespace Go.Proofs.YtmlgaaolofgdiaaDoor.SM
structure St where
  s : Nat
  l : Nat
  h : Nat
deriving DecidableEq
def noneS : St := ⟨0, 1, 0⟩
/-- May a set be? -/
def Rt (a : St) : Prop := (a.s = 0 ∧ a.l = a.h) ∨ a = noneS ∨ (0 < a.s ∧ a.l < a.h ∧ a.s ∣ a.h - a.l)
/-- A set that may be and has something. -/
def Ok (a : St) : Prop := (a.s = 0 ∧ a.l = a.h) ∨ (0 < a.s ∧ a.l < a.h ∧ a.s ∣ a.h - a.l)
theorem Rt.ok {a : St} (h : Rt a) (hn : a ≠ noneS) : Ok a := by
  rcases h with h | h | h
  · exact .inl h
  · exact absurd h hn
  · exact .inr h
theorem Ok.rt {a : St} (h : Ok a) : Rt a := h.elim .inl (fun h => .inr (.inr h))
theorem Ok.ne {a : St} (h : Ok a) : a ≠ noneS := by
  rintro rfl
  rcases h with ⟨_, h⟩ | ⟨h, _⟩ <;> simp [noneS] at h
theorem Ok.le {a : St} (h : Ok a) : a.l ≤ a.h := by rcases h with ⟨_, h⟩ | ⟨_, h, _⟩ <;> omega
theorem Ok.dvd {a : St} (h : Ok a) : a.s ∣ a.h - a.l := by
  rcases h with ⟨h0, h⟩ | ⟨_, _, h⟩
  · rw [h, Nat.sub_self]; exact Nat.dvd_zero _
  · exact h
/-- Is a within b? Of sets that have something. -/
def Wi (a b : St) : Prop := b.l ≤ a.l ∧ a.h ≤ b.h ∧ b.s ∣ a.l - b.l ∧ b.s ∣ a.s
theorem Wi.refl {a : St} : Wi a a := ⟨Nat.le_refl _, Nat.le_refl _, by rw [Nat.sub_self]; exact Nat.dvd_zero _, Nat.dvd_refl _⟩
theorem Wi.trans {a b c : St} (h : Wi a b) (k : Wi b c) : Wi a c := by
  obtain ⟨h1, h2, h3, h4⟩ := h
  obtain ⟨k1, k2, k3, k4⟩ := k
  refine ⟨by omega, by omega, ?_, Nat.dvd_trans k4 h4⟩
  rw [show a.l - c.l = (a.l - b.l) + (b.l - c.l) by omega]
  exact Nat.dvd_add (Nat.dvd_trans k4 h3) k3
theorem Wi.antisymm {a b : St} (h : Wi a b) (k : Wi b a) : a = b := by
  obtain ⟨h1, h2, h3, h4⟩ := h
  obtain ⟨k1, k2, k3, k4⟩ := k
  have := Nat.dvd_antisymm h4 k4
  cases a; cases b; simp only [St.mk.injEq] at *; omega
/-- How far two numbers are apart. -/
def ap (x y : Nat) : Nat := max x y - min x y
theorem ap_comm (x y : Nat) : ap x y = ap y x := by unfold ap; rw [Nat.max_comm, Nat.min_comm]
/-- Both together, of sets that have something. -/
def jn (a b : St) : St := ⟨Nat.gcd (Nat.gcd a.s b.s) (ap a.l b.l), min a.l b.l, max a.h b.h⟩
theorem jn_comm (a b : St) : jn a b = jn b a := by
  unfold jn; rw [Nat.gcd_comm a.s, ap_comm, Nat.min_comm, Nat.max_comm]
theorem dvd_ap {d x y : Nat} (h : d ∣ ap x y) : d ∣ x - min x y := by
  rcases Nat.le_total x y with e | e
  · rw [Nat.min_eq_left e, Nat.sub_self]; exact Nat.dvd_zero _
  · unfold ap at h; rw [Nat.max_eq_left e, Nat.min_eq_right e] at h; rw [Nat.min_eq_right e]; exact h
theorem wi_jn_left (a b : St) : Wi a (jn a b) := by
  refine ⟨Nat.min_le_left _ _, Nat.le_max_left _ _, dvd_ap (Nat.gcd_dvd_right _ _), ?_⟩
  exact Nat.dvd_trans (Nat.gcd_dvd_left _ _) (Nat.gcd_dvd_left _ _)
theorem wi_jn_right (a b : St) : Wi b (jn a b) := by rw [jn_comm]; exact wi_jn_left b a
theorem jn_lub {a b x : St} (h : Wi a x) (k : Wi b x) : Wi (jn a b) x := by
  obtain ⟨h1, h2, h3, h4⟩ := h
  obtain ⟨k1, k2, k3, k4⟩ := k
  refine ⟨Nat.le_min.2 ⟨h1, k1⟩, Nat.max_le.2 ⟨h2, k2⟩, ?_, ?_⟩
  · show x.s ∣ min a.l b.l - x.l
    rcases Nat.le_total a.l b.l with e | e
    · rw [Nat.min_eq_left e]; exact h3
    · rw [Nat.min_eq_right e]; exact k3
  · refine Nat.dvd_gcd (Nat.dvd_gcd h4 k4) ?_
    show x.s ∣ ap a.l b.l
    unfold ap
    rcases Nat.le_total a.l b.l with e | e
    · rw [Nat.max_eq_right e, Nat.min_eq_left e, show b.l - a.l = (b.l - x.l) - (a.l - x.l) by omega]; exact Nat.dvd_sub k3 h3
    · rw [Nat.max_eq_left e, Nat.min_eq_right e, show a.l - b.l = (a.l - x.l) - (b.l - x.l) by omega]; exact Nat.dvd_sub h3 k3
theorem Ok.jn {a b : St} (ha : Ok a) (hb : Ok b) : Ok (jn a b) := by
  have la := ha.le
  have lb := hb.le
  have hl : min a.l b.l ≤ max a.h b.h := by omega
  rcases Nat.eq_or_lt_of_le hl with e | e
  · left
    have h1 : a.l = a.h := by omega
    have h2 : b.l = b.h := by omega
    have h3 : a.l = b.l := by omega
    have sa : a.s = 0 := by rcases ha with ⟨h, _⟩ | ⟨_, h, _⟩ <;> omega
    have sb : b.s = 0 := by rcases hb with ⟨h, _⟩ | ⟨_, h, _⟩ <;> omega
    refine ⟨?_, e⟩
    show Nat.gcd (Nat.gcd a.s b.s) (ap a.l b.l) = 0
    rw [sa, sb, h3]; unfold ap; simp
  · right
    have hd : (SM.jn a b).s ∣ max a.h b.h - min a.l b.l := by
      have da := Nat.dvd_trans (wi_jn_left a b).2.2.2 ha.dvd
      have db := Nat.dvd_trans (wi_jn_right a b).2.2.2 hb.dvd
      have la' := (wi_jn_left a b).2.2.1
      have lb' := (wi_jn_right a b).2.2.1
      show _ ∣ max a.h b.h - min a.l b.l
      have e1 : (SM.jn a b).l = min a.l b.l := rfl
      rw [e1] at la' lb'
      rcases Nat.le_total a.h b.h with e | e
      · rw [Nat.max_eq_right e, show b.h - min a.l b.l = (b.h - b.l) + (b.l - min a.l b.l) by omega]; exact Nat.dvd_add db lb'
      · rw [Nat.max_eq_left e, show a.h - min a.l b.l = (a.h - a.l) + (a.l - min a.l b.l) by omega]; exact Nat.dvd_add da la'
    refine ⟨?_, e, hd⟩
    rcases Nat.eq_zero_or_pos (SM.jn a b).s with h | h
    · rw [h] at hd; have := Nat.eq_zero_of_zero_dvd hd; omega
    · exact h
theorem jn_assoc {a b c : St} : jn (jn a b) c = jn a (jn c b) := by
  apply Wi.antisymm
  · exact jn_lub (jn_lub (wi_jn_left _ _) ((wi_jn_right c b).trans (wi_jn_right _ _))) ((wi_jn_left c b).trans (wi_jn_right _ _))
  · exact jn_lub ((wi_jn_left a b).trans (wi_jn_left _ _)) (jn_lub (wi_jn_right _ _) ((wi_jn_right a b).trans (wi_jn_left _ _)))
theorem jn_self {a : St} : jn a a = a := by
  cases a; unfold jn ap; simp
def oneS (x : Nat) : St := ⟨0, x, x⟩
def allS (m : Nat) : St := ⟨1, 0, m⟩
def cutS (m : Nat) (a : St) : St := if a.l = a.h then oneS (a.l % (m + 1)) else if m < a.h then allS m else a
def ofS (l h s : Nat) : St := if h < l then noneS else if s = 0 ∨ h - l < s then oneS l else ⟨s, l, h - (h - l) % s⟩
/-- Cut, of any set that may be. -/
def cutA (m : Nat) (a : St) : St := if a = noneS then noneS else cutS m a
theorem Ok.one (x : Nat) : Ok (oneS x) := .inl ⟨rfl, rfl⟩
theorem Ok.all {m : Nat} (hm : 1 ≤ m) : Ok (allS m) := .inr ⟨by simp [allS], by simp [allS]; omega, by simp [allS]⟩
theorem Ok.s0 {a : St} (h : Ok a) : a.s = 0 ↔ a.l = a.h := by
  rcases h with ⟨h0, h⟩ | ⟨h0, h, _⟩ <;> omega
theorem Ok.cut {m : Nat} {a : St} (hm : 1 ≤ m) (h : Ok a) : Ok (cutS m a) := by
  unfold cutS; split
  · exact Ok.one _
  · split
    · exact Ok.all hm
    · exact h
theorem cut_le {m : Nat} {a : St} (h : Ok a) : (cutS m a).h ≤ m := by
  have := h.le
  unfold cutS; split
  · show _ % _ ≤ _; have := Nat.mod_lt a.l (show 0 < m + 1 by omega); omega
  · split
    · exact Nat.le_refl _
    · omega
theorem cut_one {m : Nat} {a : St} (hm : 1 ≤ m) : (cutS m a).l = (cutS m a).h ↔ a.l = a.h := by
  unfold cutS; split
  · rename_i h; simp [oneS, h]
  · rename_i h; split
    · simp [allS, h]; omega
    · exact Iff.rfl
theorem cut_id {m : Nat} {a : St} (h : Ok a) (hh : a.h ≤ m) : cutS m a = a := by
  unfold cutS; split
  · rename_i e
    have := (h.s0).2 e
    cases a; simp only [oneS, St.mk.injEq] at *; subst this e
    exact ⟨rfl, Nat.mod_eq_of_lt (by omega), Nat.mod_eq_of_lt (by omega)⟩
  · rw [if_neg (by omega)]
theorem cut_cut {m : Nat} {a : St} (hm : 1 ≤ m) (h : Ok a) : cutS m (cutS m a) = cutS m a := cut_id (h.cut hm) (cut_le h)
theorem wi_all {m : Nat} {a : St} (h : a.h ≤ m) : Wi a (allS m) := ⟨Nat.zero_le _, h, Nat.one_dvd _, Nat.one_dvd _⟩
theorem Wi.one {a b : St} (h : Wi a b) (ha : Ok a) (hb : Ok b) (e : b.l = b.h) : a = b := by
  obtain ⟨h1, h2, h3, h4⟩ := h
  have := ha.le
  have s0 := (ha.s0).2 (by omega)
  have s1 := (hb.s0).2 e
  cases a; cases b; simp only [St.mk.injEq] at *; omega
theorem cut_mono {m : Nat} {a b : St} (ha : Ok a) (hb : Ok b) (h : Wi a b) : Wi (cutS m a) (cutS m b) := by
  by_cases e : b.l = b.h
  · rw [h.one ha hb e]; exact Wi.refl
  · by_cases g : m < b.h
    · have : cutS m b = allS m := by unfold cutS; rw [if_neg e, if_pos g]
      rw [this]; exact wi_all (cut_le ha)
    · rw [cut_id hb (by omega), cut_id ha (by have := h.2.1; omega)]; exact h
/-- The sum as sets that are cut tell it. -/
def sumS (m : Nat) (a b : St) : St := if a.h + b.h ≤ m then ⟨Nat.gcd a.s b.s, a.l + b.l, a.h + b.h⟩ else allS m
def addS (m : Nat) (a b : St) : St :=
  if a = noneS ∨ b = noneS then noneS else if a.l = a.h ∧ b.l = b.h then oneS ((a.l + b.l) % 18446744073709551616 % (m + 1))
  else if m < (cutS m a).h + (cutS m b).h then allS m else ofS ((cutS m a).l + (cutS m b).l) ((cutS m a).h + (cutS m b).h) (Nat.gcd (cutS m a).s (cutS m b).s)
theorem of_sum {a b : St} (ha : Ok a) (hb : Ok b) (hn : ¬ (a.l = a.h ∧ b.l = b.h)) : ofS (a.l + b.l) (a.h + b.h) (Nat.gcd a.s b.s) = ⟨Nat.gcd a.s b.s, a.l + b.l, a.h + b.h⟩ := by
  have la := ha.le
  have lb := hb.le
  have hs : Nat.gcd a.s b.s ≠ 0 := by
    intro h
    rw [Nat.gcd_eq_zero_iff] at h
    exact hn ⟨(ha.s0).1 h.1, (hb.s0).1 h.2⟩
  have hd : Nat.gcd a.s b.s ∣ (a.h + b.h) - (a.l + b.l) := by
    rw [show (a.h + b.h) - (a.l + b.l) = (a.h - a.l) + (b.h - b.l) by omega]
    exact Nat.dvd_add (Nat.dvd_trans (Nat.gcd_dvd_left _ _) ha.dvd) (Nat.dvd_trans (Nat.gcd_dvd_right _ _) hb.dvd)
  unfold ofS
  rw [if_neg (by omega), if_neg]
  · rw [Nat.mod_eq_zero_of_dvd hd]; rfl
  · rintro (h | h)
    · exact hs h
    · have := Nat.le_of_dvd (by omega) hd; omega
theorem add_many {m : Nat} {a b : St} (hm : 1 ≤ m) (ha : Ok a) (hb : Ok b) (hn : ¬ (a.l = a.h ∧ b.l = b.h)) : addS m a b = sumS m (cutS m a) (cutS m b) := by
  unfold addS sumS
  rw [if_neg (by have := ha.ne; have := hb.ne; simp_all), if_neg hn]
  by_cases h : (cutS m a).h + (cutS m b).h ≤ m
  · rw [if_neg (by omega), if_pos h, of_sum (ha.cut hm) (hb.cut hm) (by rw [cut_one hm, cut_one hm]; exact hn)]
  · rw [if_pos (by omega), if_neg h]
theorem add_ones {m : Nat} {a b : St} (hm : 1 ≤ m) (hM : (m + 1) ∣ 18446744073709551616) (ha : Ok a) (hb : Ok b) (h : (cutS m a).h + (cutS m b).h ≤ m) : addS m a b = sumS m (cutS m a) (cutS m b) := by
  by_cases hn : a.l = a.h ∧ b.l = b.h
  · unfold addS sumS
    rw [if_neg (by have := ha.ne; have := hb.ne; simp_all), if_pos hn, if_pos h]
    have e1 : cutS m a = oneS (a.l % (m + 1)) := if_pos hn.1
    have e2 : cutS m b = oneS (b.l % (m + 1)) := if_pos hn.2
    rw [e1, e2] at h ⊢
    simp only [oneS] at h ⊢
    rw [Nat.mod_mod_of_dvd _ hM, Nat.add_mod, Nat.mod_eq_of_lt (show a.l % (m + 1) + b.l % (m + 1) < m + 1 by omega)]
    simp
  · exact add_many hm ha hb hn
theorem sum_mono {m : Nat} {a b c : St} (h : Wi a b) (hs : (sumS m a c).h ≤ m) : Wi (sumS m a c) (sumS m b c) := by
  have h' := h
  obtain ⟨h1, h2, h3, h4⟩ := h'
  by_cases e : b.h + c.h ≤ m
  · unfold sumS
    rw [if_pos e, if_pos (by omega)]
    refine ⟨by dsimp only; omega, by dsimp only; omega, ?_, ?_⟩
    · dsimp only
      rw [show a.l + c.l - (b.l + c.l) = a.l - b.l by omega]; exact Nat.dvd_trans (Nat.gcd_dvd_left _ _) h3
    · dsimp only
      exact Nat.dvd_gcd (Nat.dvd_trans (Nat.gcd_dvd_left _ _) h4) (Nat.gcd_dvd_right _ _)
  · have : sumS m b c = allS m := if_neg e
    rw [this]; exact wi_all hs
theorem sum_le {m : Nat} (a b : St) : (sumS m a b).h ≤ m := by
  unfold sumS; split
  · assumption
  · exact Nat.le_refl _
theorem add_mono {m : Nat} {a b c : St} (hm : 1 ≤ m) (hM : (m + 1) ∣ 18446744073709551616) (ha : Ok a) (hb : Ok b) (hc : Ok c) (h : Wi a b) : Wi (addS m a c) (addS m b c) := by
  by_cases e : b.l = b.h
  · rw [h.one ha hb e]; exact Wi.refl
  · rw [add_many hm hb hc (by simp [e])]
    have hw := cut_mono (m := m) ha hb h
    by_cases g : (cutS m a).h + (cutS m c).h ≤ m
    · rw [add_ones hm hM ha hc g]
      exact sum_mono hw (sum_le _ _)
    · have hg : sumS m (cutS m b) (cutS m c) = allS m := if_neg (by have := hw.2.1; omega)
      rw [hg]
      by_cases hn : a.l = a.h ∧ c.l = c.h
      · refine wi_all ?_
        unfold addS
        rw [if_neg (by have := ha.ne; have := hc.ne; simp_all), if_pos hn]
        show _ % _ ≤ _
        have := Nat.mod_lt ((a.l + c.l) % 18446744073709551616) (show 0 < m + 1 by omega); omega
      · rw [add_many hm ha hc hn]; exact wi_all (sum_le _ _)
theorem sum_ok {m : Nat} {a b : St} (hm : 1 ≤ m) (ha : Ok a) (hb : Ok b) : Ok (sumS m a b) := by
  unfold sumS; split
  · by_cases hn : a.l = a.h ∧ b.l = b.h
    · left
      have := (ha.s0).2 hn.1; have := (hb.s0).2 hn.2
      simp_all
    · right
      have la := ha.le
      have lb := hb.le
      refine ⟨?_, by dsimp only; omega, ?_⟩
      · have hs : Nat.gcd a.s b.s ≠ 0 := by
          intro h
          rw [Nat.gcd_eq_zero_iff] at h
          exact hn ⟨(ha.s0).1 h.1, (hb.s0).1 h.2⟩
        dsimp only; omega
      · dsimp only
        rw [show (a.h + b.h) - (a.l + b.l) = (a.h - a.l) + (b.h - b.l) by omega]
        exact Nat.dvd_add (Nat.dvd_trans (Nat.gcd_dvd_left _ _) ha.dvd) (Nat.dvd_trans (Nat.gcd_dvd_right _ _) hb.dvd)
  · exact Ok.all hm
theorem add_ok {m : Nat} {a b : St} (hm : 1 ≤ m) (ha : Ok a) (hb : Ok b) : Ok (addS m a b) := by
  by_cases hn : a.l = a.h ∧ b.l = b.h
  · unfold addS
    rw [if_neg (by have := ha.ne; have := hb.ne; simp_all), if_pos hn]; exact Ok.one _
  · rw [add_many hm ha hb hn]; exact sum_ok hm (ha.cut hm) (hb.cut hm)
theorem sum_comm (m : Nat) (a b : St) : sumS m a b = sumS m b a := by unfold sumS; rw [Nat.add_comm a.h, Nat.add_comm a.l, Nat.gcd_comm a.s]
theorem add_comm {m : Nat} {a b : St} : addS m a b = addS m b a := by
  unfold addS
  by_cases h1 : a = noneS ∨ b = noneS
  · rw [if_pos h1, if_pos h1.symm]
  · rw [if_neg h1, if_neg (show ¬ (b = noneS ∨ a = noneS) from fun h => h1 h.symm)]
    by_cases h2 : a.l = a.h ∧ b.l = b.h
    · rw [if_pos h2, if_pos h2.symm, Nat.add_comm a.l]
    · rw [if_neg h2, if_neg (show ¬ (b.l = b.h ∧ a.l = a.h) from fun h => h2 h.symm), Nat.add_comm (cutS m a).h, Nat.add_comm (cutS m a).l, Nat.gcd_comm (cutS m a).s]
/-- The rest as sets that are cut tell it. -/
def resS (m : Nat) (a b : St) : St := if b.h ≤ a.l then ⟨Nat.gcd a.s b.s, a.l - b.h, a.h - b.l⟩ else allS m
def subS (m : Nat) (a b : St) : St :=
  if a = noneS ∨ b = noneS then noneS else if a.l = a.h ∧ b.l = b.h then oneS ((a.l + 18446744073709551616 - b.l) % 18446744073709551616 % (m + 1))
  else if (cutS m a).l < (cutS m b).h then allS m else ofS ((cutS m a).l - (cutS m b).h) ((cutS m a).h - (cutS m b).l) (Nat.gcd (cutS m a).s (cutS m b).s)
theorem of_res {a b : St} (ha : Ok a) (hb : Ok b) (hn : ¬ (a.l = a.h ∧ b.l = b.h)) (h : b.h ≤ a.l) : ofS (a.l - b.h) (a.h - b.l) (Nat.gcd a.s b.s) = ⟨Nat.gcd a.s b.s, a.l - b.h, a.h - b.l⟩ := by
  have la := ha.le
  have lb := hb.le
  have hs : Nat.gcd a.s b.s ≠ 0 := by
    intro h
    rw [Nat.gcd_eq_zero_iff] at h
    exact hn ⟨(ha.s0).1 h.1, (hb.s0).1 h.2⟩
  have hd : Nat.gcd a.s b.s ∣ (a.h - b.l) - (a.l - b.h) := by
    rw [show (a.h - b.l) - (a.l - b.h) = (a.h - a.l) + (b.h - b.l) by omega]
    exact Nat.dvd_add (Nat.dvd_trans (Nat.gcd_dvd_left _ _) ha.dvd) (Nat.dvd_trans (Nat.gcd_dvd_right _ _) hb.dvd)
  unfold ofS
  rw [if_neg (by omega), if_neg]
  · rw [Nat.mod_eq_zero_of_dvd hd]; rfl
  · rintro (h | h)
    · exact hs h
    · have := Nat.le_of_dvd (by omega) hd; omega
theorem sub_many {m : Nat} {a b : St} (hm : 1 ≤ m) (ha : Ok a) (hb : Ok b) (hn : ¬ (a.l = a.h ∧ b.l = b.h)) : subS m a b = resS m (cutS m a) (cutS m b) := by
  unfold subS resS
  rw [if_neg (by have := ha.ne; have := hb.ne; simp_all), if_neg hn]
  by_cases h : (cutS m b).h ≤ (cutS m a).l
  · rw [if_neg (by omega), if_pos h, of_res (ha.cut hm) (hb.cut hm) (by rw [cut_one hm, cut_one hm]; exact hn) h]
  · rw [if_pos (by omega), if_neg h]
theorem sub_mod (D x y : Nat) (hD : 0 < D) (hM : D ∣ 18446744073709551616) (hy : y ≤ 18446744073709551616) (h : y % D ≤ x % D) : (x + 18446744073709551616 - y) % 18446744073709551616 % D = x % D - y % D := by
  rw [Nat.mod_mod_of_dvd _ hM]
  obtain ⟨q, hq⟩ := hM
  have hx := Nat.div_add_mod x D
  have hy' := Nat.div_add_mod y D
  have hyq : y / D ≤ q := by
    have : y ≤ D * q := by omega
    exact Nat.div_le_of_le_mul this
  have e : x + 18446744073709551616 - y = (x % D - y % D) + D * (x / D + (q - y / D)) := by
    have hle : D * (y / D) ≤ D * q := Nat.mul_le_mul_left _ hyq
    rw [Nat.mul_add, Nat.mul_sub, hq]
    generalize D * (x / D) = p at *
    generalize D * (y / D) = r at *
    generalize D * q = t at *
    generalize x % D = u at *
    generalize y % D = v at *
    omega
  rw [e, Nat.add_mul_mod_self_left, Nat.mod_eq_of_lt]
  have := Nat.mod_lt x hD
  omega
theorem sub_ones {m : Nat} {a b : St} (hm : 1 ≤ m) (hM : (m + 1) ∣ 18446744073709551616) (ha : Ok a) (hb : Ok b) (hbu : b.h < 18446744073709551616) (h : (cutS m b).h ≤ (cutS m a).l) : subS m a b = resS m (cutS m a) (cutS m b) := by
  by_cases hn : a.l = a.h ∧ b.l = b.h
  · unfold subS resS
    rw [if_neg (by have := ha.ne; have := hb.ne; simp_all), if_pos hn, if_pos h]
    have e1 : cutS m a = oneS (a.l % (m + 1)) := if_pos hn.1
    have e2 : cutS m b = oneS (b.l % (m + 1)) := if_pos hn.2
    rw [e1, e2] at h ⊢
    simp only [oneS] at h ⊢
    rw [sub_mod (m + 1) a.l b.l (by omega) hM (by omega) h]
    simp
  · exact sub_many hm ha hb hn
theorem res_mono {m : Nat} {a b c : St} (h : Wi a b) (hs : (resS m a c).h ≤ m) : Wi (resS m a c) (resS m b c) := by
  have h' := h
  obtain ⟨h1, h2, h3, h4⟩ := h'
  by_cases e : c.h ≤ b.l
  · unfold resS
    rw [if_pos e, if_pos (by omega)]
    refine ⟨by dsimp only; omega, by dsimp only; omega, ?_, ?_⟩
    · dsimp only
      rw [show a.l - c.h - (b.l - c.h) = a.l - b.l by omega]; exact Nat.dvd_trans (Nat.gcd_dvd_left _ _) h3
    · dsimp only
      exact Nat.dvd_gcd (Nat.dvd_trans (Nat.gcd_dvd_left _ _) h4) (Nat.gcd_dvd_right _ _)
  · have : resS m b c = allS m := if_neg e
    rw [this]; exact wi_all hs
theorem res_le {m : Nat} {a b : St} (ha : a.h ≤ m) : (resS m a b).h ≤ m := by
  unfold resS; split
  · dsimp only; omega
  · exact Nat.le_refl _
theorem sub_mono {m : Nat} {a b c : St} (hm : 1 ≤ m) (hM : (m + 1) ∣ 18446744073709551616) (ha : Ok a) (hb : Ok b) (hc : Ok c) (hcu : c.h < 18446744073709551616) (h : Wi a b) : Wi (subS m a c) (subS m b c) := by
  by_cases e : b.l = b.h
  · rw [h.one ha hb e]; exact Wi.refl
  · rw [sub_many hm hb hc (by simp [e])]
    have hw := cut_mono (m := m) ha hb h
    by_cases g : (cutS m c).h ≤ (cutS m a).l
    · rw [sub_ones hm hM ha hc hcu g]
      exact res_mono hw (res_le (cut_le ha))
    · have hg : resS m (cutS m b) (cutS m c) = allS m := if_neg (by have := hw.1; omega)
      rw [hg]
      by_cases hn : a.l = a.h ∧ c.l = c.h
      · refine wi_all ?_
        unfold subS
        rw [if_neg (by have := ha.ne; have := hc.ne; simp_all), if_pos hn]
        show _ % _ ≤ _
        have := Nat.mod_lt ((a.l + 18446744073709551616 - c.l) % 18446744073709551616) (show 0 < m + 1 by omega); omega
      · rw [sub_many hm ha hc hn]; exact wi_all (res_le (cut_le ha))
theorem res_ok {m : Nat} {a b : St} (hm : 1 ≤ m) (ha : Ok a) (hb : Ok b) : Ok (resS m a b) := by
  unfold resS; split
  · by_cases hn : a.l = a.h ∧ b.l = b.h
    · left
      have := (ha.s0).2 hn.1; have := (hb.s0).2 hn.2
      simp_all
    · right
      have la := ha.le
      have lb := hb.le
      refine ⟨?_, by dsimp only; omega, ?_⟩
      · have hs : Nat.gcd a.s b.s ≠ 0 := by
          intro h
          rw [Nat.gcd_eq_zero_iff] at h
          exact hn ⟨(ha.s0).1 h.1, (hb.s0).1 h.2⟩
        dsimp only; omega
      · dsimp only
        rw [show (a.h - b.l) - (a.l - b.h) = (a.h - a.l) + (b.h - b.l) by omega]
        exact Nat.dvd_add (Nat.dvd_trans (Nat.gcd_dvd_left _ _) ha.dvd) (Nat.dvd_trans (Nat.gcd_dvd_right _ _) hb.dvd)
  · exact Ok.all hm
theorem sub_ok {m : Nat} {a b : St} (hm : 1 ≤ m) (ha : Ok a) (hb : Ok b) : Ok (subS m a b) := by
  by_cases hn : a.l = a.h ∧ b.l = b.h
  · unfold subS
    rw [if_neg (by have := ha.ne; have := hb.ne; simp_all), if_pos hn]; exact Ok.one _
  · rw [sub_many hm ha hb hn]; exact res_ok hm (ha.cut hm) (hb.cut hm)
/-- Has a set x? -/
def hasP (b : St) (x : Nat) : Prop := b.l ≤ x ∧ x ≤ b.h ∧ (b.l = b.h ∨ (x - b.l) % b.s = 0)
instance (b : St) (x : Nat) : Decidable (hasP b x) := inferInstanceAs (Decidable (_ ∧ _))
/-- In, of any two sets that may be. -/
def inP (a b : St) : Prop := a = noneS ∨ (hasP b a.l ∧ hasP b a.h ∧ (a.l = a.h ∨ a.s % b.s = 0))
instance (a b : St) : Decidable (inP a b) := inferInstanceAs (Decidable (_ ∨ _))
theorem has_dvd {b : St} {x : Nat} : hasP b x ↔ b.l ≤ x ∧ x ≤ b.h ∧ b.s ∣ x - b.l := by
  unfold hasP
  constructor
  · rintro ⟨h1, h2, h | h⟩
    · exact ⟨h1, h2, by rw [show x - b.l = 0 by omega]; exact Nat.dvd_zero _⟩
    · exact ⟨h1, h2, Nat.dvd_of_mod_eq_zero h⟩
  · rintro ⟨h1, h2, h3⟩
    exact ⟨h1, h2, .inr (Nat.mod_eq_zero_of_dvd h3)⟩
theorem has_none {x : Nat} : ¬ hasP noneS x := by unfold hasP noneS; dsimp only; omega
theorem in_wi {a b : St} (ha : Ok a) (_hb : Ok b) : inP a b ↔ Wi a b := by
  unfold inP
  rw [has_dvd, has_dvd]
  constructor
  · rintro (h | ⟨⟨h1, h2, h3⟩, ⟨k1, k2, k3⟩, h⟩)
    · exact absurd h ha.ne
    · refine ⟨h1, k2, h3, ?_⟩
      rcases h with h | h
      · rw [(ha.s0).2 h]; exact Nat.dvd_zero _
      · exact Nat.dvd_of_mod_eq_zero h
  · rintro ⟨h1, h2, h3, h4⟩
    have := ha.le
    refine .inr ⟨⟨h1, by omega, h3⟩, ⟨by omega, h2, ?_⟩, .inr (Nat.mod_eq_zero_of_dvd h4)⟩
    rw [show a.h - b.l = (a.h - a.l) + (a.l - b.l) by omega]
    exact Nat.dvd_add (Nat.dvd_trans h4 ha.dvd) h3
theorem in_none {b : St} : inP noneS b := .inl rfl
theorem not_in_none {a : St} (ha : Ok a) : ¬ inP a noneS := by
  rintro (h | ⟨h, _⟩)
  · exact ha.ne h
  · exact has_none h
/-- Join, of any two sets that may be. -/
def joinS (a b : St) : St := if a = noneS then b else if b = noneS then a else jn a b
theorem Rt.join {a b : St} (ha : Rt a) (hb : Rt b) : Rt (joinS a b) := by
  unfold joinS; split
  · exact hb
  · split
    · exact ha
    · exact (Ok.jn (ha.ok ‹_›) (hb.ok ‹_›)).rt
theorem Rt.cutA {m : Nat} {a : St} (hm : 1 ≤ m) (ha : Rt a) : Rt (cutA m a) := by
  unfold SM.cutA; split
  · exact .inr (.inl rfl)
  · exact ((ha.ok ‹_›).cut hm).rt
theorem Rt.add {m : Nat} {a b : St} (hm : 1 ≤ m) (ha : Rt a) (hb : Rt b) : Rt (addS m a b) := by
  by_cases h1 : a = noneS
  · exact .inr (.inl (if_pos (.inl h1)))
  · by_cases h2 : b = noneS
    · exact .inr (.inl (if_pos (.inr h2)))
    · exact (add_ok hm (ha.ok h1) (hb.ok h2)).rt
theorem Rt.sub {m : Nat} {a b : St} (hm : 1 ≤ m) (ha : Rt a) (hb : Rt b) : Rt (subS m a b) := by
  by_cases h1 : a = noneS
  · exact .inr (.inl (if_pos (.inl h1)))
  · by_cases h2 : b = noneS
    · exact .inr (.inl (if_pos (.inr h2)))
    · exact (sub_ok hm (ha.ok h1) (hb.ok h2)).rt
theorem join_none_left (a : St) : joinS noneS a = a := if_pos rfl
theorem join_none_right (a : St) : joinS a noneS = a := by unfold joinS; split <;> simp_all
theorem join_assoc {a b c : St} (ha : Rt a) (hb : Rt b) (hc : Rt c) : joinS (joinS a b) c = joinS a (joinS c b) := by
  by_cases h1 : a = noneS
  · subst h1; rw [join_none_left, join_none_left]
    by_cases h2 : b = noneS
    · subst h2; rw [join_none_left, join_none_right]
    · by_cases h3 : c = noneS
      · subst h3; rw [join_none_left, join_none_right]
      · unfold joinS; rw [if_neg h2, if_neg h3, if_neg h3, if_neg h2, jn_comm]
  · by_cases h2 : b = noneS
    · subst h2; rw [join_none_right, join_none_right]
    · by_cases h3 : c = noneS
      · subst h3; rw [join_none_right, join_none_left]
      · have e1 : joinS a b = jn a b := by unfold joinS; rw [if_neg h1, if_neg h2]
        have e2 : joinS c b = jn c b := by unfold joinS; rw [if_neg h3, if_neg h2]
        have n1 : jn a b ≠ noneS := (Ok.jn (ha.ok h1) (hb.ok h2)).ne
        have n2 : jn c b ≠ noneS := (Ok.jn (hc.ok h3) (hb.ok h2)).ne
        rw [e1, e2]; unfold joinS; rw [if_neg n1, if_neg h3, if_neg h1, if_neg n2, jn_assoc]
theorem join_comm {a b : St} : joinS a b = joinS b a := by
  unfold joinS
  by_cases h1 : a = noneS
  · by_cases h2 : b = noneS
    · simp [h1, h2]
    · simp [h1, h2]
  · by_cases h2 : b = noneS
    · simp [h1, h2]
    · simp [h1, h2, jn_comm]
theorem in_join_left {a b : St} (ha : Rt a) (hb : Rt b) : inP a (joinS a b) := by
  by_cases h1 : a = noneS
  · exact .inl h1
  · by_cases h2 : b = noneS
    · rw [h2, join_none_right]; exact (in_wi (ha.ok h1) (ha.ok h1)).2 Wi.refl
    · have e1 : joinS a b = jn a b := by unfold joinS; rw [if_neg h1, if_neg h2]
      rw [e1]; exact (in_wi (ha.ok h1) (Ok.jn (ha.ok h1) (hb.ok h2))).2 (wi_jn_left a b)
theorem in_join_right {a b : St} (ha : Rt a) (hb : Rt b) : inP b (joinS a b) := by rw [join_comm]; exact in_join_left hb ha
theorem in_trans {a b c : St} (ha : Rt a) (hb : Rt b) (hc : Rt c) (h : inP a b) (k : inP b c) : inP a c := by
  by_cases h1 : a = noneS
  · exact .inl h1
  · by_cases h2 : b = noneS
    · rw [h2] at h; exact absurd h (not_in_none (ha.ok h1))
    · by_cases h3 : c = noneS
      · rw [h3] at k; exact absurd k (not_in_none (hb.ok h2))
      · exact (in_wi (ha.ok h1) (hc.ok h3)).2 (((in_wi (ha.ok h1) (hb.ok h2)).1 h).trans ((in_wi (hb.ok h2) (hc.ok h3)).1 k))
theorem join_in {a b c : St} (ha : Rt a) (hb : Rt b) (hc : Rt c) (h : inP a c) (k : inP b c) : inP (joinS a b) c := by
  by_cases h1 : a = noneS
  · rw [h1, join_none_left]; exact k
  · by_cases h2 : b = noneS
    · rw [h2, join_none_right]; exact h
    · by_cases h3 : c = noneS
      · rw [h3] at k; exact absurd k (not_in_none (hb.ok h2))
      · have e1 : joinS a b = jn a b := by unfold joinS; rw [if_neg h1, if_neg h2]
        rw [e1]
        exact (in_wi (Ok.jn (ha.ok h1) (hb.ok h2)) (hc.ok h3)).2 (jn_lub ((in_wi (ha.ok h1) (hc.ok h3)).1 h) ((in_wi (hb.ok h2) (hc.ok h3)).1 k))
theorem in_antisymm {a b : St} (ha : Rt a) (hb : Rt b) (h : inP a b) (k : inP b a) : a = b := by
  by_cases h1 : a = noneS
  · by_cases h2 : b = noneS
    · rw [h1, h2]
    · rw [h1] at k; exact absurd k (not_in_none (hb.ok h2))
  · by_cases h2 : b = noneS
    · rw [h2] at h; exact absurd h (not_in_none (ha.ok h1))
    · exact ((in_wi (ha.ok h1) (hb.ok h2)).1 h).antisymm ((in_wi (hb.ok h2) (ha.ok h1)).1 k)
theorem in_cut {m : Nat} {a b : St} (hm : 1 ≤ m) (ha : Rt a) (hb : Rt b) (h : inP a b) : inP (cutA m a) (cutA m b) := by
  by_cases h1 : a = noneS
  · exact .inl (if_pos h1)
  · by_cases h2 : b = noneS
    · rw [h2] at h; exact absurd h (not_in_none (ha.ok h1))
    · unfold cutA; rw [if_neg h1, if_neg h2]
      exact (in_wi ((ha.ok h1).cut hm) ((hb.ok h2).cut hm)).2 (cut_mono (ha.ok h1) (hb.ok h2) ((in_wi (ha.ok h1) (hb.ok h2)).1 h))
theorem in_add {m : Nat} {a b c : St} (hm : 1 ≤ m) (hM : (m + 1) ∣ 18446744073709551616) (ha : Rt a) (hb : Rt b) (hc : Rt c) (h : inP a b) : inP (addS m a c) (addS m b c) := by
  by_cases h1 : a = noneS
  · exact .inl (if_pos (.inl h1))
  · by_cases h2 : b = noneS
    · rw [h2] at h; exact absurd h (not_in_none (ha.ok h1))
    · by_cases h3 : c = noneS
      · exact .inl (if_pos (.inr h3))
      · exact (in_wi (add_ok hm (ha.ok h1) (hc.ok h3)) (add_ok hm (hb.ok h2) (hc.ok h3))).2 (add_mono hm hM (ha.ok h1) (hb.ok h2) (hc.ok h3) ((in_wi (ha.ok h1) (hb.ok h2)).1 h))
theorem in_sub {m : Nat} {a b c : St} (hm : 1 ≤ m) (hM : (m + 1) ∣ 18446744073709551616) (ha : Rt a) (hb : Rt b) (hc : Rt c) (hcu : c.h < 18446744073709551616) (h : inP a b) : inP (subS m a c) (subS m b c) := by
  by_cases h1 : a = noneS
  · exact .inl (if_pos (.inl h1))
  · by_cases h2 : b = noneS
    · rw [h2] at h; exact absurd h (not_in_none (ha.ok h1))
    · by_cases h3 : c = noneS
      · exact .inl (if_pos (.inr h3))
      · exact (in_wi (sub_ok hm (ha.ok h1) (hc.ok h3)) (sub_ok hm (hb.ok h2) (hc.ok h3))).2 (sub_mono hm hM (ha.ok h1) (hb.ok h2) (hc.ok h3) hcu ((in_wi (ha.ok h1) (hb.ok h2)).1 h))
theorem cutA_cutA {m : Nat} {a : St} (hm : 1 ≤ m) (ha : Rt a) : cutA m (cutA m a) = cutA m a := by
  by_cases h1 : a = noneS
  · subst h1; unfold cutA; simp
  · have e1 : cutA m a = cutS m a := if_neg h1
    rw [e1]
    unfold cutA; rw [if_neg ((ha.ok h1).cut hm).ne, cut_cut hm (ha.ok h1)]
end Go.Proofs.YtmlgaaolofgdiaaDoor.SM
