/- Sets widened time after time: what each widening keeps, and how often it can be another set. -/
import Derived.Test.YtmlgaaolofgdiaaDoorWidAll
namespace Go.Proofs.YtmlgaaolofgdiaaDoor
open SM
/-- A set that may be, of values up to m. -/
structure Fit (m : Nat) (a : St) : Prop where
  r : Rt a
  le : a = noneS ∨ a.h ≤ m
theorem Fit.g {m : Nat} (hm : m < 18446744073709551616) {a : St} (f : Fit m a) : G a := by
  refine g_of f.r ?_
  rcases f.le with e | e
  · rw [e]; unfold U noneS; decide
  · unfold U; omega
theorem in_self {a : St} (ha : Rt a) : inP a a := by
  by_cases hn : a = noneS
  · exact .inl hn
  · exact (in_wi (ha.ok hn) (ha.ok hn)).2 Wi.refl
/-- What is known where a set is widened to another one. -/
structure Wd (m : Nat) (a b o : St) : Prop where
  ao : Ok a
  oo : Ok o
  ho : o.h ≤ m
  wa : Wi a o
  wb : Wi b o
  pos : 0 < o.s
  lo : o.l = a.l ∨ (o.l < o.s ∧ o.l < a.l ∧ o.s ∣ a.l - o.l)
  hi : o.h = a.h ∨ (m - o.h < o.s ∧ a.h < o.h ∧ o.s ∣ o.h - a.h)
  same : o.s = a.s → o.l = a.l → o.h = a.h → False
theorem wd_of {m : Nat} {a b : St} (fa : Fit m a) (fb : Fit m b) (hn : a ≠ noneS) (hi : ¬ inP b a) : Wd m a b (widS m a b) := by
  have oa := fa.r.ok hn
  have hbn : b ≠ noneS := fun e => hi (.inl e)
  have ob := fb.r.ok hbn
  have ham : a.h ≤ m := fa.le.resolve_left hn
  have hbm : b.h ≤ m := fb.le.resolve_left hbn
  unfold widS
  rw [if_neg hn, if_neg hi]
  have hj : joinS a b = jn a b := by unfold joinS; rw [if_neg hn, if_neg hbn]
  have hok : Ok (joinS a b) := by rw [hj]; exact oa.jn ob
  have wa : Wi a (joinS a b) := by rw [hj]; exact wi_jn_left a b
  have wb : Wi b (joinS a b) := by rw [hj]; exact wi_jn_right a b
  have hrm : (joinS a b).h ≤ m := by rw [hj]; unfold jn; dsimp only; omega
  have hne : joinS a b ≠ a := fun e => hi ((in_wi ob oa).2 (e ▸ wb))
  clear hj
  generalize joinS a b = r at *
  have hle := oa.le
  have hrs : 0 < r.s := by
    rcases Nat.eq_zero_or_pos r.s with z | z
    · have e := hok.s0.1 z
      have h1 := wa.1; have h2 := wa.2.1
      have hs : a.s = 0 := oa.s0.2 (by omega)
      exact absurd (show r = a by cases r; cases a; simp_all; omega) hne
    · exact z
  have hlt : r.l < r.h := by
    have := hok.le
    rcases Nat.lt_or_ge r.l r.h with z | z
    · exact z
    · have h0 := hok.s0.2 (by omega); omega
  have d0 : r.s ∣ r.h - r.l := hok.dvd
  have ml : r.l % r.s ≤ r.l := Nat.mod_le _ _
  have mlt : r.l % r.s < r.s := Nat.mod_lt _ hrs
  have dl : r.s ∣ r.l - r.l % r.s := Nat.dvd_sub_mod r.l
  have mh : (m - r.h) % r.s ≤ m - r.h := Nat.mod_le _ _
  have mht : (m - r.h) % r.s < r.s := Nat.mod_lt _ hrs
  have dh : r.s ∣ (m - r.h) - (m - r.h) % r.s := Nat.dvd_sub_mod _
  -- the lower end
  have hL : ∃ L, (if r.l < a.l then r.l % r.s else r.l) = L ∧ L ≤ r.l ∧ r.s ∣ r.l - L ∧ (L = a.l ∨ (L < r.s ∧ L < a.l ∧ r.s ∣ a.l - L)) ∧ (L = a.l → r.l = a.l) := by
    by_cases q : r.l < a.l
    · refine ⟨r.l % r.s, if_pos q, ml, dl, .inr ⟨mlt, by omega, ?_⟩, by omega⟩
      rw [show a.l - r.l % r.s = (a.l - r.l) + (r.l - r.l % r.s) by omega]
      exact Nat.dvd_add wa.2.2.1 dl
    · have := wa.1
      exact ⟨r.l, if_neg q, Nat.le_refl _, by simp, .inl (by omega), fun e => e⟩
  have hH : ∃ K, (if a.h < r.h ∧ r.h ≤ m then m - (m - r.h) % r.s else r.h) = K ∧ r.h ≤ K ∧ K ≤ m ∧ r.s ∣ K - r.h ∧ (K = a.h ∨ (m - K < r.s ∧ a.h < K ∧ r.s ∣ K - a.h)) ∧ (K = a.h → r.h = a.h) := by
    by_cases q : a.h < r.h
    · refine ⟨m - (m - r.h) % r.s, if_pos ⟨q, hrm⟩, by omega, by omega, ?_, .inr ⟨by omega, by omega, ?_⟩, by omega⟩
      · rw [show m - (m - r.h) % r.s - r.h = (m - r.h) - (m - r.h) % r.s by omega]; exact dh
      · rw [show m - (m - r.h) % r.s - a.h = ((m - r.h) - (m - r.h) % r.s) + (r.h - a.h) by omega]
        refine Nat.dvd_add dh ?_
        have e1 : r.s ∣ a.h - r.l := by
          rw [show a.h - r.l = (a.l - r.l) + (a.h - a.l) by have := wa.1; omega]
          exact Nat.dvd_add wa.2.2.1 (Nat.dvd_trans wa.2.2.2 oa.dvd)
        have := Nat.dvd_sub d0 e1
        rw [show r.h - r.l - (a.h - r.l) = r.h - a.h by have := wa.1; omega] at this
        exact this
    · have := wa.2.1
      exact ⟨r.h, if_neg (fun h => q h.1), Nat.le_refl _, hrm, by simp, .inl (by omega), fun e => e⟩
  obtain ⟨L, eL, l1, l2, l3, l4⟩ := hL
  obtain ⟨K, eK, k1, k2, k3, k4, k5⟩ := hH
  rw [eL, eK]
  have wr : Wi r ⟨r.s, L, K⟩ := ⟨l1, k1, l2, Nat.dvd_refl _⟩
  refine ⟨oa, .inr ⟨hrs, by dsimp only; omega, ?_⟩, k2, wa.trans wr, wb.trans wr, hrs, l3, k4, ?_⟩
  · dsimp only
    rw [show K - L = (K - r.h) + ((r.h - r.l) + (r.l - L)) by omega]
    exact Nat.dvd_add k3 (Nat.dvd_add d0 l2)
  · dsimp only
    intro e1 e2 e3
    have := l4 e2; have := k5 e3
    exact hne (by cases r; cases a; simp_all)
/-- How often a set can be widened to another one, at most. -/
def room (m : Nat) (a : St) : Nat :=
  if a = noneS then 193 else if a.s = 0 then 192 else 3 * a.s.log2 + (if a.l < a.s then 0 else 1) + (if m - a.h < a.s then 0 else 1)
theorem log2_lt64 {n : Nat} (h0 : n ≠ 0) (h : n < 18446744073709551616) : n.log2 < 64 := (Nat.log2_lt h0).2 (by omega)
theorem log2_half {x y : Nat} (h0 : x ≠ 0) (h : 2 * x ≤ y) : x.log2 + 1 ≤ y.log2 := by
  rw [Nat.le_log2 (by omega), Nat.pow_succ]
  have := Nat.log2_self_le h0
  omega
theorem room_le {m : Nat} (hm : m < 18446744073709551616) {a : St} (f : Fit m a) : room m a ≤ 193 := by
  unfold room
  split
  · omega
  · split
    · omega
    · rename_i hn hs
      have hu := (f.g hm).s
      have := log2_lt64 hs hu
      split <;> split <;> omega
theorem room_less {m : Nat} (hm : m < 18446744073709551616) {a b o : St} (h : Wd m a b o) : room m o + 1 ≤ room m a := by
  have hos := h.pos
  have hou : o.s < 18446744073709551616 := by
    have h1 := Nat.le_of_dvd (by have := h.oo.s0; have := h.oo.le; rcases Nat.lt_or_ge o.l o.h with z | z; omega; have h9 := h.oo.s0.2 (by omega); omega) h.oo.dvd
    have := h.ho; omega
  have hlg := log2_lt64 (by omega) hou
  have hro : room m o = 3 * o.s.log2 + (if o.l < o.s then 0 else 1) + (if m - o.h < o.s then 0 else 1) := by
    unfold room; rw [if_neg h.oo.ne, if_neg (by omega)]
  rw [hro]
  have f1 : (if o.l < o.s then 0 else 1) ≤ 1 := by split <;> omega
  have f2 : (if m - o.h < o.s then 0 else 1) ≤ 1 := by split <;> omega
  unfold room
  rw [if_neg h.ao.ne]
  by_cases has : a.s = 0
  · rw [if_pos has]; omega
  · rw [if_neg has]
    have hd : o.s ∣ a.s := h.wa.2.2.2
    by_cases e : o.s = a.s
    · rw [← e]
      clear f1 f2
      have hl : (if o.l < o.s then 0 else 1) ≤ (if a.l < o.s then 0 else 1) ∧ (o.l ≠ a.l → (if o.l < o.s then 0 else 1) + 1 ≤ (if a.l < o.s then 0 else 1)) := by
        rcases h.lo with q | ⟨q1, q2, q3⟩
        · rw [q]; exact ⟨Nat.le_refl _, fun z => absurd rfl z⟩
        · have := Nat.le_of_dvd (by omega) q3
          rw [if_pos q1, if_neg (show ¬ a.l < o.s by omega)]; omega
      have hh : (if m - o.h < o.s then 0 else 1) ≤ (if m - a.h < o.s then 0 else 1) ∧ (o.h ≠ a.h → (if m - o.h < o.s then 0 else 1) + 1 ≤ (if m - a.h < o.s then 0 else 1)) := by
        rcases h.hi with q | ⟨q1, q2, q3⟩
        · rw [q]; exact ⟨Nat.le_refl _, fun z => absurd rfl z⟩
        · have := Nat.le_of_dvd (by omega) q3
          have := h.ho
          rw [if_pos q1, if_neg (show ¬ m - a.h < o.s by omega)]; omega
      by_cases e2 : o.l = a.l
      · have e3 : o.h ≠ a.h := fun z => h.same e e2 z
        have := hh.2 e3; have := hl.1; omega
      · have := hl.2 e2; have := hh.1; omega
    · obtain ⟨c, hc⟩ := hd
      have : 2 * o.s ≤ a.s := by
        rw [hc]
        have h2 : 2 ≤ c := by
          rcases Nat.lt_or_ge c 2 with z | z
          · have : c = 0 ∨ c = 1 := by omega
            rcases this with rfl | rfl
            · simp at hc; omega
            · simp at hc; omega
          · exact z
        have := Nat.mul_le_mul_left o.s h2; omega
      have := log2_half (by omega) this
      omega
/-- All that the law asks of one widening. -/
structure Good (m : Nat) (a b o : St) : Prop where
  fit : Fit m o
  ina : inP a o
  inb : inP b o
  again : widS m o b = o
  less : o ≠ a → room m o + 1 ≤ room m a
theorem wid_good {m : Nat} (hm : m < 18446744073709551616) {a b : St} (fa : Fit m a) (fb : Fit m b) : Good m a b (widS m a b) := by
  by_cases hn : a = noneS
  · have e : widS m a b = b := by unfold widS; rw [if_pos hn]
    rw [e]
    refine ⟨fb, .inl hn, in_self fb.r, ?_, fun hne => ?_⟩
    · unfold widS; split
      · rfl
      · rw [if_pos (in_self fb.r)]
    · have h1 : room m a = 193 := by unfold room; rw [if_pos hn]
      rw [h1]
      have hbn : b ≠ noneS := fun z => hne (z.trans hn.symm)
      unfold room; rw [if_neg hbn]
      split
      · omega
      · rename_i hs
        have := log2_lt64 hs (fb.g hm).s
        split <;> split <;> omega
  · by_cases hi : inP b a
    · have e : widS m a b = a := by unfold widS; rw [if_neg hn, if_pos hi]
      rw [e]
      exact ⟨fa, in_self fa.r, hi, e, fun z => absurd rfl z⟩
    · have h := wd_of fa fb hn hi
      generalize widS m a b = o at *
      have hbn : b ≠ noneS := fun e => hi (.inl e)
      have inb : inP b o := (in_wi (fb.r.ok hbn) h.oo).2 h.wb
      refine ⟨⟨h.oo.rt, .inr h.ho⟩, (in_wi h.ao h.oo).2 h.wa, inb, ?_, fun _ => room_less hm h⟩
      unfold widS; rw [if_neg h.oo.ne, if_pos inb]
end Go.Proofs.YtmlgaaolofgdiaaDoor
