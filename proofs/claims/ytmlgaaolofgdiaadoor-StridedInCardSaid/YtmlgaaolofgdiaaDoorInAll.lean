/- The law StridedIn, of any three sets. -/
import Derived.Test.YtmlgaaolofgdiaaDoorInW
import Derived.Test.YtmlgaaolofgdiaaDoorInO
import Derived.Test.YtmlgaaolofgdiaaDoorList0
import Derived.Test.YtmlgaaolofgdiaaDoorRef2
import Derived.Test.YtmlgaaolofgdiaaDoorOrdAll
import Derived.IntWalk
namespace Go.Proofs.YtmlgaaolofgdiaaDoor
open Go.RowKit SM
set_option linter.unusedVariables false
/-- All values up to a number. -/
def allUp (f : Nat → Bool) : Nat → Bool
  | 0 => true
  | x + 1 => allUp f x && f x
theorem allUp_iff (f : Nat → Bool) (n : Nat) : allUp f n = true ↔ ∀ x, x < n → f x = true := by
  induction n with
  | zero => simp [allUp]
  | succ n ih =>
    simp only [allUp, Bool.and_eq_true, ih]
    constructor
    · rintro ⟨h1, h2⟩ x hx
      rcases Nat.lt_or_ge x n with h | h
      · exact h1 x h
      · have : x = n := by omega
        rw [this]; exact h2
    · intro h; exact ⟨fun x hx => h x (by omega), h n (by omega)⟩
theorem manyN_val {a : St} (ha : Rt a) {x : Nat} (hx : x < manyN a) : Ok a ∧ a.l + x * a.s ≤ a.h := by
  unfold manyN at hx
  split at hx
  · omega
  · rename_i hn
    have hok := ha.ok hn
    refine ⟨hok, ?_⟩
    split at hx
    · have : x = 0 := by omega
      subst this; rw [Nat.zero_mul]; have := hok.le; omega
    · have ht := stN_top hok.dvd hok.le
      have := Nat.mul_le_mul_right a.s (show x ≤ stN a.s a.l a.h by omega)
      omega
theorem many_up {a : St} (ha : Rt a) {x : Nat} (hx : x + 1 < manyN a) : a.l + x * a.s < a.l + (x + 1) * a.s := by
  have hok := (manyN_val ha hx).1
  have hs : 0 < a.s := by
    rcases hok with ⟨h0, h1⟩ | ⟨h, _⟩
    · unfold manyN at hx
      rw [if_pos h1] at hx
      split at hx <;> omega
    · exact h
  rw [Nat.succ_mul]; omega
theorem in_all {a b : St} (ha : Rt a) (hb : Rt b) : decide (inP a b) = allUp (fun x => decide (hasP b (a.l + x * a.s))) (manyN a) := by
  rw [Bool.eq_iff_iff, allUp_iff]
  simp only [decide_eq_true_eq]
  constructor
  · intro h x hx
    obtain ⟨hok, hle⟩ := manyN_val ha hx
    by_cases hbn : b = noneS
    · rw [hbn] at h; exact absurd h (not_in_none hok)
    · have hw := (in_wi hok (hb.ok hbn)).1 h
      obtain ⟨h1, h2, h3, h4⟩ := hw
      rw [has_dvd]
      refine ⟨by omega, by omega, ?_⟩
      rw [show a.l + x * a.s - b.l = (a.l - b.l) + x * a.s by omega]
      exact Nat.dvd_add h3 (Nat.dvd_trans h4 (Nat.dvd_mul_left _ _))
  · intro h
    by_cases hn : a = noneS
    · exact .inl hn
    · have hok := ha.ok hn
      by_cases e : a.l = a.h
      · have hm : manyN a = 1 := by unfold manyN; rw [if_neg hn, if_pos e]
        have h0 := h 0 (by omega)
        rw [Nat.zero_mul, Nat.add_zero] at h0
        exact .inr ⟨h0, by rw [← e]; exact h0, .inl e⟩
      · have hm : manyN a = stN a.s a.l a.h + 1 := by unfold manyN; rw [if_neg hn, if_neg e]
        have ht := stN_top hok.dvd hok.le
        have h0 := h 0 (by omega)
        rw [Nat.zero_mul, Nat.add_zero] at h0
        have h9 := h (stN a.s a.l a.h) (by omega)
        rw [ht] at h9
        have hp : 0 < stN a.s a.l a.h := by
          rcases Nat.eq_zero_or_pos (stN a.s a.l a.h) with z | z
          · rw [z, Nat.zero_mul] at ht; omega
          · exact z
        have h1 := h 1 (by omega)
        rw [Nat.one_mul] at h1
        have k0 := (has_dvd.1 h0)
        have k1 := (has_dvd.1 h1)
        refine .inr ⟨h0, h9, .inr ?_⟩
        have := (Nat.dvd_add_right k0.2.2).1 (show b.s ∣ (a.l - b.l) + a.s by rw [show (a.l - b.l) + a.s = a.l + a.s - b.l by omega]; exact k1.2.2)
        exact Nat.mod_eq_zero_of_dvd this
theorem join_self {a : St} : joinS a a = a := by
  unfold joinS; split
  · rfl
  · exact jn_self
theorem c_right {w : World} {a : St} (ga : U a.h) {B : Bool} (e : decide (Rt a) = B) : Hid (∀ W, Below w.heap.size w W → Calls Tryd.prog 6 #[stv a] W fun e w2 => e = .returned (.bool B) ∧ Below W.heap.size W w2) :=
  Lib.hid fun W _ => rr_dec a.s a.l a.h ga e W
theorem c_rmany {w : World} {a : St} (ga : G a) : Hid (∀ W, Below w.heap.size w W → Calls Tryd.prog 7 #[stv a] W fun e w2 => e = .returned (.int .u64 (manyC a : Nat)) ∧ Below W.heap.size W w2) :=
  Lib.hid fun W _ => rmany_any a.s a.l a.h ga.h ga.r W
theorem manyN_st {a : St} (h : manyN a ≤ 200) : a = noneS ∨ a.l = a.h ∨ stN a.s a.l a.h + 1 ≤ 200 := by
  unfold manyN at h
  split at h
  · exact .inl ‹_›
  · split at h
    · exact .inr (.inl ‹_›)
    · exact .inr (.inr h)
theorem c_many {w : World} {a : St} (ga : G a) (h : manyN a ≤ 200) : Hid (∀ W, Below w.heap.size w W → Calls Tryd.prog 13 #[stv a] W fun e w2 => e = .returned (.int .u64 (manyN a : Nat)) ∧ Below W.heap.size W w2) := by
  refine Lib.hid fun W _ => many_any a.s a.l a.h ga.h ga.r ?_ W
  rcases manyN_st h with e | e | e
  · rw [e]; decide
  · unfold stN; rw [e, Nat.sub_self, Nat.zero_div]; decide
  · omega
theorem c_list {w : World} {a : St} (ga : G a) (h : manyN a ≤ 200) : Hid (∀ W, Below w.heap.size w W → Calls Tryd.prog 12 #[stv a, .int .i64 300] W (GoodList a.s a.l (manyN a) W)) := by
  refine Lib.hid fun W _ => ?_
  by_cases hn : a = noneS
  · have hm : manyN a = 0 := by unfold manyN; rw [if_pos hn]
    rw [hm, hn]
    exact (list0_any 300 W).mono fun e W' ⟨h1, h2⟩ => .inl ⟨rfl, h1, h2⟩
  · have hst : manyN a = stN a.s a.l a.h + 1 := by
      unfold manyN; rw [if_neg hn]
      split
      · rename_i e; unfold stN; rw [e, Nat.sub_self, Nat.zero_div]
      · rfl
    refine (list_any a.s a.l a.h 300 ga.h ga.r hn (by omega) (by decide) W).mono ?_
    rintro e W' ⟨v, he, hrow, hb⟩
    rw [← hst] at hrow
    rcases hrow.2 with ⟨_, h⟩ | ⟨g, cap, cur, rfl, _, hg, hcap, _, hs, ht⟩
    · omega
    · refine .inr ⟨by omega, g, cap, he, hcap, fun i hi => ?_, (Array.getElem?_eq_some_iff.1 hg).1, hb⟩
      have h4 : cur[i]? = some (.int .u64 ((a.l + i * a.s : Nat) : Int)) := by
        have h := congrArg (fun l : List Value => l[i]?) ht
        rw [List.getElem?_take_of_lt (by omega)] at h
        rw [← Array.getElem?_toList, h, List.getElem?_map, upto, List.getElem?_map, List.getElem?_range hi]
        rfl
      unfold World.cell?
      rw [hg]
      exact h4
set_option maxHeartbeats 1000000 in
theorem in_right (a b c : St) (ga : G a) (gb : G b) (gc : G c) (ha : manyC a ≤ 200) (hb : manyC b ≤ 200) (w : World) (hm : Mk w) :
    Calls Tryd.prog 3 #[stv a, stv b, stv c] w fun e w' => e = .returned (.bool true) ∧ Below w.heap.size w w' := by
  have ea : manyC a = manyN a := by unfold manyC at *; omega
  have eb : manyC b = manyN b := by unfold manyC at *; omega
  have hma := c_rmany (w := w) ga
  have hmb := c_rmany (w := w) gb
  rw [ea] at hma ha
  rw [eb] at hmb hb
  have gj := g_of (ga.r.join gb.r) (u_join ga.h gb.h)
  exact in_walk a.s a.l a.h b.s b.l b.h c.s c.l c.h (joinS a b).s (joinS a b).l (joinS a b).h (manyN a) (manyN b) ha hb (fun x => decide (hasP b (a.l + x * a.s))) (allUp fun x => decide (hasP b (a.l + x * a.s)))
    (decide (inP a c)) (decide (inP b c)) (decide (inP (joinS a b) c)) (decide (inP b a)) w
    (c_right ga.h (decide_eq_true ga.r)) (c_right gb.h (decide_eq_true gb.r)) (c_right gc.h (decide_eq_true gc.r)) hma hmb
    (Lib.hid fun x hx W _ => has_any b.s b.l b.h (a.l + x * a.s) gb.h gb.r W)
    (Lib.hid fun x hx => by
      have hle := (manyN_val ga.r hx).2
      have hu := ga.h
      unfold U at hu
      rw [← Int.natCast_mul]
      have e1 : IntKind.u64.wrap ((x * a.s : Nat) : Int) = ((x * a.s : Nat) : Int) := by exact IntWalk.u64_in _ (by omega)
      rw [e1, ← Int.natCast_add]
      exact IntWalk.u64_in _ (by omega))
    (Lib.hid rfl) (Lib.hid fun x => rfl)
    (c_join ga gb) (by rw [join_comm]; exact c_join gb ga) (by have := c_join (w := w) ga ga; rw [join_self] at this; exact this)
    (by rw [← in_all ga.r gb.r]; exact c_in ga gb rfl) (c_in ga gj (decide_eq_true (in_join_left ga.r gb.r))) (c_in gb gj (decide_eq_true (in_join_right ga.r gb.r)))
    (c_in ga gc rfl) (c_in gb gc rfl) (c_in gj gc rfl)
    (Lib.hid fun h1 h2 => decide_eq_true (join_in ga.r gb.r gc.r (of_decide_eq_true h1) (of_decide_eq_true h2)))
    (c_list ga ha) (c_many ga ha) (Lib.hid fun x hx => many_up ga.r hx) (c_in gb ga rfl)
    (Lib.hid fun h1 h2 => by
      rw [← in_all ga.r gb.r] at h1
      have := in_antisymm ga.r gb.r (of_decide_eq_true h1) (of_decide_eq_true h2)
      rw [this]; exact eq3_self _ _ _)
    (c_wakes hm)
theorem in_law' (a b c : St) (xs : U a.s) (al : U a.l) (ah : U a.h) (bs : U b.s) (bl : U b.l) (bh : U b.h) (cs : U c.s) (cl : U c.l) (ch : U c.h) (w : World) (hm : Mk w) :
    Calls Tryd.prog 3 #[stv a, stv b, stv c] w fun e w' => e = .returned (.bool true) ∧ Below w.heap.size w w' := by
  by_cases ha : Rt a
  · by_cases hb : Rt b
    · by_cases hc : Rt c
      · have ga : G a := ⟨ha, xs, al, ah⟩
        have gb : G b := ⟨hb, bs, bl, bh⟩
        have gc : G c := ⟨hc, cs, cl, ch⟩
        by_cases h1 : manyC a ≤ 200
        · by_cases h2 : manyC b ≤ 200
          · exact in_right a b c ga gb gc h1 h2 w hm
          · exact inl_out5 a.s a.l a.h b.s b.l b.h c.s c.l c.h (manyC a) (manyC b) h1 (by omega) w (c_right ah (decide_eq_true ha)) (c_right bh (decide_eq_true hb)) (c_right ch (decide_eq_true hc)) (c_rmany ga) (c_rmany gb) (c_wakes hm)
        · exact inl_out4 a.s a.l a.h b.s b.l b.h c.s c.l c.h (manyC a) (by omega) w (c_right ah (decide_eq_true ha)) (c_right bh (decide_eq_true hb)) (c_right ch (decide_eq_true hc)) (c_rmany ga) (c_wakes hm)
      · exact inl_out3 a.s a.l a.h b.s b.l b.h c.s c.l c.h w (c_right ah (decide_eq_true ha)) (c_right bh (decide_eq_true hb)) (c_right ch (decide_eq_false hc)) (c_wakes hm)
    · exact inl_out2 a.s a.l a.h b.s b.l b.h c.s c.l c.h w (c_right ah (decide_eq_true ha)) (c_right bh (decide_eq_false hb)) (c_wakes hm)
  · exact inl_out1 a.s a.l a.h b.s b.l b.h c.s c.l c.h w (c_right ah (decide_eq_false ha)) (c_wakes hm)
theorem in_law (s l h t m k p q r : Nat) (us : U s) (ul : U l) (uh : U h) (ut : U t) (um : U m) (uk : U k) (up : U p) (uq : U q) (ur : U r) (w : World) (hm : Mk w) :
    Calls Tryd.prog 3 #[sv s l h, sv t m k, sv p q r] w fun e w' => e = .returned (.bool true) ∧ Below w.heap.size w w' :=
  in_law' ⟨s, l, h⟩ ⟨t, m, k⟩ ⟨p, q, r⟩ us ul uh ut um uk up uq ur w hm
end Go.Proofs.YtmlgaaolofgdiaaDoor
