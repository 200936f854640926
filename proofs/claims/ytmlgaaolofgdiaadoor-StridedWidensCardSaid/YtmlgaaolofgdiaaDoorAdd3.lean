/- strided.Add, strided.Sub. -/
import Derived.Test.YtmlgaaolofgdiaaDoorAdd2
namespace Go.Proofs.YtmlgaaolofgdiaaDoor
open Go.RowKit SM
theorem add2_any (s l h t m k : Nat) (wd : Int) (p : Nat) (us : U s) (ut : U t) (uh : U h) (uk : U k) (hl : l ≤ h) (hk : m ≤ k) (w : World) (hm : Mk w) (hp : p < w.heap.size) (hcp : w.cell? ⟨p, 0, none⟩ = some (.int .i64 wd)) :
    Calls Tryd.prog 36 #[sv s l h, sv t m k, .pointer (some ⟨p, 0, none⟩)] w fun e w' => e = .returned (stv (if mN wd < h + k then allS (mN wd) else ofS (l + m) (h + k) (Nat.gcd s t))) ∧ Below w.heap.size w w' := by
  have hM := (mN_fin wd).2.1
  by_cases g2 : mN wd < h + k
  · rw [if_pos g2]
    by_cases g : 18446744073709551616 ≤ h + k
    · exact add2_out s l h t m k wd p uh uk g w hm hp hcp
    · exact add2_big s l h t m k wd p uh uk (by omega) g2 w hm hp hcp
  · rw [if_neg g2]
    exact add2_ok s l h t m k wd p us ut uh uk hl hk (by omega) g2 _ _ _ (fun W => of_any (l + m) (h + k) _ (by unfold U; omega) W) w hm hp hcp
theorem sub2_any (s l h t m k : Nat) (wd : Int) (p : Nat) (us : U s) (ut : U t) (uh : U h) (hl : l ≤ h) (hk : m ≤ k) (w : World) (hm : Mk w) (hp : p < w.heap.size) (hcp : w.cell? ⟨p, 0, none⟩ = some (.int .i64 wd)) :
    Calls Tryd.prog 40 #[sv s l h, sv t m k, .pointer (some ⟨p, 0, none⟩)] w fun e w' => e = .returned (stv (if l < k then allS (mN wd) else ofS (l - k) (h - m) (Nat.gcd s t))) ∧ Below w.heap.size w w' := by
  by_cases g2 : l < k
  · rw [if_pos g2]
    exact sub2_big s l h t m k wd p g2 w hm hp hcp
  · rw [if_neg g2]
    exact sub2_ok s l h t m k wd p us ut uh hl hk g2 _ _ _ (fun W => of_any (l - k) (h - m) _ (by unfold U at *; omega) W) w hm hp hcp
theorem s_le {a : St} (h : Ok a) (uh : U a.h) : U a.s := by
  unfold U at *
  rcases h with ⟨h0, _⟩ | ⟨h0, h1, h2⟩
  · omega
  · have := Nat.le_of_dvd (by omega) h2; omega
theorem cutS_U {wd : Int} {a : St} (h : Ok a) : U (cutS (mN wd) a).s ∧ U (cutS (mN wd) a).l ∧ U (cutS (mN wd) a).h ∧ (cutS (mN wd) a).l ≤ (cutS (mN wd) a).h := by
  have hM := (mN_fin wd).2.1
  have h1 := cut_le (m := mN wd) h
  have h2 := h.cut (mN_pos wd)
  have h3 := h2.le
  have h4 : U (cutS (mN wd) a).h := by unfold U; omega
  exact ⟨s_le h2 h4, by unfold U at *; omega, h4, h3⟩
theorem worked_add (s l h t m k : Nat) (wd : Int) (p : Nat) (ul : U l) (uh : U h) (um : U m) (uk : U k) (ha : Rt ⟨s, l, h⟩) (hb : Rt ⟨t, m, k⟩) (w : World) (hm : Mk w) (hp : p < w.heap.size) (hcp : w.cell? ⟨p, 0, none⟩ = some (.int .i64 wd)) :
    Calls Tryd.prog 34 #[sv s l h, sv t m k, .int .i64 wd, .func (.func 35) #[] #[], .func (.func 36) #[] #[.pointer (some ⟨p, 0, none⟩)]] w fun e w' => e = .returned (stv (addS (mN wd) ⟨s, l, h⟩ ⟨t, m, k⟩)) ∧ Below w.heap.size w w' := by
  unfold addS
  by_cases hn : (⟨s, l, h⟩ : St) = noneS
  · rw [if_pos (.inl hn)]; exact w_none1_add s l h t m k wd p uh uk ha hb hn w
  · by_cases hn2 : (⟨t, m, k⟩ : St) = noneS
    · rw [if_pos (.inr hn2)]; exact w_none2_add s l h t m k wd p uh uk ha hb hn hn2 w
    · rw [if_neg (fun e => e.elim hn hn2)]
      dsimp only
      by_cases g : l = h ∧ m = k
      · rw [if_pos g]
        exact w_ones_add s l h t m k wd p uh uk ha hb hn hn2 (by simp [g.1]) (by simp [g.2]) _ _ (fun W => add1_any l m W) w
          (fun W hW => bcut_any _ (Nat.mod_lt _ (by decide)) wd W (hm.own hW))
      · rw [if_neg g]
        have c1 := cutS_U (wd := wd) (ha.ok hn)
        have c2 := cutS_U (wd := wd) (hb.ok hn2)
        by_cases g1 : l = h
        · exact w_many2_add s l h t m k wd p uh uk ha hb hn hn2 (by simp [g1]) (by simp; omega) _ _ _ _ _ _ _ _ _ w
            (fun W hW => cut_any s l h wd ul uh ha W (hm.own hW)) (fun W hW => cut_any t m k wd um uk hb W (hm.own hW))
            (fun W hW => add2_any _ _ _ _ _ _ wd p c1.1 c2.1 c1.2.2.1 c2.2.2.1 c1.2.2.2 c2.2.2.2 W (hm.own hW) (Nat.lt_of_lt_of_le hp hW.size) ((hW.cell (p := ⟨p, 0, none⟩) hp).trans hcp))
        · exact w_many1_add s l h t m k wd p uh uk ha hb hn hn2 (by simp; omega) _ _ _ _ _ _ _ _ _ w
            (fun W hW => cut_any s l h wd ul uh ha W (hm.own hW)) (fun W hW => cut_any t m k wd um uk hb W (hm.own hW))
            (fun W hW => add2_any _ _ _ _ _ _ wd p c1.1 c2.1 c1.2.2.1 c2.2.2.1 c1.2.2.2 c2.2.2.2 W (hm.own hW) (Nat.lt_of_lt_of_le hp hW.size) ((hW.cell (p := ⟨p, 0, none⟩) hp).trans hcp))
theorem worked_sub (s l h t m k : Nat) (wd : Int) (p : Nat) (ul : U l) (uh : U h) (um : U m) (uk : U k) (ha : Rt ⟨s, l, h⟩) (hb : Rt ⟨t, m, k⟩) (w : World) (hm : Mk w) (hp : p < w.heap.size) (hcp : w.cell? ⟨p, 0, none⟩ = some (.int .i64 wd)) :
    Calls Tryd.prog 34 #[sv s l h, sv t m k, .int .i64 wd, .func (.func 39) #[] #[], .func (.func 40) #[] #[.pointer (some ⟨p, 0, none⟩)]] w fun e w' => e = .returned (stv (subS (mN wd) ⟨s, l, h⟩ ⟨t, m, k⟩)) ∧ Below w.heap.size w w' := by
  unfold subS
  by_cases hn : (⟨s, l, h⟩ : St) = noneS
  · rw [if_pos (.inl hn)]; exact w_none1_sub s l h t m k wd p uh uk ha hb hn w
  · by_cases hn2 : (⟨t, m, k⟩ : St) = noneS
    · rw [if_pos (.inr hn2)]; exact w_none2_sub s l h t m k wd p uh uk ha hb hn hn2 w
    · rw [if_neg (fun e => e.elim hn hn2)]
      dsimp only
      by_cases g : l = h ∧ m = k
      · rw [if_pos g]
        exact w_ones_sub s l h t m k wd p uh uk ha hb hn hn2 (by simp [g.1]) (by simp [g.2]) _ _ (fun W => sub1_any l m um W) w
          (fun W hW => bcut_any _ (Nat.mod_lt _ (by decide)) wd W (hm.own hW))
      · rw [if_neg g]
        have c1 := cutS_U (wd := wd) (ha.ok hn)
        have c2 := cutS_U (wd := wd) (hb.ok hn2)
        by_cases g1 : l = h
        · exact w_many2_sub s l h t m k wd p uh uk ha hb hn hn2 (by simp [g1]) (by simp; omega) _ _ _ _ _ _ _ _ _ w
            (fun W hW => cut_any s l h wd ul uh ha W (hm.own hW)) (fun W hW => cut_any t m k wd um uk hb W (hm.own hW))
            (fun W hW => sub2_any _ _ _ _ _ _ wd p c1.1 c2.1 c1.2.2.1 c1.2.2.2 c2.2.2.2 W (hm.own hW) (Nat.lt_of_lt_of_le hp hW.size) ((hW.cell (p := ⟨p, 0, none⟩) hp).trans hcp))
        · exact w_many1_sub s l h t m k wd p uh uk ha hb hn hn2 (by simp; omega) _ _ _ _ _ _ _ _ _ w
            (fun W hW => cut_any s l h wd ul uh ha W (hm.own hW)) (fun W hW => cut_any t m k wd um uk hb W (hm.own hW))
            (fun W hW => sub2_any _ _ _ _ _ _ wd p c1.1 c2.1 c1.2.2.1 c1.2.2.2 c2.2.2.2 W (hm.own hW) (Nat.lt_of_lt_of_le hp hW.size) ((hW.cell (p := ⟨p, 0, none⟩) hp).trans hcp))
/-- One cell in a block of its own. -/
theorem cell_new1 (w : World) (v : Value) (t : Nat) : (w.alloc (.cells #[v] t)).cell? ⟨w.heap.size, 0, none⟩ = some v := by simp [go_sem]
set_option maxHeartbeats 2000000 in
theorem add_any (s l h t m k : Nat) (wd : Int) (ul : U l) (uh : U h) (um : U m) (uk : U k) (ha : Rt ⟨s, l, h⟩) (hb : Rt ⟨t, m, k⟩) (w : World) (hm : Mk w) :
    Calls Tryd.prog 18 #[sv s l h, sv t m k, .int .i64 wd] w fun e w' => e = .returned (stv (addS (mN wd) ⟨s, l, h⟩ ⟨t, m, k⟩)) ∧ Below w.heap.size w w' := by
  have hb0 : Below w.heap.size w ((((w.alloc (sb s l h)).alloc (sb t m k)).alloc (.cells #[.int .i64 wd] 3)).alloc z3) := ((((Below.refl _ _).alloc (Nat.le_refl _) _).alloc (by simp) _).alloc (by simp; omega) _).alloc (by simp; omega) _
  have k3 := Slot3.new (((w.alloc (sb s l h)).alloc (sb t m k)).alloc (.cells #[.int .i64 wd] 3)) (.int .u64 0) (.int .u64 0) (.int .u64 0) 24
  have kp := ((Below.refl ((((w.alloc (sb s l h)).alloc (sb t m k)).alloc (.cells #[.int .i64 wd] 3)).heap.size) _).alloc (Nat.le_refl _) z3).cell (p := ⟨w.heap.size + 1 + 1, 0, none⟩) (by simp)
  have kq := cell_new1 ((w.alloc (sb s l h)).alloc (sb t m k)) (.int .i64 wd) 3
  simp only [World.size_alloc] at k3 kq
  have HC := Lib.hid (worked_add s l h t m k wd (w.heap.size + 1 + 1) ul uh um uk ha hb _ (hm.own hb0) (by simp) (kp.trans kq))
  generalize addS (mN wd) ⟨s, l, h⟩ ⟨t, m, k⟩ = r at HC
  have K3 := Lib.hid k3
  have HB := Lib.hid hb0
  clear hb0 k3 kp kq ha hb hm ul uh um uk
  go_enter Tryd.func18, Tryd.ntmps18
  go_wp2_with fail
  go_at_call 34
  refine HC.out.mono ?_
  rintro e W' ⟨rfl, hb1⟩
  obtain ⟨a0, a1, a2, a3, a4, a5, a6⟩ := K3.out.keep hb1
  have hg := HB.out.trans (hb1.mono (by simp; omega))
  clear K3 HB HC hb1
  go_wp2_with fail
  refine bodyPost_ret (v := stv r) (by simp [results, Tryd.results18, go_sem, *]) rfl ⟨rfl, hg.trans ?_⟩
  go_grown
set_option maxHeartbeats 2000000 in
theorem sub_any (s l h t m k : Nat) (wd : Int) (ul : U l) (uh : U h) (um : U m) (uk : U k) (ha : Rt ⟨s, l, h⟩) (hb : Rt ⟨t, m, k⟩) (w : World) (hm : Mk w) :
    Calls Tryd.prog 19 #[sv s l h, sv t m k, .int .i64 wd] w fun e w' => e = .returned (stv (subS (mN wd) ⟨s, l, h⟩ ⟨t, m, k⟩)) ∧ Below w.heap.size w w' := by
  have hb0 : Below w.heap.size w ((((w.alloc (sb s l h)).alloc (sb t m k)).alloc (.cells #[.int .i64 wd] 3)).alloc z3) := ((((Below.refl _ _).alloc (Nat.le_refl _) _).alloc (by simp) _).alloc (by simp; omega) _).alloc (by simp; omega) _
  have k3 := Slot3.new (((w.alloc (sb s l h)).alloc (sb t m k)).alloc (.cells #[.int .i64 wd] 3)) (.int .u64 0) (.int .u64 0) (.int .u64 0) 24
  have kp := ((Below.refl ((((w.alloc (sb s l h)).alloc (sb t m k)).alloc (.cells #[.int .i64 wd] 3)).heap.size) _).alloc (Nat.le_refl _) z3).cell (p := ⟨w.heap.size + 1 + 1, 0, none⟩) (by simp)
  have kq := cell_new1 ((w.alloc (sb s l h)).alloc (sb t m k)) (.int .i64 wd) 3
  simp only [World.size_alloc] at k3 kq
  have HC := Lib.hid (worked_sub s l h t m k wd (w.heap.size + 1 + 1) ul uh um uk ha hb _ (hm.own hb0) (by simp) (kp.trans kq))
  generalize subS (mN wd) ⟨s, l, h⟩ ⟨t, m, k⟩ = r at HC
  have K3 := Lib.hid k3
  have HB := Lib.hid hb0
  clear hb0 k3 kp kq ha hb hm ul uh um uk
  go_enter Tryd.func19, Tryd.ntmps19
  go_wp2_with fail
  go_at_call 34
  refine HC.out.mono ?_
  rintro e W' ⟨rfl, hb1⟩
  obtain ⟨a0, a1, a2, a3, a4, a5, a6⟩ := K3.out.keep hb1
  have hg := HB.out.trans (hb1.mono (by simp; omega))
  clear K3 HB HC hb1
  go_wp2_with fail
  refine bodyPost_ret (v := stv r) (by simp [results, Tryd.results19, go_sem, *]) rfl ⟨rfl, hg.trans ?_⟩
  go_grown
end Go.Proofs.YtmlgaaolofgdiaaDoor
