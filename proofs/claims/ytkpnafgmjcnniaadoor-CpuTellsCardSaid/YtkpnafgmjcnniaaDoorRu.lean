/- The document's own Uses. -/
import Derived.Test.YtkpnafgmjcnniaaDoorUs
import Derived.Test.YtkpnafgmjcnniaaDoorRr
import Derived.Laws.AppendOwn
import Derived.Laws.AppendOwnNone
namespace Go.Proofs.YtkpnafgmjcnniaaDoor
open Go.RowKit Go.Shelf
set_option linter.unusedVariables false
set_option linter.unusedSimpArgs false
theorem ruS {w W w1 : World} {k r b i s d : Int} {p : Bool} {m : Int} {v x : Value} {n : Nat} {xs : List Value} (hS : OS w w.heap.size k r b i s d p m W) (hr : W.ownsRow (w.heap.size + 1) 3 1 v n xs) (hgr : (W.alloc (.cells #[x] 3)).grownBy w1 v.ownBlock) :
    OS w w.heap.size k r b i s d p m w1 := by
  have hl : w.heap.size + 1 ≤ W.heap.size := hS.1.lt
  have h1 : Below (w.heap.size + 1) (W.alloc (.cells #[x] 3)) w1 := (Below.refl _ _).grown hgr (by simp; omega) (fun q e => by
    rcases hr.2 with ⟨h, _⟩ | ⟨g', cap', cur, h, hle, _⟩
    · rw [h] at e; cases e
    · rw [h] at e; cases e; exact hle)
  have h2 : Below (w.heap.size + 1) W w1 := ((Below.refl _ _).alloc hl _).trans h1
  exact ⟨(h2.block _ (by omega)).trans hS.1, hS.2.trans (h2.mono (by omega))⟩
def RU (w : World) (k b i : Int) (e : Ending) (w' : World) : Prop := (∃ v, e = .returned v ∧ w'.ownsRow (w.heap.size + 1) 3 1 v (partL k b i).length ((partL k b i).map (Value.int .i64))) ∧ Below w.heap.size w w'
set_option maxRecDepth 100000 in
set_option maxHeartbeats 2000000 in
theorem ru_x (k r b i s d : Int) (p : Bool) (m : Int) (w : World) (hk : (k != 2) = true) :
    Calls Tryd.prog 22 #[ov k r b i s d p m] w fun e w' => (∃ v, e = .returned v ∧ w'.ownsRow (w.heap.size + 1) 3 1 v 0 []) ∧ Below w.heap.size w w' := by
  have HS0 := Lib.hid (OS.new w k r b i s d p m)
  obtain ⟨ii, i1, i2, i3, i4⟩ := info3a
  have HI := Lib.hid (And.intro i1 (And.intro i2 (And.intro i3 i4)))
  clear i1 i2 i3 i4
  go_enter Tryd.func22, Tryd.ntmps22
  go_upto_region 1 with fail
  generalize World.alloc _ _ = W0 at *
  have HR0 : Hid (W0.ownsRow (w.heap.size + 1) 3 1 (.slice none 0 0) 0 []) := Lib.hid ⟨rfl, .inl ⟨rfl, rfl⟩⟩
  obtain ⟨c0, c1, c2, c3, c4, c5, c6, c7⟩ := HS0.out.1.c
  go_wp2_with fail
  go_ret
  exact ⟨⟨_, rfl, HR0.out⟩, HS0.out.2⟩
set_option maxRecDepth 100000 in
set_option maxHeartbeats 2000000 in
theorem ru_0 (k r b i s d : Int) (p : Bool) (m : Int) (w : World) (hb : b < 0) (hi : i < 0) :
    Calls Tryd.prog 22 #[ov 2 r b i s d p m] w fun e w' => (∃ v, e = .returned v ∧ w'.ownsRow (w.heap.size + 1) 3 1 v 0 []) ∧ Below w.heap.size w w' := by
  have HS0 := Lib.hid (OS.new w 2 r b i s d p m)
  obtain ⟨ii, i1, i2, i3, i4⟩ := info3a
  have HI := Lib.hid (And.intro i1 (And.intro i2 (And.intro i3 i4)))
  clear i1 i2 i3 i4
  go_enter Tryd.func22, Tryd.ntmps22
  go_upto_region 1 with fail
  generalize World.alloc _ _ = W0 at *
  have HR0 : Hid (W0.ownsRow (w.heap.size + 1) 3 1 (.slice none 0 0) 0 []) := Lib.hid ⟨rfl, .inl ⟨rfl, rfl⟩⟩
  obtain ⟨c0, c1, c2, c3, c4, c5, c6, c7⟩ := HS0.out.1.c
  go_wp2_with fail
  go_ret
  exact ⟨⟨_, rfl, HR0.out⟩, HS0.out.2⟩
set_option maxRecDepth 100000 in
set_option maxHeartbeats 2000000 in
theorem ru_b (k r b i s d : Int) (p : Bool) (m : Int) (w : World) (hb : 0 ≤ b) (hi : i < 0) :
    Calls Tryd.prog 22 #[ov 2 r b i s d p m] w fun e w' => (∃ v, e = .returned v ∧ w'.ownsRow (w.heap.size + 1) 3 1 v 1 [.int .i64 b]) ∧ Below w.heap.size w w' := by
  have HS0 := Lib.hid (OS.new w 2 r b i s d p m)
  obtain ⟨ii, i1, i2, i3, i4⟩ := info3a
  have HI := Lib.hid (And.intro i1 (And.intro i2 (And.intro i3 i4)))
  clear i1 i2 i3 i4
  go_enter Tryd.func22, Tryd.ntmps22
  go_upto_region 1 with fail
  generalize World.alloc _ _ = W0 at *
  have HR0 : Hid (W0.ownsRow (w.heap.size + 1) 3 1 (.slice none 0 0) 0 []) := Lib.hid ⟨rfl, .inl ⟨rfl, rfl⟩⟩
  obtain ⟨c0, c1, c2, c3, c4, c5, c6, c7⟩ := HS0.out.1.c
  go_wp2_with (at_builtin; refine wpList_append_own _ rfl _ _ 34 rfl (w.heap.size + 1) 3 ii (.int .i64 0) 1 8 Tryd.underlying34 HI.out.1 HI.out.2.1 HI.out.2.2.1 HI.out.2.2.2 rfl (by decide) (.slice none 0 0) 0 [] rfl (HR0.out.alloc _) ⟨W0.heap.size, 0, none⟩ 1 1 [.int .i64 b] rfl rfl (cell_one_new _ _ _) (fun u hu => by simp at hu; subst hu; rfl) (by unfold maxLen; omega) (by omega) (by have := HS0.out.1.lt; simp; omega) ?_)
  intro v1 W1 hown hgr _
  have HS1 := Lib.hid (ruS HS0.out HR0.out hgr)
  have HR1 := Lib.hid (show World.ownsRow W1 (w.heap.size + 1) 3 1 v1 1 ([] ++ [.int .i64 b]) from hown)
  clear hown hgr c0 c1 c2 c3 c4 c5 c6 c7
  obtain ⟨c0, c1, c2, c3, c4, c5, c6, c7⟩ := HS1.out.1.c
  obtain ⟨g1, q1, rfl⟩ := ownsRow_succ HR1.out
  go_wp2_with fail
  go_ret
  exact ⟨⟨_, rfl, HR1.out⟩, HS1.out.2⟩
set_option maxRecDepth 100000 in
set_option maxHeartbeats 2000000 in
theorem ru_i (k r b i s d : Int) (p : Bool) (m : Int) (w : World) (hb : b < 0) (hi : 0 ≤ i) :
    Calls Tryd.prog 22 #[ov 2 r b i s d p m] w fun e w' => (∃ v, e = .returned v ∧ w'.ownsRow (w.heap.size + 1) 3 1 v 1 [.int .i64 i]) ∧ Below w.heap.size w w' := by
  have HS0 := Lib.hid (OS.new w 2 r b i s d p m)
  obtain ⟨ii, i1, i2, i3, i4⟩ := info3a
  have HI := Lib.hid (And.intro i1 (And.intro i2 (And.intro i3 i4)))
  clear i1 i2 i3 i4
  go_enter Tryd.func22, Tryd.ntmps22
  go_upto_region 1 with fail
  generalize World.alloc _ _ = W0 at *
  have HR0 : Hid (W0.ownsRow (w.heap.size + 1) 3 1 (.slice none 0 0) 0 []) := Lib.hid ⟨rfl, .inl ⟨rfl, rfl⟩⟩
  obtain ⟨c0, c1, c2, c3, c4, c5, c6, c7⟩ := HS0.out.1.c
  go_wp2_with (at_builtin; refine wpList_append_own _ rfl _ _ 34 rfl (w.heap.size + 1) 3 ii (.int .i64 0) 1 8 Tryd.underlying34 HI.out.1 HI.out.2.1 HI.out.2.2.1 HI.out.2.2.2 rfl (by decide) (.slice none 0 0) 0 [] rfl (HR0.out.alloc _) ⟨W0.heap.size, 0, none⟩ 1 1 [.int .i64 i] rfl rfl (cell_one_new _ _ _) (fun u hu => by simp at hu; subst hu; rfl) (by unfold maxLen; omega) (by omega) (by have := HS0.out.1.lt; simp; omega) ?_)
  intro v1 W1 hown hgr _
  have HS1 := Lib.hid (ruS HS0.out HR0.out hgr)
  have HR1 := Lib.hid (show World.ownsRow W1 (w.heap.size + 1) 3 1 v1 1 ([] ++ [.int .i64 i]) from hown)
  clear hown hgr c0 c1 c2 c3 c4 c5 c6 c7
  obtain ⟨c0, c1, c2, c3, c4, c5, c6, c7⟩ := HS1.out.1.c
  obtain ⟨g1, q1, rfl⟩ := ownsRow_succ HR1.out
  go_wp2_with fail
  go_ret
  exact ⟨⟨_, rfl, HR1.out⟩, HS1.out.2⟩
set_option maxRecDepth 100000 in
set_option maxHeartbeats 2000000 in
theorem ru_bi (k r b i s d : Int) (p : Bool) (m : Int) (w : World) (hb : 0 ≤ b) (hi : 0 ≤ i) :
    Calls Tryd.prog 22 #[ov 2 r b i s d p m] w fun e w' => (∃ v, e = .returned v ∧ w'.ownsRow (w.heap.size + 1) 3 1 v 2 [.int .i64 b, .int .i64 i]) ∧ Below w.heap.size w w' := by
  have HS0 := Lib.hid (OS.new w 2 r b i s d p m)
  obtain ⟨ii, i1, i2, i3, i4⟩ := info3a
  have HI := Lib.hid (And.intro i1 (And.intro i2 (And.intro i3 i4)))
  clear i1 i2 i3 i4
  go_enter Tryd.func22, Tryd.ntmps22
  go_upto_region 1 with fail
  generalize World.alloc _ _ = W0 at *
  have HR0 : Hid (W0.ownsRow (w.heap.size + 1) 3 1 (.slice none 0 0) 0 []) := Lib.hid ⟨rfl, .inl ⟨rfl, rfl⟩⟩
  obtain ⟨c0, c1, c2, c3, c4, c5, c6, c7⟩ := HS0.out.1.c
  go_wp2_with (at_builtin; refine wpList_append_own _ rfl _ _ 34 rfl (w.heap.size + 1) 3 ii (.int .i64 0) 1 8 Tryd.underlying34 HI.out.1 HI.out.2.1 HI.out.2.2.1 HI.out.2.2.2 rfl (by decide) (.slice none 0 0) 0 [] rfl (HR0.out.alloc _) ⟨W0.heap.size, 0, none⟩ 1 1 [.int .i64 b] rfl rfl (cell_one_new _ _ _) (fun u hu => by simp at hu; subst hu; rfl) (by unfold maxLen; omega) (by omega) (by have := HS0.out.1.lt; simp; omega) ?_)
  intro v1 W1 hown hgr _
  have HS1 := Lib.hid (ruS HS0.out HR0.out hgr)
  have HR1 := Lib.hid (show World.ownsRow W1 (w.heap.size + 1) 3 1 v1 1 ([] ++ [.int .i64 b]) from hown)
  clear hown hgr c0 c1 c2 c3 c4 c5 c6 c7
  obtain ⟨c0, c1, c2, c3, c4, c5, c6, c7⟩ := HS1.out.1.c
  obtain ⟨g1, q1, rfl⟩ := ownsRow_succ HR1.out
  go_wp2_with (at_builtin; refine wpList_append_own _ rfl _ _ 34 rfl (w.heap.size + 1) 3 ii (.int .i64 0) 1 8 Tryd.underlying34 HI.out.1 HI.out.2.1 HI.out.2.2.1 HI.out.2.2.2 rfl (by decide) (.slice (some ⟨g1, 0, none⟩) 1 q1) 1 [.int .i64 b] rfl (HR1.out.alloc _) ⟨W1.heap.size, 0, none⟩ 1 1 [.int .i64 i] rfl rfl (cell_one_new _ _ _) (fun u hu => by simp at hu; subst hu; rfl) (by unfold maxLen; omega) (by omega) (by have := HS1.out.1.lt; simp; omega) ?_)
  intro v2 W2 hown hgr _
  have HS2 := Lib.hid (ruS HS1.out HR1.out hgr)
  have HR2 := Lib.hid (show World.ownsRow W2 (w.heap.size + 1) 3 1 v2 2 ([.int .i64 b] ++ [.int .i64 i]) from hown)
  clear hown hgr c0 c1 c2 c3 c4 c5 c6 c7
  obtain ⟨c0, c1, c2, c3, c4, c5, c6, c7⟩ := HS2.out.1.c
  obtain ⟨g2, q2, rfl⟩ := ownsRow_succ HR2.out
  go_wp2_with fail
  go_ret
  exact ⟨⟨_, rfl, HR2.out⟩, HS2.out.2⟩
theorem ruses_any (k r b i s d : Int) (p : Bool) (m : Int) (w : World) : Calls Tryd.prog 22 #[ov k r b i s d p m] w (RU w k b i) := by
  unfold RU partL
  by_cases hk : k = 2
  · subst hk
    rw [if_pos rfl]
    by_cases h1 : 0 ≤ b
    · by_cases h2 : 0 ≤ i
      · rw [if_pos h1, if_pos h2]; exact ru_bi 2 r b i s d p m w h1 h2
      · rw [if_pos h1, if_neg h2]; exact ru_b 2 r b i s d p m w h1 (by omega)
    · by_cases h2 : 0 ≤ i
      · rw [if_neg h1, if_pos h2]; exact ru_i 2 r b i s d p m w (by omega) h2
      · rw [if_neg h1, if_neg h2]; exact ru_0 2 r b i s d p m w (by omega) (by omega)
  · rw [if_neg hk]; exact ru_x k r b i s d p m w (by simpa using hk)
end Go.Proofs.YtkpnafgmjcnniaaDoor
