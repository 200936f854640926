/- The document's own Put. -/
import Derived.Test.YtkpnafgmjcnniaaDoorPu
import Derived.Test.YtkpnafgmjcnniaaDoorSw
import Derived.Test.YtkpnafgmjcnniaaDoorRr
namespace Go.Proofs.YtkpnafgmjcnniaaDoor
open Go.RowKit
set_option linter.unusedVariables false
set_option linter.unusedSimpArgs false
set_option maxRecDepth 100000 in
theorem shown_0 (d : Int) (w : World) : Calls Tryd.prog 50 #[.int .i64 d, .int .i64 0] w fun e w' => e = .returned (.slice none 0 0) ∧ w = w' := by
  go_enter Tryd.func50, Tryd.ntmps50
  go_wp2_with fail
  go_loop [5, 6] (fun v i => v = .slice none 0 0 ∧ i = .int .i64 0) (fun _ i => 0)
  case atStart => exact ⟨rfl, rfl⟩
  case round =>
    obtain ⟨rfl, rfl⟩ := hrel
    go_wp2_with fail
    go_ret
    exact ⟨rfl, rfl⟩
theorem shown_s (d : Int) (n : Nat) (h0 : 0 < n) (hn : n ≤ 8) (w : World) :
    Calls Tryd.prog 50 #[.int .i64 d, .int .i64 n] w fun e w' => ∃ g cap, e = .returned (.slice (some ⟨g, 0, none⟩) n cap) ∧ (∀ j, j < n → w'.cell? ⟨g, j, none⟩ = some (.int .u8 (dF d j))) ∧ Below w.heap.size w w' := by
  refine (shown_any d n hn w).mono ?_
  rintro e w' ⟨v, rfl, ho, hb⟩
  rcases ho.2 with ⟨_, h⟩ | ⟨g, cap, cur, rfl, _⟩
  · omega
  · refine ⟨g, cap, rfl, fun j hj => ?_, hb⟩
    have := ho.cellAt j (by omega)
    rw [this]
    simp only [byL, List.getElem?_map, List.getElem?_range hj, Option.map_some]
set_option maxRecDepth 100000 in
theorem rput_lo (reg k r b i s d : Int) (p : Bool) (m : Int) (w : World) (h : reg < 0) :
    Calls Tryd.prog 16 #[.int .i64 reg, ov k r b i s d p m] w fun e w' => e = .returned (.tuple #[.slice none 0 0, .int .u8 0, .int .i64 2]) ∧ Below w.heap.size w w' := by
  go_enter Tryd.func16, Tryd.ntmps16
  go_wp2
  go_returns
  exact ⟨rfl, by go_grown⟩
set_option maxRecDepth 100000 in
theorem rput_hi (reg k r b i s d : Int) (p : Bool) (m : Int) (w : World) (h : 15 < reg) :
    Calls Tryd.prog 16 #[.int .i64 reg, ov k r b i s d p m] w fun e w' => e = .returned (.tuple #[.slice none 0 0, .int .u8 0, .int .i64 2]) ∧ Below w.heap.size w w' := by
  go_enter Tryd.func16, Tryd.ntmps16
  go_wp2
  go_returns
  exact ⟨rfl, by go_grown⟩
set_option maxRecDepth 100000 in
theorem rput_no (reg k r b i s d : Int) (p : Bool) (m : Int) (w : World) (h0 : 0 ≤ reg) (h1 : reg ≤ 15) (h : rrB k r b i s d p m = false) :
    Calls Tryd.prog 16 #[.int .i64 reg, ov k r b i s d p m] w fun e w' => e = .returned (.tuple #[.slice none 0 0, .int .u8 0, .int .i64 2]) ∧ Below w.heap.size w w' := by
  have HR : Hid (∀ W, Calls Tryd.prog 19 #[ov k r b i s d p m] W fun e w' => e = .returned (.bool false) ∧ Below W.heap.size W w') := Lib.hid (fun W => by rw [← h]; exact rright_any k r b i s d p m W)
  have HB := Lib.hid ((Below.refl w.heap.size w).alloc (Nat.le_refl _) (ob k r b i s d p m))
  clear h
  go_enter Tryd.func16, Tryd.ntmps16
  go_wp2_with (go_at_call 19; (with_reducible refine (HR.out _).mono ?_); rintro e w1 ⟨rfl, hb1⟩)
  go_returns
  exact ⟨rfl, HB.out.trans (hb1.mono HB.out.size)⟩
set_option maxRecDepth 100000 in
set_option maxHeartbeats 2000000 in
theorem rput_reg (reg r q7 q8 r7 r8 : Int) (w : World) (hr : rrB 1 r (-1) (-1) 0 0 false 0 = true) (h0 : 0 ≤ reg) (h1 : reg ≤ 15) (e7 : bits .and .i64 reg 7 = q7) (e8 : reg / 8 = q8) (b0 : 0 ≤ q7) (b1 : q7 ≤ 7) (b2 : 0 ≤ q8) (b3 : q8 ≤ 1) (g0 : 0 ≤ r) (g1 : r ≤ 15) (d7 : bits .and .i64 r 7 = r7) (d8 : r / 8 = r8) (b4 : 0 ≤ r7) (b5 : r7 ≤ 7) (b6 : 0 ≤ r8) (b7 : r8 ≤ 1) :
    Calls Tryd.prog 16 #[.int .i64 reg, ov 1 r (-1) (-1) 0 0 false 0] w fun e w' => PutR w 1 (fun _ => bits .or .u8 (bits .or .u8 192 (q7 * 8)) r7) (bits .or .u8 (q8 * 4) r8) e w' := by
  have HR : Hid (∀ W, Calls Tryd.prog 19 #[ov 1 r (-1) (-1) 0 0 false 0] W fun e w' => e = .returned (.bool true) ∧ Below W.heap.size W w') := Lib.hid (fun W => (rright_any 1 r (-1) (-1) 0 0 false 0 W).mono fun e w' h => by rw [hr] at h; exact h)
  have HS := Lib.hid (OS.new w 1 r (-1) (-1) 0 0 false 0)
  clear hr
  go_enter Tryd.func16, Tryd.ntmps16
  go_upto_region 1 with fail
  generalize World.alloc _ _ = W0 at *
  obtain ⟨c0, c1, c2, c3, c4, c5, c6, c7⟩ := HS.out.1.c
  go_wp2_with (go_at_call 19; (with_reducible refine (HR.out _).mono ?_); rintro e w1 ⟨rfl, hb1⟩; have HK := Lib.hid (HS.out.keep hb1); clear hb1 c0 c1 c2 c3 c4 c5 c6 c7; obtain ⟨c0, c1, c2, c3, c4, c5, c6, c7⟩ := HK.out.1.c)
  have hlt := HK.out.1.lt
  go_region
  go_wp2
  go_returns
  exact ⟨_, rfl, SL.new w1 _, (HK.out.2.alloc HK.out.2.size _).drew⟩
theorem head_lies {w1 w2 : World} {cs : Array Value} {n : Nat} {f : Nat → Int} (hcs : cs.toList = byL f n) (hb : Below (w1.alloc (.cells cs 5)).heap.size (w1.alloc (.cells cs 5)) w2) :
    ∀ c, some (⟨w1.heap.size, 0, none⟩ : Addr) = some c → ∀ j u, (byL f n)[j]? = some u → w2.cell? (c.add j) = some u := fun c hc j u hj => by
  cases hc
  rw [Addr.add_lit, Nat.zero_add]
  refine (hb.cell (p := ⟨w1.heap.size, j, none⟩) (by simp)).trans ?_
  rw [World.cell?_alloc_new]
  have e : cs[j]? = (byL f n)[j]? := by rw [← hcs]; simp
  simpa using e.trans hj
theorem tail_lies {w2 : World} {g n : Nat} {f : Nat → Int} (hc : ∀ j, j < n → w2.cell? ⟨g, j, none⟩ = some (.int .u8 (f j))) :
    ∀ j u, (byL f n)[j]? = some u → w2.cell? ((⟨g, 0, none⟩ : Addr).add j) = some u := fun j u hj => by
  obtain ⟨h8, rfl⟩ := byL_at hj
  rw [Addr.add_lit, Nat.zero_add]
  exact hc j h8
theorem put_end {w w1 w2 w' : World} {cs : Array Value} {n wd : Nat} {f : Nat → Int} {d : Int} {v' : Value} (hw : 0 < wd) (hK : Below w.heap.size w w1) (hB2 : Below (w1.alloc (.cells cs 5)).heap.size (w1.alloc (.cells cs 5)) w2)
    (hown : w'.ownsRow w2.heap.size 5 1 v' (n + wd) (byL f n ++ byL (dF d) wd)) (hgr : w2.grownBy w' none) : SL w' v' (n + wd) (catF n f (dF d)) ∧ Below w.heap.size w w' := by
  have hb1 := hK.alloc hK.size (.cells cs 5)
  have hb2 := hb1.trans (hB2.mono (by have := hb1.size; simp at this ⊢; omega))
  refine ⟨?_, hb2.trans (((Below.refl w2.heap.size w2).grown hgr (Nat.le_refl _) (fun k e => by cases e)).mono hb2.size)⟩
  rcases hown.2 with ⟨_, h⟩ | ⟨g, cap, cur, h, h2, h3, h4, _⟩
  · omega
  · subst h
    exact ⟨g, cap, rfl, h4, fun j hj => by
      have hj' : j < n + wd := hj
      exact (hown.cellAt j (by omega)).trans (byL_both _ _ n wd j hj')⟩
theorem put_end0 {w w1 : World} {cs : Array Value} {n : Nat} {f : Nat → Int} {d : Int} (hcs : cs.toList = byL f n) (hK : Below w.heap.size w w1) : SL (w1.alloc (.cells cs 5)) (.slice (some ⟨w1.heap.size, 0, none⟩) n n) (n + 0) (catF n f (dF d)) ∧ Below w.heap.size w (w1.alloc (.cells cs 5)) := by
  refine ⟨⟨_, n, rfl, by omega, fun j hj => ?_⟩, hK.alloc hK.size _⟩
  rw [World.cell?_alloc_new]
  have e : cs[j]? = (byL f n)[j]? := by rw [← hcs]; simp
  have e2 : (byL f n)[j]? = some (.int .u8 (f j)) := by simp only [byL, List.getElem?_map, List.getElem?_range (show j < n from hj), Option.map_some]
  unfold catF
  rw [if_pos (by omega)]
  simpa using e.trans e2
end Go.Proofs.YtkpnafgmjcnniaaDoor
