/- shortest, Put's function. -/
import Derived.Test.YtkpnafgmjcnniaaDoorSm
import Derived.IntWalk
namespace Go.Proofs.YtkpnafgmjcnniaaDoor
open Go.RowKit
set_option linter.unusedVariables false
set_option linter.unusedSimpArgs false
def shM (bl d : Int) : Int := if d = 0 ∧ bl ≠ 5 then 0 else if fB d 1 then 1 else 2
def shW (bl d : Int) : Int := if d = 0 ∧ bl ≠ 5 then 0 else if fB d 1 then 1 else 4
theorem short_any (b d bl : Int) (w : World) (hm : Mk w) (hb : bits .and .i64 b 7 = bl) :
    Calls Tryd.prog 48 #[.int .i64 b, .int .i64 d] w fun e w' => e = .returned (.tuple #[.int .u8 (shM bl d), .int .i64 (shW bl d)]) ∧ w = w' := by
  have hm := Lib.hid hm
  go_enter Tryd.func48, Tryd.ntmps48
  go_wp2_with (go_at_call 51; (with_reducible refine (fits_any _ _ _ hm.out).mono ?_); rintro e w1 ⟨rfl, rfl⟩)
  all_goals
    go_returns
    refine ⟨?_, rfl⟩
  all_goals
    try simp only [beq_iff_eq, beq_eq_false_iff_ne, ne_eq, bne_iff_ne, bne_eq_false_iff_eq] at *
    simp [shM, shW, *]
/-- head, and the displacement's bytes. -/
theorem puts_no (q : Nat) (v : Value) (w : World) :
    Calls Tryd.prog 46 #[.int .i64 0, v, .pointer (some ⟨q, 0, none⟩)] w fun e w' => e = .returned v ∧ w = w' := by
  go_enter Tryd.func46, Tryd.ntmps46
  go_wp2
  go_returns
  exact ⟨rfl, rfl⟩
theorem bytes_any (a wd : Nat) (hwd : hN (wd : Int) = wd) (w : World) :
    Calls Tryd.prog 47 #[.int .u64 a, .int .i64 wd] w fun e W' => e = .returned (.slice (some ⟨w.heap.size, 0, none⟩) wd wd) ∧ (∀ j, j < wd → W'.cell? ⟨w.heap.size, j, none⟩ = some (.int .u8 (byN a j : Nat))) ∧ Below w.heap.size w W' ∧ w.heap.size < W'.heap.size := by
  have hb := hN_bd (wd : Int)
  have h0 := callsIn_wide.1 (bytes_in Fence.wide 3 trivial trivial trivial trivial rfl (Nat.le_refl _) a wd w)
  rw [hwd] at h0 hb
  exact h0.mono fun e W' ⟨h1, h2, h3⟩ => ⟨h1, h2, h3, by
    have := h2 0 (by omega)
    by_cases hh : w.heap.size < W'.heap.size
    · exact hh
    · exfalso
      have h0 : W'.heap[w.heap.size]? = none := Array.getElem?_eq_none (by omega)
      simp [World.cell?, h0] at this⟩
def byL (f : Nat → Int) (n : Nat) : List Value := (List.range n).map fun j => .int .u8 (f j)
theorem byL_len (f : Nat → Int) (n : Nat) : (byL f n).length = n := by simp [byL]
theorem byL_at {f : Nat → Int} {n j : Nat} {v : Value} (h : (byL f n)[j]? = some v) : j < n ∧ v = .int .u8 (f j) := by
  have hj : j < n := by
    have := (List.getElem?_eq_some_iff.1 h).1
    simpa [byL] using this
  refine ⟨hj, ?_⟩
  simp only [byL, List.getElem?_map, List.getElem?_range hj, Option.map_some, Option.some.injEq] at h
  exact h.symm
/-- n bytes, and others behind them. -/
def catF (n : Nat) (f g : Nat → Int) (j : Nat) : Int := if j < n then f j else g (j - n)
theorem byL_both (f g : Nat → Int) (n m j : Nat) (hj : j < n + m) : (byL f n ++ byL g m)[j]? = some (.int .u8 (catF n f g j)) := by
  unfold catF
  by_cases h : j < n
  · rw [List.getElem?_append_left (by simp [byL]; exact h), if_pos h]
    simp only [byL, List.getElem?_map, List.getElem?_range h, Option.map_some]
  · rw [List.getElem?_append_right (by simp [byL]; omega), if_neg h]
    have h2 : j - (byL f n).length < m := by simp [byL]; omega
    have h3 : j - (byL f n).length = j - n := by simp [byL]
    rw [h3] at h2 ⊢
    simp only [byL, List.getElem?_map, List.getElem?_range h2, Option.map_some]
theorem byL_one (f : Nat → Int) (n : Nat) : ∀ u ∈ byL f n, u.oneCell' = true := fun u hu => by
  simp only [byL, List.mem_map] at hu
  obtain ⟨q, _, rfl⟩ := hu
  rfl
theorem info5a : ∃ i, Tryd.prog.info? 5 = some i ∧ i.zero = some (.int .u8 0) ∧ i.size = 1 ∧ i.bytes = 1 := by
  have := info5
  cases h : Tryd.prog.info? 5 with
  | none => rw [h] at this; cases this
  | some i => rw [h] at this; simp at this; exact ⟨i, rfl, this.1, this.2.1, this.2.2⟩
/-- A slice of these bytes. -/
def SL (W : World) (v : Value) (n : Nat) (f : Nat → Int) : Prop := ∃ g cap, v = .slice (some ⟨g, 0, none⟩) n cap ∧ n ≤ cap ∧ ∀ j, j < n → W.cell? ⟨g, j, none⟩ = some (.int .u8 (f j))
/-- A slice of these bytes, for every further use. -/
def SLe (w : World) (n : Nat) (f : Nat → Int) (e : Ending) (W : World) : Prop := ∃ v, e = .returned v ∧ SL W v n f ∧ Below w.heap.size w W
set_option maxRecDepth 100000 in
set_option maxHeartbeats 1000000 in
theorem puts_core (q b n cap : Nat) (f : Nat → Int) (wd : Nat) (k r bb i s d : Int) (p : Bool) (m : Int) (w : World) (ho : O8 w q k r bb i s d p m) (hwd : hN (wd : Int) = wd) (hwz : ((wd : Int) == 0) = false) (hw8 : 0 < wd ∧ wd ≤ 8) (hn : n ≤ 1000) (hcap : cap < n + wd) (hf : ∀ j, j < n → w.cell? ⟨b, j, none⟩ = some (.int .u8 (f j))) (hbl : b < w.heap.size) :
    Calls Tryd.prog 46 #[.int .i64 wd, .slice (some ⟨b, 0, none⟩) n cap, .pointer (some ⟨q, 0, none⟩)] w fun e w' => SLe w (n + wd) (catF n f (fun j => (byN (uN d) j : Nat))) e w' := by
  obtain ⟨c0, c1, c2, c3, c4, c5, c6, c7⟩ := ho.c
  have hu := uN_val d
  have HF := Lib.hid hf
  have HW := Lib.hid hwd
  have HC := Lib.hid hcap
  have HW8 := Lib.hid hw8
  clear hf hwd c0 c1 c2 c3 c4 c6 c7 hcap hw8
  go_enter Tryd.func46, Tryd.ntmps46
  go_wp2_with fail
  go_at_call 47
  refine (bytes_any (uN d) wd HW.out _).mono ?_
  rintro e w1 ⟨rfl, hc1, hb1, hs1⟩
  obtain ⟨i, i1, i2, i3, i4⟩ := info5a
  have hL : ∀ c, (some (⟨b, 0, none⟩ : Addr)) = some c → ∀ j u, (byL f n)[j]? = some u → w1.cell? (c.add j) = some u := fun c hc j u hj => by
    cases hc
    obtain ⟨h8, rfl⟩ := byL_at hj
    rw [Addr.add_lit, Nat.zero_add]
    exact (hb1.cell (p := ⟨b, j, none⟩) hbl).trans (HF.out j h8)
  have hR : ∀ j u, (byL (fun j => (byN (uN d) j : Nat)) wd)[j]? = some u → w1.cell? ((⟨w.heap.size, 0, none⟩ : Addr).add j) = some u := fun j u hj => by
    obtain ⟨h8, rfl⟩ := byL_at hj
    rw [Addr.add_lit, Nat.zero_add]
    exact hc1 j h8
  have HL := Lib.hid hL
  have HR := Lib.hid hR
  have HI := Lib.hid (And.intro i1 (And.intro i2 (And.intro i3 i4)))
  have HB := Lib.hid hb1
  clear hL hR i1 i2 i3 i4 hc1 hb1 c5 ho
  go_wp2_with (at_builtin; refine wpList_append_grows w1 rfl _ _ 24 rfl 5 i (.int .u8 0) 1 1 Tryd.underlying24 HI.out.1 HI.out.2.1 HI.out.2.2.1 HI.out.2.2.2 rfl (by decide) (some ⟨b, 0, none⟩) n cap (byL f n) rfl (fun h => by cases h) (by simp [byL]) HL.out ⟨w.heap.size, 0, none⟩ wd wd (byL (fun j => (byN (uN d) j : Nat)) wd) rfl (by simp [byL]) HR.out (byL_one _ _) HC.out (by unfold maxLen; have := HW8.out; omega) (by have := HW8.out; omega) ?_)
  intro v' w' hown hgr
  obtain ⟨g, cap2, hv, hcp⟩ : ∃ g cap, v' = .slice (some ⟨g, 0, none⟩) (n + wd) cap ∧ n + wd ≤ cap := by
    rcases hown.2 with ⟨_, h⟩ | ⟨g, cap, cur, h, h2, _⟩
    · exact absurd h (by have := HW8.out; omega)
    · exact ⟨g, cap, h, by first | exact h2 | omega⟩
  subst hv
  have hcell : ∀ j, j < n + wd → w'.cell? ⟨g, j, none⟩ = some (.int .u8 (catF n f (fun j => (byN (uN d) j : Nat)) j)) := fun j hj => (hown.cellAt j (by omega)).trans (byL_both _ _ n wd j hj)
  have MB := Lib.hid (HB.out.trans (((Below.refl w1.heap.size w1).grown hgr (Nat.le_refl _) (fun k e => by cases e)).mono HB.out.size))
  have HCE := Lib.hid hcell
  clear hcell hown hgr HL HR HI
  go_wp2_with fail
  go_returns
  exact ⟨_, rfl, ⟨g, cap2, rfl, hcp, HCE.out⟩, MB.out⟩
def dF (d : Int) (j : Nat) : Int := ((byN (uN d) j : Nat) : Int)
theorem wd_cases {wd : Nat} (h : wd = 1 ∨ wd = 4) : hN (wd : Int) = wd ∧ ((wd : Int) == 0) = false ∧ 0 < wd ∧ wd ≤ 8 := by
  rcases h with rfl | rfl <;> exact ⟨by decide, by decide, by decide, by decide⟩
theorem puts_head (q n : Nat) (f : Nat → Int) (cs : Array Value) (hcs : cs.toList = byL f n) (wd : Nat) (hwd : wd = 0 ∨ wd = 1 ∨ wd = 4) (k r bb i s d : Int) (p : Bool) (m : Int) (w : World) (ho : O8 w q k r bb i s d p m) (hn : n ≤ 1000) :
    Calls Tryd.prog 46 #[.int .i64 wd, .slice (some ⟨w.heap.size, 0, none⟩) n n, .pointer (some ⟨q, 0, none⟩)] (w.alloc (.cells cs 5)) fun e w' => SLe w (n + wd) (catF n f (dF d)) e w' := by
  have hB : Below w.heap.size w (w.alloc (.cells cs 5)) := (Below.refl _ _).alloc (Nat.le_refl _) _
  have hc : ∀ j, j < n → (w.alloc (.cells cs 5)).cell? ⟨w.heap.size, j, none⟩ = some (.int .u8 (f j)) := fun j hj => by
    rw [World.cell?_alloc_new]
    have e : cs[j]? = (byL f n)[j]? := by rw [← hcs]; simp
    have e2 : (byL f n)[j]? = some (.int .u8 (f j)) := by simp only [byL, List.getElem?_map, List.getElem?_range hj, Option.map_some]
    simpa using e.trans e2
  rcases hwd with rfl | h
  · refine (puts_no q _ _).mono ?_
    rintro e w' ⟨rfl, rfl⟩
    refine ⟨_, rfl, ⟨_, n, rfl, by omega, fun j hj => ?_⟩, hB⟩
    rw [hc j (by omega)]
    unfold catF
    rw [if_pos (by omega)]
  · obtain ⟨h1, h2, h3⟩ := wd_cases h
    refine (puts_core q w.heap.size n n f wd k r bb i s d p m (w.alloc (.cells cs 5)) (ho.keep hB) h1 h2 h3 hn (by omega) hc (by simp)).mono ?_
    rintro e w' ⟨v, rfl, hv, hb⟩
    exact ⟨v, rfl, hv, hB.trans (hb.mono hB.size)⟩
theorem puts_one (q : Nat) (x : Int) (wd : Nat) (hwd : wd = 0 ∨ wd = 1 ∨ wd = 4) (k r bb i s d : Int) (p : Bool) (m : Int) (w : World) (ho : O8 w q k r bb i s d p m) :
    Calls Tryd.prog 46 #[.int .i64 wd, .slice (some ⟨w.heap.size, 0, none⟩) 1 1, .pointer (some ⟨q, 0, none⟩)] (w.alloc (.cells #[.int .u8 x] 5)) fun e w' => SLe w (1 + wd) (catF 1 (fun _ => x) (dF d)) e w' :=
  puts_head q 1 (fun _ => x) _ rfl wd hwd k r bb i s d p m w ho (by decide)
def twoF (x y : Int) (j : Nat) : Int := if j = 0 then x else y
theorem puts_two (q : Nat) (x y : Int) (wd : Nat) (hwd : wd = 0 ∨ wd = 1 ∨ wd = 4) (k r bb i s d : Int) (p : Bool) (m : Int) (w : World) (ho : O8 w q k r bb i s d p m) :
    Calls Tryd.prog 46 #[.int .i64 wd, .slice (some ⟨w.heap.size, 0, none⟩) 2 2, .pointer (some ⟨q, 0, none⟩)] (w.alloc (.cells #[.int .u8 x, .int .u8 y] 5)) fun e w' => SLe w (2 + wd) (catF 2 (twoF x y) (dF d)) e w' :=
  puts_head q 2 (twoF x y) _ rfl wd hwd k r bb i s d p m w ho (by decide)
theorem puts_one4 (q : Nat) (x : Int) (k r bb i s d : Int) (p : Bool) (m : Int) (w : World) (ho : O8 w q k r bb i s d p m) :
    Calls Tryd.prog 46 #[.int .i64 4, .slice (some ⟨w.heap.size, 0, none⟩) 1 1, .pointer (some ⟨q, 0, none⟩)] (w.alloc (.cells #[.int .u8 x] 5)) fun e w' => SLe w (1 + 4) (catF 1 (fun _ => x) (dF d)) e w' :=
  puts_one q x 4 (by decide) k r bb i s d p m w ho
theorem puts_two4 (q : Nat) (x y : Int) (k r bb i s d : Int) (p : Bool) (m : Int) (w : World) (ho : O8 w q k r bb i s d p m) :
    Calls Tryd.prog 46 #[.int .i64 4, .slice (some ⟨w.heap.size, 0, none⟩) 2 2, .pointer (some ⟨q, 0, none⟩)] (w.alloc (.cells #[.int .u8 x, .int .u8 y] 5)) fun e w' => SLe w (2 + 4) (catF 2 (twoF x y) (dF d)) e w' :=
  puts_two q x y 4 (by decide) k r bb i s d p m w ho
end Go.Proofs.YtkpnafgmjcnniaaDoor
