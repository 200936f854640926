/- HeaderBack's walk. -/
import Derived.Test.YtnaggdhophncaaaDoorLm
namespace Go.Proofs.YtnaggdhophncaaaDoor
open Go.RowKit Go.Shelf
set_option linter.unusedVariables false
set_option linter.unusedSimpArgs false
attribute [local go_sem] Oper.semAt_some
theorem owns_some {W : World} {n0 : Nat} {ty : TypeId} {sz : Nat} {v : Value} {k : Nat} {L : List Value} (h : W.ownsRow n0 ty sz v k L) (hk : 0 < k) : ∃ g cap, v = .slice (some ⟨g, 0, none⟩) k cap ∧ k ≤ cap ∧ cap ≤ 9223372036854775807 := by
  rcases h.2 with ⟨_, h0⟩ | ⟨g, cap, cur, hv, _, _, h1, h2, _⟩
  · omega
  · exact ⟨g, cap, hv, h1, by unfold maxLen at h2; omega⟩
theorem take_seg' (ad : Option Addr) (len cap : Nat) (s : Sg) (hs : s.ok) (hn : 56 ≤ len) (hl : len ≤ cap) (hm : cap ≤ 9223372036854775807) (w : World) {z : Nat → Nat} (hz : ∀ j, z j < 256) (he : ∀ j, j < 56 → z j = s.f j) (h : BS w ad len z) :
    Calls Tryd.prog 20 #[.slice ad len cap] w fun e w' => e = .returned (.tuple #[s.v, .int .i64 0]) ∧ Below w.heap.size w w' := by
  have h1 := take_seg ad len cap z hz hn hl hm w h
  have e := seg_cells hs he
  have e2 : Value.agg (segC z).toArray = s.v := by rw [e]; rfl
  rw [← e2]
  exact h1
theorem take_sec' (ad : Option Addr) (len cap : Nat) (s : Sc) (hs : s.ok) (hn : 64 ≤ len) (hl : len ≤ cap) (hm : cap ≤ 9223372036854775807) (w : World) {z : Nat → Nat} (hz : ∀ j, z j < 256) (he : ∀ j, j < 64 → z j = s.f j) (h : BS w ad len z) :
    Calls Tryd.prog 22 #[.slice ad len cap] w fun e w' => e = .returned (.tuple #[s.v, .int .i64 0]) ∧ Below w.heap.size w w' := by
  have h1 := take_sec ad len cap z hz hn hl hm w h
  have e := sec_cells hs he
  have e2 : Value.agg (secC z).toArray = s.v := by rw [e]; rfl
  rw [← e2]
  exact h1
/-- Two headers in their boxes, their rows, the bytes, the tables. -/
def KA (w : World) (B D : Nat) (ch cx : Array Value) (R : List (Option Addr × List Value)) (g len : Nat) (Z : Nat → Nat) (W : World) : Prop :=
  W.heap[B]? = some (.cells ch 27 (0, 0)) ∧ W.heap[D]? = some (.cells cx 27 (0, 0)) ∧ (∀ x ∈ R, RX W x.1 x.2) ∧ BS W (some ⟨g, 0, none⟩) len Z ∧ GM W ∧ Below w.heap.size w W
theorem KA.keep {w W W' : World} {B D : Nat} {ch cx : Array Value} {R : List (Option Addr × List Value)} {g len : Nat} {Z : Nat → Nat} (h : KA w B D ch cx R g len Z W) (hb : Below W.heap.size W W') : KA w B D ch cx R g len Z W' :=
  ⟨(hb.block _ (Array.getElem?_eq_some_iff.1 h.1).1).trans h.1, (hb.block _ (Array.getElem?_eq_some_iff.1 h.2.1).1).trans h.2.1, fun x hx => (h.2.2.1 x hx).keep hb, h.2.2.2.1.keep hb, h.2.2.2.2.1.below hb, h.2.2.2.2.2.trans (hb.mono h.2.2.2.2.2.size)⟩
theorem KA.drew {w W : World} {B D : Nat} {ch cx : Array Value} {R : List (Option Addr × List Value)} {g len : Nat} {Z : Nat → Nat} (h : KA w B D ch cx R g len Z W) : KA w B D ch cx R g len Z W.drew := h.keep (Below.refl _ _).drew
theorem KA.alloc {w W : World} {B D : Nat} {ch cx : Array Value} {R : List (Option Addr × List Value)} {g len : Nat} {Z : Nat → Nat} (h : KA w B D ch cx R g len Z W) (o : Obj) : KA w B D ch cx R g len Z (W.alloc o) := h.keep ((Below.refl _ _).alloc (Nat.le_refl _) o)
/-- One header in its box, the tables. -/
def BG (w : World) (cs : Array Value) (W : World) : Prop := BX w cs W ∧ GM W
theorem BG.keep {w W W' : World} {cs : Array Value} (h : BG w cs W) (hb : Below W.heap.size W W') : BG w cs W' := ⟨⟨(hb.block _ (Array.getElem?_eq_some_iff.1 h.1.1).1).trans h.1.1, h.1.2.trans (hb.mono h.1.2.size)⟩, h.2.below hb⟩
theorem BG.new {w : World} (hG : GM w) (cs : Array Value) : BG w cs (w.alloc (.cells cs 27)) := ⟨BX.new cs, hG.below ((Below.refl _ w).alloc (Nat.le_refl _) _)⟩
theorem gm_set {w W : World} {cs : Array Value} (h : BG w cs W) (hw : 2 ≤ w.heap.size) (i : Nat) (x : Value) : BG w (cs.setIfInBounds i x) (W.setCell ⟨w.heap.size, i, none⟩ x) := by
  refine ⟨h.1.set i x, ?_⟩
  rw [setCell_eq_setRow W _ _ _ _ _ _ h.1.1]
  exact h.2.row hw
set_option maxRecDepth 100000 in
set_option maxHeartbeats 8000000 in
theorem back4_great (en so sc n m : Nat) (a1 a2 : Option Addr) (p1 p2 : Nat) (ar : Option Addr) (nr cr : Nat) (w : World) (hG : GM w) (hg : (decide (40 < n) || (decide (80 < m) || decide (6000 < nr))) = true) :
    Calls Tryd.prog 4 #[.agg #[.int .u64 (en : Nat), .int .u64 (so : Nat), .int .u64 (sc : Nat), .slice a1 n p1, .slice a2 m p2], .slice ar nr cr] w fun e W' => e = .returned (.bool true) ∧ Below w.heap.size w W' := by
  have HS := Lib.hid (BG.new hG #[.int .u64 (en : Nat), .int .u64 (so : Nat), .int .u64 (sc : Nat), .slice a1 n p1, .slice a2 m p2])
  have HGR := Lib.hid (fun W => great_any en so sc n m a1 a2 p1 p2 ar nr cr W)
  rw [hg] at HGR
  clear hG hg
  go_enter Tryd.func4, Tryd.ntmps4
  go_upto_region 1 with fail
  generalize World.alloc w _ = W1 at HS ⊢
  have r0 := cell_at (i := 0) (v := .int .u64 (en : Nat)) HS.out.1.1 rfl
  have r1 := cell_at (i := 1) (v := .int .u64 (so : Nat)) HS.out.1.1 rfl
  have r2 := cell_at (i := 2) (v := .int .u64 (sc : Nat)) HS.out.1.1 rfl
  have r3 := cell_at (i := 3) (v := .slice a1 n p1) HS.out.1.1 rfl
  have r4 := cell_at (i := 4) (v := .slice a2 m p2) HS.out.1.1 rfl
  go_wp2_with (first | (go_at_call 8; refine (HGR.out _).mono ?_) | fail)
  rintro e W2 ⟨rfl, hb⟩
  replace HS := Lib.hid (HS.out.keep hb)
  clear hb r0 r1 r2 r3 r4
  go_wp2_with (first | (go_at_call 9; refine (wakes_any _ HS.out.2).mono ?_) | fail)
  first | (rintro e W3 rfl hb) | (rintro e W3 ⟨rfl, hb⟩)
  have HE := Lib.hid (HS.out.keep hb)
  go_wp2_with fail
  go_ret
  exact ⟨rfl, HE.out.1.2⟩
set_option maxRecDepth 100000 in
set_option maxHeartbeats 8000000 in
theorem back4_many (en so sc : Nat) (zs : List Sg) (cs : List Sc) (a1 a2 : Option Addr) (p1 p2 : Nat) (ar : Option Addr) (nr cr : Nat) (rz : Nat → Nat) (hz : ∀ s ∈ zs, s.ok) (hc : ∀ s ∈ cs, s.ok) (hen : U en) (hrz : ∀ j, rz j < 256) (w : World) (hG : GM w)
    (h1 : RX w a1 (zs.flatMap Sg.cs)) (h2 : RX w a2 (cs.flatMap Sc.cs)) (h3 : RI w ar nr cr rz) (hg : (decide (40 < zs.length) || (decide (80 < cs.length) || decide (6000 < nr))) = false) (hk : (decide (zs.length ≤ 16) && decide (cs.length ≤ 32)) = false) :
    Calls Tryd.prog 4 #[.agg #[.int .u64 (en : Nat), .int .u64 (so : Nat), .int .u64 (sc : Nat), .slice a1 zs.length p1, .slice a2 cs.length p2], .slice ar nr cr] w fun e W' => e = .returned (.bool true) ∧ Below w.heap.size w W' := by
  have hn : zs.length ≤ 40 ∧ cs.length ≤ 80 ∧ nr ≤ 6000 := by simp at hg; omega
  obtain ⟨hn1, hm1, hr1⟩ := hn
  have HGR := Lib.hid (fun W => great_any en so sc zs.length cs.length a1 a2 p1 p2 ar nr cr W)
  rw [hg] at HGR
  have HLD := Lib.hid (fun W hb => laid_any en so sc zs cs a1 a2 p1 p2 ar nr cr rz hz hc (by omega) (by omega) (by omega) W (RX.keep (W' := W) h1 hb) (RX.keep (W' := W) h2 hb) (RI.keep (W := W) h3 hb))
  have HS := Lib.hid (BG.new hG #[.int .u64 (en : Nat), .int .u64 (so : Nat), .int .u64 (sc : Nat), .slice a1 zs.length p1, .slice a2 cs.length p2])
  clear hG hg
  go_enter Tryd.func4, Tryd.ntmps4
  go_upto_region 1 with fail
  generalize World.alloc w _ = W1 at HS ⊢
  have r0 := cell_at (i := 0) (v := .int .u64 (en : Nat)) HS.out.1.1 rfl
  have r1 := cell_at (i := 1) (v := .int .u64 (so : Nat)) HS.out.1.1 rfl
  have r2 := cell_at (i := 2) (v := .int .u64 (sc : Nat)) HS.out.1.1 rfl
  have r3 := cell_at (i := 3) (v := .slice a1 zs.length p1) HS.out.1.1 rfl
  have r4 := cell_at (i := 4) (v := .slice a2 cs.length p2) HS.out.1.1 rfl
  go_wp2_with (first | (go_at_call 8; refine (HGR.out _).mono ?_) | fail)
  rintro e W2 ⟨rfl, hb⟩
  replace HS := Lib.hid (HS.out.keep hb)
  clear hb r0 r1 r2 r3 r4 HGR
  have r0 := cell_at (i := 0) (v := .int .u64 (en : Nat)) HS.out.1.1 rfl
  have r1 := cell_at (i := 1) (v := .int .u64 (so : Nat)) HS.out.1.1 rfl
  have r2 := cell_at (i := 2) (v := .int .u64 (sc : Nat)) HS.out.1.1 rfl
  have r3 := cell_at (i := 3) (v := .slice a1 zs.length p1) HS.out.1.1 rfl
  have r4 := cell_at (i := 4) (v := .slice a2 cs.length p2) HS.out.1.1 rfl
  go_wp2_with (first | (go_at_call 24; refine (HLD.out _ HS.out.1.2).mono ?_) | fail)
  first | (rintro e W3 v rfl ho hb) | (rintro e W3 ⟨v, rfl, ho, hb⟩)
  replace HS := Lib.hid (HS.out.keep hb)
  clear hb r0 r1 r2 r3 r4 HLD
  obtain ⟨g, cap, rfl, hc1, hc2⟩ := owns_some ho (by omega)
  have HBS := Lib.hid (rx_bs (RX.own ho))
  clear ho
  have HRD := Lib.hid (read_bad (E := 32) (z := laidZ en zs cs rz) (laid_lt hrz) hc1 hc2 HBS.out HS.out.2 (readE_kind (by omega) (by omega) laid_mag (by rw [laid_kinds (by omega) (by omega), hk])) (by decide))
  clear hc1 hc2 HBS
  go_wp2_with (first | (go_at_call 10; refine HRD.out.mono ?_) | fail)
  rintro e W4 ⟨rfl, hb⟩
  replace HS := Lib.hid (HS.out.keep hb)
  clear hb HRD
  go_upto_region 5 with fail
  have HD := Lib.hid (heap_alloc_last W4 (.cells #[.int .u64 0, .int .u64 0, .int .u64 0, .slice none 0 0, .slice none 0 0] 27))
  replace HS := Lib.hid (HS.out.keep ((Below.refl _ W4).alloc (Nat.le_refl _) (.cells #[.int .u64 0, .int .u64 0, .int .u64 0, .slice none 0 0, .slice none 0 0] 27)))
  generalize World.alloc W4 _ = W5 at HS HD ⊢
  generalize W4.heap.size = D at HD ⊢
  have c3 := cell_at (i := 3) (v := .slice a1 zs.length p1) HS.out.1.1 rfl
  have c4 := cell_at (i := 4) (v := .slice a2 cs.length p2) HS.out.1.1 rfl
  have d0 := cell_at (i := 0) (v := .int .u64 0) HD.out rfl
  have d1 := cell_at (i := 1) (v := .int .u64 0) HD.out rfl
  have d2 := cell_at (i := 2) (v := .int .u64 0) HD.out rfl
  have d3 := cell_at (i := 3) (v := .slice none 0 0) HD.out rfl
  have d4 := cell_at (i := 4) (v := .slice none 0 0) HD.out rfl
  have HSM := Lib.hid (fun W => rsame_any 0 0 0 [] [] none none none none 0 0 0 0 (fun s h => nomatch h) (fun s h => nomatch h) (by decide) (by decide) W (fun h => absurd h (by decide)) (fun h => absurd h (by decide)) (fun h => absurd h (by decide)) (fun h => absurd h (by decide)))
  simp only [List.length_nil] at HSM
  by_cases hk1 : zs.length ≤ 16
  · have e1 : decide ((16 : Int) < (zs.length : Int)) = false := decide_eq_false (by omega)
    have e2 : decide ((32 : Int) < (cs.length : Int)) = true := decide_eq_true (by simp [hk1] at hk; omega)
    clear hk
    go_wp2_with (first | (go_at_call 12; refine (HSM.out _).mono ?_) | fail)
    first | (rintro e W6 rfl hb) | (rintro e W6 ⟨rfl, hb⟩)
    replace HS := Lib.hid (HS.out.keep hb)
    clear hb c3 c4 d0 d1 d2 d3 d4
    go_wp2_with (first | (go_at_call 9; refine (wakes_any _ HS.out.2).mono ?_) | fail)
    first | (rintro e W7 rfl hb) | (rintro e W7 ⟨rfl, hb⟩)
    have HE := Lib.hid (HS.out.keep hb)
    go_wp2_with fail
    go_ret
    exact ⟨rfl, HE.out.1.2⟩
  · have e1 : decide ((16 : Int) < (zs.length : Int)) = true := decide_eq_true (by omega)
    clear hk
    go_wp2_with (first | (go_at_call 12; refine (HSM.out _).mono ?_) | fail)
    first | (rintro e W6 rfl hb) | (rintro e W6 ⟨rfl, hb⟩)
    replace HS := Lib.hid (HS.out.keep hb)
    clear hb c3 c4 d0 d1 d2 d3 d4
    go_wp2_with (first | (go_at_call 9; refine (wakes_any _ HS.out.2).mono ?_) | fail)
    first | (rintro e W7 rfl hb) | (rintro e W7 ⟨rfl, hb⟩)
    have HE := Lib.hid (HS.out.keep hb)
    go_wp2_with fail
    go_ret
    exact ⟨rfl, HE.out.1.2⟩
end Go.Proofs.YtnaggdhophncaaaDoor
