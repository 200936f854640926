/- The walk of OperandBack. -/
import Derived.Test.YtkpnafgmjcnniaaDoorPa
import Derived.Test.YtkpnafgmjcnniaaDoorRr
import Derived.Laws.AppendOwn
import Derived.Laws.AppendOwnNone
namespace Go.Proofs.YtkpnafgmjcnniaaDoor
open Go.RowKit
set_option linter.unusedVariables false
set_option linter.unusedSimpArgs false
/-- The operand in its block, Put's bytes, all behind w. -/
def BK (w : World) (k r b i s d : Int) (p : Bool) (m : Int) (g c : Nat) (f : Nat → Int) (W : World) : Prop :=
  O8 W w.heap.size k r b i s d p m ∧ (∀ j, j < c → W.cell? ⟨g, j, none⟩ = some (.int .u8 (f j))) ∧ g < W.heap.size ∧ Below w.heap.size w W
theorem BK.below {w W W' : World} {k r b i s d : Int} {p : Bool} {m : Int} {g c : Nat} {f : Nat → Int} (h : BK w k r b i s d p m g c f W) (hb : Below W.heap.size W W') : BK w k r b i s d p m g c f W' :=
  ⟨h.1.keep hb, fun j hj => (hb.cell (p := ⟨g, j, none⟩) h.2.2.1).trans (h.2.1 j hj), by have := hb.size; have := h.2.2.1; omega, h.2.2.2.trans (hb.mono h.2.2.2.size)⟩
theorem BK.belowB {w W W' : World} {k r b i s d : Int} {p : Bool} {m : Int} {g c B : Nat} {f : Nat → Int} (h : BK w k r b i s d p m g c f W) (h1 : w.heap.size < B) (h2 : g < B) (hb : Below B W W') : BK w k r b i s d p m g c f W' :=
  ⟨(hb.block _ h1).trans h.1, fun j hj => (hb.cell (p := ⟨g, j, none⟩) h2).trans (h.2.1 j hj), by have := hb.size; have := h.2.2.1; omega, h.2.2.2.trans (hb.mono (by omega))⟩
/-- Bytes that came in, as they are appended. -/
def SB (W : World) (v : Value) (n : Nat) (h : Nat → Int) : Prop := (v = .slice none 0 0 ∧ n = 0) ∨ ∃ ad cap, v = .slice (some ad) n cap ∧ ∀ j u, (byL h n)[j]? = some u → W.cell? (ad.add j) = some u
set_option maxRecDepth 100000 in
set_option maxHeartbeats 8000000 in
theorem bl_some (Q k r b i s d : Int) (p : Bool) (m : Int) (x : Value) (n : Nat) (hB : Nat → Int) (c : Nat) (f : Nat → Int) (R2 : Int) (xl xc : Nat) (xa : Option Addr) (hx : x = .slice xa xl xc) (hxl : xl = n) (w : World) (hm : Mk w) (h20 : (n : Int) ≤ 20) (q0 : 0 ≤ Q) (q1 : Q ≤ 15) (c5 : c ≤ 5) (r0 : 0 ≤ R2) (r1 : R2 < 8)
    (hx2 : ∀ W, Below w.heap.size w W → SB W (.slice xa xl xc) n hB)
    (hP : ∀ W, Mk W → Calls Tryd.prog 15 #[.int .i64 Q, ov k r b i s d p m] W fun e w' => ∃ g cap2, e = .returned (.tuple #[.slice (some ⟨g, 0, none⟩) (c + 1) cap2, .int .u8 R2, .int .i64 0]) ∧ c + 1 ≤ cap2 ∧ (∀ j, j < c + 1 → w'.cell? ⟨g, j, none⟩ = some (.int .u8 (f j))) ∧ g < w'.heap.size ∧ Below W.heap.size W w')
    (hR : ∀ W, Calls Tryd.prog 19 #[ov k r b i s d p m] W fun e w' => e = .returned (.bool true) ∧ Below W.heap.size W w')
    (hT1 : ∀ W g cap2, Mk W → c + 1 + n ≤ cap2 → (∀ j, j < c + 1 + n → W.cell? ⟨g, j, none⟩ = some (.int .u8 (catF (c + 1) f hB j))) → Calls Tryd.prog 13 #[.slice (some ⟨g, 0, none⟩) (c + 1 + n) cap2, .int .u8 R2] W fun e w' => e = .returned (.tuple #[.int .i64 Q, ov k r b i s d p m, .int .i64 ((c : Int) + 1), .int .i64 0]) ∧ Below W.heap.size W w')
    (hT2 : ∀ W g cap2, Mk W → c ≤ cap2 → (∀ j, j < c → W.cell? ⟨g, j, none⟩ = some (.int .u8 (f j))) → Calls Tryd.prog 13 #[.slice (some ⟨g, 0, none⟩) c cap2, .int .u8 R2] W fun e w' => e = .returned (.tuple #[.int .i64 0, ov 0 0 0 0 0 0 false 0, .int .i64 0, .int .i64 80]) ∧ Below W.heap.size W w') :
    Calls Tryd.prog 4 #[.int .i64 Q, ov k r b i s d p m, .slice xa xl xc] w fun e w' => e = .returned (.bool true) ∧ Below w.heap.size w w' := by
  have HM := Lib.hid hm
  have HP := Lib.hid hP
  have HR := Lib.hid hR
  have HT1 := Lib.hid hT1
  have HT2 := Lib.hid hT2
  have HX := Lib.hid hx2
  subst hxl
  have HS := Lib.hid (OS.new w k r b i s d p m)
  clear hm hP hR hT1 hT2 hx2 hx
  go_enter Tryd.func4, Tryd.ntmps4
  go_upto_region 1 with fail
  generalize World.alloc _ _ = W0 at *
  obtain ⟨c0, c1, c2, c3, c4, c5', c6, c7⟩ := HS.out.1.c
  go_wp2_with fail
  go_at_call 15
  refine (HP.out _ (HM.out.below HS.out.2)).mono ?_
  rintro e w2 ⟨g, cap2, rfl, hc2, hcell, hg2, hb2⟩
  have HK := Lib.hid (show BK w k r b i s d p m g (c + 1) f w2 from ⟨HS.out.1.keep hb2, hcell, hg2, HS.out.2.trans (hb2.mono HS.out.2.size)⟩)
  have HC2 := Lib.hid hc2
  clear hcell hg2 hb2 c0 c1 c2 c3 c4 c5' c6 c7 HS hc2
  obtain ⟨c0, c1, c2, c3, c4, c5', c6, c7⟩ := HK.out.1.c
  go_upto_region 6 with (go_at_call 19; (with_reducible refine (HR.out _).mono ?_); rintro e w3 ⟨rfl, hb3⟩; have HK3 := Lib.hid (HK.out.below hb3); clear hb3 c0 c1 c2 c3 c4 c5' c6 c7)
  have HK4 := Lib.hid (HK3.out.below ((Below.refl _ _).alloc (Nat.le_refl _) (Obj.cells #[] 5)))
  clear HK HK3
  obtain ⟨ii, i1, i2, i3, i4⟩ := info5a
  have HI := Lib.hid (And.intro i1 (And.intro i2 (And.intro i3 i4)))
  have HL : Hid (∀ j u, (byL f (c + 1))[j]? = some u → (w3.alloc (Obj.cells #[] 5)).cell? ((⟨g, 0, none⟩ : Addr).add j) = some u) := Lib.hid (fun j u hj => by
    obtain ⟨h8, rfl⟩ := byL_at hj
    rw [Addr.add_lit, Nat.zero_add]
    exact HK4.out.2.1 j h8)
  have HSZ : Hid (w3.heap.size < (w3.alloc (Obj.cells #[] 5)).heap.size) := Lib.hid (by simp)
  clear i1 i2 i3 i4
  go_wp2_with (at_builtin; refine wpList_append_grows (w3.alloc (Obj.cells #[] 5)) rfl _ _ 24 rfl 5 ii (.int .u8 0) 1 1 Tryd.underlying24 HI.out.1 HI.out.2.1 HI.out.2.2.1 HI.out.2.2.2 rfl (by decide) (some ⟨w3.heap.size, 0, none⟩) 0 0 [] rfl (fun h => by cases h) rfl (fun b hb j u hj => by simp at hj) ⟨g, 0, none⟩ (c + 1) cap2 (byL f (c + 1)) rfl (by simp [byL]) HL.out (byL_one _ _) (by omega) (by unfold maxLen; omega) (by omega) ?_)
  intro v' w4 hown hgr
  have hown2 : w4.ownsRow (w3.heap.size + 1) 5 1 v' (c + 1) (byL f (c + 1)) := by simpa using hown
  have HE : Hid ((w3.alloc (Obj.cells #[] 5)).heap.size = w3.heap.size + 1) := Lib.hid (by simp)
  generalize w3.alloc (Obj.cells #[] 5) = V3 at *
  generalize w3.heap.size + 1 = B at *
  have hB4 : Below B V3 w4 := (Below.refl B V3).grown hgr (by rw [HE.out]; exact Nat.le_refl _) (fun k e => by cases e)
  have hB4' : Below V3.heap.size V3 w4 := by rw [HE.out]; exact hB4
  have HK5 := Lib.hid (HK4.out.below hB4')
  have HO4 := Lib.hid hown2
  have HBs := Lib.hid (show B ≤ w4.heap.size by have := hB4'.size; rw [HE.out] at this; exact this)
  have HB4 := Lib.hid hB4
  have HB0 : Hid (w.heap.size < B) := Lib.hid (by have := HK4.out.1.lt; rw [HE.out] at this; exact this)
  have HG0 : Hid (g < B) := Lib.hid (by have := HK4.out.2.2.1; rw [HE.out] at this; exact this)
  clear hown hown2 hgr HL hB4 hB4'
  have hsb := HX.out w4 HK5.out.2.2.2
  have key : ∀ v5 w5, w5.ownsRow B 5 1 v5 (c + 1 + xl) (byL f (c + 1) ++ byL hB xl) → Below B w4 w5 → ∃ g5 cap5, v5 = .slice (some ⟨g5, 0, none⟩) (c + 1 + xl) cap5 ∧ c + 1 + xl ≤ cap5 ∧ (∀ j, j < c + 1 + xl → w5.cell? ⟨g5, j, none⟩ = some (.int .u8 (catF (c + 1) f hB j))) := fun v5 w5 ho hb => by
    rcases ho.2 with ⟨_, h⟩ | ⟨g5, cap5, cur, h, _, _, h2, _⟩
    · exact absurd h (by omega)
    · subst h
      exact ⟨g5, cap5, rfl, h2, fun j hj => (ho.cellAt j (by omega)).trans (byL_both _ _ (c + 1) xl j hj)⟩
  have KEY := Lib.hid key
  clear key
  rcases hsb with ⟨hv, hz⟩ | ⟨ad, cap3, hv, hnews⟩
  · have HV := Lib.hid hv
    have HZ := Lib.hid hz
    clear hv hz
    have hown6 : w4.ownsRow B 5 1 v' (c + 1 + xl) (byL f (c + 1) ++ byL hB xl) := by
      have hz := HZ.out
      subst hz
      simpa [byL] using HO4.out
    obtain ⟨g5, cap5, rfl, hc5, hcell5⟩ := KEY.out v' w4 hown6 (Below.refl _ _)
    have HC5 := Lib.hid hcell5
    have HL5 := Lib.hid hc5
    have HK6 := Lib.hid HK5.out
    clear hcell5 hc5 hown6
    go_wp2_with (at_builtin; refine wpList_append_own_none rfl _ _ 24 rfl B 5 ii 1 Tryd.underlying24 HI.out.1 (.slice (some ⟨g5, 0, none⟩) (c + 1 + xl) cap5) (c + 1) (byL f (c + 1)) rfl HO4.out HV.out ?_)
    go_at_call 13
    refine (HT1.out _ g5 cap5 (HM.out.below HK6.out.2.2.2) HL5.out HC5.out).mono ?_
    rintro e w7 ⟨rfl, hb7⟩
    have HK8 := Lib.hid ((HK6.out.below hb7).below ((Below.refl _ _).alloc (Nat.le_refl _) (ob k r b i s d p m)))
    have HN8 := Lib.hid (O8.new w7 k r b i s d p m)
    clear hb7
    go_upto_region 7 with fail
    generalize World.alloc w7 _ = V8 at *
    generalize w7.heap.size = b8 at *
    have hc2 := HC2.out
    go_wp2_with fail
    go_at_call 13
    refine (HT2.out _ g cap2 (HM.out.below HK8.out.2.2.2) (by omega) (fun j hj => HK8.out.2.1 j (by omega))).mono ?_
    rintro e w9 ⟨rfl, hb9⟩
    have HK10 := Lib.hid ((HK8.out.below hb9).below ((Below.refl _ _).alloc (Nat.le_refl _) (ob 0 0 0 0 0 0 false 0)))
    have HN10 := Lib.hid ((HN8.out.keep hb9).keep ((Below.refl _ _).alloc (Nat.le_refl _) (ob 0 0 0 0 0 0 false 0)))
    clear hb9
    go_upto_region 8 with fail
    generalize World.alloc w9 _ = V10 at *
    obtain ⟨c0, c1, c2, c3, c4, c5', c6, c7⟩ := HK10.out.1.c
    obtain ⟨d0, d1, d2, d3, d4, d5, d6, d7⟩ := HN10.out.c
    go_wp2_with (go_at_call 12; refine (wakes_any _ (HM.out.below HK10.out.2.2.2)).mono ?_; rintro e w11 ⟨rfl, hb11⟩)
    go_ret
    exact ⟨rfl, HK10.out.2.2.2.trans (hb11.mono HK10.out.2.2.2.size)⟩
  · have HN := Lib.hid hnews
    have HV := Lib.hid hv
    clear hnews hv
    go_wp2_with (at_builtin; refine wpList_append_own w4 rfl _ _ 24 rfl B 5 ii (.int .u8 0) 1 1 Tryd.underlying24 HI.out.1 HI.out.2.1 HI.out.2.2.1 HI.out.2.2.2 rfl (by decide) v' (c + 1) (byL f (c + 1)) rfl HO4.out ad xl cap3 (byL hB xl) HV.out (by simp [byL]) HN.out (byL_one _ _) (by unfold maxLen; omega) (by omega) HBs.out ?_)
    intro v5 w5 hown5 hgr5 _
    have hB5 : Below B w4 w5 := (Below.refl B w4).grown hgr5 HBs.out (fun q e => by
      rcases HO4.out.2 with ⟨h, _⟩ | ⟨g', cap', cur, h, hle, _⟩
      · rw [h] at e; cases e
      · rw [h] at e; cases e; exact hle)
    obtain ⟨g5, cap5, rfl, hc5, hcell5⟩ := KEY.out v5 w5 hown5 hB5
    have HC5 := Lib.hid hcell5
    have HL5 := Lib.hid hc5
    have HK6 := Lib.hid (HK5.out.belowB HB0.out HG0.out hB5)
    clear hcell5 hc5 hown5 hgr5 hB5
    go_wp2_with fail
    go_at_call 13
    refine (HT1.out _ g5 cap5 (HM.out.below HK6.out.2.2.2) HL5.out HC5.out).mono ?_
    rintro e w7 ⟨rfl, hb7⟩
    have HK8 := Lib.hid ((HK6.out.below hb7).below ((Below.refl _ _).alloc (Nat.le_refl _) (ob k r b i s d p m)))
    have HN8 := Lib.hid (O8.new w7 k r b i s d p m)
    clear hb7
    go_upto_region 7 with fail
    generalize World.alloc w7 _ = V8 at *
    generalize w7.heap.size = b8 at *
    have hc2 := HC2.out
    go_wp2_with fail
    go_at_call 13
    refine (HT2.out _ g cap2 (HM.out.below HK8.out.2.2.2) (by omega) (fun j hj => HK8.out.2.1 j (by omega))).mono ?_
    rintro e w9 ⟨rfl, hb9⟩
    have HK10 := Lib.hid ((HK8.out.below hb9).below ((Below.refl _ _).alloc (Nat.le_refl _) (ob 0 0 0 0 0 0 false 0)))
    have HN10 := Lib.hid ((HN8.out.keep hb9).keep ((Below.refl _ _).alloc (Nat.le_refl _) (ob 0 0 0 0 0 0 false 0)))
    clear hb9
    go_upto_region 8 with fail
    generalize World.alloc w9 _ = V10 at *
    obtain ⟨c0, c1, c2, c3, c4, c5', c6, c7⟩ := HK10.out.1.c
    obtain ⟨d0, d1, d2, d3, d4, d5, d6, d7⟩ := HN10.out.c
    go_wp2_with (go_at_call 12; refine (wakes_any _ (HM.out.below HK10.out.2.2.2)).mono ?_; rintro e w11 ⟨rfl, hb11⟩)
    go_ret
    exact ⟨rfl, HK10.out.2.2.2.trans (hb11.mono HK10.out.2.2.2.size)⟩
end Go.Proofs.YtkpnafgmjcnniaaDoor
