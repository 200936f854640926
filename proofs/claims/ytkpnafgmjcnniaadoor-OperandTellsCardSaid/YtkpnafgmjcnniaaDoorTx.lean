/- OperandTells, for all values. -/
import Derived.Test.YtkpnafgmjcnniaaDoorTe
import Derived.Test.YtkpnafgmjcnniaaDoorRw
import Derived.Test.YtkpnafgmjcnniaaDoorPq
import Derived.Test.YtkpnafgmjcnniaaDoorRtf
import Derived.Test.YtkpnafgmjcnniaaDoorRa
import Derived.Test.YtkpnafgmjcnniaaDoorSi
import Derived.Test.YtkpnafgmjcnniaaDoorRu
namespace Go.Proofs.YtkpnafgmjcnniaaDoor
open Go.RowKit
set_option linter.unusedVariables false
set_option linter.unusedSimpArgs false
theorem cell_lt {W : World} {b o : Nat} {v : Value} (h : W.cell? ⟨b, o, none⟩ = some v) : b < W.heap.size := by
  by_cases hh : b < W.heap.size
  · exact hh
  · exfalso
    have h0 : W.heap[b]? = none := Array.getElem?_eq_none (by omega)
    simp [World.cell?, h0] at h
/-- A slice of these numbers. -/
def UL (L : List Int) (W : World) (v : Value) : Prop := (∃ sp c, v = .slice sp 0 c ∧ L.length = 0) ∨ ∃ g c, v = .slice (some ⟨g, 0, none⟩) L.length c ∧ L.length ≤ c ∧ 0 < L.length ∧ ∀ j, j < L.length → W.cell? ⟨g, j, none⟩ = some (.int .i64 (L.getD j 0))
theorem UL.keep {L : List Int} {W W' : World} {v : Value} (h : UL L W v) (hb : Below W.heap.size W W') : UL L W' v := by
  rcases h with h | ⟨g, c, h1, h2, h3, h4⟩
  · exact .inl h
  · have := cell_lt (h4 0 h3)
    exact .inr ⟨g, c, h1, h2, h3, fun j hj => (hb.cell (p := ⟨g, j, none⟩) this).trans (h4 j hj)⟩
theorem UL.own {L : List Int} {W : World} {B : Nat} {v : Value} (h : W.ownsRow B 3 1 v L.length (L.map (Value.int .i64))) : UL L W v := by
  rcases h.2 with ⟨rfl, h0⟩ | ⟨g, cap, cur, rfl, _, _, hc, _⟩
  · exact .inl ⟨_, _, rfl, h0⟩
  · by_cases h0 : L.length = 0
    · rw [h0]; exact .inl ⟨_, _, rfl, h0⟩
    · refine .inr ⟨g, cap, rfl, hc, by omega, fun j hj => ?_⟩
      rw [h.cellAt j (by omega)]
      simp [List.getD, hj]
theorem UL.ints {L : List Int} (hL : L.length ≤ 1000) (W : World) (v1 v2 : Value) (h1 : UL L W v1) (h2 : UL L W v2) : Calls Tryd.prog 20 #[v1, v2] W fun e w' => ∃ q, e = .returned (.bool true) ∧ w' = W.drewN q := by
  rcases h1 with ⟨sp, c, rfl, h0⟩ | ⟨g, c, rfl, hc, h0, hcell⟩
  · rcases h2 with ⟨sp2, c2, rfl, _⟩ | ⟨g2, c2, rfl, _, h3, _⟩
    · exact (ints_0 sp sp2 c c2 W).mono fun e w' ⟨h, hw⟩ => ⟨0, h, hw.symm⟩
    · omega
  · rcases h2 with ⟨sp2, c2, rfl, h3⟩ | ⟨g2, c2, rfl, hc2, _, hcell2⟩
    · omega
    · exact ints_n g g2 c c2 L.length hL hc hc2 (fun j => L.getD j 0) W hcell hcell2
theorem partL_len (k b i : Int) : (partL k b i).length ≤ 1000 := by
  unfold partL
  split
  · by_cases h1 : 0 ≤ b <;> by_cases h2 : 0 ≤ i <;> simp [h1, h2]
  · simp
theorem SL.same {n : Nat} {z : Nat → Nat} (hz : ∀ j, z j < 256) (W : World) (v1 v2 : Value) (h1 : SL W v1 n (fun j => (z j : Nat))) (h2 : SL W v2 n (fun j => (z j : Nat))) : Calls Tryd.prog 17 #[v1, v2] W fun e w' => e = .returned (.bool true) ∧ W = w' := by
  obtain ⟨g, c, rfl, _, hc⟩ := h1
  obtain ⟨g2, c2, rfl, _, hc2⟩ := h2
  exact same_any g g2 c c2 n z hz W hc hc2
theorem tells_tail (reg k r b i s d : Int) (p : Bool) (m : Int) (sp : Option Addr) (n cap : Nat) (R disp : Int) (w : World) (hm : Mk w) (h40 : (n : Int) ≤ 40) (hd0 : -9223372036854775808 ≤ d) (hd1 : d ≤ 9223372036854775807)
    (Q k2 r2 b2 i2 s2 d2 : Int) (p2 : Bool) (m2 kk e2 : Int)
    (hT1 : ∀ W, Below w.heap.size w W → Calls Tryd.prog 13 #[.slice sp n cap, .int .u8 R] W fun e w' => e = .returned (.tuple #[.int .i64 Q, ov k2 r2 b2 i2 s2 d2 p2 m2, .int .i64 kk, .int .i64 e2]) ∧ Below W.heap.size W w')
    (hT2 : ∀ W, Below w.heap.size w W → Calls Tryd.prog 14 #[.slice sp n cap, .int .u8 R] W fun e w' => e = .returned (.tuple #[.int .i64 Q, ov k2 r2 b2 i2 s2 d2 p2 m2, .int .i64 kk, .int .i64 e2]) ∧ Below W.heap.size W w') :
    Calls Tryd.prog 3 #[.int .i64 reg, ov k r b i s d p m, .slice sp n cap, .int .u8 R, .int .i64 disp] w fun e w' => e = .returned (.bool true) ∧ Below w.heap.size w w' := by
  have hR2 : ∀ W, Calls Tryd.prog 19 #[ov k r b i s d p m] W fun e w' => e = .returned (.bool (rB k r b i s d p m)) ∧ Below W.heap.size W w' := fun W => by rw [← rrB_eq k r b i s d p m hd0 hd1]; exact rright_any k r b i s d p m W
  have hU1 : ∀ W, Calls Tryd.prog 21 #[ov k r b i s d p m] W fun e w' => ∃ v, e = .returned v ∧ UL (partL k b i) w' v ∧ Below W.heap.size W w' := fun W =>
    (uses_wide ⟨k, r, b, i, s, d, p, m⟩ W).mono fun e w' ⟨⟨v, he, hv⟩, hb⟩ => ⟨v, he, UL.own hv, hb⟩
  have hU2 : ∀ W, Calls Tryd.prog 22 #[ov k r b i s d p m] W fun e w' => ∃ v, e = .returned v ∧ UL (partL k b i) w' v ∧ Below W.heap.size W w' := fun W =>
    (ruses_any k r b i s d p m W).mono fun e w' ⟨⟨v, he, hv⟩, hb⟩ => ⟨v, he, UL.own hv, hb⟩
  by_cases hq : 0 ≤ reg ∧ reg ≤ 15 ∧ rB k r b i s d p m = true
  · obtain ⟨h0, h1, hok⟩ := hq
    obtain ⟨q, rfl⟩ := Int.eq_ofNat_of_zero_le h0
    exact te_core q k r b i s d p m sp n cap R disp w hm h40 Q k2 r2 b2 i2 s2 d2 p2 m2 kk e2 (puR q ⟨k, r, b, i, s, d, p, m⟩ : Nat) 0 (rB k r b i s d p m)
      (fun W v => SL W v (puN ⟨k, r, b, i, s, d, p, m⟩) (fun j => (puZ q ⟨k, r, b, i, s, d, p, m⟩ j : Nat))) (UL (partL k b i)) hT1 hT2
      (fun W hW => (put_any q (by omega) ⟨k, r, b, i, s, d, p, m⟩ hok W (hm.below hW)).mono fun e w' ⟨v, he, hv, hb⟩ => ⟨v, he, hv, hb⟩)
      (fun W hW => (rput_any q (by omega) ⟨k, r, b, i, s, d, p, m⟩ hok hd0 hd1 W).mono fun e w' ⟨v, he, hv, hb⟩ => ⟨v, he, hv, hb⟩)
      (fun W W' v h hb => h.below hb) (fun W v1 v2 h1 h2 => SL.same (puZ_lt q _) W v1 v2 h1 h2)
      (fun W hW => right_any k r b i s d p m W hW) hR2 hU1 hU2 (fun W W' v h hb => h.keep hb) (fun W v1 v2 => UL.ints (partL_len k b i) W v1 v2)
  · have hp1 : ∀ W, Mk W → Calls Tryd.prog 15 #[.int .i64 reg, ov k r b i s d p m] W fun e w' => e = .returned (.tuple #[.slice none 0 0, .int .u8 0, .int .i64 2]) ∧ Below W.heap.size W w' := fun W hW => by
      by_cases h0 : reg < 0
      · exact put_lo reg k r b i s d p m W h0
      · by_cases h1 : 15 < reg
        · exact put_hi reg k r b i s d p m W h1
        · exact put_no reg k r b i s d p m W hW (by omega) (by omega) (by
            cases h : rB k r b i s d p m
            · rfl
            · exact absurd ⟨by omega, by omega, h⟩ hq)
    have hp2 : ∀ W, Calls Tryd.prog 16 #[.int .i64 reg, ov k r b i s d p m] W fun e w' => e = .returned (.tuple #[.slice none 0 0, .int .u8 0, .int .i64 2]) ∧ Below W.heap.size W w' := fun W => by
      by_cases h0 : reg < 0
      · exact rput_lo reg k r b i s d p m W h0
      · by_cases h1 : 15 < reg
        · exact rput_hi reg k r b i s d p m W h1
        · exact rput_no reg k r b i s d p m W (by omega) (by omega) (by
            rw [rrB_eq k r b i s d p m hd0 hd1]
            cases h : rB k r b i s d p m
            · rfl
            · exact absurd ⟨by omega, by omega, h⟩ hq)
    exact te_core reg k r b i s d p m sp n cap R disp w hm h40 Q k2 r2 b2 i2 s2 d2 p2 m2 kk e2 0 2 (rB k r b i s d p m)
      (fun W v => v = .slice none 0 0) (UL (partL k b i)) hT1 hT2
      (fun W hW => (hp1 W (hm.below hW)).mono fun e w' ⟨he, hb⟩ => ⟨_, he, rfl, hb⟩)
      (fun W hW => (hp2 W).mono fun e w' ⟨he, hb⟩ => ⟨_, he, rfl, hb⟩)
      (fun W W' v h hb => h) (fun W v1 v2 h1 h2 => by subst h1; subst h2; exact same_nil W)
      (fun W hW => right_any k r b i s d p m W hW) hR2 hU1 hU2 (fun W W' v h hb => h.keep hb) (fun W v1 v2 => UL.ints (partL_len k b i) W v1 v2)
theorem tells_walk (reg k r b i s d : Int) (p : Bool) (m : Int) (ad : Option Addr) (len cap : Nat) (zs : List Int) (R disp : Int) (_g0 : (Lit.int .i64 reg).wf = true)
    (f0 : (Lit.int .u8 k).wf = true) (f1 : (Lit.int .i64 r).wf = true) (f2 : (Lit.int .i64 b).wf = true) (f3 : (Lit.int .i64 i).wf = true) (f4 : (Lit.int .i64 s).wf = true) (f5 : (Lit.int .i64 d).wf = true) (f7 : (Lit.int .i64 m).wf = true)
    {w : World} (hb : BY w ad len cap zs) (hR : (Lit.int .u8 R).wf = true) (_hD : (Lit.int .i64 disp).wf = true) (_W : World) (hm : Mk w) :
    Calls Tryd.prog 3 #[.int .i64 reg, ov k r b i s d p m, .slice ad len cap, .int .u8 R, .int .i64 disp] w fun e w' => e = .returned (.bool true) ∧ Below w.heap.size w w' := by
  have hRb := Go.bounds_u8 hR
  have hdb := Go.bounds_i64 f5
  obtain ⟨x, rfl⟩ := Int.eq_ofNat_of_zero_le hRb.1
  by_cases h40 : 40 < len
  · exact te_out reg k r b i s d p m ad len cap x disp w hm (by omega)
  have ht1 : ∀ W, Below w.heap.size w W → Calls Tryd.prog 13 #[.slice ad len cap, .int .u8 x] W fun e w' => e = .returned (tkV (tkF len (zN zs) x)) ∧ Below W.heap.size W w' :=
    fun W hW => take_any ad len cap (zN zs) x (by omega) W hb.lt (hm.below hW) (hb.bs.below hW) (by omega) hb.cap
  have ht2 : ∀ W, Below w.heap.size w W → Calls Tryd.prog 14 #[.slice ad len cap, .int .u8 x] W fun e w' => e = .returned (tkV (tkF len (zN zs) x)) ∧ Below W.heap.size W w' :=
    fun W hW => rtake_any ad len cap (zN zs) x (by omega) W hb.lt (hb.bs.below hW) hb.cap
  cases hk : tkF len (zN zs) x with
  | none =>
    rw [hk] at ht1 ht2
    exact tells_tail reg k r b i s d p m ad len cap x disp w hm (by omega) (by omega) (by omega) 0 0 0 0 0 0 0 false 0 0 80 ht1 ht2
  | some y =>
    obtain ⟨q, o, kk⟩ := y
    rw [hk] at ht1 ht2
    exact tells_tail reg k r b i s d p m ad len cap x disp w hm (by omega) (by omega) (by omega) q o.k o.r o.b o.i o.s o.d o.p o.m kk 0 ht1 ht2
end Go.Proofs.YtkpnafgmjcnniaaDoor
