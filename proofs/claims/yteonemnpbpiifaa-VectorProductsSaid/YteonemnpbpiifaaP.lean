/- The walk of VectorWords. -/
import Derived.Test.YteonemnpbpiifaaM
import Derived.Test.YteonemnpbpiifaaE
namespace Go.Proofs.Yteonemnpbpiifaa
open Go.RowKit Go.Shelf
set_option linter.unusedVariables false
set_option linter.unusedSimpArgs false
attribute [local go_sem] Oper.semAt_some
/-- The slice's bytes. -/
def SC (sp : Option Addr) (len : Nat) (z : Nat → Int) (W : World) : Prop := 0 < len → ∃ b off, sp = some ⟨b, off, none⟩ ∧ ∀ j, j < len → W.cell? ⟨b, off + j, none⟩ = some (.int .u8 (z j))
theorem SC.below {sp : Option Addr} {len : Nat} {z : Nat → Int} {W W' : World} (h : SC sp len z W) (hb : Below W.heap.size W W') : SC sp len z W' := fun hl => by
  obtain ⟨b, off, e, hc⟩ := h hl
  refine ⟨b, off, e, fun j hj => ?_⟩
  have h1 := hc j hj
  have hlt : b < W.heap.size := by
    by_cases hh : b < W.heap.size
    · exact hh
    · exfalso
      have h0 : W.heap[b]? = none := Array.getElem?_eq_none (by omega)
      simp [World.cell?, h0] at h1
  exact (hb.cell (p := ⟨b, off + j, none⟩) hlt).trans h1
def WSt (w : World) (x y : Array Value) (sp : Option Addr) (len : Nat) (z : Nat → Int) (W : World) : Prop := R16 W w.heap.size x ∧ R16 W (w.heap.size + 1) y ∧ SC sp len z W ∧ Below w.heap.size w W
theorem WSt.below {w W W' : World} {x y : Array Value} {sp : Option Addr} {len : Nat} {z : Nat → Int} (h : WSt w x y sp len z W) (hb : Below W.heap.size W W') : WSt w x y sp len z W' :=
  ⟨h.1.keep hb, h.2.1.keep hb, h.2.2.1.below hb, h.2.2.2.trans (hb.mono h.2.2.2.size)⟩
set_option maxRecDepth 100000 in
set_option maxHeartbeats 4000000 in
theorem words_core (x y bl xy : Array Value) (hx : x.size = 16) (hx1 : x.all (·.oneCell') = true) (hy : y.size = 16) (hy1 : y.all (·.oneCell') = true) (lo hi x0 x1 y0 y1 q0 q1 : Int) (sp : Option Addr) (len cap : Nat) (z : Nat → Int) (hlen : len ≤ 40) (hcap : len ≤ cap)
    (h1 : ∀ W, Calls Try.prog 13 #[.int .u64 lo, .int .u64 hi] W fun e W' => e = .returned (.agg bl) ∧ Below W.heap.size W W')
    (h2 : ∀ W, Calls Try.prog 9 #[.agg bl] W fun e W' => e = .returned (.tuple #[.int .u64 lo, .int .u64 hi]) ∧ Below W.heap.size W W')
    (h3 : ∀ W, Calls Try.prog 9 #[.agg x] W fun e W' => e = .returned (.tuple #[.int .u64 x0, .int .u64 x1]) ∧ Below W.heap.size W W')
    (h4 : ∀ W, Calls Try.prog 9 #[.agg y] W fun e W' => e = .returned (.tuple #[.int .u64 y0, .int .u64 y1]) ∧ Below W.heap.size W W')
    (h5 : ∀ W, Calls Try.prog 11 #[.int .u8 36, .agg x, .agg y, .int .u8 0] W fun e W' => e = .returned (.agg xy) ∧ Below W.heap.size W W')
    (h6 : ∀ W, Calls Try.prog 9 #[.agg xy] W fun e W' => e = .returned (.tuple #[.int .u64 q0, .int .u64 q1]) ∧ Below W.heap.size W W')
    (e0 : bits .xor .u64 x0 y0 = q0) (e1 : bits .xor .u64 x1 y1 = q1)
    (h8 : ∀ W, Calls Try.prog 8 #[] W fun e W' => e = .returned (.bool true) ∧ Below W.heap.size W W') (w : World) (hc : SC sp len z w) :
    Calls Try.prog 7 #[.agg x, .agg y, .int .u64 lo, .int .u64 hi, .slice sp len cap] w fun e w' => e = .returned (.bool true) ∧ Below w.heap.size w w' := by
  have H1 := Lib.hid h1
  have H2 := Lib.hid h2
  have H3 := Lib.hid h3
  have H4 := Lib.hid h4
  have H5 := Lib.hid h5
  have H6 := Lib.hid h6
  have H8 := Lib.hid h8
  have E0 := Lib.hid e0
  have E1 := Lib.hid e1
  have hB : Below w.heap.size w ((w.alloc (.cells x 22)).alloc (.cells y 22)) := ((Below.refl _ w).alloc (Nat.le_refl _) _).alloc (by simp) _
  have hs2 := R16.new (w.alloc (.cells x 22)) y hy hy1
  simp only [World.size_alloc] at hs2
  have HS0 : Hid (WSt w x y sp len z ((w.alloc (.cells x 22)).alloc (.cells y 22))) := Lib.hid ⟨(R16.new w x hx hx1).alloc _, hs2, hc.below hB, hB⟩
  clear h1 h2 h3 h4 h5 h6 h8 e0 e1 hB hs2 hc
  have hl40 : ¬ (len : Int) > 40 := by omega
  go_enter Try.func7, Try.ntmps7
  go_upto_region 1 with fail
  generalize World.alloc (World.alloc _ _) _ = W0 at *
  go_wp2_with fail
  go_at_call 13
  refine (H1.out _).mono ?_
  rintro e w1 ⟨rfl, hb1⟩
  have HS1 := Lib.hid (HS0.out.below hb1)
  clear HS0 hb1
  go_wp2_with fail
  go_at_call 9
  refine (H2.out _).mono ?_
  rintro e w2 ⟨rfl, hb1⟩
  have HS2 := Lib.hid (HS1.out.below hb1)
  clear HS1 hb1
  go_wp2_with (first | (refine wpList_load22 rfl rfl rfl HS2.out.1 ?_))
  go_at_call 9
  refine (H3.out _).mono ?_
  rintro e w3 ⟨rfl, hb1⟩
  have HS3 := Lib.hid (HS2.out.below hb1)
  clear HS2 hb1
  go_wp2_with (first | (refine wpList_load22 rfl rfl rfl HS3.out.2.1 ?_))
  go_at_call 9
  refine (H4.out _).mono ?_
  rintro e w4 ⟨rfl, hb1⟩
  have HS4 := Lib.hid (HS3.out.below hb1)
  clear HS3 hb1
  go_wp2_with (first | (refine wpList_load22 rfl rfl rfl HS4.out.1 ?_) | (refine wpList_load22 rfl rfl rfl HS4.out.2.1 ?_))
  go_at_call 11
  refine (H5.out _).mono ?_
  rintro e w5 ⟨rfl, hb1⟩
  have HS5 := Lib.hid (HS4.out.below hb1)
  clear HS4 hb1
  go_wp2_with fail
  go_at_call 9
  refine (H6.out _).mono ?_
  rintro e w6 ⟨rfl, hb1⟩
  have HS6 := Lib.hid (HS5.out.below hb1)
  clear HS5 hb1
  go_wp2_with fail
  go_at_call 15
  refine (of_any sp len cap z _ HS6.out.2.2.1).mono ?_
  rintro e w7 ⟨rfl, hb1⟩
  have HS7 := Lib.hid (HS6.out.below hb1)
  clear HS6 hb1
  generalize hCS : bA (ofF len z) = cs
  have hcs : cs.size = 16 := by rw [← hCS]; exact bA_size _
  have hcs1 : cs.all (·.oneCell') = true := by rw [← hCS]; exact bA_one _
  have HCS := Lib.hid hCS
  clear hCS
  have HC0 := Lib.hid (R16.newz w7)
  have hrow := HC0.out.row hcs hcs1
  have hbw : Below w7.heap.size w7 ((w7.alloc (.cells #[.int .u8 0, .int .u8 0, .int .u8 0, .int .u8 0, .int .u8 0, .int .u8 0, .int .u8 0, .int .u8 0, .int .u8 0, .int .u8 0, .int .u8 0, .int .u8 0, .int .u8 0, .int .u8 0, .int .u8 0, .int .u8 0] 22)).setRow w7.heap.size cs) := below_row ((Below.refl _ _).alloc (Nat.le_refl _) (.cells #[.int .u8 0, .int .u8 0, .int .u8 0, .int .u8 0, .int .u8 0, .int .u8 0, .int .u8 0, .int .u8 0, .int .u8 0, .int .u8 0, .int .u8 0, .int .u8 0, .int .u8 0, .int .u8 0, .int .u8 0, .int .u8 0] 22)) (Nat.le_refl _)
  have HS8 := Lib.hid (HS7.out.below hbw)
  have HR8 := Lib.hid hrow
  have hsz7 := HS7.out.2.2.2.size
  clear HS7 hrow hbw
  go_wp2_with (refine wpList_store22 rfl rfl rfl rfl HC0.out hcs hcs1 ?_)
  generalize World.setRow _ _ _ = W8 at HS8 HR8 ⊢
  clear HC0
  generalize w7.heap.size = bc at *
  go_loopw [20] (fun i W => ∃ k : Nat, k ≤ 16 ∧ i = .int .i64 k ∧ R16 W bc cs ∧ SC sp len z W ∧ Below w.heap.size w W) (fun i _ => 16 - (intOf i).toNat)
  case atStart => exact ⟨0, by omega, rfl, HR8.out, HS8.out.2.2.1, HS8.out.2.2.2⟩
  case round =>
    obtain ⟨k, hk, rfl, hR, hC, hBl⟩ := hrel
    by_cases hk16 : k < 16
    · have hcell : wr.cell? ⟨bc, k, none⟩ = some (.int .u8 (ofF len z k)) := by
        have h := hR
        rw [← HCS.out] at h
        exact RB.cell h k hk16
      have HR := Lib.hid hR
      have HC := Lib.hid hC
      have HBL := Lib.hid hBl
      clear hR hC hBl
      by_cases hkl : k < len
      · obtain ⟨b, off, rfl, hz⟩ := HC.out (by omega)
        have hzk := hz k hkl
        rw [show ofF len z k = z k from if_pos hkl] at hcell
        generalize z k = zk at hcell hzk
        clear hz
        generalize hK : (k : Int) = kk at *
        have hk0 : 0 ≤ kk := by omega
        have hk1 : kk < 16 := by omega
        have hd1 : decide (kk < (len : Int)) = true := by simp; omega
        have hk3 : 1 ≤ (len : Int) - kk := by omega
        have hd2 : decide ((len : Int) ≤ kk) = false := by simp; omega
        rw [show k = kk.toNat by omega] at hcell hzk
        have HK := Lib.hid hK
        have HK1 := Lib.hid (show k + 1 ≤ 16 by omega)
        clear hK hkl hk hk16
        go_wp2_with fail
        go_region
        all_goals
          go_wp2
          refine ⟨⟨k + 1, HK1.out, by rw [← HK.out]; simp, HR.out.drew, HC.out.below (Below.refl _ _).drew, HBL.out.drew⟩, ?_⟩
          have hK := HK.out
          simp [intOf]
          omega
      · rw [show ofF len z k = 0 from if_neg hkl] at hcell
        generalize hK : (k : Int) = kk at *
        have hk0 : 0 ≤ kk := by omega
        have hk1 : kk < 16 := by omega
        have hd1 : decide (kk < (len : Int)) = false := by simp; omega
        have hd2 : decide ((len : Int) ≤ kk) = true := by simp; omega
        rw [show k = kk.toNat by omega] at hcell
        have HK := Lib.hid hK
        have HK1 := Lib.hid (show k + 1 ≤ 16 by omega)
        clear hK hkl hk hk16
        go_wp2_with fail
        go_region
        all_goals
          go_wp2
          refine ⟨⟨k + 1, HK1.out, by rw [← HK.out]; simp, HR.out.drew, HC.out.below (Below.refl _ _).drew, HBL.out.drew⟩, ?_⟩
          have hK := HK.out
          simp [intOf]
          omega
    · obtain rfl : k = 16 := by omega
      have HBL := Lib.hid hBl
      have e0 := E0.out
      have e1 := E1.out
      clear hR hC hBl
      go_wp2_with (go_at_call 8; refine (H8.out _).mono ?_; rintro e w9 ⟨rfl, hb9⟩)
      go_ret
      exact ⟨rfl, HBL.out.trans (hb9.mono HBL.out.size)⟩
end Go.Proofs.Yteonemnpbpiifaa
