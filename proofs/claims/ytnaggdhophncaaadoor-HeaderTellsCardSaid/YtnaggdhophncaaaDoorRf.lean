/- The reference's Read. -/
import Derived.Test.YtnaggdhophncaaaDoorRr
import Derived.Test.YtnaggdhophncaaaDoorRw
import Derived.Test.YtnaggdhophncaaaDoorLm
import Derived.Test.YtnaggdhophncaaaDoorSh
namespace Go.Proofs.YtnaggdhophncaaaDoor
open Go.RowKit Go.Shelf
set_option linter.unusedVariables false
set_option linter.unusedSimpArgs false
attribute [local go_sem] Oper.semAt_some
theorem res11 {W : World} {b : Nat} {c : Array Value} {r : Nat} {tm : Array Value} (hp : tm.getD 2 undef = .pointer (some ⟨b, 0, none⟩)) (hr : tm.getD 3 undef = .int .i64 (r : Nat)) (h : W.heap[b]? = some (.cells c 27 (0, 0))) (hs : c.size = 5) : (results Tryd.f11 tm).run Tryd.prog W = .ok (.tuple #[.agg c, .int .i64 (r : Nat)]) W := by
  rw [results_cell_tmp (fn := Tryd.f11) (p := 2) (u := 3) (ty := 27) rfl, hp, hr]
  simp [asAddr, load27_run h hs, Result.andThen]
/-- The result's box. -/
def F0 (w W : World) : Prop := W.heap[w.heap.size]? = some (.cells hz0 27 (0, 0)) ∧ Below w.heap.size w W
theorem F0.new {w : World} : F0 w (w.alloc (.cells hz0 27)) := ⟨heap_alloc_last w _, (Below.refl _ w).alloc (Nat.le_refl _) _⟩
theorem F0.box {w W : World} (h : F0 w W) (cs : Array Value) : W.heap[w.heap.size]? = some (.cells hz0 27 (0, 0)) ∧ (W.alloc (.cells cs 27)).heap[W.heap.size]? = some (.cells cs 27 (0, 0)) ∧ (W.alloc (.cells cs 27)).heap[w.heap.size]? = some (.cells hz0 27 (0, 0)) ∧ w.heap.size < W.heap.size ∧ Below w.heap.size w (W.alloc (.cells cs 27)) :=
  ⟨h.1, heap_alloc_last W _, (heap_alloc_old W _ (Array.getElem?_eq_some_iff.1 h.1).1).trans h.1, (Array.getElem?_eq_some_iff.1 h.1).1, h.2.alloc h.2.size _⟩
def elfS : ByteArray := ⟨#[127, 69, 76, 70]⟩
theorem st_elf {z : Nat → Nat} (h : magZ z = true) : stN 4 z = elfS := by
  unfold magZ magB at h
  simp only [Bool.and_eq_true, beq_iff_eq] at h
  obtain ⟨h0, h1, h2, h3⟩ := h
  unfold stN elfS
  simp [List.range, List.range.loop, h0, h1, h2, h3]
theorem st_not {z : Nat → Nat} (hz : ∀ j, z j < 256) (h : magZ z = false) : stN 4 z ≠ elfS := by
  intro e
  unfold stN elfS at e
  simp [List.range, List.range.loop] at e
  obtain ⟨e0, e1, e2, e3⟩ := e
  have k : ∀ a b : Nat, a < 256 → b < 256 → UInt8.ofNat a = UInt8.ofNat b → a = b := fun a b ha hb e => by
    have := congrArg UInt8.toNat e
    simp at this
    omega
  have f0 := k (z 0) 127 (hz 0) (by decide) e0
  have f1 := k (z 1) 69 (hz 1) (by decide) e1
  have f2 := k (z 2) 76 (hz 2) (by decide) e2
  have f3 := k (z 3) 70 (hz 3) (by decide) e3
  unfold magZ magB at h
  rw [f0, f1, f2, f3] at h
  revert h
  decide
theorem st_list {s : ByteArray} (h : s ≠ elfS) : (s.toList == [127, 69, 76, 70]) = false := by
  rw [Bool.eq_false_iff]
  intro e
  have e1 : s.toList = [127, 69, 76, 70] := eq_of_beq e
  rw [ByteArray.toList_eq] at e1
  apply h
  obtain ⟨d⟩ := s
  unfold elfS
  congr 1
  exact Array.ext' e1
set_option maxRecDepth 100000 in
set_option maxHeartbeats 8000000 in
theorem rread_any (ad : Option Addr) (len cap : Nat) (z : Nat → Nat) (hz : ∀ j, z j < 256) (hl : len ≤ cap) (hm : cap ≤ 9223372036854775807) (w : World) (h : BS w ad len z) :
    Calls Tryd.prog 11 #[.slice ad len cap] w (ReadOf w z len) := by
  have HS := Lib.hid (F0.new (w := w))
  have HBS := Lib.hid (fun W hb => BS.keep (W' := W) h hb)
  clear h
  have hs0 : hz0.size = 5 := rfl
  have ho0 : hz0.all (·.oneCell') = true := by kernel_rfl
  have HZ0 : Hid ((#[.int .u64 0, .int .u64 0, .int .u64 0, .slice none 0 0, .slice none 0 0] : Array Value) = hz0) := Lib.hid rfl
  go_enter Tryd.func11, Tryd.ntmps11
  go_upto_region 1 with fail
  rw [HZ0.out]
  generalize World.alloc w _ = W1 at HS ⊢
  by_cases h1 : 131072 < len
  · have hE : readE z len = 2 := by unfold readE; rw [if_pos h1]
    have hd : decide ((131072 : Int) < (len : Int)) = true := decide_eq_true (by omega)
    have HE := Lib.hid hE
    clear hE
    go_wp2_with (first | (refine wpList_store27 (u := hz0) (c := hz0) rfl rfl rfl rfl HS.out.1 hs0 hs0 ho0 ?_) | fail)
    have HR := Lib.hid (below_put (c := hz0) HS.out.1 HS.out.2)
    generalize World.setRow _ _ _ = W9 at HR ⊢
    try rw [Exit.noGoto_ret]
    refine bodyPost_ret (res11 (r := 2) rfl rfl HR.out.1 hs0) rfl ?_
    try rw [HRF.out]
    exact .inl ⟨by rw [HE.out]; decide, by rw [HE.out], HR.out.2⟩
  · have hd : decide ((131072 : Int) < (len : Int)) = false := decide_eq_false (by omega)
    by_cases h2 : len < 64
    · have hE : readE z len = 30 := readE_short h2
      have hd2 : decide ((len : Int) < 64) = true := decide_eq_true (by omega)
      have HE := Lib.hid hE
      clear hE
      go_wp2_with (first | (refine wpList_store27 (u := hz0) (c := hz0) rfl rfl rfl rfl HS.out.1 hs0 hs0 ho0 ?_) | fail)
      have HR := Lib.hid (below_put (c := hz0) HS.out.1 HS.out.2)
      generalize World.setRow _ _ _ = W9 at HR ⊢
      try rw [Exit.noGoto_ret]
      refine bodyPost_ret (res11 (r := 30) rfl rfl HR.out.1 hs0) rfl ?_
      try rw [HRF.out]
      exact .inl ⟨by rw [HE.out]; decide, by rw [HE.out], HR.out.2⟩
    · have hd2 : decide ((len : Int) < 64) = false := decide_eq_false (by omega)
      obtain ⟨b, off, rfl, hcc⟩ := HBS.out W1 HS.out.2 (by omega)
      have hst := st_run W1 b off cap 4 z hz (fun j hj => hcc j (by omega))
      clear hcc
      have hi4 : 4 ≤ (cap : Int) := by omega
      by_cases h3 : magZ z = true
      rotate_left
      · have hE : readE z len = 31 := readE_mag (by omega) (by omega) (Bool.eq_false_iff.2 h3)
        have hne := st_list (st_not hz (Bool.eq_false_iff.2 h3))
        generalize stN 4 z = sz at hst hne
        have HE := Lib.hid hE
        clear hE
        go_wp2_with (first | (refine wpList_store27 (u := hz0) (c := hz0) rfl rfl rfl rfl HS.out.1 hs0 hs0 ho0 ?_) | fail)
        have HR := Lib.hid (below_put (c := hz0) HS.out.1 HS.out.2)
        generalize World.setRow _ _ _ = W9 at HR ⊢
        try rw [Exit.noGoto_ret]
        refine bodyPost_ret (res11 (r := 31) rfl rfl HR.out.1 hs0) rfl ?_
        try rw [HRF.out]
        exact .inl ⟨by rw [HE.out]; decide, by rw [HE.out], HR.out.2⟩
      · rw [st_elf h3] at hst
        unfold elfS at hst
        have HK := Lib.hid (fun W hb => rright_any (some ⟨b, off, none⟩) len cap z hz (by omega) hl hm W (HBS.out W hb))
        have HNN := Lib.hid (fun o s h1 h8 ho W hb => rat_any (some ⟨b, off, none⟩) len cap z hz o s h1 h8 ho hl hm W (HBS.out W hb))
        by_cases h4 : kindsB z = true
        rotate_left
        · rw [Bool.eq_false_iff.2 h4] at HK
          have hE : readE z len = 32 := readE_kind (by omega) (by omega) h3 (Bool.eq_false_iff.2 h4)
          go_wp2_with fail
          go_at_call 28
          refine (HK.out _ HS.out.2).mono ?_
          rintro e W4 ⟨rfl, h9⟩
          rw [h9]
          clear h9
          have HE := Lib.hid hE
          clear hE
          go_wp2_with (first | (refine wpList_store27 (u := hz0) (c := hz0) rfl rfl rfl rfl HS.out.1 hs0 hs0 ho0 ?_) | fail)
          have HR := Lib.hid (below_put (c := hz0) HS.out.1 HS.out.2)
          generalize World.setRow _ _ _ = W9 at HR ⊢
          try rw [Exit.noGoto_ret]
          refine bodyPost_ret (res11 (r := 32) rfl rfl HR.out.1 hs0) rfl ?_
          try rw [HRF.out]
          exact .inl ⟨by rw [HE.out]; decide, by rw [HE.out], HR.out.2⟩
        · rw [h4] at HK
          go_wp2_with fail
          go_at_call 28
          refine (HK.out _ HS.out.2).mono ?_
          rintro e W4 ⟨rfl, h9⟩
          rw [h9]
          clear h9
          have HRE : Hid (readE z len = if !placeB z len then 33 else 0) := Lib.hid (by
            cases hp : placeB z len
            · exact readE_place (by omega) (by omega) h3 h4 hp
            · exact readE_of h1 h2 h3 h4 hp)
          have h64 : 64 ≤ len := by omega
          have hlm : len ≤ 131072 := by omega
          have hkb := h4
          unfold kindsB at hkb
          simp only [Bool.and_eq_true, decide_eq_true_eq] at hkb
          have hn1 : numZ z 56 2 ≤ 16 := hkb.2.1
          have hn2 : numZ z 60 2 ≤ 32 := hkb.2.2
          have hso : numZ z 32 8 < 18446744073709551616 := numZ_lt z hz 32 8
          have hsc : numZ z 40 8 < 18446744073709551616 := numZ_lt z hz 40 8
          have HP : Hid (placeB z len = (withB len (numZ z 32 8) (numZ z 56 2) 56 && withB len (numZ z 40 8) (numZ z 60 2) 64)) := Lib.hid rfl
          have HC1 := Lib.hid (HNN.out 24 8 (by decide) (by decide) (by omega) W1 HS.out.2)
          have HC2 := Lib.hid (HNN.out 32 8 (by decide) (by decide) (by omega) W1 HS.out.2)
          have HC3 := Lib.hid (HNN.out 40 8 (by decide) (by decide) (by omega) W1 HS.out.2)
          have HC4 := Lib.hid (fun W hb => HNN.out 56 2 (by decide) (by decide) (by omega) W hb)
          have HC5 := Lib.hid (fun W hb => HNN.out 60 2 (by decide) (by decide) (by omega) W hb)
          have HRF : Hid (ReadOf w z len = ReadP w (readE z len) (numZ z 24 8) (numZ z 32 8) (numZ z 40 8) (numZ z 56 2) (numZ z 60 2) z) := Lib.hid rfl
          clear h1 h2 h3 h4 HK hd hd2 hi4 hkb hst HNN
          generalize readE z len = re at *
          generalize placeB z len = pb at *
          generalize numZ z 24 8 = en at *
          generalize numZ z 32 8 = so at *
          generalize numZ z 40 8 = sc at *
          generalize numZ z 56 2 = ns at *
          generalize numZ z 60 2 = nc at *
          go_wp2_with fail
          go_at_call 29
          refine (HC1.out).mono ?_
          first | (rintro e W9 rfl h9) | (rintro e W9 ⟨rfl, h9⟩)
          rw [h9]
          clear h9
          go_wp2_with fail
          go_at_call 29
          refine (HC2.out).mono ?_
          first | (rintro e W9 rfl h9) | (rintro e W9 ⟨rfl, h9⟩)
          rw [h9]
          clear h9
          go_wp2_with fail
          go_at_call 29
          refine (HC3.out).mono ?_
          first | (rintro e W9 rfl h9) | (rintro e W9 ⟨rfl, h9⟩)
          rw [h9]
          clear h9
          clear HC1 HC2 HC3
          go_upto_region 10 with fail
          have HB5 := Lib.hid (HS.out.box (hcv en so sc (.slice none 0 0) (.slice none 0 0)))
          unfold hcv at HB5
          generalize World.alloc W1 _ = W5 at HB5 ⊢
          generalize W1.heap.size = H at HB5 ⊢
          go_wp2_with fail
          go_at_call 29
          refine (HC4.out _ HB5.out.2.2.2.2).mono ?_
          first | (rintro e W9 rfl h9) | (rintro e W9 ⟨rfl, h9⟩)
          rw [h9]
          clear h9
          go_wp2_with fail
          go_at_call 29
          refine (HC5.out _ HB5.out.2.2.2.2).mono ?_
          first | (rintro e W9 rfl h9) | (rintro e W9 ⟨rfl, h9⟩)
          rw [h9]
          clear h9
          clear HC4 HC5 HS
          have c1 := cell_at (i := 1) (v := .int .u64 (so : Nat)) HB5.out.2.1 rfl
          have c2 := cell_at (i := 2) (v := .int .u64 (sc : Nat)) HB5.out.2.1 rfl
          obtain ⟨M1, hM1⟩ : ∃ M1 : Nat, M1 = ns * 56 := ⟨_, rfl⟩
          obtain ⟨M2, hM2⟩ : ∃ M2 : Nat, M2 = nc * 64 := ⟨_, rfl⟩
          have u1 : IntKind.u64.wrap (56 * (ns : Int)) = (M1 : Int) := by rw [IntWalk.u64_in _ (by omega)]; omega
          have u2 : IntKind.u64.wrap (64 * (nc : Int)) = (M2 : Int) := by rw [IntWalk.u64_in _ (by omega)]; omega
          have HW1 := Lib.hid (fun W => rwithin_any so M1 len (by omega) W)
          have HW2 := Lib.hid (fun W => rwithin_any sc M2 len (by omega) W)
          have HP1 := Lib.hid (fun hn => with_same len so ns 56 hn)
          have HP2 := Lib.hid (fun hn => with_same len sc nc 64 hn)
          have HM := Lib.hid (And.intro hM1 hM2)
          rw [← hM1] at HP1
          rw [← hM2] at HP2
          clear hM1 hM2
          by_cases z1 : ns = 0
          · have HB1 : Hid (withB len so ns 56 = true) := Lib.hid (by unfold withB; rw [z1]; rfl)
            rw [HB1.out] at HP
            have g1 : decide ((0 : Int) < (ns : Int)) = false := decide_eq_false (by omega)
            have g1' : decide (0 < ns) = false := decide_eq_false (by omega)
            have Z1 := Lib.hid z1
            clear z1
            by_cases z2 : nc = 0
            · have HB2 : Hid (withB len sc nc 64 = true) := Lib.hid (by unfold withB; rw [z2]; rfl)
              rw [HB2.out] at HP
              have g2 : decide ((0 : Int) < (nc : Int)) = false := decide_eq_false (by omega)
              have g2' : decide (0 < nc) = false := decide_eq_false (by omega)
              have Z2 := Lib.hid z2
              clear z2
              have HE : Hid (re = 0) := Lib.hid (by rw [HRE.out, HP.out]; rfl)
              clear HRE HP
              have HHW : Hid (w.heap.size < H) := Lib.hid HB5.out.2.2.2.1
              clear HW1 HW2 c1 c2 u1 u2
              have HL0 : Hid (LS W5 H (hcv en so sc (.slice none 0 0) (.slice none 0 0)) 30 7 (.slice none 0 0) 0 (rowsL segC z so 56 0) W5) := Lib.hid (LS.start HB5.out.2.1)
              obtain ⟨i0, hi, hz0', hz1, hz2⟩ := info_parts infoE30
              have HI0 := Lib.hid (And.intro hi (And.intro hz0' (And.intro hz1 hz2)))
              clear hi hz0' hz1 hz2
              have HLT1 : Hid (H < W5.heap.size) := Lib.hid (Array.getElem?_eq_some_iff.1 HB5.out.2.1).1
              go_wp2_with fail
              go_loopw [7] (fun i W => ∃ (k : Nat) (v : Value), k ≤ ns ∧ i = .int .u64 k ∧ Hid (LS W5 H (hcv en so sc v (.slice none 0 0)) 30 7 v k (rowsL segC z so 56 k) W)) (fun i _ => ns - (intOf i).toNat)
              case atStart => exact ⟨0, _, by omega, rfl, HL0⟩
              case round =>
                clear HL0
                obtain ⟨k, v, hk, rfl, HL⟩ := hrel
                by_cases hlt : k < ns
                · exfalso
                  have := Z1.out
                  omega
                · obtain rfl : ns = k := by omega
                  obtain ⟨a1, p1, rfl⟩ := owns_slice HL.out.2.1
                  have HL1 := HL
                  clear HL
                  generalize wr = WA at HL1 ⊢
                  have HBA := Lib.hid (HL1.out.below HB5.out.2.2.2.2 (by have := HHW.out; omega))
                  have HL0 : Hid (LS WA H (hcv en so sc (.slice a1 ns p1) (.slice none 0 0)) 32 5 (.slice none 0 0) 0 (rowsL secC z sc 64 0) WA) := Lib.hid (LS.start HL1.out.1)
                  obtain ⟨i0, hi, hz0', hz1, hz2⟩ := info_parts infoE32
                  have HI0 := Lib.hid (And.intro hi (And.intro hz0' (And.intro hz1 hz2)))
                  clear hi hz0' hz1 hz2
                  have HLT2 : Hid (H < WA.heap.size) := Lib.hid (Array.getElem?_eq_some_iff.1 HL1.out.1).1
                  go_wp2_with fail
                  go_loopw [10] (fun i W => ∃ (k : Nat) (v : Value), k ≤ nc ∧ i = .int .u64 k ∧ Hid (LS WA H (hcv en so sc (.slice a1 ns p1) v) 32 5 v k (rowsL secC z sc 64 k) W)) (fun i _ => nc - (intOf i).toNat)
                  case atStart => exact ⟨0, _, by omega, rfl, HL0⟩
                  case round =>
                    clear HL0
                    obtain ⟨k, v, hk, rfl, HL⟩ := hrel
                    by_cases hlt : k < nc
                    · exfalso
                      have := Z2.out
                      omega
                    · obtain rfl : nc = k := by omega
                      obtain ⟨a2, p2, rfl⟩ := owns_slice HL.out.2.1
                      have HL2 := HL
                      clear HL
                      generalize wr = WB at HL2 ⊢
                      have HBB := Lib.hid (HL2.out.below HBA.out (by have := HHW.out; omega))
                      have hres : WB.heap[w.heap.size]? = some (.cells hz0 27 (0, 0)) := by
                        have h5 := HB5.out.2.2.1
                        have hl5 := (Array.getElem?_eq_some_iff.1 h5).1
                        have hA := (HL1.out.2.2.block w.heap.size hl5 (by intro e; have := Option.some.inj e; have := HHW.out; omega)).trans h5
                        exact (HL2.out.2.2.block w.heap.size (Array.getElem?_eq_some_iff.1 hA).1 (by intro e; have := Option.some.inj e; have := HHW.out; omega)).trans hA
                      have hsz : (hcv en so sc (.slice a1 ns p1) (.slice a2 nc p2)).size = 5 := rfl
                      have hone : (hcv en so sc (.slice a1 ns p1) (.slice a2 nc p2)).all (·.oneCell') = true := by kernel_rfl
                      go_wp2_with (first | (refine wpList_load27 (b := H) (c := hcv en so sc (.slice a1 ns p1) (.slice a2 nc p2)) rfl rfl rfl HL2.out.1 rfl ?_) | (refine wpList_store27 (b := w.heap.size) (u := hz0) (c := hcv en so sc (.slice a1 ns p1) (.slice a2 nc p2)) rfl rfl rfl rfl hres hs0 hsz hone ?_) | fail)
                      have HR := Lib.hid (below_put (c := hcv en so sc (.slice a1 ns p1) (.slice a2 nc p2)) hres HBB.out)
                      have HO1 := Lib.hid (owns_set (HL2.out.other HL1.out.2.1 (by have := HLT1.out; omega)) (Nat.lt_trans HHW.out HLT1.out) (hcv en so sc (.slice a1 ns p1) (.slice a2 nc p2)))
                      have HO2 := Lib.hid (owns_set HL2.out.2.1 (Nat.lt_trans HHW.out HLT2.out) (hcv en so sc (.slice a1 ns p1) (.slice a2 nc p2)))
                      generalize World.setRow _ _ _ = W9 at HR HO1 HO2 ⊢
                      try rw [Exit.noGoto_ret]
                      refine bodyPost_ret (res11 (r := 0) rfl rfl HR.out.1 rfl) rfl ?_
                      rw [HRF.out]
                      exact .inr ⟨HE.out, _, _, rfl, owns_lower HO1.out (by have h1 := HLT1.out; have h2 := HHW.out; omega), owns_lower HO2.out (by have h1 := HLT2.out; have h2 := HHW.out; omega), HR.out.2⟩
            · have g2 : decide ((0 : Int) < (nc : Int)) = true := decide_eq_true (by omega)
              cases hb2 : rwithB sc M2 len
              · rw [hb2] at HW2
                rw [HP2.out z2, hb2] at HP
                have hE : re = 33 := by rw [HRE.out, HP.out]; first | rfl | simp
                clear HRE HP
                go_wp2_with fail
                go_at_call 30
                refine (HW2.out _).mono ?_
                first | (rintro e W9 rfl h9) | (rintro e W9 ⟨rfl, h9⟩)
                rw [h9]
                clear h9
                have HE := Lib.hid hE
                clear hE
                go_wp2_with (first | (refine wpList_store27 (u := hz0) (c := hz0) rfl rfl rfl rfl HB5.out.2.2.1 hs0 hs0 ho0 ?_) | fail)
                have HR := Lib.hid (below_put (c := hz0) HB5.out.2.2.1 HB5.out.2.2.2.2)
                generalize World.setRow _ _ _ = W9 at HR ⊢
                try rw [Exit.noGoto_ret]
                refine bodyPost_ret (res11 (r := 33) rfl rfl HR.out.1 hs0) rfl ?_
                try rw [HRF.out]
                exact .inl ⟨by rw [HE.out]; decide, by rw [HE.out], HR.out.2⟩
              · rw [hb2] at HW2
                have HB2 : Hid (withB len sc nc 64 = true) := Lib.hid ((HP2.out z2).trans hb2)
                rw [HB2.out] at HP
                have HE : Hid (re = 0) := Lib.hid (by rw [HRE.out, HP.out]; rfl)
                clear HRE HP
                go_wp2_with fail
                go_at_call 30
                refine (HW2.out _).mono ?_
                first | (rintro e W9 rfl h9) | (rintro e W9 ⟨rfl, h9⟩)
                rw [h9]
                clear h9
                have HHW : Hid (w.heap.size < H) := Lib.hid HB5.out.2.2.2.1
                clear HW1 HW2 c1 c2 u1 u2
                have HL0 : Hid (LS W5 H (hcv en so sc (.slice none 0 0) (.slice none 0 0)) 30 7 (.slice none 0 0) 0 (rowsL segC z so 56 0) W5) := Lib.hid (LS.start HB5.out.2.1)
                obtain ⟨i0, hi, hz0', hz1, hz2⟩ := info_parts infoE30
                have HI0 := Lib.hid (And.intro hi (And.intro hz0' (And.intro hz1 hz2)))
                clear hi hz0' hz1 hz2
                have HLT1 : Hid (H < W5.heap.size) := Lib.hid (Array.getElem?_eq_some_iff.1 HB5.out.2.1).1
                go_wp2_with fail
                go_loopw [7] (fun i W => ∃ (k : Nat) (v : Value), k ≤ ns ∧ i = .int .u64 k ∧ Hid (LS W5 H (hcv en so sc v (.slice none 0 0)) 30 7 v k (rowsL segC z so 56 k) W)) (fun i _ => ns - (intOf i).toNat)
                case atStart => exact ⟨0, _, by omega, rfl, HL0⟩
                case round =>
                  clear HL0
                  obtain ⟨k, v, hk, rfl, HL⟩ := hrel
                  by_cases hlt : k < ns
                  · exfalso
                    have := Z1.out
                    omega
                  · obtain rfl : ns = k := by omega
                    obtain ⟨a1, p1, rfl⟩ := owns_slice HL.out.2.1
                    have HL1 := HL
                    clear HL
                    generalize wr = WA at HL1 ⊢
                    have HBA := Lib.hid (HL1.out.below HB5.out.2.2.2.2 (by have := HHW.out; omega))
                    have HL0 : Hid (LS WA H (hcv en so sc (.slice a1 ns p1) (.slice none 0 0)) 32 5 (.slice none 0 0) 0 (rowsL secC z sc 64 0) WA) := Lib.hid (LS.start HL1.out.1)
                    obtain ⟨i0, hi, hz0', hz1, hz2⟩ := info_parts infoE32
                    have HI0 := Lib.hid (And.intro hi (And.intro hz0' (And.intro hz1 hz2)))
                    clear hi hz0' hz1 hz2
                    have HLT2 : Hid (H < WA.heap.size) := Lib.hid (Array.getElem?_eq_some_iff.1 HL1.out.1).1
                    go_wp2_with fail
                    go_loopw [10] (fun i W => ∃ (k : Nat) (v : Value), k ≤ nc ∧ i = .int .u64 k ∧ Hid (LS WA H (hcv en so sc (.slice a1 ns p1) v) 32 5 v k (rowsL secC z sc 64 k) W)) (fun i _ => nc - (intOf i).toNat)
                    case atStart => exact ⟨0, _, by omega, rfl, HL0⟩
                    case round =>
                      clear HL0
                      obtain ⟨k, v, hk, rfl, HL⟩ := hrel
                      by_cases hlt : k < nc
                      · obtain ⟨hle, hfit⟩ := with_yes HB2.out (by omega : 0 < nc)
                        have hks : (k + 1) * 64 ≤ nc * 64 := Nat.mul_le_mul_right _ (by omega)
                        have c1 := cell_at (i := 2) (v := .int .u64 (sc : Nat)) HL.out.1 rfl
                        have u2 : IntKind.u64.wrap (64 * (k : Int)) = 64 * (k : Int) := IntWalk.u64_in _ (by omega)
                        have u3 : IntKind.u64.wrap ((sc : Int) + 64 * (k : Int)) = (sc : Int) + 64 * (k : Int) := IntWalk.u64_in _ (by omega)
                        have u4 : IntKind.u64.wrap ((k : Int) + 1) = (k : Int) + 1 := IntWalk.u64_in _ (by omega)
                        have hi0 : 0 ≤ (sc : Int) + 64 * (k : Int) := by omega
                        have hi1 : (sc : Int) + 64 * (k : Int) ≤ (len : Int) := by omega
                        have ht : ((sc : Int) + 64 * (k : Int)).toNat = sc + k * 64 := by omega
                        have hne : ¬ cap = sc + k * 64 := by omega
                        have hbs : BS wr (some ⟨b, off + (sc + k * 64), none⟩) (len - (sc + k * 64)) (shZ z (sc + k * 64)) := bs_part (HBS.out wr (HL.out.below HBA.out (by have := HHW.out; omega))) _
                        have HT := Lib.hid (rtake_sec _ _ (cap - (sc + k * 64)) (shZ z (sc + k * 64)) (fun j => hz _) (by omega) (by omega) (by omega) wr hbs)
                        clear hbs
                        go_wp2_with fail
                        go_at_call 23
                        refine HT.out.mono ?_
                        rintro e W9 ⟨rfl, h9⟩
                        have HL9 := Lib.hid (HL.out.keep h9)
                        have HRW : Hid (rowsL secC z sc 64 (k + 1) = rowsL secC z sc 64 k ++ [.int .u32 (numZ (shZ z (sc + k * 64)) 4 4 : Nat), .int .u64 (numZ (shZ z (sc + k * 64)) 24 8 : Nat), .int .u64 (numZ (shZ z (sc + k * 64)) 32 8 : Nat), .int .u32 (numZ (shZ z (sc + k * 64)) 40 4 : Nat), .int .u64 (numZ (shZ z (sc + k * 64)) 56 8 : Nat)]) := Lib.hid (by rw [rowsL_succ]; rfl)
                        clear h9 HT HL c1 u2 u3 hi0 hi1 ht hne
                        generalize numZ (shZ z (sc + k * 64)) 4 4 = n0 at *
                        generalize numZ (shZ z (sc + k * 64)) 24 8 = n1 at *
                        generalize numZ (shZ z (sc + k * 64)) 32 8 = n2 at *
                        generalize numZ (shZ z (sc + k * 64)) 40 4 = n3 at *
                        generalize numZ (shZ z (sc + k * 64)) 56 8 = n4 at *
                        generalize shZ z (sc + k * 64) = zz at *
                        go_upto_region 22 with fail
                        have HN := Lib.hid (cells_newL W9 [.int .u32 (n0 : Nat), .int .u64 (n1 : Nat), .int .u64 (n2 : Nat), .int .u32 (n3 : Nat), .int .u64 (n4 : Nat)] 32)
                        have HLA := Lib.hid (HL9.out.keep ((Below.refl _ W9).alloc (Nat.le_refl _) (.cells #[.int .u32 (n0 : Nat), .int .u64 (n1 : Nat), .int .u64 (n2 : Nat), .int .u32 (n3 : Nat), .int .u64 (n4 : Nat)] 32)))
                        clear HL9
                        generalize World.alloc W9 _ = W10 at HN HLA ⊢
                        generalize W9.heap.size = D at HN ⊢
                        have e0 : W10.cell? ⟨D, 0, none⟩ = some (.int .u32 (n0 : Nat)) := HN.out 0 _ rfl
                        have e1 : W10.cell? ⟨D, 1, none⟩ = some (.int .u64 (n1 : Nat)) := HN.out 1 _ rfl
                        have e2 : W10.cell? ⟨D, 2, none⟩ = some (.int .u64 (n2 : Nat)) := HN.out 2 _ rfl
                        have e3 : W10.cell? ⟨D, 3, none⟩ = some (.int .u32 (n3 : Nat)) := HN.out 3 _ rfl
                        have e4 : W10.cell? ⟨D, 4, none⟩ = some (.int .u64 (n4 : Nat)) := HN.out 4 _ rfl
                        have c3 := cell_at (i := 4) (v := v) HLA.out.1 rfl
                        have hlen : (rowsL secC z sc 64 k).length = k * 5 := rowsL_len secC_len z sc 64 k
                        have HLB := Lib.hid (HLA.out.keep ((Below.refl _ W10).alloc (Nat.le_refl _) (.cells #[.int .u32 (n0 : Nat), .int .u64 (n1 : Nat), .int .u64 (n2 : Nat), .int .u32 (n3 : Nat), .int .u64 (n4 : Nat)] 32)))
                        go_wp2_with (first | (at_builtin; refine wpList_append_own _ rfl _ _ 25 rfl WA.heap.size 32 i0 sec0 5 40 Tryd.underlying25 HI0.out.1 HI0.out.2.1 HI0.out.2.2.1 HI0.out.2.2.2 rfl (by decide) v k (rowsL secC z sc 64 k) rfl HLB.out.2.1 ⟨_, 0, none⟩ 1 1 [.int .u32 (n0 : Nat), .int .u64 (n1 : Nat), .int .u64 (n2 : Nat), .int .u32 (n3 : Nat), .int .u64 (n4 : Nat)] rfl rfl (cells_newL _ [.int .u32 (n0 : Nat), .int .u64 (n1 : Nat), .int .u64 (n2 : Nat), .int .u32 (n3 : Nat), .int .u64 (n4 : Nat)] 32) (by intro u hu; simp at hu; rcases hu with rfl | rfl | rfl | rfl | rfl <;> rfl) (by unfold maxLen; omega) (by omega) (HLB.out.2.2.size) ?_) | fail)
                        intro v5 W6 hown hgr _
                        obtain ⟨a5, c5, rfl⟩ := owns_slice hown
                        have HL6 := Lib.hid (HLB.out.app HLT2.out hown hgr)
                        clear hown hgr HLA HLB HN c3
                        have d3 := cell_at (i := 4) (v := v) HL6.out.1 rfl
                        have f3 := frozen_at HL6.out.1 4
                        have HL7 := Lib.hid (HL6.out.set HLT2.out 4 (.slice a5 (k + 1) c5))
                        have hcs : (hcv en so sc (.slice a1 ns p1) v).setIfInBounds 4 (.slice a5 (k + 1) c5) = hcv en so sc (.slice a1 ns p1) (.slice a5 (k + 1) c5) := rfl
                        rw [hcs] at HL7
                        clear hcs
                        go_wp2_with fail
                        go_roundw
                        case rel => exact ⟨k + 1, _, by omega, by go_num, by rw [HRW.out]; exact HL7⟩
                        case measure => simp [intOf]; omega
                      · obtain rfl : nc = k := by omega
                        obtain ⟨a2, p2, rfl⟩ := owns_slice HL.out.2.1
                        have HL2 := HL
                        clear HL
                        generalize wr = WB at HL2 ⊢
                        have HBB := Lib.hid (HL2.out.below HBA.out (by have := HHW.out; omega))
                        have hres : WB.heap[w.heap.size]? = some (.cells hz0 27 (0, 0)) := by
                          have h5 := HB5.out.2.2.1
                          have hl5 := (Array.getElem?_eq_some_iff.1 h5).1
                          have hA := (HL1.out.2.2.block w.heap.size hl5 (by intro e; have := Option.some.inj e; have := HHW.out; omega)).trans h5
                          exact (HL2.out.2.2.block w.heap.size (Array.getElem?_eq_some_iff.1 hA).1 (by intro e; have := Option.some.inj e; have := HHW.out; omega)).trans hA
                        have hsz : (hcv en so sc (.slice a1 ns p1) (.slice a2 nc p2)).size = 5 := rfl
                        have hone : (hcv en so sc (.slice a1 ns p1) (.slice a2 nc p2)).all (·.oneCell') = true := by kernel_rfl
                        go_wp2_with (first | (refine wpList_load27 (b := H) (c := hcv en so sc (.slice a1 ns p1) (.slice a2 nc p2)) rfl rfl rfl HL2.out.1 rfl ?_) | (refine wpList_store27 (b := w.heap.size) (u := hz0) (c := hcv en so sc (.slice a1 ns p1) (.slice a2 nc p2)) rfl rfl rfl rfl hres hs0 hsz hone ?_) | fail)
                        have HR := Lib.hid (below_put (c := hcv en so sc (.slice a1 ns p1) (.slice a2 nc p2)) hres HBB.out)
                        have HO1 := Lib.hid (owns_set (HL2.out.other HL1.out.2.1 (by have := HLT1.out; omega)) (Nat.lt_trans HHW.out HLT1.out) (hcv en so sc (.slice a1 ns p1) (.slice a2 nc p2)))
                        have HO2 := Lib.hid (owns_set HL2.out.2.1 (Nat.lt_trans HHW.out HLT2.out) (hcv en so sc (.slice a1 ns p1) (.slice a2 nc p2)))
                        generalize World.setRow _ _ _ = W9 at HR HO1 HO2 ⊢
                        try rw [Exit.noGoto_ret]
                        refine bodyPost_ret (res11 (r := 0) rfl rfl HR.out.1 rfl) rfl ?_
                        rw [HRF.out]
                        exact .inr ⟨HE.out, _, _, rfl, owns_lower HO1.out (by have h1 := HLT1.out; have h2 := HHW.out; omega), owns_lower HO2.out (by have h1 := HLT2.out; have h2 := HHW.out; omega), HR.out.2⟩
          · have g1 : decide ((0 : Int) < (ns : Int)) = true := decide_eq_true (by omega)
            cases hb1 : rwithB so M1 len
            · rw [hb1] at HW1
              rw [HP1.out z1, hb1] at HP
              have hE : re = 33 := by rw [HRE.out, HP.out]; first | rfl | simp
              clear HRE HP
              go_wp2_with fail
              go_at_call 30
              refine (HW1.out _).mono ?_
              first | (rintro e W9 rfl h9) | (rintro e W9 ⟨rfl, h9⟩)
              rw [h9]
              clear h9
              have HE := Lib.hid hE
              clear hE
              go_wp2_with (first | (refine wpList_store27 (u := hz0) (c := hz0) rfl rfl rfl rfl HB5.out.2.2.1 hs0 hs0 ho0 ?_) | fail)
              have HR := Lib.hid (below_put (c := hz0) HB5.out.2.2.1 HB5.out.2.2.2.2)
              generalize World.setRow _ _ _ = W9 at HR ⊢
              try rw [Exit.noGoto_ret]
              refine bodyPost_ret (res11 (r := 33) rfl rfl HR.out.1 hs0) rfl ?_
              try rw [HRF.out]
              exact .inl ⟨by rw [HE.out]; decide, by rw [HE.out], HR.out.2⟩
            · rw [hb1] at HW1
              have HB1 : Hid (withB len so ns 56 = true) := Lib.hid ((HP1.out z1).trans hb1)
              rw [HB1.out] at HP
              by_cases z2 : nc = 0
              · have HB2 : Hid (withB len sc nc 64 = true) := Lib.hid (by unfold withB; rw [z2]; rfl)
                rw [HB2.out] at HP
                have g2 : decide ((0 : Int) < (nc : Int)) = false := decide_eq_false (by omega)
                have g2' : decide (0 < nc) = false := decide_eq_false (by omega)
                have Z2 := Lib.hid z2
                clear z2
                have HE : Hid (re = 0) := Lib.hid (by rw [HRE.out, HP.out]; rfl)
                clear HRE HP
                go_wp2_with fail
                go_at_call 30
                refine (HW1.out _).mono ?_
                first | (rintro e W9 rfl h9) | (rintro e W9 ⟨rfl, h9⟩)
                rw [h9]
                clear h9
                have HHW : Hid (w.heap.size < H) := Lib.hid HB5.out.2.2.2.1
                clear HW1 HW2 c1 c2 u1 u2
                have HL0 : Hid (LS W5 H (hcv en so sc (.slice none 0 0) (.slice none 0 0)) 30 7 (.slice none 0 0) 0 (rowsL segC z so 56 0) W5) := Lib.hid (LS.start HB5.out.2.1)
                obtain ⟨i0, hi, hz0', hz1, hz2⟩ := info_parts infoE30
                have HI0 := Lib.hid (And.intro hi (And.intro hz0' (And.intro hz1 hz2)))
                clear hi hz0' hz1 hz2
                have HLT1 : Hid (H < W5.heap.size) := Lib.hid (Array.getElem?_eq_some_iff.1 HB5.out.2.1).1
                go_wp2_with fail
                go_loopw [7] (fun i W => ∃ (k : Nat) (v : Value), k ≤ ns ∧ i = .int .u64 k ∧ Hid (LS W5 H (hcv en so sc v (.slice none 0 0)) 30 7 v k (rowsL segC z so 56 k) W)) (fun i _ => ns - (intOf i).toNat)
                case atStart => exact ⟨0, _, by omega, rfl, HL0⟩
                case round =>
                  clear HL0
                  obtain ⟨k, v, hk, rfl, HL⟩ := hrel
                  by_cases hlt : k < ns
                  · obtain ⟨hle, hfit⟩ := with_yes HB1.out (by omega : 0 < ns)
                    have hks : (k + 1) * 56 ≤ ns * 56 := Nat.mul_le_mul_right _ (by omega)
                    have c1 := cell_at (i := 1) (v := .int .u64 (so : Nat)) HL.out.1 rfl
                    have u2 : IntKind.u64.wrap (56 * (k : Int)) = 56 * (k : Int) := IntWalk.u64_in _ (by omega)
                    have u3 : IntKind.u64.wrap ((so : Int) + 56 * (k : Int)) = (so : Int) + 56 * (k : Int) := IntWalk.u64_in _ (by omega)
                    have u4 : IntKind.u64.wrap ((k : Int) + 1) = (k : Int) + 1 := IntWalk.u64_in _ (by omega)
                    have hi0 : 0 ≤ (so : Int) + 56 * (k : Int) := by omega
                    have hi1 : (so : Int) + 56 * (k : Int) ≤ (len : Int) := by omega
                    have ht : ((so : Int) + 56 * (k : Int)).toNat = so + k * 56 := by omega
                    have hne : ¬ cap = so + k * 56 := by omega
                    have hbs : BS wr (some ⟨b, off + (so + k * 56), none⟩) (len - (so + k * 56)) (shZ z (so + k * 56)) := bs_part (HBS.out wr (HL.out.below HB5.out.2.2.2.2 (by have := HHW.out; omega))) _
                    have HT := Lib.hid (rtake_seg _ _ (cap - (so + k * 56)) (shZ z (so + k * 56)) (fun j => hz _) (by omega) (by omega) (by omega) wr hbs)
                    clear hbs
                    go_wp2_with fail
                    go_at_call 21
                    refine HT.out.mono ?_
                    rintro e W9 ⟨rfl, h9⟩
                    have HL9 := Lib.hid (HL.out.keep h9)
                    have HRW : Hid (rowsL segC z so 56 (k + 1) = rowsL segC z so 56 k ++ [.int .u32 (numZ (shZ z (so + k * 56)) 0 4 : Nat), .int .u32 (numZ (shZ z (so + k * 56)) 4 4 : Nat), .int .u64 (numZ (shZ z (so + k * 56)) 8 8 : Nat), .int .u64 (numZ (shZ z (so + k * 56)) 16 8 : Nat), .int .u64 (numZ (shZ z (so + k * 56)) 32 8 : Nat), .int .u64 (numZ (shZ z (so + k * 56)) 40 8 : Nat), .int .u64 (numZ (shZ z (so + k * 56)) 48 8 : Nat)]) := Lib.hid (by rw [rowsL_succ]; rfl)
                    clear h9 HT HL c1 u2 u3 hi0 hi1 ht hne
                    generalize numZ (shZ z (so + k * 56)) 0 4 = n0 at *
                    generalize numZ (shZ z (so + k * 56)) 4 4 = n1 at *
                    generalize numZ (shZ z (so + k * 56)) 8 8 = n2 at *
                    generalize numZ (shZ z (so + k * 56)) 16 8 = n3 at *
                    generalize numZ (shZ z (so + k * 56)) 32 8 = n4 at *
                    generalize numZ (shZ z (so + k * 56)) 40 8 = n5 at *
                    generalize numZ (shZ z (so + k * 56)) 48 8 = n6 at *
                    generalize shZ z (so + k * 56) = zz at *
                    go_upto_region 17 with fail
                    have HN := Lib.hid (cells_newL W9 [.int .u32 (n0 : Nat), .int .u32 (n1 : Nat), .int .u64 (n2 : Nat), .int .u64 (n3 : Nat), .int .u64 (n4 : Nat), .int .u64 (n5 : Nat), .int .u64 (n6 : Nat)] 30)
                    have HLA := Lib.hid (HL9.out.keep ((Below.refl _ W9).alloc (Nat.le_refl _) (.cells #[.int .u32 (n0 : Nat), .int .u32 (n1 : Nat), .int .u64 (n2 : Nat), .int .u64 (n3 : Nat), .int .u64 (n4 : Nat), .int .u64 (n5 : Nat), .int .u64 (n6 : Nat)] 30)))
                    clear HL9
                    generalize World.alloc W9 _ = W10 at HN HLA ⊢
                    generalize W9.heap.size = D at HN ⊢
                    have e0 : W10.cell? ⟨D, 0, none⟩ = some (.int .u32 (n0 : Nat)) := HN.out 0 _ rfl
                    have e1 : W10.cell? ⟨D, 1, none⟩ = some (.int .u32 (n1 : Nat)) := HN.out 1 _ rfl
                    have e2 : W10.cell? ⟨D, 2, none⟩ = some (.int .u64 (n2 : Nat)) := HN.out 2 _ rfl
                    have e3 : W10.cell? ⟨D, 3, none⟩ = some (.int .u64 (n3 : Nat)) := HN.out 3 _ rfl
                    have e4 : W10.cell? ⟨D, 4, none⟩ = some (.int .u64 (n4 : Nat)) := HN.out 4 _ rfl
                    have e5 : W10.cell? ⟨D, 5, none⟩ = some (.int .u64 (n5 : Nat)) := HN.out 5 _ rfl
                    have e6 : W10.cell? ⟨D, 6, none⟩ = some (.int .u64 (n6 : Nat)) := HN.out 6 _ rfl
                    have c3 := cell_at (i := 3) (v := v) HLA.out.1 rfl
                    have hlen : (rowsL segC z so 56 k).length = k * 7 := rowsL_len segC_len z so 56 k
                    have HLB := Lib.hid (HLA.out.keep ((Below.refl _ W10).alloc (Nat.le_refl _) (.cells #[.int .u32 (n0 : Nat), .int .u32 (n1 : Nat), .int .u64 (n2 : Nat), .int .u64 (n3 : Nat), .int .u64 (n4 : Nat), .int .u64 (n5 : Nat), .int .u64 (n6 : Nat)] 30)))
                    go_wp2_with (first | (at_builtin; refine wpList_append_own _ rfl _ _ 24 rfl W5.heap.size 30 i0 seg0 7 48 Tryd.underlying24 HI0.out.1 HI0.out.2.1 HI0.out.2.2.1 HI0.out.2.2.2 rfl (by decide) v k (rowsL segC z so 56 k) rfl HLB.out.2.1 ⟨_, 0, none⟩ 1 1 [.int .u32 (n0 : Nat), .int .u32 (n1 : Nat), .int .u64 (n2 : Nat), .int .u64 (n3 : Nat), .int .u64 (n4 : Nat), .int .u64 (n5 : Nat), .int .u64 (n6 : Nat)] rfl rfl (cells_newL _ [.int .u32 (n0 : Nat), .int .u32 (n1 : Nat), .int .u64 (n2 : Nat), .int .u64 (n3 : Nat), .int .u64 (n4 : Nat), .int .u64 (n5 : Nat), .int .u64 (n6 : Nat)] 30) (by intro u hu; simp at hu; rcases hu with rfl | rfl | rfl | rfl | rfl | rfl | rfl <;> rfl) (by unfold maxLen; omega) (by omega) (HLB.out.2.2.size) ?_) | fail)
                    intro v5 W6 hown hgr _
                    obtain ⟨a5, c5, rfl⟩ := owns_slice hown
                    have HL6 := Lib.hid (HLB.out.app HLT1.out hown hgr)
                    clear hown hgr HLA HLB HN c3
                    have d3 := cell_at (i := 3) (v := v) HL6.out.1 rfl
                    have f3 := frozen_at HL6.out.1 3
                    have HL7 := Lib.hid (HL6.out.set HLT1.out 3 (.slice a5 (k + 1) c5))
                    have hcs : (hcv en so sc v (.slice none 0 0)).setIfInBounds 3 (.slice a5 (k + 1) c5) = hcv en so sc (.slice a5 (k + 1) c5) (.slice none 0 0) := rfl
                    rw [hcs] at HL7
                    clear hcs
                    go_wp2_with fail
                    go_roundw
                    case rel => exact ⟨k + 1, _, by omega, by go_num, by rw [HRW.out]; exact HL7⟩
                    case measure => simp [intOf]; omega
                  · obtain rfl : ns = k := by omega
                    obtain ⟨a1, p1, rfl⟩ := owns_slice HL.out.2.1
                    have HL1 := HL
                    clear HL
                    generalize wr = WA at HL1 ⊢
                    have HBA := Lib.hid (HL1.out.below HB5.out.2.2.2.2 (by have := HHW.out; omega))
                    have HL0 : Hid (LS WA H (hcv en so sc (.slice a1 ns p1) (.slice none 0 0)) 32 5 (.slice none 0 0) 0 (rowsL secC z sc 64 0) WA) := Lib.hid (LS.start HL1.out.1)
                    obtain ⟨i0, hi, hz0', hz1, hz2⟩ := info_parts infoE32
                    have HI0 := Lib.hid (And.intro hi (And.intro hz0' (And.intro hz1 hz2)))
                    clear hi hz0' hz1 hz2
                    have HLT2 : Hid (H < WA.heap.size) := Lib.hid (Array.getElem?_eq_some_iff.1 HL1.out.1).1
                    go_wp2_with fail
                    go_loopw [10] (fun i W => ∃ (k : Nat) (v : Value), k ≤ nc ∧ i = .int .u64 k ∧ Hid (LS WA H (hcv en so sc (.slice a1 ns p1) v) 32 5 v k (rowsL secC z sc 64 k) W)) (fun i _ => nc - (intOf i).toNat)
                    case atStart => exact ⟨0, _, by omega, rfl, HL0⟩
                    case round =>
                      clear HL0
                      obtain ⟨k, v, hk, rfl, HL⟩ := hrel
                      by_cases hlt : k < nc
                      · exfalso
                        have := Z2.out
                        omega
                      · obtain rfl : nc = k := by omega
                        obtain ⟨a2, p2, rfl⟩ := owns_slice HL.out.2.1
                        have HL2 := HL
                        clear HL
                        generalize wr = WB at HL2 ⊢
                        have HBB := Lib.hid (HL2.out.below HBA.out (by have := HHW.out; omega))
                        have hres : WB.heap[w.heap.size]? = some (.cells hz0 27 (0, 0)) := by
                          have h5 := HB5.out.2.2.1
                          have hl5 := (Array.getElem?_eq_some_iff.1 h5).1
                          have hA := (HL1.out.2.2.block w.heap.size hl5 (by intro e; have := Option.some.inj e; have := HHW.out; omega)).trans h5
                          exact (HL2.out.2.2.block w.heap.size (Array.getElem?_eq_some_iff.1 hA).1 (by intro e; have := Option.some.inj e; have := HHW.out; omega)).trans hA
                        have hsz : (hcv en so sc (.slice a1 ns p1) (.slice a2 nc p2)).size = 5 := rfl
                        have hone : (hcv en so sc (.slice a1 ns p1) (.slice a2 nc p2)).all (·.oneCell') = true := by kernel_rfl
                        go_wp2_with (first | (refine wpList_load27 (b := H) (c := hcv en so sc (.slice a1 ns p1) (.slice a2 nc p2)) rfl rfl rfl HL2.out.1 rfl ?_) | (refine wpList_store27 (b := w.heap.size) (u := hz0) (c := hcv en so sc (.slice a1 ns p1) (.slice a2 nc p2)) rfl rfl rfl rfl hres hs0 hsz hone ?_) | fail)
                        have HR := Lib.hid (below_put (c := hcv en so sc (.slice a1 ns p1) (.slice a2 nc p2)) hres HBB.out)
                        have HO1 := Lib.hid (owns_set (HL2.out.other HL1.out.2.1 (by have := HLT1.out; omega)) (Nat.lt_trans HHW.out HLT1.out) (hcv en so sc (.slice a1 ns p1) (.slice a2 nc p2)))
                        have HO2 := Lib.hid (owns_set HL2.out.2.1 (Nat.lt_trans HHW.out HLT2.out) (hcv en so sc (.slice a1 ns p1) (.slice a2 nc p2)))
                        generalize World.setRow _ _ _ = W9 at HR HO1 HO2 ⊢
                        try rw [Exit.noGoto_ret]
                        refine bodyPost_ret (res11 (r := 0) rfl rfl HR.out.1 rfl) rfl ?_
                        rw [HRF.out]
                        exact .inr ⟨HE.out, _, _, rfl, owns_lower HO1.out (by have h1 := HLT1.out; have h2 := HHW.out; omega), owns_lower HO2.out (by have h1 := HLT2.out; have h2 := HHW.out; omega), HR.out.2⟩
              · have g2 : decide ((0 : Int) < (nc : Int)) = true := decide_eq_true (by omega)
                cases hb2 : rwithB sc M2 len
                · rw [hb2] at HW2
                  rw [HP2.out z2, hb2] at HP
                  have hE : re = 33 := by rw [HRE.out, HP.out]; first | rfl | simp
                  clear HRE HP
                  go_wp2_with fail
                  go_at_call 30
                  refine (HW1.out _).mono ?_
                  first | (rintro e W9 rfl h9) | (rintro e W9 ⟨rfl, h9⟩)
                  rw [h9]
                  clear h9
                  go_wp2_with fail
                  go_at_call 30
                  refine (HW2.out _).mono ?_
                  first | (rintro e W9 rfl h9) | (rintro e W9 ⟨rfl, h9⟩)
                  rw [h9]
                  clear h9
                  have HE := Lib.hid hE
                  clear hE
                  go_wp2_with (first | (refine wpList_store27 (u := hz0) (c := hz0) rfl rfl rfl rfl HB5.out.2.2.1 hs0 hs0 ho0 ?_) | fail)
                  have HR := Lib.hid (below_put (c := hz0) HB5.out.2.2.1 HB5.out.2.2.2.2)
                  generalize World.setRow _ _ _ = W9 at HR ⊢
                  try rw [Exit.noGoto_ret]
                  refine bodyPost_ret (res11 (r := 33) rfl rfl HR.out.1 hs0) rfl ?_
                  try rw [HRF.out]
                  exact .inl ⟨by rw [HE.out]; decide, by rw [HE.out], HR.out.2⟩
                · rw [hb2] at HW2
                  have HB2 : Hid (withB len sc nc 64 = true) := Lib.hid ((HP2.out z2).trans hb2)
                  rw [HB2.out] at HP
                  have HE : Hid (re = 0) := Lib.hid (by rw [HRE.out, HP.out]; rfl)
                  clear HRE HP
                  go_wp2_with fail
                  go_at_call 30
                  refine (HW1.out _).mono ?_
                  first | (rintro e W9 rfl h9) | (rintro e W9 ⟨rfl, h9⟩)
                  rw [h9]
                  clear h9
                  go_wp2_with fail
                  go_at_call 30
                  refine (HW2.out _).mono ?_
                  first | (rintro e W9 rfl h9) | (rintro e W9 ⟨rfl, h9⟩)
                  rw [h9]
                  clear h9
                  have HHW : Hid (w.heap.size < H) := Lib.hid HB5.out.2.2.2.1
                  clear HW1 HW2 c1 c2 u1 u2
                  have HL0 : Hid (LS W5 H (hcv en so sc (.slice none 0 0) (.slice none 0 0)) 30 7 (.slice none 0 0) 0 (rowsL segC z so 56 0) W5) := Lib.hid (LS.start HB5.out.2.1)
                  obtain ⟨i0, hi, hz0', hz1, hz2⟩ := info_parts infoE30
                  have HI0 := Lib.hid (And.intro hi (And.intro hz0' (And.intro hz1 hz2)))
                  clear hi hz0' hz1 hz2
                  have HLT1 : Hid (H < W5.heap.size) := Lib.hid (Array.getElem?_eq_some_iff.1 HB5.out.2.1).1
                  go_wp2_with fail
                  go_loopw [7] (fun i W => ∃ (k : Nat) (v : Value), k ≤ ns ∧ i = .int .u64 k ∧ Hid (LS W5 H (hcv en so sc v (.slice none 0 0)) 30 7 v k (rowsL segC z so 56 k) W)) (fun i _ => ns - (intOf i).toNat)
                  case atStart => exact ⟨0, _, by omega, rfl, HL0⟩
                  case round =>
                    clear HL0
                    obtain ⟨k, v, hk, rfl, HL⟩ := hrel
                    by_cases hlt : k < ns
                    · obtain ⟨hle, hfit⟩ := with_yes HB1.out (by omega : 0 < ns)
                      have hks : (k + 1) * 56 ≤ ns * 56 := Nat.mul_le_mul_right _ (by omega)
                      have c1 := cell_at (i := 1) (v := .int .u64 (so : Nat)) HL.out.1 rfl
                      have u2 : IntKind.u64.wrap (56 * (k : Int)) = 56 * (k : Int) := IntWalk.u64_in _ (by omega)
                      have u3 : IntKind.u64.wrap ((so : Int) + 56 * (k : Int)) = (so : Int) + 56 * (k : Int) := IntWalk.u64_in _ (by omega)
                      have u4 : IntKind.u64.wrap ((k : Int) + 1) = (k : Int) + 1 := IntWalk.u64_in _ (by omega)
                      have hi0 : 0 ≤ (so : Int) + 56 * (k : Int) := by omega
                      have hi1 : (so : Int) + 56 * (k : Int) ≤ (len : Int) := by omega
                      have ht : ((so : Int) + 56 * (k : Int)).toNat = so + k * 56 := by omega
                      have hne : ¬ cap = so + k * 56 := by omega
                      have hbs : BS wr (some ⟨b, off + (so + k * 56), none⟩) (len - (so + k * 56)) (shZ z (so + k * 56)) := bs_part (HBS.out wr (HL.out.below HB5.out.2.2.2.2 (by have := HHW.out; omega))) _
                      have HT := Lib.hid (rtake_seg _ _ (cap - (so + k * 56)) (shZ z (so + k * 56)) (fun j => hz _) (by omega) (by omega) (by omega) wr hbs)
                      clear hbs
                      go_wp2_with fail
                      go_at_call 21
                      refine HT.out.mono ?_
                      rintro e W9 ⟨rfl, h9⟩
                      have HL9 := Lib.hid (HL.out.keep h9)
                      have HRW : Hid (rowsL segC z so 56 (k + 1) = rowsL segC z so 56 k ++ [.int .u32 (numZ (shZ z (so + k * 56)) 0 4 : Nat), .int .u32 (numZ (shZ z (so + k * 56)) 4 4 : Nat), .int .u64 (numZ (shZ z (so + k * 56)) 8 8 : Nat), .int .u64 (numZ (shZ z (so + k * 56)) 16 8 : Nat), .int .u64 (numZ (shZ z (so + k * 56)) 32 8 : Nat), .int .u64 (numZ (shZ z (so + k * 56)) 40 8 : Nat), .int .u64 (numZ (shZ z (so + k * 56)) 48 8 : Nat)]) := Lib.hid (by rw [rowsL_succ]; rfl)
                      clear h9 HT HL c1 u2 u3 hi0 hi1 ht hne
                      generalize numZ (shZ z (so + k * 56)) 0 4 = n0 at *
                      generalize numZ (shZ z (so + k * 56)) 4 4 = n1 at *
                      generalize numZ (shZ z (so + k * 56)) 8 8 = n2 at *
                      generalize numZ (shZ z (so + k * 56)) 16 8 = n3 at *
                      generalize numZ (shZ z (so + k * 56)) 32 8 = n4 at *
                      generalize numZ (shZ z (so + k * 56)) 40 8 = n5 at *
                      generalize numZ (shZ z (so + k * 56)) 48 8 = n6 at *
                      generalize shZ z (so + k * 56) = zz at *
                      go_upto_region 17 with fail
                      have HN := Lib.hid (cells_newL W9 [.int .u32 (n0 : Nat), .int .u32 (n1 : Nat), .int .u64 (n2 : Nat), .int .u64 (n3 : Nat), .int .u64 (n4 : Nat), .int .u64 (n5 : Nat), .int .u64 (n6 : Nat)] 30)
                      have HLA := Lib.hid (HL9.out.keep ((Below.refl _ W9).alloc (Nat.le_refl _) (.cells #[.int .u32 (n0 : Nat), .int .u32 (n1 : Nat), .int .u64 (n2 : Nat), .int .u64 (n3 : Nat), .int .u64 (n4 : Nat), .int .u64 (n5 : Nat), .int .u64 (n6 : Nat)] 30)))
                      clear HL9
                      generalize World.alloc W9 _ = W10 at HN HLA ⊢
                      generalize W9.heap.size = D at HN ⊢
                      have e0 : W10.cell? ⟨D, 0, none⟩ = some (.int .u32 (n0 : Nat)) := HN.out 0 _ rfl
                      have e1 : W10.cell? ⟨D, 1, none⟩ = some (.int .u32 (n1 : Nat)) := HN.out 1 _ rfl
                      have e2 : W10.cell? ⟨D, 2, none⟩ = some (.int .u64 (n2 : Nat)) := HN.out 2 _ rfl
                      have e3 : W10.cell? ⟨D, 3, none⟩ = some (.int .u64 (n3 : Nat)) := HN.out 3 _ rfl
                      have e4 : W10.cell? ⟨D, 4, none⟩ = some (.int .u64 (n4 : Nat)) := HN.out 4 _ rfl
                      have e5 : W10.cell? ⟨D, 5, none⟩ = some (.int .u64 (n5 : Nat)) := HN.out 5 _ rfl
                      have e6 : W10.cell? ⟨D, 6, none⟩ = some (.int .u64 (n6 : Nat)) := HN.out 6 _ rfl
                      have c3 := cell_at (i := 3) (v := v) HLA.out.1 rfl
                      have hlen : (rowsL segC z so 56 k).length = k * 7 := rowsL_len segC_len z so 56 k
                      have HLB := Lib.hid (HLA.out.keep ((Below.refl _ W10).alloc (Nat.le_refl _) (.cells #[.int .u32 (n0 : Nat), .int .u32 (n1 : Nat), .int .u64 (n2 : Nat), .int .u64 (n3 : Nat), .int .u64 (n4 : Nat), .int .u64 (n5 : Nat), .int .u64 (n6 : Nat)] 30)))
                      go_wp2_with (first | (at_builtin; refine wpList_append_own _ rfl _ _ 24 rfl W5.heap.size 30 i0 seg0 7 48 Tryd.underlying24 HI0.out.1 HI0.out.2.1 HI0.out.2.2.1 HI0.out.2.2.2 rfl (by decide) v k (rowsL segC z so 56 k) rfl HLB.out.2.1 ⟨_, 0, none⟩ 1 1 [.int .u32 (n0 : Nat), .int .u32 (n1 : Nat), .int .u64 (n2 : Nat), .int .u64 (n3 : Nat), .int .u64 (n4 : Nat), .int .u64 (n5 : Nat), .int .u64 (n6 : Nat)] rfl rfl (cells_newL _ [.int .u32 (n0 : Nat), .int .u32 (n1 : Nat), .int .u64 (n2 : Nat), .int .u64 (n3 : Nat), .int .u64 (n4 : Nat), .int .u64 (n5 : Nat), .int .u64 (n6 : Nat)] 30) (by intro u hu; simp at hu; rcases hu with rfl | rfl | rfl | rfl | rfl | rfl | rfl <;> rfl) (by unfold maxLen; omega) (by omega) (HLB.out.2.2.size) ?_) | fail)
                      intro v5 W6 hown hgr _
                      obtain ⟨a5, c5, rfl⟩ := owns_slice hown
                      have HL6 := Lib.hid (HLB.out.app HLT1.out hown hgr)
                      clear hown hgr HLA HLB HN c3
                      have d3 := cell_at (i := 3) (v := v) HL6.out.1 rfl
                      have f3 := frozen_at HL6.out.1 3
                      have HL7 := Lib.hid (HL6.out.set HLT1.out 3 (.slice a5 (k + 1) c5))
                      have hcs : (hcv en so sc v (.slice none 0 0)).setIfInBounds 3 (.slice a5 (k + 1) c5) = hcv en so sc (.slice a5 (k + 1) c5) (.slice none 0 0) := rfl
                      rw [hcs] at HL7
                      clear hcs
                      go_wp2_with fail
                      go_roundw
                      case rel => exact ⟨k + 1, _, by omega, by go_num, by rw [HRW.out]; exact HL7⟩
                      case measure => simp [intOf]; omega
                    · obtain rfl : ns = k := by omega
                      obtain ⟨a1, p1, rfl⟩ := owns_slice HL.out.2.1
                      have HL1 := HL
                      clear HL
                      generalize wr = WA at HL1 ⊢
                      have HBA := Lib.hid (HL1.out.below HB5.out.2.2.2.2 (by have := HHW.out; omega))
                      have HL0 : Hid (LS WA H (hcv en so sc (.slice a1 ns p1) (.slice none 0 0)) 32 5 (.slice none 0 0) 0 (rowsL secC z sc 64 0) WA) := Lib.hid (LS.start HL1.out.1)
                      obtain ⟨i0, hi, hz0', hz1, hz2⟩ := info_parts infoE32
                      have HI0 := Lib.hid (And.intro hi (And.intro hz0' (And.intro hz1 hz2)))
                      clear hi hz0' hz1 hz2
                      have HLT2 : Hid (H < WA.heap.size) := Lib.hid (Array.getElem?_eq_some_iff.1 HL1.out.1).1
                      go_wp2_with fail
                      go_loopw [10] (fun i W => ∃ (k : Nat) (v : Value), k ≤ nc ∧ i = .int .u64 k ∧ Hid (LS WA H (hcv en so sc (.slice a1 ns p1) v) 32 5 v k (rowsL secC z sc 64 k) W)) (fun i _ => nc - (intOf i).toNat)
                      case atStart => exact ⟨0, _, by omega, rfl, HL0⟩
                      case round =>
                        clear HL0
                        obtain ⟨k, v, hk, rfl, HL⟩ := hrel
                        by_cases hlt : k < nc
                        · obtain ⟨hle, hfit⟩ := with_yes HB2.out (by omega : 0 < nc)
                          have hks : (k + 1) * 64 ≤ nc * 64 := Nat.mul_le_mul_right _ (by omega)
                          have c1 := cell_at (i := 2) (v := .int .u64 (sc : Nat)) HL.out.1 rfl
                          have u2 : IntKind.u64.wrap (64 * (k : Int)) = 64 * (k : Int) := IntWalk.u64_in _ (by omega)
                          have u3 : IntKind.u64.wrap ((sc : Int) + 64 * (k : Int)) = (sc : Int) + 64 * (k : Int) := IntWalk.u64_in _ (by omega)
                          have u4 : IntKind.u64.wrap ((k : Int) + 1) = (k : Int) + 1 := IntWalk.u64_in _ (by omega)
                          have hi0 : 0 ≤ (sc : Int) + 64 * (k : Int) := by omega
                          have hi1 : (sc : Int) + 64 * (k : Int) ≤ (len : Int) := by omega
                          have ht : ((sc : Int) + 64 * (k : Int)).toNat = sc + k * 64 := by omega
                          have hne : ¬ cap = sc + k * 64 := by omega
                          have hbs : BS wr (some ⟨b, off + (sc + k * 64), none⟩) (len - (sc + k * 64)) (shZ z (sc + k * 64)) := bs_part (HBS.out wr (HL.out.below HBA.out (by have := HHW.out; omega))) _
                          have HT := Lib.hid (rtake_sec _ _ (cap - (sc + k * 64)) (shZ z (sc + k * 64)) (fun j => hz _) (by omega) (by omega) (by omega) wr hbs)
                          clear hbs
                          go_wp2_with fail
                          go_at_call 23
                          refine HT.out.mono ?_
                          rintro e W9 ⟨rfl, h9⟩
                          have HL9 := Lib.hid (HL.out.keep h9)
                          have HRW : Hid (rowsL secC z sc 64 (k + 1) = rowsL secC z sc 64 k ++ [.int .u32 (numZ (shZ z (sc + k * 64)) 4 4 : Nat), .int .u64 (numZ (shZ z (sc + k * 64)) 24 8 : Nat), .int .u64 (numZ (shZ z (sc + k * 64)) 32 8 : Nat), .int .u32 (numZ (shZ z (sc + k * 64)) 40 4 : Nat), .int .u64 (numZ (shZ z (sc + k * 64)) 56 8 : Nat)]) := Lib.hid (by rw [rowsL_succ]; rfl)
                          clear h9 HT HL c1 u2 u3 hi0 hi1 ht hne
                          generalize numZ (shZ z (sc + k * 64)) 4 4 = n0 at *
                          generalize numZ (shZ z (sc + k * 64)) 24 8 = n1 at *
                          generalize numZ (shZ z (sc + k * 64)) 32 8 = n2 at *
                          generalize numZ (shZ z (sc + k * 64)) 40 4 = n3 at *
                          generalize numZ (shZ z (sc + k * 64)) 56 8 = n4 at *
                          generalize shZ z (sc + k * 64) = zz at *
                          go_upto_region 22 with fail
                          have HN := Lib.hid (cells_newL W9 [.int .u32 (n0 : Nat), .int .u64 (n1 : Nat), .int .u64 (n2 : Nat), .int .u32 (n3 : Nat), .int .u64 (n4 : Nat)] 32)
                          have HLA := Lib.hid (HL9.out.keep ((Below.refl _ W9).alloc (Nat.le_refl _) (.cells #[.int .u32 (n0 : Nat), .int .u64 (n1 : Nat), .int .u64 (n2 : Nat), .int .u32 (n3 : Nat), .int .u64 (n4 : Nat)] 32)))
                          clear HL9
                          generalize World.alloc W9 _ = W10 at HN HLA ⊢
                          generalize W9.heap.size = D at HN ⊢
                          have e0 : W10.cell? ⟨D, 0, none⟩ = some (.int .u32 (n0 : Nat)) := HN.out 0 _ rfl
                          have e1 : W10.cell? ⟨D, 1, none⟩ = some (.int .u64 (n1 : Nat)) := HN.out 1 _ rfl
                          have e2 : W10.cell? ⟨D, 2, none⟩ = some (.int .u64 (n2 : Nat)) := HN.out 2 _ rfl
                          have e3 : W10.cell? ⟨D, 3, none⟩ = some (.int .u32 (n3 : Nat)) := HN.out 3 _ rfl
                          have e4 : W10.cell? ⟨D, 4, none⟩ = some (.int .u64 (n4 : Nat)) := HN.out 4 _ rfl
                          have c3 := cell_at (i := 4) (v := v) HLA.out.1 rfl
                          have hlen : (rowsL secC z sc 64 k).length = k * 5 := rowsL_len secC_len z sc 64 k
                          have HLB := Lib.hid (HLA.out.keep ((Below.refl _ W10).alloc (Nat.le_refl _) (.cells #[.int .u32 (n0 : Nat), .int .u64 (n1 : Nat), .int .u64 (n2 : Nat), .int .u32 (n3 : Nat), .int .u64 (n4 : Nat)] 32)))
                          go_wp2_with (first | (at_builtin; refine wpList_append_own _ rfl _ _ 25 rfl WA.heap.size 32 i0 sec0 5 40 Tryd.underlying25 HI0.out.1 HI0.out.2.1 HI0.out.2.2.1 HI0.out.2.2.2 rfl (by decide) v k (rowsL secC z sc 64 k) rfl HLB.out.2.1 ⟨_, 0, none⟩ 1 1 [.int .u32 (n0 : Nat), .int .u64 (n1 : Nat), .int .u64 (n2 : Nat), .int .u32 (n3 : Nat), .int .u64 (n4 : Nat)] rfl rfl (cells_newL _ [.int .u32 (n0 : Nat), .int .u64 (n1 : Nat), .int .u64 (n2 : Nat), .int .u32 (n3 : Nat), .int .u64 (n4 : Nat)] 32) (by intro u hu; simp at hu; rcases hu with rfl | rfl | rfl | rfl | rfl <;> rfl) (by unfold maxLen; omega) (by omega) (HLB.out.2.2.size) ?_) | fail)
                          intro v5 W6 hown hgr _
                          obtain ⟨a5, c5, rfl⟩ := owns_slice hown
                          have HL6 := Lib.hid (HLB.out.app HLT2.out hown hgr)
                          clear hown hgr HLA HLB HN c3
                          have d3 := cell_at (i := 4) (v := v) HL6.out.1 rfl
                          have f3 := frozen_at HL6.out.1 4
                          have HL7 := Lib.hid (HL6.out.set HLT2.out 4 (.slice a5 (k + 1) c5))
                          have hcs : (hcv en so sc (.slice a1 ns p1) v).setIfInBounds 4 (.slice a5 (k + 1) c5) = hcv en so sc (.slice a1 ns p1) (.slice a5 (k + 1) c5) := rfl
                          rw [hcs] at HL7
                          clear hcs
                          go_wp2_with fail
                          go_roundw
                          case rel => exact ⟨k + 1, _, by omega, by go_num, by rw [HRW.out]; exact HL7⟩
                          case measure => simp [intOf]; omega
                        · obtain rfl : nc = k := by omega
                          obtain ⟨a2, p2, rfl⟩ := owns_slice HL.out.2.1
                          have HL2 := HL
                          clear HL
                          generalize wr = WB at HL2 ⊢
                          have HBB := Lib.hid (HL2.out.below HBA.out (by have := HHW.out; omega))
                          have hres : WB.heap[w.heap.size]? = some (.cells hz0 27 (0, 0)) := by
                            have h5 := HB5.out.2.2.1
                            have hl5 := (Array.getElem?_eq_some_iff.1 h5).1
                            have hA := (HL1.out.2.2.block w.heap.size hl5 (by intro e; have := Option.some.inj e; have := HHW.out; omega)).trans h5
                            exact (HL2.out.2.2.block w.heap.size (Array.getElem?_eq_some_iff.1 hA).1 (by intro e; have := Option.some.inj e; have := HHW.out; omega)).trans hA
                          have hsz : (hcv en so sc (.slice a1 ns p1) (.slice a2 nc p2)).size = 5 := rfl
                          have hone : (hcv en so sc (.slice a1 ns p1) (.slice a2 nc p2)).all (·.oneCell') = true := by kernel_rfl
                          go_wp2_with (first | (refine wpList_load27 (b := H) (c := hcv en so sc (.slice a1 ns p1) (.slice a2 nc p2)) rfl rfl rfl HL2.out.1 rfl ?_) | (refine wpList_store27 (b := w.heap.size) (u := hz0) (c := hcv en so sc (.slice a1 ns p1) (.slice a2 nc p2)) rfl rfl rfl rfl hres hs0 hsz hone ?_) | fail)
                          have HR := Lib.hid (below_put (c := hcv en so sc (.slice a1 ns p1) (.slice a2 nc p2)) hres HBB.out)
                          have HO1 := Lib.hid (owns_set (HL2.out.other HL1.out.2.1 (by have := HLT1.out; omega)) (Nat.lt_trans HHW.out HLT1.out) (hcv en so sc (.slice a1 ns p1) (.slice a2 nc p2)))
                          have HO2 := Lib.hid (owns_set HL2.out.2.1 (Nat.lt_trans HHW.out HLT2.out) (hcv en so sc (.slice a1 ns p1) (.slice a2 nc p2)))
                          generalize World.setRow _ _ _ = W9 at HR HO1 HO2 ⊢
                          try rw [Exit.noGoto_ret]
                          refine bodyPost_ret (res11 (r := 0) rfl rfl HR.out.1 rfl) rfl ?_
                          rw [HRF.out]
                          exact .inr ⟨HE.out, _, _, rfl, owns_lower HO1.out (by have h1 := HLT1.out; have h2 := HHW.out; omega), owns_lower HO2.out (by have h1 := HLT2.out; have h2 := HHW.out; omega), HR.out.2⟩
end Go.Proofs.YtnaggdhophncaaaDoor
