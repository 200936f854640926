/- OperandBack, for every operand and all bytes behind. -/
import Derived.Test.YtkpnafgmjcnniaaDoorBl
import Derived.Test.YtkpnafgmjcnniaaDoorRw
import Derived.Test.YtkpnafgmjcnniaaDoorOp
namespace Go.Proofs.YtkpnafgmjcnniaaDoor
open Go.RowKit
set_option linter.unusedVariables false
set_option linter.unusedSimpArgs false
theorem bl_out (reg k r b i s d : Int) (p : Bool) (m : Int) (xa : Option Addr) (xl xc : Nat) (w : World) (hm : Mk w) (h : (20 : Int) < xl) :
    Calls Tryd.prog 4 #[.int .i64 reg, ov k r b i s d p m, .slice xa xl xc] w fun e w' => e = .returned (.bool true) ∧ Below w.heap.size w w' := by
  have HB := Lib.hid ((Below.refl w.heap.size w).alloc (Nat.le_refl _) (ob k r b i s d p m))
  have HM := Lib.hid hm
  clear hm
  go_enter Tryd.func4, Tryd.ntmps4
  go_wp2_with (go_at_call 12; refine (wakes_any _ (HM.out.below HB.out)).mono ?_; rintro e w3 ⟨rfl, hb3⟩)
  go_ret
  exact ⟨rfl, HB.out.trans (hb3.mono HB.out.size)⟩
theorem bl_lo (reg k r b i s d : Int) (p : Bool) (m : Int) (xa : Option Addr) (xl xc : Nat) (w : World) (hm : Mk w) (h20 : (xl : Int) ≤ 20) (h : reg < 0) :
    Calls Tryd.prog 4 #[.int .i64 reg, ov k r b i s d p m, .slice xa xl xc] w fun e w' => e = .returned (.bool true) ∧ Below w.heap.size w w' := by
  have HS := Lib.hid (OS.new w k r b i s d p m)
  have HM := Lib.hid hm
  clear hm
  go_enter Tryd.func4, Tryd.ntmps4
  go_upto_region 1 with fail
  generalize World.alloc _ _ = W0 at *
  obtain ⟨c0, c1, c2, c3, c4, c5, c6, c7⟩ := HS.out.1.c
  have hM0 := HM.out.below HS.out.2
  go_wp2_with fail
  go_at_call 15
  with_reducible refine (put_lo reg k r b i s d p m _ h).mono ?_
  rintro e w1 ⟨rfl, hb1⟩
  have HK := Lib.hid (HS.out.keep hb1)
  clear hb1 c0 c1 c2 c3 c4 c5 c6 c7
  obtain ⟨c0, c1, c2, c3, c4, c5, c6, c7⟩ := HK.out.1.c
  go_wp2_with (first | (go_at_call 12; refine (wakes_any _ (HM.out.below HK.out.2)).mono ?_; rintro e w3 ⟨rfl, hb3⟩))
  go_ret
  exact ⟨rfl, HK.out.2.trans (hb3.mono HK.out.2.size)⟩
theorem bl_hi (reg k r b i s d : Int) (p : Bool) (m : Int) (xa : Option Addr) (xl xc : Nat) (w : World) (hm : Mk w) (h20 : (xl : Int) ≤ 20) (h : 15 < reg) :
    Calls Tryd.prog 4 #[.int .i64 reg, ov k r b i s d p m, .slice xa xl xc] w fun e w' => e = .returned (.bool true) ∧ Below w.heap.size w w' := by
  have HS := Lib.hid (OS.new w k r b i s d p m)
  have HM := Lib.hid hm
  clear hm
  go_enter Tryd.func4, Tryd.ntmps4
  go_upto_region 1 with fail
  generalize World.alloc _ _ = W0 at *
  obtain ⟨c0, c1, c2, c3, c4, c5, c6, c7⟩ := HS.out.1.c
  have hM0 := HM.out.below HS.out.2
  go_wp2_with fail
  go_at_call 15
  with_reducible refine (put_hi reg k r b i s d p m _ h).mono ?_
  rintro e w1 ⟨rfl, hb1⟩
  have HK := Lib.hid (HS.out.keep hb1)
  clear hb1 c0 c1 c2 c3 c4 c5 c6 c7
  obtain ⟨c0, c1, c2, c3, c4, c5, c6, c7⟩ := HK.out.1.c
  go_wp2_with (first | (go_at_call 12; refine (wakes_any _ (HM.out.below HK.out.2)).mono ?_; rintro e w3 ⟨rfl, hb3⟩))
  go_ret
  exact ⟨rfl, HK.out.2.trans (hb3.mono HK.out.2.size)⟩
theorem bl_no (reg k r b i s d : Int) (p : Bool) (m : Int) (xa : Option Addr) (xl xc : Nat) (w : World) (hm : Mk w) (h20 : (xl : Int) ≤ 20) (h0 : 0 ≤ reg) (h1 : reg ≤ 15) (hP : ∀ W, Mk W → Calls Tryd.prog 15 #[.int .i64 reg, ov k r b i s d p m] W fun e w' => e = .returned (.tuple #[.slice none 0 0, .int .u8 0, .int .i64 2]) ∧ Below W.heap.size W w')
    (hR : ∀ W, Calls Tryd.prog 19 #[ov k r b i s d p m] W fun e w' => e = .returned (.bool false) ∧ Below W.heap.size W w') :
    Calls Tryd.prog 4 #[.int .i64 reg, ov k r b i s d p m, .slice xa xl xc] w fun e w' => e = .returned (.bool true) ∧ Below w.heap.size w w' := by
  have HS := Lib.hid (OS.new w k r b i s d p m)
  have HM := Lib.hid hm
  have HP := Lib.hid hP
  have HR := Lib.hid hR
  clear hP hR
  clear hm
  go_enter Tryd.func4, Tryd.ntmps4
  go_upto_region 1 with fail
  generalize World.alloc _ _ = W0 at *
  obtain ⟨c0, c1, c2, c3, c4, c5, c6, c7⟩ := HS.out.1.c
  have hM0 := HM.out.below HS.out.2
  go_wp2_with fail
  go_at_call 15
  with_reducible refine (HP.out _ hM0).mono ?_
  rintro e w1 ⟨rfl, hb1⟩
  have HK := Lib.hid (HS.out.keep hb1)
  clear hb1 c0 c1 c2 c3 c4 c5 c6 c7
  obtain ⟨c0, c1, c2, c3, c4, c5, c6, c7⟩ := HK.out.1.c
  go_wp2_with (first | (go_at_call 19; (with_reducible refine (HR.out _).mono ?_); rintro e w2 ⟨rfl, hb2⟩; have HK2 := Lib.hid (HK.out.keep hb2); clear hb2) | (go_at_call 12; refine (wakes_any _ (HM.out.below HK2.out.2)).mono ?_; rintro e w3 ⟨rfl, hb3⟩))
  go_ret
  exact ⟨rfl, HK2.out.2.trans (hb3.mono HK2.out.2.size)⟩
theorem puN_pos (o : Opd) : 1 ≤ puN o := by
  unfold puN; split
  · omega
  · split
    · omega
    · split <;> omega
theorem BY.sb {w : World} {ad : Option Addr} {len cap : Nat} {zs : List Int} (h : BY w ad len cap zs) (W : World) (hb : Below w.heap.size w W) : SB W (.slice ad len cap) len (fun j => (zN zs j : Nat)) := by
  by_cases hl : len = 0
  · subst hl
    rcases h with ⟨rfl, _, rfl, _⟩ | ⟨x, rfl, _⟩
    · exact .inl ⟨rfl, rfl⟩
    · exact .inr ⟨x, cap, rfl, fun j u hj => by simp [byL] at hj⟩
  · obtain ⟨b, off, rfl, hc⟩ := h.bs.below hb (by omega)
    exact .inr ⟨_, cap, rfl, fun j u hj => by
      obtain ⟨h8, rfl⟩ := byL_at hj
      rw [Addr.add_lit]; exact hc j h8⟩
theorem back_walk (reg k r b i s d : Int) (p : Bool) (m : Int) (xa : Option Addr) (xl xc : Nat) (zs : List Int) (w0 : (Lit.int .i64 reg).wf = true) (w1 : (Lit.int .u8 k).wf = true) (w2 : (Lit.int .i64 r).wf = true) (w3 : (Lit.int .i64 b).wf = true) (w4 : (Lit.int .i64 i).wf = true) (w5 : (Lit.int .i64 s).wf = true) (w6 : (Lit.int .i64 d).wf = true) (w7 : (Lit.int .i64 m).wf = true) {w : World} (hby : BY w xa xl xc zs) (_W : World) (hm : Mk w) :
    Calls Tryd.prog 4 #[.int .i64 reg, ov k r b i s d p m, .slice xa xl xc] w fun e w' => e = .returned (.bool true) ∧ Below w.heap.size w w' := by
  have hdb := Go.bounds_i64 w6
  by_cases h20 : 20 < xl
  · exact bl_out reg k r b i s d p m xa xl xc w hm (by omega)
  have h20' : (xl : Int) ≤ 20 := by omega
  by_cases h0 : reg < 0
  · exact bl_lo reg k r b i s d p m xa xl xc w hm h20' h0
  by_cases h1 : 15 < reg
  · exact bl_hi reg k r b i s d p m xa xl xc w hm h20' h1
  have hR := fun W => rright_any k r b i s d p m W
  rw [rrB_eq k r b i s d p m (by omega) (by omega)] at hR
  cases hq : rB k r b i s d p m
  · rw [hq] at hR
    exact bl_no reg k r b i s d p m xa xl xc w hm h20' (by omega) (by omega) (fun W hW => put_no reg k r b i s d p m W hW (by omega) (by omega) hq) hR
  · rw [hq] at hR
    have h0' : 0 ≤ reg := by omega
    obtain ⟨Q, rfl⟩ := Int.eq_ofNat_of_zero_le h0'
    have hQ : Q < 16 := by omega
    have hok : (⟨k, r, b, i, s, d, p, m⟩ : Opd).ok = true := hq
    generalize ho : (⟨k, r, b, i, s, d, p, m⟩ : Opd) = o at hok
    have hov : ov k r b i s d p m = o.v := by rw [← ho]; rfl
    have hod : o.d = d := by rw [← ho]
    have hp1 := puN_pos o
    have hp6 := puN_le o
    have hRl := puR_lt Q hQ o hok
    obtain ⟨c, hc⟩ : ∃ c, puN o = c + 1 := ⟨puN o - 1, by omega⟩
    have hcI : ((puN o : Nat) : Int) = (c : Int) + 1 := by omega
    exact bl_some Q k r b i s d p m (.slice xa xl xc) xl (fun j => (zN zs j : Nat)) c (fun j => (puZ Q o j : Nat)) (puR Q o : Nat) xl xc xa rfl rfl w hm h20' (by omega) (by omega) (by omega) (by omega) (by omega) (fun W hW => hby.sb W hW)
      (fun W hW => by
        rw [hov]
        refine (put_any Q hQ o hok W hW).mono ?_
        rintro e w' ⟨v, he, ⟨g, cap, hv, hl, hcell⟩, hB⟩
        rw [hc] at hv hl hcell
        refine ⟨g, cap, by rw [he, hv], hl, hcell, ?_, hB⟩
        have h3 := hcell 0 (by omega)
        by_cases hh : g < w'.heap.size
        · exact hh
        · exfalso
          have h0 : w'.heap[g]? = none := Array.getElem?_eq_none (by omega)
          simp [World.cell?, h0] at h3)
      hR
      (fun W g cap hW hl hcell => by
        rw [hov]
        have hzl : ∀ j, catN (c + 1) (puZ Q o) (zN zs) j < 256 := fun j => by
          unfold catN; split
          · exact puZ_lt Q o j
          · exact hby.lt _
        have ht := take_any (some ⟨g, 0, none⟩) (c + 1 + xl) cap (catN (c + 1) (puZ Q o) (zN zs)) (puR Q o) (by omega) W hzl hW (fun _ => ⟨g, 0, rfl, fun j hj => by
          rw [Nat.zero_add, hcell j hj]
          exact congrArg some (congrArg (Value.int .u8) (catF_N (c + 1) _ _ _ _ (fun _ => rfl) (fun _ => rfl) j))⟩) (by omega) hl
        rw [back Q hQ o hok (by rw [hod]; omega) (by rw [hod]; omega) (c + 1 + xl) _ (by omega) (fun j hj => catN_lo (by omega))] at ht
        rw [← hcI]
        exact ht)
      (fun W g cap hW hl hcell => by
        have ht := take_any (some ⟨g, 0, none⟩) c cap (puZ Q o) (puR Q o) (by omega) W (puZ_lt Q o) hW (fun _ => ⟨g, 0, rfl, fun j hj => by rw [Nat.zero_add]; exact hcell j hj⟩) (by omega) hl
        rw [back_less Q hQ o hok (by rw [hod]; omega) (by rw [hod]; omega) c _ (by omega) (fun j _ => rfl)] at ht
        exact ht)
end Go.Proofs.YtkpnafgmjcnniaaDoor
