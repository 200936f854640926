/- The walk of OperandTells. -/
import Derived.Test.YtkpnafgmjcnniaaDoorPa
import Derived.Test.YtkpnafgmjcnniaaDoorRr
import Derived.Test.YtkpnafgmjcnniaaDoorUs
namespace Go.Proofs.YtkpnafgmjcnniaaDoor
open Go.RowKit
set_option linter.unusedVariables false
set_option linter.unusedSimpArgs false
set_option maxRecDepth 100000 in
theorem te_out (reg k r b i s d : Int) (p : Bool) (m : Int) (sp : Option Addr) (n cap : Nat) (R disp : Int) (w : World) (hm : Mk w) (h : (40 : Int) < n) :
    Calls Tryd.prog 3 #[.int .i64 reg, ov k r b i s d p m, .slice sp n cap, .int .u8 R, .int .i64 disp] w fun e w' => e = .returned (.bool true) ∧ Below w.heap.size w w' := by
  have HM := Lib.hid (hm.alloc (ob k r b i s d p m))
  have HB := Lib.hid ((Below.refl w.heap.size w).alloc (Nat.le_refl _) (ob k r b i s d p m))
  clear hm
  go_enter Tryd.func3, Tryd.ntmps3
  go_wp2_with (go_at_call 12; refine (wakes_any _ HM.out).mono ?_; rintro e w3 ⟨rfl, hb3⟩)
  go_ret
  exact ⟨rfl, HB.out.trans (hb3.mono HB.out.size)⟩
set_option maxRecDepth 100000 in
set_option maxHeartbeats 8000000 in
theorem te_core (reg k r b i s d : Int) (p : Bool) (m : Int) (sp : Option Addr) (n cap : Nat) (R disp : Int) (w : World) (hm : Mk w) (h40 : (n : Int) ≤ 40)
    (Q k2 r2 b2 i2 s2 d2 : Int) (p2 : Bool) (m2 kk e2 rx e3 : Int) (B : Bool) (P U : World → Value → Prop)
    (hT1 : ∀ W, Below w.heap.size w W → Calls Tryd.prog 13 #[.slice sp n cap, .int .u8 R] W fun e w' => e = .returned (.tuple #[.int .i64 Q, ov k2 r2 b2 i2 s2 d2 p2 m2, .int .i64 kk, .int .i64 e2]) ∧ Below W.heap.size W w') (hT2 : ∀ W, Below w.heap.size w W → Calls Tryd.prog 14 #[.slice sp n cap, .int .u8 R] W fun e w' => e = .returned (.tuple #[.int .i64 Q, ov k2 r2 b2 i2 s2 d2 p2 m2, .int .i64 kk, .int .i64 e2]) ∧ Below W.heap.size W w')
    (hP1 : ∀ W, Below w.heap.size w W → Calls Tryd.prog 15 #[.int .i64 reg, ov k r b i s d p m] W fun e w' => ∃ v, e = .returned (.tuple #[v, .int .u8 rx, .int .i64 e3]) ∧ P w' v ∧ Below W.heap.size W w') (hP2 : ∀ W, Below w.heap.size w W → Calls Tryd.prog 16 #[.int .i64 reg, ov k r b i s d p m] W fun e w' => ∃ v, e = .returned (.tuple #[v, .int .u8 rx, .int .i64 e3]) ∧ P w' v ∧ Below W.heap.size W w')
    (hPk : ∀ W W' v, P W v → Below W.heap.size W W' → P W' v) (hS : ∀ W v1 v2, P W v1 → P W v2 → Calls Tryd.prog 17 #[v1, v2] W fun e w' => e = .returned (.bool true) ∧ W = w')
    (hR1 : ∀ W, Mk W → Calls Tryd.prog 18 #[ov k r b i s d p m] W fun e w' => e = .returned (.bool B) ∧ Below W.heap.size W w')
    (hR2 : ∀ W, Calls Tryd.prog 19 #[ov k r b i s d p m] W fun e w' => e = .returned (.bool B) ∧ Below W.heap.size W w')
    (hU1 : ∀ W, Calls Tryd.prog 21 #[ov k r b i s d p m] W fun e w' => ∃ v, e = .returned v ∧ U w' v ∧ Below W.heap.size W w') (hU2 : ∀ W, Calls Tryd.prog 22 #[ov k r b i s d p m] W fun e w' => ∃ v, e = .returned v ∧ U w' v ∧ Below W.heap.size W w')
    (hUk : ∀ W W' v, U W v → Below W.heap.size W W' → U W' v) (hI : ∀ W v1 v2, U W v1 → U W v2 → Calls Tryd.prog 20 #[v1, v2] W fun e w' => ∃ q, e = .returned (.bool true) ∧ w' = W.drewN q) :
    Calls Tryd.prog 3 #[.int .i64 reg, ov k r b i s d p m, .slice sp n cap, .int .u8 R, .int .i64 disp] w fun e w' => e = .returned (.bool true) ∧ Below w.heap.size w w' := by
  have HM := Lib.hid hm
  have HT1 := Lib.hid hT1
  have HT2 := Lib.hid hT2
  have HP1 := Lib.hid hP1
  have HP2 := Lib.hid hP2
  have HPk := Lib.hid hPk
  have HSm := Lib.hid hS
  have HR1 := Lib.hid hR1
  have HR2 := Lib.hid hR2
  have HU1 := Lib.hid hU1
  have HU2 := Lib.hid hU2
  have HUk := Lib.hid hUk
  have HI := Lib.hid hI
  have HS := Lib.hid (OS.new w k r b i s d p m)
  clear hm hT1 hT2 hP1 hP2 hPk hS hR1 hR2 hU1 hU2 hUk hI
  go_enter Tryd.func3, Tryd.ntmps3
  go_upto_region 1 with fail
  generalize World.alloc _ _ = W0 at *
  go_wp2_with fail
  go_at_call 13
  have hz := HS.out.2
  with_reducible refine (HT1.out _ hz).mono ?_
  clear hz
  rintro e w1 ⟨rfl, hb1⟩
  have HS1 := Lib.hid ((HS.out.keep hb1).keep ((Below.refl _ _).alloc (Nat.le_refl _) (ob k2 r2 b2 i2 s2 d2 p2 m2)))
  have HO1 := Lib.hid (O8.new w1 k2 r2 b2 i2 s2 d2 p2 m2)
  clear hb1 HS
  go_upto_region 4 with fail
  generalize World.alloc w1 _ = V1 at *
  generalize w1.heap.size = b1 at *
  go_wp2_with fail
  go_at_call 14
  have hz := HS1.out.2
  with_reducible refine (HT2.out _ hz).mono ?_
  clear hz
  rintro e w2 ⟨rfl, hb2⟩
  have HS2 := Lib.hid ((HS1.out.keep hb2).keep ((Below.refl _ _).alloc (Nat.le_refl _) (ob k2 r2 b2 i2 s2 d2 p2 m2)))
  have HO2 := Lib.hid ((HO1.out.keep hb2).keep ((Below.refl _ _).alloc (Nat.le_refl _) (ob k2 r2 b2 i2 s2 d2 p2 m2)))
  have HQ2 := Lib.hid (O8.new w2 k2 r2 b2 i2 s2 d2 p2 m2)
  clear hb2 HS1 HO1
  go_upto_region 5 with fail
  generalize World.alloc w2 _ = V2 at *
  generalize w2.heap.size = b2' at *
  obtain ⟨c0, c1, c2, c3, c4, c5, c6, c7⟩ := HS2.out.1.c
  go_wp2_with fail
  go_at_call 15
  have hz := HS2.out.2
  with_reducible refine (HP1.out _ hz).mono ?_
  clear hz
  rintro e w3 ⟨v3, rfl, hv3, hb3⟩
  have HS3 := Lib.hid (HS2.out.keep hb3)
  have HO3 := Lib.hid (HO2.out.keep hb3)
  have HQ3 := Lib.hid (HQ2.out.keep hb3)
  have HV3 := Lib.hid hv3
  clear hb3 hv3 HS2 HO2 HQ2 c0 c1 c2 c3 c4 c5 c6 c7
  obtain ⟨c0, c1, c2, c3, c4, c5, c6, c7⟩ := HS3.out.1.c
  go_wp2_with fail
  go_at_call 16
  have hz := HS3.out.2
  with_reducible refine (HP2.out _ hz).mono ?_
  clear hz
  rintro e w4 ⟨v4, rfl, hv4, hb4⟩
  have HS4 := Lib.hid (HS3.out.keep hb4)
  have HO4 := Lib.hid (HO3.out.keep hb4)
  have HQ4 := Lib.hid (HQ3.out.keep hb4)
  have HV4 := Lib.hid hv4
  have HV3' := Lib.hid (HPk.out _ _ _ HV3.out hb4)
  clear hb4 hv4 HS3 HO3 HQ3 HV3 c0 c1 c2 c3 c4 c5 c6 c7
  obtain ⟨c0, c1, c2, c3, c4, c5, c6, c7⟩ := HO4.out.c
  obtain ⟨d0, d1, d2', d3, d4, d5, d6, d7⟩ := HQ4.out.c
  go_upto_region 9 with (go_at_call 17; (with_reducible refine (HSm.out _ _ _ HV3'.out HV4.out).mono ?_); rintro e w5 ⟨rfl, rfl⟩)
  clear HO4 HQ4 HV3' HV4 c0 c1 c2 c3 c4 c5 c6 c7 d0 d1 d2' d3 d4 d5 d6 d7
  refine wp_region_noPanic ?_
  refine wp_region_held_drew (S := fun W => OS w w.heap.size k r b i s d p m W) (by kernel_rfl) ?_ (fun hHeld => ?_)
  · exact HS4.out.drew
  generalize World.drew _ = v0 at hHeld ⊢
  clear HS4
  refine wpAnyH_take (i := 0) (v := ?_) rfl (by kernel_rfl) (by kernel_rfl) (by kernel_rfl) (fun _ _ _ h => h) (Or.inl ⟨by kernel_rfl, ?_⟩) (by assumption) ?_
  rotate_left
  · intro w hSw
    obtain ⟨c0, c1, c2, c3, c4, c5, c6, c7⟩ := hSw.1.c
    go_simp
    try with_reducible rfl
  simp only [Act.put, List.setIfInBounds_toArray, List.set_cons_zero, List.set_cons_succ, List.getElem_toArray, List.getElem_cons_succ, List.getElem_cons_zero]
  refine wpAnyH_take (i := 2) (v := ?_) rfl (by kernel_rfl) (by kernel_rfl) (by kernel_rfl) (fun _ _ _ h => h) (Or.inl ⟨by kernel_rfl, ?_⟩) (by assumption) ?_
  rotate_left
  · intro w hSw
    obtain ⟨c0, c1, c2, c3, c4, c5, c6, c7⟩ := hSw.1.c
    go_simp
    try with_reducible rfl
  simp only [Act.put, List.setIfInBounds_toArray, List.set_cons_zero, List.set_cons_succ, List.getElem_toArray, List.getElem_cons_succ, List.getElem_cons_zero]
  refine wpAnyH_ready (rs := [1]) (by kernel_rfl) (by simp) ?_
  refine AllReadyH.cons rfl (fun K hK => ?_) AllReadyH.nil
  go_simp
  go_at_call 18
  have hz : Mk _ := HM.out.below (show Below w.heap.size w _ from hHeld.2)
  (with_reducible refine (HR1.out _ hz).mono ?_)
  clear hz
  rintro e w5 ⟨rfl, hb5⟩
  refine hK.out _ _ (hHeld.keep hb5) (fun hHeld2 => ?_)
  clear hK K hHeld
  have hHeld := hHeld2
  clear hHeld2
  clear hb5
  try simp only [Act.put, List.setIfInBounds_toArray, List.set_cons_zero, List.set_cons_succ, List.getElem_toArray, List.getElem_cons_succ, List.getElem_cons_zero]
  refine wpAnyH_ready (rs := [3]) (by kernel_rfl) (by simp) ?_
  refine AllReadyH.cons rfl (fun K hK => ?_) AllReadyH.nil
  go_simp
  go_at_call 19
  have hz : Mk _ := HM.out.below (show Below w.heap.size w _ from hHeld.2)
  (with_reducible refine (HR2.out _).mono ?_)
  clear hz
  rintro e w6 ⟨rfl, hb6⟩
  refine hK.out _ _ (hHeld.keep hb6) (fun hHeld2 => ?_)
  clear hK K hHeld
  have hHeld := hHeld2
  clear hHeld2
  clear hb6
  try simp only [Act.put, List.setIfInBounds_toArray, List.set_cons_zero, List.set_cons_succ, List.getElem_toArray, List.getElem_cons_succ, List.getElem_cons_zero]
  refine wpAnyH_take (i := 4) (v := ?_) rfl (by kernel_rfl) (by kernel_rfl) (by kernel_rfl) (fun _ _ _ h => h) (Or.inl ⟨by kernel_rfl, ?_⟩) (by assumption) ?_
  rotate_left
  · intro w hSw
    go_simp
    try with_reducible rfl
  simp only [Act.put, List.setIfInBounds_toArray, List.set_cons_zero, List.set_cons_succ, List.getElem_toArray, List.getElem_cons_succ, List.getElem_cons_zero]
  refine wpAnyH_take (i := 5) (v := ?_) rfl (by kernel_rfl) (by kernel_rfl) (by kernel_rfl) (fun _ _ _ h => h) (Or.inl ⟨by kernel_rfl, ?_⟩) (by assumption) ?_
  rotate_left
  · intro w hSw
    go_simp
    try with_reducible rfl
  simp only [Act.put, List.setIfInBounds_toArray, List.set_cons_zero, List.set_cons_succ, List.getElem_toArray, List.getElem_cons_succ, List.getElem_cons_zero]
  refine wpAnyH_take (i := 6) (v := ?_) rfl (by kernel_rfl) (by kernel_rfl) (by kernel_rfl) (fun _ _ _ h => h) (Or.inl ⟨by kernel_rfl, ?_⟩) (by assumption) ?_
  rotate_left
  · intro w hSw
    obtain ⟨c0, c1, c2, c3, c4, c5, c6, c7⟩ := hSw.1.c
    go_simp
    try with_reducible rfl
  simp only [Act.put, List.setIfInBounds_toArray, List.set_cons_zero, List.set_cons_succ, List.getElem_toArray, List.getElem_cons_succ, List.getElem_cons_zero]
  refine wpAnyH_take (i := 8) (v := ?_) rfl (by kernel_rfl) (by kernel_rfl) (by kernel_rfl) (fun _ _ _ h => h) (Or.inl ⟨by kernel_rfl, ?_⟩) (by assumption) ?_
  rotate_left
  · intro w hSw
    obtain ⟨c0, c1, c2, c3, c4, c5, c6, c7⟩ := hSw.1.c
    go_simp
    try with_reducible rfl
  simp only [Act.put, List.setIfInBounds_toArray, List.set_cons_zero, List.set_cons_succ, List.getElem_toArray, List.getElem_cons_succ, List.getElem_cons_zero]
  refine wpAnyH_ready (rs := [7]) (by kernel_rfl) (by simp) ?_
  refine AllReadyH.cons rfl (fun K hK => ?_) AllReadyH.nil
  go_simp
  go_at_call 21
  have hz : Mk _ := HM.out.below (show Below w.heap.size w _ from hHeld.2)
  (with_reducible refine (HU1.out _).mono ?_)
  clear hz
  rintro e w7 ⟨v7, rfl, hv7, hb7⟩
  refine hK.out _ _ (hHeld.keep hb7) (fun hHeld2 => ?_)
  clear hK K hHeld
  have hHeld := hHeld2
  clear hHeld2
  clear hb7
  try simp only [Act.put, List.setIfInBounds_toArray, List.set_cons_zero, List.set_cons_succ, List.getElem_toArray, List.getElem_cons_succ, List.getElem_cons_zero]
  refine wpAnyH_ready (rs := [9]) (by kernel_rfl) (by simp) ?_
  refine AllReadyH.cons rfl (fun K hK => ?_) AllReadyH.nil
  go_simp
  go_at_call 22
  have hz : Mk _ := HM.out.below (show Below w.heap.size w _ from hHeld.2)
  (with_reducible refine (HU2.out _).mono ?_)
  clear hz
  rintro e w8 ⟨v8, rfl, hv8, hb8⟩
  refine hK.out _ _ (hHeld.keep hb8) (fun hHeld2 => ?_)
  clear hK K hHeld
  have hHeld := hHeld2
  clear hHeld2
  replace hv7 := HUk.out _ _ _ hv7 hb8
  clear hb8
  try simp only [Act.put, List.setIfInBounds_toArray, List.set_cons_zero, List.set_cons_succ, List.getElem_toArray, List.getElem_cons_succ, List.getElem_cons_zero]
  refine wpAnyH_ready (rs := [10]) (by kernel_rfl) (by simp) ?_
  refine AllReadyH.cons rfl (fun K hK => ?_) AllReadyH.nil
  go_simp
  go_at_call 20
  have hz : Mk _ := HM.out.below (show Below w.heap.size w _ from hHeld.2)
  (with_reducible refine (HI.out _ _ _ hv7 hv8).mono ?_)
  clear hz
  rintro e w9 ⟨q9, rfl, rfl⟩
  refine hK.out _ _ (hHeld.keep (below_drewN (Below.refl _ _) q9)) (fun hHeld2 => ?_)
  clear hK K hHeld
  have hHeld := hHeld2
  clear hHeld2
  clear hv7 hv8
  try simp only [Act.put, List.setIfInBounds_toArray, List.set_cons_zero, List.set_cons_succ, List.getElem_toArray, List.getElem_cons_succ, List.getElem_cons_zero]
  refine wpAnyH_take (i := 11) (v := ?_) rfl (by kernel_rfl) (by kernel_rfl) (by kernel_rfl) (fun _ _ _ h => h) (Or.inl ⟨by kernel_rfl, ?_⟩) (by assumption) ?_
  rotate_left
  · intro w hSw
    go_simp
    try with_reducible rfl
  simp only [Act.put, List.setIfInBounds_toArray, List.set_cons_zero, List.set_cons_succ, List.getElem_toArray, List.getElem_cons_succ, List.getElem_cons_zero]
  refine wpAnyH_take (i := 12) (v := ?_) rfl (by kernel_rfl) (by kernel_rfl) (by kernel_rfl) (fun _ _ _ h => h) (Or.inl ⟨by kernel_rfl, ?_⟩) (by assumption) ?_
  rotate_left
  · intro w hSw
    go_simp
    try with_reducible rfl
  simp only [Act.put, List.setIfInBounds_toArray, List.set_cons_zero, List.set_cons_succ, List.getElem_toArray, List.getElem_cons_succ, List.getElem_cons_zero]
  refine wpAnyH_take (i := 13) (v := ?_) rfl (by kernel_rfl) (by kernel_rfl) (by kernel_rfl) (fun _ _ _ h => h) (Or.inl ⟨by kernel_rfl, ?_⟩) (by assumption) ?_
  rotate_left
  · intro w hSw
    go_simp
    try with_reducible rfl
  simp only [Act.put, List.setIfInBounds_toArray, List.set_cons_zero, List.set_cons_succ, List.getElem_toArray, List.getElem_cons_succ, List.getElem_cons_zero]
  refine wpAnyH_take (i := 15) (v := ?_) rfl (by kernel_rfl) (by kernel_rfl) (by kernel_rfl) (fun _ _ _ h => h) (Or.inl ⟨by kernel_rfl, ?_⟩) (by assumption) ?_
  rotate_left
  · intro w hSw
    go_simp
    try with_reducible rfl
  simp only [Act.put, List.setIfInBounds_toArray, List.set_cons_zero, List.set_cons_succ, List.getElem_toArray, List.getElem_cons_succ, List.getElem_cons_zero]
  refine wpAnyH_ready (rs := [14]) (by kernel_rfl) (by simp) ?_
  refine AllReadyH.cons rfl (fun K hK => ?_) AllReadyH.nil
  go_simp
  go_at_call 23
  have hz : Mk _ := HM.out.below (show Below w.heap.size w _ from hHeld.2)
  (with_reducible refine (reg_any _ _).mono ?_)
  clear hz
  rintro e w10 ⟨rfl, hb10⟩
  refine hK.out _ _ (hHeld.keep hb10) (fun hHeld2 => ?_)
  clear hK K hHeld
  have hHeld := hHeld2
  clear hHeld2
  clear hb10
  try simp only [Act.put, List.setIfInBounds_toArray, List.set_cons_zero, List.set_cons_succ, List.getElem_toArray, List.getElem_cons_succ, List.getElem_cons_zero]
  refine wpAnyH_ready (rs := [16]) (by kernel_rfl) (by simp) ?_
  refine AllReadyH.cons rfl (fun K hK => ?_) AllReadyH.nil
  go_simp
  go_at_call 24
  have hz : Mk _ := HM.out.below (show Below w.heap.size w _ from hHeld.2)
  (with_reducible refine (rreg_any _ _).mono ?_)
  clear hz
  rintro e w11 ⟨rfl, hb11⟩
  refine hK.out _ _ (hHeld.keep hb11) (fun hHeld2 => ?_)
  clear hK K hHeld
  have hHeld := hHeld2
  clear hHeld2
  clear hb11
  try simp only [Act.put, List.setIfInBounds_toArray, List.set_cons_zero, List.set_cons_succ, List.getElem_toArray, List.getElem_cons_succ, List.getElem_cons_zero]
  refine wpAnyH_take (i := 17) (v := ?_) rfl (by kernel_rfl) (by kernel_rfl) (by kernel_rfl) (fun _ _ _ h => h) (Or.inl ⟨by kernel_rfl, ?_⟩) (by assumption) ?_
  rotate_left
  · intro w hSw
    go_simp
    try with_reducible rfl
  simp only [Act.put, List.setIfInBounds_toArray, List.set_cons_zero, List.set_cons_succ, List.getElem_toArray, List.getElem_cons_succ, List.getElem_cons_zero]
  refine wpAnyH_take (i := 18) (v := ?_) rfl (by kernel_rfl) (by kernel_rfl) (by kernel_rfl) (fun _ _ _ h => h) (Or.inl ⟨by kernel_rfl, ?_⟩) (by assumption) ?_
  rotate_left
  · intro w hSw
    go_simp
    try with_reducible rfl
  simp only [Act.put, List.setIfInBounds_toArray, List.set_cons_zero, List.set_cons_succ, List.getElem_toArray, List.getElem_cons_succ, List.getElem_cons_zero]
  refine wpAnyH_take (i := 19) (v := ?_) rfl (by kernel_rfl) (by kernel_rfl) (by kernel_rfl) (fun _ _ _ h => h) (Or.inl ⟨by kernel_rfl, ?_⟩) (by assumption) ?_
  rotate_left
  · intro w hSw
    go_simp
    try with_reducible rfl
  simp only [Act.put, List.setIfInBounds_toArray, List.set_cons_zero, List.set_cons_succ, List.getElem_toArray, List.getElem_cons_succ, List.getElem_cons_zero]
  refine wpAnyH_take (i := 20) (v := ?_) rfl (by kernel_rfl) (by kernel_rfl) (by kernel_rfl) (fun _ _ _ h => h) (Or.inl ⟨by kernel_rfl, ?_⟩) (by assumption) ?_
  rotate_left
  · intro w hSw
    go_simp
    try with_reducible rfl
  simp only [Act.put, List.setIfInBounds_toArray, List.set_cons_zero, List.set_cons_succ, List.getElem_toArray, List.getElem_cons_succ, List.getElem_cons_zero]
  refine wpAnyH_take (i := 21) (v := ?_) rfl (by kernel_rfl) (by kernel_rfl) (by kernel_rfl) (fun _ _ _ h => h) (Or.inl ⟨by kernel_rfl, ?_⟩) (by assumption) ?_
  rotate_left
  · intro w hSw
    go_simp
    try with_reducible rfl
  simp only [Act.put, List.setIfInBounds_toArray, List.set_cons_zero, List.set_cons_succ, List.getElem_toArray, List.getElem_cons_succ, List.getElem_cons_zero]
  refine wpAnyH_take (i := 23) (v := ?_) rfl (by kernel_rfl) (by kernel_rfl) (by kernel_rfl) (fun _ _ _ h => h) (Or.inl ⟨by kernel_rfl, ?_⟩) (by assumption) ?_
  rotate_left
  · intro w hSw
    go_simp
    try with_reducible rfl
  simp only [Act.put, List.setIfInBounds_toArray, List.set_cons_zero, List.set_cons_succ, List.getElem_toArray, List.getElem_cons_succ, List.getElem_cons_zero]
  refine wpAnyH_take (i := 24) (v := ?_) rfl (by kernel_rfl) (by kernel_rfl) (by kernel_rfl) (fun _ _ _ h => h) (Or.inl ⟨by kernel_rfl, ?_⟩) (by assumption) ?_
  rotate_left
  · intro w hSw
    go_simp
    try with_reducible rfl
  simp only [Act.put, List.setIfInBounds_toArray, List.set_cons_zero, List.set_cons_succ, List.getElem_toArray, List.getElem_cons_succ, List.getElem_cons_zero]
  refine wpAnyH_ready (rs := [22]) (by kernel_rfl) (by simp) ?_
  refine AllReadyH.cons rfl (fun K hK => ?_) AllReadyH.nil
  go_simp
  go_at_call 25
  have hz : Mk _ := HM.out.below (show Below w.heap.size w _ from hHeld.2)
  (with_reducible refine (mem_any _ _ _).mono ?_)
  clear hz
  rintro e w12 ⟨rfl, hb12⟩
  refine hK.out _ _ (hHeld.keep hb12) (fun hHeld2 => ?_)
  clear hK K hHeld
  have hHeld := hHeld2
  clear hHeld2
  clear hb12
  try simp only [Act.put, List.setIfInBounds_toArray, List.set_cons_zero, List.set_cons_succ, List.getElem_toArray, List.getElem_cons_succ, List.getElem_cons_zero]
  refine wpAnyH_ready (rs := [25]) (by kernel_rfl) (by simp) ?_
  refine AllReadyH.cons rfl (fun K hK => ?_) AllReadyH.nil
  go_simp
  go_at_call 26
  have hz : Mk _ := HM.out.below (show Below w.heap.size w _ from hHeld.2)
  (with_reducible refine (rmem_any _ _ _).mono ?_)
  clear hz
  rintro e w13 ⟨rfl, hb13⟩
  refine hK.out _ _ (hHeld.keep hb13) (fun hHeld2 => ?_)
  clear hK K hHeld
  have hHeld := hHeld2
  clear hHeld2
  clear hb13
  try simp only [Act.put, List.setIfInBounds_toArray, List.set_cons_zero, List.set_cons_succ, List.getElem_toArray, List.getElem_cons_succ, List.getElem_cons_zero]
  refine wpAnyH_take (i := 26) (v := ?_) rfl (by kernel_rfl) (by kernel_rfl) (by kernel_rfl) (fun _ _ _ h => h) (Or.inl ⟨by kernel_rfl, ?_⟩) (by assumption) ?_
  rotate_left
  · intro w hSw
    go_simp
    try with_reducible rfl
  simp only [Act.put, List.setIfInBounds_toArray, List.set_cons_zero, List.set_cons_succ, List.getElem_toArray, List.getElem_cons_succ, List.getElem_cons_zero]
  refine wpAnyH_take (i := 27) (v := ?_) rfl (by kernel_rfl) (by kernel_rfl) (by kernel_rfl) (fun _ _ _ h => h) (Or.inl ⟨by kernel_rfl, ?_⟩) (by assumption) ?_
  rotate_left
  · intro w hSw
    go_simp
    try with_reducible rfl
  simp only [Act.put, List.setIfInBounds_toArray, List.set_cons_zero, List.set_cons_succ, List.getElem_toArray, List.getElem_cons_succ, List.getElem_cons_zero]
  refine wpAnyH_take (i := 28) (v := ?_) rfl (by kernel_rfl) (by kernel_rfl) (by kernel_rfl) (fun _ _ _ h => h) (Or.inl ⟨by kernel_rfl, ?_⟩) (by assumption) ?_
  rotate_left
  · intro w hSw
    go_simp
    try with_reducible rfl
  simp only [Act.put, List.setIfInBounds_toArray, List.set_cons_zero, List.set_cons_succ, List.getElem_toArray, List.getElem_cons_succ, List.getElem_cons_zero]
  refine wpAnyH_ready (rs := [29]) (by kernel_rfl) (by simp) ?_
  refine AllReadyH.cons rfl (fun K hK => ?_) AllReadyH.nil
  go_simp
  go_at_call 12
  have hz : Mk _ := HM.out.below (show Below w.heap.size w _ from hHeld.2)
  (with_reducible refine (wakes_any _ hz).mono ?_)
  clear hz
  rintro e w14 ⟨rfl, hb14⟩
  refine hK.out _ _ (hHeld.keep hb14) (fun hHeld2 => ?_)
  clear hK K hHeld
  have hHeld := hHeld2
  clear hHeld2
  clear hb14
  try simp only [Act.put, List.setIfInBounds_toArray, List.set_cons_zero, List.set_cons_succ, List.getElem_toArray, List.getElem_cons_succ, List.getElem_cons_zero]
  refine wpAnyH_take (i := 30) (v := ?_) rfl (by kernel_rfl) (by kernel_rfl) (by kernel_rfl) (fun _ _ _ h => h) (Or.inl ⟨by kernel_rfl, ?_⟩) (by assumption) ?_
  rotate_left
  · intro w hSw
    go_simp
    try with_reducible rfl
  simp only [Act.put, List.setIfInBounds_toArray, List.set_cons_zero, List.set_cons_succ, List.getElem_toArray, List.getElem_cons_succ, List.getElem_cons_zero]
  refine wpAnyH_take (i := 31) (v := ?_) rfl (by kernel_rfl) (by kernel_rfl) (by kernel_rfl) (fun _ _ _ h => h) (Or.inl ⟨by kernel_rfl, ?_⟩) (by assumption) ?_
  rotate_left
  · intro w hSw
    go_simp
    try with_reducible rfl
  simp only [Act.put, List.setIfInBounds_toArray, List.set_cons_zero, List.set_cons_succ, List.getElem_toArray, List.getElem_cons_succ, List.getElem_cons_zero]
  refine wpAnyH_done (by kernel_rfl) ?_ _
  refine NoPanic.normal ?_
  go_wp2_with fail
  go_ret
  exact ⟨rfl, hHeld.2⟩
end Go.Proofs.YtkpnafgmjcnniaaDoor
