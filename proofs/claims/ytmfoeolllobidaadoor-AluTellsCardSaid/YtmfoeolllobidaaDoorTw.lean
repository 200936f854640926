/- The walk of AluTells. -/
import Derived.Test.YtmfoeolllobidaaDoorF5
import Derived.Test.YtmfoeolllobidaaDoorWakes
import Derived.Deep.DeepCutAuto
import Derived.RegionTactic
namespace Go.Proofs.YtmfoeolllobidaaDoor
open Go.RowKit Go.Shelf
set_option linter.unusedSimpArgs false
set_option linter.unusedVariables false
attribute [local go_sem] Oper.semAt_some
set_option maxRecDepth 100000 in
set_option maxHeartbeats 8000000 in
theorem tells_core (K wd n : Int) (a b d ra rs ri rd rn rh rm ul uh vq vr : Nat) (cy c z s o p ok : Bool) (fa0 fa1 fa2 fa3 fa4 fs0 fs1 fs2 fs3 fs4 gl0 gl1 gl2 gl3 gl4 gi0 gi1 gi2 gi3 gi4 gd0 gd1 gd2 gd3 gd4 gn0 gn1 gn2 gn3 gn4 gh0 gh1 gh2 gh3 gh4 gm0 gm1 gm2 gm3 gm4 gu0 gu1 gu2 gu3 gu4 : Bool)
    (hA1 : ∀ W, Mk W → Calls Tryd.prog 8 #[.int .i64 wd, .int .u64 a, .int .u64 b, .bool cy] W fun e w' => e = .returned (.tuple #[.int .u64 (ra : Nat), fl fa0 fa1 fa2 fa3 fa4]) ∧ Below W.heap.size W w')
    (hA2 : ∀ W, Mk W → Calls Tryd.prog 9 #[.int .i64 wd, .int .u64 a, .int .u64 b, .bool cy] W fun e w' => e = .returned (.tuple #[.int .u64 (ra : Nat), fl fa0 fa1 fa2 fa3 fa4]) ∧ Below W.heap.size W w')
    (hS1 : ∀ W, Mk W → Calls Tryd.prog 10 #[.int .i64 wd, .int .u64 a, .int .u64 b, .bool cy] W fun e w' => e = .returned (.tuple #[.int .u64 (rs : Nat), fl fs0 fs1 fs2 fs3 fs4]) ∧ Below W.heap.size W w')
    (hS2 : ∀ W, Mk W → Calls Tryd.prog 11 #[.int .i64 wd, .int .u64 a, .int .u64 b, .bool cy] W fun e w' => e = .returned (.tuple #[.int .u64 (rs : Nat), fl fs0 fs1 fs2 fs3 fs4]) ∧ Below W.heap.size W w')
    (hL1 : ∀ W, Mk W → Calls Tryd.prog 12 #[.int .i64 wd, .int .u64 a] W fun e w' => e = .returned (fl gl0 gl1 gl2 gl3 gl4) ∧ Below W.heap.size W w')
    (hL2 : ∀ W, Mk W → Calls Tryd.prog 13 #[.int .i64 wd, .int .u64 a] W fun e w' => e = .returned (fl gl0 gl1 gl2 gl3 gl4) ∧ Below W.heap.size W w')
    (hI1 : ∀ W, Mk W → Calls Tryd.prog 14 #[.int .i64 wd, .int .u64 a, fl c z s o p] W fun e w' => e = .returned (.tuple #[.int .u64 (ri : Nat), fl gi0 gi1 gi2 gi3 gi4]) ∧ Below W.heap.size W w')
    (hI2 : ∀ W, Mk W → Calls Tryd.prog 15 #[.int .i64 wd, .int .u64 a, fl c z s o p] W fun e w' => e = .returned (.tuple #[.int .u64 (ri : Nat), fl gi0 gi1 gi2 gi3 gi4]) ∧ Below W.heap.size W w')
    (hD1 : ∀ W, Mk W → Calls Tryd.prog 16 #[.int .i64 wd, .int .u64 a, fl c z s o p] W fun e w' => e = .returned (.tuple #[.int .u64 (rd : Nat), fl gd0 gd1 gd2 gd3 gd4]) ∧ Below W.heap.size W w')
    (hD2 : ∀ W, Mk W → Calls Tryd.prog 17 #[.int .i64 wd, .int .u64 a, fl c z s o p] W fun e w' => e = .returned (.tuple #[.int .u64 (rd : Nat), fl gd0 gd1 gd2 gd3 gd4]) ∧ Below W.heap.size W w')
    (hN1 : ∀ W, Mk W → Calls Tryd.prog 18 #[.int .i64 wd, .int .u64 a] W fun e w' => e = .returned (.tuple #[.int .u64 (rn : Nat), fl gn0 gn1 gn2 gn3 gn4]) ∧ Below W.heap.size W w')
    (hN2 : ∀ W, Mk W → Calls Tryd.prog 19 #[.int .i64 wd, .int .u64 a] W fun e w' => e = .returned (.tuple #[.int .u64 (rn : Nat), fl gn0 gn1 gn2 gn3 gn4]) ∧ Below W.heap.size W w')
    (hH1 : ∀ W, Mk W → Calls Tryd.prog 20 #[.int .u8 K, .int .i64 wd, .int .u64 a, .int .u8 n, fl c z s o p] W fun e w' => e = .returned (.tuple #[.int .u64 (rh : Nat), fl gh0 gh1 gh2 gh3 gh4]) ∧ Below W.heap.size W w')
    (hH2 : ∀ W, Mk W → Calls Tryd.prog 21 #[.int .u8 K, .int .i64 wd, .int .u64 a, .int .u8 n, fl c z s o p] W fun e w' => e = .returned (.tuple #[.int .u64 (rh : Nat), fl gh0 gh1 gh2 gh3 gh4]) ∧ Below W.heap.size W w')
    (hM1 : ∀ W, Mk W → Calls Tryd.prog 22 #[.int .i64 wd, .int .u64 a, .int .u64 b] W fun e w' => e = .returned (.tuple #[.int .u64 (rm : Nat), fl gm0 gm1 gm2 gm3 gm4]) ∧ Below W.heap.size W w')
    (hM2 : ∀ W, Mk W → Calls Tryd.prog 23 #[.int .i64 wd, .int .u64 a, .int .u64 b] W fun e w' => e = .returned (.tuple #[.int .u64 (rm : Nat), fl gm0 gm1 gm2 gm3 gm4]) ∧ Below W.heap.size W w')
    (hU1 : ∀ W, Mk W → Calls Tryd.prog 24 #[.int .i64 wd, .int .u64 a, .int .u64 b] W fun e w' => e = .returned (.tuple #[.int .u64 (ul : Nat), .int .u64 (uh : Nat), fl gu0 gu1 gu2 gu3 gu4]) ∧ Below W.heap.size W w')
    (hU2 : ∀ W, Mk W → Calls Tryd.prog 25 #[.int .i64 wd, .int .u64 a, .int .u64 b] W fun e w' => e = .returned (.tuple #[.int .u64 (ul : Nat), .int .u64 (uh : Nat), fl gu0 gu1 gu2 gu3 gu4]) ∧ Below W.heap.size W w')
    (hV1 : ∀ W, Mk W → Calls Tryd.prog 26 #[.int .i64 wd, .int .u64 a, .int .u64 b, .int .u64 d] W fun e w' => e = .returned (.tuple #[.int .u64 (vq : Nat), .int .u64 (vr : Nat), .bool ok]) ∧ Below W.heap.size W w')
    (hV2 : ∀ W, Mk W → Calls Tryd.prog 27 #[.int .i64 wd, .int .u64 a, .int .u64 b, .int .u64 d] W fun e w' => e = .returned (.tuple #[.int .u64 (vq : Nat), .int .u64 (vr : Nat), .bool ok]) ∧ Below W.heap.size W w')
    (w : World) (hm : Mk w) :
    Calls Tryd.prog 3 #[.int .u8 K, .int .i64 wd, .int .u64 a, .int .u64 b, .int .u64 d, .bool cy, .int .u8 n, fl c z s o p] w fun e w' => e = .returned (.bool true) ∧ Below w.heap.size w w' := by
  have HA1 := Lib.hid hA1
  have HA2 := Lib.hid hA2
  have HS1 := Lib.hid hS1
  have HS2 := Lib.hid hS2
  have HL1 := Lib.hid hL1
  have HL2 := Lib.hid hL2
  have HI1 := Lib.hid hI1
  have HI2 := Lib.hid hI2
  have HD1 := Lib.hid hD1
  have HD2 := Lib.hid hD2
  have HN1 := Lib.hid hN1
  have HN2 := Lib.hid hN2
  have HH1 := Lib.hid hH1
  have HH2 := Lib.hid hH2
  have HM1 := Lib.hid hM1
  have HM2 := Lib.hid hM2
  have HU1 := Lib.hid hU1
  have HU2 := Lib.hid hU2
  have HV1 := Lib.hid hV1
  have HV2 := Lib.hid hV2
  have HM := Lib.hid hm
  clear hA1 hA2 hS1 hS2 hL1 hL2 hI1 hI2 hD1 hD2 hN1 hN2 hH1 hH2 hM1 hM2 hU1 hU2 hV1 hV2 hm
  have Xw := Lib.hid (F5.new w c z s o p)
  have HB := Lib.hid ((Below.refl w.heap.size w).alloc (Nat.le_refl _) (Obj.cells #[.bool c, .bool z, .bool s, .bool o, .bool p] 24))
  go_enter Tryd.func3, Tryd.ntmps3
  go_upto_region 1 with fail
  generalize World.alloc _ _ = W0 at Xw HB ⊢
  go_wp2_with fail
  go_at_call 8
  (with_reducible refine (HA1.out _ (HM.out.own HB.out)).mono ?_)
  rintro e w1 ⟨rfl, hb⟩
  have Z := Lib.hid (Xw.out.keep hb)
  clear Xw
  have Xw := Z
  clear Z
  have Z := Lib.hid (HB.out.trans (hb.mono HB.out.size))
  clear HB
  have HB := Z
  clear Z
  clear hb
  have Nfw : w1.heap.size ≠ w.heap.size := by have := Xw.out.lt; simp only [ne_eq]; omega
  have Lf : w.heap.size ≤ w1.heap.size := HB.out.size
  go_upto_region 2 with fail
  have Z := Lib.hid (Xw.out.alloc (Obj.cells #[.bool fa0, .bool fa1, .bool fa2, .bool fa3, .bool fa4] 24))
  clear Xw
  have Xw := Z
  clear Z
  have Z := Lib.hid (HB.out.alloc HB.out.size (Obj.cells #[.bool fa0, .bool fa1, .bool fa2, .bool fa3, .bool fa4] 24))
  clear HB
  have HB := Z
  clear Z
  have Xf := Lib.hid (F5.new w1 fa0 fa1 fa2 fa3 fa4)
  generalize World.alloc w1 _ = W1 at Xw Xf HB ⊢
  generalize w1.heap.size = Bf at Xf Nfw Lf ⊢
  clear w1
  go_wp2_with fail
  go_at_call 9
  (with_reducible refine (HA2.out _ (HM.out.own HB.out)).mono ?_)
  rintro e w1 ⟨rfl, hb⟩
  have Z := Lib.hid (Xw.out.keep hb)
  clear Xw
  have Xw := Z
  clear Z
  have Z := Lib.hid (Xf.out.keep hb)
  clear Xf
  have Xf := Z
  clear Z
  have Z := Lib.hid (HB.out.trans (hb.mono HB.out.size))
  clear HB
  have HB := Z
  clear Z
  clear hb
  have Ngw : w1.heap.size ≠ w.heap.size := by have := Xw.out.lt; simp only [ne_eq]; omega
  have Nfg : Bf ≠ w1.heap.size := by have := Xf.out.lt; simp only [ne_eq]; omega
  have Lg : w.heap.size ≤ w1.heap.size := HB.out.size
  go_upto_region 3 with fail
  have Z := Lib.hid (Xw.out.alloc (Obj.cells #[.bool fa0, .bool fa1, .bool fa2, .bool fa3, .bool fa4] 24))
  clear Xw
  have Xw := Z
  clear Z
  have Z := Lib.hid (Xf.out.alloc (Obj.cells #[.bool fa0, .bool fa1, .bool fa2, .bool fa3, .bool fa4] 24))
  clear Xf
  have Xf := Z
  clear Z
  have Z := Lib.hid (HB.out.alloc HB.out.size (Obj.cells #[.bool fa0, .bool fa1, .bool fa2, .bool fa3, .bool fa4] 24))
  clear HB
  have HB := Z
  clear Z
  have Xg := Lib.hid (F5.new w1 fa0 fa1 fa2 fa3 fa4)
  generalize World.alloc w1 _ = W2 at Xw Xf Xg HB ⊢
  generalize w1.heap.size = Bg at Xg Ngw Nfg Lg ⊢
  clear w1
  go_wp2_with fail
  go_at_call 10
  (with_reducible refine (HS1.out _ (HM.out.own HB.out)).mono ?_)
  rintro e w1 ⟨rfl, hb⟩
  have Z := Lib.hid (Xw.out.keep hb)
  clear Xw
  have Xw := Z
  clear Z
  have Z := Lib.hid (Xf.out.keep hb)
  clear Xf
  have Xf := Z
  clear Z
  have Z := Lib.hid (Xg.out.keep hb)
  clear Xg
  have Xg := Z
  clear Z
  have Z := Lib.hid (HB.out.trans (hb.mono HB.out.size))
  clear HB
  have HB := Z
  clear Z
  clear hb
  have Nhw : w1.heap.size ≠ w.heap.size := by have := Xw.out.lt; simp only [ne_eq]; omega
  have Nfh : Bf ≠ w1.heap.size := by have := Xf.out.lt; simp only [ne_eq]; omega
  have Ngh : Bg ≠ w1.heap.size := by have := Xg.out.lt; simp only [ne_eq]; omega
  have Lh : w.heap.size ≤ w1.heap.size := HB.out.size
  go_upto_region 4 with fail
  have Z := Lib.hid (Xw.out.alloc (Obj.cells #[.bool fs0, .bool fs1, .bool fs2, .bool fs3, .bool fs4] 24))
  clear Xw
  have Xw := Z
  clear Z
  have Z := Lib.hid (Xf.out.alloc (Obj.cells #[.bool fs0, .bool fs1, .bool fs2, .bool fs3, .bool fs4] 24))
  clear Xf
  have Xf := Z
  clear Z
  have Z := Lib.hid (Xg.out.alloc (Obj.cells #[.bool fs0, .bool fs1, .bool fs2, .bool fs3, .bool fs4] 24))
  clear Xg
  have Xg := Z
  clear Z
  have Z := Lib.hid (HB.out.alloc HB.out.size (Obj.cells #[.bool fs0, .bool fs1, .bool fs2, .bool fs3, .bool fs4] 24))
  clear HB
  have HB := Z
  clear Z
  have Xh := Lib.hid (F5.new w1 fs0 fs1 fs2 fs3 fs4)
  generalize World.alloc w1 _ = W3 at Xw Xf Xg Xh HB ⊢
  generalize w1.heap.size = Bh at Xh Nhw Nfh Ngh Lh ⊢
  clear w1
  go_wp2_with fail
  go_at_call 11
  (with_reducible refine (HS2.out _ (HM.out.own HB.out)).mono ?_)
  rintro e w1 ⟨rfl, hb⟩
  have Z := Lib.hid (Xw.out.keep hb)
  clear Xw
  have Xw := Z
  clear Z
  have Z := Lib.hid (Xf.out.keep hb)
  clear Xf
  have Xf := Z
  clear Z
  have Z := Lib.hid (Xg.out.keep hb)
  clear Xg
  have Xg := Z
  clear Z
  have Z := Lib.hid (Xh.out.keep hb)
  clear Xh
  have Xh := Z
  clear Z
  have Z := Lib.hid (HB.out.trans (hb.mono HB.out.size))
  clear HB
  have HB := Z
  clear Z
  clear hb
  have Niw : w1.heap.size ≠ w.heap.size := by have := Xw.out.lt; simp only [ne_eq]; omega
  have Nfi : Bf ≠ w1.heap.size := by have := Xf.out.lt; simp only [ne_eq]; omega
  have Ngi : Bg ≠ w1.heap.size := by have := Xg.out.lt; simp only [ne_eq]; omega
  have Nhi : Bh ≠ w1.heap.size := by have := Xh.out.lt; simp only [ne_eq]; omega
  have Li : w.heap.size ≤ w1.heap.size := HB.out.size
  go_upto_region 5 with fail
  have Z := Lib.hid (Xw.out.alloc (Obj.cells #[.bool fs0, .bool fs1, .bool fs2, .bool fs3, .bool fs4] 24))
  clear Xw
  have Xw := Z
  clear Z
  have Z := Lib.hid (Xf.out.alloc (Obj.cells #[.bool fs0, .bool fs1, .bool fs2, .bool fs3, .bool fs4] 24))
  clear Xf
  have Xf := Z
  clear Z
  have Z := Lib.hid (Xg.out.alloc (Obj.cells #[.bool fs0, .bool fs1, .bool fs2, .bool fs3, .bool fs4] 24))
  clear Xg
  have Xg := Z
  clear Z
  have Z := Lib.hid (Xh.out.alloc (Obj.cells #[.bool fs0, .bool fs1, .bool fs2, .bool fs3, .bool fs4] 24))
  clear Xh
  have Xh := Z
  clear Z
  have Z := Lib.hid (HB.out.alloc HB.out.size (Obj.cells #[.bool fs0, .bool fs1, .bool fs2, .bool fs3, .bool fs4] 24))
  clear HB
  have HB := Z
  clear Z
  have Xi := Lib.hid (F5.new w1 fs0 fs1 fs2 fs3 fs4)
  generalize World.alloc w1 _ = W4 at Xw Xf Xg Xh Xi HB ⊢
  generalize w1.heap.size = Bi at Xi Niw Nfi Ngi Nhi Li ⊢
  clear w1
  obtain ⟨kf0, kf1, kf2, kf3, kf4⟩ := Xf.out.c
  obtain ⟨kg0, kg1, kg2, kg3, kg4⟩ := Xg.out.c
  obtain ⟨kh0, kh1, kh2, kh3, kh4⟩ := Xh.out.c
  obtain ⟨ki0, ki1, ki2, ki3, ki4⟩ := Xi.out.c
  go_wp2_with fail
  go_at_call 12
  (with_reducible refine (HL1.out _ (HM.out.own HB.out)).mono ?_)
  rintro e w1 ⟨rfl, hb⟩
  have Z := Lib.hid (Xw.out.keep hb)
  clear Xw
  have Xw := Z
  clear Z
  have Z := Lib.hid (Xf.out.keep hb)
  clear Xf
  have Xf := Z
  clear Z
  have Z := Lib.hid (Xg.out.keep hb)
  clear Xg
  have Xg := Z
  clear Z
  have Z := Lib.hid (Xh.out.keep hb)
  clear Xh
  have Xh := Z
  clear Z
  have Z := Lib.hid (Xi.out.keep hb)
  clear Xi
  have Xi := Z
  clear Z
  have Z := Lib.hid (HB.out.trans (hb.mono HB.out.size))
  clear HB
  have HB := Z
  clear Z
  clear hb
  clear kf0 kf1 kf2 kf3 kf4
  clear kg0 kg1 kg2 kg3 kg4
  clear kh0 kh1 kh2 kh3 kh4
  clear ki0 ki1 ki2 ki3 ki4
  go_wp2_with fail
  go_at_call 13
  (with_reducible refine (HL2.out _ (HM.out.own HB.out)).mono ?_)
  rintro e w1 ⟨rfl, hb⟩
  have Z := Lib.hid (Xw.out.keep hb)
  clear Xw
  have Xw := Z
  clear Z
  have Z := Lib.hid (Xf.out.keep hb)
  clear Xf
  have Xf := Z
  clear Z
  have Z := Lib.hid (Xg.out.keep hb)
  clear Xg
  have Xg := Z
  clear Z
  have Z := Lib.hid (Xh.out.keep hb)
  clear Xh
  have Xh := Z
  clear Z
  have Z := Lib.hid (Xi.out.keep hb)
  clear Xi
  have Xi := Z
  clear Z
  have Z := Lib.hid (HB.out.trans (hb.mono HB.out.size))
  clear HB
  have HB := Z
  clear Z
  clear hb
  obtain ⟨kw0, kw1, kw2, kw3, kw4⟩ := Xw.out.c
  go_wp2_with fail
  go_at_call 14
  (with_reducible refine (HI1.out _ (HM.out.own HB.out)).mono ?_)
  rintro e w1 ⟨rfl, hb⟩
  have Z := Lib.hid (Xw.out.keep hb)
  clear Xw
  have Xw := Z
  clear Z
  have Z := Lib.hid (Xf.out.keep hb)
  clear Xf
  have Xf := Z
  clear Z
  have Z := Lib.hid (Xg.out.keep hb)
  clear Xg
  have Xg := Z
  clear Z
  have Z := Lib.hid (Xh.out.keep hb)
  clear Xh
  have Xh := Z
  clear Z
  have Z := Lib.hid (Xi.out.keep hb)
  clear Xi
  have Xi := Z
  clear Z
  have Z := Lib.hid (HB.out.trans (hb.mono HB.out.size))
  clear HB
  have HB := Z
  clear Z
  clear hb
  clear kw0 kw1 kw2 kw3 kw4
  obtain ⟨kf0, kf1, kf2, kf3, kf4⟩ := Xf.out.c
  obtain ⟨rf0, rf1, rf2, rf3, rf4⟩ := Xf.out.f
  go_upto_region 8 with fail
  clear kf0 kf1 kf2 kf3 kf4 rf0 rf1 rf2 rf3 rf4
  have Z := Lib.hid (Xw.out.far5 (p := Bf) (y0 := gi0) (y1 := gi1) (y2 := gi2) (y3 := gi3) (y4 := gi4) (by first | exact Nfw | exact Ne.symm Nfw))
  clear Xw
  have Xw := Z
  clear Z
  have Z := Lib.hid (Xg.out.far5 (p := Bf) (y0 := gi0) (y1 := gi1) (y2 := gi2) (y3 := gi3) (y4 := gi4) (by first | exact Nfg | exact Ne.symm Nfg))
  clear Xg
  have Xg := Z
  clear Z
  have Z := Lib.hid (Xh.out.far5 (p := Bf) (y0 := gi0) (y1 := gi1) (y2 := gi2) (y3 := gi3) (y4 := gi4) (by first | exact Nfh | exact Ne.symm Nfh))
  clear Xh
  have Xh := Z
  clear Z
  have Z := Lib.hid (Xi.out.far5 (p := Bf) (y0 := gi0) (y1 := gi1) (y2 := gi2) (y3 := gi3) (y4 := gi4) (by first | exact Nfi | exact Ne.symm Nfi))
  clear Xi
  have Xi := Z
  clear Z
  have Z := Lib.hid (below_put (p := Bf) (y0 := gi0) (y1 := gi1) (y2 := gi2) (y3 := gi3) (y4 := gi4) HB.out Lf)
  clear HB
  have HB := Z
  clear Z
  have Z := Lib.hid (Xf.out.put (y0 := gi0) (y1 := gi1) (y2 := gi2) (y3 := gi3) (y4 := gi4))
  clear Xf
  have Xf := Z
  clear Z
  generalize World.setCell (World.setCell (World.setCell (World.setCell (World.setCell _ _ _) _ _) _ _) _ _) _ _ = W5 at Xw Xf Xg Xh Xi HB ⊢
  clear w1
  obtain ⟨kw0, kw1, kw2, kw3, kw4⟩ := Xw.out.c
  go_wp2_with fail
  go_at_call 15
  (with_reducible refine (HI2.out _ (HM.out.own HB.out)).mono ?_)
  rintro e w1 ⟨rfl, hb⟩
  have Z := Lib.hid (Xw.out.keep hb)
  clear Xw
  have Xw := Z
  clear Z
  have Z := Lib.hid (Xf.out.keep hb)
  clear Xf
  have Xf := Z
  clear Z
  have Z := Lib.hid (Xg.out.keep hb)
  clear Xg
  have Xg := Z
  clear Z
  have Z := Lib.hid (Xh.out.keep hb)
  clear Xh
  have Xh := Z
  clear Z
  have Z := Lib.hid (Xi.out.keep hb)
  clear Xi
  have Xi := Z
  clear Z
  have Z := Lib.hid (HB.out.trans (hb.mono HB.out.size))
  clear HB
  have HB := Z
  clear Z
  clear hb
  clear kw0 kw1 kw2 kw3 kw4
  obtain ⟨kg0, kg1, kg2, kg3, kg4⟩ := Xg.out.c
  obtain ⟨rg0, rg1, rg2, rg3, rg4⟩ := Xg.out.f
  go_upto_region 9 with fail
  clear kg0 kg1 kg2 kg3 kg4 rg0 rg1 rg2 rg3 rg4
  have Z := Lib.hid (Xw.out.far5 (p := Bg) (y0 := gi0) (y1 := gi1) (y2 := gi2) (y3 := gi3) (y4 := gi4) (by first | exact Ngw | exact Ne.symm Ngw))
  clear Xw
  have Xw := Z
  clear Z
  have Z := Lib.hid (Xf.out.far5 (p := Bg) (y0 := gi0) (y1 := gi1) (y2 := gi2) (y3 := gi3) (y4 := gi4) (by first | exact Nfg | exact Ne.symm Nfg))
  clear Xf
  have Xf := Z
  clear Z
  have Z := Lib.hid (Xh.out.far5 (p := Bg) (y0 := gi0) (y1 := gi1) (y2 := gi2) (y3 := gi3) (y4 := gi4) (by first | exact Ngh | exact Ne.symm Ngh))
  clear Xh
  have Xh := Z
  clear Z
  have Z := Lib.hid (Xi.out.far5 (p := Bg) (y0 := gi0) (y1 := gi1) (y2 := gi2) (y3 := gi3) (y4 := gi4) (by first | exact Ngi | exact Ne.symm Ngi))
  clear Xi
  have Xi := Z
  clear Z
  have Z := Lib.hid (below_put (p := Bg) (y0 := gi0) (y1 := gi1) (y2 := gi2) (y3 := gi3) (y4 := gi4) HB.out Lg)
  clear HB
  have HB := Z
  clear Z
  have Z := Lib.hid (Xg.out.put (y0 := gi0) (y1 := gi1) (y2 := gi2) (y3 := gi3) (y4 := gi4))
  clear Xg
  have Xg := Z
  clear Z
  generalize World.setCell (World.setCell (World.setCell (World.setCell (World.setCell _ _ _) _ _) _ _) _ _) _ _ = W6 at Xw Xf Xg Xh Xi HB ⊢
  clear w1
  obtain ⟨kw0, kw1, kw2, kw3, kw4⟩ := Xw.out.c
  go_wp2_with fail
  go_at_call 16
  (with_reducible refine (HD1.out _ (HM.out.own HB.out)).mono ?_)
  rintro e w1 ⟨rfl, hb⟩
  have Z := Lib.hid (Xw.out.keep hb)
  clear Xw
  have Xw := Z
  clear Z
  have Z := Lib.hid (Xf.out.keep hb)
  clear Xf
  have Xf := Z
  clear Z
  have Z := Lib.hid (Xg.out.keep hb)
  clear Xg
  have Xg := Z
  clear Z
  have Z := Lib.hid (Xh.out.keep hb)
  clear Xh
  have Xh := Z
  clear Z
  have Z := Lib.hid (Xi.out.keep hb)
  clear Xi
  have Xi := Z
  clear Z
  have Z := Lib.hid (HB.out.trans (hb.mono HB.out.size))
  clear HB
  have HB := Z
  clear Z
  clear hb
  clear kw0 kw1 kw2 kw3 kw4
  obtain ⟨kh0, kh1, kh2, kh3, kh4⟩ := Xh.out.c
  obtain ⟨rh0, rh1, rh2, rh3, rh4⟩ := Xh.out.f
  go_upto_region 10 with fail
  clear kh0 kh1 kh2 kh3 kh4 rh0 rh1 rh2 rh3 rh4
  have Z := Lib.hid (Xw.out.far5 (p := Bh) (y0 := gd0) (y1 := gd1) (y2 := gd2) (y3 := gd3) (y4 := gd4) (by first | exact Nhw | exact Ne.symm Nhw))
  clear Xw
  have Xw := Z
  clear Z
  have Z := Lib.hid (Xf.out.far5 (p := Bh) (y0 := gd0) (y1 := gd1) (y2 := gd2) (y3 := gd3) (y4 := gd4) (by first | exact Nfh | exact Ne.symm Nfh))
  clear Xf
  have Xf := Z
  clear Z
  have Z := Lib.hid (Xg.out.far5 (p := Bh) (y0 := gd0) (y1 := gd1) (y2 := gd2) (y3 := gd3) (y4 := gd4) (by first | exact Ngh | exact Ne.symm Ngh))
  clear Xg
  have Xg := Z
  clear Z
  have Z := Lib.hid (Xi.out.far5 (p := Bh) (y0 := gd0) (y1 := gd1) (y2 := gd2) (y3 := gd3) (y4 := gd4) (by first | exact Nhi | exact Ne.symm Nhi))
  clear Xi
  have Xi := Z
  clear Z
  have Z := Lib.hid (below_put (p := Bh) (y0 := gd0) (y1 := gd1) (y2 := gd2) (y3 := gd3) (y4 := gd4) HB.out Lh)
  clear HB
  have HB := Z
  clear Z
  have Z := Lib.hid (Xh.out.put (y0 := gd0) (y1 := gd1) (y2 := gd2) (y3 := gd3) (y4 := gd4))
  clear Xh
  have Xh := Z
  clear Z
  generalize World.setCell (World.setCell (World.setCell (World.setCell (World.setCell _ _ _) _ _) _ _) _ _) _ _ = W7 at Xw Xf Xg Xh Xi HB ⊢
  clear w1
  obtain ⟨kw0, kw1, kw2, kw3, kw4⟩ := Xw.out.c
  go_wp2_with fail
  go_at_call 17
  (with_reducible refine (HD2.out _ (HM.out.own HB.out)).mono ?_)
  rintro e w1 ⟨rfl, hb⟩
  have Z := Lib.hid (Xw.out.keep hb)
  clear Xw
  have Xw := Z
  clear Z
  have Z := Lib.hid (Xf.out.keep hb)
  clear Xf
  have Xf := Z
  clear Z
  have Z := Lib.hid (Xg.out.keep hb)
  clear Xg
  have Xg := Z
  clear Z
  have Z := Lib.hid (Xh.out.keep hb)
  clear Xh
  have Xh := Z
  clear Z
  have Z := Lib.hid (Xi.out.keep hb)
  clear Xi
  have Xi := Z
  clear Z
  have Z := Lib.hid (HB.out.trans (hb.mono HB.out.size))
  clear HB
  have HB := Z
  clear Z
  clear hb
  clear kw0 kw1 kw2 kw3 kw4
  obtain ⟨ki0, ki1, ki2, ki3, ki4⟩ := Xi.out.c
  obtain ⟨ri0, ri1, ri2, ri3, ri4⟩ := Xi.out.f
  go_upto_region 11 with fail
  clear ki0 ki1 ki2 ki3 ki4 ri0 ri1 ri2 ri3 ri4
  have Z := Lib.hid (Xw.out.far5 (p := Bi) (y0 := gd0) (y1 := gd1) (y2 := gd2) (y3 := gd3) (y4 := gd4) (by first | exact Niw | exact Ne.symm Niw))
  clear Xw
  have Xw := Z
  clear Z
  have Z := Lib.hid (Xf.out.far5 (p := Bi) (y0 := gd0) (y1 := gd1) (y2 := gd2) (y3 := gd3) (y4 := gd4) (by first | exact Nfi | exact Ne.symm Nfi))
  clear Xf
  have Xf := Z
  clear Z
  have Z := Lib.hid (Xg.out.far5 (p := Bi) (y0 := gd0) (y1 := gd1) (y2 := gd2) (y3 := gd3) (y4 := gd4) (by first | exact Ngi | exact Ne.symm Ngi))
  clear Xg
  have Xg := Z
  clear Z
  have Z := Lib.hid (Xh.out.far5 (p := Bi) (y0 := gd0) (y1 := gd1) (y2 := gd2) (y3 := gd3) (y4 := gd4) (by first | exact Nhi | exact Ne.symm Nhi))
  clear Xh
  have Xh := Z
  clear Z
  have Z := Lib.hid (below_put (p := Bi) (y0 := gd0) (y1 := gd1) (y2 := gd2) (y3 := gd3) (y4 := gd4) HB.out Li)
  clear HB
  have HB := Z
  clear Z
  have Z := Lib.hid (Xi.out.put (y0 := gd0) (y1 := gd1) (y2 := gd2) (y3 := gd3) (y4 := gd4))
  clear Xi
  have Xi := Z
  clear Z
  generalize World.setCell (World.setCell (World.setCell (World.setCell (World.setCell _ _ _) _ _) _ _) _ _) _ _ = W8 at Xw Xf Xg Xh Xi HB ⊢
  clear w1
  obtain ⟨kf0, kf1, kf2, kf3, kf4⟩ := Xf.out.c
  obtain ⟨kg0, kg1, kg2, kg3, kg4⟩ := Xg.out.c
  obtain ⟨kh0, kh1, kh2, kh3, kh4⟩ := Xh.out.c
  obtain ⟨ki0, ki1, ki2, ki3, ki4⟩ := Xi.out.c
  go_wp2_with fail
  go_at_call 18
  (with_reducible refine (HN1.out _ (HM.out.own HB.out)).mono ?_)
  rintro e w1 ⟨rfl, hb⟩
  have Z := Lib.hid (Xw.out.keep hb)
  clear Xw
  have Xw := Z
  clear Z
  have Z := Lib.hid (Xf.out.keep hb)
  clear Xf
  have Xf := Z
  clear Z
  have Z := Lib.hid (Xg.out.keep hb)
  clear Xg
  have Xg := Z
  clear Z
  have Z := Lib.hid (Xh.out.keep hb)
  clear Xh
  have Xh := Z
  clear Z
  have Z := Lib.hid (Xi.out.keep hb)
  clear Xi
  have Xi := Z
  clear Z
  have Z := Lib.hid (HB.out.trans (hb.mono HB.out.size))
  clear HB
  have HB := Z
  clear Z
  clear hb
  clear kf0 kf1 kf2 kf3 kf4
  clear kg0 kg1 kg2 kg3 kg4
  clear kh0 kh1 kh2 kh3 kh4
  clear ki0 ki1 ki2 ki3 ki4
  obtain ⟨kf0, kf1, kf2, kf3, kf4⟩ := Xf.out.c
  obtain ⟨rf0, rf1, rf2, rf3, rf4⟩ := Xf.out.f
  go_upto_region 14 with fail
  clear kf0 kf1 kf2 kf3 kf4 rf0 rf1 rf2 rf3 rf4
  have Z := Lib.hid (Xw.out.far5 (p := Bf) (y0 := gn0) (y1 := gn1) (y2 := gn2) (y3 := gn3) (y4 := gn4) (by first | exact Nfw | exact Ne.symm Nfw))
  clear Xw
  have Xw := Z
  clear Z
  have Z := Lib.hid (Xg.out.far5 (p := Bf) (y0 := gn0) (y1 := gn1) (y2 := gn2) (y3 := gn3) (y4 := gn4) (by first | exact Nfg | exact Ne.symm Nfg))
  clear Xg
  have Xg := Z
  clear Z
  have Z := Lib.hid (Xh.out.far5 (p := Bf) (y0 := gn0) (y1 := gn1) (y2 := gn2) (y3 := gn3) (y4 := gn4) (by first | exact Nfh | exact Ne.symm Nfh))
  clear Xh
  have Xh := Z
  clear Z
  have Z := Lib.hid (Xi.out.far5 (p := Bf) (y0 := gn0) (y1 := gn1) (y2 := gn2) (y3 := gn3) (y4 := gn4) (by first | exact Nfi | exact Ne.symm Nfi))
  clear Xi
  have Xi := Z
  clear Z
  have Z := Lib.hid (below_put (p := Bf) (y0 := gn0) (y1 := gn1) (y2 := gn2) (y3 := gn3) (y4 := gn4) HB.out Lf)
  clear HB
  have HB := Z
  clear Z
  have Z := Lib.hid (Xf.out.put (y0 := gn0) (y1 := gn1) (y2 := gn2) (y3 := gn3) (y4 := gn4))
  clear Xf
  have Xf := Z
  clear Z
  generalize World.setCell (World.setCell (World.setCell (World.setCell (World.setCell _ _ _) _ _) _ _) _ _) _ _ = W9 at Xw Xf Xg Xh Xi HB ⊢
  clear w1
  go_wp2_with fail
  go_at_call 19
  (with_reducible refine (HN2.out _ (HM.out.own HB.out)).mono ?_)
  rintro e w1 ⟨rfl, hb⟩
  have Z := Lib.hid (Xw.out.keep hb)
  clear Xw
  have Xw := Z
  clear Z
  have Z := Lib.hid (Xf.out.keep hb)
  clear Xf
  have Xf := Z
  clear Z
  have Z := Lib.hid (Xg.out.keep hb)
  clear Xg
  have Xg := Z
  clear Z
  have Z := Lib.hid (Xh.out.keep hb)
  clear Xh
  have Xh := Z
  clear Z
  have Z := Lib.hid (Xi.out.keep hb)
  clear Xi
  have Xi := Z
  clear Z
  have Z := Lib.hid (HB.out.trans (hb.mono HB.out.size))
  clear HB
  have HB := Z
  clear Z
  clear hb
  obtain ⟨kg0, kg1, kg2, kg3, kg4⟩ := Xg.out.c
  obtain ⟨rg0, rg1, rg2, rg3, rg4⟩ := Xg.out.f
  go_upto_region 15 with fail
  clear kg0 kg1 kg2 kg3 kg4 rg0 rg1 rg2 rg3 rg4
  have Z := Lib.hid (Xw.out.far5 (p := Bg) (y0 := gn0) (y1 := gn1) (y2 := gn2) (y3 := gn3) (y4 := gn4) (by first | exact Ngw | exact Ne.symm Ngw))
  clear Xw
  have Xw := Z
  clear Z
  have Z := Lib.hid (Xf.out.far5 (p := Bg) (y0 := gn0) (y1 := gn1) (y2 := gn2) (y3 := gn3) (y4 := gn4) (by first | exact Nfg | exact Ne.symm Nfg))
  clear Xf
  have Xf := Z
  clear Z
  have Z := Lib.hid (Xh.out.far5 (p := Bg) (y0 := gn0) (y1 := gn1) (y2 := gn2) (y3 := gn3) (y4 := gn4) (by first | exact Ngh | exact Ne.symm Ngh))
  clear Xh
  have Xh := Z
  clear Z
  have Z := Lib.hid (Xi.out.far5 (p := Bg) (y0 := gn0) (y1 := gn1) (y2 := gn2) (y3 := gn3) (y4 := gn4) (by first | exact Ngi | exact Ne.symm Ngi))
  clear Xi
  have Xi := Z
  clear Z
  have Z := Lib.hid (below_put (p := Bg) (y0 := gn0) (y1 := gn1) (y2 := gn2) (y3 := gn3) (y4 := gn4) HB.out Lg)
  clear HB
  have HB := Z
  clear Z
  have Z := Lib.hid (Xg.out.put (y0 := gn0) (y1 := gn1) (y2 := gn2) (y3 := gn3) (y4 := gn4))
  clear Xg
  have Xg := Z
  clear Z
  generalize World.setCell (World.setCell (World.setCell (World.setCell (World.setCell _ _ _) _ _) _ _) _ _) _ _ = W10 at Xw Xf Xg Xh Xi HB ⊢
  clear w1
  obtain ⟨kw0, kw1, kw2, kw3, kw4⟩ := Xw.out.c
  go_wp2_with fail
  go_at_call 20
  (with_reducible refine (HH1.out _ (HM.out.own HB.out)).mono ?_)
  rintro e w1 ⟨rfl, hb⟩
  have Z := Lib.hid (Xw.out.keep hb)
  clear Xw
  have Xw := Z
  clear Z
  have Z := Lib.hid (Xf.out.keep hb)
  clear Xf
  have Xf := Z
  clear Z
  have Z := Lib.hid (Xg.out.keep hb)
  clear Xg
  have Xg := Z
  clear Z
  have Z := Lib.hid (Xh.out.keep hb)
  clear Xh
  have Xh := Z
  clear Z
  have Z := Lib.hid (Xi.out.keep hb)
  clear Xi
  have Xi := Z
  clear Z
  have Z := Lib.hid (HB.out.trans (hb.mono HB.out.size))
  clear HB
  have HB := Z
  clear Z
  clear hb
  clear kw0 kw1 kw2 kw3 kw4
  obtain ⟨kh0, kh1, kh2, kh3, kh4⟩ := Xh.out.c
  obtain ⟨rh0, rh1, rh2, rh3, rh4⟩ := Xh.out.f
  go_upto_region 16 with fail
  clear kh0 kh1 kh2 kh3 kh4 rh0 rh1 rh2 rh3 rh4
  have Z := Lib.hid (Xw.out.far5 (p := Bh) (y0 := gh0) (y1 := gh1) (y2 := gh2) (y3 := gh3) (y4 := gh4) (by first | exact Nhw | exact Ne.symm Nhw))
  clear Xw
  have Xw := Z
  clear Z
  have Z := Lib.hid (Xf.out.far5 (p := Bh) (y0 := gh0) (y1 := gh1) (y2 := gh2) (y3 := gh3) (y4 := gh4) (by first | exact Nfh | exact Ne.symm Nfh))
  clear Xf
  have Xf := Z
  clear Z
  have Z := Lib.hid (Xg.out.far5 (p := Bh) (y0 := gh0) (y1 := gh1) (y2 := gh2) (y3 := gh3) (y4 := gh4) (by first | exact Ngh | exact Ne.symm Ngh))
  clear Xg
  have Xg := Z
  clear Z
  have Z := Lib.hid (Xi.out.far5 (p := Bh) (y0 := gh0) (y1 := gh1) (y2 := gh2) (y3 := gh3) (y4 := gh4) (by first | exact Nhi | exact Ne.symm Nhi))
  clear Xi
  have Xi := Z
  clear Z
  have Z := Lib.hid (below_put (p := Bh) (y0 := gh0) (y1 := gh1) (y2 := gh2) (y3 := gh3) (y4 := gh4) HB.out Lh)
  clear HB
  have HB := Z
  clear Z
  have Z := Lib.hid (Xh.out.put (y0 := gh0) (y1 := gh1) (y2 := gh2) (y3 := gh3) (y4 := gh4))
  clear Xh
  have Xh := Z
  clear Z
  generalize World.setCell (World.setCell (World.setCell (World.setCell (World.setCell _ _ _) _ _) _ _) _ _) _ _ = W11 at Xw Xf Xg Xh Xi HB ⊢
  clear w1
  obtain ⟨kw0, kw1, kw2, kw3, kw4⟩ := Xw.out.c
  go_wp2_with fail
  go_at_call 21
  (with_reducible refine (HH2.out _ (HM.out.own HB.out)).mono ?_)
  rintro e w1 ⟨rfl, hb⟩
  have Z := Lib.hid (Xw.out.keep hb)
  clear Xw
  have Xw := Z
  clear Z
  have Z := Lib.hid (Xf.out.keep hb)
  clear Xf
  have Xf := Z
  clear Z
  have Z := Lib.hid (Xg.out.keep hb)
  clear Xg
  have Xg := Z
  clear Z
  have Z := Lib.hid (Xh.out.keep hb)
  clear Xh
  have Xh := Z
  clear Z
  have Z := Lib.hid (Xi.out.keep hb)
  clear Xi
  have Xi := Z
  clear Z
  have Z := Lib.hid (HB.out.trans (hb.mono HB.out.size))
  clear HB
  have HB := Z
  clear Z
  clear hb
  clear kw0 kw1 kw2 kw3 kw4
  obtain ⟨ki0, ki1, ki2, ki3, ki4⟩ := Xi.out.c
  obtain ⟨ri0, ri1, ri2, ri3, ri4⟩ := Xi.out.f
  go_upto_region 17 with fail
  clear ki0 ki1 ki2 ki3 ki4 ri0 ri1 ri2 ri3 ri4
  have Z := Lib.hid (Xw.out.far5 (p := Bi) (y0 := gh0) (y1 := gh1) (y2 := gh2) (y3 := gh3) (y4 := gh4) (by first | exact Niw | exact Ne.symm Niw))
  clear Xw
  have Xw := Z
  clear Z
  have Z := Lib.hid (Xf.out.far5 (p := Bi) (y0 := gh0) (y1 := gh1) (y2 := gh2) (y3 := gh3) (y4 := gh4) (by first | exact Nfi | exact Ne.symm Nfi))
  clear Xf
  have Xf := Z
  clear Z
  have Z := Lib.hid (Xg.out.far5 (p := Bi) (y0 := gh0) (y1 := gh1) (y2 := gh2) (y3 := gh3) (y4 := gh4) (by first | exact Ngi | exact Ne.symm Ngi))
  clear Xg
  have Xg := Z
  clear Z
  have Z := Lib.hid (Xh.out.far5 (p := Bi) (y0 := gh0) (y1 := gh1) (y2 := gh2) (y3 := gh3) (y4 := gh4) (by first | exact Nhi | exact Ne.symm Nhi))
  clear Xh
  have Xh := Z
  clear Z
  have Z := Lib.hid (below_put (p := Bi) (y0 := gh0) (y1 := gh1) (y2 := gh2) (y3 := gh3) (y4 := gh4) HB.out Li)
  clear HB
  have HB := Z
  clear Z
  have Z := Lib.hid (Xi.out.put (y0 := gh0) (y1 := gh1) (y2 := gh2) (y3 := gh3) (y4 := gh4))
  clear Xi
  have Xi := Z
  clear Z
  generalize World.setCell (World.setCell (World.setCell (World.setCell (World.setCell _ _ _) _ _) _ _) _ _) _ _ = W12 at Xw Xf Xg Xh Xi HB ⊢
  clear w1
  obtain ⟨kf0, kf1, kf2, kf3, kf4⟩ := Xf.out.c
  obtain ⟨kg0, kg1, kg2, kg3, kg4⟩ := Xg.out.c
  obtain ⟨kh0, kh1, kh2, kh3, kh4⟩ := Xh.out.c
  obtain ⟨ki0, ki1, ki2, ki3, ki4⟩ := Xi.out.c
  go_wp2_with fail
  go_at_call 22
  (with_reducible refine (HM1.out _ (HM.out.own HB.out)).mono ?_)
  rintro e w1 ⟨rfl, hb⟩
  have Z := Lib.hid (Xw.out.keep hb)
  clear Xw
  have Xw := Z
  clear Z
  have Z := Lib.hid (Xf.out.keep hb)
  clear Xf
  have Xf := Z
  clear Z
  have Z := Lib.hid (Xg.out.keep hb)
  clear Xg
  have Xg := Z
  clear Z
  have Z := Lib.hid (Xh.out.keep hb)
  clear Xh
  have Xh := Z
  clear Z
  have Z := Lib.hid (Xi.out.keep hb)
  clear Xi
  have Xi := Z
  clear Z
  have Z := Lib.hid (HB.out.trans (hb.mono HB.out.size))
  clear HB
  have HB := Z
  clear Z
  clear hb
  clear kf0 kf1 kf2 kf3 kf4
  clear kg0 kg1 kg2 kg3 kg4
  clear kh0 kh1 kh2 kh3 kh4
  clear ki0 ki1 ki2 ki3 ki4
  obtain ⟨kf0, kf1, kf2, kf3, kf4⟩ := Xf.out.c
  obtain ⟨rf0, rf1, rf2, rf3, rf4⟩ := Xf.out.f
  go_upto_region 20 with fail
  clear kf0 kf1 kf2 kf3 kf4 rf0 rf1 rf2 rf3 rf4
  have Z := Lib.hid (Xw.out.far5 (p := Bf) (y0 := gm0) (y1 := gm1) (y2 := gm2) (y3 := gm3) (y4 := gm4) (by first | exact Nfw | exact Ne.symm Nfw))
  clear Xw
  have Xw := Z
  clear Z
  have Z := Lib.hid (Xg.out.far5 (p := Bf) (y0 := gm0) (y1 := gm1) (y2 := gm2) (y3 := gm3) (y4 := gm4) (by first | exact Nfg | exact Ne.symm Nfg))
  clear Xg
  have Xg := Z
  clear Z
  have Z := Lib.hid (Xh.out.far5 (p := Bf) (y0 := gm0) (y1 := gm1) (y2 := gm2) (y3 := gm3) (y4 := gm4) (by first | exact Nfh | exact Ne.symm Nfh))
  clear Xh
  have Xh := Z
  clear Z
  have Z := Lib.hid (Xi.out.far5 (p := Bf) (y0 := gm0) (y1 := gm1) (y2 := gm2) (y3 := gm3) (y4 := gm4) (by first | exact Nfi | exact Ne.symm Nfi))
  clear Xi
  have Xi := Z
  clear Z
  have Z := Lib.hid (below_put (p := Bf) (y0 := gm0) (y1 := gm1) (y2 := gm2) (y3 := gm3) (y4 := gm4) HB.out Lf)
  clear HB
  have HB := Z
  clear Z
  have Z := Lib.hid (Xf.out.put (y0 := gm0) (y1 := gm1) (y2 := gm2) (y3 := gm3) (y4 := gm4))
  clear Xf
  have Xf := Z
  clear Z
  generalize World.setCell (World.setCell (World.setCell (World.setCell (World.setCell _ _ _) _ _) _ _) _ _) _ _ = W13 at Xw Xf Xg Xh Xi HB ⊢
  clear w1
  go_wp2_with fail
  go_at_call 23
  (with_reducible refine (HM2.out _ (HM.out.own HB.out)).mono ?_)
  rintro e w1 ⟨rfl, hb⟩
  have Z := Lib.hid (Xw.out.keep hb)
  clear Xw
  have Xw := Z
  clear Z
  have Z := Lib.hid (Xf.out.keep hb)
  clear Xf
  have Xf := Z
  clear Z
  have Z := Lib.hid (Xg.out.keep hb)
  clear Xg
  have Xg := Z
  clear Z
  have Z := Lib.hid (Xh.out.keep hb)
  clear Xh
  have Xh := Z
  clear Z
  have Z := Lib.hid (Xi.out.keep hb)
  clear Xi
  have Xi := Z
  clear Z
  have Z := Lib.hid (HB.out.trans (hb.mono HB.out.size))
  clear HB
  have HB := Z
  clear Z
  clear hb
  obtain ⟨kg0, kg1, kg2, kg3, kg4⟩ := Xg.out.c
  obtain ⟨rg0, rg1, rg2, rg3, rg4⟩ := Xg.out.f
  go_upto_region 21 with fail
  clear kg0 kg1 kg2 kg3 kg4 rg0 rg1 rg2 rg3 rg4
  have Z := Lib.hid (Xw.out.far5 (p := Bg) (y0 := gm0) (y1 := gm1) (y2 := gm2) (y3 := gm3) (y4 := gm4) (by first | exact Ngw | exact Ne.symm Ngw))
  clear Xw
  have Xw := Z
  clear Z
  have Z := Lib.hid (Xf.out.far5 (p := Bg) (y0 := gm0) (y1 := gm1) (y2 := gm2) (y3 := gm3) (y4 := gm4) (by first | exact Nfg | exact Ne.symm Nfg))
  clear Xf
  have Xf := Z
  clear Z
  have Z := Lib.hid (Xh.out.far5 (p := Bg) (y0 := gm0) (y1 := gm1) (y2 := gm2) (y3 := gm3) (y4 := gm4) (by first | exact Ngh | exact Ne.symm Ngh))
  clear Xh
  have Xh := Z
  clear Z
  have Z := Lib.hid (Xi.out.far5 (p := Bg) (y0 := gm0) (y1 := gm1) (y2 := gm2) (y3 := gm3) (y4 := gm4) (by first | exact Ngi | exact Ne.symm Ngi))
  clear Xi
  have Xi := Z
  clear Z
  have Z := Lib.hid (below_put (p := Bg) (y0 := gm0) (y1 := gm1) (y2 := gm2) (y3 := gm3) (y4 := gm4) HB.out Lg)
  clear HB
  have HB := Z
  clear Z
  have Z := Lib.hid (Xg.out.put (y0 := gm0) (y1 := gm1) (y2 := gm2) (y3 := gm3) (y4 := gm4))
  clear Xg
  have Xg := Z
  clear Z
  generalize World.setCell (World.setCell (World.setCell (World.setCell (World.setCell _ _ _) _ _) _ _) _ _) _ _ = W14 at Xw Xf Xg Xh Xi HB ⊢
  clear w1
  go_wp2_with fail
  go_at_call 24
  (with_reducible refine (HU1.out _ (HM.out.own HB.out)).mono ?_)
  rintro e w1 ⟨rfl, hb⟩
  have Z := Lib.hid (Xw.out.keep hb)
  clear Xw
  have Xw := Z
  clear Z
  have Z := Lib.hid (Xf.out.keep hb)
  clear Xf
  have Xf := Z
  clear Z
  have Z := Lib.hid (Xg.out.keep hb)
  clear Xg
  have Xg := Z
  clear Z
  have Z := Lib.hid (Xh.out.keep hb)
  clear Xh
  have Xh := Z
  clear Z
  have Z := Lib.hid (Xi.out.keep hb)
  clear Xi
  have Xi := Z
  clear Z
  have Z := Lib.hid (HB.out.trans (hb.mono HB.out.size))
  clear HB
  have HB := Z
  clear Z
  clear hb
  have Njw : w1.heap.size ≠ w.heap.size := by have := Xw.out.lt; simp only [ne_eq]; omega
  have Nfj : Bf ≠ w1.heap.size := by have := Xf.out.lt; simp only [ne_eq]; omega
  have Ngj : Bg ≠ w1.heap.size := by have := Xg.out.lt; simp only [ne_eq]; omega
  have Nhj : Bh ≠ w1.heap.size := by have := Xh.out.lt; simp only [ne_eq]; omega
  have Nij : Bi ≠ w1.heap.size := by have := Xi.out.lt; simp only [ne_eq]; omega
  have Lj : w.heap.size ≤ w1.heap.size := HB.out.size
  go_upto_region 22 with fail
  have Z := Lib.hid (Xw.out.alloc (Obj.cells #[.bool gu0, .bool gu1, .bool gu2, .bool gu3, .bool gu4] 24))
  clear Xw
  have Xw := Z
  clear Z
  have Z := Lib.hid (Xf.out.alloc (Obj.cells #[.bool gu0, .bool gu1, .bool gu2, .bool gu3, .bool gu4] 24))
  clear Xf
  have Xf := Z
  clear Z
  have Z := Lib.hid (Xg.out.alloc (Obj.cells #[.bool gu0, .bool gu1, .bool gu2, .bool gu3, .bool gu4] 24))
  clear Xg
  have Xg := Z
  clear Z
  have Z := Lib.hid (Xh.out.alloc (Obj.cells #[.bool gu0, .bool gu1, .bool gu2, .bool gu3, .bool gu4] 24))
  clear Xh
  have Xh := Z
  clear Z
  have Z := Lib.hid (Xi.out.alloc (Obj.cells #[.bool gu0, .bool gu1, .bool gu2, .bool gu3, .bool gu4] 24))
  clear Xi
  have Xi := Z
  clear Z
  have Z := Lib.hid (HB.out.alloc HB.out.size (Obj.cells #[.bool gu0, .bool gu1, .bool gu2, .bool gu3, .bool gu4] 24))
  clear HB
  have HB := Z
  clear Z
  have Xj := Lib.hid (F5.new w1 gu0 gu1 gu2 gu3 gu4)
  generalize World.alloc w1 _ = W15 at Xw Xf Xg Xh Xi Xj HB ⊢
  generalize w1.heap.size = Bj at Xj Njw Nfj Ngj Nhj Nij Lj ⊢
  clear w1
  go_wp2_with fail
  go_at_call 25
  (with_reducible refine (HU2.out _ (HM.out.own HB.out)).mono ?_)
  rintro e w1 ⟨rfl, hb⟩
  have Z := Lib.hid (Xw.out.keep hb)
  clear Xw
  have Xw := Z
  clear Z
  have Z := Lib.hid (Xf.out.keep hb)
  clear Xf
  have Xf := Z
  clear Z
  have Z := Lib.hid (Xg.out.keep hb)
  clear Xg
  have Xg := Z
  clear Z
  have Z := Lib.hid (Xh.out.keep hb)
  clear Xh
  have Xh := Z
  clear Z
  have Z := Lib.hid (Xi.out.keep hb)
  clear Xi
  have Xi := Z
  clear Z
  have Z := Lib.hid (Xj.out.keep hb)
  clear Xj
  have Xj := Z
  clear Z
  have Z := Lib.hid (HB.out.trans (hb.mono HB.out.size))
  clear HB
  have HB := Z
  clear Z
  clear hb
  have Nkw : w1.heap.size ≠ w.heap.size := by have := Xw.out.lt; simp only [ne_eq]; omega
  have Nfk : Bf ≠ w1.heap.size := by have := Xf.out.lt; simp only [ne_eq]; omega
  have Ngk : Bg ≠ w1.heap.size := by have := Xg.out.lt; simp only [ne_eq]; omega
  have Nhk : Bh ≠ w1.heap.size := by have := Xh.out.lt; simp only [ne_eq]; omega
  have Nik : Bi ≠ w1.heap.size := by have := Xi.out.lt; simp only [ne_eq]; omega
  have Njk : Bj ≠ w1.heap.size := by have := Xj.out.lt; simp only [ne_eq]; omega
  have Lk : w.heap.size ≤ w1.heap.size := HB.out.size
  go_upto_region 23 with fail
  have Z := Lib.hid (Xw.out.alloc (Obj.cells #[.bool gu0, .bool gu1, .bool gu2, .bool gu3, .bool gu4] 24))
  clear Xw
  have Xw := Z
  clear Z
  have Z := Lib.hid (Xf.out.alloc (Obj.cells #[.bool gu0, .bool gu1, .bool gu2, .bool gu3, .bool gu4] 24))
  clear Xf
  have Xf := Z
  clear Z
  have Z := Lib.hid (Xg.out.alloc (Obj.cells #[.bool gu0, .bool gu1, .bool gu2, .bool gu3, .bool gu4] 24))
  clear Xg
  have Xg := Z
  clear Z
  have Z := Lib.hid (Xh.out.alloc (Obj.cells #[.bool gu0, .bool gu1, .bool gu2, .bool gu3, .bool gu4] 24))
  clear Xh
  have Xh := Z
  clear Z
  have Z := Lib.hid (Xi.out.alloc (Obj.cells #[.bool gu0, .bool gu1, .bool gu2, .bool gu3, .bool gu4] 24))
  clear Xi
  have Xi := Z
  clear Z
  have Z := Lib.hid (Xj.out.alloc (Obj.cells #[.bool gu0, .bool gu1, .bool gu2, .bool gu3, .bool gu4] 24))
  clear Xj
  have Xj := Z
  clear Z
  have Z := Lib.hid (HB.out.alloc HB.out.size (Obj.cells #[.bool gu0, .bool gu1, .bool gu2, .bool gu3, .bool gu4] 24))
  clear HB
  have HB := Z
  clear Z
  have Xk := Lib.hid (F5.new w1 gu0 gu1 gu2 gu3 gu4)
  generalize World.alloc w1 _ = W16 at Xw Xf Xg Xh Xi Xj Xk HB ⊢
  generalize w1.heap.size = Bk at Xk Nkw Nfk Ngk Nhk Nik Njk Lk ⊢
  clear w1
  go_wp2_with fail
  go_at_call 26
  (with_reducible refine (HV1.out _ (HM.out.own HB.out)).mono ?_)
  rintro e w1 ⟨rfl, hb⟩
  have Z := Lib.hid (Xw.out.keep hb)
  clear Xw
  have Xw := Z
  clear Z
  have Z := Lib.hid (Xf.out.keep hb)
  clear Xf
  have Xf := Z
  clear Z
  have Z := Lib.hid (Xg.out.keep hb)
  clear Xg
  have Xg := Z
  clear Z
  have Z := Lib.hid (Xh.out.keep hb)
  clear Xh
  have Xh := Z
  clear Z
  have Z := Lib.hid (Xi.out.keep hb)
  clear Xi
  have Xi := Z
  clear Z
  have Z := Lib.hid (Xj.out.keep hb)
  clear Xj
  have Xj := Z
  clear Z
  have Z := Lib.hid (Xk.out.keep hb)
  clear Xk
  have Xk := Z
  clear Z
  have Z := Lib.hid (HB.out.trans (hb.mono HB.out.size))
  clear HB
  have HB := Z
  clear Z
  clear hb
  go_wp2_with fail
  go_at_call 27
  (with_reducible refine (HV2.out _ (HM.out.own HB.out)).mono ?_)
  rintro e w1 ⟨rfl, hb⟩
  have Z := Lib.hid (Xw.out.keep hb)
  clear Xw
  have Xw := Z
  clear Z
  have Z := Lib.hid (Xf.out.keep hb)
  clear Xf
  have Xf := Z
  clear Z
  have Z := Lib.hid (Xg.out.keep hb)
  clear Xg
  have Xg := Z
  clear Z
  have Z := Lib.hid (Xh.out.keep hb)
  clear Xh
  have Xh := Z
  clear Z
  have Z := Lib.hid (Xi.out.keep hb)
  clear Xi
  have Xi := Z
  clear Z
  have Z := Lib.hid (Xj.out.keep hb)
  clear Xj
  have Xj := Z
  clear Z
  have Z := Lib.hid (Xk.out.keep hb)
  clear Xk
  have Xk := Z
  clear Z
  have Z := Lib.hid (HB.out.trans (hb.mono HB.out.size))
  clear HB
  have HB := Z
  clear Z
  clear hb
  obtain ⟨kf0, kf1, kf2, kf3, kf4⟩ := Xf.out.c
  obtain ⟨kg0, kg1, kg2, kg3, kg4⟩ := Xg.out.c
  obtain ⟨kj0, kj1, kj2, kj3, kj4⟩ := Xj.out.c
  obtain ⟨kk0, kk1, kk2, kk3, kk4⟩ := Xk.out.c
  go_wp2_with fail
  go_at_call 28
  refine (wakes_any _ (HM.out.own HB.out)).mono ?_
  rintro e w2 ⟨rfl, hb⟩
  go_wp2_with fail
  go_ret
  exact ⟨rfl, HB.out.trans (hb.mono HB.out.size)⟩
end Go.Proofs.YtmfoeolllobidaaDoor
