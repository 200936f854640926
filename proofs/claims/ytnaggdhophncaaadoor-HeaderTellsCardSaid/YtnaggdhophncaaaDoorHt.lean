/- HeaderTells' walk. -/
import Derived.Test.YtnaggdhophncaaaDoorRf
import Derived.Test.YtnaggdhophncaaaDoorSb
namespace Go.Proofs.YtnaggdhophncaaaDoor
open Go.RowKit Go.Shelf
set_option linter.unusedVariables false
set_option linter.unusedSimpArgs false
attribute [local go_sem] Oper.semAt_some
def sgOf (z : Nat → Nat) : Sg := (numZ z 0 4, numZ z 4 4, numZ z 8 8, numZ z 16 8, numZ z 32 8, numZ z 40 8, numZ z 48 8)
def scOf (z : Nat → Nat) : Sc := (numZ z 4 4, numZ z 24 8, numZ z 32 8, numZ z 40 4, numZ z 56 8)
theorem sg_ok {z : Nat → Nat} (hz : ∀ j, z j < 256) : (sgOf z).ok := by
  have h4 : ∀ o, V32 (numZ z o 4) := fun o => numZ_lt z hz o 4
  have h8 : ∀ o, U (numZ z o 8) := fun o => numZ_lt z hz o 8
  exact ⟨h4 _, h4 _, h8 _, h8 _, h8 _, h8 _, h8 _⟩
theorem sc_ok {z : Nat → Nat} (hz : ∀ j, z j < 256) : (scOf z).ok := by
  have h4 : ∀ o, V32 (numZ z o 4) := fun o => numZ_lt z hz o 4
  have h8 : ∀ o, U (numZ z o 8) := fun o => numZ_lt z hz o 8
  exact ⟨h4 _, h8 _, h8 _, h4 _, h8 _⟩
def sgL (z : Nat → Nat) (o n : Nat) : List Sg := (List.range n).map fun i => sgOf (shZ z (o + i * 56))
def scL (z : Nat → Nat) (o n : Nat) : List Sc := (List.range n).map fun i => scOf (shZ z (o + i * 64))
theorem sgL_flat (z : Nat → Nat) (o n : Nat) : rowsL segC z o 56 n = (sgL z o n).flatMap Sg.cs := by
  unfold rowsL sgL
  rw [List.flatMap_map]
  rfl
theorem scL_flat (z : Nat → Nat) (o n : Nat) : rowsL secC z o 64 n = (scL z o n).flatMap Sc.cs := by
  unfold rowsL scL
  rw [List.flatMap_map]
  rfl
/-- What both ways of reading tell. -/
def ReadsT (xe xo xc : Nat) (zs : List Sg) (cs : List Sc) (E : Nat) (w : World) (e : Ending) (W' : World) : Prop :=
  ∃ b1 q1 b2 q2, e = .returned (.tuple #[.agg #[.int .u64 (xe : Nat), .int .u64 (xo : Nat), .int .u64 (xc : Nat), .slice b1 zs.length q1, .slice b2 cs.length q2], .int .i64 (E : Nat)]) ∧ RX W' b1 (zs.flatMap Sg.cs) ∧ RX W' b2 (cs.flatMap Sc.cs) ∧ Below w.heap.size w W'
theorem reads_of {z : Nat → Nat} (hz : ∀ j, z j < 256) (len : Nat) : ∃ xe xo xc zs cs E, (∀ s ∈ zs, s.ok) ∧ (∀ s ∈ cs, s.ok) ∧ zs.length ≤ 1000000 ∧ cs.length ≤ 1000000 ∧ ∀ w e W', ReadOf w z len e W' → ReadsT xe xo xc zs cs E w e W' := by
  by_cases h : readE z len = 0
  · refine ⟨numZ z 24 8, numZ z 32 8, numZ z 40 8, sgL z (numZ z 32 8) (numZ z 56 2), scL z (numZ z 40 8) (numZ z 60 2), 0, ?_, ?_, ?_, ?_, ?_⟩
    · intro s hs
      obtain ⟨i, _, rfl⟩ := List.mem_map.1 hs
      exact sg_ok fun j => hz _
    · intro s hs
      obtain ⟨i, _, rfl⟩ := List.mem_map.1 hs
      exact sc_ok fun j => hz _
    · unfold sgL
      rw [List.length_map, List.length_range]
      have := numZ_lt z hz 56 2
      omega
    · unfold scL
      rw [List.length_map, List.length_range]
      have := numZ_lt z hz 60 2
      omega
    · rintro w e W' (⟨h1, _⟩ | ⟨_, v1, v2, h2, h3, h4, h5⟩)
      · exact absurd h h1
      · obtain ⟨b1, q1, rfl⟩ := owns_slice h3
        obtain ⟨b2, q2, rfl⟩ := owns_slice h4
        rw [sgL_flat] at h3
        rw [scL_flat] at h4
        exact ⟨b1, q1, b2, q2, by rw [h2]; unfold sgL scL; rw [List.length_map, List.length_range, List.length_map, List.length_range]; rfl, RX.own h3, RX.own h4, h5⟩
  · refine ⟨0, 0, 0, [], [], readE z len, fun s h => absurd h (by simp), fun s h => absurd h (by simp), by simp, by simp, ?_⟩
    rintro w e W' (⟨_, h2, h3⟩ | ⟨h1, _⟩)
    · exact ⟨none, 0, none, 0, h2, fun h => absurd h (by simp), fun h => absurd h (by simp), h3⟩
    · exact absurd h1 h
theorem take_of1 {ad : Option Addr} {len cap : Nat} {z : Nat → Nat} (hz : ∀ j, z j < 256) (hl : len ≤ cap) (hm : cap ≤ 9223372036854775807) : ∃ (t : Sg) (E : Nat), t.ok ∧ (∀ w, BS w ad len z → Calls Tryd.prog 20 #[.slice ad len cap] w fun e w' => e = .returned (.tuple #[t.v, .int .i64 (E : Nat)]) ∧ Below w.heap.size w w') ∧ (∀ w, BS w ad len z → Calls Tryd.prog 21 #[.slice ad len cap] w fun e w' => e = .returned (.tuple #[t.v, .int .i64 (E : Nat)]) ∧ Below w.heap.size w w') := by
  by_cases h : 56 ≤ len
  · exact ⟨sgOf z, 0, sg_ok hz, fun w hb => take_seg ad len cap z hz h hl hm w hb, fun w hb => rtake_seg ad len cap z hz h hl hm w hb⟩
  · exact ⟨(0, 0, 0, 0, 0, 0, 0), 30, by unfold Sg.ok V32 U; decide, fun w _ => short_seg20 ad len cap (by omega) w, fun w _ => short_seg21 ad len cap (by omega) w⟩
theorem take_of2 {ad : Option Addr} {len cap : Nat} {z : Nat → Nat} (hz : ∀ j, z j < 256) (hl : len ≤ cap) (hm : cap ≤ 9223372036854775807) : ∃ (t : Sc) (E : Nat), t.ok ∧ (∀ w, BS w ad len z → Calls Tryd.prog 22 #[.slice ad len cap] w fun e w' => e = .returned (.tuple #[t.v, .int .i64 (E : Nat)]) ∧ Below w.heap.size w w') ∧ (∀ w, BS w ad len z → Calls Tryd.prog 23 #[.slice ad len cap] w fun e w' => e = .returned (.tuple #[t.v, .int .i64 (E : Nat)]) ∧ Below w.heap.size w w') := by
  by_cases h : 64 ≤ len
  · exact ⟨scOf z, 0, sc_ok hz, fun w hb => take_sec ad len cap z hz h hl hm w hb, fun w hb => rtake_sec ad len cap z hz h hl hm w hb⟩
  · exact ⟨(0, 0, 0, 0, 0), 30, by unfold Sc.ok V32 U; decide, fun w _ => short_sec22 ad len cap (by omega) w, fun w _ => short_sec23 ad len cap (by omega) w⟩
set_option maxRecDepth 100000 in
set_option maxHeartbeats 16000000 in
theorem tells3_walk (ab : Option Addr) (nb cb : Nat) (zb : Nat → Nat) (en so sc n m : Nat) (a1 a2 : Option Addr) (p1 p2 : Nat) (s : Sg) (c : Sc) (hzb : ∀ j, zb j < 256) (hl : nb ≤ cb) (hm : cb ≤ 9223372036854775807) (hs : s.ok) (hc : c.ok) (w : World) (hG : GM w) (hB : BS w ab nb zb) :
    Calls Tryd.prog 3 #[.slice ab nb cb, .agg #[.int .u64 (en : Nat), .int .u64 (so : Nat), .int .u64 (sc : Nat), .slice a1 n p1, .slice a2 m p2], .agg #[.int .u32 (s.1 : Nat), .int .u32 (s.2.1 : Nat), .int .u64 (s.2.2.1 : Nat), .int .u64 (s.2.2.2.1 : Nat), .int .u64 (s.2.2.2.2.1 : Nat), .int .u64 (s.2.2.2.2.2.1 : Nat), .int .u64 (s.2.2.2.2.2.2 : Nat)], .agg #[.int .u32 (c.1 : Nat), .int .u64 (c.2.1 : Nat), .int .u64 (c.2.2.1 : Nat), .int .u32 (c.2.2.2.1 : Nat), .int .u64 (c.2.2.2.2 : Nat)]] w fun e W' => e = .returned (.bool true) ∧ Below w.heap.size w W' := by
  have HS0 : SB w [] [] w := ⟨fun x hx => absurd hx (by simp), fun x hx => absurd hx (by simp), hG, Below.refl _ _⟩
  have HB := Lib.hid (fun W hb => BS.keep (W' := W) hB hb)
  have HOK := Lib.hid (And.intro hs hc)
  have HS := Lib.hid (((HS0.box #[.int .u64 (en : Nat), .int .u64 (so : Nat), .int .u64 (sc : Nat), .slice a1 n p1, .slice a2 m p2] 27).box #[.int .u32 (s.1 : Nat), .int .u32 (s.2.1 : Nat), .int .u64 (s.2.2.1 : Nat), .int .u64 (s.2.2.2.1 : Nat), .int .u64 (s.2.2.2.2.1 : Nat), .int .u64 (s.2.2.2.2.2.1 : Nat), .int .u64 (s.2.2.2.2.2.2 : Nat)] 30).box #[.int .u32 (c.1 : Nat), .int .u64 (c.2.1 : Nat), .int .u64 (c.2.2.1 : Nat), .int .u32 (c.2.2.2.1 : Nat), .int .u64 (c.2.2.2.2 : Nat)] 32)
  simp only [World.size_alloc] at HS
  have HGR := Lib.hid (fun W => great_any en so sc n m a1 a2 p1 p2 ab nb cb W)
  have HRD := Lib.hid (fun W hG hb => read_any ab nb cb zb hzb hl hm W (HB.out W hb) hG)
  have HRR := Lib.hid (fun W hb => rread_any ab nb cb zb hzb hl hm W (HB.out W hb))
  obtain ⟨xe, xo, xc, xz, xs, E, o1, o2, o3, o4, hRO⟩ := reads_of hzb nb
  obtain ⟨t1, E1, k1, ht1, ht2⟩ := take_of1 (ad := ab) hzb hl hm
  obtain ⟨t2, E2, k2, ht3, ht4⟩ := take_of2 (ad := ab) hzb hl hm
  have HOX := Lib.hid (And.intro o1 (And.intro o2 (And.intro o3 o4)))
  have HRO := Lib.hid hRO
  have HT1 := Lib.hid (fun W hb => ht1 W (HB.out W hb))
  have HT2 := Lib.hid (fun W hb => ht2 W (HB.out W hb))
  have HT3 := Lib.hid (fun W hb => ht3 W (HB.out W hb))
  have HT4 := Lib.hid (fun W hb => ht4 W (HB.out W hb))
  have HK12 := Lib.hid (And.intro k1 k2)
  unfold Sg.v at HT1 HT2
  unfold Sc.v at HT3 HT4
  clear HS0 hzb hl hm hs hc hG hB o1 o2 o3 o4 hRO ht1 ht2 ht3 ht4 k1 k2 HB
  go_enter Tryd.func3, Tryd.ntmps3
  go_upto_region 1 with fail
  generalize World.alloc (World.alloc _ _) _ = W1 at HS ⊢
  have r0 : W1.cell? ⟨w.heap.size, 0, none⟩ = some (.int .u64 (en : Nat)) := cell_at (HS.out.1 _ (.tail _ (.tail _ (.head _)))) rfl
  have r1 : W1.cell? ⟨w.heap.size, 1, none⟩ = some (.int .u64 (so : Nat)) := cell_at (HS.out.1 _ (.tail _ (.tail _ (.head _)))) rfl
  have r2 : W1.cell? ⟨w.heap.size, 2, none⟩ = some (.int .u64 (sc : Nat)) := cell_at (HS.out.1 _ (.tail _ (.tail _ (.head _)))) rfl
  have r3 : W1.cell? ⟨w.heap.size, 3, none⟩ = some (.slice a1 n p1) := cell_at (HS.out.1 _ (.tail _ (.tail _ (.head _)))) rfl
  have r4 : W1.cell? ⟨w.heap.size, 4, none⟩ = some (.slice a2 m p2) := cell_at (HS.out.1 _ (.tail _ (.tail _ (.head _)))) rfl
  go_wp2_with (first | (go_at_call 8; refine (HGR.out _).mono ?_) | fail)
  rintro e W2 ⟨rfl, hb⟩
  replace HS := Lib.hid (HS.out.keep hb)
  clear hb r0 r1 r2 r3 r4 HGR
  cases hgr : (decide (40 < n) || (decide (80 < m) || decide (6000 < nb)))
  rotate_left
  · go_wp2_with (first | (go_at_call 9; refine (wakes_any _ HS.out.2.2.1).mono ?_) | fail)
    first | (rintro e W3 rfl hb) | (rintro e W3 ⟨rfl, hb⟩)
    have HE := Lib.hid (HS.out.keep hb)
    go_wp2_with fail
    go_ret
    exact ⟨rfl, HE.out.2.2.2⟩
  have HNM := Lib.hid (show n ≤ 40 ∧ m ≤ 80 by simp at hgr; omega)
  clear hgr
  go_wp2_with (first | (go_at_call 10; refine (HRD.out _ HS.out.2.2.1 HS.out.2.2.2).mono ?_) | fail)
  intro e W3 hro
  obtain ⟨b1, q1, b2, q2, rfl, hx1, hx2, hb⟩ := HRO.out _ _ _ hro
  clear hro HRD
  replace HS := Lib.hid (((HS.out.keep hb).addr hx2).addr hx1)
  clear hx1 hx2 hb
  go_upto_region 4 with fail
  replace HS := Lib.hid (HS.out.box #[.int .u64 (xe : Nat), .int .u64 (xo : Nat), .int .u64 (xc : Nat), .slice b1 xz.length q1, .slice b2 xs.length q2] 27)
  generalize World.alloc W3 _ = W4 at HS ⊢
  generalize W3.heap.size = D1 at HS ⊢
  go_wp2_with (first | (go_at_call 11; refine (HRR.out _ HS.out.2.2.2).mono ?_) | fail)
  intro e W5 hro
  obtain ⟨d1, r1, d2, r2, rfl, hx1, hx2, hb⟩ := HRO.out _ _ _ hro
  clear hro HRR HRO
  replace HS := Lib.hid (((HS.out.keep hb).addr hx2).addr hx1)
  clear hx1 hx2 hb
  go_upto_region 5 with fail
  replace HS := Lib.hid (HS.out.box #[.int .u64 (xe : Nat), .int .u64 (xo : Nat), .int .u64 (xc : Nat), .slice d1 xz.length r1, .slice d2 xs.length r2] 27)
  generalize World.alloc W5 _ = W6 at HS ⊢
  generalize W5.heap.size = D2 at HS ⊢
  have HSM := Lib.hid (fun W (h : SB w [(D2, #[.int .u64 (xe : Nat), .int .u64 (xo : Nat), .int .u64 (xc : Nat), .slice d1 xz.length r1, .slice d2 xs.length r2], 27), (D1, #[.int .u64 (xe : Nat), .int .u64 (xo : Nat), .int .u64 (xc : Nat), .slice b1 xz.length q1, .slice b2 xs.length q2], 27), (w.heap.size + 1 + 1, #[.int .u32 (c.1 : Nat), .int .u64 (c.2.1 : Nat), .int .u64 (c.2.2.1 : Nat), .int .u32 (c.2.2.2.1 : Nat), .int .u64 (c.2.2.2.2 : Nat)], 32), (w.heap.size + 1, #[.int .u32 (s.1 : Nat), .int .u32 (s.2.1 : Nat), .int .u64 (s.2.2.1 : Nat), .int .u64 (s.2.2.2.1 : Nat), .int .u64 (s.2.2.2.2.1 : Nat), .int .u64 (s.2.2.2.2.2.1 : Nat), .int .u64 (s.2.2.2.2.2.2 : Nat)], 30), (w.heap.size, #[.int .u64 (en : Nat), .int .u64 (so : Nat), .int .u64 (sc : Nat), .slice a1 n p1, .slice a2 m p2], 27)] [(d1, xz.flatMap Sg.cs), (d2, xs.flatMap Sc.cs), (b1, xz.flatMap Sg.cs), (b2, xs.flatMap Sc.cs)] W) => rsame_any xe xo xc xz xs b1 b2 d1 d2 q1 q2 r1 r2 HOX.out.1 HOX.out.2.1 HOX.out.2.2.1 HOX.out.2.2.2 W (h.2.1 _ (.tail _ (.tail _ (.head _)))) (h.2.1 _ (.tail _ (.tail _ (.tail _ (.head _))))) (h.2.1 _ (.head _)) (h.2.1 _ (.tail _ (.head _))))
  refine wp_region_noPanic ?_
  refine wp_region_held_drew (S := fun W : World => SB w [(D2, #[.int .u64 (xe : Nat), .int .u64 (xo : Nat), .int .u64 (xc : Nat), .slice d1 xz.length r1, .slice d2 xs.length r2], 27), (D1, #[.int .u64 (xe : Nat), .int .u64 (xo : Nat), .int .u64 (xc : Nat), .slice b1 xz.length q1, .slice b2 xs.length q2], 27), (w.heap.size + 1 + 1, #[.int .u32 (c.1 : Nat), .int .u64 (c.2.1 : Nat), .int .u64 (c.2.2.1 : Nat), .int .u32 (c.2.2.2.1 : Nat), .int .u64 (c.2.2.2.2 : Nat)], 32), (w.heap.size + 1, #[.int .u32 (s.1 : Nat), .int .u32 (s.2.1 : Nat), .int .u64 (s.2.2.1 : Nat), .int .u64 (s.2.2.2.1 : Nat), .int .u64 (s.2.2.2.2.1 : Nat), .int .u64 (s.2.2.2.2.2.1 : Nat), .int .u64 (s.2.2.2.2.2.2 : Nat)], 30), (w.heap.size, #[.int .u64 (en : Nat), .int .u64 (so : Nat), .int .u64 (sc : Nat), .slice a1 n p1, .slice a2 m p2], 27)] [(d1, xz.flatMap Sg.cs), (d2, xs.flatMap Sc.cs), (b1, xz.flatMap Sg.cs), (b2, xs.flatMap Sc.cs)] W) (by kernel_rfl) ?_ (fun hHeld => ?_)
  · exact HS.out.drew
  generalize World.drew _ = W2x at hHeld ⊢
  refine wpAnyH_take (i := 0) (v := ?_) rfl (by kernel_rfl) (by kernel_rfl) (by kernel_rfl) (fun _ _ _ h => h) (Or.inl ⟨by kernel_rfl, ?_⟩) (by assumption) ?_
  rotate_left
  · intro wv hSw
    have u0 : wv.cell? ⟨D1, 0, none⟩ = some (.int .u64 (xe : Nat)) := cell_at (hSw.1 _ (.tail _ (.head _))) rfl
    have u1 : wv.cell? ⟨D1, 1, none⟩ = some (.int .u64 (xo : Nat)) := cell_at (hSw.1 _ (.tail _ (.head _))) rfl
    have u2 : wv.cell? ⟨D1, 2, none⟩ = some (.int .u64 (xc : Nat)) := cell_at (hSw.1 _ (.tail _ (.head _))) rfl
    have u3 : wv.cell? ⟨D1, 3, none⟩ = some (.slice b1 xz.length q1) := cell_at (hSw.1 _ (.tail _ (.head _))) rfl
    have u4 : wv.cell? ⟨D1, 4, none⟩ = some (.slice b2 xs.length q2) := cell_at (hSw.1 _ (.tail _ (.head _))) rfl
    clear hSw
    go_simp
    try with_reducible rfl
  simp only [Act.put, List.setIfInBounds_toArray, List.set_cons_zero, List.set_cons_succ, List.getElem_toArray, List.getElem_cons_succ, List.getElem_cons_zero]
  refine wpAnyH_take (i := 1) (v := ?_) rfl (by kernel_rfl) (by kernel_rfl) (by kernel_rfl) (fun _ _ _ h => h) (Or.inl ⟨by kernel_rfl, ?_⟩) (by assumption) ?_
  rotate_left
  · intro wv hSw
    have u0 : wv.cell? ⟨D2, 0, none⟩ = some (.int .u64 (xe : Nat)) := cell_at (hSw.1 _ (.head _)) rfl
    have u1 : wv.cell? ⟨D2, 1, none⟩ = some (.int .u64 (xo : Nat)) := cell_at (hSw.1 _ (.head _)) rfl
    have u2 : wv.cell? ⟨D2, 2, none⟩ = some (.int .u64 (xc : Nat)) := cell_at (hSw.1 _ (.head _)) rfl
    have u3 : wv.cell? ⟨D2, 3, none⟩ = some (.slice d1 xz.length r1) := cell_at (hSw.1 _ (.head _)) rfl
    have u4 : wv.cell? ⟨D2, 4, none⟩ = some (.slice d2 xs.length r2) := cell_at (hSw.1 _ (.head _)) rfl
    clear hSw
    go_simp
    try with_reducible rfl
  simp only [Act.put, List.setIfInBounds_toArray, List.set_cons_zero, List.set_cons_succ, List.getElem_toArray, List.getElem_cons_succ, List.getElem_cons_zero]
  refine wpAnyH_ready (rs := [2]) (by kernel_rfl) (by simp) ?_
  refine AllReadyH.cons rfl (fun K hK => ?_) AllReadyH.nil
  go_simp
  go_at_call 12
  refine (HSM.out _ hHeld).mono ?_
  first | (rintro e W9x rfl hb) | (rintro e W9x ⟨rfl, hb⟩)
  refine hK.out _ _ (hHeld.keep hb) (fun hHeld2 => ?_)
  clear hK K hHeld hb
  have hHeld := hHeld2
  clear hHeld2
  try simp only [Act.put, List.setIfInBounds_toArray, List.set_cons_zero, List.set_cons_succ, List.getElem_toArray, List.getElem_cons_succ, List.getElem_cons_zero]
  refine wpAnyH_take (i := 3) (v := ?_) rfl (by kernel_rfl) (by kernel_rfl) (by kernel_rfl) (fun _ _ _ h => h) (Or.inl ⟨by kernel_rfl, ?_⟩) (by assumption) ?_
  rotate_left
  · intro wv hSw
    go_simp
    try with_reducible rfl
  simp only [Act.put, List.setIfInBounds_toArray, List.set_cons_zero, List.set_cons_succ, List.getElem_toArray, List.getElem_cons_succ, List.getElem_cons_zero]
  refine wpAnyH_take (i := 4) (v := ?_) rfl (by kernel_rfl) (by kernel_rfl) (by kernel_rfl) (fun _ _ _ h => h) (Or.inl ⟨by kernel_rfl, ?_⟩) (by assumption) ?_
  rotate_left
  · intro wv hSw
    go_simp
    try with_reducible rfl
  simp only [Act.put, List.setIfInBounds_toArray, List.set_cons_zero, List.set_cons_succ, List.getElem_toArray, List.getElem_cons_succ, List.getElem_cons_zero]
  refine wpAnyH_take (i := 5) (v := ?_) rfl (by kernel_rfl) (by kernel_rfl) (by kernel_rfl) (fun _ _ _ h => h) (Or.inl ⟨by kernel_rfl, ?_⟩) (by assumption) ?_
  rotate_left
  · intro wv hSw
    go_simp
    try with_reducible rfl
  simp only [Act.put, List.setIfInBounds_toArray, List.set_cons_zero, List.set_cons_succ, List.getElem_toArray, List.getElem_cons_succ, List.getElem_cons_zero]
  refine wpAnyH_take (i := 6) (v := ?_) rfl (by kernel_rfl) (by kernel_rfl) (by kernel_rfl) (fun _ _ _ h => h) (Or.inl ⟨by kernel_rfl, ?_⟩) (by assumption) ?_
  rotate_left
  · intro wv hSw
    go_simp
    try with_reducible rfl
  simp only [Act.put, List.setIfInBounds_toArray, List.set_cons_zero, List.set_cons_succ, List.getElem_toArray, List.getElem_cons_succ, List.getElem_cons_zero]
  refine wpAnyH_take (i := 7) (v := ?_) rfl (by kernel_rfl) (by kernel_rfl) (by kernel_rfl) (fun _ _ _ h => h) (Or.inl ⟨by kernel_rfl, ?_⟩) (by assumption) ?_
  rotate_left
  · intro wv hSw
    go_simp
    try with_reducible rfl
  simp only [Act.put, List.setIfInBounds_toArray, List.set_cons_zero, List.set_cons_succ, List.getElem_toArray, List.getElem_cons_succ, List.getElem_cons_zero]
  refine wpAnyH_take (i := 8) (v := ?_) rfl (by kernel_rfl) (by kernel_rfl) (by kernel_rfl) (fun _ _ _ h => h) (Or.inl ⟨by kernel_rfl, ?_⟩) (by assumption) ?_
  rotate_left
  · intro wv hSw
    go_simp
    try with_reducible rfl
  simp only [Act.put, List.setIfInBounds_toArray, List.set_cons_zero, List.set_cons_succ, List.getElem_toArray, List.getElem_cons_succ, List.getElem_cons_zero]
  refine wpAnyH_take (i := 9) (v := ?_) rfl (by kernel_rfl) (by kernel_rfl) (by kernel_rfl) (fun _ _ _ h => h) (Or.inl ⟨by kernel_rfl, ?_⟩) (by assumption) ?_
  rotate_left
  · intro wv hSw
    go_simp
    try with_reducible rfl
  simp only [Act.put, List.setIfInBounds_toArray, List.set_cons_zero, List.set_cons_succ, List.getElem_toArray, List.getElem_cons_succ, List.getElem_cons_zero]
  refine wpAnyH_take (i := 10) (v := ?_) rfl (by kernel_rfl) (by kernel_rfl) (by kernel_rfl) (fun _ _ _ h => h) (Or.inl ⟨by kernel_rfl, ?_⟩) (by assumption) ?_
  rotate_left
  · intro wv hSw
    have u0 : wv.cell? ⟨w.heap.size, 0, none⟩ = some (.int .u64 (en : Nat)) := cell_at (hSw.1 _ (.tail _ (.tail _ (.tail _ (.tail _ (.head _)))))) rfl
    have u1 : wv.cell? ⟨w.heap.size, 1, none⟩ = some (.int .u64 (so : Nat)) := cell_at (hSw.1 _ (.tail _ (.tail _ (.tail _ (.tail _ (.head _)))))) rfl
    have u2 : wv.cell? ⟨w.heap.size, 2, none⟩ = some (.int .u64 (sc : Nat)) := cell_at (hSw.1 _ (.tail _ (.tail _ (.tail _ (.tail _ (.head _)))))) rfl
    have u3 : wv.cell? ⟨w.heap.size, 3, none⟩ = some (.slice a1 n p1) := cell_at (hSw.1 _ (.tail _ (.tail _ (.tail _ (.tail _ (.head _)))))) rfl
    have u4 : wv.cell? ⟨w.heap.size, 4, none⟩ = some (.slice a2 m p2) := cell_at (hSw.1 _ (.tail _ (.tail _ (.tail _ (.tail _ (.head _)))))) rfl
    clear hSw
    go_simp
    try with_reducible rfl
  simp only [Act.put, List.setIfInBounds_toArray, List.set_cons_zero, List.set_cons_succ, List.getElem_toArray, List.getElem_cons_succ, List.getElem_cons_zero]
  refine wpAnyH_take (i := 12) (v := ?_) rfl (by kernel_rfl) (by kernel_rfl) (by kernel_rfl) (fun _ _ _ h => h) (Or.inl ⟨by kernel_rfl, ?_⟩) (by assumption) ?_
  rotate_left
  · intro wv hSw
    have u0 : wv.cell? ⟨w.heap.size, 0, none⟩ = some (.int .u64 (en : Nat)) := cell_at (hSw.1 _ (.tail _ (.tail _ (.tail _ (.tail _ (.head _)))))) rfl
    have u1 : wv.cell? ⟨w.heap.size, 1, none⟩ = some (.int .u64 (so : Nat)) := cell_at (hSw.1 _ (.tail _ (.tail _ (.tail _ (.tail _ (.head _)))))) rfl
    have u2 : wv.cell? ⟨w.heap.size, 2, none⟩ = some (.int .u64 (sc : Nat)) := cell_at (hSw.1 _ (.tail _ (.tail _ (.tail _ (.tail _ (.head _)))))) rfl
    have u3 : wv.cell? ⟨w.heap.size, 3, none⟩ = some (.slice a1 n p1) := cell_at (hSw.1 _ (.tail _ (.tail _ (.tail _ (.tail _ (.head _)))))) rfl
    have u4 : wv.cell? ⟨w.heap.size, 4, none⟩ = some (.slice a2 m p2) := cell_at (hSw.1 _ (.tail _ (.tail _ (.tail _ (.tail _ (.head _)))))) rfl
    clear hSw
    go_simp
    try with_reducible rfl
  simp only [Act.put, List.setIfInBounds_toArray, List.set_cons_zero, List.set_cons_succ, List.getElem_toArray, List.getElem_cons_succ, List.getElem_cons_zero]
  refine wpAnyH_ready (rs := [11]) (by kernel_rfl) (by simp) ?_
  refine AllReadyH.cons rfl (fun K hK => ?_) AllReadyH.nil
  go_simp
  go_at_call 14
  refine (head_any en so sc n m a1 a2 p1 p2 (by have := HNM.out; omega) (by have := HNM.out; omega) _ hHeld.2.2.1).mono ?_
  first | (rintro e W9x rfl hr hb) | (rintro e W9x ⟨rfl, hr, hb⟩)
  have HBQ := Lib.hid hr
  clear hr
  refine hK.out _ _ (hHeld.keep hb) (fun hHeld2 => ?_)
  clear hK K hHeld hb
  have hHeld := hHeld2
  clear hHeld2
  try simp only [Act.put, List.setIfInBounds_toArray, List.set_cons_zero, List.set_cons_succ, List.getElem_toArray, List.getElem_cons_succ, List.getElem_cons_zero]
  refine wpAnyH_ready (rs := [13]) (by kernel_rfl) (by simp) ?_
  refine AllReadyH.cons rfl (fun K hK => ?_) AllReadyH.nil
  go_simp
  go_at_call 15
  refine (rhead_any en so sc n m a1 a2 p1 p2 (by have := HNM.out; omega) (by have := HNM.out; omega) _).mono ?_
  first | (rintro e W9x v rfl ho hb) | (rintro e W9x ⟨v, rfl, ho, hb⟩)
  obtain ⟨gv1, kv1, rfl, _, _⟩ := owns_some ho (by decide)
  rw [head_row] at ho
  have HBV := Lib.hid (rx_bs (RX.own ho))
  have HBR := Lib.hid (BR.keep HBQ.out hb)
  clear ho
  refine hK.out _ _ (hHeld.keep hb) (fun hHeld2 => ?_)
  clear hK K hHeld hb
  have hHeld := hHeld2
  clear hHeld2
  try simp only [Act.put, List.setIfInBounds_toArray, List.set_cons_zero, List.set_cons_succ, List.getElem_toArray, List.getElem_cons_succ, List.getElem_cons_zero]
  refine wpAnyH_ready (rs := [14]) (by kernel_rfl) (by simp) ?_
  refine AllReadyH.cons rfl (fun K hK => ?_) AllReadyH.nil
  go_simp
  go_at_call 13
  refine (same_any _ _ 64 kv1 64 (headF en so sc n m) (headF_lt en so sc n m) (by decide) _ HBR.out.bs HBV.out).mono ?_
  first | (rintro e W9x rfl hb) | (rintro e W9x ⟨rfl, hb⟩)
  refine hK.out _ _ (hHeld.keep hb) (fun hHeld2 => ?_)
  clear hK K hHeld hb HBQ HBR HBV
  have hHeld := hHeld2
  clear hHeld2
  try simp only [Act.put, List.setIfInBounds_toArray, List.set_cons_zero, List.set_cons_succ, List.getElem_toArray, List.getElem_cons_succ, List.getElem_cons_zero]
  refine wpAnyH_take (i := 15) (v := ?_) rfl (by kernel_rfl) (by kernel_rfl) (by kernel_rfl) (fun _ _ _ h => h) (Or.inl ⟨by kernel_rfl, ?_⟩) (by assumption) ?_
  rotate_left
  · intro wv hSw
    go_simp
    try with_reducible rfl
  simp only [Act.put, List.setIfInBounds_toArray, List.set_cons_zero, List.set_cons_succ, List.getElem_toArray, List.getElem_cons_succ, List.getElem_cons_zero]
  refine wpAnyH_take (i := 16) (v := ?_) rfl (by kernel_rfl) (by kernel_rfl) (by kernel_rfl) (fun _ _ _ h => h) (Or.inl ⟨by kernel_rfl, ?_⟩) (by assumption) ?_
  rotate_left
  · intro wv hSw
    go_simp
    try with_reducible rfl
  simp only [Act.put, List.setIfInBounds_toArray, List.set_cons_zero, List.set_cons_succ, List.getElem_toArray, List.getElem_cons_succ, List.getElem_cons_zero]
  refine wpAnyH_take (i := 17) (v := ?_) rfl (by kernel_rfl) (by kernel_rfl) (by kernel_rfl) (fun _ _ _ h => h) (Or.inl ⟨by kernel_rfl, ?_⟩) (by assumption) ?_
  rotate_left
  · intro wv hSw
    go_simp
    try with_reducible rfl
  simp only [Act.put, List.setIfInBounds_toArray, List.set_cons_zero, List.set_cons_succ, List.getElem_toArray, List.getElem_cons_succ, List.getElem_cons_zero]
  refine wpAnyH_take (i := 18) (v := ?_) rfl (by kernel_rfl) (by kernel_rfl) (by kernel_rfl) (fun _ _ _ h => h) (Or.inl ⟨by kernel_rfl, ?_⟩) (by assumption) ?_
  rotate_left
  · intro wv hSw
    have e0 : wv.cell? ⟨w.heap.size + 1, 0, none⟩ = some (.int .u32 (s.1 : Nat)) := cell_at (hSw.1 _ (.tail _ (.tail _ (.tail _ (.head _))))) rfl
    have e1 : wv.cell? ⟨w.heap.size + 1, 1, none⟩ = some (.int .u32 (s.2.1 : Nat)) := cell_at (hSw.1 _ (.tail _ (.tail _ (.tail _ (.head _))))) rfl
    have e2 : wv.cell? ⟨w.heap.size + 1, 2, none⟩ = some (.int .u64 (s.2.2.1 : Nat)) := cell_at (hSw.1 _ (.tail _ (.tail _ (.tail _ (.head _))))) rfl
    have e3 : wv.cell? ⟨w.heap.size + 1, 3, none⟩ = some (.int .u64 (s.2.2.2.1 : Nat)) := cell_at (hSw.1 _ (.tail _ (.tail _ (.tail _ (.head _))))) rfl
    have e4 : wv.cell? ⟨w.heap.size + 1, 4, none⟩ = some (.int .u64 (s.2.2.2.2.1 : Nat)) := cell_at (hSw.1 _ (.tail _ (.tail _ (.tail _ (.head _))))) rfl
    have e5 : wv.cell? ⟨w.heap.size + 1, 5, none⟩ = some (.int .u64 (s.2.2.2.2.2.1 : Nat)) := cell_at (hSw.1 _ (.tail _ (.tail _ (.tail _ (.head _))))) rfl
    have e6 : wv.cell? ⟨w.heap.size + 1, 6, none⟩ = some (.int .u64 (s.2.2.2.2.2.2 : Nat)) := cell_at (hSw.1 _ (.tail _ (.tail _ (.tail _ (.head _))))) rfl
    clear hSw
    go_simp
    try with_reducible rfl
  simp only [Act.put, List.setIfInBounds_toArray, List.set_cons_zero, List.set_cons_succ, List.getElem_toArray, List.getElem_cons_succ, List.getElem_cons_zero]
  refine wpAnyH_take (i := 20) (v := ?_) rfl (by kernel_rfl) (by kernel_rfl) (by kernel_rfl) (fun _ _ _ h => h) (Or.inl ⟨by kernel_rfl, ?_⟩) (by assumption) ?_
  rotate_left
  · intro wv hSw
    have e0 : wv.cell? ⟨w.heap.size + 1, 0, none⟩ = some (.int .u32 (s.1 : Nat)) := cell_at (hSw.1 _ (.tail _ (.tail _ (.tail _ (.head _))))) rfl
    have e1 : wv.cell? ⟨w.heap.size + 1, 1, none⟩ = some (.int .u32 (s.2.1 : Nat)) := cell_at (hSw.1 _ (.tail _ (.tail _ (.tail _ (.head _))))) rfl
    have e2 : wv.cell? ⟨w.heap.size + 1, 2, none⟩ = some (.int .u64 (s.2.2.1 : Nat)) := cell_at (hSw.1 _ (.tail _ (.tail _ (.tail _ (.head _))))) rfl
    have e3 : wv.cell? ⟨w.heap.size + 1, 3, none⟩ = some (.int .u64 (s.2.2.2.1 : Nat)) := cell_at (hSw.1 _ (.tail _ (.tail _ (.tail _ (.head _))))) rfl
    have e4 : wv.cell? ⟨w.heap.size + 1, 4, none⟩ = some (.int .u64 (s.2.2.2.2.1 : Nat)) := cell_at (hSw.1 _ (.tail _ (.tail _ (.tail _ (.head _))))) rfl
    have e5 : wv.cell? ⟨w.heap.size + 1, 5, none⟩ = some (.int .u64 (s.2.2.2.2.2.1 : Nat)) := cell_at (hSw.1 _ (.tail _ (.tail _ (.tail _ (.head _))))) rfl
    have e6 : wv.cell? ⟨w.heap.size + 1, 6, none⟩ = some (.int .u64 (s.2.2.2.2.2.2 : Nat)) := cell_at (hSw.1 _ (.tail _ (.tail _ (.tail _ (.head _))))) rfl
    clear hSw
    go_simp
    try with_reducible rfl
  simp only [Act.put, List.setIfInBounds_toArray, List.set_cons_zero, List.set_cons_succ, List.getElem_toArray, List.getElem_cons_succ, List.getElem_cons_zero]
  refine wpAnyH_ready (rs := [19]) (by kernel_rfl) (by simp) ?_
  refine AllReadyH.cons rfl (fun K hK => ?_) AllReadyH.nil
  go_simp
  go_at_call 16
  refine (seg_any s.1 s.2.1 s.2.2.1 s.2.2.2.1 s.2.2.2.2.1 s.2.2.2.2.2.1 s.2.2.2.2.2.2 HOK.out.1.1 HOK.out.1.2.1 _).mono ?_
  first | (rintro e W9x rfl hr hb) | (rintro e W9x ⟨rfl, hr, hb⟩)
  have HBQ := Lib.hid hr
  clear hr
  refine hK.out _ _ (hHeld.keep hb) (fun hHeld2 => ?_)
  clear hK K hHeld hb
  have hHeld := hHeld2
  clear hHeld2
  try simp only [Act.put, List.setIfInBounds_toArray, List.set_cons_zero, List.set_cons_succ, List.getElem_toArray, List.getElem_cons_succ, List.getElem_cons_zero]
  refine wpAnyH_ready (rs := [21]) (by kernel_rfl) (by simp) ?_
  refine AllReadyH.cons rfl (fun K hK => ?_) AllReadyH.nil
  go_simp
  go_at_call 17
  refine (rseg_any s.1 s.2.1 s.2.2.1 s.2.2.2.1 s.2.2.2.2.1 s.2.2.2.2.2.1 s.2.2.2.2.2.2 HOK.out.1.1 HOK.out.1.2.1 _).mono ?_
  first | (rintro e W9x v rfl ho hb) | (rintro e W9x ⟨v, rfl, ho, hb⟩)
  obtain ⟨gv2, kv2, rfl, _, _⟩ := owns_some ho (by decide)
  rw [seg_row] at ho
  have HBV := Lib.hid (rx_bs (RX.own ho))
  have HBR := Lib.hid (BR.keep HBQ.out hb)
  clear ho
  refine hK.out _ _ (hHeld.keep hb) (fun hHeld2 => ?_)
  clear hK K hHeld hb
  have hHeld := hHeld2
  clear hHeld2
  try simp only [Act.put, List.setIfInBounds_toArray, List.set_cons_zero, List.set_cons_succ, List.getElem_toArray, List.getElem_cons_succ, List.getElem_cons_zero]
  refine wpAnyH_ready (rs := [22]) (by kernel_rfl) (by simp) ?_
  refine AllReadyH.cons rfl (fun K hK => ?_) AllReadyH.nil
  go_simp
  go_at_call 13
  refine (same_any _ _ 56 kv2 56 (segF s.1 s.2.1 s.2.2.1 s.2.2.2.1 s.2.2.2.2.1 s.2.2.2.2.2.1 s.2.2.2.2.2.2) (segF_lt s.1 s.2.1 s.2.2.1 s.2.2.2.1 s.2.2.2.2.1 s.2.2.2.2.2.1 s.2.2.2.2.2.2) (by decide) _ HBR.out.bs HBV.out).mono ?_
  first | (rintro e W9x rfl hb) | (rintro e W9x ⟨rfl, hb⟩)
  refine hK.out _ _ (hHeld.keep hb) (fun hHeld2 => ?_)
  clear hK K hHeld hb HBQ HBR HBV
  have hHeld := hHeld2
  clear hHeld2
  try simp only [Act.put, List.setIfInBounds_toArray, List.set_cons_zero, List.set_cons_succ, List.getElem_toArray, List.getElem_cons_succ, List.getElem_cons_zero]
  refine wpAnyH_take (i := 23) (v := ?_) rfl (by kernel_rfl) (by kernel_rfl) (by kernel_rfl) (fun _ _ _ h => h) (Or.inl ⟨by kernel_rfl, ?_⟩) (by assumption) ?_
  rotate_left
  · intro wv hSw
    go_simp
    try with_reducible rfl
  simp only [Act.put, List.setIfInBounds_toArray, List.set_cons_zero, List.set_cons_succ, List.getElem_toArray, List.getElem_cons_succ, List.getElem_cons_zero]
  refine wpAnyH_take (i := 24) (v := ?_) rfl (by kernel_rfl) (by kernel_rfl) (by kernel_rfl) (fun _ _ _ h => h) (Or.inl ⟨by kernel_rfl, ?_⟩) (by assumption) ?_
  rotate_left
  · intro wv hSw
    go_simp
    try with_reducible rfl
  simp only [Act.put, List.setIfInBounds_toArray, List.set_cons_zero, List.set_cons_succ, List.getElem_toArray, List.getElem_cons_succ, List.getElem_cons_zero]
  refine wpAnyH_take (i := 25) (v := ?_) rfl (by kernel_rfl) (by kernel_rfl) (by kernel_rfl) (fun _ _ _ h => h) (Or.inl ⟨by kernel_rfl, ?_⟩) (by assumption) ?_
  rotate_left
  · intro wv hSw
    go_simp
    try with_reducible rfl
  simp only [Act.put, List.setIfInBounds_toArray, List.set_cons_zero, List.set_cons_succ, List.getElem_toArray, List.getElem_cons_succ, List.getElem_cons_zero]
  refine wpAnyH_take (i := 26) (v := ?_) rfl (by kernel_rfl) (by kernel_rfl) (by kernel_rfl) (fun _ _ _ h => h) (Or.inl ⟨by kernel_rfl, ?_⟩) (by assumption) ?_
  rotate_left
  · intro wv hSw
    have e0 : wv.cell? ⟨w.heap.size + 1 + 1, 0, none⟩ = some (.int .u32 (c.1 : Nat)) := cell_at (hSw.1 _ (.tail _ (.tail _ (.head _)))) rfl
    have e1 : wv.cell? ⟨w.heap.size + 1 + 1, 1, none⟩ = some (.int .u64 (c.2.1 : Nat)) := cell_at (hSw.1 _ (.tail _ (.tail _ (.head _)))) rfl
    have e2 : wv.cell? ⟨w.heap.size + 1 + 1, 2, none⟩ = some (.int .u64 (c.2.2.1 : Nat)) := cell_at (hSw.1 _ (.tail _ (.tail _ (.head _)))) rfl
    have e3 : wv.cell? ⟨w.heap.size + 1 + 1, 3, none⟩ = some (.int .u32 (c.2.2.2.1 : Nat)) := cell_at (hSw.1 _ (.tail _ (.tail _ (.head _)))) rfl
    have e4 : wv.cell? ⟨w.heap.size + 1 + 1, 4, none⟩ = some (.int .u64 (c.2.2.2.2 : Nat)) := cell_at (hSw.1 _ (.tail _ (.tail _ (.head _)))) rfl
    clear hSw
    go_simp
    try with_reducible rfl
  simp only [Act.put, List.setIfInBounds_toArray, List.set_cons_zero, List.set_cons_succ, List.getElem_toArray, List.getElem_cons_succ, List.getElem_cons_zero]
  refine wpAnyH_take (i := 28) (v := ?_) rfl (by kernel_rfl) (by kernel_rfl) (by kernel_rfl) (fun _ _ _ h => h) (Or.inl ⟨by kernel_rfl, ?_⟩) (by assumption) ?_
  rotate_left
  · intro wv hSw
    have e0 : wv.cell? ⟨w.heap.size + 1 + 1, 0, none⟩ = some (.int .u32 (c.1 : Nat)) := cell_at (hSw.1 _ (.tail _ (.tail _ (.head _)))) rfl
    have e1 : wv.cell? ⟨w.heap.size + 1 + 1, 1, none⟩ = some (.int .u64 (c.2.1 : Nat)) := cell_at (hSw.1 _ (.tail _ (.tail _ (.head _)))) rfl
    have e2 : wv.cell? ⟨w.heap.size + 1 + 1, 2, none⟩ = some (.int .u64 (c.2.2.1 : Nat)) := cell_at (hSw.1 _ (.tail _ (.tail _ (.head _)))) rfl
    have e3 : wv.cell? ⟨w.heap.size + 1 + 1, 3, none⟩ = some (.int .u32 (c.2.2.2.1 : Nat)) := cell_at (hSw.1 _ (.tail _ (.tail _ (.head _)))) rfl
    have e4 : wv.cell? ⟨w.heap.size + 1 + 1, 4, none⟩ = some (.int .u64 (c.2.2.2.2 : Nat)) := cell_at (hSw.1 _ (.tail _ (.tail _ (.head _)))) rfl
    clear hSw
    go_simp
    try with_reducible rfl
  simp only [Act.put, List.setIfInBounds_toArray, List.set_cons_zero, List.set_cons_succ, List.getElem_toArray, List.getElem_cons_succ, List.getElem_cons_zero]
  refine wpAnyH_ready (rs := [27]) (by kernel_rfl) (by simp) ?_
  refine AllReadyH.cons rfl (fun K hK => ?_) AllReadyH.nil
  go_simp
  go_at_call 18
  refine (sec_any c.1 c.2.1 c.2.2.1 c.2.2.2.1 c.2.2.2.2 HOK.out.2.1 HOK.out.2.2.2.2.1 _).mono ?_
  first | (rintro e W9x rfl hr hb) | (rintro e W9x ⟨rfl, hr, hb⟩)
  have HBQ := Lib.hid hr
  clear hr
  refine hK.out _ _ (hHeld.keep hb) (fun hHeld2 => ?_)
  clear hK K hHeld hb
  have hHeld := hHeld2
  clear hHeld2
  try simp only [Act.put, List.setIfInBounds_toArray, List.set_cons_zero, List.set_cons_succ, List.getElem_toArray, List.getElem_cons_succ, List.getElem_cons_zero]
  refine wpAnyH_ready (rs := [29]) (by kernel_rfl) (by simp) ?_
  refine AllReadyH.cons rfl (fun K hK => ?_) AllReadyH.nil
  go_simp
  go_at_call 19
  refine (rsec_any c.1 c.2.1 c.2.2.1 c.2.2.2.1 c.2.2.2.2 HOK.out.2.1 HOK.out.2.2.2.2.1 _).mono ?_
  first | (rintro e W9x v rfl ho hb) | (rintro e W9x ⟨v, rfl, ho, hb⟩)
  obtain ⟨gv3, kv3, rfl, _, _⟩ := owns_some ho (by decide)
  rw [sec_row] at ho
  have HBV := Lib.hid (rx_bs (RX.own ho))
  have HBR := Lib.hid (BR.keep HBQ.out hb)
  clear ho
  refine hK.out _ _ (hHeld.keep hb) (fun hHeld2 => ?_)
  clear hK K hHeld hb
  have hHeld := hHeld2
  clear hHeld2
  try simp only [Act.put, List.setIfInBounds_toArray, List.set_cons_zero, List.set_cons_succ, List.getElem_toArray, List.getElem_cons_succ, List.getElem_cons_zero]
  refine wpAnyH_ready (rs := [30]) (by kernel_rfl) (by simp) ?_
  refine AllReadyH.cons rfl (fun K hK => ?_) AllReadyH.nil
  go_simp
  go_at_call 13
  refine (same_any _ _ 64 kv3 64 (secF c.1 c.2.1 c.2.2.1 c.2.2.2.1 c.2.2.2.2) (secF_lt c.1 c.2.1 c.2.2.1 c.2.2.2.1 c.2.2.2.2) (by decide) _ HBR.out.bs HBV.out).mono ?_
  first | (rintro e W9x rfl hb) | (rintro e W9x ⟨rfl, hb⟩)
  refine hK.out _ _ (hHeld.keep hb) (fun hHeld2 => ?_)
  clear hK K hHeld hb HBQ HBR HBV
  have hHeld := hHeld2
  clear hHeld2
  try simp only [Act.put, List.setIfInBounds_toArray, List.set_cons_zero, List.set_cons_succ, List.getElem_toArray, List.getElem_cons_succ, List.getElem_cons_zero]
  refine wpAnyH_take (i := 31) (v := ?_) rfl (by kernel_rfl) (by kernel_rfl) (by kernel_rfl) (fun _ _ _ h => h) (Or.inl ⟨by kernel_rfl, ?_⟩) (by assumption) ?_
  rotate_left
  · intro wv hSw
    go_simp
    try with_reducible rfl
  simp only [Act.put, List.setIfInBounds_toArray, List.set_cons_zero, List.set_cons_succ, List.getElem_toArray, List.getElem_cons_succ, List.getElem_cons_zero]
  refine wpAnyH_take (i := 32) (v := ?_) rfl (by kernel_rfl) (by kernel_rfl) (by kernel_rfl) (fun _ _ _ h => h) (Or.inl ⟨by kernel_rfl, ?_⟩) (by assumption) ?_
  rotate_left
  · intro wv hSw
    go_simp
    try with_reducible rfl
  simp only [Act.put, List.setIfInBounds_toArray, List.set_cons_zero, List.set_cons_succ, List.getElem_toArray, List.getElem_cons_succ, List.getElem_cons_zero]
  refine wpAnyH_done (by kernel_rfl) ?_ _
  refine NoPanic.normal ?_
  have HS7 := Lib.hid hHeld
  clear hHeld HS HSM
  go_wp2_with (first | (go_at_call 20; refine (HT1.out _ HS7.out.2.2.2).mono ?_) | fail)
  first | (rintro e V1 rfl hb) | (rintro e V1 ⟨rfl, hb⟩)
  replace HS7 := Lib.hid (HS7.out.keep hb)
  clear hb HT1
  go_upto_region 8 with fail
  replace HS7 := Lib.hid (HS7.out.box #[.int .u32 (t1.1 : Nat), .int .u32 (t1.2.1 : Nat), .int .u64 (t1.2.2.1 : Nat), .int .u64 (t1.2.2.2.1 : Nat), .int .u64 (t1.2.2.2.2.1 : Nat), .int .u64 (t1.2.2.2.2.2.1 : Nat), .int .u64 (t1.2.2.2.2.2.2 : Nat)] 30)
  generalize World.alloc V1 _ = V2 at HS7 ⊢
  generalize V1.heap.size = D3 at HS7 ⊢
  go_wp2_with (first | (go_at_call 21; refine (HT2.out _ HS7.out.2.2.2).mono ?_) | fail)
  first | (rintro e V3 rfl hb) | (rintro e V3 ⟨rfl, hb⟩)
  replace HS7 := Lib.hid (HS7.out.keep hb)
  clear hb HT2
  go_upto_region 9 with fail
  replace HS7 := Lib.hid (HS7.out.box #[.int .u32 (t1.1 : Nat), .int .u32 (t1.2.1 : Nat), .int .u64 (t1.2.2.1 : Nat), .int .u64 (t1.2.2.2.1 : Nat), .int .u64 (t1.2.2.2.2.1 : Nat), .int .u64 (t1.2.2.2.2.2.1 : Nat), .int .u64 (t1.2.2.2.2.2.2 : Nat)] 30)
  generalize World.alloc V3 _ = V4 at HS7 ⊢
  generalize V3.heap.size = D4 at HS7 ⊢
  go_wp2_with (first | (go_at_call 22; refine (HT3.out _ HS7.out.2.2.2).mono ?_) | fail)
  first | (rintro e V5 rfl hb) | (rintro e V5 ⟨rfl, hb⟩)
  replace HS7 := Lib.hid (HS7.out.keep hb)
  clear hb HT3
  go_upto_region 10 with fail
  replace HS7 := Lib.hid (HS7.out.box #[.int .u32 (t2.1 : Nat), .int .u64 (t2.2.1 : Nat), .int .u64 (t2.2.2.1 : Nat), .int .u32 (t2.2.2.2.1 : Nat), .int .u64 (t2.2.2.2.2 : Nat)] 32)
  generalize World.alloc V5 _ = V6 at HS7 ⊢
  generalize V5.heap.size = D5 at HS7 ⊢
  go_wp2_with (first | (go_at_call 23; refine (HT4.out _ HS7.out.2.2.2).mono ?_) | fail)
  first | (rintro e V7 rfl hb) | (rintro e V7 ⟨rfl, hb⟩)
  replace HS7 := Lib.hid (HS7.out.keep hb)
  clear hb HT4
  go_upto_region 11 with fail
  replace HS7 := Lib.hid (HS7.out.box #[.int .u32 (t2.1 : Nat), .int .u64 (t2.2.1 : Nat), .int .u64 (t2.2.2.1 : Nat), .int .u32 (t2.2.2.2.1 : Nat), .int .u64 (t2.2.2.2.2 : Nat)] 32)
  generalize World.alloc V7 _ = V8 at HS7 ⊢
  generalize V7.heap.size = D6 at HS7 ⊢
  have e0 : V8.cell? ⟨D3, 0, none⟩ = some (.int .u32 (t1.1 : Nat)) := cell_at (HS7.out.1 _ (.tail _ (.tail _ (.tail _ (.head _))))) rfl
  have e1 : V8.cell? ⟨D3, 1, none⟩ = some (.int .u32 (t1.2.1 : Nat)) := cell_at (HS7.out.1 _ (.tail _ (.tail _ (.tail _ (.head _))))) rfl
  have e2 : V8.cell? ⟨D3, 2, none⟩ = some (.int .u64 (t1.2.2.1 : Nat)) := cell_at (HS7.out.1 _ (.tail _ (.tail _ (.tail _ (.head _))))) rfl
  have e3 : V8.cell? ⟨D3, 3, none⟩ = some (.int .u64 (t1.2.2.2.1 : Nat)) := cell_at (HS7.out.1 _ (.tail _ (.tail _ (.tail _ (.head _))))) rfl
  have e4 : V8.cell? ⟨D3, 4, none⟩ = some (.int .u64 (t1.2.2.2.2.1 : Nat)) := cell_at (HS7.out.1 _ (.tail _ (.tail _ (.tail _ (.head _))))) rfl
  have e5 : V8.cell? ⟨D3, 5, none⟩ = some (.int .u64 (t1.2.2.2.2.2.1 : Nat)) := cell_at (HS7.out.1 _ (.tail _ (.tail _ (.tail _ (.head _))))) rfl
  have e6 : V8.cell? ⟨D3, 6, none⟩ = some (.int .u64 (t1.2.2.2.2.2.2 : Nat)) := cell_at (HS7.out.1 _ (.tail _ (.tail _ (.tail _ (.head _))))) rfl
  have f0 : V8.cell? ⟨D4, 0, none⟩ = some (.int .u32 (t1.1 : Nat)) := cell_at (HS7.out.1 _ (.tail _ (.tail _ (.head _)))) rfl
  have f1 : V8.cell? ⟨D4, 1, none⟩ = some (.int .u32 (t1.2.1 : Nat)) := cell_at (HS7.out.1 _ (.tail _ (.tail _ (.head _)))) rfl
  have f2 : V8.cell? ⟨D4, 2, none⟩ = some (.int .u64 (t1.2.2.1 : Nat)) := cell_at (HS7.out.1 _ (.tail _ (.tail _ (.head _)))) rfl
  have f3 : V8.cell? ⟨D4, 3, none⟩ = some (.int .u64 (t1.2.2.2.1 : Nat)) := cell_at (HS7.out.1 _ (.tail _ (.tail _ (.head _)))) rfl
  have f4 : V8.cell? ⟨D4, 4, none⟩ = some (.int .u64 (t1.2.2.2.2.1 : Nat)) := cell_at (HS7.out.1 _ (.tail _ (.tail _ (.head _)))) rfl
  have f5 : V8.cell? ⟨D4, 5, none⟩ = some (.int .u64 (t1.2.2.2.2.2.1 : Nat)) := cell_at (HS7.out.1 _ (.tail _ (.tail _ (.head _)))) rfl
  have f6 : V8.cell? ⟨D4, 6, none⟩ = some (.int .u64 (t1.2.2.2.2.2.2 : Nat)) := cell_at (HS7.out.1 _ (.tail _ (.tail _ (.head _)))) rfl
  have m0 : V8.cell? ⟨D5, 0, none⟩ = some (.int .u32 (t2.1 : Nat)) := cell_at (HS7.out.1 _ (.tail _ (.head _))) rfl
  have m1 : V8.cell? ⟨D5, 1, none⟩ = some (.int .u64 (t2.2.1 : Nat)) := cell_at (HS7.out.1 _ (.tail _ (.head _))) rfl
  have m2 : V8.cell? ⟨D5, 2, none⟩ = some (.int .u64 (t2.2.2.1 : Nat)) := cell_at (HS7.out.1 _ (.tail _ (.head _))) rfl
  have m3 : V8.cell? ⟨D5, 3, none⟩ = some (.int .u32 (t2.2.2.2.1 : Nat)) := cell_at (HS7.out.1 _ (.tail _ (.head _))) rfl
  have m4 : V8.cell? ⟨D5, 4, none⟩ = some (.int .u64 (t2.2.2.2.2 : Nat)) := cell_at (HS7.out.1 _ (.tail _ (.head _))) rfl
  have l0 : V8.cell? ⟨D6, 0, none⟩ = some (.int .u32 (t2.1 : Nat)) := cell_at (HS7.out.1 _ (.head _)) rfl
  have l1 : V8.cell? ⟨D6, 1, none⟩ = some (.int .u64 (t2.2.1 : Nat)) := cell_at (HS7.out.1 _ (.head _)) rfl
  have l2 : V8.cell? ⟨D6, 2, none⟩ = some (.int .u64 (t2.2.2.1 : Nat)) := cell_at (HS7.out.1 _ (.head _)) rfl
  have l3 : V8.cell? ⟨D6, 3, none⟩ = some (.int .u32 (t2.2.2.2.1 : Nat)) := cell_at (HS7.out.1 _ (.head _)) rfl
  have l4 : V8.cell? ⟨D6, 4, none⟩ = some (.int .u64 (t2.2.2.2.2 : Nat)) := cell_at (HS7.out.1 _ (.head _)) rfl
  have q30 := fun w => eq30 t1 HK12.out.1 w
  have q32 := fun w => eq32 t2 HK12.out.2 w
  unfold Sg.v at q30
  unfold Sc.v at q32
  go_wp2_with (first | (go_at_call 9; refine (wakes_any _ HS7.out.2.2.1).mono ?_) | fail)
  first | (rintro e V9 rfl hb) | (rintro e V9 ⟨rfl, hb⟩)
  have HE := Lib.hid (HS7.out.keep hb)
  go_wp2_with fail
  go_ret
  exact ⟨rfl, HE.out.2.2.2⟩
end Go.Proofs.YtnaggdhophncaaaDoor
