/- HeaderBack's long walk. -/
import Derived.Test.YtnaggdhophncaaaDoorHk
namespace Go.Proofs.YtnaggdhophncaaaDoor
open Go.RowKit Go.Shelf
set_option linter.unusedVariables false
set_option linter.unusedSimpArgs false
attribute [local go_sem] Oper.semAt_some
/-- The header, what was read, the bytes: in boxes and rows of one's own. -/
def OW (w : World) (ch : Array Value) (D : Nat) (cx : Array Value) (g cap len : Nat) (Z : Nat → Nat) (v1 : Value) (n1 : Nat) (L1 : List Value) (v2 : Value) (n2 : Nat) (L2 : List Value) (W : World) : Prop :=
  BG w ch W ∧ (w.heap.size < D ∧ W.heap[D]? = some (.cells cx 27 (0, 0))) ∧ W.ownsRow (w.heap.size + 1) 5 1 (.slice (some ⟨g, 0, none⟩) len cap) len (rowB Z len) ∧ W.ownsRow (w.heap.size + 1) 30 7 v1 n1 L1 ∧ W.ownsRow (w.heap.size + 1) 32 5 v2 n2 L2
theorem OW.set {w : World} {ch : Array Value} {D : Nat} {cx : Array Value} {g cap len : Nat} {Z : Nat → Nat} {v1 : Value} {n1 : Nat} {L1 : List Value} {v2 : Value} {n2 : Nat} {L2 : List Value} {W : World} (h : OW w ch D cx g cap len Z v1 n1 L1 v2 n2 L2 W) (hw : 2 ≤ w.heap.size) (i : Nat) (x : Value) :
    OW w (ch.setIfInBounds i x) D cx g cap len Z v1 n1 L1 v2 n2 L2 (W.setCell ⟨w.heap.size, i, none⟩ x) := by
  have hg := grown_set (k := i) (v := x) h.1.1.1
  exact ⟨gm_set h.1 hw i x, ⟨h.2.1.1, (hg.block D (Array.getElem?_eq_some_iff.1 h.2.1.2).1 (by intro e; have := Option.some.inj e; have := h.2.1.1; omega)).trans h.2.1.2⟩, h.2.2.1.kept hg (owns_ne h.2.2.1 (by omega)), h.2.2.2.1.kept hg (owns_ne h.2.2.2.1 (by omega)), h.2.2.2.2.kept hg (owns_ne h.2.2.2.2 (by omega))⟩
theorem owns_keep {W W' : World} {n : Nat} {ty : TypeId} {sz : Nat} {v : Value} {k : Nat} {L : List Value} (h : W.ownsRow n ty sz v k L) (hb : Below W.heap.size W W') : W'.ownsRow n ty sz v k L :=
  h.kept ⟨hb.os, hb.tape, hb.output, hb.size, fun q hq _ => hb.block q hq⟩ (row := none) (by cases v.ownBlock <;> simp)
theorem BS.congr {W : World} {ad : Option Addr} {n : Nat} {y z : Nat → Nat} (h : BS W ad n y) (e : ∀ j, j < n → y j = z j) : BS W ad n z := fun hn => by
  obtain ⟨b, off, ha, hc⟩ := h hn
  exact ⟨b, off, ha, fun j hj => by rw [← e j hj]; exact hc j hj⟩
theorem BS.less {W : World} {ad : Option Addr} {n m : Nat} {z : Nat → Nat} (h : BS W ad n z) (hm : m ≤ n) : BS W ad m z := fun h0 => by
  obtain ⟨b, off, ha, hc⟩ := h (by omega)
  exact ⟨b, off, ha, fun j hj => hc j (by omega)⟩
set_option maxRecDepth 100000 in
set_option maxHeartbeats 16000000 in
theorem back4_some (en so sc : Nat) (zs : List Sg) (cs : List Sc) (a1 a2 : Option Addr) (p1 p2 : Nat) (ar : Option Addr) (nr cr : Nat) (rz : Nat → Nat) (hz : ∀ s ∈ zs, s.ok) (hc : ∀ s ∈ cs, s.ok) (hen : U en) (hrz : ∀ j, rz j < 256) (w : World) (hG : GM w)
    (h1 : RX w a1 (zs.flatMap Sg.cs)) (h2 : RX w a2 (cs.flatMap Sc.cs)) (h3 : RI w ar nr cr rz) (hg : (decide (40 < zs.length) || (decide (80 < cs.length) || decide (6000 < nr))) = false) (hk1 : zs.length ≤ 16) (hk2 : cs.length ≤ 32) :
    Calls Tryd.prog 4 #[.agg #[.int .u64 (en : Nat), .int .u64 (so : Nat), .int .u64 (sc : Nat), .slice a1 zs.length p1, .slice a2 cs.length p2], .slice ar nr cr] w fun e W' => e = .returned (.bool true) ∧ Below w.heap.size w W' := by
  have HG2 := Lib.hid hG.2
  have HX1 := Lib.hid (fun W (hb : Below w.heap.size w W) => h1.keep hb)
  have HX2 := Lib.hid (fun W (hb : Below w.heap.size w W) => h2.keep hb)
  have HOK := Lib.hid (And.intro hz hc)
  have hn : zs.length ≤ 40 ∧ cs.length ≤ 80 ∧ nr ≤ 6000 := by simp at hg; omega
  obtain ⟨hn1, hm1, hr1⟩ := hn
  have HGR := Lib.hid (fun W => great_any en so sc zs.length cs.length a1 a2 p1 p2 ar nr cr W)
  rw [hg] at HGR
  have HLD := Lib.hid (fun W hb => laid_any en so sc zs cs a1 a2 p1 p2 ar nr cr rz hz hc (by omega) (by omega) (by omega) W (RX.keep (W' := W) h1 hb) (RX.keep (W' := W) h2 hb) (RI.keep (W := W) h3 hb))
  have HS := Lib.hid (BG.new hG #[.int .u64 (en : Nat), .int .u64 (so : Nat), .int .u64 (sc : Nat), .slice a1 zs.length p1, .slice a2 cs.length p2])
  clear hG hg
  go_enter Tryd.func4, Tryd.ntmps4
  go_upto_region 1 with fail
  generalize World.alloc w _ = W1 at HS ⊢
  have r0 := cell_at (i := 0) (v := .int .u64 (en : Nat)) HS.out.1.1 rfl
  have r1 := cell_at (i := 1) (v := .int .u64 (so : Nat)) HS.out.1.1 rfl
  have r2 := cell_at (i := 2) (v := .int .u64 (sc : Nat)) HS.out.1.1 rfl
  have r3 := cell_at (i := 3) (v := .slice a1 zs.length p1) HS.out.1.1 rfl
  have r4 := cell_at (i := 4) (v := .slice a2 cs.length p2) HS.out.1.1 rfl
  go_wp2_with (first | (go_at_call 8; refine (HGR.out _).mono ?_) | fail)
  rintro e W2 ⟨rfl, hb⟩
  replace HS := Lib.hid (HS.out.keep hb)
  clear hb r0 r1 r2 r3 r4 HGR
  have r0 := cell_at (i := 0) (v := .int .u64 (en : Nat)) HS.out.1.1 rfl
  have r1 := cell_at (i := 1) (v := .int .u64 (so : Nat)) HS.out.1.1 rfl
  have r2 := cell_at (i := 2) (v := .int .u64 (sc : Nat)) HS.out.1.1 rfl
  have r3 := cell_at (i := 3) (v := .slice a1 zs.length p1) HS.out.1.1 rfl
  have r4 := cell_at (i := 4) (v := .slice a2 cs.length p2) HS.out.1.1 rfl
  go_wp2_with (first | (go_at_call 24; refine (HLD.out _ HS.out.1.2).mono ?_) | fail)
  first | (rintro e W3 v rfl ho hb) | (rintro e W3 ⟨v, rfl, ho, hb⟩)
  have HS2 := HS
  replace HS := Lib.hid (HS.out.keep hb)
  clear hb r0 r1 r2 r3 r4 HLD
  obtain ⟨g, cap, rfl, hc1, hc2⟩ := owns_some ho (by omega)
  have HBS := Lib.hid (rx_bs (RX.own ho))
  have nums := laid_nums (en := en) (zs := zs) (cs := cs) (rz := rz) hen (by omega) (by omega)
  obtain ⟨N0, hN0⟩ : ∃ N0 : Nat, N0 = 64 + 56 * zs.length := ⟨_, rfl⟩
  have HRD := Lib.hid (read_good (z := laidZ en zs cs rz) (laid_lt hrz) hc1 hc2 HBS.out HS.out.2 (readE_of (by omega) (by omega) laid_mag (by rw [laid_kinds (by omega) (by omega)]; simp [hk1, hk2]) (by rw [place_of nums.2.1 nums.2.2.1 nums.2.2.2.1 nums.2.2.2.2]; exact place_yes (by omega))) nums.1 nums.2.1 (nums.2.2.1.trans hN0.symm) nums.2.2.2.1 nums.2.2.2.2)
  have HZH : Hid (∀ j, j < 64 → laidZ en zs cs rz j = headF en 64 (64 + 56 * zs.length) zs.length cs.length j) := Lib.hid (fun j hj => laid_head j hj)
  have hR1 := laid_srows (en := en) (zs := zs) (cs := cs) (rz := rz) hz
  have hR2 := laid_crows (en := en) (zs := zs) (cs := cs) (rz := rz) hc
  rw [← hN0] at hR2 HZH
  have HO3 := Lib.hid ho
  have HCC := Lib.hid (And.intro hc1 hc2)
  have HNR := Lib.hid hr1
  have HN0 := Lib.hid hN0
  clear nums hc1 hc2 HBS ho hr1 hN0
  go_wp2_with (first | (go_at_call 10; refine HRD.out.mono ?_) | fail)
  rintro e W4 ⟨x1, q1, x2, q2, rfl, ho1, ho2, hb⟩
  rw [hR1] at ho1
  rw [hR2] at ho2
  clear hR1 hR2 HRD
  have hsz3 : w.heap.size + 1 ≤ W3.heap.size := by have := (Array.getElem?_eq_some_iff.1 HS.out.1.1).1; omega
  have HO4 := Lib.hid (And.intro (owns_keep (owns_lower (n' := w.heap.size + 1) HO3.out (by have := (Array.getElem?_eq_some_iff.1 HS2.out.1.1).1; omega)) hb) (And.intro (owns_lower ho1 hsz3) (owns_lower ho2 hsz3)))
  replace HS := Lib.hid (HS.out.keep hb)
  have HS4 := Lib.hid (show w.heap.size < W4.heap.size by have := hb.size; omega)
  clear ho1 ho2 hb hsz3 HO3 HS2
  go_upto_region 5 with fail
  have HOW : Hid (OW w #[.int .u64 (en : Nat), .int .u64 (so : Nat), .int .u64 (sc : Nat), .slice a1 zs.length p1, .slice a2 cs.length p2] W4.heap.size #[.int .u64 (en : Nat), .int .u64 64, .int .u64 (N0 : Nat), .slice x1 zs.length q1, .slice x2 cs.length q2] g cap (64 + 56 * zs.length + 64 * cs.length + nr) (laidZ en zs cs rz) (.slice x1 zs.length q1) zs.length (zs.flatMap Sg.cs) (.slice x2 cs.length q2) cs.length (cs.flatMap Sc.cs) (W4.alloc (.cells #[.int .u64 (en : Nat), .int .u64 64, .int .u64 (N0 : Nat), .slice x1 zs.length q1, .slice x2 cs.length q2] 27))) := Lib.hid
    ⟨HS.out.keep ((Below.refl _ W4).alloc (Nat.le_refl _) _), ⟨HS4.out, heap_alloc_last W4 _⟩, HO4.out.1.alloc _, HO4.out.2.1.alloc _, HO4.out.2.2.alloc _⟩
  clear HS HO4
  generalize World.alloc W4 _ = W5 at HOW ⊢
  generalize W4.heap.size = D at HOW HS4 ⊢
  generalize laidZ en zs cs rz = Z at *
  obtain ⟨n, hn2⟩ : ∃ n, zs.length = n := ⟨_, rfl⟩
  obtain ⟨m, hm2⟩ : ∃ m, cs.length = m := ⟨_, rfl⟩
  rw [hn2] at hk1 HOW HZH HCC hn1 HN0 ⊢
  rw [hm2] at hk2 HOW HZH HCC hm1 ⊢
  have HL := Lib.hid (And.intro hn2 hm2)
  clear hn2 hm2 hn1 hm1
  have HN1 : Hid (64 ≤ 64 + 56 * n + 64 * m + nr) := Lib.hid (by omega)
  generalize 64 + 56 * n + 64 * m + nr = N1 at HOW HCC HN1 ⊢
  have e1 : decide ((16 : Int) < (n : Int)) = false := decide_eq_false (by omega)
  have e2 : decide ((32 : Int) < (m : Int)) = false := decide_eq_false (by omega)
  have c3 := cell_at (i := 3) (v := .slice a1 n p1) HOW.out.1.1.1 rfl
  have c4 := cell_at (i := 4) (v := .slice a2 m p2) HOW.out.1.1.1 rfl
  have c1 := cell_at (i := 1) (v := .int .u64 (so : Nat)) HOW.out.1.1.1 rfl
  have c2 := cell_at (i := 2) (v := .int .u64 (sc : Nat)) HOW.out.1.1.1 rfl
  have g1 := frozen_at HOW.out.1.1.1 1
  have g2 := frozen_at HOW.out.1.1.1 2
  have u1 : IntKind.u64.wrap (n : Int) = (n : Int) := IntWalk.u64_in _ (by omega)
  have u2 : IntKind.u64.wrap (56 * (n : Int)) = 56 * (n : Int) := IntWalk.u64_in _ (by omega)
  have u3 : IntKind.u64.wrap (64 + 56 * (n : Int)) = 64 + 56 * (n : Int) := IntWalk.u64_in _ (by omega)
  have HCA : Hid ((64 + 56 * (n : Int)) = (N0 : Int)) := Lib.hid (by have := HN0.out; omega)
  go_upto_region 8 with fail
  replace HOW := Lib.hid ((HOW.out.set HG2.out 1 (.int .u64 64)).set HG2.out 2 (.int .u64 (64 + 56 * (n : Int))))
  rw [HCA.out] at HOW ⊢
  have HKA : Hid (KA w w.heap.size D #[.int .u64 (en : Nat), .int .u64 64, .int .u64 (N0 : Nat), .slice a1 n p1, .slice a2 m p2] #[.int .u64 (en : Nat), .int .u64 64, .int .u64 (N0 : Nat), .slice x1 n q1, .slice x2 m q2]
    [(a1, zs.flatMap Sg.cs), (a2, cs.flatMap Sc.cs), (x1, zs.flatMap Sg.cs), (x2, cs.flatMap Sc.cs)] g N1 Z _) := Lib.hid ⟨HOW.out.1.1.1, HOW.out.2.1.2, fun x hx => by
      simp only [List.mem_cons, List.not_mem_nil, or_false] at hx
      rcases hx with rfl | rfl | rfl | rfl
      · exact HX1.out _ HOW.out.1.1.2
      · exact HX2.out _ HOW.out.1.1.2
      · exact RX.own HOW.out.2.2.2.1
      · exact RX.own HOW.out.2.2.2.2, rx_bs (RX.own HOW.out.2.2.1), HOW.out.1.2, HOW.out.1.1.2⟩
  clear HOW HX1 HX2 e1 e2 c1 c2 c3 c4 g1 g2 u1 u2 u3
  generalize World.setCell _ _ _ = W6 at HKA ⊢
  go_wp2_with fail
  go_loopw [8] (fun i W => ∃ k : Nat, k ≤ n ∧ i = .int .i64 k ∧ Hid (KA w w.heap.size D #[.int .u64 (en : Nat), .int .u64 64, .int .u64 (N0 : Nat), .slice a1 n p1, .slice a2 m p2] #[.int .u64 (en : Nat), .int .u64 64, .int .u64 (N0 : Nat), .slice x1 n q1, .slice x2 m q2] [(a1, zs.flatMap Sg.cs), (a2, cs.flatMap Sc.cs), (x1, zs.flatMap Sg.cs), (x2, cs.flatMap Sc.cs)] g N1 Z W)) (fun i _ => n - (intOf i).toNat)
  case atStart => exact ⟨0, by omega, rfl, HKA⟩
  case round =>
    clear HKA
    obtain ⟨k, hk, rfl, HKA⟩ := hrel
    have c3 := cell_at (i := 3) (v := .slice a1 n p1) HKA.out.1 rfl
    by_cases hlt : k < n
    · obtain ⟨s, hs⟩ : ∃ s, zs[k]? = some s := ⟨zs[k]'(by have := HL.out.1; omega), List.getElem?_eq_getElem _⟩
      have HK1 := Lib.hid hs
      have HSO := Lib.hid (HOK.out.1 s (List.mem_of_getElem? hs))
      clear hs
      obtain ⟨y1, o1, ha1, f0, f1, f2, f3, f4, f5, f6⟩ := Sg_at (HKA.out.2.2.1 _ (.head _)) HK1.out
      subst ha1
      go_wp2_with fail
      go_at_call 16
      refine (seg_any s.1 s.2.1 s.2.2.1 s.2.2.2.1 s.2.2.2.2.1 s.2.2.2.2.2.1 s.2.2.2.2.2.2 HSO.out.1 HSO.out.2.1 _).mono ?_
      rintro e W7 ⟨rfl, hr, hb⟩
      clear f0 f1 f2 f3 f4 f5 f6 c3
      replace HKA := Lib.hid (HKA.out.keep hb)
      have HTK := Lib.hid (take_seg' (some ⟨wr.heap.size + 1, 0, none⟩) 56 56 s HSO.out (Nat.le_refl _) (Nat.le_refl _) (by decide) W7 (z := s.f) (fun j => segF_lt _ _ _ _ _ _ _ _) (fun j _ => rfl) (BR.bs hr))
      unfold Sg.v at HTK
      clear hr hb
      go_wp2_with fail
      go_at_call 20
      refine HTK.out.mono ?_
      rintro e W8 ⟨rfl, hb⟩
      replace HKA := Lib.hid (HKA.out.keep hb)
      clear hb HTK
      go_upto_region 12 with fail
      have HT := Lib.hid (And.intro (HKA.out.alloc (.cells #[.int .u32 (s.1 : Nat), .int .u32 (s.2.1 : Nat), .int .u64 (s.2.2.1 : Nat), .int .u64 (s.2.2.2.1 : Nat), .int .u64 (s.2.2.2.2.1 : Nat), .int .u64 (s.2.2.2.2.2.1 : Nat), .int .u64 (s.2.2.2.2.2.2 : Nat)] 30)) (heap_alloc_last W8 (.cells #[.int .u32 (s.1 : Nat), .int .u32 (s.2.1 : Nat), .int .u64 (s.2.2.1 : Nat), .int .u64 (s.2.2.2.1 : Nat), .int .u64 (s.2.2.2.2.1 : Nat), .int .u64 (s.2.2.2.2.2.1 : Nat), .int .u64 (s.2.2.2.2.2.2 : Nat)] 30)))
      clear HKA
      generalize World.alloc W8 _ = W9 at HT ⊢
      generalize W8.heap.size = E at HT ⊢
      refine wp_region_noPanic ?_
      refine wp_region_held_drew (S := fun W : World => KA w w.heap.size D #[.int .u64 (en : Nat), .int .u64 64, .int .u64 (N0 : Nat), .slice (some ⟨y1, o1, none⟩) n p1, .slice a2 m p2] #[.int .u64 (en : Nat), .int .u64 64, .int .u64 (N0 : Nat), .slice x1 n q1, .slice x2 m q2] [((some ⟨y1, o1, none⟩), zs.flatMap Sg.cs), (a2, cs.flatMap Sc.cs), (x1, zs.flatMap Sg.cs), (x2, cs.flatMap Sc.cs)] g N1 Z W ∧ W.heap[E]? = some (.cells #[.int .u32 (s.1 : Nat), .int .u32 (s.2.1 : Nat), .int .u64 (s.2.2.1 : Nat), .int .u64 (s.2.2.2.1 : Nat), .int .u64 (s.2.2.2.2.1 : Nat), .int .u64 (s.2.2.2.2.2.1 : Nat), .int .u64 (s.2.2.2.2.2.2 : Nat)] 30 (0, 0))) (by kernel_rfl) ?_ (fun hHeld => ?_)
      · exact ⟨HT.out.1.drew, HT.out.2⟩
      generalize World.drew _ = W9 at hHeld ⊢
      refine wpAnyH_take (i := 0) (v := ?_) rfl (by kernel_rfl) (by kernel_rfl) (by kernel_rfl) (fun _ _ _ h => h) (Or.inl ⟨by kernel_rfl, ?_⟩) (by assumption) ?_
      rotate_left
      · intro wv hSw
        go_simp
        try with_reducible rfl
      simp only [Act.put, List.setIfInBounds_toArray, List.set_cons_zero, List.set_cons_succ, List.getElem_toArray, List.getElem_cons_succ, List.getElem_cons_zero]
      refine wpAnyH_take (i := 1) (v := ?_) rfl (by kernel_rfl) (by kernel_rfl) (by kernel_rfl) (fun _ _ _ h => h) (Or.inl ⟨by kernel_rfl, ?_⟩) (by assumption) ?_
      rotate_left
      · intro wv hSw
        go_simp
        try with_reducible rfl
      simp only [Act.put, List.setIfInBounds_toArray, List.set_cons_zero, List.set_cons_succ, List.getElem_toArray, List.getElem_cons_succ, List.getElem_cons_zero]
      refine wpAnyH_take (i := 2) (v := ?_) rfl (by kernel_rfl) (by kernel_rfl) (by kernel_rfl) (fun _ _ _ h => h) (Or.inl ⟨by kernel_rfl, ?_⟩) (by assumption) ?_
      rotate_left
      · intro wv hSw
        go_simp
        try with_reducible rfl
      simp only [Act.put, List.setIfInBounds_toArray, List.set_cons_zero, List.set_cons_succ, List.getElem_toArray, List.getElem_cons_succ, List.getElem_cons_zero]
      refine wpAnyH_take (i := 3) (v := ?_) rfl (by kernel_rfl) (by kernel_rfl) (by kernel_rfl) (fun _ _ _ h => h) (Or.inl ⟨by kernel_rfl, ?_⟩) (by assumption) ?_
      rotate_left
      · intro wv hSw
        have e0 := cell_at (i := 0) (v := .int .u32 (s.1 : Nat)) hSw.2 rfl
        have e1 := cell_at (i := 1) (v := .int .u32 (s.2.1 : Nat)) hSw.2 rfl
        have e2 := cell_at (i := 2) (v := .int .u64 (s.2.2.1 : Nat)) hSw.2 rfl
        have e3 := cell_at (i := 3) (v := .int .u64 (s.2.2.2.1 : Nat)) hSw.2 rfl
        have e4 := cell_at (i := 4) (v := .int .u64 (s.2.2.2.2.1 : Nat)) hSw.2 rfl
        have e5 := cell_at (i := 5) (v := .int .u64 (s.2.2.2.2.2.1 : Nat)) hSw.2 rfl
        have e6 := cell_at (i := 6) (v := .int .u64 (s.2.2.2.2.2.2 : Nat)) hSw.2 rfl
        clear hSw
        go_simp
        try with_reducible rfl
      simp only [Act.put, List.setIfInBounds_toArray, List.set_cons_zero, List.set_cons_succ, List.getElem_toArray, List.getElem_cons_succ, List.getElem_cons_zero]
      refine wpAnyH_take (i := 4) (v := ?_) rfl (by kernel_rfl) (by kernel_rfl) (by kernel_rfl) (fun _ _ _ h => h) (Or.inl ⟨by kernel_rfl, ?_⟩) (by assumption) ?_
      rotate_left
      · intro wv hSw
        go_simp
        try with_reducible rfl
      simp only [Act.put, List.setIfInBounds_toArray, List.set_cons_zero, List.set_cons_succ, List.getElem_toArray, List.getElem_cons_succ, List.getElem_cons_zero]
      refine wpAnyH_take (i := 5) (v := ?_) rfl (by kernel_rfl) (by kernel_rfl) (by kernel_rfl) (fun _ _ _ h => h) (Or.inl ⟨by kernel_rfl, ?_⟩) (by assumption) ?_
      rotate_left
      · intro wv hSw
        have c3 := cell_at (i := 3) (v := .slice (some ⟨y1, o1, none⟩) n p1) hSw.1.1 rfl
        clear hSw
        go_simp
        try with_reducible rfl
      simp only [Act.put, List.setIfInBounds_toArray, List.set_cons_zero, List.set_cons_succ, List.getElem_toArray, List.getElem_cons_succ, List.getElem_cons_zero]
      refine wpAnyH_take (i := 6) (v := ?_) rfl (by kernel_rfl) (by kernel_rfl) (by kernel_rfl) (fun _ _ _ h => h) (Or.inl ⟨by kernel_rfl, ?_⟩) (by assumption) ?_
      rotate_left
      · intro wv hSw
        go_simp
        try with_reducible rfl
      simp only [Act.put, List.setIfInBounds_toArray, List.set_cons_zero, List.set_cons_succ, List.getElem_toArray, List.getElem_cons_succ, List.getElem_cons_zero]
      refine wpAnyH_take (i := 7) (v := ?_) rfl (by kernel_rfl) (by kernel_rfl) (by kernel_rfl) (fun _ _ _ h => h) (Or.inl ⟨by kernel_rfl, ?_⟩) (by assumption) ?_
      rotate_left
      · intro wv hSw
        go_simp
        try with_reducible rfl
      simp only [Act.put, List.setIfInBounds_toArray, List.set_cons_zero, List.set_cons_succ, List.getElem_toArray, List.getElem_cons_succ, List.getElem_cons_zero]
      refine wpAnyH_take (i := 8) (v := ?_) rfl (by kernel_rfl) (by kernel_rfl) (by kernel_rfl) (fun _ _ _ h => h) (Or.inl ⟨by kernel_rfl, ?_⟩) (by assumption) ?_
      rotate_left
      · intro wv hSw
        obtain ⟨b9, off9, ha9, f0, f1, f2, f3, f4, f5, f6⟩ := Sg_at (hSw.1.2.2.1 _ (.head _)) HK1.out
        simp only [Option.some.injEq, Addr.mk.injEq, and_true] at ha9
        obtain ⟨rfl, rfl⟩ := ha9
        clear hSw
        go_simp
        try with_reducible rfl
      simp only [Act.put, List.setIfInBounds_toArray, List.set_cons_zero, List.set_cons_succ, List.getElem_toArray, List.getElem_cons_succ, List.getElem_cons_zero]
      refine wpAnyH_take (i := 9) (v := ?_) rfl (by kernel_rfl) (by kernel_rfl) (by kernel_rfl) (fun _ _ _ h => h) (Or.inl ⟨by kernel_rfl, ?_⟩) (by assumption) ?_
      rotate_left
      · intro wv hSw
        refine exec_neq30 (X := .tmp 74) (Y := .tmp 79) (ty := 30) (f := s) ?_ ?_ ?_ HSO.out
        · rfl
        · rfl
        · rfl
        try with_reducible rfl
      simp only [Act.put, List.setIfInBounds_toArray, List.set_cons_zero, List.set_cons_succ, List.getElem_toArray, List.getElem_cons_succ, List.getElem_cons_zero]
      refine wpAnyH_take (i := 10) (v := ?_) rfl (by kernel_rfl) (by kernel_rfl) (by kernel_rfl) (fun _ _ _ h => h) (Or.inl ⟨by kernel_rfl, ?_⟩) (by assumption) ?_
      rotate_left
      · intro wv hSw
        go_simp
        try with_reducible rfl
      simp only [Act.put, List.setIfInBounds_toArray, List.set_cons_zero, List.set_cons_succ, List.getElem_toArray, List.getElem_cons_succ, List.getElem_cons_zero]
      refine wpAnyH_done (by kernel_rfl) ?_ _
      refine NoPanic.normal ?_
      have HKA := Lib.hid hHeld.1
      clear hHeld HT
      go_wp2_with fail
      go_roundw
      case rel => exact ⟨k + 1, by omega, by go_num, HKA⟩
      case measure => simp [intOf]; omega
    · obtain rfl : n = k := by omega
      go_wp2_with fail
      clear c3
      go_loopw [11] (fun i W => ∃ k : Nat, k ≤ m ∧ i = .int .i64 k ∧ Hid (KA w w.heap.size D #[.int .u64 (en : Nat), .int .u64 64, .int .u64 (N0 : Nat), .slice a1 n p1, .slice a2 m p2] #[.int .u64 (en : Nat), .int .u64 64, .int .u64 (N0 : Nat), .slice x1 n q1, .slice x2 m q2] [(a1, zs.flatMap Sg.cs), (a2, cs.flatMap Sc.cs), (x1, zs.flatMap Sg.cs), (x2, cs.flatMap Sc.cs)] g N1 Z W)) (fun i _ => m - (intOf i).toNat)
      case atStart => exact ⟨0, by omega, rfl, HKA⟩
      case round =>
        clear HKA
        obtain ⟨k, hk, rfl, HKA⟩ := hrel
        have c3 := cell_at (i := 4) (v := .slice a2 m p2) HKA.out.1 rfl
        by_cases hlt : k < m
        · obtain ⟨s, hs⟩ : ∃ s, cs[k]? = some s := ⟨cs[k]'(by have := HL.out.2; omega), List.getElem?_eq_getElem _⟩
          have HK1 := Lib.hid hs
          have HSO := Lib.hid (HOK.out.2 s (List.mem_of_getElem? hs))
          clear hs
          obtain ⟨y1, o1, ha1, f0, f1, f2, f3, f4⟩ := Sc_at (HKA.out.2.2.1 _ (.tail _ (.head _))) HK1.out
          subst ha1
          go_wp2_with fail
          go_at_call 18
          refine (sec_any s.1 s.2.1 s.2.2.1 s.2.2.2.1 s.2.2.2.2 HSO.out.1 HSO.out.2.2.2.1 _).mono ?_
          rintro e W7 ⟨rfl, hr, hb⟩
          clear f0 f1 f2 f3 f4 c3
          replace HKA := Lib.hid (HKA.out.keep hb)
          have HTK := Lib.hid (take_sec' (some ⟨wr.heap.size + 1, 0, none⟩) 64 64 s HSO.out (Nat.le_refl _) (Nat.le_refl _) (by decide) W7 (z := s.f) (fun j => secF_lt _ _ _ _ _ _) (fun j _ => rfl) (BR.bs hr))
          unfold Sc.v at HTK
          clear hr hb
          go_wp2_with fail
          go_at_call 22
          refine HTK.out.mono ?_
          rintro e W8 ⟨rfl, hb⟩
          replace HKA := Lib.hid (HKA.out.keep hb)
          clear hb HTK
          go_upto_region 18 with fail
          have HT := Lib.hid (And.intro (HKA.out.alloc (.cells #[.int .u32 (s.1 : Nat), .int .u64 (s.2.1 : Nat), .int .u64 (s.2.2.1 : Nat), .int .u32 (s.2.2.2.1 : Nat), .int .u64 (s.2.2.2.2 : Nat)] 32)) (heap_alloc_last W8 (.cells #[.int .u32 (s.1 : Nat), .int .u64 (s.2.1 : Nat), .int .u64 (s.2.2.1 : Nat), .int .u32 (s.2.2.2.1 : Nat), .int .u64 (s.2.2.2.2 : Nat)] 32)))
          clear HKA
          generalize World.alloc W8 _ = W9 at HT ⊢
          generalize W8.heap.size = E at HT ⊢
          refine wp_region_noPanic ?_
          refine wp_region_held_drew (S := fun W : World => KA w w.heap.size D #[.int .u64 (en : Nat), .int .u64 64, .int .u64 (N0 : Nat), .slice a1 n p1, .slice (some ⟨y1, o1, none⟩) m p2] #[.int .u64 (en : Nat), .int .u64 64, .int .u64 (N0 : Nat), .slice x1 n q1, .slice x2 m q2] [(a1, zs.flatMap Sg.cs), ((some ⟨y1, o1, none⟩), cs.flatMap Sc.cs), (x1, zs.flatMap Sg.cs), (x2, cs.flatMap Sc.cs)] g N1 Z W ∧ W.heap[E]? = some (.cells #[.int .u32 (s.1 : Nat), .int .u64 (s.2.1 : Nat), .int .u64 (s.2.2.1 : Nat), .int .u32 (s.2.2.2.1 : Nat), .int .u64 (s.2.2.2.2 : Nat)] 32 (0, 0))) (by kernel_rfl) ?_ (fun hHeld => ?_)
          · exact ⟨HT.out.1.drew, HT.out.2⟩
          generalize World.drew _ = W9 at hHeld ⊢
          refine wpAnyH_take (i := 0) (v := ?_) rfl (by kernel_rfl) (by kernel_rfl) (by kernel_rfl) (fun _ _ _ h => h) (Or.inl ⟨by kernel_rfl, ?_⟩) (by assumption) ?_
          rotate_left
          · intro wv hSw
            go_simp
            try with_reducible rfl
          simp only [Act.put, List.setIfInBounds_toArray, List.set_cons_zero, List.set_cons_succ, List.getElem_toArray, List.getElem_cons_succ, List.getElem_cons_zero]
          refine wpAnyH_take (i := 1) (v := ?_) rfl (by kernel_rfl) (by kernel_rfl) (by kernel_rfl) (fun _ _ _ h => h) (Or.inl ⟨by kernel_rfl, ?_⟩) (by assumption) ?_
          rotate_left
          · intro wv hSw
            go_simp
            try with_reducible rfl
          simp only [Act.put, List.setIfInBounds_toArray, List.set_cons_zero, List.set_cons_succ, List.getElem_toArray, List.getElem_cons_succ, List.getElem_cons_zero]
          refine wpAnyH_take (i := 2) (v := ?_) rfl (by kernel_rfl) (by kernel_rfl) (by kernel_rfl) (fun _ _ _ h => h) (Or.inl ⟨by kernel_rfl, ?_⟩) (by assumption) ?_
          rotate_left
          · intro wv hSw
            go_simp
            try with_reducible rfl
          simp only [Act.put, List.setIfInBounds_toArray, List.set_cons_zero, List.set_cons_succ, List.getElem_toArray, List.getElem_cons_succ, List.getElem_cons_zero]
          refine wpAnyH_take (i := 3) (v := ?_) rfl (by kernel_rfl) (by kernel_rfl) (by kernel_rfl) (fun _ _ _ h => h) (Or.inl ⟨by kernel_rfl, ?_⟩) (by assumption) ?_
          rotate_left
          · intro wv hSw
            have e0 := cell_at (i := 0) (v := .int .u32 (s.1 : Nat)) hSw.2 rfl
            have e1 := cell_at (i := 1) (v := .int .u64 (s.2.1 : Nat)) hSw.2 rfl
            have e2 := cell_at (i := 2) (v := .int .u64 (s.2.2.1 : Nat)) hSw.2 rfl
            have e3 := cell_at (i := 3) (v := .int .u32 (s.2.2.2.1 : Nat)) hSw.2 rfl
            have e4 := cell_at (i := 4) (v := .int .u64 (s.2.2.2.2 : Nat)) hSw.2 rfl
            clear hSw
            go_simp
            try with_reducible rfl
          simp only [Act.put, List.setIfInBounds_toArray, List.set_cons_zero, List.set_cons_succ, List.getElem_toArray, List.getElem_cons_succ, List.getElem_cons_zero]
          refine wpAnyH_take (i := 4) (v := ?_) rfl (by kernel_rfl) (by kernel_rfl) (by kernel_rfl) (fun _ _ _ h => h) (Or.inl ⟨by kernel_rfl, ?_⟩) (by assumption) ?_
          rotate_left
          · intro wv hSw
            go_simp
            try with_reducible rfl
          simp only [Act.put, List.setIfInBounds_toArray, List.set_cons_zero, List.set_cons_succ, List.getElem_toArray, List.getElem_cons_succ, List.getElem_cons_zero]
          refine wpAnyH_take (i := 5) (v := ?_) rfl (by kernel_rfl) (by kernel_rfl) (by kernel_rfl) (fun _ _ _ h => h) (Or.inl ⟨by kernel_rfl, ?_⟩) (by assumption) ?_
          rotate_left
          · intro wv hSw
            have c3 := cell_at (i := 4) (v := .slice (some ⟨y1, o1, none⟩) m p2) hSw.1.1 rfl
            clear hSw
            go_simp
            try with_reducible rfl
          simp only [Act.put, List.setIfInBounds_toArray, List.set_cons_zero, List.set_cons_succ, List.getElem_toArray, List.getElem_cons_succ, List.getElem_cons_zero]
          refine wpAnyH_take (i := 6) (v := ?_) rfl (by kernel_rfl) (by kernel_rfl) (by kernel_rfl) (fun _ _ _ h => h) (Or.inl ⟨by kernel_rfl, ?_⟩) (by assumption) ?_
          rotate_left
          · intro wv hSw
            go_simp
            try with_reducible rfl
          simp only [Act.put, List.setIfInBounds_toArray, List.set_cons_zero, List.set_cons_succ, List.getElem_toArray, List.getElem_cons_succ, List.getElem_cons_zero]
          refine wpAnyH_take (i := 7) (v := ?_) rfl (by kernel_rfl) (by kernel_rfl) (by kernel_rfl) (fun _ _ _ h => h) (Or.inl ⟨by kernel_rfl, ?_⟩) (by assumption) ?_
          rotate_left
          · intro wv hSw
            go_simp
            try with_reducible rfl
          simp only [Act.put, List.setIfInBounds_toArray, List.set_cons_zero, List.set_cons_succ, List.getElem_toArray, List.getElem_cons_succ, List.getElem_cons_zero]
          refine wpAnyH_take (i := 8) (v := ?_) rfl (by kernel_rfl) (by kernel_rfl) (by kernel_rfl) (fun _ _ _ h => h) (Or.inl ⟨by kernel_rfl, ?_⟩) (by assumption) ?_
          rotate_left
          · intro wv hSw
            obtain ⟨b9, off9, ha9, f0, f1, f2, f3, f4⟩ := Sc_at (hSw.1.2.2.1 _ (.tail _ (.head _))) HK1.out
            simp only [Option.some.injEq, Addr.mk.injEq, and_true] at ha9
            obtain ⟨rfl, rfl⟩ := ha9
            clear hSw
            go_simp
            try with_reducible rfl
          simp only [Act.put, List.setIfInBounds_toArray, List.set_cons_zero, List.set_cons_succ, List.getElem_toArray, List.getElem_cons_succ, List.getElem_cons_zero]
          refine wpAnyH_take (i := 9) (v := ?_) rfl (by kernel_rfl) (by kernel_rfl) (by kernel_rfl) (fun _ _ _ h => h) (Or.inl ⟨by kernel_rfl, ?_⟩) (by assumption) ?_
          rotate_left
          · intro wv hSw
            refine exec_neq32 (X := .tmp 102) (Y := .tmp 107) (ty := 32) (f := s) ?_ ?_ ?_ HSO.out
            · rfl
            · rfl
            · rfl
            try with_reducible rfl
          simp only [Act.put, List.setIfInBounds_toArray, List.set_cons_zero, List.set_cons_succ, List.getElem_toArray, List.getElem_cons_succ, List.getElem_cons_zero]
          refine wpAnyH_take (i := 10) (v := ?_) rfl (by kernel_rfl) (by kernel_rfl) (by kernel_rfl) (fun _ _ _ h => h) (Or.inl ⟨by kernel_rfl, ?_⟩) (by assumption) ?_
          rotate_left
          · intro wv hSw
            go_simp
            try with_reducible rfl
          simp only [Act.put, List.setIfInBounds_toArray, List.set_cons_zero, List.set_cons_succ, List.getElem_toArray, List.getElem_cons_succ, List.getElem_cons_zero]
          refine wpAnyH_done (by kernel_rfl) ?_ _
          refine NoPanic.normal ?_
          have HKA := Lib.hid hHeld.1
          clear hHeld HT
          go_wp2_with fail
          go_roundw
          case rel => exact ⟨k + 1, by omega, by go_num, HKA⟩
          case measure => simp [intOf]; omega
        · obtain rfl : m = k := by omega
          go_upto_region 20 with fail
          have HSM := Lib.hid (fun W (h : KA w w.heap.size D #[.int .u64 (en : Nat), .int .u64 64, .int .u64 (N0 : Nat), .slice a1 n p1, .slice a2 m p2] #[.int .u64 (en : Nat), .int .u64 64, .int .u64 (N0 : Nat), .slice x1 n q1, .slice x2 m q2] [(a1, zs.flatMap Sg.cs), (a2, cs.flatMap Sc.cs), (x1, zs.flatMap Sg.cs), (x2, cs.flatMap Sc.cs)] g N1 Z W) => rsame_any en 64 N0 zs cs x1 x2 a1 a2 q1 q2 p1 p2 HOK.out.1 HOK.out.2 (by have := HL.out.1; omega) (by have := HL.out.2; omega) W (h.2.2.1 _ (.tail _ (.tail _ (.head _)))) (h.2.2.1 _ (.tail _ (.tail _ (.tail _ (.head _))))) (h.2.2.1 _ (.head _)) (h.2.2.1 _ (.tail _ (.head _))))
          rw [HL.out.1, HL.out.2] at HSM
          have HHD := Lib.hid (fun W hG => head_any en 64 N0 n m a1 a2 p1 p2 (by omega) (by omega) W hG)
          have HSA := Lib.hid (fun W b (h : KA w w.heap.size D #[.int .u64 (en : Nat), .int .u64 64, .int .u64 (N0 : Nat), .slice a1 n p1, .slice a2 m p2] #[.int .u64 (en : Nat), .int .u64 64, .int .u64 (N0 : Nat), .slice x1 n q1, .slice x2 m q2] [(a1, zs.flatMap Sg.cs), (a2, cs.flatMap Sc.cs), (x1, zs.flatMap Sg.cs), (x2, cs.flatMap Sc.cs)] g N1 Z W) (hr : BR W b 64 (headF en 64 N0 n m)) => same_any (some ⟨b, 0, none⟩) (some ⟨g, 0, none⟩) 64 cap 64 (headF en 64 N0 n m) (headF_lt en 64 N0 n m) (by decide) W hr.bs ((h.2.2.2.1.less HN1.out).congr HZH.out))
          clear c3
          refine wp_region_noPanic ?_
          refine wp_region_held_drew (S := fun W : World => KA w w.heap.size D #[.int .u64 (en : Nat), .int .u64 64, .int .u64 (N0 : Nat), .slice a1 n p1, .slice a2 m p2] #[.int .u64 (en : Nat), .int .u64 64, .int .u64 (N0 : Nat), .slice x1 n q1, .slice x2 m q2] [(a1, zs.flatMap Sg.cs), (a2, cs.flatMap Sc.cs), (x1, zs.flatMap Sg.cs), (x2, cs.flatMap Sc.cs)] g N1 Z W) (by kernel_rfl) ?_ (fun hHeld => ?_)
          · exact HKA.out.drew
          generalize World.drew _ = W9 at hHeld ⊢
          refine wpAnyH_take (i := 0) (v := ?_) rfl (by kernel_rfl) (by kernel_rfl) (by kernel_rfl) (fun _ _ _ h => h) (Or.inl ⟨by kernel_rfl, ?_⟩) (by assumption) ?_
          rotate_left
          · intro wv hSw
            go_simp
            try with_reducible rfl
          simp only [Act.put, List.setIfInBounds_toArray, List.set_cons_zero, List.set_cons_succ, List.getElem_toArray, List.getElem_cons_succ, List.getElem_cons_zero]
          refine wpAnyH_take (i := 1) (v := ?_) rfl (by kernel_rfl) (by kernel_rfl) (by kernel_rfl) (fun _ _ _ h => h) (Or.inl ⟨by kernel_rfl, ?_⟩) (by assumption) ?_
          rotate_left
          · intro wv hSw
            go_simp
            try with_reducible rfl
          simp only [Act.put, List.setIfInBounds_toArray, List.set_cons_zero, List.set_cons_succ, List.getElem_toArray, List.getElem_cons_succ, List.getElem_cons_zero]
          refine wpAnyH_take (i := 2) (v := ?_) rfl (by kernel_rfl) (by kernel_rfl) (by kernel_rfl) (fun _ _ _ h => h) (Or.inl ⟨by kernel_rfl, ?_⟩) (by assumption) ?_
          rotate_left
          · intro wv hSw
            go_simp
            try with_reducible rfl
          simp only [Act.put, List.setIfInBounds_toArray, List.set_cons_zero, List.set_cons_succ, List.getElem_toArray, List.getElem_cons_succ, List.getElem_cons_zero]
          refine wpAnyH_take (i := 3) (v := ?_) rfl (by kernel_rfl) (by kernel_rfl) (by kernel_rfl) (fun _ _ _ h => h) (Or.inl ⟨by kernel_rfl, ?_⟩) (by assumption) ?_
          rotate_left
          · intro wv hSw
            have d0 := cell_at (i := 0) (v := .int .u64 (en : Nat)) hSw.2.1 rfl
            have d1 := cell_at (i := 1) (v := .int .u64 64) hSw.2.1 rfl
            have d2 := cell_at (i := 2) (v := .int .u64 (N0 : Nat)) hSw.2.1 rfl
            have d3 := cell_at (i := 3) (v := .slice x1 n q1) hSw.2.1 rfl
            have d4 := cell_at (i := 4) (v := .slice x2 m q2) hSw.2.1 rfl
            clear hSw
            go_simp
            try with_reducible rfl
          simp only [Act.put, List.setIfInBounds_toArray, List.set_cons_zero, List.set_cons_succ, List.getElem_toArray, List.getElem_cons_succ, List.getElem_cons_zero]
          refine wpAnyH_take (i := 4) (v := ?_) rfl (by kernel_rfl) (by kernel_rfl) (by kernel_rfl) (fun _ _ _ h => h) (Or.inl ⟨by kernel_rfl, ?_⟩) (by assumption) ?_
          rotate_left
          · intro wv hSw
            have r0 := cell_at (i := 0) (v := .int .u64 (en : Nat)) hSw.1 rfl
            have r1 := cell_at (i := 1) (v := .int .u64 64) hSw.1 rfl
            have r2 := cell_at (i := 2) (v := .int .u64 (N0 : Nat)) hSw.1 rfl
            have r3 := cell_at (i := 3) (v := .slice a1 n p1) hSw.1 rfl
            have r4 := cell_at (i := 4) (v := .slice a2 m p2) hSw.1 rfl
            clear hSw
            go_simp
            try with_reducible rfl
          simp only [Act.put, List.setIfInBounds_toArray, List.set_cons_zero, List.set_cons_succ, List.getElem_toArray, List.getElem_cons_succ, List.getElem_cons_zero]
          refine wpAnyH_ready (rs := [5]) (by kernel_rfl) (by simp) ?_
          refine AllReadyH.cons rfl (fun K hK => ?_) AllReadyH.nil
          go_simp
          go_at_call 12
          refine (HSM.out _ hHeld).mono ?_
          first | (rintro e W9x rfl hb) | (rintro e W9x ⟨rfl, hb⟩)
          refine hK.out _ _ (hHeld.keep hb) (fun hHeld2 => ?_)
          clear hK K hHeld hb
          have hHeld := hHeld2
          clear hHeld2
          try simp only [Act.put, List.setIfInBounds_toArray, List.set_cons_zero, List.set_cons_succ, List.getElem_toArray, List.getElem_cons_succ, List.getElem_cons_zero]
          refine wpAnyH_take (i := 6) (v := ?_) rfl (by kernel_rfl) (by kernel_rfl) (by kernel_rfl) (fun _ _ _ h => h) (Or.inl ⟨by kernel_rfl, ?_⟩) (by assumption) ?_
          rotate_left
          · intro wv hSw
            go_simp
            try with_reducible rfl
          simp only [Act.put, List.setIfInBounds_toArray, List.set_cons_zero, List.set_cons_succ, List.getElem_toArray, List.getElem_cons_succ, List.getElem_cons_zero]
          refine wpAnyH_take (i := 7) (v := ?_) rfl (by kernel_rfl) (by kernel_rfl) (by kernel_rfl) (fun _ _ _ h => h) (Or.inl ⟨by kernel_rfl, ?_⟩) (by assumption) ?_
          rotate_left
          · intro wv hSw
            go_simp
            try with_reducible rfl
          simp only [Act.put, List.setIfInBounds_toArray, List.set_cons_zero, List.set_cons_succ, List.getElem_toArray, List.getElem_cons_succ, List.getElem_cons_zero]
          refine wpAnyH_take (i := 8) (v := ?_) rfl (by kernel_rfl) (by kernel_rfl) (by kernel_rfl) (fun _ _ _ h => h) (Or.inl ⟨by kernel_rfl, ?_⟩) (by assumption) ?_
          rotate_left
          · intro wv hSw
            have r0 := cell_at (i := 0) (v := .int .u64 (en : Nat)) hSw.1 rfl
            have r1 := cell_at (i := 1) (v := .int .u64 64) hSw.1 rfl
            have r2 := cell_at (i := 2) (v := .int .u64 (N0 : Nat)) hSw.1 rfl
            have r3 := cell_at (i := 3) (v := .slice a1 n p1) hSw.1 rfl
            have r4 := cell_at (i := 4) (v := .slice a2 m p2) hSw.1 rfl
            clear hSw
            go_simp
            try with_reducible rfl
          simp only [Act.put, List.setIfInBounds_toArray, List.set_cons_zero, List.set_cons_succ, List.getElem_toArray, List.getElem_cons_succ, List.getElem_cons_zero]
          refine wpAnyH_take (i := 10) (v := ?_) rfl (by kernel_rfl) (by kernel_rfl) (by kernel_rfl) (fun _ _ _ h => h) (Or.inl ⟨by kernel_rfl, ?_⟩) (by assumption) ?_
          rotate_left
          · intro wv hSw
            go_simp
            try with_reducible rfl
          simp only [Act.put, List.setIfInBounds_toArray, List.set_cons_zero, List.set_cons_succ, List.getElem_toArray, List.getElem_cons_succ, List.getElem_cons_zero]
          refine wpAnyH_take (i := 11) (v := ?_) rfl (by kernel_rfl) (by kernel_rfl) (by kernel_rfl) (fun _ _ _ h => h) (Or.inl ⟨by kernel_rfl, ?_⟩) (by assumption) ?_
          rotate_left
          · intro wv hSw
            have h64 := HN1.out
            have hcc := HCC.out
            have hi1 : (64 : Int) ≤ (cap : Int) := by omega
            clear h64 hcc hSw
            go_simp
            try with_reducible rfl
          simp only [Act.put, List.setIfInBounds_toArray, List.set_cons_zero, List.set_cons_succ, List.getElem_toArray, List.getElem_cons_succ, List.getElem_cons_zero]
          refine wpAnyH_ready (rs := [9]) (by kernel_rfl) (by simp) ?_
          refine AllReadyH.cons rfl (fun K hK => ?_) AllReadyH.nil
          go_simp
          go_at_call 14
          refine (HHD.out _ hHeld.2.2.2.2.1).mono ?_
          first | (rintro e W9x rfl hr hb) | (rintro e W9x ⟨rfl, hr, hb⟩)
          refine hK.out _ _ (hHeld.keep hb) (fun hHeld2 => ?_)
          have hrr := Lib.hid hr
          clear hK K hHeld hb hr
          have hHeld := hHeld2
          clear hHeld2
          try simp only [Act.put, List.setIfInBounds_toArray, List.set_cons_zero, List.set_cons_succ, List.getElem_toArray, List.getElem_cons_succ, List.getElem_cons_zero]
          refine wpAnyH_ready (rs := [12]) (by kernel_rfl) (by simp) ?_
          refine AllReadyH.cons rfl (fun K hK => ?_) AllReadyH.nil
          go_simp
          go_at_call 13
          refine (HSA.out _ _ hHeld hrr.out).mono ?_
          first | (rintro e W9x rfl hb) | (rintro e W9x ⟨rfl, hb⟩)
          refine hK.out _ _ (hHeld.keep hb) (fun hHeld2 => ?_)
          clear hK K hHeld hb hrr
          have hHeld := hHeld2
          clear hHeld2
          try simp only [Act.put, List.setIfInBounds_toArray, List.set_cons_zero, List.set_cons_succ, List.getElem_toArray, List.getElem_cons_succ, List.getElem_cons_zero]
          refine wpAnyH_take (i := 13) (v := ?_) rfl (by kernel_rfl) (by kernel_rfl) (by kernel_rfl) (fun _ _ _ h => h) (Or.inl ⟨by kernel_rfl, ?_⟩) (by assumption) ?_
          rotate_left
          · intro wv hSw
            go_simp
            try with_reducible rfl
          simp only [Act.put, List.setIfInBounds_toArray, List.set_cons_zero, List.set_cons_succ, List.getElem_toArray, List.getElem_cons_succ, List.getElem_cons_zero]
          refine wpAnyH_take (i := 14) (v := ?_) rfl (by kernel_rfl) (by kernel_rfl) (by kernel_rfl) (fun _ _ _ h => h) (Or.inl ⟨by kernel_rfl, ?_⟩) (by assumption) ?_
          rotate_left
          · intro wv hSw
            go_simp
            try with_reducible rfl
          simp only [Act.put, List.setIfInBounds_toArray, List.set_cons_zero, List.set_cons_succ, List.getElem_toArray, List.getElem_cons_succ, List.getElem_cons_zero]
          refine wpAnyH_ready (rs := [15]) (by kernel_rfl) (by simp) ?_
          refine AllReadyH.cons rfl (fun K hK => ?_) AllReadyH.nil
          go_simp
          go_at_call 9
          refine (wakes_any _ hHeld.2.2.2.2.1).mono ?_
          first | (rintro e W9x rfl hb) | (rintro e W9x ⟨rfl, hb⟩)
          refine hK.out _ _ (hHeld.keep hb) (fun hHeld2 => ?_)
          clear hK K hHeld hb
          have hHeld := hHeld2
          clear hHeld2
          try simp only [Act.put, List.setIfInBounds_toArray, List.set_cons_zero, List.set_cons_succ, List.getElem_toArray, List.getElem_cons_succ, List.getElem_cons_zero]
          refine wpAnyH_take (i := 16) (v := ?_) rfl (by kernel_rfl) (by kernel_rfl) (by kernel_rfl) (fun _ _ _ h => h) (Or.inl ⟨by kernel_rfl, ?_⟩) (by assumption) ?_
          rotate_left
          · intro wv hSw
            go_simp
            try with_reducible rfl
          simp only [Act.put, List.setIfInBounds_toArray, List.set_cons_zero, List.set_cons_succ, List.getElem_toArray, List.getElem_cons_succ, List.getElem_cons_zero]
          refine wpAnyH_take (i := 17) (v := ?_) rfl (by kernel_rfl) (by kernel_rfl) (by kernel_rfl) (fun _ _ _ h => h) (Or.inl ⟨by kernel_rfl, ?_⟩) (by assumption) ?_
          rotate_left
          · intro wv hSw
            go_simp
            try with_reducible rfl
          simp only [Act.put, List.setIfInBounds_toArray, List.set_cons_zero, List.set_cons_succ, List.getElem_toArray, List.getElem_cons_succ, List.getElem_cons_zero]
          refine wpAnyH_done (by kernel_rfl) ?_ _
          refine NoPanic.normal ?_
          have HE := Lib.hid hHeld
          clear hHeld HKA
          go_wp2_with fail
          go_ret
          exact ⟨rfl, HE.out.2.2.2.2.2⟩
end Go.Proofs.YtnaggdhophncaaaDoor
