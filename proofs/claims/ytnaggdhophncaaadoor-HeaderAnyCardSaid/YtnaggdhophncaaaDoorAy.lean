/- HeaderAny's walk. -/
import Derived.Test.YtnaggdhophncaaaDoorAa
namespace Go.Proofs.YtnaggdhophncaaaDoor
open Go.RowKit Go.Shelf
set_option linter.unusedVariables false
set_option linter.unusedSimpArgs false
attribute [local go_sem] Oper.semAt_some
set_option maxRecDepth 100000 in
set_option maxHeartbeats 16000000 in
theorem any7_walk (en so sc : Nat) (zs : List Sg) (cs : List Sc) (a1 a2 : Option Addr) (p1 p2 : Nat) (s : Sg) (c : Sc) (y : Nat → Nat) (hz : ∀ s ∈ zs, s.ok) (hc : ∀ s ∈ cs, s.ok) (hen : U en) (hs : s.ok) (hcc : c.ok) (hy : ∀ j, y j < 256) (w : World) (hG : GM w)
    (h1 : RX w a1 (zs.flatMap Sg.cs)) (h2 : RX w a2 (cs.flatMap Sc.cs)) :
    Calls Tryd.prog 7 #[.agg #[.int .u64 (en : Nat), .int .u64 (so : Nat), .int .u64 (sc : Nat), .slice a1 zs.length p1, .slice a2 cs.length p2], .agg #[.int .u32 (s.1 : Nat), .int .u32 (s.2.1 : Nat), .int .u64 (s.2.2.1 : Nat), .int .u64 (s.2.2.2.1 : Nat), .int .u64 (s.2.2.2.2.1 : Nat), .int .u64 (s.2.2.2.2.2.1 : Nat), .int .u64 (s.2.2.2.2.2.2 : Nat)], .agg #[.int .u32 (c.1 : Nat), .int .u64 (c.2.1 : Nat), .int .u64 (c.2.2.1 : Nat), .int .u32 (c.2.2.2.1 : Nat), .int .u64 (c.2.2.2.2 : Nat)], .agg (rowB y 16).toArray] w fun e W' => e = .returned (.bool true) ∧ Below w.heap.size w W' := by
  have HS0 : SB w [] [(a1, zs.flatMap Sg.cs), (a2, cs.flatMap Sc.cs)] w := ⟨fun x hx => absurd hx (by simp), fun x hx => by
    simp only [List.mem_cons, List.not_mem_nil, or_false] at hx
    rcases hx with rfl | rfl
    · exact h1
    · exact h2, hG, Below.refl _ _⟩
  have HR0 := Lib.hid HS0.2.1
  have HG2 := Lib.hid hG.2
  have HOK := Lib.hid (And.intro hz (And.intro hc (And.intro hen (And.intro hs (And.intro hcc hy)))))
  have HS := Lib.hid ((((HS0.box #[.int .u64 (en : Nat), .int .u64 (so : Nat), .int .u64 (sc : Nat), .slice a1 zs.length p1, .slice a2 cs.length p2] 27).box #[.int .u32 (s.1 : Nat), .int .u32 (s.2.1 : Nat), .int .u64 (s.2.2.1 : Nat), .int .u64 (s.2.2.2.1 : Nat), .int .u64 (s.2.2.2.2.1 : Nat), .int .u64 (s.2.2.2.2.2.1 : Nat), .int .u64 (s.2.2.2.2.2.2 : Nat)] 30).box #[.int .u32 (c.1 : Nat), .int .u64 (c.2.1 : Nat), .int .u64 (c.2.2.1 : Nat), .int .u32 (c.2.2.2.1 : Nat), .int .u64 (c.2.2.2.2 : Nat)] 32).box (rowB y 16).toArray 51)
  simp only [World.size_alloc] at HS
  have HROW : Hid ((rowB y 16).toArray.size = 16) := Lib.hid (by simp [rowB_len])
  clear HS0 hz hc hen hs hcc hy hG h1 h2
  generalize hby : (rowB y 16).toArray = by16 at HS ⊢
  have HBY := Lib.hid hby
  clear hby
  go_enter Tryd.func7, Tryd.ntmps7
  go_upto_region 1 with fail
  generalize World.alloc (World.alloc _ _) _ = W1 at HS ⊢
  by_cases hn16 : zs.length ≤ 16
  rotate_left
  · have e1 : decide ((16 : Int) < (zs.length : Int)) = true := decide_eq_true (by omega)
    have c3 : W1.cell? ⟨w.heap.size, 3, none⟩ = some (.slice a1 zs.length p1) := cell_at (HS.out.1 _ (.tail _ (.tail _ (.tail _ (.head _))))) rfl
    have c4 : W1.cell? ⟨w.heap.size, 4, none⟩ = some (.slice a2 cs.length p2) := cell_at (HS.out.1 _ (.tail _ (.tail _ (.tail _ (.head _))))) rfl
    go_wp2_with (first | (go_at_call 9; refine (wakes_any _ HS.out.2.2.1).mono ?_) | fail)
    first | (rintro e W3 rfl hb) | (rintro e W3 ⟨rfl, hb⟩)
    have HE := Lib.hid (HS.out.keep hb)
    go_wp2_with fail
    go_ret
    exact ⟨rfl, HE.out.2.2.2⟩
  by_cases hm32 : cs.length ≤ 32
  rotate_left
  · have e1 : decide ((16 : Int) < (zs.length : Int)) = false := decide_eq_false (by omega)
    have e2 : decide ((32 : Int) < (cs.length : Int)) = true := decide_eq_true (by omega)
    have c3 : W1.cell? ⟨w.heap.size, 3, none⟩ = some (.slice a1 zs.length p1) := cell_at (HS.out.1 _ (.tail _ (.tail _ (.tail _ (.head _))))) rfl
    have c4 : W1.cell? ⟨w.heap.size, 4, none⟩ = some (.slice a2 cs.length p2) := cell_at (HS.out.1 _ (.tail _ (.tail _ (.tail _ (.head _))))) rfl
    go_wp2_with (first | (go_at_call 9; refine (wakes_any _ HS.out.2.2.1).mono ?_) | fail)
    first | (rintro e W3 rfl hb) | (rintro e W3 ⟨rfl, hb⟩)
    have HE := Lib.hid (HS.out.keep hb)
    go_wp2_with fail
    go_ret
    exact ⟨rfl, HE.out.2.2.2⟩
  have e1 : decide ((16 : Int) < (zs.length : Int)) = false := decide_eq_false (by omega)
  have e2 : decide ((32 : Int) < (cs.length : Int)) = false := decide_eq_false (by omega)
  have c3 : W1.cell? ⟨w.heap.size, 3, none⟩ = some (.slice a1 zs.length p1) := cell_at (HS.out.1 _ (.tail _ (.tail _ (.tail _ (.head _))))) rfl
  have c4 : W1.cell? ⟨w.heap.size, 4, none⟩ = some (.slice a2 cs.length p2) := cell_at (HS.out.1 _ (.tail _ (.tail _ (.tail _ (.head _))))) rfl
  go_upto_region 3 with fail
  clear e1 e2 c3 c4
  have HLD := Lib.hid (fun W (h : SB w [(w.heap.size + 1 + 1 + 1, by16, 51), (w.heap.size + 1 + 1, #[.int .u32 (c.1 : Nat), .int .u64 (c.2.1 : Nat), .int .u64 (c.2.2.1 : Nat), .int .u32 (c.2.2.2.1 : Nat), .int .u64 (c.2.2.2.2 : Nat)], 32), (w.heap.size + 1, #[.int .u32 (s.1 : Nat), .int .u32 (s.2.1 : Nat), .int .u64 (s.2.2.1 : Nat), .int .u64 (s.2.2.2.1 : Nat), .int .u64 (s.2.2.2.2.1 : Nat), .int .u64 (s.2.2.2.2.2.1 : Nat), .int .u64 (s.2.2.2.2.2.2 : Nat)], 30), (w.heap.size, #[.int .u64 (en : Nat), .int .u64 (so : Nat), .int .u64 (sc : Nat), .slice a1 zs.length p1, .slice a2 cs.length p2], 27)] [(a1, zs.flatMap Sg.cs), (a2, cs.flatMap Sc.cs)] W) => laid_any en so sc zs cs a1 a2 p1 p2 none 0 0 (fun _ => 0) HOK.out.1 HOK.out.2.1 (by omega) (by omega) (by decide) W (h.2.1 _ (.head _)) (h.2.1 _ (.tail _ (.head _))) (.inl ⟨rfl, rfl, rfl⟩))
  obtain ⟨N1, hN1⟩ : ∃ N1, 64 + 56 * zs.length + 64 * cs.length + 0 = N1 := ⟨_, rfl⟩
  rw [hN1] at HLD
  have HN1 := Lib.hid (show 64 + 56 * zs.length + 64 * cs.length = N1 ∧ 64 ≤ N1 ∧ N1 ≤ 131072 by omega)
  have HNN := Lib.hid (And.intro hn16 hm32)
  clear hN1 hn16 hm32
  generalize hZ : laidZ en zs cs (fun _ => 0) = Z at HLD
  have HZ := Lib.hid hZ
  clear hZ
  refine wp_region_noPanic ?_
  refine wp_region_held_drew (S := fun W : World => SB w [(w.heap.size + 1 + 1 + 1, by16, 51), (w.heap.size + 1 + 1, #[.int .u32 (c.1 : Nat), .int .u64 (c.2.1 : Nat), .int .u64 (c.2.2.1 : Nat), .int .u32 (c.2.2.2.1 : Nat), .int .u64 (c.2.2.2.2 : Nat)], 32), (w.heap.size + 1, #[.int .u32 (s.1 : Nat), .int .u32 (s.2.1 : Nat), .int .u64 (s.2.2.1 : Nat), .int .u64 (s.2.2.2.1 : Nat), .int .u64 (s.2.2.2.2.1 : Nat), .int .u64 (s.2.2.2.2.2.1 : Nat), .int .u64 (s.2.2.2.2.2.2 : Nat)], 30), (w.heap.size, #[.int .u64 (en : Nat), .int .u64 (so : Nat), .int .u64 (sc : Nat), .slice a1 zs.length p1, .slice a2 cs.length p2], 27)] [(a1, zs.flatMap Sg.cs), (a2, cs.flatMap Sc.cs)] W) (by kernel_rfl) ?_ (fun hHeld => ?_)
  · exact HS.out.drew
  generalize World.drew _ = W2 at hHeld ⊢
  refine wpAnyH_take (i := 0) (v := ?_) rfl (by kernel_rfl) (by kernel_rfl) (by kernel_rfl) (fun _ _ _ h => h) (Or.inl ⟨by kernel_rfl, ?_⟩) (by assumption) ?_
  rotate_left
  · intro wv hSw
    have r0 : wv.cell? ⟨w.heap.size, 0, none⟩ = some (.int .u64 (en : Nat)) := cell_at (hSw.1 _ (.tail _ (.tail _ (.tail _ (.head _))))) rfl
    have r1 : wv.cell? ⟨w.heap.size, 1, none⟩ = some (.int .u64 (so : Nat)) := cell_at (hSw.1 _ (.tail _ (.tail _ (.tail _ (.head _))))) rfl
    have r2 : wv.cell? ⟨w.heap.size, 2, none⟩ = some (.int .u64 (sc : Nat)) := cell_at (hSw.1 _ (.tail _ (.tail _ (.tail _ (.head _))))) rfl
    have r3 : wv.cell? ⟨w.heap.size, 3, none⟩ = some (.slice a1 zs.length p1) := cell_at (hSw.1 _ (.tail _ (.tail _ (.tail _ (.head _))))) rfl
    have r4 : wv.cell? ⟨w.heap.size, 4, none⟩ = some (.slice a2 cs.length p2) := cell_at (hSw.1 _ (.tail _ (.tail _ (.tail _ (.head _))))) rfl
    clear hSw
    go_simp
    try with_reducible rfl
  simp only [Act.put, List.setIfInBounds_toArray, List.set_cons_zero, List.set_cons_succ, List.getElem_toArray, List.getElem_cons_succ, List.getElem_cons_zero]
  refine wpAnyH_take (i := 2) (v := ?_) rfl (by kernel_rfl) (by kernel_rfl) (by kernel_rfl) (fun _ _ _ h => h) (Or.inl ⟨by kernel_rfl, ?_⟩) (by assumption) ?_
  rotate_left
  · intro wv hSw
    have r0 : wv.cell? ⟨w.heap.size, 0, none⟩ = some (.int .u64 (en : Nat)) := cell_at (hSw.1 _ (.tail _ (.tail _ (.tail _ (.head _))))) rfl
    have r1 : wv.cell? ⟨w.heap.size, 1, none⟩ = some (.int .u64 (so : Nat)) := cell_at (hSw.1 _ (.tail _ (.tail _ (.tail _ (.head _))))) rfl
    have r2 : wv.cell? ⟨w.heap.size, 2, none⟩ = some (.int .u64 (sc : Nat)) := cell_at (hSw.1 _ (.tail _ (.tail _ (.tail _ (.head _))))) rfl
    have r3 : wv.cell? ⟨w.heap.size, 3, none⟩ = some (.slice a1 zs.length p1) := cell_at (hSw.1 _ (.tail _ (.tail _ (.tail _ (.head _))))) rfl
    have r4 : wv.cell? ⟨w.heap.size, 4, none⟩ = some (.slice a2 cs.length p2) := cell_at (hSw.1 _ (.tail _ (.tail _ (.tail _ (.head _))))) rfl
    clear hSw
    go_simp
    try with_reducible rfl
  simp only [Act.put, List.setIfInBounds_toArray, List.set_cons_zero, List.set_cons_succ, List.getElem_toArray, List.getElem_cons_succ, List.getElem_cons_zero]
  refine wpAnyH_ready (rs := [1]) (by kernel_rfl) (by simp) ?_
  refine AllReadyH.cons rfl (fun K hK => ?_) AllReadyH.nil
  go_simp
  go_at_call 24
  refine (HLD.out _ hHeld).mono ?_
  first | (rintro e W9x v rfl ho hb) | (rintro e W9x ⟨v, rfl, ho, hb⟩)
  obtain ⟨ga, ca, rfl, hca1, hca2⟩ := owns_some ho (by have := HN1.out; omega)
  have HGA := Lib.hid (show w.heap.size + 4 ≤ ga by
    have h1 := (Array.getElem?_eq_some_iff.1 (hHeld.1 _ (.head _))).1
    obtain ⟨_, h2, _⟩ := own_tk ho
    dsimp only at h1
    omega)
  have HOA := Lib.hid (And.intro ho (And.intro hca1 hca2))
  clear ho hca1 hca2
  refine hK.out _ _ (hHeld.keep hb) (fun hHeld2 => ?_)
  clear hK K hHeld hb
  have hHeld := hHeld2
  clear hHeld2
  try simp only [Act.put, List.setIfInBounds_toArray, List.set_cons_zero, List.set_cons_succ, List.getElem_toArray, List.getElem_cons_succ, List.getElem_cons_zero]
  refine wpAnyH_ready (rs := [3]) (by kernel_rfl) (by simp) ?_
  refine AllReadyH.cons rfl (fun K hK => ?_) AllReadyH.nil
  go_simp
  go_at_call 24
  refine (HLD.out _ hHeld).mono ?_
  first | (rintro e W9x v rfl ho hb) | (rintro e W9x ⟨v, rfl, ho, hb⟩)
  obtain ⟨gb, cb, rfl, hcb1, hcb2⟩ := owns_some ho (by have := HN1.out; omega)
  have HAB := Lib.hid (show ga < gb by
    have h1 := (HOA.out.1.lt ga rfl).2
    obtain ⟨_, h2, _⟩ := own_tk ho
    omega)
  have HOB := Lib.hid (And.intro ho (And.intro hcb1 hcb2))
  have HOA2 := Lib.hid (And.intro (owns_keep HOA.out.1 hb) HOA.out.2)
  clear ho hcb1 hcb2
  refine hK.out _ _ (hHeld.keep hb) (fun hHeld2 => ?_)
  clear hK K hHeld hb
  have hHeld := hHeld2
  clear hHeld2
  try simp only [Act.put, List.setIfInBounds_toArray, List.set_cons_zero, List.set_cons_succ, List.getElem_toArray, List.getElem_cons_succ, List.getElem_cons_zero]
  refine wpAnyH_take (i := 4) (v := ?_) rfl (by kernel_rfl) (by kernel_rfl) (by kernel_rfl) (fun _ _ _ h => h) (Or.inl ⟨by kernel_rfl, ?_⟩) (by assumption) ?_
  rotate_left
  · intro wv hSw
    go_simp
    try with_reducible rfl
  simp only [Act.put, List.setIfInBounds_toArray, List.set_cons_zero, List.set_cons_succ, List.getElem_toArray, List.getElem_cons_succ, List.getElem_cons_zero]
  refine wpAnyH_take (i := 5) (v := ?_) rfl (by kernel_rfl) (by kernel_rfl) (by kernel_rfl) (fun _ _ _ h => h) (Or.inl ⟨by kernel_rfl, ?_⟩) (by assumption) ?_
  rotate_left
  · intro wv hSw
    go_simp
    try with_reducible rfl
  simp only [Act.put, List.setIfInBounds_toArray, List.set_cons_zero, List.set_cons_succ, List.getElem_toArray, List.getElem_cons_succ, List.getElem_cons_zero]
  refine wpAnyH_done (by kernel_rfl) ?_ _
  refine NoPanic.normal ?_
  have HS3 := Lib.hid hHeld
  clear hHeld HS HOA
  obtain ⟨curA, _, hcA, tkA⟩ := own_tk HOA2.out.1
  obtain ⟨curB, _, hcB, tkB⟩ := own_tk HOB.out.1
  have HS := Lib.hid (HS3.out.row hcA)
  have HTA := Lib.hid (And.intro tkA HOA2.out.2)
  have HTB := Lib.hid (And.intro tkB HOB.out.2)
  have HCB : Hid ((W9x.drew).heap[gb]? = some (.cells curB 5 (0, 0))) := Lib.hid hcB
  clear HS3 hcA hcB tkA tkB HOA2 HOB
  go_upto_region 4 with fail
  refine wp_region_noPanic ?_
  refine wp_region_held_drew (S := fun W : World => SB w ((ga, curA, 5) :: [(w.heap.size + 1 + 1 + 1, by16, 51), (w.heap.size + 1 + 1, #[.int .u32 (c.1 : Nat), .int .u64 (c.2.1 : Nat), .int .u64 (c.2.2.1 : Nat), .int .u32 (c.2.2.2.1 : Nat), .int .u64 (c.2.2.2.2 : Nat)], 32), (w.heap.size + 1, #[.int .u32 (s.1 : Nat), .int .u32 (s.2.1 : Nat), .int .u64 (s.2.2.1 : Nat), .int .u64 (s.2.2.2.1 : Nat), .int .u64 (s.2.2.2.2.1 : Nat), .int .u64 (s.2.2.2.2.2.1 : Nat), .int .u64 (s.2.2.2.2.2.2 : Nat)], 30), (w.heap.size, #[.int .u64 (en : Nat), .int .u64 (so : Nat), .int .u64 (sc : Nat), .slice a1 zs.length p1, .slice a2 cs.length p2], 27)]) [(a1, zs.flatMap Sg.cs), (a2, cs.flatMap Sc.cs)] W) (by kernel_rfl) ?_ (fun hHeld => ?_)
  · exact HS.out.drew
  generalize World.drew _ = W2 at hHeld HCB ⊢
  refine wpAnyH_take (i := 0) (v := ?_) rfl (by kernel_rfl) (by kernel_rfl) (by kernel_rfl) (fun _ _ _ h => h) (Or.inl ⟨by kernel_rfl, ?_⟩) (by assumption) ?_
  rotate_left
  · intro wv hSw
    go_simp
    try with_reducible rfl
  simp only [Act.put, List.setIfInBounds_toArray, List.set_cons_zero, List.set_cons_succ, List.getElem_toArray, List.getElem_cons_succ, List.getElem_cons_zero]
  refine wpAnyH_take (i := 1) (v := ?_) rfl (by kernel_rfl) (by kernel_rfl) (by kernel_rfl) (fun _ _ _ h => h) (Or.inl ⟨by kernel_rfl, ?_⟩) (by assumption) ?_
  rotate_left
  · intro wv hSw
    have hi1 : (16 : Int) ≤ (cb : Int) := by have h1 := HTB.out.2; have h2 := HN1.out; omega
    have hne : ¬ cb = 7 := by have h1 := HTB.out.2; have h2 := HN1.out; omega
    go_simp
    try with_reducible rfl
  simp only [Act.put, List.setIfInBounds_toArray, List.set_cons_zero, List.set_cons_succ, List.getElem_toArray, List.getElem_cons_succ, List.getElem_cons_zero]
  refine wpAnyH_take (i := 2) (v := ?_) rfl (by kernel_rfl) (by kernel_rfl) (by kernel_rfl) (fun _ _ _ h => h) (Or.inl ⟨by kernel_rfl, ?_⟩) (by assumption) ?_
  rotate_left
  · intro wv hSw
    go_simp
    try with_reducible rfl
  simp only [Act.put, List.setIfInBounds_toArray, List.set_cons_zero, List.set_cons_succ, List.getElem_toArray, List.getElem_cons_succ, List.getElem_cons_zero]
  have hsrc : ∀ j, j < 9 → W2.cell? ⟨w.heap.size + 1 + 1 + 1, 0 + j, none⟩ = some (.int .u8 (y j : Nat)) := fun j hj => cell_at (hHeld.1 _ (.tail _ (.head _))) (by
    rw [← HBY.out, List.getElem?_toArray, Nat.zero_add]
    exact rowB_at y 16 (j) (by omega))
  have HRUN := Lib.hid (copy_run W2 3 (dCap := cb - 7) (sCap := 16) HCB.out HTB.out.1 (o := 7) (k := 9) (by have := HN1.out; omega) (y := y) (b := w.heap.size + 1 + 1 + 1) (so := 0) hsrc)
  obtain ⟨curC, hc1⟩ : ∃ c1 : Array Value, c1 = (List.take 7 curB.toList ++ rowB y 9 ++ List.drop (7 + 9) curB.toList).toArray := ⟨_, rfl⟩
  have HTC := Lib.hid (And.intro (HTB.out.1.copy (o := 7) (k := 9) y (by have := HN1.out; omega)) HTB.out.2)
  rw [← hc1] at HRUN HTC
  have HC1 : Hid ((W2.setRow gb curC).heap[gb]? = some (.cells curC 5 (0, 0))) := Lib.hid (setRow_heap W2 gb _ curC 5 (0, 0) HCB.out)
  have HP := Lib.hid ((SB.put hHeld HR0.out (g := gb) (by have h1 := HGA.out; have h2 := HAB.out; omega) (by have h1 := HGA.out; have h2 := HAB.out; omega) (by have h1 := HGA.out; have h2 := HAB.out; omega) (fun x hx => by simp only [List.mem_cons, List.not_mem_nil, or_false] at hx; have h1 := HGA.out; have h2 := HAB.out; rcases hx with rfl | rfl | rfl | rfl | rfl <;> dsimp only <;> omega) HCB.out curC).less (l' := ((ga, curA, 5) :: [(w.heap.size + 1 + 1 + 1, by16, 51), (w.heap.size + 1 + 1, #[.int .u32 (c.1 : Nat), .int .u64 (c.2.1 : Nat), .int .u64 (c.2.2.1 : Nat), .int .u32 (c.2.2.2.1 : Nat), .int .u64 (c.2.2.2.2 : Nat)], 32), (w.heap.size + 1, #[.int .u32 (s.1 : Nat), .int .u32 (s.2.1 : Nat), .int .u64 (s.2.2.1 : Nat), .int .u64 (s.2.2.2.1 : Nat), .int .u64 (s.2.2.2.2.1 : Nat), .int .u64 (s.2.2.2.2.2.1 : Nat), .int .u64 (s.2.2.2.2.2.2 : Nat)], 30), (w.heap.size, #[.int .u64 (en : Nat), .int .u64 (so : Nat), .int .u64 (sc : Nat), .slice a1 zs.length p1, .slice a2 cs.length p2], 27)])) (fun x hx => .tail _ hx))
  clear hsrc hc1
  refine wpAnyH_ready (rs := [3]) (by kernel_rfl) (by simp) ?_
  refine AllReadyH.cons rfl (fun K hK => ?_) AllReadyH.nil
  rw [if_pos (by kernel_rfl)]
  refine copy_wp (x := .tmp 37) (y := .tmp 38) rfl rfl rfl HRUN.out ?_
  refine hK.out _ _ HP.out (fun hHeld2 => ?_)
  clear hK K hHeld hHeld2
  try simp only [Act.put, List.setIfInBounds_toArray, List.set_cons_zero, List.set_cons_succ, List.getElem_toArray, List.getElem_cons_succ, List.getElem_cons_zero]
  refine wpAnyH_done (by kernel_rfl) ?_ _
  refine NoPanic.normal ?_
  clear HRUN HCB HTB HS
  generalize W2.setRow gb curC = W3 at HC1 HP ⊢
  have HTB := HTC
  have HCB := HC1
  have HS := HP
  clear HTC HC1 HP
  replace HCB : Hid ((W3.drew).heap[gb]? = some (.cells curC 5 (0, 0))) := HCB
  go_upto_region 5 with fail
  refine wp_region_noPanic ?_
  refine wp_region_held_drew (S := fun W : World => SB w ((ga, curA, 5) :: [(w.heap.size + 1 + 1 + 1, by16, 51), (w.heap.size + 1 + 1, #[.int .u32 (c.1 : Nat), .int .u64 (c.2.1 : Nat), .int .u64 (c.2.2.1 : Nat), .int .u32 (c.2.2.2.1 : Nat), .int .u64 (c.2.2.2.2 : Nat)], 32), (w.heap.size + 1, #[.int .u32 (s.1 : Nat), .int .u32 (s.2.1 : Nat), .int .u64 (s.2.2.1 : Nat), .int .u64 (s.2.2.2.1 : Nat), .int .u64 (s.2.2.2.2.1 : Nat), .int .u64 (s.2.2.2.2.2.1 : Nat), .int .u64 (s.2.2.2.2.2.2 : Nat)], 30), (w.heap.size, #[.int .u64 (en : Nat), .int .u64 (so : Nat), .int .u64 (sc : Nat), .slice a1 zs.length p1, .slice a2 cs.length p2], 27)]) [(a1, zs.flatMap Sg.cs), (a2, cs.flatMap Sc.cs)] W) (by kernel_rfl) ?_ (fun hHeld => ?_)
  · exact HS.out.drew
  generalize World.drew _ = W2 at hHeld HCB ⊢
  refine wpAnyH_take (i := 0) (v := ?_) rfl (by kernel_rfl) (by kernel_rfl) (by kernel_rfl) (fun _ _ _ h => h) (Or.inl ⟨by kernel_rfl, ?_⟩) (by assumption) ?_
  rotate_left
  · intro wv hSw
    go_simp
    try with_reducible rfl
  simp only [Act.put, List.setIfInBounds_toArray, List.set_cons_zero, List.set_cons_succ, List.getElem_toArray, List.getElem_cons_succ, List.getElem_cons_zero]
  refine wpAnyH_take (i := 1) (v := ?_) rfl (by kernel_rfl) (by kernel_rfl) (by kernel_rfl) (fun _ _ _ h => h) (Or.inl ⟨by kernel_rfl, ?_⟩) (by assumption) ?_
  rotate_left
  · intro wv hSw
    have hi1 : (64 : Int) ≤ (cb : Int) := by have h1 := HTB.out.2; have h2 := HN1.out; omega
    have hne : ¬ cb = 62 := by have h1 := HTB.out.2; have h2 := HN1.out; omega
    go_simp
    try with_reducible rfl
  simp only [Act.put, List.setIfInBounds_toArray, List.set_cons_zero, List.set_cons_succ, List.getElem_toArray, List.getElem_cons_succ, List.getElem_cons_zero]
  refine wpAnyH_take (i := 2) (v := ?_) rfl (by kernel_rfl) (by kernel_rfl) (by kernel_rfl) (fun _ _ _ h => h) (Or.inl ⟨by kernel_rfl, ?_⟩) (by assumption) ?_
  rotate_left
  · intro wv hSw
    go_simp
    try with_reducible rfl
  simp only [Act.put, List.setIfInBounds_toArray, List.set_cons_zero, List.set_cons_succ, List.getElem_toArray, List.getElem_cons_succ, List.getElem_cons_zero]
  have hsrc : ∀ j, j < 2 → W2.cell? ⟨w.heap.size + 1 + 1 + 1, 9 + j, none⟩ = some (.int .u8 ((fun j => y (9 + j)) j : Nat)) := fun j hj => cell_at (hHeld.1 _ (.tail _ (.head _))) (by
    rw [← HBY.out, List.getElem?_toArray]
    exact rowB_at y 16 (9 + j) (by omega))
  have HRUN := Lib.hid (copy_run W2 3 (dCap := cb - 62) (sCap := 16 - 9) HCB.out HTB.out.1 (o := 62) (k := 2) (by have := HN1.out; omega) (y := (fun j => y (9 + j))) (b := w.heap.size + 1 + 1 + 1) (so := 9) hsrc)
  obtain ⟨curD, hc1⟩ : ∃ c1 : Array Value, c1 = (List.take 62 curC.toList ++ rowB (fun j => y (9 + j)) 2 ++ List.drop (62 + 2) curC.toList).toArray := ⟨_, rfl⟩
  have HTC := Lib.hid (And.intro (HTB.out.1.copy (o := 62) (k := 2) (fun j => y (9 + j)) (by have := HN1.out; omega)) HTB.out.2)
  rw [← hc1] at HRUN HTC
  have HC1 : Hid ((W2.setRow gb curD).heap[gb]? = some (.cells curD 5 (0, 0))) := Lib.hid (setRow_heap W2 gb _ curD 5 (0, 0) HCB.out)
  have HP := Lib.hid ((SB.put hHeld HR0.out (g := gb) (by have h1 := HGA.out; have h2 := HAB.out; omega) (by have h1 := HGA.out; have h2 := HAB.out; omega) (by have h1 := HGA.out; have h2 := HAB.out; omega) (fun x hx => by simp only [List.mem_cons, List.not_mem_nil, or_false] at hx; have h1 := HGA.out; have h2 := HAB.out; rcases hx with rfl | rfl | rfl | rfl | rfl <;> dsimp only <;> omega) HCB.out curD).less (l' := ((ga, curA, 5) :: [(w.heap.size + 1 + 1 + 1, by16, 51), (w.heap.size + 1 + 1, #[.int .u32 (c.1 : Nat), .int .u64 (c.2.1 : Nat), .int .u64 (c.2.2.1 : Nat), .int .u32 (c.2.2.2.1 : Nat), .int .u64 (c.2.2.2.2 : Nat)], 32), (w.heap.size + 1, #[.int .u32 (s.1 : Nat), .int .u32 (s.2.1 : Nat), .int .u64 (s.2.2.1 : Nat), .int .u64 (s.2.2.2.1 : Nat), .int .u64 (s.2.2.2.2.1 : Nat), .int .u64 (s.2.2.2.2.2.1 : Nat), .int .u64 (s.2.2.2.2.2.2 : Nat)], 30), (w.heap.size, #[.int .u64 (en : Nat), .int .u64 (so : Nat), .int .u64 (sc : Nat), .slice a1 zs.length p1, .slice a2 cs.length p2], 27)])) (fun x hx => .tail _ hx))
  clear hsrc hc1
  refine wpAnyH_ready (rs := [3]) (by kernel_rfl) (by simp) ?_
  refine AllReadyH.cons rfl (fun K hK => ?_) AllReadyH.nil
  rw [if_pos (by kernel_rfl)]
  refine copy_wp (x := .tmp 41) (y := .tmp 42) rfl rfl rfl HRUN.out ?_
  refine hK.out _ _ HP.out (fun hHeld2 => ?_)
  clear hK K hHeld hHeld2
  try simp only [Act.put, List.setIfInBounds_toArray, List.set_cons_zero, List.set_cons_succ, List.getElem_toArray, List.getElem_cons_succ, List.getElem_cons_zero]
  refine wpAnyH_done (by kernel_rfl) ?_ _
  refine NoPanic.normal ?_
  clear HRUN HCB HTB HS
  generalize W2.setRow gb curD = W4 at HC1 HP ⊢
  have HTB := HTC
  have HCB := HC1
  have HS := HP
  clear HTC HC1 HP
  have HRA := Lib.hid (read_laid (rz := fun _ => 0) HOK.out.1 HOK.out.2.1 HOK.out.2.2.1 (fun _ => Nat.zero_lt_succ _) HNN.out.1 HNN.out.2 HTA.out.2.1 HTA.out.2.2 (by have := HN1.out; omega) (by have := HN1.out; omega) W4 (by rw [HZ.out]; exact HTA.out.1.bs (HS.out.1 _ (.head _))) HS.out.2.2.1)
  obtain ⟨N0, hN0⟩ : ∃ N0, 64 + 56 * zs.length = N0 := ⟨_, rfl⟩
  rw [hN0] at HRA
  replace HS := Lib.hid (HS.out.row HCB.out)
  clear HCB
  go_wp2_with (first | (go_at_call 10; refine HRA.out.mono ?_) | fail)
  rintro e W5 ⟨x1, q1, x2, q2, rfl, hx1, hx2, hb⟩
  clear HRA
  replace HS := Lib.hid (((HS.out.keep hb).addr hx2).addr hx1)
  clear hx1 hx2 hb
  go_upto_region 7 with fail
  replace HS := Lib.hid (HS.out.box #[.int .u64 (en : Nat), .int .u64 64, .int .u64 (N0 : Nat), .slice x1 zs.length q1, .slice x2 cs.length q2] 27)
  generalize World.alloc W5 _ = W6 at HS ⊢
  generalize W5.heap.size = D1 at HS ⊢
  have HRB := Lib.hid (read_any_laid (y := y) (rz := fun _ => 0) HOK.out.1 HOK.out.2.1 HOK.out.2.2.1 (fun _ => Nat.zero_lt_succ _) HOK.out.2.2.2.2.2 HNN.out.1 HNN.out.2 HTB.out.2.1 HTB.out.2.2 (by have := HN1.out; omega) (by have := HN1.out; omega) W6 (by rw [HZ.out]; exact HTB.out.1.bs (HS.out.1 _ (.tail _ (.head _)))) HS.out.2.2.1)
  rw [hN0] at HRB
  clear hN0
  go_wp2_with (first | (go_at_call 10; refine HRB.out.mono ?_) | fail)
  rintro e W7 ⟨y1, r1, y2, r2, rfl, hx1, hx2, hb⟩
  clear HRB HTA HTB
  replace HS := Lib.hid (((HS.out.keep hb).addr hx2).addr hx1)
  clear hx1 hx2 hb
  go_upto_region 8 with fail
  replace HS := Lib.hid (HS.out.box #[.int .u64 (en : Nat), .int .u64 64, .int .u64 (N0 : Nat), .slice y1 zs.length r1, .slice y2 cs.length r2] 27)
  generalize World.alloc W7 _ = W8 at HS ⊢
  generalize W7.heap.size = D2 at HS ⊢
  replace HS : Hid (SB w [(D2, #[.int .u64 (en : Nat), .int .u64 64, .int .u64 (N0 : Nat), .slice y1 zs.length r1, .slice y2 cs.length r2], 27), (D1, #[.int .u64 (en : Nat), .int .u64 64, .int .u64 (N0 : Nat), .slice x1 zs.length q1, .slice x2 cs.length q2], 27), (w.heap.size + 1 + 1 + 1, by16, 51), (w.heap.size + 1 + 1, #[.int .u32 (c.1 : Nat), .int .u64 (c.2.1 : Nat), .int .u64 (c.2.2.1 : Nat), .int .u32 (c.2.2.2.1 : Nat), .int .u64 (c.2.2.2.2 : Nat)], 32), (w.heap.size + 1, #[.int .u32 (s.1 : Nat), .int .u32 (s.2.1 : Nat), .int .u64 (s.2.2.1 : Nat), .int .u64 (s.2.2.2.1 : Nat), .int .u64 (s.2.2.2.2.1 : Nat), .int .u64 (s.2.2.2.2.2.1 : Nat), .int .u64 (s.2.2.2.2.2.2 : Nat)], 30), (w.heap.size, #[.int .u64 (en : Nat), .int .u64 (so : Nat), .int .u64 (sc : Nat), .slice a1 zs.length p1, .slice a2 cs.length p2], 27)] [(y1, zs.flatMap Sg.cs), (y2, cs.flatMap Sc.cs), (x1, zs.flatMap Sg.cs), (x2, cs.flatMap Sc.cs), (a1, zs.flatMap Sg.cs), (a2, cs.flatMap Sc.cs)] W8) := Lib.hid (HS.out.less (fun x hx => by
    simp only [List.mem_cons, List.not_mem_nil, or_false] at hx ⊢
    rcases hx with h | h | h | h | h | h <;> simp [h]))
  have HLT8 := Lib.hid (fun x hx => (Array.getElem?_eq_some_iff.1 (HS.out.1 x hx)).1)
  have HR8 := Lib.hid HS.out.2.1
  have HW8 := Lib.hid (show w.heap.size < W8.heap.size from HLT8.out _ (.tail _ (.tail _ (.tail _ (.tail _ (.tail _ (.head _)))))))
  clear HGA HAB HR0
  have HSZ : Hid (W8.heap.size ≤ (W8.drew).heap.size) := Lib.hid (Nat.le_refl _)
  refine wp_region_noPanic ?_
  refine wp_region_held_drew (S := fun W : World => SB w [(D2, #[.int .u64 (en : Nat), .int .u64 64, .int .u64 (N0 : Nat), .slice y1 zs.length r1, .slice y2 cs.length r2], 27), (D1, #[.int .u64 (en : Nat), .int .u64 64, .int .u64 (N0 : Nat), .slice x1 zs.length q1, .slice x2 cs.length q2], 27), (w.heap.size + 1 + 1 + 1, by16, 51), (w.heap.size + 1 + 1, #[.int .u32 (c.1 : Nat), .int .u64 (c.2.1 : Nat), .int .u64 (c.2.2.1 : Nat), .int .u32 (c.2.2.2.1 : Nat), .int .u64 (c.2.2.2.2 : Nat)], 32), (w.heap.size + 1, #[.int .u32 (s.1 : Nat), .int .u32 (s.2.1 : Nat), .int .u64 (s.2.2.1 : Nat), .int .u64 (s.2.2.2.1 : Nat), .int .u64 (s.2.2.2.2.1 : Nat), .int .u64 (s.2.2.2.2.2.1 : Nat), .int .u64 (s.2.2.2.2.2.2 : Nat)], 30), (w.heap.size, #[.int .u64 (en : Nat), .int .u64 (so : Nat), .int .u64 (sc : Nat), .slice a1 zs.length p1, .slice a2 cs.length p2], 27)] [(y1, zs.flatMap Sg.cs), (y2, cs.flatMap Sc.cs), (x1, zs.flatMap Sg.cs), (x2, cs.flatMap Sc.cs), (a1, zs.flatMap Sg.cs), (a2, cs.flatMap Sc.cs)] W) (by kernel_rfl) ?_ (fun hHeld => ?_)
  · exact HS.out.drew
  generalize World.drew _ = W2 at hHeld HSZ ⊢
  refine wpAnyH_take (i := 0) (v := ?_) rfl (by kernel_rfl) (by kernel_rfl) (by kernel_rfl) (fun _ _ _ h => h) (Or.inl ⟨by kernel_rfl, ?_⟩) (by assumption) ?_
  rotate_left
  · intro wv hSw
    have e0 : wv.cell? ⟨w.heap.size + 1, 0, none⟩ = some (.int .u32 (s.1 : Nat)) := cell_at (hSw.1 _ (.tail _ (.tail _ (.tail _ (.tail _ (.head _)))))) rfl
    have e1 : wv.cell? ⟨w.heap.size + 1, 1, none⟩ = some (.int .u32 (s.2.1 : Nat)) := cell_at (hSw.1 _ (.tail _ (.tail _ (.tail _ (.tail _ (.head _)))))) rfl
    have e2 : wv.cell? ⟨w.heap.size + 1, 2, none⟩ = some (.int .u64 (s.2.2.1 : Nat)) := cell_at (hSw.1 _ (.tail _ (.tail _ (.tail _ (.tail _ (.head _)))))) rfl
    have e3 : wv.cell? ⟨w.heap.size + 1, 3, none⟩ = some (.int .u64 (s.2.2.2.1 : Nat)) := cell_at (hSw.1 _ (.tail _ (.tail _ (.tail _ (.tail _ (.head _)))))) rfl
    have e4 : wv.cell? ⟨w.heap.size + 1, 4, none⟩ = some (.int .u64 (s.2.2.2.2.1 : Nat)) := cell_at (hSw.1 _ (.tail _ (.tail _ (.tail _ (.tail _ (.head _)))))) rfl
    have e5 : wv.cell? ⟨w.heap.size + 1, 5, none⟩ = some (.int .u64 (s.2.2.2.2.2.1 : Nat)) := cell_at (hSw.1 _ (.tail _ (.tail _ (.tail _ (.tail _ (.head _)))))) rfl
    have e6 : wv.cell? ⟨w.heap.size + 1, 6, none⟩ = some (.int .u64 (s.2.2.2.2.2.2 : Nat)) := cell_at (hSw.1 _ (.tail _ (.tail _ (.tail _ (.tail _ (.head _)))))) rfl
    clear hSw
    go_simp
    try with_reducible rfl
  simp only [Act.put, List.setIfInBounds_toArray, List.set_cons_zero, List.set_cons_succ, List.getElem_toArray, List.getElem_cons_succ, List.getElem_cons_zero]
  refine wpAnyH_take (i := 2) (v := ?_) rfl (by kernel_rfl) (by kernel_rfl) (by kernel_rfl) (fun _ _ _ h => h) (Or.inl ⟨by kernel_rfl, ?_⟩) (by assumption) ?_
  rotate_left
  · intro wv hSw
    have e0 : wv.cell? ⟨w.heap.size + 1 + 1, 0, none⟩ = some (.int .u32 (c.1 : Nat)) := cell_at (hSw.1 _ (.tail _ (.tail _ (.tail _ (.head _))))) rfl
    have e1 : wv.cell? ⟨w.heap.size + 1 + 1, 1, none⟩ = some (.int .u64 (c.2.1 : Nat)) := cell_at (hSw.1 _ (.tail _ (.tail _ (.tail _ (.head _))))) rfl
    have e2 : wv.cell? ⟨w.heap.size + 1 + 1, 2, none⟩ = some (.int .u64 (c.2.2.1 : Nat)) := cell_at (hSw.1 _ (.tail _ (.tail _ (.tail _ (.head _))))) rfl
    have e3 : wv.cell? ⟨w.heap.size + 1 + 1, 3, none⟩ = some (.int .u32 (c.2.2.2.1 : Nat)) := cell_at (hSw.1 _ (.tail _ (.tail _ (.tail _ (.head _))))) rfl
    have e4 : wv.cell? ⟨w.heap.size + 1 + 1, 4, none⟩ = some (.int .u64 (c.2.2.2.2 : Nat)) := cell_at (hSw.1 _ (.tail _ (.tail _ (.tail _ (.head _))))) rfl
    clear hSw
    go_simp
    try with_reducible rfl
  simp only [Act.put, List.setIfInBounds_toArray, List.set_cons_zero, List.set_cons_succ, List.getElem_toArray, List.getElem_cons_succ, List.getElem_cons_zero]
  refine wpAnyH_ready (rs := [1]) (by kernel_rfl) (by simp) ?_
  refine AllReadyH.cons rfl (fun K hK => ?_) AllReadyH.nil
  go_simp
  go_at_call 17
  refine (rseg_any s.1 s.2.1 s.2.2.1 s.2.2.2.1 s.2.2.2.2.1 s.2.2.2.2.2.1 s.2.2.2.2.2.2 HOK.out.2.2.2.1.1 HOK.out.2.2.2.1.2.1 _).mono ?_
  first | (rintro e W9x v rfl ho hb) | (rintro e W9x ⟨v, rfl, ho, hb⟩)
  obtain ⟨g1, k1, rfl, hca1, hca2⟩ := owns_some ho (by decide)
  rw [seg_row] at ho
  have HGG1 := Lib.hid (show W8.heap.size ≤ g1 by
    have h1 := HSZ.out
    obtain ⟨_, h2, _⟩ := own_tk (f := s.f) ho
    omega)
  have HO1 := Lib.hid (And.intro (show W9x.ownsRow _ 5 1 (.slice (some ⟨g1, 0, none⟩) 56 k1) 56 (rowB s.f 56) from ho) (And.intro hca1 hca2))
  clear ho hca1 hca2
  replace HSZ : Hid (W8.heap.size ≤ W9x.heap.size) := Lib.hid (Nat.le_trans HSZ.out hb.size)
  refine hK.out _ _ (hHeld.keep hb) (fun hHeld2 => ?_)
  clear hK K hHeld hb
  have hHeld := hHeld2
  clear hHeld2
  try simp only [Act.put, List.setIfInBounds_toArray, List.set_cons_zero, List.set_cons_succ, List.getElem_toArray, List.getElem_cons_succ, List.getElem_cons_zero]
  refine wpAnyH_ready (rs := [3]) (by kernel_rfl) (by simp) ?_
  refine AllReadyH.cons rfl (fun K hK => ?_) AllReadyH.nil
  go_simp
  go_at_call 19
  refine (rsec_any c.1 c.2.1 c.2.2.1 c.2.2.2.1 c.2.2.2.2 HOK.out.2.2.2.2.1.1 HOK.out.2.2.2.2.1.2.2.2.1 _).mono ?_
  first | (rintro e W9x v rfl ho hb) | (rintro e W9x ⟨v, rfl, ho, hb⟩)
  obtain ⟨g2, k2, rfl, hca1, hca2⟩ := owns_some ho (by decide)
  rw [sec_row] at ho
  have HGG2 := Lib.hid (show W8.heap.size ≤ g2 by
    have h1 := HSZ.out
    obtain ⟨_, h2, _⟩ := own_tk (f := c.f) ho
    omega)
  have HAB := Lib.hid (show g1 < g2 by
    have h1 := (HO1.out.1.lt g1 rfl).2
    obtain ⟨_, h2, _⟩ := own_tk (f := c.f) ho
    omega)
  have HO1b := Lib.hid (And.intro (owns_keep HO1.out.1 hb) HO1.out.2)
  have HO2 := Lib.hid (And.intro (show W9x.ownsRow _ 5 1 (.slice (some ⟨g2, 0, none⟩) 64 k2) 64 (rowB c.f 64) from ho) (And.intro hca1 hca2))
  clear ho hca1 hca2
  replace HSZ : Hid (W8.heap.size ≤ W9x.heap.size) := Lib.hid (Nat.le_trans HSZ.out hb.size)
  refine hK.out _ _ (hHeld.keep hb) (fun hHeld2 => ?_)
  clear hK K hHeld hb
  have hHeld := hHeld2
  clear hHeld2
  try simp only [Act.put, List.setIfInBounds_toArray, List.set_cons_zero, List.set_cons_succ, List.getElem_toArray, List.getElem_cons_succ, List.getElem_cons_zero]
  refine wpAnyH_take (i := 4) (v := ?_) rfl (by kernel_rfl) (by kernel_rfl) (by kernel_rfl) (fun _ _ _ h => h) (Or.inl ⟨by kernel_rfl, ?_⟩) (by assumption) ?_
  rotate_left
  · intro wv hSw
    go_simp
    try with_reducible rfl
  simp only [Act.put, List.setIfInBounds_toArray, List.set_cons_zero, List.set_cons_succ, List.getElem_toArray, List.getElem_cons_succ, List.getElem_cons_zero]
  refine wpAnyH_take (i := 5) (v := ?_) rfl (by kernel_rfl) (by kernel_rfl) (by kernel_rfl) (fun _ _ _ h => h) (Or.inl ⟨by kernel_rfl, ?_⟩) (by assumption) ?_
  rotate_left
  · intro wv hSw
    go_simp
    try with_reducible rfl
  simp only [Act.put, List.setIfInBounds_toArray, List.set_cons_zero, List.set_cons_succ, List.getElem_toArray, List.getElem_cons_succ, List.getElem_cons_zero]
  refine wpAnyH_done (by kernel_rfl) ?_ _
  refine NoPanic.normal ?_
  have HS8 := Lib.hid hHeld
  clear hHeld HS HO1
  obtain ⟨cu1, _, hc1, tk1⟩ := own_tk HO1b.out.1
  obtain ⟨cu2, _, hc2, tk2⟩ := own_tk HO2.out.1
  have HS := Lib.hid (HS8.out.row hc2)
  have HT1 := Lib.hid (And.intro tk1 HO1b.out.2)
  have HT2 := Lib.hid (And.intro tk2 HO2.out.2)
  have HC1a : Hid ((W9x.drew).heap[g1]? = some (.cells cu1 5 (0, 0))) := Lib.hid hc1
  clear HS8 hc1 hc2 tk1 tk2 HO1b HO2
  go_upto_region 9 with fail
  refine wp_region_noPanic ?_
  refine wp_region_held_drew (S := fun W : World => SB w ((g2, cu2, 5) :: [(D2, #[.int .u64 (en : Nat), .int .u64 64, .int .u64 (N0 : Nat), .slice y1 zs.length r1, .slice y2 cs.length r2], 27), (D1, #[.int .u64 (en : Nat), .int .u64 64, .int .u64 (N0 : Nat), .slice x1 zs.length q1, .slice x2 cs.length q2], 27), (w.heap.size + 1 + 1 + 1, by16, 51), (w.heap.size + 1 + 1, #[.int .u32 (c.1 : Nat), .int .u64 (c.2.1 : Nat), .int .u64 (c.2.2.1 : Nat), .int .u32 (c.2.2.2.1 : Nat), .int .u64 (c.2.2.2.2 : Nat)], 32), (w.heap.size + 1, #[.int .u32 (s.1 : Nat), .int .u32 (s.2.1 : Nat), .int .u64 (s.2.2.1 : Nat), .int .u64 (s.2.2.2.1 : Nat), .int .u64 (s.2.2.2.2.1 : Nat), .int .u64 (s.2.2.2.2.2.1 : Nat), .int .u64 (s.2.2.2.2.2.2 : Nat)], 30), (w.heap.size, #[.int .u64 (en : Nat), .int .u64 (so : Nat), .int .u64 (sc : Nat), .slice a1 zs.length p1, .slice a2 cs.length p2], 27)]) [(y1, zs.flatMap Sg.cs), (y2, cs.flatMap Sc.cs), (x1, zs.flatMap Sg.cs), (x2, cs.flatMap Sc.cs), (a1, zs.flatMap Sg.cs), (a2, cs.flatMap Sc.cs)] W) (by kernel_rfl) ?_ (fun hHeld => ?_)
  · exact HS.out.drew
  generalize World.drew _ = W2 at hHeld HC1a ⊢
  refine wpAnyH_take (i := 0) (v := ?_) rfl (by kernel_rfl) (by kernel_rfl) (by kernel_rfl) (fun _ _ _ h => h) (Or.inl ⟨by kernel_rfl, ?_⟩) (by assumption) ?_
  rotate_left
  · intro wv hSw
    go_simp
    try with_reducible rfl
  simp only [Act.put, List.setIfInBounds_toArray, List.set_cons_zero, List.set_cons_succ, List.getElem_toArray, List.getElem_cons_succ, List.getElem_cons_zero]
  refine wpAnyH_take (i := 1) (v := ?_) rfl (by kernel_rfl) (by kernel_rfl) (by kernel_rfl) (fun _ _ _ h => h) (Or.inl ⟨by kernel_rfl, ?_⟩) (by assumption) ?_
  rotate_left
  · intro wv hSw
    have hi1 : (32 : Int) ≤ (k1 : Int) := by have h1 := HT1.out.2; omega
    have hne : ¬ k1 = 24 := by have h1 := HT1.out.2; omega
    go_simp
    try with_reducible rfl
  simp only [Act.put, List.setIfInBounds_toArray, List.set_cons_zero, List.set_cons_succ, List.getElem_toArray, List.getElem_cons_succ, List.getElem_cons_zero]
  refine wpAnyH_take (i := 2) (v := ?_) rfl (by kernel_rfl) (by kernel_rfl) (by kernel_rfl) (fun _ _ _ h => h) (Or.inl ⟨by kernel_rfl, ?_⟩) (by assumption) ?_
  rotate_left
  · intro wv hSw
    go_simp
    try with_reducible rfl
  simp only [Act.put, List.setIfInBounds_toArray, List.set_cons_zero, List.set_cons_succ, List.getElem_toArray, List.getElem_cons_succ, List.getElem_cons_zero]
  have hsrc : ∀ j, j < 8 → W2.cell? ⟨w.heap.size + 1 + 1 + 1, 0 + j, none⟩ = some (.int .u8 (y j : Nat)) := fun j hj => cell_at (hHeld.1 _ (.tail _ (.tail _ (.tail _ (.head _))))) (by
    rw [← HBY.out, List.getElem?_toArray, Nat.zero_add]
    exact rowB_at y 16 (j) (by omega))
  have HRUN := Lib.hid (copy_run W2 3 (dCap := k1 - 24) (sCap := 16) HC1a.out HT1.out.1 (o := 24) (k := 8) (by have := HN1.out; omega) (y := y) (b := w.heap.size + 1 + 1 + 1) (so := 0) hsrc)
  obtain ⟨cu3, hc1⟩ : ∃ c1 : Array Value, c1 = (List.take 24 cu1.toList ++ rowB y 8 ++ List.drop (24 + 8) cu1.toList).toArray := ⟨_, rfl⟩
  have HTC := Lib.hid (And.intro (HT1.out.1.copy (o := 24) (k := 8) y (by have := HN1.out; omega)) HT1.out.2)
  rw [← hc1] at HRUN HTC
  have HC1 : Hid ((W2.setRow g1 cu3).heap[g1]? = some (.cells cu3 5 (0, 0))) := Lib.hid (setRow_heap W2 g1 _ cu3 5 (0, 0) HC1a.out)
  have HP := Lib.hid ((SB.put hHeld HR8.out (g := g1) HGG1.out (by have h1 := HGG1.out; have h2 := HW8.out; omega) (by have h1 := HGG1.out; have h2 := HW8.out; have h3 := HG2.out; omega) (fun x hx => by have h1 := HGG1.out; have h2 := HAB.out; rcases List.mem_cons.1 hx with rfl | hx <;> first | (dsimp only; omega) | (have := HLT8.out x hx; omega)) HC1a.out cu3).less (l' := ((g2, cu2, 5) :: [(D2, #[.int .u64 (en : Nat), .int .u64 64, .int .u64 (N0 : Nat), .slice y1 zs.length r1, .slice y2 cs.length r2], 27), (D1, #[.int .u64 (en : Nat), .int .u64 64, .int .u64 (N0 : Nat), .slice x1 zs.length q1, .slice x2 cs.length q2], 27), (w.heap.size + 1 + 1 + 1, by16, 51), (w.heap.size + 1 + 1, #[.int .u32 (c.1 : Nat), .int .u64 (c.2.1 : Nat), .int .u64 (c.2.2.1 : Nat), .int .u32 (c.2.2.2.1 : Nat), .int .u64 (c.2.2.2.2 : Nat)], 32), (w.heap.size + 1, #[.int .u32 (s.1 : Nat), .int .u32 (s.2.1 : Nat), .int .u64 (s.2.2.1 : Nat), .int .u64 (s.2.2.2.1 : Nat), .int .u64 (s.2.2.2.2.1 : Nat), .int .u64 (s.2.2.2.2.2.1 : Nat), .int .u64 (s.2.2.2.2.2.2 : Nat)], 30), (w.heap.size, #[.int .u64 (en : Nat), .int .u64 (so : Nat), .int .u64 (sc : Nat), .slice a1 zs.length p1, .slice a2 cs.length p2], 27)])) (fun x hx => .tail _ hx))
  clear hsrc hc1
  refine wpAnyH_ready (rs := [3]) (by kernel_rfl) (by simp) ?_
  refine AllReadyH.cons rfl (fun K hK => ?_) AllReadyH.nil
  rw [if_pos (by kernel_rfl)]
  refine copy_wp (x := .tmp 59) (y := .tmp 60) rfl rfl rfl HRUN.out ?_
  refine hK.out _ _ HP.out (fun hHeld2 => ?_)
  clear hK K hHeld hHeld2
  try simp only [Act.put, List.setIfInBounds_toArray, List.set_cons_zero, List.set_cons_succ, List.getElem_toArray, List.getElem_cons_succ, List.getElem_cons_zero]
  refine wpAnyH_done (by kernel_rfl) ?_ _
  refine NoPanic.normal ?_
  clear HRUN HC1a HT1 HS
  generalize W2.setRow g1 cu3 = W10 at HC1 HP ⊢
  have HT1 := HTC
  have HC1a := HC1
  have HS := HP
  clear HTC HC1 HP
  have HC2a : Hid ((W10.drew).heap[g2]? = some (.cells cu2 5 (0, 0))) := Lib.hid (HS.out.1 _ (.head _))
  replace HS : Hid (SB w ((g1, cu3, 5) :: [(D2, #[.int .u64 (en : Nat), .int .u64 64, .int .u64 (N0 : Nat), .slice y1 zs.length r1, .slice y2 cs.length r2], 27), (D1, #[.int .u64 (en : Nat), .int .u64 64, .int .u64 (N0 : Nat), .slice x1 zs.length q1, .slice x2 cs.length q2], 27), (w.heap.size + 1 + 1 + 1, by16, 51), (w.heap.size + 1 + 1, #[.int .u32 (c.1 : Nat), .int .u64 (c.2.1 : Nat), .int .u64 (c.2.2.1 : Nat), .int .u32 (c.2.2.2.1 : Nat), .int .u64 (c.2.2.2.2 : Nat)], 32), (w.heap.size + 1, #[.int .u32 (s.1 : Nat), .int .u32 (s.2.1 : Nat), .int .u64 (s.2.2.1 : Nat), .int .u64 (s.2.2.2.1 : Nat), .int .u64 (s.2.2.2.2.1 : Nat), .int .u64 (s.2.2.2.2.2.1 : Nat), .int .u64 (s.2.2.2.2.2.2 : Nat)], 30), (w.heap.size, #[.int .u64 (en : Nat), .int .u64 (so : Nat), .int .u64 (sc : Nat), .slice a1 zs.length p1, .slice a2 cs.length p2], 27)]) [(y1, zs.flatMap Sg.cs), (y2, cs.flatMap Sc.cs), (x1, zs.flatMap Sg.cs), (x2, cs.flatMap Sc.cs), (a1, zs.flatMap Sg.cs), (a2, cs.flatMap Sc.cs)] W10) := Lib.hid (SB.row (HS.out.less (fun x hx => .tail _ hx)) HC1a.out)
  clear HC1a
  go_upto_region 10 with fail
  refine wp_region_noPanic ?_
  refine wp_region_held_drew (S := fun W : World => SB w ((g1, cu3, 5) :: [(D2, #[.int .u64 (en : Nat), .int .u64 64, .int .u64 (N0 : Nat), .slice y1 zs.length r1, .slice y2 cs.length r2], 27), (D1, #[.int .u64 (en : Nat), .int .u64 64, .int .u64 (N0 : Nat), .slice x1 zs.length q1, .slice x2 cs.length q2], 27), (w.heap.size + 1 + 1 + 1, by16, 51), (w.heap.size + 1 + 1, #[.int .u32 (c.1 : Nat), .int .u64 (c.2.1 : Nat), .int .u64 (c.2.2.1 : Nat), .int .u32 (c.2.2.2.1 : Nat), .int .u64 (c.2.2.2.2 : Nat)], 32), (w.heap.size + 1, #[.int .u32 (s.1 : Nat), .int .u32 (s.2.1 : Nat), .int .u64 (s.2.2.1 : Nat), .int .u64 (s.2.2.2.1 : Nat), .int .u64 (s.2.2.2.2.1 : Nat), .int .u64 (s.2.2.2.2.2.1 : Nat), .int .u64 (s.2.2.2.2.2.2 : Nat)], 30), (w.heap.size, #[.int .u64 (en : Nat), .int .u64 (so : Nat), .int .u64 (sc : Nat), .slice a1 zs.length p1, .slice a2 cs.length p2], 27)]) [(y1, zs.flatMap Sg.cs), (y2, cs.flatMap Sc.cs), (x1, zs.flatMap Sg.cs), (x2, cs.flatMap Sc.cs), (a1, zs.flatMap Sg.cs), (a2, cs.flatMap Sc.cs)] W) (by kernel_rfl) ?_ (fun hHeld => ?_)
  · exact HS.out.drew
  generalize World.drew _ = W2 at hHeld HC2a ⊢
  refine wpAnyH_take (i := 0) (v := ?_) rfl (by kernel_rfl) (by kernel_rfl) (by kernel_rfl) (fun _ _ _ h => h) (Or.inl ⟨by kernel_rfl, ?_⟩) (by assumption) ?_
  rotate_left
  · intro wv hSw
    go_simp
    try with_reducible rfl
  simp only [Act.put, List.setIfInBounds_toArray, List.set_cons_zero, List.set_cons_succ, List.getElem_toArray, List.getElem_cons_succ, List.getElem_cons_zero]
  refine wpAnyH_take (i := 1) (v := ?_) rfl (by kernel_rfl) (by kernel_rfl) (by kernel_rfl) (fun _ _ _ h => h) (Or.inl ⟨by kernel_rfl, ?_⟩) (by assumption) ?_
  rotate_left
  · intro wv hSw
    have hi1 : (4 : Int) ≤ (k2 : Int) := by have h1 := HT2.out.2; omega
    go_simp
    try with_reducible rfl
  simp only [Act.put, List.setIfInBounds_toArray, List.set_cons_zero, List.set_cons_succ, List.getElem_toArray, List.getElem_cons_succ, List.getElem_cons_zero]
  refine wpAnyH_take (i := 2) (v := ?_) rfl (by kernel_rfl) (by kernel_rfl) (by kernel_rfl) (fun _ _ _ h => h) (Or.inl ⟨by kernel_rfl, ?_⟩) (by assumption) ?_
  rotate_left
  · intro wv hSw
    go_simp
    try with_reducible rfl
  simp only [Act.put, List.setIfInBounds_toArray, List.set_cons_zero, List.set_cons_succ, List.getElem_toArray, List.getElem_cons_succ, List.getElem_cons_zero]
  have hsrc : ∀ j, j < 4 → W2.cell? ⟨w.heap.size + 1 + 1 + 1, 8 + j, none⟩ = some (.int .u8 ((fun j => y (8 + j)) j : Nat)) := fun j hj => cell_at (hHeld.1 _ (.tail _ (.tail _ (.tail _ (.head _))))) (by
    rw [← HBY.out, List.getElem?_toArray]
    exact rowB_at y 16 (8 + j) (by omega))
  have HRUN := Lib.hid (copy_run W2 3 (dCap := k2) (sCap := 16 - 8) HC2a.out HT2.out.1 (o := 0) (k := 4) (by have := HN1.out; omega) (y := (fun j => y (8 + j))) (b := w.heap.size + 1 + 1 + 1) (so := 8) hsrc)
  obtain ⟨cu4, hc1⟩ : ∃ c1 : Array Value, c1 = (List.take 0 cu2.toList ++ rowB (fun j => y (8 + j)) 4 ++ List.drop (0 + 4) cu2.toList).toArray := ⟨_, rfl⟩
  have HTC := Lib.hid (And.intro (HT2.out.1.copy (o := 0) (k := 4) (fun j => y (8 + j)) (by have := HN1.out; omega)) HT2.out.2)
  rw [← hc1] at HRUN HTC
  have HC1 : Hid ((W2.setRow g2 cu4).heap[g2]? = some (.cells cu4 5 (0, 0))) := Lib.hid (setRow_heap W2 g2 _ cu4 5 (0, 0) HC2a.out)
  have HP := Lib.hid ((SB.put hHeld HR8.out (g := g2) HGG2.out (by have h1 := HGG2.out; have h2 := HW8.out; omega) (by have h1 := HGG2.out; have h2 := HW8.out; have h3 := HG2.out; omega) (fun x hx => by have h1 := HGG2.out; have h2 := HAB.out; rcases List.mem_cons.1 hx with rfl | hx <;> first | (dsimp only; omega) | (have := HLT8.out x hx; omega)) HC2a.out cu4).less (l' := ((g1, cu3, 5) :: [(D2, #[.int .u64 (en : Nat), .int .u64 64, .int .u64 (N0 : Nat), .slice y1 zs.length r1, .slice y2 cs.length r2], 27), (D1, #[.int .u64 (en : Nat), .int .u64 64, .int .u64 (N0 : Nat), .slice x1 zs.length q1, .slice x2 cs.length q2], 27), (w.heap.size + 1 + 1 + 1, by16, 51), (w.heap.size + 1 + 1, #[.int .u32 (c.1 : Nat), .int .u64 (c.2.1 : Nat), .int .u64 (c.2.2.1 : Nat), .int .u32 (c.2.2.2.1 : Nat), .int .u64 (c.2.2.2.2 : Nat)], 32), (w.heap.size + 1, #[.int .u32 (s.1 : Nat), .int .u32 (s.2.1 : Nat), .int .u64 (s.2.2.1 : Nat), .int .u64 (s.2.2.2.1 : Nat), .int .u64 (s.2.2.2.2.1 : Nat), .int .u64 (s.2.2.2.2.2.1 : Nat), .int .u64 (s.2.2.2.2.2.2 : Nat)], 30), (w.heap.size, #[.int .u64 (en : Nat), .int .u64 (so : Nat), .int .u64 (sc : Nat), .slice a1 zs.length p1, .slice a2 cs.length p2], 27)])) (fun x hx => .tail _ hx))
  clear hsrc hc1
  refine wpAnyH_ready (rs := [3]) (by kernel_rfl) (by simp) ?_
  refine AllReadyH.cons rfl (fun K hK => ?_) AllReadyH.nil
  rw [if_pos (by kernel_rfl)]
  refine copy_wp (x := .tmp 63) (y := .tmp 64) rfl rfl rfl HRUN.out ?_
  refine hK.out _ _ HP.out (fun hHeld2 => ?_)
  clear hK K hHeld hHeld2
  try simp only [Act.put, List.setIfInBounds_toArray, List.set_cons_zero, List.set_cons_succ, List.getElem_toArray, List.getElem_cons_succ, List.getElem_cons_zero]
  refine wpAnyH_done (by kernel_rfl) ?_ _
  refine NoPanic.normal ?_
  clear HRUN HC2a HT2 HS
  generalize W2.setRow g2 cu4 = W11 at HC1 HP ⊢
  have HT2 := HTC
  have HC2a := HC1
  have HS := HP
  clear HTC HC1 HP
  replace HS := Lib.hid (HS.out.row HC2a.out)
  clear HC2a
  have HTK1 := Lib.hid (take_any1 (y := y) HOK.out.2.2.2.1 HT1.out.2.1 HT1.out.2.2 HOK.out.2.2.2.2.2 W11 (HT1.out.1.bs (HS.out.1 _ (.tail _ (.head _)))))
  unfold Sg.v at HTK1
  go_wp2_with (first | (go_at_call 20; refine HTK1.out.mono ?_) | fail)
  first | (rintro e W12 rfl hb) | (rintro e W12 ⟨rfl, hb⟩)
  replace HS := Lib.hid (HS.out.keep hb)
  clear hb HTK1
  go_upto_region 12 with fail
  replace HS := Lib.hid (HS.out.box #[.int .u32 (s.1 : Nat), .int .u32 (s.2.1 : Nat), .int .u64 (s.2.2.1 : Nat), .int .u64 (s.2.2.2.1 : Nat), .int .u64 (s.2.2.2.2.1 : Nat), .int .u64 (s.2.2.2.2.2.1 : Nat), .int .u64 (s.2.2.2.2.2.2 : Nat)] 30)
  generalize World.alloc W12 _ = W13 at HS ⊢
  generalize W12.heap.size = D3 at HS ⊢
  have HTK2 := Lib.hid (take_any2 (y := fun j => y (8 + j)) HOK.out.2.2.2.2.1 HT2.out.2.1 HT2.out.2.2 (fun j => HOK.out.2.2.2.2.2 _) W13 (HT2.out.1.bs (HS.out.1 _ (.tail _ (.head _)))))
  unfold Sc.v at HTK2
  go_wp2_with (first | (go_at_call 22; refine HTK2.out.mono ?_) | fail)
  first | (rintro e W14 rfl hb) | (rintro e W14 ⟨rfl, hb⟩)
  replace HS := Lib.hid (HS.out.keep hb)
  clear hb HTK2 HT1 HT2
  go_upto_region 13 with fail
  replace HS := Lib.hid (HS.out.box #[.int .u32 (c.1 : Nat), .int .u64 (c.2.1 : Nat), .int .u64 (c.2.2.1 : Nat), .int .u32 (c.2.2.2.1 : Nat), .int .u64 (c.2.2.2.2 : Nat)] 32)
  generalize World.alloc W14 _ = W15 at HS ⊢
  generalize W14.heap.size = D4 at HS ⊢
  have u0 : W15.cell? ⟨D1, 0, none⟩ = some (.int .u64 (en : Nat)) := cell_at (HS.out.1 _ (.tail _ (.tail _ (.tail _ (.tail _ (.tail _ (.head _))))))) rfl
  have u1 : W15.cell? ⟨D1, 1, none⟩ = some (.int .u64 64) := cell_at (HS.out.1 _ (.tail _ (.tail _ (.tail _ (.tail _ (.tail _ (.head _))))))) rfl
  have u2 : W15.cell? ⟨D1, 2, none⟩ = some (.int .u64 (N0 : Nat)) := cell_at (HS.out.1 _ (.tail _ (.tail _ (.tail _ (.tail _ (.tail _ (.head _))))))) rfl
  have u3 : W15.cell? ⟨D1, 3, none⟩ = some (.slice x1 zs.length q1) := cell_at (HS.out.1 _ (.tail _ (.tail _ (.tail _ (.tail _ (.tail _ (.head _))))))) rfl
  have u4 : W15.cell? ⟨D1, 4, none⟩ = some (.slice x2 cs.length q2) := cell_at (HS.out.1 _ (.tail _ (.tail _ (.tail _ (.tail _ (.tail _ (.head _))))))) rfl
  have v0 : W15.cell? ⟨D2, 0, none⟩ = some (.int .u64 (en : Nat)) := cell_at (HS.out.1 _ (.tail _ (.tail _ (.tail _ (.tail _ (.head _)))))) rfl
  have v1 : W15.cell? ⟨D2, 1, none⟩ = some (.int .u64 64) := cell_at (HS.out.1 _ (.tail _ (.tail _ (.tail _ (.tail _ (.head _)))))) rfl
  have v2 : W15.cell? ⟨D2, 2, none⟩ = some (.int .u64 (N0 : Nat)) := cell_at (HS.out.1 _ (.tail _ (.tail _ (.tail _ (.tail _ (.head _)))))) rfl
  have v3 : W15.cell? ⟨D2, 3, none⟩ = some (.slice y1 zs.length r1) := cell_at (HS.out.1 _ (.tail _ (.tail _ (.tail _ (.tail _ (.head _)))))) rfl
  have v4 : W15.cell? ⟨D2, 4, none⟩ = some (.slice y2 cs.length r2) := cell_at (HS.out.1 _ (.tail _ (.tail _ (.tail _ (.tail _ (.head _)))))) rfl
  have q30 := fun w => eq30 s HOK.out.2.2.2.1 w
  have q32 := fun w => eq32 c HOK.out.2.2.2.2.1 w
  unfold Sg.v at q30
  unfold Sc.v at q32
  have HSM := Lib.hid (rsame_any en 64 N0 zs cs x1 x2 y1 y2 q1 q2 r1 r2 HOK.out.1 HOK.out.2.1 (by have := HNN.out.1; omega) (by have := HNN.out.2; omega) W15 (HS.out.2.1 _ (.tail _ (.tail _ (.head _)))) (HS.out.2.1 _ (.tail _ (.tail _ (.tail _ (.head _))))) (HS.out.2.1 _ (.head _)) (HS.out.2.1 _ (.tail _ (.head _))))
  go_wp2_with (first | (go_at_call 12; refine HSM.out.mono ?_) | fail)
  first | (rintro e W16 rfl hb) | (rintro e W16 ⟨rfl, hb⟩)
  replace HS := Lib.hid (HS.out.keep hb)
  clear hb HSM u0 v0 u1 v1 u2 v2 u3 v3 u4 v4
  have e0 : W16.cell? ⟨D3, 0, none⟩ = some (.int .u32 (s.1 : Nat)) := cell_at (HS.out.1 _ (.tail _ (.head _))) rfl
  have e1 : W16.cell? ⟨D3, 1, none⟩ = some (.int .u32 (s.2.1 : Nat)) := cell_at (HS.out.1 _ (.tail _ (.head _))) rfl
  have e2 : W16.cell? ⟨D3, 2, none⟩ = some (.int .u64 (s.2.2.1 : Nat)) := cell_at (HS.out.1 _ (.tail _ (.head _))) rfl
  have e3 : W16.cell? ⟨D3, 3, none⟩ = some (.int .u64 (s.2.2.2.1 : Nat)) := cell_at (HS.out.1 _ (.tail _ (.head _))) rfl
  have e4 : W16.cell? ⟨D3, 4, none⟩ = some (.int .u64 (s.2.2.2.2.1 : Nat)) := cell_at (HS.out.1 _ (.tail _ (.head _))) rfl
  have e5 : W16.cell? ⟨D3, 5, none⟩ = some (.int .u64 (s.2.2.2.2.2.1 : Nat)) := cell_at (HS.out.1 _ (.tail _ (.head _))) rfl
  have e6 : W16.cell? ⟨D3, 6, none⟩ = some (.int .u64 (s.2.2.2.2.2.2 : Nat)) := cell_at (HS.out.1 _ (.tail _ (.head _))) rfl
  have f0 : W16.cell? ⟨w.heap.size + 1, 0, none⟩ = some (.int .u32 (s.1 : Nat)) := cell_at (HS.out.1 _ (.tail _ (.tail _ (.tail _ (.tail _ (.tail _ (.tail _ (.tail _ (.tail _ (.head _)))))))))) rfl
  have f1 : W16.cell? ⟨w.heap.size + 1, 1, none⟩ = some (.int .u32 (s.2.1 : Nat)) := cell_at (HS.out.1 _ (.tail _ (.tail _ (.tail _ (.tail _ (.tail _ (.tail _ (.tail _ (.tail _ (.head _)))))))))) rfl
  have f2 : W16.cell? ⟨w.heap.size + 1, 2, none⟩ = some (.int .u64 (s.2.2.1 : Nat)) := cell_at (HS.out.1 _ (.tail _ (.tail _ (.tail _ (.tail _ (.tail _ (.tail _ (.tail _ (.tail _ (.head _)))))))))) rfl
  have f3 : W16.cell? ⟨w.heap.size + 1, 3, none⟩ = some (.int .u64 (s.2.2.2.1 : Nat)) := cell_at (HS.out.1 _ (.tail _ (.tail _ (.tail _ (.tail _ (.tail _ (.tail _ (.tail _ (.tail _ (.head _)))))))))) rfl
  have f4 : W16.cell? ⟨w.heap.size + 1, 4, none⟩ = some (.int .u64 (s.2.2.2.2.1 : Nat)) := cell_at (HS.out.1 _ (.tail _ (.tail _ (.tail _ (.tail _ (.tail _ (.tail _ (.tail _ (.tail _ (.head _)))))))))) rfl
  have f5 : W16.cell? ⟨w.heap.size + 1, 5, none⟩ = some (.int .u64 (s.2.2.2.2.2.1 : Nat)) := cell_at (HS.out.1 _ (.tail _ (.tail _ (.tail _ (.tail _ (.tail _ (.tail _ (.tail _ (.tail _ (.head _)))))))))) rfl
  have f6 : W16.cell? ⟨w.heap.size + 1, 6, none⟩ = some (.int .u64 (s.2.2.2.2.2.2 : Nat)) := cell_at (HS.out.1 _ (.tail _ (.tail _ (.tail _ (.tail _ (.tail _ (.tail _ (.tail _ (.tail _ (.head _)))))))))) rfl
  have m0 : W16.cell? ⟨D4, 0, none⟩ = some (.int .u32 (c.1 : Nat)) := cell_at (HS.out.1 _ (.head _)) rfl
  have m1 : W16.cell? ⟨D4, 1, none⟩ = some (.int .u64 (c.2.1 : Nat)) := cell_at (HS.out.1 _ (.head _)) rfl
  have m2 : W16.cell? ⟨D4, 2, none⟩ = some (.int .u64 (c.2.2.1 : Nat)) := cell_at (HS.out.1 _ (.head _)) rfl
  have m3 : W16.cell? ⟨D4, 3, none⟩ = some (.int .u32 (c.2.2.2.1 : Nat)) := cell_at (HS.out.1 _ (.head _)) rfl
  have m4 : W16.cell? ⟨D4, 4, none⟩ = some (.int .u64 (c.2.2.2.2 : Nat)) := cell_at (HS.out.1 _ (.head _)) rfl
  have n0 : W16.cell? ⟨w.heap.size + 1 + 1, 0, none⟩ = some (.int .u32 (c.1 : Nat)) := cell_at (HS.out.1 _ (.tail _ (.tail _ (.tail _ (.tail _ (.tail _ (.tail _ (.tail _ (.head _))))))))) rfl
  have n1 : W16.cell? ⟨w.heap.size + 1 + 1, 1, none⟩ = some (.int .u64 (c.2.1 : Nat)) := cell_at (HS.out.1 _ (.tail _ (.tail _ (.tail _ (.tail _ (.tail _ (.tail _ (.tail _ (.head _))))))))) rfl
  have n2 : W16.cell? ⟨w.heap.size + 1 + 1, 2, none⟩ = some (.int .u64 (c.2.2.1 : Nat)) := cell_at (HS.out.1 _ (.tail _ (.tail _ (.tail _ (.tail _ (.tail _ (.tail _ (.tail _ (.head _))))))))) rfl
  have n3 : W16.cell? ⟨w.heap.size + 1 + 1, 3, none⟩ = some (.int .u32 (c.2.2.2.1 : Nat)) := cell_at (HS.out.1 _ (.tail _ (.tail _ (.tail _ (.tail _ (.tail _ (.tail _ (.tail _ (.head _))))))))) rfl
  have n4 : W16.cell? ⟨w.heap.size + 1 + 1, 4, none⟩ = some (.int .u64 (c.2.2.2.2 : Nat)) := cell_at (HS.out.1 _ (.tail _ (.tail _ (.tail _ (.tail _ (.tail _ (.tail _ (.tail _ (.head _))))))))) rfl
  go_wp2_with (first | (go_at_call 9; refine (wakes_any _ HS.out.2.2.1).mono ?_) | fail)
  first | (rintro e W17 rfl hb) | (rintro e W17 ⟨rfl, hb⟩)
  have HE := Lib.hid (HS.out.keep hb)
  go_wp2_with fail
  go_ret
  exact ⟨rfl, HE.out.2.2.2⟩
end Go.Proofs.YtnaggdhophncaaaDoor
