/- The reference's Same, where both are alike. -/
import Derived.Test.YtnaggdhophncaaaDoorGs
namespace Go.Proofs.YtnaggdhophncaaaDoor
open Go.RowKit Go.Shelf
set_option linter.unusedVariables false
set_option linter.unusedSimpArgs false
attribute [local go_sem] Oper.semAt_some
/-- Two headers in their boxes. -/
def FS (w : World) (B : Nat) (c1 c2 : Array Value) (W : World) : Prop := W.heap[B]? = some (.cells c1 27 (0, 0)) ∧ W.heap[B + 1]? = some (.cells c2 27 (0, 0)) ∧ Below w.heap.size w W
theorem FS.new {w : World} (c1 c2 : Array Value) : FS w w.heap.size c1 c2 ((w.alloc (.cells c1 27)).alloc (.cells c2 27)) := by
  have h2 := heap_alloc_last (w.alloc (.cells c1 27)) (.cells c2 27)
  simp only [World.size_alloc] at h2
  exact ⟨(heap_alloc_old _ _ (by simp)).trans (heap_alloc_last w _), h2, ((Below.refl _ w).alloc (Nat.le_refl _) _).alloc (by simp) _⟩
theorem FS.drew {w W : World} {B : Nat} {c1 c2 : Array Value} (h : FS w B c1 c2 W) : FS w B c1 c2 W.drew := ⟨h.1, h.2.1, h.2.2.drew⟩
theorem FS.keep {w W W' : World} {B : Nat} {c1 c2 : Array Value} (h : FS w B c1 c2 W) (hb : Below W.heap.size W W') : FS w B c1 c2 W' := ⟨(hb.block _ (Array.getElem?_eq_some_iff.1 h.1).1).trans h.1, (hb.block _ (Array.getElem?_eq_some_iff.1 h.2.1).1).trans h.2.1, h.2.2.trans (hb.mono h.2.2.size)⟩
set_option maxRecDepth 100000 in
set_option maxHeartbeats 8000000 in
theorem rsame_any (en so sc : Nat) (zs : List Sg) (cs : List Sc) (a1 a2 b1 b2 : Option Addr) (p1 p2 q1 q2 : Nat) (hz : ∀ s ∈ zs, s.ok) (hc : ∀ s ∈ cs, s.ok) (hn : zs.length ≤ 1000000) (hm : cs.length ≤ 1000000) (w : World)
    (h1 : RX w a1 (zs.flatMap Sg.cs)) (h2 : RX w a2 (cs.flatMap Sc.cs)) (h3 : RX w b1 (zs.flatMap Sg.cs)) (h4 : RX w b2 (cs.flatMap Sc.cs)) :
    Calls Tryd.prog 12 #[.agg #[.int .u64 (en : Nat), .int .u64 (so : Nat), .int .u64 (sc : Nat), .slice a1 zs.length p1, .slice a2 cs.length p2], .agg #[.int .u64 (en : Nat), .int .u64 (so : Nat), .int .u64 (sc : Nat), .slice b1 zs.length q1, .slice b2 cs.length q2]] w fun e W' => e = .returned (.bool true) ∧ Below w.heap.size w W' := by
  have HX1 := Lib.hid (fun W (hb : Below w.heap.size w W) => h1.keep hb)
  have HX2 := Lib.hid (fun W (hb : Below w.heap.size w W) => h2.keep hb)
  have HX3 := Lib.hid (fun W (hb : Below w.heap.size w W) => h3.keep hb)
  have HX4 := Lib.hid (fun W (hb : Below w.heap.size w W) => h4.keep hb)
  have HO := Lib.hid (And.intro hz hc)
  clear h1 h2 h3 h4 hz hc
  obtain ⟨n, hn1⟩ : ∃ n, zs.length = n := ⟨_, rfl⟩
  obtain ⟨m, hm1⟩ : ∃ m, cs.length = m := ⟨_, rfl⟩
  rw [hn1] at hn
  rw [hm1] at hm
  rw [hn1, hm1]
  have HL := Lib.hid (And.intro hn1 hm1)
  clear hn1 hm1
  have HS := Lib.hid (FS.new (w := w) (#[.int .u64 (en : Nat), .int .u64 (so : Nat), .int .u64 (sc : Nat), .slice a1 n p1, .slice a2 m p2]) (#[.int .u64 (en : Nat), .int .u64 (so : Nat), .int .u64 (sc : Nat), .slice b1 n q1, .slice b2 m q2]))
  go_enter Tryd.func12, Tryd.ntmps12
  go_upto_region 1 with fail
  generalize World.alloc (World.alloc w _) _ = W1 at HS ⊢
  have c0 := cell_at (i := 0) (v := .int .u64 (en : Nat)) HS.out.1 rfl
  have c1 := cell_at (i := 1) (v := .int .u64 (so : Nat)) HS.out.1 rfl
  have c2 := cell_at (i := 2) (v := .int .u64 (sc : Nat)) HS.out.1 rfl
  have c3 := cell_at (i := 3) (v := .slice a1 n p1) HS.out.1 rfl
  have c4 := cell_at (i := 4) (v := .slice a2 m p2) HS.out.1 rfl
  have d0 := cell_at (i := 0) (v := .int .u64 (en : Nat)) HS.out.2.1 rfl
  have d1 := cell_at (i := 1) (v := .int .u64 (so : Nat)) HS.out.2.1 rfl
  have d2 := cell_at (i := 2) (v := .int .u64 (sc : Nat)) HS.out.2.1 rfl
  have d3 := cell_at (i := 3) (v := .slice b1 n q1) HS.out.2.1 rfl
  have d4 := cell_at (i := 4) (v := .slice b2 m q2) HS.out.2.1 rfl
  go_wp2_with fail
  clear c0 c1 c2 c3 c4 d0 d1 d2 d3 d4
  go_loopw [5] (fun i W => ∃ k : Nat, k ≤ n ∧ i = .int .i64 k ∧ Hid (FS w w.heap.size #[.int .u64 (en : Nat), .int .u64 (so : Nat), .int .u64 (sc : Nat), .slice a1 n p1, .slice a2 m p2] #[.int .u64 (en : Nat), .int .u64 (so : Nat), .int .u64 (sc : Nat), .slice b1 n q1, .slice b2 m q2] W)) (fun i _ => n - (intOf i).toNat)
  case atStart => exact ⟨0, by omega, rfl, HS⟩
  case round =>
    clear HS
    obtain ⟨k, hk, rfl, HS⟩ := hrel
    have e3 := cell_at (i := 3) (v := .slice a1 n p1) HS.out.1 rfl
    by_cases hlt : k < n
    · obtain ⟨s, hs⟩ : ∃ s, zs[k]? = some s := ⟨zs[k]'(by have := HL.out.1; omega), List.getElem?_eq_getElem _⟩
      have HK1 := Lib.hid hs
      have HOK := Lib.hid (HO.out.1 s (List.mem_of_getElem? hs))
      clear hs
      obtain ⟨x1, o1, ha1, _⟩ := Sg_at (HX1.out wr HS.out.2.2) HK1.out
      obtain ⟨x2, o2, ha2, _⟩ := Sg_at (HX3.out wr HS.out.2.2) HK1.out
      subst ha1
      subst ha2
      go_upto_region 6 with fail
      clear e3
      refine wp_region_noPanic ?_
      refine wp_region_held_drew (S := fun W : World => FS w w.heap.size #[.int .u64 (en : Nat), .int .u64 (so : Nat), .int .u64 (sc : Nat), .slice (some ⟨x1, o1, none⟩) n p1, .slice a2 m p2] #[.int .u64 (en : Nat), .int .u64 (so : Nat), .int .u64 (sc : Nat), .slice (some ⟨x2, o2, none⟩) n q1, .slice b2 m q2] W) (by kernel_rfl) ?_ (fun hHeld => ?_)
      · exact HS.out.drew
      generalize World.drew _ = W2 at hHeld ⊢
      refine wpAnyH_take (i := 0) (v := ?_) rfl (by kernel_rfl) (by kernel_rfl) (by kernel_rfl) (fun _ _ _ h => h) (Or.inl ⟨by kernel_rfl, ?_⟩) (by assumption) ?_
      rotate_left
      · intro wv hSw
        go_simp
        try with_reducible rfl
      simp only [Act.put, List.setIfInBounds_toArray, List.set_cons_zero, List.set_cons_succ, List.getElem_toArray, List.getElem_cons_succ, List.getElem_cons_zero]
      refine wpAnyH_take (i := 1) (v := ?_) rfl (by kernel_rfl) (by kernel_rfl) (by kernel_rfl) (fun _ _ _ h => h) (Or.inl ⟨by kernel_rfl, ?_⟩) (by assumption) ?_
      rotate_left
      · intro wv hSw
        have c3 := cell_at (i := 3) (v := .slice (some ⟨x1, o1, none⟩) n p1) hSw.1 rfl
        clear hSw
        go_simp
        try with_reducible rfl
      simp only [Act.put, List.setIfInBounds_toArray, List.set_cons_zero, List.set_cons_succ, List.getElem_toArray, List.getElem_cons_succ, List.getElem_cons_zero]
      refine wpAnyH_take (i := 2) (v := ?_) rfl (by kernel_rfl) (by kernel_rfl) (by kernel_rfl) (fun _ _ _ h => h) (Or.inl ⟨by kernel_rfl, ?_⟩) (by assumption) ?_
      rotate_left
      · intro wv hSw
        go_simp
        try with_reducible rfl
      simp only [Act.put, List.setIfInBounds_toArray, List.set_cons_zero, List.set_cons_succ, List.getElem_toArray, List.getElem_cons_succ, List.getElem_cons_zero]
      refine wpAnyH_take (i := 3) (v := ?_) rfl (by kernel_rfl) (by kernel_rfl) (by kernel_rfl) (fun _ _ _ h => h) (Or.inl ⟨by kernel_rfl, ?_⟩) (by assumption) ?_
      rotate_left
      · intro wv hSw
        go_simp
        try with_reducible rfl
      simp only [Act.put, List.setIfInBounds_toArray, List.set_cons_zero, List.set_cons_succ, List.getElem_toArray, List.getElem_cons_succ, List.getElem_cons_zero]
      refine wpAnyH_take (i := 4) (v := ?_) rfl (by kernel_rfl) (by kernel_rfl) (by kernel_rfl) (fun _ _ _ h => h) (Or.inl ⟨by kernel_rfl, ?_⟩) (by assumption) ?_
      rotate_left
      · intro wv hSw
        obtain ⟨b9, off9, ha9, f0, f1, f2, f3, f4, f5, f6⟩ := Sg_at (HX1.out wv hSw.2.2) HK1.out
        simp only [Option.some.injEq, Addr.mk.injEq, and_true] at ha9
        obtain ⟨rfl, rfl⟩ := ha9
        clear hSw
        go_simp
        try with_reducible rfl
      simp only [Act.put, List.setIfInBounds_toArray, List.set_cons_zero, List.set_cons_succ, List.getElem_toArray, List.getElem_cons_succ, List.getElem_cons_zero]
      refine wpAnyH_take (i := 5) (v := ?_) rfl (by kernel_rfl) (by kernel_rfl) (by kernel_rfl) (fun _ _ _ h => h) (Or.inl ⟨by kernel_rfl, ?_⟩) (by assumption) ?_
      rotate_left
      · intro wv hSw
        go_simp
        try with_reducible rfl
      simp only [Act.put, List.setIfInBounds_toArray, List.set_cons_zero, List.set_cons_succ, List.getElem_toArray, List.getElem_cons_succ, List.getElem_cons_zero]
      refine wpAnyH_take (i := 6) (v := ?_) rfl (by kernel_rfl) (by kernel_rfl) (by kernel_rfl) (fun _ _ _ h => h) (Or.inl ⟨by kernel_rfl, ?_⟩) (by assumption) ?_
      rotate_left
      · intro wv hSw
        have d3 := cell_at (i := 3) (v := .slice (some ⟨x2, o2, none⟩) n q1) hSw.2.1 rfl
        clear hSw
        go_simp
        try with_reducible rfl
      simp only [Act.put, List.setIfInBounds_toArray, List.set_cons_zero, List.set_cons_succ, List.getElem_toArray, List.getElem_cons_succ, List.getElem_cons_zero]
      refine wpAnyH_take (i := 7) (v := ?_) rfl (by kernel_rfl) (by kernel_rfl) (by kernel_rfl) (fun _ _ _ h => h) (Or.inl ⟨by kernel_rfl, ?_⟩) (by assumption) ?_
      rotate_left
      · intro wv hSw
        go_simp
        try with_reducible rfl
      simp only [Act.put, List.setIfInBounds_toArray, List.set_cons_zero, List.set_cons_succ, List.getElem_toArray, List.getElem_cons_succ, List.getElem_cons_zero]
      refine wpAnyH_take (i := 8) (v := ?_) rfl (by kernel_rfl) (by kernel_rfl) (by kernel_rfl) (fun _ _ _ h => h) (Or.inl ⟨by kernel_rfl, ?_⟩) (by assumption) ?_
      rotate_left
      · intro wv hSw
        go_simp
        try with_reducible rfl
      simp only [Act.put, List.setIfInBounds_toArray, List.set_cons_zero, List.set_cons_succ, List.getElem_toArray, List.getElem_cons_succ, List.getElem_cons_zero]
      refine wpAnyH_take (i := 9) (v := ?_) rfl (by kernel_rfl) (by kernel_rfl) (by kernel_rfl) (fun _ _ _ h => h) (Or.inl ⟨by kernel_rfl, ?_⟩) (by assumption) ?_
      rotate_left
      · intro wv hSw
        obtain ⟨b9, off9, ha9, f0, f1, f2, f3, f4, f5, f6⟩ := Sg_at (HX3.out wv hSw.2.2) HK1.out
        simp only [Option.some.injEq, Addr.mk.injEq, and_true] at ha9
        obtain ⟨rfl, rfl⟩ := ha9
        clear hSw
        go_simp
        try with_reducible rfl
      simp only [Act.put, List.setIfInBounds_toArray, List.set_cons_zero, List.set_cons_succ, List.getElem_toArray, List.getElem_cons_succ, List.getElem_cons_zero]
      refine wpAnyH_take (i := 10) (v := ?_) rfl (by kernel_rfl) (by kernel_rfl) (by kernel_rfl) (fun _ _ _ h => h) (Or.inl ⟨by kernel_rfl, ?_⟩) (by assumption) ?_
      rotate_left
      · intro wv hSw
        refine exec_neq30 (X := .tmp 55) (Y := .tmp 60) (ty := 30) (f := s) ?_ ?_ ?_ HOK.out
        · rfl
        · rfl
        · rfl
        try with_reducible rfl
      simp only [Act.put, List.setIfInBounds_toArray, List.set_cons_zero, List.set_cons_succ, List.getElem_toArray, List.getElem_cons_succ, List.getElem_cons_zero]
      refine wpAnyH_done (by kernel_rfl) ?_ _
      refine NoPanic.normal ?_
      have HS2 := Lib.hid hHeld
      clear hHeld
      go_wp2_with fail
      go_roundw
      case rel => exact ⟨k + 1, by omega, by go_num, HS2⟩
      case measure => simp [intOf]; omega
    · obtain rfl : n = k := by omega
      go_wp2_with fail
      clear e3
      go_loopw [6] (fun i W => ∃ k : Nat, k ≤ m ∧ i = .int .i64 k ∧ Hid (FS w w.heap.size #[.int .u64 (en : Nat), .int .u64 (so : Nat), .int .u64 (sc : Nat), .slice a1 n p1, .slice a2 m p2] #[.int .u64 (en : Nat), .int .u64 (so : Nat), .int .u64 (sc : Nat), .slice b1 n q1, .slice b2 m q2] W)) (fun i _ => m - (intOf i).toNat)
      case atStart => exact ⟨0, by omega, rfl, HS⟩
      case round =>
        clear HS
        obtain ⟨k, hk, rfl, HS⟩ := hrel
        have e3 := cell_at (i := 4) (v := .slice a2 m p2) HS.out.1 rfl
        by_cases hlt : k < m
        · obtain ⟨s, hs⟩ : ∃ s, cs[k]? = some s := ⟨cs[k]'(by have := HL.out.2; omega), List.getElem?_eq_getElem _⟩
          have HK1 := Lib.hid hs
          have HOK := Lib.hid (HO.out.2 s (List.mem_of_getElem? hs))
          clear hs
          obtain ⟨x1, o1, ha1, _⟩ := Sc_at (HX2.out wr HS.out.2.2) HK1.out
          obtain ⟨x2, o2, ha2, _⟩ := Sc_at (HX4.out wr HS.out.2.2) HK1.out
          subst ha1
          subst ha2
          go_upto_region 11 with fail
          clear e3
          refine wp_region_noPanic ?_
          refine wp_region_held_drew (S := fun W : World => FS w w.heap.size #[.int .u64 (en : Nat), .int .u64 (so : Nat), .int .u64 (sc : Nat), .slice a1 n p1, .slice (some ⟨x1, o1, none⟩) m p2] #[.int .u64 (en : Nat), .int .u64 (so : Nat), .int .u64 (sc : Nat), .slice b1 n q1, .slice (some ⟨x2, o2, none⟩) m q2] W) (by kernel_rfl) ?_ (fun hHeld => ?_)
          · exact HS.out.drew
          generalize World.drew _ = W2 at hHeld ⊢
          refine wpAnyH_take (i := 0) (v := ?_) rfl (by kernel_rfl) (by kernel_rfl) (by kernel_rfl) (fun _ _ _ h => h) (Or.inl ⟨by kernel_rfl, ?_⟩) (by assumption) ?_
          rotate_left
          · intro wv hSw
            go_simp
            try with_reducible rfl
          simp only [Act.put, List.setIfInBounds_toArray, List.set_cons_zero, List.set_cons_succ, List.getElem_toArray, List.getElem_cons_succ, List.getElem_cons_zero]
          refine wpAnyH_take (i := 1) (v := ?_) rfl (by kernel_rfl) (by kernel_rfl) (by kernel_rfl) (fun _ _ _ h => h) (Or.inl ⟨by kernel_rfl, ?_⟩) (by assumption) ?_
          rotate_left
          · intro wv hSw
            have c3 := cell_at (i := 4) (v := .slice (some ⟨x1, o1, none⟩) m p2) hSw.1 rfl
            clear hSw
            go_simp
            try with_reducible rfl
          simp only [Act.put, List.setIfInBounds_toArray, List.set_cons_zero, List.set_cons_succ, List.getElem_toArray, List.getElem_cons_succ, List.getElem_cons_zero]
          refine wpAnyH_take (i := 2) (v := ?_) rfl (by kernel_rfl) (by kernel_rfl) (by kernel_rfl) (fun _ _ _ h => h) (Or.inl ⟨by kernel_rfl, ?_⟩) (by assumption) ?_
          rotate_left
          · intro wv hSw
            go_simp
            try with_reducible rfl
          simp only [Act.put, List.setIfInBounds_toArray, List.set_cons_zero, List.set_cons_succ, List.getElem_toArray, List.getElem_cons_succ, List.getElem_cons_zero]
          refine wpAnyH_take (i := 3) (v := ?_) rfl (by kernel_rfl) (by kernel_rfl) (by kernel_rfl) (fun _ _ _ h => h) (Or.inl ⟨by kernel_rfl, ?_⟩) (by assumption) ?_
          rotate_left
          · intro wv hSw
            go_simp
            try with_reducible rfl
          simp only [Act.put, List.setIfInBounds_toArray, List.set_cons_zero, List.set_cons_succ, List.getElem_toArray, List.getElem_cons_succ, List.getElem_cons_zero]
          refine wpAnyH_take (i := 4) (v := ?_) rfl (by kernel_rfl) (by kernel_rfl) (by kernel_rfl) (fun _ _ _ h => h) (Or.inl ⟨by kernel_rfl, ?_⟩) (by assumption) ?_
          rotate_left
          · intro wv hSw
            obtain ⟨b9, off9, ha9, f0, f1, f2, f3, f4⟩ := Sc_at (HX2.out wv hSw.2.2) HK1.out
            simp only [Option.some.injEq, Addr.mk.injEq, and_true] at ha9
            obtain ⟨rfl, rfl⟩ := ha9
            clear hSw
            go_simp
            try with_reducible rfl
          simp only [Act.put, List.setIfInBounds_toArray, List.set_cons_zero, List.set_cons_succ, List.getElem_toArray, List.getElem_cons_succ, List.getElem_cons_zero]
          refine wpAnyH_take (i := 5) (v := ?_) rfl (by kernel_rfl) (by kernel_rfl) (by kernel_rfl) (fun _ _ _ h => h) (Or.inl ⟨by kernel_rfl, ?_⟩) (by assumption) ?_
          rotate_left
          · intro wv hSw
            go_simp
            try with_reducible rfl
          simp only [Act.put, List.setIfInBounds_toArray, List.set_cons_zero, List.set_cons_succ, List.getElem_toArray, List.getElem_cons_succ, List.getElem_cons_zero]
          refine wpAnyH_take (i := 6) (v := ?_) rfl (by kernel_rfl) (by kernel_rfl) (by kernel_rfl) (fun _ _ _ h => h) (Or.inl ⟨by kernel_rfl, ?_⟩) (by assumption) ?_
          rotate_left
          · intro wv hSw
            have d3 := cell_at (i := 4) (v := .slice (some ⟨x2, o2, none⟩) m q2) hSw.2.1 rfl
            clear hSw
            go_simp
            try with_reducible rfl
          simp only [Act.put, List.setIfInBounds_toArray, List.set_cons_zero, List.set_cons_succ, List.getElem_toArray, List.getElem_cons_succ, List.getElem_cons_zero]
          refine wpAnyH_take (i := 7) (v := ?_) rfl (by kernel_rfl) (by kernel_rfl) (by kernel_rfl) (fun _ _ _ h => h) (Or.inl ⟨by kernel_rfl, ?_⟩) (by assumption) ?_
          rotate_left
          · intro wv hSw
            go_simp
            try with_reducible rfl
          simp only [Act.put, List.setIfInBounds_toArray, List.set_cons_zero, List.set_cons_succ, List.getElem_toArray, List.getElem_cons_succ, List.getElem_cons_zero]
          refine wpAnyH_take (i := 8) (v := ?_) rfl (by kernel_rfl) (by kernel_rfl) (by kernel_rfl) (fun _ _ _ h => h) (Or.inl ⟨by kernel_rfl, ?_⟩) (by assumption) ?_
          rotate_left
          · intro wv hSw
            go_simp
            try with_reducible rfl
          simp only [Act.put, List.setIfInBounds_toArray, List.set_cons_zero, List.set_cons_succ, List.getElem_toArray, List.getElem_cons_succ, List.getElem_cons_zero]
          refine wpAnyH_take (i := 9) (v := ?_) rfl (by kernel_rfl) (by kernel_rfl) (by kernel_rfl) (fun _ _ _ h => h) (Or.inl ⟨by kernel_rfl, ?_⟩) (by assumption) ?_
          rotate_left
          · intro wv hSw
            obtain ⟨b9, off9, ha9, f0, f1, f2, f3, f4⟩ := Sc_at (HX4.out wv hSw.2.2) HK1.out
            simp only [Option.some.injEq, Addr.mk.injEq, and_true] at ha9
            obtain ⟨rfl, rfl⟩ := ha9
            clear hSw
            go_simp
            try with_reducible rfl
          simp only [Act.put, List.setIfInBounds_toArray, List.set_cons_zero, List.set_cons_succ, List.getElem_toArray, List.getElem_cons_succ, List.getElem_cons_zero]
          refine wpAnyH_take (i := 10) (v := ?_) rfl (by kernel_rfl) (by kernel_rfl) (by kernel_rfl) (fun _ _ _ h => h) (Or.inl ⟨by kernel_rfl, ?_⟩) (by assumption) ?_
          rotate_left
          · intro wv hSw
            refine exec_neq32 (X := .tmp 73) (Y := .tmp 78) (ty := 32) (f := s) ?_ ?_ ?_ HOK.out
            · rfl
            · rfl
            · rfl
            try with_reducible rfl
          simp only [Act.put, List.setIfInBounds_toArray, List.set_cons_zero, List.set_cons_succ, List.getElem_toArray, List.getElem_cons_succ, List.getElem_cons_zero]
          refine wpAnyH_done (by kernel_rfl) ?_ _
          refine NoPanic.normal ?_
          have HS2 := Lib.hid hHeld
          clear hHeld
          go_wp2_with fail
          go_roundw
          case rel => exact ⟨k + 1, by omega, by go_num, HS2⟩
          case measure => simp [intOf]; omega
        · obtain rfl : m = k := by omega
          go_wp2_with fail
          go_ret
          exact ⟨rfl, HS.out.2.2⟩
end Go.Proofs.YtnaggdhophncaaaDoor
