/- names.Read: the loop. -/
import Derived.Test.YtegbhjmghkbgmaaRe
namespace Go.Proofs.Ytegbhjmghkbgmaa
open Go.RowKit Go.Shelf
set_option linter.unusedVariables false
set_option linter.unusedSimpArgs false
attribute [local go_sem] Oper.semAt_some
theorem kinds_sz {s : Sc} {cs : List Sc} (h : kindsS s cs = true) : s.2.2.1 < 4824 := by
  unfold kindsS at h
  simp only [Bool.and_eq_true, decide_eq_true_eq] at h
  omega
theorem low15 : ∀ (a : Fin 256), bits .and .u64 (a.val : Int) 15 = ((a.val % 16 : Nat) : Int) := by decide +kernel
set_option maxRecDepth 100000 in
set_option maxHeartbeats 8000000 in
theorem read_loop (ab : Option Addr) (bn bc : Nat) (z : Nat → Nat) (v0 v1 v2 v3 : Value) (a : Option Addr) (p : Nat) (cs : List Sc) (hok : ∀ s, s ∈ cs → s.ok) (hn : cs.length ≤ 32) (i : Nat) (hi : symI cs = some i) (s : Sc) (hs : cs[i]? = some s) (hk : kindsS s cs = true) (x : Sc) (hx : cs[s.2.2.2.1]? = some x) (hzz : ∀ j, z j < 256) (hp1 : pieceB s bn = true) (hp2 : pieceB x bn = true) (w : World) (hbz : BZ w ab bn bc z) (h : RX w a (cs.flatMap Sc.cs)) : Calls Try.prog 10 #[.slice ab bn bc, .agg #[v0, v1, v2, v3, .slice a cs.length p]] w fun e W' => ∃ L v er, e = .returned (.tuple #[v, .int .i64 er]) ∧ SY w L v W' ∧ ((symsZ (shZ z s.2.1) (shZ z x.2.1) x.2.2.1 (List.range (rowsM s.2.2.1)) = some L ∧ er = 0) ∨ (symsZ (shZ z s.2.1) (shZ z x.2.1) x.2.2.1 (List.range (rowsM s.2.2.1)) = none ∧ L = [] ∧ er = 33)) := by
  obtain ⟨i0, hi0, hz0, hz1, hz2⟩ := info_parts info42f
  have HI0 := Lib.hid (And.intro hi0 (And.intro hz0 (And.intro hz1 hz2)))
  clear hi0 hz0 hz1 hz2
  have HSZ := Lib.hid (kinds_sz hk)
  obtain ⟨b9, o9, rfl, -⟩ := Sc_at h hs
  have hin : i < cs.length := (List.getElem?_eq_some_iff.1 hs).1
  have hln : s.2.2.2.1 < cs.length := (List.getElem?_eq_some_iff.1 hx).1
  have HIX := Lib.hid (fun W (hb : Below w.heap.size w W) => index_func _ p cs (by omega) W (h.keep hb))
  have hv : symV cs = (i : Int) := by unfold symV; rw [hi]
  rw [hv] at HIX
  clear hv hi
  have HX := Lib.hid (fun W (hb : Below w.heap.size w W) => h.keep hb)
  have HKI := Lib.hid (fun W (hb : Below w.heap.size w W) => kinds_any s (hok s (List.mem_of_getElem? hs)) _ p cs (by omega) W (h.keep hb))
  have HK1 := Lib.hid hs
  have HK2 := Lib.hid hx
  have HP1 := Lib.hid (fun W (hb : Below w.heap.size w W) => (piece_any ab bn bc z s (hok s (List.mem_of_getElem? hs)) W (hbz.keep hb)).mono (fun e W' h => h.x))
  have HP2 := Lib.hid (fun W (hb : Below w.heap.size w W) => (piece_any ab bn bc z x (hok x (List.mem_of_getElem? hx)) W (hbz.keep hb)).mono (fun e W' h => h.x))
  rw [hk] at HKI
  clear hk hs hok h hbz  hx
  generalize cs.length = n at *
  have HS := Lib.hid (HW.new w v0 v1 v2 v3 (some ⟨b9, o9, none⟩) n p)
  have d1 : decide ((32 : Int) < (n : Int)) = false := decide_eq_false (by omega)
  have hx1 : ¬ (32 : Int) < (n : Int) := by omega
  have hx2 : ¬ (i : Int) < 0 := by omega
  have hx3 : (i : Int) < (n : Int) := by omega
  have hx4 : ((s.2.2.2.1 : Nat) : Int) < (n : Int) := by omega
  rw [hp1] at HP1
  rw [hp2] at HP2
  clear hp1 hp2
  generalize hpb1 : true = pb1 at HP1
  generalize hpb2 : true = pb2 at HP2
  have HPB := Lib.hid (And.intro hpb1 hpb2)
  clear hpb1 hpb2
  refine (callsIn_wide (n := 5)).1 (callsIn_of_wp_marks Try.func10 rfl trivial ?_ rfl)
  simp only [Try.ntmps10, List.size_toArray, List.length_cons, List.length_nil, Nat.reduceAdd, Nat.reduceSub, Array.replicate_succ, Array.replicate_zero, List.push_toArray, List.append_toArray, List.nil_append, List.cons_append]
  refine (wpIn_wide (n := 5)).2 ?_
  go_wp2_with fail
  go_step3
  generalize World.alloc w _ = W1 at HS ⊢
  have c4 := HS.out.c
  go_wp2_with (first | (go_at_call 19; refine (HIX.out _ HS.out.2).mono ?_) | fail)
  rintro e W2 ⟨rfl, hb⟩
  have HB := Lib.hid (HS.out.keep hb)
  clear hb c4 HIX HS
  go_upto_region 6 with fail
  refine wp_region_noPanic ?_
  refine wp_region_held_drew (S := fun W : World => HW w v0 v1 v2 v3 (some ⟨b9, o9, none⟩) n p W) (by kernel_rfl) ?_ (fun hHeld => ?_)
  · exact HB.out.drew
  generalize World.drew _ = W3 at hHeld ⊢
  clear HB
  refine wpAnyH_take (i := 0) (v := ?_) rfl (by kernel_rfl) (by kernel_rfl) (by kernel_rfl) (fun _ _ _ h => h) (Or.inl ⟨by kernel_rfl, ?_⟩) (by assumption) ?_
  rotate_left
  · intro wv hSw
    go_simp
    try with_reducible rfl
  simp only [Act.put, List.setIfInBounds_toArray, List.set_cons_zero, List.set_cons_succ, List.getElem_toArray, List.getElem_cons_succ, List.getElem_cons_zero]
  refine wpAnyH_take (i := 1) (v := ?_) rfl (by kernel_rfl) (by kernel_rfl) (by kernel_rfl) (fun _ _ _ h => h) (Or.inl ⟨by kernel_rfl, ?_⟩) (by assumption) ?_
  rotate_left
  · intro wv hSw
    have d4 := hSw.c
    go_simp
    try with_reducible rfl
  simp only [Act.put, List.setIfInBounds_toArray, List.set_cons_zero, List.set_cons_succ, List.getElem_toArray, List.getElem_cons_succ, List.getElem_cons_zero]
  refine wpAnyH_take (i := 2) (v := ?_) rfl (by kernel_rfl) (by kernel_rfl) (by kernel_rfl) (fun _ _ _ h => h) (Or.inl ⟨by kernel_rfl, ?_⟩) (by assumption) ?_
  rotate_left
  · intro wv hSw
    go_simp
    try with_reducible rfl
  simp only [Act.put, List.setIfInBounds_toArray, List.set_cons_zero, List.set_cons_succ, List.getElem_toArray, List.getElem_cons_succ, List.getElem_cons_zero]
  refine wpAnyH_take (i := 3) (v := ?_) rfl (by kernel_rfl) (by kernel_rfl) (by kernel_rfl) (fun _ _ _ h => h) (Or.inl ⟨by kernel_rfl, ?_⟩) (by assumption) ?_
  rotate_left
  · intro wv hSw
    go_simp
    try with_reducible rfl
  simp only [Act.put, List.setIfInBounds_toArray, List.set_cons_zero, List.set_cons_succ, List.getElem_toArray, List.getElem_cons_succ, List.getElem_cons_zero]
  refine wpAnyH_take (i := 4) (v := ?_) rfl (by kernel_rfl) (by kernel_rfl) (by kernel_rfl) (fun _ _ _ h => h) (Or.inl ⟨by kernel_rfl, ?_⟩) (by assumption) ?_
  rotate_left
  · intro wv hSw
    obtain ⟨b8, o8, ha9, f0, f1, f2, f3, f4⟩ := Sc_at (HX.out wv hSw.2) HK1.out
    cases ha9
    go_simp
    try with_reducible rfl
  simp only [Act.put, List.setIfInBounds_toArray, List.set_cons_zero, List.set_cons_succ, List.getElem_toArray, List.getElem_cons_succ, List.getElem_cons_zero]
  refine wpAnyH_take (i := 5) (v := ?_) rfl (by kernel_rfl) (by kernel_rfl) (by kernel_rfl) (fun _ _ _ h => h) (Or.inl ⟨by kernel_rfl, ?_⟩) (by assumption) ?_
  rotate_left
  · intro wv hSw
    go_simp
    try with_reducible rfl
  simp only [Act.put, List.setIfInBounds_toArray, List.set_cons_zero, List.set_cons_succ, List.getElem_toArray, List.getElem_cons_succ, List.getElem_cons_zero]
  refine wpAnyH_take (i := 6) (v := ?_) rfl (by kernel_rfl) (by kernel_rfl) (by kernel_rfl) (fun _ _ _ h => h) (Or.inl ⟨by kernel_rfl, ?_⟩) (by assumption) ?_
  rotate_left
  · intro wv hSw
    have d4 := hSw.c
    go_simp
    try with_reducible rfl
  simp only [Act.put, List.setIfInBounds_toArray, List.set_cons_zero, List.set_cons_succ, List.getElem_toArray, List.getElem_cons_succ, List.getElem_cons_zero]
  refine wpAnyH_ready (rs := [7]) (by kernel_rfl) (by simp) ?_
  refine AllReadyH.cons rfl (fun K hK => ?_) AllReadyH.nil
  go_simp
  go_at_call 21
  refine (HKI.out _ hHeld.2).mono ?_
  first | (rintro e W9x rfl hb) | (rintro e W9x ⟨rfl, hb⟩)
  refine hK.out _ _ (hHeld.keep hb) (fun hHeld2 => ?_)
  clear hK K hHeld hb
  have hHeld := hHeld2
  clear hHeld2
  try simp only [Act.put, List.setIfInBounds_toArray, List.set_cons_zero, List.set_cons_succ, List.getElem_toArray, List.getElem_cons_succ, List.getElem_cons_zero]
  refine wpAnyH_take (i := 8) (v := ?_) rfl (by kernel_rfl) (by kernel_rfl) (by kernel_rfl) (fun _ _ _ h => h) (Or.inl ⟨by kernel_rfl, ?_⟩) (by assumption) ?_
  rotate_left
  · intro wv hSw
    go_simp
    try with_reducible rfl
  simp only [Act.put, List.setIfInBounds_toArray, List.set_cons_zero, List.set_cons_succ, List.getElem_toArray, List.getElem_cons_succ, List.getElem_cons_zero]
  refine wpAnyH_done (by kernel_rfl) ?_ _
  refine NoPanic.normal ?_
  have HB := Lib.hid hHeld
  clear hHeld HKI
  go_upto_region 8 with fail
  have c4 := HB.out.c
  obtain ⟨b8, o8, ha9, f0, f1, f2, f3, f4⟩ := Sc_at (HX.out _ HB.out.2) HK1.out
  cases ha9
  go_upto_region 9 with (first | (go_at_call 22; refine (HP1.out _ HB.out.2).mono ?_) | fail)
  rintro e W4 ⟨a1, n1, c1, rfl, hz1, hb⟩
  have HB4 := Lib.hid (And.intro (HB.out.keep hb) (show BC pb1 s z a1 n1 c1 W4 from hz1))
  clear hb hz1 c4 f0 f1 f2 f3 f4 HB
  have HB := HB4
  clear HB4
  go_upto_region 9 with fail
  refine wp_region_noPanic ?_
  refine wp_region_held_drew (S := fun W : World => HW w v0 v1 v2 v3 (some ⟨b9, o9, none⟩) n p W ∧ BC pb1 s z a1 n1 c1 W) (by kernel_rfl) ?_ (fun hHeld => ?_)
  · exact ⟨HB.out.1.drew, HB.out.2.drew⟩
  generalize World.drew _ = W5 at hHeld ⊢
  clear HB
  refine wpAnyH_take (i := 0) (v := ?_) rfl (by kernel_rfl) (by kernel_rfl) (by kernel_rfl) (fun _ _ _ h => h) (Or.inl ⟨by kernel_rfl, ?_⟩) (by assumption) ?_
  rotate_left
  · intro wv hSw
    go_simp
    try with_reducible rfl
  simp only [Act.put, List.setIfInBounds_toArray, List.set_cons_zero, List.set_cons_succ, List.getElem_toArray, List.getElem_cons_succ, List.getElem_cons_zero]
  refine wpAnyH_take (i := 1) (v := ?_) rfl (by kernel_rfl) (by kernel_rfl) (by kernel_rfl) (fun _ _ _ h => h) (Or.inl ⟨by kernel_rfl, ?_⟩) (by assumption) ?_
  rotate_left
  · intro wv hSw
    go_simp
    try with_reducible rfl
  simp only [Act.put, List.setIfInBounds_toArray, List.set_cons_zero, List.set_cons_succ, List.getElem_toArray, List.getElem_cons_succ, List.getElem_cons_zero]
  refine wpAnyH_take (i := 2) (v := ?_) rfl (by kernel_rfl) (by kernel_rfl) (by kernel_rfl) (fun _ _ _ h => h) (Or.inl ⟨by kernel_rfl, ?_⟩) (by assumption) ?_
  rotate_left
  · intro wv hSw
    have d4 := hSw.1.c
    go_simp
    try with_reducible rfl
  simp only [Act.put, List.setIfInBounds_toArray, List.set_cons_zero, List.set_cons_succ, List.getElem_toArray, List.getElem_cons_succ, List.getElem_cons_zero]
  refine wpAnyH_take (i := 3) (v := ?_) rfl (by kernel_rfl) (by kernel_rfl) (by kernel_rfl) (fun _ _ _ h => h) (Or.inl ⟨by kernel_rfl, ?_⟩) (by assumption) ?_
  rotate_left
  · intro wv hSw
    go_simp
    try with_reducible rfl
  simp only [Act.put, List.setIfInBounds_toArray, List.set_cons_zero, List.set_cons_succ, List.getElem_toArray, List.getElem_cons_succ, List.getElem_cons_zero]
  refine wpAnyH_take (i := 4) (v := ?_) rfl (by kernel_rfl) (by kernel_rfl) (by kernel_rfl) (fun _ _ _ h => h) (Or.inl ⟨by kernel_rfl, ?_⟩) (by assumption) ?_
  rotate_left
  · intro wv hSw
    have d4 := hSw.1.c
    go_simp
    try with_reducible rfl
  simp only [Act.put, List.setIfInBounds_toArray, List.set_cons_zero, List.set_cons_succ, List.getElem_toArray, List.getElem_cons_succ, List.getElem_cons_zero]
  refine wpAnyH_take (i := 5) (v := ?_) rfl (by kernel_rfl) (by kernel_rfl) (by kernel_rfl) (fun _ _ _ h => h) (Or.inl ⟨by kernel_rfl, ?_⟩) (by assumption) ?_
  rotate_left
  · intro wv hSw
    go_simp
    try with_reducible rfl
  simp only [Act.put, List.setIfInBounds_toArray, List.set_cons_zero, List.set_cons_succ, List.getElem_toArray, List.getElem_cons_succ, List.getElem_cons_zero]
  refine wpAnyH_take (i := 6) (v := ?_) rfl (by kernel_rfl) (by kernel_rfl) (by kernel_rfl) (fun _ _ _ h => h) (Or.inl ⟨by kernel_rfl, ?_⟩) (by assumption) ?_
  rotate_left
  · intro wv hSw
    go_simp
    try with_reducible rfl
  simp only [Act.put, List.setIfInBounds_toArray, List.set_cons_zero, List.set_cons_succ, List.getElem_toArray, List.getElem_cons_succ, List.getElem_cons_zero]
  refine wpAnyH_take (i := 7) (v := ?_) rfl (by kernel_rfl) (by kernel_rfl) (by kernel_rfl) (fun _ _ _ h => h) (Or.inl ⟨by kernel_rfl, ?_⟩) (by assumption) ?_
  rotate_left
  · intro wv hSw
    go_simp
    try with_reducible rfl
  simp only [Act.put, List.setIfInBounds_toArray, List.set_cons_zero, List.set_cons_succ, List.getElem_toArray, List.getElem_cons_succ, List.getElem_cons_zero]
  refine wpAnyH_take (i := 8) (v := ?_) rfl (by kernel_rfl) (by kernel_rfl) (by kernel_rfl) (fun _ _ _ h => h) (Or.inl ⟨by kernel_rfl, ?_⟩) (by assumption) ?_
  rotate_left
  · intro wv hSw
    obtain ⟨b8, o8, ha9, f0, f1, f2, f3, f4⟩ := Sc_at (HX.out wv hSw.1.2) HK1.out
    cases ha9
    go_simp
    try with_reducible rfl
  simp only [Act.put, List.setIfInBounds_toArray, List.set_cons_zero, List.set_cons_succ, List.getElem_toArray, List.getElem_cons_succ, List.getElem_cons_zero]
  refine wpAnyH_take (i := 9) (v := ?_) rfl (by kernel_rfl) (by kernel_rfl) (by kernel_rfl) (fun _ _ _ h => h) (Or.inl ⟨by kernel_rfl, ?_⟩) (by assumption) ?_
  rotate_left
  · intro wv hSw
    go_simp
    try with_reducible rfl
  simp only [Act.put, List.setIfInBounds_toArray, List.set_cons_zero, List.set_cons_succ, List.getElem_toArray, List.getElem_cons_succ, List.getElem_cons_zero]
  refine wpAnyH_take (i := 10) (v := ?_) rfl (by kernel_rfl) (by kernel_rfl) (by kernel_rfl) (fun _ _ _ h => h) (Or.inl ⟨by kernel_rfl, ?_⟩) (by assumption) ?_
  rotate_left
  · intro wv hSw
    obtain ⟨b8, o8, ha9, f0, f1, f2, f3, f4⟩ := Sc_at (HX.out wv hSw.1.2) HK2.out
    cases ha9
    go_simp
    try with_reducible rfl
  simp only [Act.put, List.setIfInBounds_toArray, List.set_cons_zero, List.set_cons_succ, List.getElem_toArray, List.getElem_cons_succ, List.getElem_cons_zero]
  refine wpAnyH_ready (rs := [11, 15]) (by kernel_rfl) (by simp) ?_
  refine AllReadyH.cons rfl (fun K hK => ?_) (AllReadyH.cons rfl (fun K hK => ?_) AllReadyH.nil)
  · skip
    go_simp
    go_at_call 22
    refine (HP2.out _ hHeld.1.2).mono ?_
    rintro e W9x ⟨a2, n2, c2, rfl, hz2, hb⟩
    refine hK.out _ _ (⟨hHeld.1.keep hb, hHeld.2.keep hb⟩) (fun hHeld2 => ?_)
    clear hK K hHeld hb
    have hHeld := hHeld2
    clear hHeld2
    try simp only [Act.put, List.setIfInBounds_toArray, List.set_cons_zero, List.set_cons_succ, List.getElem_toArray, List.getElem_cons_succ, List.getElem_cons_zero]
    have hz3 : BC pb2 x z a2 n2 c2 W9x := hz2
    clear hz2
    refine wpAnyH_narrow (S' := (fun W : World => HW w v0 v1 v2 v3 (some ⟨b9, o9, none⟩) n p W ∧ BC pb1 s z a1 n1 c1 W ∧ BC pb2 x z a2 n2 c2 W)) (fun _ h => ⟨h.1, h.2.1⟩) _ _ _ _ ?_
    have hNew : (fun W : World => HW w v0 v1 v2 v3 (some ⟨b9, o9, none⟩) n p W ∧ BC pb1 s z a1 n1 c1 W ∧ BC pb2 x z a2 n2 c2 W) _ := ⟨hHeld.1, hHeld.2, hz3⟩
    clear hHeld hz3
    have hHeld := hNew
    clear hNew
    generalize W9x = W6 at hHeld ⊢
    refine wpAnyH_take (i := 12) (v := ?_) rfl (by kernel_rfl) (by kernel_rfl) (by kernel_rfl) (fun _ _ _ h => h) (Or.inl ⟨by kernel_rfl, ?_⟩) (by assumption) ?_
    rotate_left
    · intro wv hSw
      go_simp
      try with_reducible rfl
    simp only [Act.put, List.setIfInBounds_toArray, List.set_cons_zero, List.set_cons_succ, List.getElem_toArray, List.getElem_cons_succ, List.getElem_cons_zero]
    refine wpAnyH_take (i := 13) (v := ?_) rfl (by kernel_rfl) (by kernel_rfl) (by kernel_rfl) (fun _ _ _ h => h) (Or.inl ⟨by kernel_rfl, ?_⟩) (by assumption) ?_
    rotate_left
    · intro wv hSw
      go_simp
      try with_reducible rfl
    simp only [Act.put, List.setIfInBounds_toArray, List.set_cons_zero, List.set_cons_succ, List.getElem_toArray, List.getElem_cons_succ, List.getElem_cons_zero]
    refine wpAnyH_take (i := 14) (v := ?_) rfl (by kernel_rfl) (by kernel_rfl) (by kernel_rfl) (fun _ _ _ h => h) (Or.inl ⟨by kernel_rfl, ?_⟩) (by assumption) ?_
    rotate_left
    · intro wv hSw
      go_simp
      try with_reducible rfl
    simp only [Act.put, List.setIfInBounds_toArray, List.set_cons_zero, List.set_cons_succ, List.getElem_toArray, List.getElem_cons_succ, List.getElem_cons_zero]
    refine wpAnyH_ready (rs := [15]) (by kernel_rfl) (by simp) ?_
    refine AllReadyH.cons rfl (fun K hK => ?_) AllReadyH.nil
    have hLT := hHeld.1.lt
    go_simp
    have hHa : (fun W : World => HW w v0 v1 v2 v3 (some ⟨b9, o9, none⟩) n p W ∧ BC pb1 s z a1 n1 c1 W ∧ BC pb2 x z a2 n2 c2 W) (World.alloc W6 (.cells #[.slice none 0 0] 27)) := ⟨hHeld.1.keep ((Below.refl _ _).alloc (Nat.le_refl _) _), hHeld.2.1.keep ((Below.refl _ _).alloc (Nat.le_refl _) _), hHeld.2.2.keep ((Below.refl _ _).alloc (Nat.le_refl _) _)⟩
    have hBq : Boxed (World.alloc W6 (.cells #[.slice none 0 0] 27)) (World.heap W6).size 27 (.slice none 0 0) := Boxed.new _ _ _
    refine hK.out _ _ hHa (fun hHeld2 => ?_)
    clear hK K hHeld hHeld2
    have hHeld := hHa
    clear hHa
    have hql : Hid (w.heap.size < (World.heap W6).size) := Lib.hid hLT
    clear hLT
    refine wpAnyH_narrow (S' := (fun W : World => HW w v0 v1 v2 v3 (some ⟨b9, o9, none⟩) n p W ∧ BC pb1 s z a1 n1 c1 W ∧ BC pb2 x z a2 n2 c2 W ∧ ∃ p0 q0 r0, Boxed W (World.heap W6).size 27 (.slice p0 q0 r0))) (fun _ h => ⟨h.1, h.2.1, h.2.2.1⟩) _ _ _ _ ?_
    have hNew : (fun W : World => HW w v0 v1 v2 v3 (some ⟨b9, o9, none⟩) n p W ∧ BC pb1 s z a1 n1 c1 W ∧ BC pb2 x z a2 n2 c2 W ∧ ∃ p0 q0 r0, Boxed W (World.heap W6).size 27 (.slice p0 q0 r0)) _ := ⟨hHeld.1, hHeld.2.1, hHeld.2.2, _, _, _, hBq⟩
    clear hHeld hBq
    have hHeld := hNew
    clear hNew
    generalize World.alloc W6 _ = W7 at hHeld ⊢
    generalize (World.heap W6).size = bq at *
    try simp only [Act.put, List.setIfInBounds_toArray, List.set_cons_zero, List.set_cons_succ, List.getElem_toArray, List.getElem_cons_succ, List.getElem_cons_zero]
    refine wpAnyH_ready (rs := [16]) (by kernel_rfl) (by simp) ?_
    refine AllReadyH.cons rfl (fun K hK => ?_) AllReadyH.nil
    obtain ⟨p0, q0, r0, hbx⟩ := hHeld.2.2.2
    have hbc := hbx.cell
    have hbf := hbx.frozen
    have hPut : (fun W : World => HW w v0 v1 v2 v3 (some ⟨b9, o9, none⟩) n p W ∧ BC pb1 s z a1 n1 c1 W ∧ BC pb2 x z a2 n2 c2 W ∧ ∃ p0 q0 r0, Boxed W bq 27 (.slice p0 q0 r0)) (World.setCell _ ⟨bq, 0, none⟩ (.slice a2 n2 c2)) := ⟨hHeld.1.put hql.out _, hHeld.2.1.put hbx _, hHeld.2.2.1.put hbx _, _, _, _, hbx.set _⟩
    have hBS := Lib.hid (hbx.set (.slice a2 n2 c2))
    go_simp
    refine hK.out _ _ hPut (fun hHeld2 => ?_)
    clear hK K hHeld hHeld2 hbx hbc hbf
    have hHeld := hPut
    clear hPut
    try simp only [Act.put, List.setIfInBounds_toArray, List.set_cons_zero, List.set_cons_succ, List.getElem_toArray, List.getElem_cons_succ, List.getElem_cons_zero]
    refine wpAnyH_take (i := 17) (v := ?_) rfl (by kernel_rfl) (by kernel_rfl) (by kernel_rfl) (fun _ _ _ h => h) (Or.inl ⟨by kernel_rfl, ?_⟩) (by assumption) ?_
    rotate_left
    · intro wv hSw
      go_simp
      try with_reducible rfl
    simp only [Act.put, List.setIfInBounds_toArray, List.set_cons_zero, List.set_cons_succ, List.getElem_toArray, List.getElem_cons_succ, List.getElem_cons_zero]
    refine wpAnyH_done (by kernel_rfl) ?_ _
    refine NoPanic.normal ?_
    have HR := Lib.hid (And.intro hHeld.1 (And.intro hHeld.2.1 (And.intro hHeld.2.2.1 (And.intro hBS.out hql.out))))
    clear hHeld hBS hql
    generalize World.setCell _ _ _ = W8 at HR ⊢
    obtain ⟨e1, e2⟩ := HPB.out
    subst e1
    subst e2
    obtain ⟨hn1, hz1⟩ := HR.out.2.1 rfl
    obtain ⟨hn2, hz2⟩ := HR.out.2.2.1 rfl
    have hsz := HSZ.out
    rw [← hn1] at hsz
    have HN := Lib.hid (And.intro hn1 hn2)
    have HF := Lib.hid (And.intro HR.out.1 (And.intro hz1 (And.intro hz2 (And.intro HR.out.2.2.2.1 HR.out.2.2.2.2))))
    clear HR hz1 hz2 hn1 hn2 HPB HP1 HP2 HX HK1 HK2 HSZ
    go_upto_region 13 with fail
    have HF2 : Hid ((HW w v0 v1 v2 v3 (some ⟨b9, o9, none⟩) n p (W8.alloc (.cells #[.slice none 0 0] 36)) ∧ BZ (W8.alloc (.cells #[.slice none 0 0] 36)) a1 n1 c1 (shZ z s.2.1) ∧ BZ (W8.alloc (.cells #[.slice none 0 0] 36)) a2 n2 c2 (shZ z x.2.1) ∧ Boxed (W8.alloc (.cells #[.slice none 0 0] 36)) bq 27 (.slice a2 n2 c2) ∧ Boxed (W8.alloc (.cells #[.slice none 0 0] 36)) (World.heap W8).size 36 (.slice none 0 0)) ∧ w.heap.size < bq ∧ bq < (World.heap W8).size) := Lib.hid (by
      have hb := (Below.refl W8.heap.size W8).alloc (Nat.le_refl _) (.cells #[.slice none 0 0] 36)
      exact ⟨⟨HF.out.1.keep hb, HF.out.2.1.keep hb, HF.out.2.2.1.keep hb, Boxed.keep' HF.out.2.2.2.1 hb, Boxed.new _ _ _⟩, HF.out.2.2.2.2, HF.out.2.2.2.1.lt⟩)
    generalize World.alloc W8 _ = W9 at HF2 ⊢
    generalize (World.heap W8).size = bl at HF2 ⊢
    clear HF
    go_wp2_with fail
    have HF3 : Hid ((HW w v0 v1 v2 v3 (some ⟨b9, o9, none⟩) n p (W9.alloc (.cells #[.int .i64 0] 37)) ∧ BZ (W9.alloc (.cells #[.int .i64 0] 37)) a1 n1 c1 (shZ z s.2.1) ∧ BZ (W9.alloc (.cells #[.int .i64 0] 37)) a2 n2 c2 (shZ z x.2.1) ∧ Boxed (W9.alloc (.cells #[.int .i64 0] 37)) bq 27 (.slice a2 n2 c2) ∧ Boxed (W9.alloc (.cells #[.int .i64 0] 37)) bl 36 (.slice none 0 0) ∧ Boxed (W9.alloc (.cells #[.int .i64 0] 37)) (World.heap W9).size 37 (.int .i64 0)) ∧ w.heap.size < bq ∧ bq < bl ∧ bl < (World.heap W9).size) := Lib.hid (by
      have hb := (Below.refl W9.heap.size W9).alloc (Nat.le_refl _) (.cells #[.int .i64 0] 37)
      exact ⟨⟨HF2.out.1.1.keep hb, HF2.out.1.2.1.keep hb, HF2.out.1.2.2.1.keep hb, Boxed.keep' HF2.out.1.2.2.2.1 hb, Boxed.keep' HF2.out.1.2.2.2.2 hb, Boxed.new _ _ _⟩, HF2.out.2.1, HF2.out.2.2, HF2.out.1.2.2.2.2.lt⟩)
    generalize World.alloc W9 _ = W10 at HF3 ⊢
    generalize (World.heap W9).size = be at HF3 ⊢
    clear HF2
    go_step3
    go_wp2_with (first | (go_at_call 23; refine (rows_any a1 n1 c1 _).mono ?_) | fail)
    rintro e W0 ⟨rfl, hT, hb⟩
    have HF0 : Hid (HW w v0 v1 v2 v3 (some ⟨b9, o9, none⟩) n p W0 ∧ BZ W0 a1 n1 c1 (shZ z s.2.1) ∧ BZ W0 a2 n2 c2 (shZ z x.2.1) ∧ Boxed W0 bq 27 (.slice a2 n2 c2) ∧ Boxed W0 bl 36 (.slice none 0 0) ∧ Boxed W0 be 37 (.int .i64 0)) := Lib.hid ⟨HF3.out.1.1.keep hb, HF3.out.1.2.1.keep hb, HF3.out.1.2.2.1.keep hb, Boxed.keep' HF3.out.1.2.2.2.1 hb, Boxed.keep' HF3.out.1.2.2.2.2.1 hb, Boxed.keep' HF3.out.1.2.2.2.2.2 hb⟩
    have HO : Hid (w.heap.size < bq ∧ bq < bl ∧ bl < be ∧ be < (World.heap W10).size) := Lib.hid ⟨HF3.out.2.1, HF3.out.2.2.1, HF3.out.2.2.2, HF3.out.1.2.2.2.2.2.lt⟩
    generalize (World.heap W10).size = B at HO hT ⊢
    clear hb HF3
    have HT := Lib.hid hT
    clear hT
    go_wp2_with fail
    have hBl : B < W0.heap.size := (Array.getElem?_eq_some_iff.1 HT.out).1
    have hbl : w.heap.size ≤ bl := by have := HO.out; omega
    have hbl0 : bl < W0.heap.size := by have := HO.out; omega
    have hne : bl ≠ be := by have := HO.out; omega
    have hbe0 : be < W0.heap.size := by have := HO.out; omega
    have hlw : w.heap.size ≤ W0.heap.size := by omega
    have HG : Hid (∀ q, (gN a1 n1 = some q ∨ q = B) → q < W0.heap.size ∧ q ≠ bl ∧ q ≠ be) := Lib.hid (by
      intro q hq
      rcases hq with hq | rfl
      · unfold gN at hq
        split at hq
        · cases hq
        · obtain ⟨tb, tq, rfl, htc⟩ := HF0.out.2.1.bs (by unfold rowsM at *; omega)
          simp [blk] at hq
          subst hq
          have h1 := htc 0 (by unfold rowsM at *; omega)
          refine ⟨cell_lt' h1, fun e => ?_, fun e => ?_⟩
          · subst e
            unfold World.cell? at h1
            rw [show W0.heap[tb]? = some (.cells #[.slice none 0 0] 36 (0, 0)) from HF0.out.2.2.2.2.1] at h1
            cases ho : tq + 0 with
            | zero => simp [ho] at h1
            | succ i => simp [ho] at h1
          · subst e
            unfold World.cell? at h1
            rw [show W0.heap[tb]? = some (.cells #[.int .i64 0] 37 (0, 0)) from HF0.out.2.2.2.2.2] at h1
            cases ho : tq + 0 with
            | zero => simp [ho] at h1
            | succ i => simp [ho] at h1
      · have := HO.out
        omega)
    have HI1 : Hid (LX w W0 bl be 0 (.slice none 0 0) [] 0 W0) := Lib.hid ⟨HF0.out.2.2.2.2.1, World.ownsRow_nil _ _ _ _, HF0.out.2.2.2.2.2, HF0.out.1.2, Nat.le_refl _, fun _ _ _ _ => rfl⟩
    refine (wpIn_wide (n := 5)).1 ?_
    refine wpIn_rangeFunc_ownH (F := Fence.wide) rfl (by decide) (gf := 34) (lb := #[.pointer (some ⟨B, 0, none⟩)]) rfl trivial (enters_of Try.func34 (by kernel_rfl) rfl)
      (seq_rows a1 n1 c1 B (shZ z s.2.1) (by omega) W0 HT.out HF0.out.2.1 4 (by decide)) kpN_t (fun W l o o' h1 h2 h3 h4 => kpN_b (fun k hk => (HG.out k hk).1) W l o o' h1 h2 h3 h4) (Below.refl _ _) (fun _ => rfl)
      (fun pre W => ∃ L v, symR (shZ z s.2.1) (shZ z x.2.1) n2 (rowsM n1) pre = some L ∧ LX w W0 bl be L.length v (cellsY L) 0 W) (fun c pre W => c = .exit 0 ∧ symR (shZ z s.2.1) (shZ z x.2.1) n2 (rowsM n1) pre = none ∧ LX w W0 bl be 0 (.slice none 0 0) [] 33 W) (fun _ A B row hs hg hr => by
        obtain ⟨L, v, h1, h2⟩ := hs
        exact ⟨L, v, h1, LX.own hlw () A B row h2 hg hr⟩) (fun _ _ A B row hs hg hr => by
        obtain ⟨h0, h1, h2⟩ := hs
        exact ⟨h0, h1, LX.own hlw () A B row h2 hg hr⟩) ⟨[], _, rfl, HI1.out⟩
      (fun k a' (_ : World) => a' = { tmps := #[.slice ab bn bc, .agg #[v0, v1, v2, v3, .slice (some ⟨b9, o9, none⟩) n p], undef, .pointer (some ⟨w.heap.size, 0, none⟩), .slice none 0 0, .int .i64 0, .int .i64 (i : Int), .slice a1 n1 c1, .bool true, .pointer (some ⟨bq, 0, none⟩), .bool true, .pointer (some ⟨bl, 0, none⟩), .pointer (some ⟨be, 0, none⟩), rowV a1 c1 (clN (rowsM n1) k), undef, undef, undef, .pointer (some ⟨w.heap.size, 4, none⟩), .slice (some ⟨b9, o9, none⟩) n p, .int .i64 (n : Int), .bool false, .pointer (some ⟨w.heap.size, 4, none⟩), .slice (some ⟨b9, o9, none⟩) n p, .int .i64 (i : Int), .int .i64 (i : Int), .bool (decide ((i : Int) < 0)), .pointer (some ⟨w.heap.size, 4, none⟩), .slice (some ⟨b9, o9, none⟩) n p, .int .i64 (i : Int), .pointer (some ⟨b9, o9 + i * 5, none⟩), .agg #[.int .u32 (s.1 : Nat), .int .u64 (s.2.1 : Nat), .int .u64 (s.2.2.1 : Nat), .int .u32 (s.2.2.2.1 : Nat), .int .u64 (s.2.2.2.2 : Nat)], .pointer (some ⟨w.heap.size, 4, none⟩), .slice (some ⟨b9, o9, none⟩) n p, .bool true, .bool false, .tuple #[.slice a1 n1 c1, .bool true], .slice ab bn bc, .pointer (some ⟨w.heap.size, 4, none⟩), .slice (some ⟨b9, o9, none⟩) n p, .int .i64 (i : Int), .pointer (some ⟨b9, o9 + i * 5, none⟩), .agg #[.int .u32 (s.1 : Nat), .int .u64 (s.2.1 : Nat), .int .u64 (s.2.2.1 : Nat), .int .u32 (s.2.2.2.1 : Nat), .int .u64 (s.2.2.2.2 : Nat)], .tuple #[.slice a1 n1 c1, .bool true], .slice a1 n1 c1, .bool true, .tuple #[.slice a2 n2 c2, .bool true], .slice ab bn bc, .pointer (some ⟨w.heap.size, 4, none⟩), .slice (some ⟨b9, o9, none⟩) n p, .pointer (some ⟨w.heap.size, 4, none⟩), .slice (some ⟨b9, o9, none⟩) n p, .int .i64 (i : Int), .pointer (some ⟨b9, o9 + i * 5, none⟩), .pointer (some ⟨b9, o9 + i * 5 + 3, none⟩), .int .u32 (s.2.2.2.1 : Nat), .pointer (some ⟨b9, o9 + s.2.2.2.1 * 5, none⟩), .agg #[.int .u32 (x.1 : Nat), .int .u64 (x.2.1 : Nat), .int .u64 (x.2.2.1 : Nat), .int .u32 (x.2.2.2.1 : Nat), .int .u64 (x.2.2.2.2 : Nat)], .tuple #[.slice a2 n2 c2, .bool true], .slice a2 n2 c2, .bool true, .bool true, .bool false, .bool false, .bool true, .bool false, .bool false, .slice a1 n1 c1, .func (.func 34) #[] #[.pointer (some ⟨B, 0, none⟩)], rowV a1 c1 (clN (rowsM n1) k), undef, undef, undef, undef, undef, undef, undef, undef, undef, undef, undef, undef, undef, undef, undef, undef, undef, undef, undef, undef, undef, undef, undef, undef, undef, undef, undef, undef, undef, undef, undef], defers := [] }) (fun _ _ _ _ _ _ hs _ _ => hs) ?assign ?body ?done ?stop
    case assign =>
      rintro l pre k W K hI hK
      gi_wp2_with fail
      exact hK _ _ (below_keeps (Below.refl _ _) _) (kpN_below (Below.refl _ _)) hI rfl
    case body =>
      rintro l pre k0 a' W hl ⟨r, hr⟩ ⟨L, v, hL, hLX⟩ rfl hlt
      have hlen := symR_len hL
      have hLl : L.length < 1000 := by unfold rowsM at hlt; omega
      clear hlen
      have HL := Lib.hid hL
      have HLX := Lib.hid hLX
      have hN : 0 < rowsM n1 := by omega
      have hkN : clN (rowsM n1) k0 < rowsM n1 := clN_in hN
      obtain ⟨k, hk⟩ : ∃ k, clN (rowsM n1) k0 = k := ⟨_, rfl⟩
      have HKK := Lib.hid hk
      rw [hk] at hkN ⊢
      clear hk hL hr
      have hn1 : 24 * (k + 1) + 24 ≤ n1 := by unfold rowsM at hkN; omega
      obtain ⟨tb, tq, rfl, htc⟩ := HF0.out.2.1.bs (by omega)
      have hnc := HF0.out.2.1.2
      have hcr : 24 ≤ c1 - 24 * (k + 1) ∧ c1 - 24 * (k + 1) ≤ 9223372036854775807 := by omega
      have hrow : rowV (some ⟨tb, tq, none⟩) c1 k = .slice (some ⟨tb, tq + 24 * (k + 1), none⟩) 24 (c1 - 24 * (k + 1)) := rfl
      rw [hrow]
      have HTC : Hid (∀ W', Keep2 W0 bl be W' → ∀ j, j < 24 → W'.cell? ⟨tb, tq + 24 * (k + 1) + j, none⟩ = some (.int .u8 (shZ (shZ z s.2.1) (24 * (k + 1)) j : Nat))) := Lib.hid (fun W' hk j hj => by
        have hz := (HF0.out.2.1.keep2 HF0.out.2.2.2.2.1 HF0.out.2.2.2.2.2 hk).bs (by omega)
        obtain ⟨b2, o2, he, hc⟩ := hz
        cases he
        have := hc (24 * (k + 1) + j) (by omega)
        rwa [← Nat.add_assoc] at this)
      clear htc hrow
      generalize c1 - 24 * (k + 1) = cr at *
      generalize tq + 24 * (k + 1) = ro at *
      have hC24 := CallsIn.inRound l (callsIn_wide (n := 5 - 1 - 1 - 1).2 (show Calls Try.prog 24 #[.slice (some ⟨tb, ro, none⟩) 24 cr] W fun e W' => e = .returned (.func (.func 35) #[] #[.pointer (some ⟨W.heap.size, 0, none⟩)]) ∧ TakeIs W' W.heap.size (.slice (some ⟨tb, ro, none⟩) 24 cr) ∧ Below W.heap.size W W' from number24_any (some ⟨tb, ro, none⟩) 24 cr W))
      gi_wp2_with fail
      refine ⟨trivial, hC24.mono ?_⟩
      clear hC24
      rintro e W2 ⟨rfl, hT, hb⟩
      gi_wp2_with fail
      obtain ⟨Wd, hWd⟩ : ∃ Wd, World.drew W2 = Wd := ⟨_, rfl⟩
      obtain ⟨g, hg⟩ : ∃ g, (World.heap W).size = g := ⟨_, rfl⟩
      have HK : Hid (KeepsFrom W0.heap.size W Wd) := Lib.hid (by
        rw [← hWd]
        exact below_keeps hb.drew _)
      have HD : Hid (LX w W0 bl be L.length v (cellsY L) 0 Wd ∧ TakeIs Wd g (.slice (some ⟨tb, ro, none⟩) 24 cr) ∧ Boxed Wd bq 27 (.slice a2 n2 c2)) := Lib.hid (by
        rw [← hWd, ← hg]
        have h1 := HLX.out.keep hb.drew
        refine ⟨h1, hT, (h1.k2 bq ?_ ?_ ?_).trans HF0.out.2.2.2.1⟩ <;> (have := HO.out; omega))
      rw [hg] at hT ⊢
      clear hT hb hg
      obtain ⟨We, hWe⟩ : ∃ We, World.drew Wd = We := ⟨_, rfl⟩
      have HE : Hid (LX w W0 bl be L.length v (cellsY L) 0 We ∧ TakeIs We g (.slice (some ⟨tb, ro, none⟩) 24 cr)) := Lib.hid (by rw [← hWe]; exact ⟨HD.out.1.drew, HD.out.2.1⟩)
      have HKE : Hid (KeepsFrom W0.heap.size W We) := Lib.hid (HK.out.trans (by rw [← hWe]; exact below_keeps (Below.refl _ Wd).drew _))
      have HTK : ∀ W1, TakeIs W1 g (.slice (some ⟨tb, ro, none⟩) 24 cr) → Keep2 W0 bl be W1 → ∀ o s', o + s' ≤ 24 → 1 ≤ s' → s' ≤ 8 → Calls Try.prog 35 #[.int .i64 (o : Nat), .int .i64 (s' : Nat), .pointer (some ⟨g, 0, none⟩)] W1 fun e W' => e = .returned (.int .u64 (numZ (shZ z s.2.1) (24 * (k + 1) + o) s' : Nat)) ∧ W' = W1 := fun W1 hT1 hK1 o s' h1 h2 h3 => by
        have := take_any g tb ro 24 cr (shZ (shZ z s.2.1) (24 * (k + 1))) (fun j => hzz _) o s' h1 h2 h3 hcr.1 hcr.2 W1 hT1 (HTC.out W1 hK1)
        rwa [numZ_sh] at this
      have b0 := numZ_lt (shZ z s.2.1) (fun j => hzz _) (24 * (k + 1)) 4
      have b4 := numZ_lt (shZ z s.2.1) (fun j => hzz _) (24 * (k + 1) + 4) 1
      have b6 := numZ_lt (shZ z s.2.1) (fun j => hzz _) (24 * (k + 1) + 6) 2
      have hsy : symZ (shZ z s.2.1) (shZ z x.2.1) n2 k = (nameZ (shZ z x.2.1) n2 (numZ (shZ z s.2.1) (24 * (k + 1)) 4)).map fun nm => (nm, numZ (shZ z s.2.1) (24 * (k + 1) + 8) 8, numZ (shZ z s.2.1) (24 * (k + 1) + 16) 8, (numZ (shZ z s.2.1) (24 * (k + 1) + 4) 1 % 16 == 2) && !(numZ (shZ z s.2.1) (24 * (k + 1) + 6) 2 == 0)) := rfl
      have T04 := HTK Wd HD.out.2.1 HD.out.1.k2 0 4 (by decide) (by decide) (by decide)
      have T41 := HTK We HE.out.2 HE.out.1.k2 4 1 (by decide) (by decide) (by decide)
      have T62 := HTK We HE.out.2 HE.out.1.k2 6 2 (by decide) (by decide) (by decide)
      have T88 := HTK We HE.out.2 HE.out.1.k2 8 8 (by decide) (by decide) (by decide)
      have T168 := HTK We HE.out.2 HE.out.1.k2 16 8 (by decide) (by decide) (by decide)
      rw [Nat.add_zero] at T04
      clear HTK
      have hNM := named_any a2 n2 c2 (shZ z x.2.1) (fun j => hzz _) (numZ (shZ z s.2.1) (24 * (k + 1)) 4) (by omega) Wd (HF0.out.2.2.1.keep2 HF0.out.2.2.2.2.1 HF0.out.2.2.2.2.2 HD.out.1.k2)
      generalize numZ (shZ z s.2.1) (24 * (k + 1)) 4 = m0 at *
      generalize numZ (shZ z s.2.1) (24 * (k + 1) + 4) 1 = m4 at *
      generalize numZ (shZ z s.2.1) (24 * (k + 1) + 6) 2 = m6 at *
      generalize numZ (shZ z s.2.1) (24 * (k + 1) + 8) 8 = m8 at *
      generalize numZ (shZ z s.2.1) (24 * (k + 1) + 16) 8 = m16 at *
      rcases hnm : nameZ (shZ z x.2.1) n2 m0 with _ | nm
      · have HSY : Hid (symZ (shZ z s.2.1) (shZ z x.2.1) n2 k = none) := Lib.hid (by rw [hsy, hnm]; rfl)
        have HNM : Hid (Calls Try.prog 25 #[.slice a2 n2 c2, .int .u64 (m0 : Nat)] Wd fun e W' => e = .returned (.tuple #[.string ⟨#[]⟩, .bool false]) ∧ W' = Wd) := Lib.hid (hNM.mono (fun e W' h => ⟨by have h2 := NamedOf.name (sz := shZ z x.2.1) (fun j => hzz _) h.1; rw [hnm] at h2; exact h2, h.2⟩))
        have HT04 := Lib.hid T04
        clear hNM hnm hsy T04 T41 T62 T88 T168 b0 b4 b6
        refine wpIn_region_round (S := fun W' : World => W' = Wd) (by kernel_rfl) (by kernel_rfl) hWd (fun hHeld => ?_)
        rw [hWd] at hHeld ⊢
        clear hHeld
        have hHeld : (fun W' : World => W' = Wd) Wd := rfl
        refine wpAnyH_take (i := 0) (v := ?_) rfl (by kernel_rfl) (by kernel_rfl) (by kernel_rfl) (fun _ _ _ h => h) (Or.inl ⟨by kernel_rfl, ?_⟩) (by assumption) ?_
        rotate_left
        · intro wv hSw
          have hSe : wv = Wd := hSw
          subst hSe
          have cq := HD.out.2.2.cell
          go_simp
          try with_reducible rfl
        simp only [Act.put, List.setIfInBounds_toArray, List.set_cons_zero, List.set_cons_succ, List.getElem_toArray, List.getElem_cons_succ, List.getElem_cons_zero]
        refine wpAnyH_take (i := 1) (v := ?_) rfl (by kernel_rfl) (by kernel_rfl) (by kernel_rfl) (fun _ _ _ h => h) (Or.inl ⟨by kernel_rfl, ?_⟩) (by assumption) ?_
        rotate_left
        · intro wv hSw
          go_simp
          try with_reducible rfl
        simp only [Act.put, List.setIfInBounds_toArray, List.set_cons_zero, List.set_cons_succ, List.getElem_toArray, List.getElem_cons_succ, List.getElem_cons_zero]
        refine wpAnyH_ready (rs := [2]) (by kernel_rfl) (by simp) ?_
        refine AllReadyH.cons rfl (fun K hK => ?_) AllReadyH.nil
        go_simp
        go_at_call 35
        refine HT04.out.mono ?_
        rintro e W9x ⟨rfl, hw9⟩
        rw [hw9]
        clear hw9
        refine hK.out _ _ rfl (fun hHeld2 => ?_)
        clear hK K hHeld hHeld2
        have hHeld : (fun W' : World => W' = Wd) Wd := rfl
        try simp only [Act.put, List.setIfInBounds_toArray, List.set_cons_zero, List.set_cons_succ, List.getElem_toArray, List.getElem_cons_succ, List.getElem_cons_zero]
        refine wpAnyH_ready (rs := [3]) (by kernel_rfl) (by simp) ?_
        refine AllReadyH.cons rfl (fun K hK => ?_) AllReadyH.nil
        go_simp
        go_at_call 25
        refine HNM.out.mono ?_
        rintro e W9x ⟨rfl, hw9⟩
        rw [hw9]
        clear hw9
        refine hK.out _ _ rfl (fun hHeld2 => ?_)
        clear hK K hHeld hHeld2
        have hHeld : (fun W' : World => W' = Wd) Wd := rfl
        try simp only [Act.put, List.setIfInBounds_toArray, List.set_cons_zero, List.set_cons_succ, List.getElem_toArray, List.getElem_cons_succ, List.getElem_cons_zero]
        refine wpAnyH_take (i := 4) (v := ?_) rfl (by kernel_rfl) (by kernel_rfl) (by kernel_rfl) (fun _ _ _ h => h) (Or.inl ⟨by kernel_rfl, ?_⟩) (by assumption) ?_
        rotate_left
        · intro wv hSw
          go_simp
          try with_reducible rfl
        simp only [Act.put, List.setIfInBounds_toArray, List.set_cons_zero, List.set_cons_succ, List.getElem_toArray, List.getElem_cons_succ, List.getElem_cons_zero]
        refine wpAnyH_take (i := 5) (v := ?_) rfl (by kernel_rfl) (by kernel_rfl) (by kernel_rfl) (fun _ _ _ h => h) (Or.inl ⟨by kernel_rfl, ?_⟩) (by assumption) ?_
        rotate_left
        · intro wv hSw
          go_simp
          try with_reducible rfl
        simp only [Act.put, List.setIfInBounds_toArray, List.set_cons_zero, List.set_cons_succ, List.getElem_toArray, List.getElem_cons_succ, List.getElem_cons_zero]
        refine wpAnyH_take (i := 6) (v := ?_) rfl (by kernel_rfl) (by kernel_rfl) (by kernel_rfl) (fun _ _ _ h => h) (Or.inl ⟨by kernel_rfl, ?_⟩) (by assumption) ?_
        rotate_left
        · intro wv hSw
          go_simp
          try with_reducible rfl
        simp only [Act.put, List.setIfInBounds_toArray, List.set_cons_zero, List.set_cons_succ, List.getElem_toArray, List.getElem_cons_succ, List.getElem_cons_zero]
        refine wpAnyH_take (i := 7) (v := ?_) rfl (by kernel_rfl) (by kernel_rfl) (by kernel_rfl) (fun _ _ _ h => h) (Or.inl ⟨by kernel_rfl, ?_⟩) (by assumption) ?_
        rotate_left
        · intro wv hSw
          go_simp
          try with_reducible rfl
        simp only [Act.put, List.setIfInBounds_toArray, List.set_cons_zero, List.set_cons_succ, List.getElem_toArray, List.getElem_cons_succ, List.getElem_cons_zero]
        refine wpAnyH_take (i := 8) (v := ?_) rfl (by kernel_rfl) (by kernel_rfl) (by kernel_rfl) (fun _ _ _ h => h) (Or.inl ⟨by kernel_rfl, ?_⟩) (by assumption) ?_
        rotate_left
        · intro wv hSw
          go_simp
          try with_reducible rfl
        simp only [Act.put, List.setIfInBounds_toArray, List.set_cons_zero, List.set_cons_succ, List.getElem_toArray, List.getElem_cons_succ, List.getElem_cons_zero]
        refine wpAnyH_done (by kernel_rfl) ?_ _
        refine OnlyN.mk ?_
        clear hHeld
        obtain ⟨hZ1, hZ2, hZ3⟩ := HD.out.1.fail hbl hbl0 hne hbe0 (by have := HO.out; omega)
        have hb1 := HD.out.1.box.cell
        have hf1 := HD.out.1.box.frozen
        have hb2 := hZ3.cell
        have hf2 := hZ3.frozen
        have HZ := Lib.hid (And.intro hZ1 hZ2)
        clear hZ1 hZ2 hZ3
        gi_wp2_with fail
        refine ⟨HK.out.trans (HZ.out.2.from _), rfl, ?_, HZ.out.1⟩
        rw [symR_snoc, HL.out, HKK.out, HSY.out]
        rfl
      · have HSY : Hid (symZ (shZ z s.2.1) (shZ z x.2.1) n2 k = some (nm, m8, m16, (m4 % 16 == 2) && !(m6 == 0))) := Lib.hid (by rw [hsy, hnm]; rfl)
        have HNM : Hid (Calls Try.prog 25 #[.slice a2 n2 c2, .int .u64 (m0 : Nat)] Wd fun e W' => e = .returned (.tuple #[.string nm, .bool true]) ∧ W' = Wd) := Lib.hid (hNM.mono (fun e W' h => ⟨by have h2 := NamedOf.name (sz := shZ z x.2.1) (fun j => hzz _) h.1; rw [hnm] at h2; exact h2, h.2⟩))
        have HT04 := Lib.hid T04
        clear hNM hnm hsy T04
        have hT41 := Lib.hid T41
        have hT62 := Lib.hid T62
        have hT88 := Lib.hid T88
        have hT168 := Lib.hid T168
        clear T41 T62 T88 T168
        refine wpIn_region_round (S := fun W' : World => W' = Wd) (by kernel_rfl) (by kernel_rfl) hWd (fun hHeld => ?_)
        rw [hWd] at hHeld ⊢
        clear hHeld
        have hHeld : (fun W' : World => W' = Wd) Wd := rfl
        refine wpAnyH_take (i := 0) (v := ?_) rfl (by kernel_rfl) (by kernel_rfl) (by kernel_rfl) (fun _ _ _ h => h) (Or.inl ⟨by kernel_rfl, ?_⟩) (by assumption) ?_
        rotate_left
        · intro wv hSw
          have hSe : wv = Wd := hSw
          subst hSe
          have cq := HD.out.2.2.cell
          go_simp
          try with_reducible rfl
        simp only [Act.put, List.setIfInBounds_toArray, List.set_cons_zero, List.set_cons_succ, List.getElem_toArray, List.getElem_cons_succ, List.getElem_cons_zero]
        refine wpAnyH_take (i := 1) (v := ?_) rfl (by kernel_rfl) (by kernel_rfl) (by kernel_rfl) (fun _ _ _ h => h) (Or.inl ⟨by kernel_rfl, ?_⟩) (by assumption) ?_
        rotate_left
        · intro wv hSw
          go_simp
          try with_reducible rfl
        simp only [Act.put, List.setIfInBounds_toArray, List.set_cons_zero, List.set_cons_succ, List.getElem_toArray, List.getElem_cons_succ, List.getElem_cons_zero]
        refine wpAnyH_ready (rs := [2]) (by kernel_rfl) (by simp) ?_
        refine AllReadyH.cons rfl (fun K hK => ?_) AllReadyH.nil
        go_simp
        go_at_call 35
        refine HT04.out.mono ?_
        rintro e W9x ⟨rfl, hw9⟩
        rw [hw9]
        clear hw9
        refine hK.out _ _ rfl (fun hHeld2 => ?_)
        clear hK K hHeld hHeld2
        have hHeld : (fun W' : World => W' = Wd) Wd := rfl
        try simp only [Act.put, List.setIfInBounds_toArray, List.set_cons_zero, List.set_cons_succ, List.getElem_toArray, List.getElem_cons_succ, List.getElem_cons_zero]
        refine wpAnyH_ready (rs := [3]) (by kernel_rfl) (by simp) ?_
        refine AllReadyH.cons rfl (fun K hK => ?_) AllReadyH.nil
        go_simp
        go_at_call 25
        refine HNM.out.mono ?_
        rintro e W9x ⟨rfl, hw9⟩
        rw [hw9]
        clear hw9
        refine hK.out _ _ rfl (fun hHeld2 => ?_)
        clear hK K hHeld hHeld2
        have hHeld : (fun W' : World => W' = Wd) Wd := rfl
        try simp only [Act.put, List.setIfInBounds_toArray, List.set_cons_zero, List.set_cons_succ, List.getElem_toArray, List.getElem_cons_succ, List.getElem_cons_zero]
        refine wpAnyH_take (i := 4) (v := ?_) rfl (by kernel_rfl) (by kernel_rfl) (by kernel_rfl) (fun _ _ _ h => h) (Or.inl ⟨by kernel_rfl, ?_⟩) (by assumption) ?_
        rotate_left
        · intro wv hSw
          go_simp
          try with_reducible rfl
        simp only [Act.put, List.setIfInBounds_toArray, List.set_cons_zero, List.set_cons_succ, List.getElem_toArray, List.getElem_cons_succ, List.getElem_cons_zero]
        refine wpAnyH_take (i := 5) (v := ?_) rfl (by kernel_rfl) (by kernel_rfl) (by kernel_rfl) (fun _ _ _ h => h) (Or.inl ⟨by kernel_rfl, ?_⟩) (by assumption) ?_
        rotate_left
        · intro wv hSw
          go_simp
          try with_reducible rfl
        simp only [Act.put, List.setIfInBounds_toArray, List.set_cons_zero, List.set_cons_succ, List.getElem_toArray, List.getElem_cons_succ, List.getElem_cons_zero]
        refine wpAnyH_take (i := 6) (v := ?_) rfl (by kernel_rfl) (by kernel_rfl) (by kernel_rfl) (fun _ _ _ h => h) (Or.inl ⟨by kernel_rfl, ?_⟩) (by assumption) ?_
        rotate_left
        · intro wv hSw
          go_simp
          try with_reducible rfl
        simp only [Act.put, List.setIfInBounds_toArray, List.set_cons_zero, List.set_cons_succ, List.getElem_toArray, List.getElem_cons_succ, List.getElem_cons_zero]
        refine wpAnyH_take (i := 7) (v := ?_) rfl (by kernel_rfl) (by kernel_rfl) (by kernel_rfl) (fun _ _ _ h => h) (Or.inl ⟨by kernel_rfl, ?_⟩) (by assumption) ?_
        rotate_left
        · intro wv hSw
          go_simp
          try with_reducible rfl
        simp only [Act.put, List.setIfInBounds_toArray, List.set_cons_zero, List.set_cons_succ, List.getElem_toArray, List.getElem_cons_succ, List.getElem_cons_zero]
        refine wpAnyH_take (i := 8) (v := ?_) rfl (by kernel_rfl) (by kernel_rfl) (by kernel_rfl) (fun _ _ _ h => h) (Or.inl ⟨by kernel_rfl, ?_⟩) (by assumption) ?_
        rotate_left
        · intro wv hSw
          go_simp
          try with_reducible rfl
        simp only [Act.put, List.setIfInBounds_toArray, List.set_cons_zero, List.set_cons_succ, List.getElem_toArray, List.getElem_cons_succ, List.getElem_cons_zero]
        refine wpAnyH_done (by kernel_rfl) ?_ _
        refine OnlyN.mk ?_
        clear hHeld
        gi_wp2_with fail
        clear HD HK hWd HNM HT04 HTC
        have e15 : bits BinOp.and IntKind.u64 (m4 : Int) 15 = ((m4 % 16 : Nat) : Int) := low15 ⟨m4, by simpa using b4⟩
        by_cases hf1 : m4 % 16 = 2
        · rw [hf1] at e15
          replace e15 : bits BinOp.and IntKind.u64 (m4 : Int) 15 = 2 := e15
          by_cases hf2 : m6 = 0
          · subst hf2
            have hf2 : (0 : Nat) = 0 := rfl
            have cl : We.cell? ⟨bl, 0, none⟩ = some v := HE.out.1.box.cell
            refine wpIn_region_roundZ 18 (S := fun W' : World => W'.cell? ⟨bl, 0, none⟩ = some v) (by kernel_rfl) (by kernel_rfl) (by rw [hWe]; exact cl) (fun hHeld => ?_)
            clear hHeld
            rw [hWe]
            have hHeld : (fun W' : World => W'.cell? ⟨bl, 0, none⟩ = some v) We := cl
            clear cl
            refine wpAnyZ_take (i := 0) (v := ?_) rfl (by kernel_rfl) (by kernel_rfl) (by kernel_rfl) (by kernel_rfl) (fun _ _ _ h => h) (Or.inl ⟨by kernel_rfl, ?_⟩) hHeld ?_
            rotate_left
            · intro wv hSw
              have cq : World.cell? wv ⟨bl, 0, none⟩ = some v := hSw
              go_simp
              try with_reducible rfl
            simp only [Act.put, List.setIfInBounds_toArray, List.set_cons_zero, List.set_cons_succ, List.getElem_toArray, List.getElem_cons_succ, List.getElem_cons_zero]
            refine wpAnyZ_take (i := 1) (v := ?_) rfl (by kernel_rfl) (by kernel_rfl) (by kernel_rfl) (by kernel_rfl) (fun _ _ _ h => h) (Or.inl ⟨by kernel_rfl, ?_⟩) hHeld ?_
            rotate_left
            · intro wv hSw
              go_simp
              try with_reducible rfl
            simp only [Act.put, List.setIfInBounds_toArray, List.set_cons_zero, List.set_cons_succ, List.getElem_toArray, List.getElem_cons_succ, List.getElem_cons_zero]
            refine wpAnyZ_take (i := 2) (v := ?_) rfl (by kernel_rfl) (by kernel_rfl) (by kernel_rfl) (by kernel_rfl) (fun _ _ _ h => h) (Or.inl ⟨by kernel_rfl, ?_⟩) hHeld ?_
            rotate_left
            · intro wv hSw
              go_simp
              try with_reducible rfl
            simp only [Act.put, List.setIfInBounds_toArray, List.set_cons_zero, List.set_cons_succ, List.getElem_toArray, List.getElem_cons_succ, List.getElem_cons_zero]
            refine wpAnyZ_take (i := 4) (v := ?_) rfl (by kernel_rfl) (by kernel_rfl) (by kernel_rfl) (by kernel_rfl) (fun _ _ _ h => h) (Or.inl ⟨by kernel_rfl, ?_⟩) hHeld ?_
            rotate_left
            · intro wv hSw
              go_simp
              try with_reducible rfl
            simp only [Act.put, List.setIfInBounds_toArray, List.set_cons_zero, List.set_cons_succ, List.getElem_toArray, List.getElem_cons_succ, List.getElem_cons_zero]
            refine wpAnyZ_take (i := 6) (v := ?_) rfl (by kernel_rfl) (by kernel_rfl) (by kernel_rfl) (by kernel_rfl) (fun _ _ _ h => h) (Or.inl ⟨by kernel_rfl, ?_⟩) hHeld ?_
            rotate_left
            · intro wv hSw
              go_simp
              try with_reducible rfl
            simp only [Act.put, List.setIfInBounds_toArray, List.set_cons_zero, List.set_cons_succ, List.getElem_toArray, List.getElem_cons_succ, List.getElem_cons_zero]
            refine wpAnyZ_one (i := 3) (by kernel_rfl) rfl (fun K hK => ?_)
            go_simp
            go_at_call 35
            refine hT88.out.mono ?_
            rintro e W9x ⟨rfl, hw9⟩
            rw [hw9]
            clear hw9
            refine hK.out _ _ (fun _ => hHeld) ?_
            clear hK K
            try simp only [Act.put, List.setIfInBounds_toArray, List.set_cons_zero, List.set_cons_succ, List.getElem_toArray, List.getElem_cons_succ, List.getElem_cons_zero]
            refine wpAnyZ_one (i := 5) (by kernel_rfl) rfl (fun K hK => ?_)
            go_simp
            go_at_call 35
            refine hT168.out.mono ?_
            rintro e W9x ⟨rfl, hw9⟩
            rw [hw9]
            clear hw9
            refine hK.out _ _ (fun _ => hHeld) ?_
            clear hK K
            try simp only [Act.put, List.setIfInBounds_toArray, List.set_cons_zero, List.set_cons_succ, List.getElem_toArray, List.getElem_cons_succ, List.getElem_cons_zero]
            refine wpAnyZ_one (i := 7) (by kernel_rfl) rfl (fun K hK => ?_)
            go_simp
            go_at_call 35
            refine hT41.out.mono ?_
            rintro e W9x ⟨rfl, hw9⟩
            rw [hw9]
            clear hw9
            refine hK.out _ _ (fun _ => hHeld) ?_
            clear hK K
            try simp only [Act.put, List.setIfInBounds_toArray, List.set_cons_zero, List.set_cons_succ, List.getElem_toArray, List.getElem_cons_succ, List.getElem_cons_zero]
            refine wpAnyZ_take (i := 8) (v := ?_) rfl (by kernel_rfl) (by kernel_rfl) (by kernel_rfl) (by kernel_rfl) (fun _ _ _ h => h) (Or.inl ⟨by kernel_rfl, ?_⟩) hHeld ?_
            rotate_left
            · intro wv hSw
              go_simp
              try with_reducible rfl
            simp only [Act.put, List.setIfInBounds_toArray, List.set_cons_zero, List.set_cons_succ, List.getElem_toArray, List.getElem_cons_succ, List.getElem_cons_zero]
            refine wpAnyZ_take (i := 9) (v := ?_) rfl (by kernel_rfl) (by kernel_rfl) (by kernel_rfl) (by kernel_rfl) (fun _ _ _ h => h) (Or.inl ⟨by kernel_rfl, ?_⟩) hHeld ?_
            rotate_left
            · intro wv hSw
              go_simp
              try with_reducible rfl
            simp only [Act.put, List.setIfInBounds_toArray, List.set_cons_zero, List.set_cons_succ, List.getElem_toArray, List.getElem_cons_succ, List.getElem_cons_zero]
            refine wpAnyZ_take (i := 10) (v := ?_) rfl (by kernel_rfl) (by kernel_rfl) (by kernel_rfl) (by kernel_rfl) (fun _ _ _ h => h) (Or.inl ⟨by kernel_rfl, ?_⟩) hHeld ?_
            rotate_left
            · intro wv hSw
              go_simp
              try with_reducible rfl
            simp only [Act.put, List.setIfInBounds_toArray, List.set_cons_zero, List.set_cons_succ, List.getElem_toArray, List.getElem_cons_succ, List.getElem_cons_zero]
            refine wpAnyZ_take (i := 11) (v := ?_) rfl (by kernel_rfl) (by kernel_rfl) (by kernel_rfl) (by kernel_rfl) (fun _ _ _ h => h) (Or.inl ⟨by kernel_rfl, ?_⟩) hHeld ?_
            rotate_left
            · intro wv hSw
              go_simp
              try with_reducible rfl
            simp only [Act.put, List.setIfInBounds_toArray, List.set_cons_zero, List.set_cons_succ, List.getElem_toArray, List.getElem_cons_succ, List.getElem_cons_zero]
            refine wpAnyZ_one (i := 12) (by kernel_rfl) rfl (fun K hK => ?_)
            go_simp
            go_at_call 35
            refine hT62.out.mono ?_
            rintro e W9x ⟨rfl, hw9⟩
            rw [hw9]
            clear hw9
            refine hK.out _ _ (fun _ => hHeld) ?_
            clear hK K
            try simp only [Act.put, List.setIfInBounds_toArray, List.set_cons_zero, List.set_cons_succ, List.getElem_toArray, List.getElem_cons_succ, List.getElem_cons_zero]
            refine wpAnyZ_take (i := 13) (v := ?_) rfl (by kernel_rfl) (by kernel_rfl) (by kernel_rfl) (by kernel_rfl) (fun _ _ _ h => h) (Or.inl ⟨by kernel_rfl, ?_⟩) hHeld ?_
            rotate_left
            · intro wv hSw
              go_simp
              try with_reducible rfl
            simp only [Act.put, List.setIfInBounds_toArray, List.set_cons_zero, List.set_cons_succ, List.getElem_toArray, List.getElem_cons_succ, List.getElem_cons_zero]
            refine wpAnyZ_take (i := 14) (v := ?_) rfl (by kernel_rfl) (by kernel_rfl) (by kernel_rfl) (by kernel_rfl) (fun _ _ _ h => h) (Or.inl ⟨by kernel_rfl, ?_⟩) hHeld ?_
            rotate_left
            · intro wv hSw
              go_simp
              try with_reducible rfl
            simp only [Act.put, List.setIfInBounds_toArray, List.set_cons_zero, List.set_cons_succ, List.getElem_toArray, List.getElem_cons_succ, List.getElem_cons_zero]
            refine wpAnyZ_take (i := 15) (v := ?_) rfl (by kernel_rfl) (by kernel_rfl) (by kernel_rfl) (by kernel_rfl) (fun _ _ _ h => h) (Or.inl ⟨by kernel_rfl, ?_⟩) hHeld ?_
            rotate_left
            · intro wv hSw
              go_simp
              try with_reducible rfl
            simp only [Act.put, List.setIfInBounds_toArray, List.set_cons_zero, List.set_cons_succ, List.getElem_toArray, List.getElem_cons_succ, List.getElem_cons_zero]
            refine wpAnyZ_one (i := 16) (by kernel_rfl) rfl (fun K hK => ?_)
            go_simp
            refine hK.out _ _ (fun _ => (HE.out.1.box.alloc _).cell) ?_
            clear hK K hHeld
            have hHeld := (HE.out.1.box.alloc (.cells #[.string nm, .int .u64 (m8 : Nat), .int .u64 (m16 : Nat), .bool false] 42)).cell
            try simp only [Act.put, List.setIfInBounds_toArray, List.set_cons_zero, List.set_cons_succ, List.getElem_toArray, List.getElem_cons_succ, List.getElem_cons_zero]
            refine wpAnyZ_one (i := 17) (by kernel_rfl) rfl (fun K hK => ?_)
            rw [if_pos (by kernel_rfl)]
            refine wp_append_own _ _ _ 36 rfl W0.heap.size 42 i0 (.agg #[.string ⟨#[]⟩, .int .u64 0, .int .u64 0, .bool false]) 4 40 Try.underlying36 HI0.out.1 HI0.out.2.1 HI0.out.2.2.1 HI0.out.2.2.2 rfl (by decide) _ L.length (cellsY L) rfl (HE.out.1.keep ((Below.refl _ _).alloc (Nat.le_refl _) _)).row ⟨_, 0, none⟩ 1 1 (Sy.cs (nm, m8, m16, false)) rfl rfl (cells_newY _ nm m8 m16 false) (ones_y _) (by unfold maxLen; omega) (by omega) (by have := HE.out.1.size; simp; omega) ?_
            intro v2 w2 hown hgr _
            obtain ⟨hA, hA2, hA3⟩ := HE.out.1.app hlw hbl hbl0 hne hbe0 hown hgr
            have hown2 := hown
            obtain ⟨g2, cap2, rfl⟩ := ownsRow_succ hown2
            have HA := Lib.hid (And.intro hA hA2)
            have hc := hA3.cell
            have hf := hA3.frozen
            clear hown hown2 hgr hA hA2
            refine hK.out _ _ (fun _ => hc) ?_
            clear hK K hHeld
            try simp only [Act.put, List.setIfInBounds_toArray, List.set_cons_zero, List.set_cons_succ, List.getElem_toArray, List.getElem_cons_succ, List.getElem_cons_zero]
            refine wpAnyZ_one (i := 18) (by kernel_rfl) rfl (fun K hK => ?_)
            go_simp
            refine hK.out _ _ (fun h => absurd rfl h) ?_
            clear hK K hc hf hA3
            try simp only [Act.put, List.setIfInBounds_toArray, List.set_cons_zero, List.set_cons_succ, List.getElem_toArray, List.getElem_cons_succ, List.getElem_cons_zero]
            refine wpAnyZ_done (by kernel_rfl) ?_ _
            refine OnlyN.mk ?_
            gi_wp2
            have hsy : symZ (shZ z s.2.1) (shZ z x.2.1) n2 k = some (nm, m8, m16, false) := by rw [HSY.out]; simp [hf1, hf2]
            have hfin : symR (shZ z s.2.1) (shZ z x.2.1) n2 (rowsM n1) (pre ++ [k0]) = some (L ++ [(nm, m8, m16, false)]) ∧ LX w W0 bl be (L ++ [(nm, m8, m16, false)]).length (.slice (some ⟨g2, 0, none⟩) (L.length + 1) cap2) (cellsY (L ++ [(nm, m8, m16, false)])) 0 (World.setCell w2 ⟨bl, 0, none⟩ (.slice (some ⟨g2, 0, none⟩) (L.length + 1) cap2)) := by
              refine ⟨?_, ?_⟩
              · rw [symR_snoc, HL.out, HKK.out, hsy]
                rfl
              · have hca : cellsY (L ++ [(nm, m8, m16, false)]) = cellsY L ++ Sy.cs (nm, m8, m16, false) := by simp [cellsY]
                rw [List.length_append, hca]
                exact HA.out.1
            first
              | exact ⟨HKE.out.trans (HA.out.2.from _), LX.kpN HLX.out HA.out.1 (Nat.le_trans HKE.out.size HA.out.2.size) HG.out, ⟨L ++ [(nm, m8, m16, false)], ⟨_, hfin⟩⟩⟩
              | exact ⟨HKE.out.trans (HA.out.2.from _), LX.kpN HLX.out HA.out.1 (Nat.le_trans HKE.out.size HA.out.2.size) HG.out, ⟨L ++ [(nm, m8, m16, false)], hfin.1, _, hfin.2⟩⟩
          · have dm : ((m6 : Int) == 0) = false := by
              rw [beq_eq_false_iff_ne]
              omega
            have dm2 : ((m6 : Int) != 0) = true := by rw [bne, dm]; rfl
            have cl : We.cell? ⟨bl, 0, none⟩ = some v := HE.out.1.box.cell
            refine wpIn_region_roundZ 18 (S := fun W' : World => W'.cell? ⟨bl, 0, none⟩ = some v) (by kernel_rfl) (by kernel_rfl) (by rw [hWe]; exact cl) (fun hHeld => ?_)
            clear hHeld
            rw [hWe]
            have hHeld : (fun W' : World => W'.cell? ⟨bl, 0, none⟩ = some v) We := cl
            clear cl
            refine wpAnyZ_take (i := 0) (v := ?_) rfl (by kernel_rfl) (by kernel_rfl) (by kernel_rfl) (by kernel_rfl) (fun _ _ _ h => h) (Or.inl ⟨by kernel_rfl, ?_⟩) hHeld ?_
            rotate_left
            · intro wv hSw
              have cq : World.cell? wv ⟨bl, 0, none⟩ = some v := hSw
              go_simp
              try with_reducible rfl
            simp only [Act.put, List.setIfInBounds_toArray, List.set_cons_zero, List.set_cons_succ, List.getElem_toArray, List.getElem_cons_succ, List.getElem_cons_zero]
            refine wpAnyZ_take (i := 1) (v := ?_) rfl (by kernel_rfl) (by kernel_rfl) (by kernel_rfl) (by kernel_rfl) (fun _ _ _ h => h) (Or.inl ⟨by kernel_rfl, ?_⟩) hHeld ?_
            rotate_left
            · intro wv hSw
              go_simp
              try with_reducible rfl
            simp only [Act.put, List.setIfInBounds_toArray, List.set_cons_zero, List.set_cons_succ, List.getElem_toArray, List.getElem_cons_succ, List.getElem_cons_zero]
            refine wpAnyZ_take (i := 2) (v := ?_) rfl (by kernel_rfl) (by kernel_rfl) (by kernel_rfl) (by kernel_rfl) (fun _ _ _ h => h) (Or.inl ⟨by kernel_rfl, ?_⟩) hHeld ?_
            rotate_left
            · intro wv hSw
              go_simp
              try with_reducible rfl
            simp only [Act.put, List.setIfInBounds_toArray, List.set_cons_zero, List.set_cons_succ, List.getElem_toArray, List.getElem_cons_succ, List.getElem_cons_zero]
            refine wpAnyZ_take (i := 4) (v := ?_) rfl (by kernel_rfl) (by kernel_rfl) (by kernel_rfl) (by kernel_rfl) (fun _ _ _ h => h) (Or.inl ⟨by kernel_rfl, ?_⟩) hHeld ?_
            rotate_left
            · intro wv hSw
              go_simp
              try with_reducible rfl
            simp only [Act.put, List.setIfInBounds_toArray, List.set_cons_zero, List.set_cons_succ, List.getElem_toArray, List.getElem_cons_succ, List.getElem_cons_zero]
            refine wpAnyZ_take (i := 6) (v := ?_) rfl (by kernel_rfl) (by kernel_rfl) (by kernel_rfl) (by kernel_rfl) (fun _ _ _ h => h) (Or.inl ⟨by kernel_rfl, ?_⟩) hHeld ?_
            rotate_left
            · intro wv hSw
              go_simp
              try with_reducible rfl
            simp only [Act.put, List.setIfInBounds_toArray, List.set_cons_zero, List.set_cons_succ, List.getElem_toArray, List.getElem_cons_succ, List.getElem_cons_zero]
            refine wpAnyZ_one (i := 3) (by kernel_rfl) rfl (fun K hK => ?_)
            go_simp
            go_at_call 35
            refine hT88.out.mono ?_
            rintro e W9x ⟨rfl, hw9⟩
            rw [hw9]
            clear hw9
            refine hK.out _ _ (fun _ => hHeld) ?_
            clear hK K
            try simp only [Act.put, List.setIfInBounds_toArray, List.set_cons_zero, List.set_cons_succ, List.getElem_toArray, List.getElem_cons_succ, List.getElem_cons_zero]
            refine wpAnyZ_one (i := 5) (by kernel_rfl) rfl (fun K hK => ?_)
            go_simp
            go_at_call 35
            refine hT168.out.mono ?_
            rintro e W9x ⟨rfl, hw9⟩
            rw [hw9]
            clear hw9
            refine hK.out _ _ (fun _ => hHeld) ?_
            clear hK K
            try simp only [Act.put, List.setIfInBounds_toArray, List.set_cons_zero, List.set_cons_succ, List.getElem_toArray, List.getElem_cons_succ, List.getElem_cons_zero]
            refine wpAnyZ_one (i := 7) (by kernel_rfl) rfl (fun K hK => ?_)
            go_simp
            go_at_call 35
            refine hT41.out.mono ?_
            rintro e W9x ⟨rfl, hw9⟩
            rw [hw9]
            clear hw9
            refine hK.out _ _ (fun _ => hHeld) ?_
            clear hK K
            try simp only [Act.put, List.setIfInBounds_toArray, List.set_cons_zero, List.set_cons_succ, List.getElem_toArray, List.getElem_cons_succ, List.getElem_cons_zero]
            refine wpAnyZ_take (i := 8) (v := ?_) rfl (by kernel_rfl) (by kernel_rfl) (by kernel_rfl) (by kernel_rfl) (fun _ _ _ h => h) (Or.inl ⟨by kernel_rfl, ?_⟩) hHeld ?_
            rotate_left
            · intro wv hSw
              go_simp
              try with_reducible rfl
            simp only [Act.put, List.setIfInBounds_toArray, List.set_cons_zero, List.set_cons_succ, List.getElem_toArray, List.getElem_cons_succ, List.getElem_cons_zero]
            refine wpAnyZ_take (i := 9) (v := ?_) rfl (by kernel_rfl) (by kernel_rfl) (by kernel_rfl) (by kernel_rfl) (fun _ _ _ h => h) (Or.inl ⟨by kernel_rfl, ?_⟩) hHeld ?_
            rotate_left
            · intro wv hSw
              go_simp
              try with_reducible rfl
            simp only [Act.put, List.setIfInBounds_toArray, List.set_cons_zero, List.set_cons_succ, List.getElem_toArray, List.getElem_cons_succ, List.getElem_cons_zero]
            refine wpAnyZ_take (i := 10) (v := ?_) rfl (by kernel_rfl) (by kernel_rfl) (by kernel_rfl) (by kernel_rfl) (fun _ _ _ h => h) (Or.inl ⟨by kernel_rfl, ?_⟩) hHeld ?_
            rotate_left
            · intro wv hSw
              go_simp
              try with_reducible rfl
            simp only [Act.put, List.setIfInBounds_toArray, List.set_cons_zero, List.set_cons_succ, List.getElem_toArray, List.getElem_cons_succ, List.getElem_cons_zero]
            refine wpAnyZ_take (i := 11) (v := ?_) rfl (by kernel_rfl) (by kernel_rfl) (by kernel_rfl) (by kernel_rfl) (fun _ _ _ h => h) (Or.inl ⟨by kernel_rfl, ?_⟩) hHeld ?_
            rotate_left
            · intro wv hSw
              go_simp
              try with_reducible rfl
            simp only [Act.put, List.setIfInBounds_toArray, List.set_cons_zero, List.set_cons_succ, List.getElem_toArray, List.getElem_cons_succ, List.getElem_cons_zero]
            refine wpAnyZ_one (i := 12) (by kernel_rfl) rfl (fun K hK => ?_)
            go_simp
            go_at_call 35
            refine hT62.out.mono ?_
            rintro e W9x ⟨rfl, hw9⟩
            rw [hw9]
            clear hw9
            refine hK.out _ _ (fun _ => hHeld) ?_
            clear hK K
            try simp only [Act.put, List.setIfInBounds_toArray, List.set_cons_zero, List.set_cons_succ, List.getElem_toArray, List.getElem_cons_succ, List.getElem_cons_zero]
            refine wpAnyZ_take (i := 13) (v := ?_) rfl (by kernel_rfl) (by kernel_rfl) (by kernel_rfl) (by kernel_rfl) (fun _ _ _ h => h) (Or.inl ⟨by kernel_rfl, ?_⟩) hHeld ?_
            rotate_left
            · intro wv hSw
              go_simp
              try with_reducible rfl
            simp only [Act.put, List.setIfInBounds_toArray, List.set_cons_zero, List.set_cons_succ, List.getElem_toArray, List.getElem_cons_succ, List.getElem_cons_zero]
            refine wpAnyZ_take (i := 14) (v := ?_) rfl (by kernel_rfl) (by kernel_rfl) (by kernel_rfl) (by kernel_rfl) (fun _ _ _ h => h) (Or.inl ⟨by kernel_rfl, ?_⟩) hHeld ?_
            rotate_left
            · intro wv hSw
              go_simp
              try with_reducible rfl
            simp only [Act.put, List.setIfInBounds_toArray, List.set_cons_zero, List.set_cons_succ, List.getElem_toArray, List.getElem_cons_succ, List.getElem_cons_zero]
            refine wpAnyZ_take (i := 15) (v := ?_) rfl (by kernel_rfl) (by kernel_rfl) (by kernel_rfl) (by kernel_rfl) (fun _ _ _ h => h) (Or.inl ⟨by kernel_rfl, ?_⟩) hHeld ?_
            rotate_left
            · intro wv hSw
              go_simp
              try with_reducible rfl
            simp only [Act.put, List.setIfInBounds_toArray, List.set_cons_zero, List.set_cons_succ, List.getElem_toArray, List.getElem_cons_succ, List.getElem_cons_zero]
            refine wpAnyZ_one (i := 16) (by kernel_rfl) rfl (fun K hK => ?_)
            go_simp
            refine hK.out _ _ (fun _ => (HE.out.1.box.alloc _).cell) ?_
            clear hK K hHeld
            have hHeld := (HE.out.1.box.alloc (.cells #[.string nm, .int .u64 (m8 : Nat), .int .u64 (m16 : Nat), .bool true] 42)).cell
            try simp only [Act.put, List.setIfInBounds_toArray, List.set_cons_zero, List.set_cons_succ, List.getElem_toArray, List.getElem_cons_succ, List.getElem_cons_zero]
            refine wpAnyZ_one (i := 17) (by kernel_rfl) rfl (fun K hK => ?_)
            rw [if_pos (by kernel_rfl)]
            refine wp_append_own _ _ _ 36 rfl W0.heap.size 42 i0 (.agg #[.string ⟨#[]⟩, .int .u64 0, .int .u64 0, .bool false]) 4 40 Try.underlying36 HI0.out.1 HI0.out.2.1 HI0.out.2.2.1 HI0.out.2.2.2 rfl (by decide) _ L.length (cellsY L) rfl (HE.out.1.keep ((Below.refl _ _).alloc (Nat.le_refl _) _)).row ⟨_, 0, none⟩ 1 1 (Sy.cs (nm, m8, m16, true)) rfl rfl (cells_newY _ nm m8 m16 true) (ones_y _) (by unfold maxLen; omega) (by omega) (by have := HE.out.1.size; simp; omega) ?_
            intro v2 w2 hown hgr _
            obtain ⟨hA, hA2, hA3⟩ := HE.out.1.app hlw hbl hbl0 hne hbe0 hown hgr
            have hown2 := hown
            obtain ⟨g2, cap2, rfl⟩ := ownsRow_succ hown2
            have HA := Lib.hid (And.intro hA hA2)
            have hc := hA3.cell
            have hf := hA3.frozen
            clear hown hown2 hgr hA hA2
            refine hK.out _ _ (fun _ => hc) ?_
            clear hK K hHeld
            try simp only [Act.put, List.setIfInBounds_toArray, List.set_cons_zero, List.set_cons_succ, List.getElem_toArray, List.getElem_cons_succ, List.getElem_cons_zero]
            refine wpAnyZ_one (i := 18) (by kernel_rfl) rfl (fun K hK => ?_)
            go_simp
            refine hK.out _ _ (fun h => absurd rfl h) ?_
            clear hK K hc hf hA3
            try simp only [Act.put, List.setIfInBounds_toArray, List.set_cons_zero, List.set_cons_succ, List.getElem_toArray, List.getElem_cons_succ, List.getElem_cons_zero]
            refine wpAnyZ_done (by kernel_rfl) ?_ _
            refine OnlyN.mk ?_
            gi_wp2
            have hsy : symZ (shZ z s.2.1) (shZ z x.2.1) n2 k = some (nm, m8, m16, true) := by rw [HSY.out]; simp [hf1, hf2]
            have hfin : symR (shZ z s.2.1) (shZ z x.2.1) n2 (rowsM n1) (pre ++ [k0]) = some (L ++ [(nm, m8, m16, true)]) ∧ LX w W0 bl be (L ++ [(nm, m8, m16, true)]).length (.slice (some ⟨g2, 0, none⟩) (L.length + 1) cap2) (cellsY (L ++ [(nm, m8, m16, true)])) 0 (World.setCell w2 ⟨bl, 0, none⟩ (.slice (some ⟨g2, 0, none⟩) (L.length + 1) cap2)) := by
              refine ⟨?_, ?_⟩
              · rw [symR_snoc, HL.out, HKK.out, hsy]
                rfl
              · have hca : cellsY (L ++ [(nm, m8, m16, true)]) = cellsY L ++ Sy.cs (nm, m8, m16, true) := by simp [cellsY]
                rw [List.length_append, hca]
                exact HA.out.1
            first
              | exact ⟨HKE.out.trans (HA.out.2.from _), LX.kpN HLX.out HA.out.1 (Nat.le_trans HKE.out.size HA.out.2.size) HG.out, ⟨L ++ [(nm, m8, m16, true)], ⟨_, hfin⟩⟩⟩
              | exact ⟨HKE.out.trans (HA.out.2.from _), LX.kpN HLX.out HA.out.1 (Nat.le_trans HKE.out.size HA.out.2.size) HG.out, ⟨L ++ [(nm, m8, m16, true)], hfin.1, _, hfin.2⟩⟩
        · have HF1 := Lib.hid hf1
          obtain ⟨q, hq⟩ : ∃ q, m4 % 16 = q := ⟨_, rfl⟩
          rw [hq] at e15
          have dl2 : ¬ (q : Int) = 2 := by omega
          have dl : ((q : Int) == 2) = false := by
            rw [beq_eq_false_iff_ne]
            omega
          clear hf1 hq
          have cl : We.cell? ⟨bl, 0, none⟩ = some v := HE.out.1.box.cell
          refine wpIn_region_roundZ 18 (S := fun W' : World => W'.cell? ⟨bl, 0, none⟩ = some v) (by kernel_rfl) (by kernel_rfl) (by rw [hWe]; exact cl) (fun hHeld => ?_)
          clear hHeld
          rw [hWe]
          have hHeld : (fun W' : World => W'.cell? ⟨bl, 0, none⟩ = some v) We := cl
          clear cl
          refine wpAnyZ_take (i := 0) (v := ?_) rfl (by kernel_rfl) (by kernel_rfl) (by kernel_rfl) (by kernel_rfl) (fun _ _ _ h => h) (Or.inl ⟨by kernel_rfl, ?_⟩) hHeld ?_
          rotate_left
          · intro wv hSw
            have cq : World.cell? wv ⟨bl, 0, none⟩ = some v := hSw
            go_simp
            try with_reducible rfl
          simp only [Act.put, List.setIfInBounds_toArray, List.set_cons_zero, List.set_cons_succ, List.getElem_toArray, List.getElem_cons_succ, List.getElem_cons_zero]
          refine wpAnyZ_take (i := 1) (v := ?_) rfl (by kernel_rfl) (by kernel_rfl) (by kernel_rfl) (by kernel_rfl) (fun _ _ _ h => h) (Or.inl ⟨by kernel_rfl, ?_⟩) hHeld ?_
          rotate_left
          · intro wv hSw
            go_simp
            try with_reducible rfl
          simp only [Act.put, List.setIfInBounds_toArray, List.set_cons_zero, List.set_cons_succ, List.getElem_toArray, List.getElem_cons_succ, List.getElem_cons_zero]
          refine wpAnyZ_take (i := 2) (v := ?_) rfl (by kernel_rfl) (by kernel_rfl) (by kernel_rfl) (by kernel_rfl) (fun _ _ _ h => h) (Or.inl ⟨by kernel_rfl, ?_⟩) hHeld ?_
          rotate_left
          · intro wv hSw
            go_simp
            try with_reducible rfl
          simp only [Act.put, List.setIfInBounds_toArray, List.set_cons_zero, List.set_cons_succ, List.getElem_toArray, List.getElem_cons_succ, List.getElem_cons_zero]
          refine wpAnyZ_take (i := 4) (v := ?_) rfl (by kernel_rfl) (by kernel_rfl) (by kernel_rfl) (by kernel_rfl) (fun _ _ _ h => h) (Or.inl ⟨by kernel_rfl, ?_⟩) hHeld ?_
          rotate_left
          · intro wv hSw
            go_simp
            try with_reducible rfl
          simp only [Act.put, List.setIfInBounds_toArray, List.set_cons_zero, List.set_cons_succ, List.getElem_toArray, List.getElem_cons_succ, List.getElem_cons_zero]
          refine wpAnyZ_take (i := 6) (v := ?_) rfl (by kernel_rfl) (by kernel_rfl) (by kernel_rfl) (by kernel_rfl) (fun _ _ _ h => h) (Or.inl ⟨by kernel_rfl, ?_⟩) hHeld ?_
          rotate_left
          · intro wv hSw
            go_simp
            try with_reducible rfl
          simp only [Act.put, List.setIfInBounds_toArray, List.set_cons_zero, List.set_cons_succ, List.getElem_toArray, List.getElem_cons_succ, List.getElem_cons_zero]
          refine wpAnyZ_one (i := 3) (by kernel_rfl) rfl (fun K hK => ?_)
          go_simp
          go_at_call 35
          refine hT88.out.mono ?_
          rintro e W9x ⟨rfl, hw9⟩
          rw [hw9]
          clear hw9
          refine hK.out _ _ (fun _ => hHeld) ?_
          clear hK K
          try simp only [Act.put, List.setIfInBounds_toArray, List.set_cons_zero, List.set_cons_succ, List.getElem_toArray, List.getElem_cons_succ, List.getElem_cons_zero]
          refine wpAnyZ_one (i := 5) (by kernel_rfl) rfl (fun K hK => ?_)
          go_simp
          go_at_call 35
          refine hT168.out.mono ?_
          rintro e W9x ⟨rfl, hw9⟩
          rw [hw9]
          clear hw9
          refine hK.out _ _ (fun _ => hHeld) ?_
          clear hK K
          try simp only [Act.put, List.setIfInBounds_toArray, List.set_cons_zero, List.set_cons_succ, List.getElem_toArray, List.getElem_cons_succ, List.getElem_cons_zero]
          refine wpAnyZ_one (i := 7) (by kernel_rfl) rfl (fun K hK => ?_)
          go_simp
          go_at_call 35
          refine hT41.out.mono ?_
          rintro e W9x ⟨rfl, hw9⟩
          rw [hw9]
          clear hw9
          refine hK.out _ _ (fun _ => hHeld) ?_
          clear hK K
          try simp only [Act.put, List.setIfInBounds_toArray, List.set_cons_zero, List.set_cons_succ, List.getElem_toArray, List.getElem_cons_succ, List.getElem_cons_zero]
          refine wpAnyZ_take (i := 8) (v := ?_) rfl (by kernel_rfl) (by kernel_rfl) (by kernel_rfl) (by kernel_rfl) (fun _ _ _ h => h) (Or.inl ⟨by kernel_rfl, ?_⟩) hHeld ?_
          rotate_left
          · intro wv hSw
            go_simp
            try with_reducible rfl
          simp only [Act.put, List.setIfInBounds_toArray, List.set_cons_zero, List.set_cons_succ, List.getElem_toArray, List.getElem_cons_succ, List.getElem_cons_zero]
          refine wpAnyZ_take (i := 9) (v := ?_) rfl (by kernel_rfl) (by kernel_rfl) (by kernel_rfl) (by kernel_rfl) (fun _ _ _ h => h) (Or.inl ⟨by kernel_rfl, ?_⟩) hHeld ?_
          rotate_left
          · intro wv hSw
            go_simp
            try with_reducible rfl
          simp only [Act.put, List.setIfInBounds_toArray, List.set_cons_zero, List.set_cons_succ, List.getElem_toArray, List.getElem_cons_succ, List.getElem_cons_zero]
          refine wpAnyZ_take (i := 10) (v := ?_) rfl (by kernel_rfl) (by kernel_rfl) (by kernel_rfl) (by kernel_rfl) (fun _ _ _ h => h) (Or.inl ⟨by kernel_rfl, ?_⟩) hHeld ?_
          rotate_left
          · intro wv hSw
            go_simp
            try with_reducible rfl
          simp only [Act.put, List.setIfInBounds_toArray, List.set_cons_zero, List.set_cons_succ, List.getElem_toArray, List.getElem_cons_succ, List.getElem_cons_zero]
          refine wpAnyZ_take (i := 11) (v := undef) rfl (by kernel_rfl) (by kernel_rfl) (by kernel_rfl) (by kernel_rfl) (fun _ _ _ h => h) (Or.inr ⟨by kernel_rfl, rfl⟩) hHeld ?_
          simp only [Act.put, List.setIfInBounds_toArray, List.set_cons_zero, List.set_cons_succ, List.getElem_toArray, List.getElem_cons_succ, List.getElem_cons_zero]
          refine wpAnyZ_take (i := 12) (v := undef) rfl (by kernel_rfl) (by kernel_rfl) (by kernel_rfl) (by kernel_rfl) (fun _ _ _ h => h) (Or.inr ⟨by kernel_rfl, rfl⟩) hHeld ?_
          simp only [Act.put, List.setIfInBounds_toArray, List.set_cons_zero, List.set_cons_succ, List.getElem_toArray, List.getElem_cons_succ, List.getElem_cons_zero]
          refine wpAnyZ_take (i := 13) (v := undef) rfl (by kernel_rfl) (by kernel_rfl) (by kernel_rfl) (by kernel_rfl) (fun _ _ _ h => h) (Or.inr ⟨by kernel_rfl, rfl⟩) hHeld ?_
          simp only [Act.put, List.setIfInBounds_toArray, List.set_cons_zero, List.set_cons_succ, List.getElem_toArray, List.getElem_cons_succ, List.getElem_cons_zero]
          refine wpAnyZ_take (i := 14) (v := ?_) rfl (by kernel_rfl) (by kernel_rfl) (by kernel_rfl) (by kernel_rfl) (fun _ _ _ h => h) (Or.inl ⟨by kernel_rfl, ?_⟩) hHeld ?_
          rotate_left
          · intro wv hSw
            go_simp
            try with_reducible rfl
          simp only [Act.put, List.setIfInBounds_toArray, List.set_cons_zero, List.set_cons_succ, List.getElem_toArray, List.getElem_cons_succ, List.getElem_cons_zero]
          refine wpAnyZ_take (i := 15) (v := ?_) rfl (by kernel_rfl) (by kernel_rfl) (by kernel_rfl) (by kernel_rfl) (fun _ _ _ h => h) (Or.inl ⟨by kernel_rfl, ?_⟩) hHeld ?_
          rotate_left
          · intro wv hSw
            go_simp
            try with_reducible rfl
          simp only [Act.put, List.setIfInBounds_toArray, List.set_cons_zero, List.set_cons_succ, List.getElem_toArray, List.getElem_cons_succ, List.getElem_cons_zero]
          refine wpAnyZ_one (i := 16) (by kernel_rfl) rfl (fun K hK => ?_)
          go_simp
          refine hK.out _ _ (fun _ => (HE.out.1.box.alloc _).cell) ?_
          clear hK K hHeld
          have hHeld := (HE.out.1.box.alloc (.cells #[.string nm, .int .u64 (m8 : Nat), .int .u64 (m16 : Nat), .bool false] 42)).cell
          try simp only [Act.put, List.setIfInBounds_toArray, List.set_cons_zero, List.set_cons_succ, List.getElem_toArray, List.getElem_cons_succ, List.getElem_cons_zero]
          refine wpAnyZ_one (i := 17) (by kernel_rfl) rfl (fun K hK => ?_)
          rw [if_pos (by kernel_rfl)]
          refine wp_append_own _ _ _ 36 rfl W0.heap.size 42 i0 (.agg #[.string ⟨#[]⟩, .int .u64 0, .int .u64 0, .bool false]) 4 40 Try.underlying36 HI0.out.1 HI0.out.2.1 HI0.out.2.2.1 HI0.out.2.2.2 rfl (by decide) _ L.length (cellsY L) rfl (HE.out.1.keep ((Below.refl _ _).alloc (Nat.le_refl _) _)).row ⟨_, 0, none⟩ 1 1 (Sy.cs (nm, m8, m16, false)) rfl rfl (cells_newY _ nm m8 m16 false) (ones_y _) (by unfold maxLen; omega) (by omega) (by have := HE.out.1.size; simp; omega) ?_
          intro v2 w2 hown hgr _
          obtain ⟨hA, hA2, hA3⟩ := HE.out.1.app hlw hbl hbl0 hne hbe0 hown hgr
          have hown2 := hown
          obtain ⟨g2, cap2, rfl⟩ := ownsRow_succ hown2
          have HA := Lib.hid (And.intro hA hA2)
          have hc := hA3.cell
          have hf := hA3.frozen
          clear hown hown2 hgr hA hA2
          refine hK.out _ _ (fun _ => hc) ?_
          clear hK K hHeld
          try simp only [Act.put, List.setIfInBounds_toArray, List.set_cons_zero, List.set_cons_succ, List.getElem_toArray, List.getElem_cons_succ, List.getElem_cons_zero]
          refine wpAnyZ_one (i := 18) (by kernel_rfl) rfl (fun K hK => ?_)
          go_simp
          refine hK.out _ _ (fun h => absurd rfl h) ?_
          clear hK K hc hf hA3
          try simp only [Act.put, List.setIfInBounds_toArray, List.set_cons_zero, List.set_cons_succ, List.getElem_toArray, List.getElem_cons_succ, List.getElem_cons_zero]
          refine wpAnyZ_done (by kernel_rfl) ?_ _
          refine OnlyN.mk ?_
          gi_wp2
          have hsy : symZ (shZ z s.2.1) (shZ z x.2.1) n2 k = some (nm, m8, m16, false) := by rw [HSY.out]; simp [HF1.out]
          have hfin : symR (shZ z s.2.1) (shZ z x.2.1) n2 (rowsM n1) (pre ++ [k0]) = some (L ++ [(nm, m8, m16, false)]) ∧ LX w W0 bl be (L ++ [(nm, m8, m16, false)]).length (.slice (some ⟨g2, 0, none⟩) (L.length + 1) cap2) (cellsY (L ++ [(nm, m8, m16, false)])) 0 (World.setCell w2 ⟨bl, 0, none⟩ (.slice (some ⟨g2, 0, none⟩) (L.length + 1) cap2)) := by
            refine ⟨?_, ?_⟩
            · rw [symR_snoc, HL.out, HKK.out, hsy]
              rfl
            · have hca : cellsY (L ++ [(nm, m8, m16, false)]) = cellsY L ++ Sy.cs (nm, m8, m16, false) := by simp [cellsY]
              rw [List.length_append, hca]
              exact HA.out.1
          first
            | exact ⟨HKE.out.trans (HA.out.2.from _), LX.kpN HLX.out HA.out.1 (Nat.le_trans HKE.out.size HA.out.2.size) HG.out, ⟨L ++ [(nm, m8, m16, false)], ⟨_, hfin⟩⟩⟩
            | exact ⟨HKE.out.trans (HA.out.2.from _), LX.kpN HLX.out HA.out.1 (Nat.le_trans HKE.out.size HA.out.2.size) HG.out, ⟨L ++ [(nm, m8, m16, false)], hfin.1, _, hfin.2⟩⟩
    case done =>
      rintro D ys W hD rfl ⟨L, v, hL, hLX⟩ hK
      have HL := Lib.hid hL
      have HX := Lib.hid hLX
      have HKD := Lib.hid hK
      clear hL hLX hK
      go_wp2_with fail
      have hS0 := And.intro HX.out.box.cell HX.out.err.cell
      refine wp_region_noPanic ?_
      refine wp_region_held_drew (S := fun W : World => World.cell? W ⟨bl, 0, none⟩ = some v ∧ World.cell? W ⟨be, 0, none⟩ = some (.int .i64 0)) (by kernel_rfl) ?_ (fun hHeld => ?_)
      · exact hS0
      clear hS0
      refine wpAnyH_take (i := 0) (v := ?_) rfl (by kernel_rfl) (by kernel_rfl) (by kernel_rfl) (fun _ _ _ h => h) (Or.inl ⟨by kernel_rfl, ?_⟩) (by assumption) ?_
      rotate_left
      · intro wv hSw
        have c0 := hSw.1
        go_simp
        try with_reducible rfl
      simp only [Act.put, List.setIfInBounds_toArray, List.set_cons_zero, List.set_cons_succ, List.getElem_toArray, List.getElem_cons_succ, List.getElem_cons_zero]
      refine wpAnyH_take (i := 1) (v := ?_) rfl (by kernel_rfl) (by kernel_rfl) (by kernel_rfl) (fun _ _ _ h => h) (Or.inl ⟨by kernel_rfl, ?_⟩) (by assumption) ?_
      rotate_left
      · intro wv hSw
        have c0 := hSw.2
        go_simp
        try with_reducible rfl
      simp only [Act.put, List.setIfInBounds_toArray, List.set_cons_zero, List.set_cons_succ, List.getElem_toArray, List.getElem_cons_succ, List.getElem_cons_zero]
      refine wpAnyH_take (i := 2) (v := ?_) rfl (by kernel_rfl) (by kernel_rfl) (by kernel_rfl) (fun _ _ _ h => h) (Or.inl ⟨by kernel_rfl, ?_⟩) (by assumption) ?_
      rotate_left
      · intro wv hSw
        go_simp
        try with_reducible rfl
      simp only [Act.put, List.setIfInBounds_toArray, List.set_cons_zero, List.set_cons_succ, List.getElem_toArray, List.getElem_cons_succ, List.getElem_cons_zero]
      refine wpAnyH_take (i := 3) (v := ?_) rfl (by kernel_rfl) (by kernel_rfl) (by kernel_rfl) (fun _ _ _ h => h) (Or.inl ⟨by kernel_rfl, ?_⟩) (by assumption) ?_
      rotate_left
      · intro wv hSw
        go_simp
        try with_reducible rfl
      simp only [Act.put, List.setIfInBounds_toArray, List.set_cons_zero, List.set_cons_succ, List.getElem_toArray, List.getElem_cons_succ, List.getElem_cons_zero]
      refine wpAnyH_done (by kernel_rfl) ?_ _
      refine NoPanic.normal ?_
      clear hHeld
      go_wp2_with fail
      rw [Exit.noGoto_ret]
      show bodyPostM Fence.wide 5 Try.prog Try.f10 _ Exit.ret _ _
      refine ⟨by simp, .inl ⟨_, _, rfl, run_takeDeferred (show (World.drew W).heap[D]? = _ from HKD.out), ?_⟩⟩
      exact ⟨_, results_tmp2 rfl _ _ _, L, v, 0, rfl, HX.out.sy hlw hD HKD.out, .inl ⟨by rw [← HN.out.1, ← HN.out.2, ← symR_range]; exact HL.out, rfl⟩⟩
    case stop =>
      rintro D c pre W hD hS ⟨rfl, hno, hLX⟩ hK
      obtain ⟨L, v, hL0, hv0⟩ : ∃ (L : List Sy) (v : Value), L = [] ∧ v = .slice none 0 0 := ⟨_, _, rfl, rfl⟩
      have HL0 := Lib.hid hL0
      replace hLX : LX w W0 bl be L.length v (cellsY L) 33 W := by rw [hL0, hv0]; exact hLX
      have HX := Lib.hid hLX
      have HKD := Lib.hid hK
      have HS := Lib.hid (And.intro hS hno)
      clear hLX hK hS hno hL0 hv0
      refine wpIn_wide.2 ?_
      go_wp2_with fail
      have hS0 := And.intro HX.out.box.cell HX.out.err.cell
      refine wp_region_noPanic ?_
      refine wp_region_held_drew (S := fun W : World => World.cell? W ⟨bl, 0, none⟩ = some v ∧ World.cell? W ⟨be, 0, none⟩ = some (.int .i64 33)) (by kernel_rfl) ?_ (fun hHeld => ?_)
      · exact hS0
      clear hS0
      refine wpAnyH_take (i := 0) (v := ?_) rfl (by kernel_rfl) (by kernel_rfl) (by kernel_rfl) (fun _ _ _ h => h) (Or.inl ⟨by kernel_rfl, ?_⟩) (by assumption) ?_
      rotate_left
      · intro wv hSw
        have c0 := hSw.1
        go_simp
        try with_reducible rfl
      simp only [Act.put, List.setIfInBounds_toArray, List.set_cons_zero, List.set_cons_succ, List.getElem_toArray, List.getElem_cons_succ, List.getElem_cons_zero]
      refine wpAnyH_take (i := 1) (v := ?_) rfl (by kernel_rfl) (by kernel_rfl) (by kernel_rfl) (fun _ _ _ h => h) (Or.inl ⟨by kernel_rfl, ?_⟩) (by assumption) ?_
      rotate_left
      · intro wv hSw
        have c0 := hSw.2
        go_simp
        try with_reducible rfl
      simp only [Act.put, List.setIfInBounds_toArray, List.set_cons_zero, List.set_cons_succ, List.getElem_toArray, List.getElem_cons_succ, List.getElem_cons_zero]
      refine wpAnyH_take (i := 2) (v := ?_) rfl (by kernel_rfl) (by kernel_rfl) (by kernel_rfl) (fun _ _ _ h => h) (Or.inl ⟨by kernel_rfl, ?_⟩) (by assumption) ?_
      rotate_left
      · intro wv hSw
        go_simp
        try with_reducible rfl
      simp only [Act.put, List.setIfInBounds_toArray, List.set_cons_zero, List.set_cons_succ, List.getElem_toArray, List.getElem_cons_succ, List.getElem_cons_zero]
      refine wpAnyH_take (i := 3) (v := ?_) rfl (by kernel_rfl) (by kernel_rfl) (by kernel_rfl) (fun _ _ _ h => h) (Or.inl ⟨by kernel_rfl, ?_⟩) (by assumption) ?_
      rotate_left
      · intro wv hSw
        go_simp
        try with_reducible rfl
      simp only [Act.put, List.setIfInBounds_toArray, List.set_cons_zero, List.set_cons_succ, List.getElem_toArray, List.getElem_cons_succ, List.getElem_cons_zero]
      refine wpAnyH_done (by kernel_rfl) ?_ _
      refine NoPanic.normal ?_
      clear hHeld
      go_wp2_with fail
      rw [Exit.noGoto_ret]
      show bodyPostM Fence.wide 5 Try.prog Try.f10 _ Exit.ret _ _
      refine ⟨by simp, .inl ⟨_, _, rfl, run_takeDeferred (show (World.drew W).heap[D]? = _ from HKD.out), ?_⟩⟩
      exact ⟨_, results_tmp2 rfl _ _ _, L, v, 33, rfl, HX.out.sy hlw hD HKD.out, .inr ⟨by rw [← HN.out.1, ← HN.out.2]; exact symR_cut HS.out.2 HS.out.1, HL0.out, rfl⟩⟩
  · skip
    have hLT := hHeld.1.lt
    go_simp
    have hHa : (fun W : World => HW w v0 v1 v2 v3 (some ⟨b9, o9, none⟩) n p W ∧ BC pb1 s z a1 n1 c1 W) (World.alloc W5 (.cells #[.slice none 0 0] 27)) := ⟨hHeld.1.keep ((Below.refl _ _).alloc (Nat.le_refl _) _), hHeld.2.keep ((Below.refl _ _).alloc (Nat.le_refl _) _)⟩
    have hBq : Boxed (World.alloc W5 (.cells #[.slice none 0 0] 27)) (World.heap W5).size 27 (.slice none 0 0) := Boxed.new _ _ _
    refine hK.out _ _ hHa (fun hHeld2 => ?_)
    clear hK K hHeld hHeld2
    have hHeld := hHa
    clear hHa
    have hql : Hid (w.heap.size < (World.heap W5).size) := Lib.hid hLT
    clear hLT
    refine wpAnyH_narrow (S' := (fun W : World => HW w v0 v1 v2 v3 (some ⟨b9, o9, none⟩) n p W ∧ BC pb1 s z a1 n1 c1 W ∧ ∃ p0 q0 r0, Boxed W (World.heap W5).size 27 (.slice p0 q0 r0))) (fun _ h => ⟨h.1, h.2.1⟩) _ _ _ _ ?_
    have hNew : (fun W : World => HW w v0 v1 v2 v3 (some ⟨b9, o9, none⟩) n p W ∧ BC pb1 s z a1 n1 c1 W ∧ ∃ p0 q0 r0, Boxed W (World.heap W5).size 27 (.slice p0 q0 r0)) _ := ⟨hHeld.1, hHeld.2, _, _, _, hBq⟩
    clear hHeld hBq
    have hHeld := hNew
    clear hNew
    generalize World.alloc W5 _ = W6 at hHeld ⊢
    generalize (World.heap W5).size = bq at *
    try simp only [Act.put, List.setIfInBounds_toArray, List.set_cons_zero, List.set_cons_succ, List.getElem_toArray, List.getElem_cons_succ, List.getElem_cons_zero]
    refine wpAnyH_ready (rs := [11]) (by kernel_rfl) (by simp) ?_
    refine AllReadyH.cons rfl (fun K hK => ?_) AllReadyH.nil
    go_simp
    go_at_call 22
    refine (HP2.out _ hHeld.1.2).mono ?_
    rintro e W9x ⟨a2, n2, c2, rfl, hz2, hb⟩
    refine hK.out _ _ (⟨hHeld.1.keep hb, hHeld.2.1.keep hb, hHeld.2.2.choose, hHeld.2.2.choose_spec.choose, hHeld.2.2.choose_spec.choose_spec.choose, Boxed.keep' hHeld.2.2.choose_spec.choose_spec.choose_spec hb⟩) (fun hHeld2 => ?_)
    clear hK K hHeld hb
    have hHeld := hHeld2
    clear hHeld2
    try simp only [Act.put, List.setIfInBounds_toArray, List.set_cons_zero, List.set_cons_succ, List.getElem_toArray, List.getElem_cons_succ, List.getElem_cons_zero]
    have hz3 : BC pb2 x z a2 n2 c2 W9x := hz2
    clear hz2
    refine wpAnyH_narrow (S' := (fun W : World => HW w v0 v1 v2 v3 (some ⟨b9, o9, none⟩) n p W ∧ BC pb1 s z a1 n1 c1 W ∧ BC pb2 x z a2 n2 c2 W ∧ ∃ p0 q0 r0, Boxed W bq 27 (.slice p0 q0 r0))) (fun _ h => ⟨h.1, h.2.1, h.2.2.2⟩) _ _ _ _ ?_
    have hNew : (fun W : World => HW w v0 v1 v2 v3 (some ⟨b9, o9, none⟩) n p W ∧ BC pb1 s z a1 n1 c1 W ∧ BC pb2 x z a2 n2 c2 W ∧ ∃ p0 q0 r0, Boxed W bq 27 (.slice p0 q0 r0)) _ := ⟨hHeld.1, hHeld.2.1, hz3, hHeld.2.2⟩
    clear hHeld hz3
    have hHeld := hNew
    clear hNew
    generalize W9x = W7 at hHeld ⊢
    refine wpAnyH_take (i := 12) (v := ?_) rfl (by kernel_rfl) (by kernel_rfl) (by kernel_rfl) (fun _ _ _ h => h) (Or.inl ⟨by kernel_rfl, ?_⟩) (by assumption) ?_
    rotate_left
    · intro wv hSw
      go_simp
      try with_reducible rfl
    simp only [Act.put, List.setIfInBounds_toArray, List.set_cons_zero, List.set_cons_succ, List.getElem_toArray, List.getElem_cons_succ, List.getElem_cons_zero]
    refine wpAnyH_take (i := 13) (v := ?_) rfl (by kernel_rfl) (by kernel_rfl) (by kernel_rfl) (fun _ _ _ h => h) (Or.inl ⟨by kernel_rfl, ?_⟩) (by assumption) ?_
    rotate_left
    · intro wv hSw
      go_simp
      try with_reducible rfl
    simp only [Act.put, List.setIfInBounds_toArray, List.set_cons_zero, List.set_cons_succ, List.getElem_toArray, List.getElem_cons_succ, List.getElem_cons_zero]
    refine wpAnyH_take (i := 14) (v := ?_) rfl (by kernel_rfl) (by kernel_rfl) (by kernel_rfl) (fun _ _ _ h => h) (Or.inl ⟨by kernel_rfl, ?_⟩) (by assumption) ?_
    rotate_left
    · intro wv hSw
      go_simp
      try with_reducible rfl
    simp only [Act.put, List.setIfInBounds_toArray, List.set_cons_zero, List.set_cons_succ, List.getElem_toArray, List.getElem_cons_succ, List.getElem_cons_zero]
    refine wpAnyH_ready (rs := [16]) (by kernel_rfl) (by simp) ?_
    refine AllReadyH.cons rfl (fun K hK => ?_) AllReadyH.nil
    obtain ⟨p0, q0, r0, hbx⟩ := hHeld.2.2.2
    have hbc := hbx.cell
    have hbf := hbx.frozen
    have hPut : (fun W : World => HW w v0 v1 v2 v3 (some ⟨b9, o9, none⟩) n p W ∧ BC pb1 s z a1 n1 c1 W ∧ BC pb2 x z a2 n2 c2 W ∧ ∃ p0 q0 r0, Boxed W bq 27 (.slice p0 q0 r0)) (World.setCell _ ⟨bq, 0, none⟩ (.slice a2 n2 c2)) := ⟨hHeld.1.put hql.out _, hHeld.2.1.put hbx _, hHeld.2.2.1.put hbx _, _, _, _, hbx.set _⟩
    have hBS := Lib.hid (hbx.set (.slice a2 n2 c2))
    go_simp
    refine hK.out _ _ hPut (fun hHeld2 => ?_)
    clear hK K hHeld hHeld2 hbx hbc hbf
    have hHeld := hPut
    clear hPut
    try simp only [Act.put, List.setIfInBounds_toArray, List.set_cons_zero, List.set_cons_succ, List.getElem_toArray, List.getElem_cons_succ, List.getElem_cons_zero]
    refine wpAnyH_take (i := 17) (v := ?_) rfl (by kernel_rfl) (by kernel_rfl) (by kernel_rfl) (fun _ _ _ h => h) (Or.inl ⟨by kernel_rfl, ?_⟩) (by assumption) ?_
    rotate_left
    · intro wv hSw
      go_simp
      try with_reducible rfl
    simp only [Act.put, List.setIfInBounds_toArray, List.set_cons_zero, List.set_cons_succ, List.getElem_toArray, List.getElem_cons_succ, List.getElem_cons_zero]
    refine wpAnyH_done (by kernel_rfl) ?_ _
    refine NoPanic.normal ?_
    have HR := Lib.hid (And.intro hHeld.1 (And.intro hHeld.2.1 (And.intro hHeld.2.2.1 (And.intro hBS.out hql.out))))
    clear hHeld hBS hql
    generalize World.setCell _ _ _ = W8 at HR ⊢
    obtain ⟨e1, e2⟩ := HPB.out
    subst e1
    subst e2
    obtain ⟨hn1, hz1⟩ := HR.out.2.1 rfl
    obtain ⟨hn2, hz2⟩ := HR.out.2.2.1 rfl
    have hsz := HSZ.out
    rw [← hn1] at hsz
    have HN := Lib.hid (And.intro hn1 hn2)
    have HF := Lib.hid (And.intro HR.out.1 (And.intro hz1 (And.intro hz2 (And.intro HR.out.2.2.2.1 HR.out.2.2.2.2))))
    clear HR hz1 hz2 hn1 hn2 HPB HP1 HP2 HX HK1 HK2 HSZ
    go_upto_region 13 with fail
    have HF2 : Hid ((HW w v0 v1 v2 v3 (some ⟨b9, o9, none⟩) n p (W8.alloc (.cells #[.slice none 0 0] 36)) ∧ BZ (W8.alloc (.cells #[.slice none 0 0] 36)) a1 n1 c1 (shZ z s.2.1) ∧ BZ (W8.alloc (.cells #[.slice none 0 0] 36)) a2 n2 c2 (shZ z x.2.1) ∧ Boxed (W8.alloc (.cells #[.slice none 0 0] 36)) bq 27 (.slice a2 n2 c2) ∧ Boxed (W8.alloc (.cells #[.slice none 0 0] 36)) (World.heap W8).size 36 (.slice none 0 0)) ∧ w.heap.size < bq ∧ bq < (World.heap W8).size) := Lib.hid (by
      have hb := (Below.refl W8.heap.size W8).alloc (Nat.le_refl _) (.cells #[.slice none 0 0] 36)
      exact ⟨⟨HF.out.1.keep hb, HF.out.2.1.keep hb, HF.out.2.2.1.keep hb, Boxed.keep' HF.out.2.2.2.1 hb, Boxed.new _ _ _⟩, HF.out.2.2.2.2, HF.out.2.2.2.1.lt⟩)
    generalize World.alloc W8 _ = W9 at HF2 ⊢
    generalize (World.heap W8).size = bl at HF2 ⊢
    clear HF
    go_wp2_with fail
    have HF3 : Hid ((HW w v0 v1 v2 v3 (some ⟨b9, o9, none⟩) n p (W9.alloc (.cells #[.int .i64 0] 37)) ∧ BZ (W9.alloc (.cells #[.int .i64 0] 37)) a1 n1 c1 (shZ z s.2.1) ∧ BZ (W9.alloc (.cells #[.int .i64 0] 37)) a2 n2 c2 (shZ z x.2.1) ∧ Boxed (W9.alloc (.cells #[.int .i64 0] 37)) bq 27 (.slice a2 n2 c2) ∧ Boxed (W9.alloc (.cells #[.int .i64 0] 37)) bl 36 (.slice none 0 0) ∧ Boxed (W9.alloc (.cells #[.int .i64 0] 37)) (World.heap W9).size 37 (.int .i64 0)) ∧ w.heap.size < bq ∧ bq < bl ∧ bl < (World.heap W9).size) := Lib.hid (by
      have hb := (Below.refl W9.heap.size W9).alloc (Nat.le_refl _) (.cells #[.int .i64 0] 37)
      exact ⟨⟨HF2.out.1.1.keep hb, HF2.out.1.2.1.keep hb, HF2.out.1.2.2.1.keep hb, Boxed.keep' HF2.out.1.2.2.2.1 hb, Boxed.keep' HF2.out.1.2.2.2.2 hb, Boxed.new _ _ _⟩, HF2.out.2.1, HF2.out.2.2, HF2.out.1.2.2.2.2.lt⟩)
    generalize World.alloc W9 _ = W10 at HF3 ⊢
    generalize (World.heap W9).size = be at HF3 ⊢
    clear HF2
    go_step3
    go_wp2_with (first | (go_at_call 23; refine (rows_any a1 n1 c1 _).mono ?_) | fail)
    rintro e W0 ⟨rfl, hT, hb⟩
    have HF0 : Hid (HW w v0 v1 v2 v3 (some ⟨b9, o9, none⟩) n p W0 ∧ BZ W0 a1 n1 c1 (shZ z s.2.1) ∧ BZ W0 a2 n2 c2 (shZ z x.2.1) ∧ Boxed W0 bq 27 (.slice a2 n2 c2) ∧ Boxed W0 bl 36 (.slice none 0 0) ∧ Boxed W0 be 37 (.int .i64 0)) := Lib.hid ⟨HF3.out.1.1.keep hb, HF3.out.1.2.1.keep hb, HF3.out.1.2.2.1.keep hb, Boxed.keep' HF3.out.1.2.2.2.1 hb, Boxed.keep' HF3.out.1.2.2.2.2.1 hb, Boxed.keep' HF3.out.1.2.2.2.2.2 hb⟩
    have HO : Hid (w.heap.size < bq ∧ bq < bl ∧ bl < be ∧ be < (World.heap W10).size) := Lib.hid ⟨HF3.out.2.1, HF3.out.2.2.1, HF3.out.2.2.2, HF3.out.1.2.2.2.2.2.lt⟩
    generalize (World.heap W10).size = B at HO hT ⊢
    clear hb HF3
    have HT := Lib.hid hT
    clear hT
    go_wp2_with fail
    have hBl : B < W0.heap.size := (Array.getElem?_eq_some_iff.1 HT.out).1
    have hbl : w.heap.size ≤ bl := by have := HO.out; omega
    have hbl0 : bl < W0.heap.size := by have := HO.out; omega
    have hne : bl ≠ be := by have := HO.out; omega
    have hbe0 : be < W0.heap.size := by have := HO.out; omega
    have hlw : w.heap.size ≤ W0.heap.size := by omega
    have HG : Hid (∀ q, (gN a1 n1 = some q ∨ q = B) → q < W0.heap.size ∧ q ≠ bl ∧ q ≠ be) := Lib.hid (by
      intro q hq
      rcases hq with hq | rfl
      · unfold gN at hq
        split at hq
        · cases hq
        · obtain ⟨tb, tq, rfl, htc⟩ := HF0.out.2.1.bs (by unfold rowsM at *; omega)
          simp [blk] at hq
          subst hq
          have h1 := htc 0 (by unfold rowsM at *; omega)
          refine ⟨cell_lt' h1, fun e => ?_, fun e => ?_⟩
          · subst e
            unfold World.cell? at h1
            rw [show W0.heap[tb]? = some (.cells #[.slice none 0 0] 36 (0, 0)) from HF0.out.2.2.2.2.1] at h1
            cases ho : tq + 0 with
            | zero => simp [ho] at h1
            | succ i => simp [ho] at h1
          · subst e
            unfold World.cell? at h1
            rw [show W0.heap[tb]? = some (.cells #[.int .i64 0] 37 (0, 0)) from HF0.out.2.2.2.2.2] at h1
            cases ho : tq + 0 with
            | zero => simp [ho] at h1
            | succ i => simp [ho] at h1
      · have := HO.out
        omega)
    have HI1 : Hid (LX w W0 bl be 0 (.slice none 0 0) [] 0 W0) := Lib.hid ⟨HF0.out.2.2.2.2.1, World.ownsRow_nil _ _ _ _, HF0.out.2.2.2.2.2, HF0.out.1.2, Nat.le_refl _, fun _ _ _ _ => rfl⟩
    refine (wpIn_wide (n := 5)).1 ?_
    refine wpIn_rangeFunc_ownH (F := Fence.wide) rfl (by decide) (gf := 34) (lb := #[.pointer (some ⟨B, 0, none⟩)]) rfl trivial (enters_of Try.func34 (by kernel_rfl) rfl)
      (seq_rows a1 n1 c1 B (shZ z s.2.1) (by omega) W0 HT.out HF0.out.2.1 4 (by decide)) kpN_t (fun W l o o' h1 h2 h3 h4 => kpN_b (fun k hk => (HG.out k hk).1) W l o o' h1 h2 h3 h4) (Below.refl _ _) (fun _ => rfl)
      (fun pre W => ∃ L v, symR (shZ z s.2.1) (shZ z x.2.1) n2 (rowsM n1) pre = some L ∧ LX w W0 bl be L.length v (cellsY L) 0 W) (fun c pre W => c = .exit 0 ∧ symR (shZ z s.2.1) (shZ z x.2.1) n2 (rowsM n1) pre = none ∧ LX w W0 bl be 0 (.slice none 0 0) [] 33 W) (fun _ A B row hs hg hr => by
        obtain ⟨L, v, h1, h2⟩ := hs
        exact ⟨L, v, h1, LX.own hlw () A B row h2 hg hr⟩) (fun _ _ A B row hs hg hr => by
        obtain ⟨h0, h1, h2⟩ := hs
        exact ⟨h0, h1, LX.own hlw () A B row h2 hg hr⟩) ⟨[], _, rfl, HI1.out⟩
      (fun k a' (_ : World) => a' = { tmps := #[.slice ab bn bc, .agg #[v0, v1, v2, v3, .slice (some ⟨b9, o9, none⟩) n p], undef, .pointer (some ⟨w.heap.size, 0, none⟩), .slice none 0 0, .int .i64 0, .int .i64 (i : Int), .slice a1 n1 c1, .bool true, .pointer (some ⟨bq, 0, none⟩), .bool true, .pointer (some ⟨bl, 0, none⟩), .pointer (some ⟨be, 0, none⟩), rowV a1 c1 (clN (rowsM n1) k), undef, undef, undef, .pointer (some ⟨w.heap.size, 4, none⟩), .slice (some ⟨b9, o9, none⟩) n p, .int .i64 (n : Int), .bool false, .pointer (some ⟨w.heap.size, 4, none⟩), .slice (some ⟨b9, o9, none⟩) n p, .int .i64 (i : Int), .int .i64 (i : Int), .bool (decide ((i : Int) < 0)), .pointer (some ⟨w.heap.size, 4, none⟩), .slice (some ⟨b9, o9, none⟩) n p, .int .i64 (i : Int), .pointer (some ⟨b9, o9 + i * 5, none⟩), .agg #[.int .u32 (s.1 : Nat), .int .u64 (s.2.1 : Nat), .int .u64 (s.2.2.1 : Nat), .int .u32 (s.2.2.2.1 : Nat), .int .u64 (s.2.2.2.2 : Nat)], .pointer (some ⟨w.heap.size, 4, none⟩), .slice (some ⟨b9, o9, none⟩) n p, .bool true, .bool false, .tuple #[.slice a1 n1 c1, .bool true], .slice ab bn bc, .pointer (some ⟨w.heap.size, 4, none⟩), .slice (some ⟨b9, o9, none⟩) n p, .int .i64 (i : Int), .pointer (some ⟨b9, o9 + i * 5, none⟩), .agg #[.int .u32 (s.1 : Nat), .int .u64 (s.2.1 : Nat), .int .u64 (s.2.2.1 : Nat), .int .u32 (s.2.2.2.1 : Nat), .int .u64 (s.2.2.2.2 : Nat)], .tuple #[.slice a1 n1 c1, .bool true], .slice a1 n1 c1, .bool true, .tuple #[.slice a2 n2 c2, .bool true], .slice ab bn bc, .pointer (some ⟨w.heap.size, 4, none⟩), .slice (some ⟨b9, o9, none⟩) n p, .pointer (some ⟨w.heap.size, 4, none⟩), .slice (some ⟨b9, o9, none⟩) n p, .int .i64 (i : Int), .pointer (some ⟨b9, o9 + i * 5, none⟩), .pointer (some ⟨b9, o9 + i * 5 + 3, none⟩), .int .u32 (s.2.2.2.1 : Nat), .pointer (some ⟨b9, o9 + s.2.2.2.1 * 5, none⟩), .agg #[.int .u32 (x.1 : Nat), .int .u64 (x.2.1 : Nat), .int .u64 (x.2.2.1 : Nat), .int .u32 (x.2.2.2.1 : Nat), .int .u64 (x.2.2.2.2 : Nat)], .tuple #[.slice a2 n2 c2, .bool true], .slice a2 n2 c2, .bool true, .bool true, .bool false, .bool false, .bool true, .bool false, .bool false, .slice a1 n1 c1, .func (.func 34) #[] #[.pointer (some ⟨B, 0, none⟩)], rowV a1 c1 (clN (rowsM n1) k), undef, undef, undef, undef, undef, undef, undef, undef, undef, undef, undef, undef, undef, undef, undef, undef, undef, undef, undef, undef, undef, undef, undef, undef, undef, undef, undef, undef, undef, undef, undef], defers := [] }) (fun _ _ _ _ _ _ hs _ _ => hs) ?assign ?body ?done ?stop
    case assign =>
      rintro l pre k W K hI hK
      gi_wp2_with fail
      exact hK _ _ (below_keeps (Below.refl _ _) _) (kpN_below (Below.refl _ _)) hI rfl
    case body =>
      rintro l pre k0 a' W hl ⟨r, hr⟩ ⟨L, v, hL, hLX⟩ rfl hlt
      have hlen := symR_len hL
      have hLl : L.length < 1000 := by unfold rowsM at hlt; omega
      clear hlen
      have HL := Lib.hid hL
      have HLX := Lib.hid hLX
      have hN : 0 < rowsM n1 := by omega
      have hkN : clN (rowsM n1) k0 < rowsM n1 := clN_in hN
      obtain ⟨k, hk⟩ : ∃ k, clN (rowsM n1) k0 = k := ⟨_, rfl⟩
      have HKK := Lib.hid hk
      rw [hk] at hkN ⊢
      clear hk hL hr
      have hn1 : 24 * (k + 1) + 24 ≤ n1 := by unfold rowsM at hkN; omega
      obtain ⟨tb, tq, rfl, htc⟩ := HF0.out.2.1.bs (by omega)
      have hnc := HF0.out.2.1.2
      have hcr : 24 ≤ c1 - 24 * (k + 1) ∧ c1 - 24 * (k + 1) ≤ 9223372036854775807 := by omega
      have hrow : rowV (some ⟨tb, tq, none⟩) c1 k = .slice (some ⟨tb, tq + 24 * (k + 1), none⟩) 24 (c1 - 24 * (k + 1)) := rfl
      rw [hrow]
      have HTC : Hid (∀ W', Keep2 W0 bl be W' → ∀ j, j < 24 → W'.cell? ⟨tb, tq + 24 * (k + 1) + j, none⟩ = some (.int .u8 (shZ (shZ z s.2.1) (24 * (k + 1)) j : Nat))) := Lib.hid (fun W' hk j hj => by
        have hz := (HF0.out.2.1.keep2 HF0.out.2.2.2.2.1 HF0.out.2.2.2.2.2 hk).bs (by omega)
        obtain ⟨b2, o2, he, hc⟩ := hz
        cases he
        have := hc (24 * (k + 1) + j) (by omega)
        rwa [← Nat.add_assoc] at this)
      clear htc hrow
      generalize c1 - 24 * (k + 1) = cr at *
      generalize tq + 24 * (k + 1) = ro at *
      have hC24 := CallsIn.inRound l (callsIn_wide (n := 5 - 1 - 1 - 1).2 (show Calls Try.prog 24 #[.slice (some ⟨tb, ro, none⟩) 24 cr] W fun e W' => e = .returned (.func (.func 35) #[] #[.pointer (some ⟨W.heap.size, 0, none⟩)]) ∧ TakeIs W' W.heap.size (.slice (some ⟨tb, ro, none⟩) 24 cr) ∧ Below W.heap.size W W' from number24_any (some ⟨tb, ro, none⟩) 24 cr W))
      gi_wp2_with fail
      refine ⟨trivial, hC24.mono ?_⟩
      clear hC24
      rintro e W2 ⟨rfl, hT, hb⟩
      gi_wp2_with fail
      obtain ⟨Wd, hWd⟩ : ∃ Wd, World.drew W2 = Wd := ⟨_, rfl⟩
      obtain ⟨g, hg⟩ : ∃ g, (World.heap W).size = g := ⟨_, rfl⟩
      have HK : Hid (KeepsFrom W0.heap.size W Wd) := Lib.hid (by
        rw [← hWd]
        exact below_keeps hb.drew _)
      have HD : Hid (LX w W0 bl be L.length v (cellsY L) 0 Wd ∧ TakeIs Wd g (.slice (some ⟨tb, ro, none⟩) 24 cr) ∧ Boxed Wd bq 27 (.slice a2 n2 c2)) := Lib.hid (by
        rw [← hWd, ← hg]
        have h1 := HLX.out.keep hb.drew
        refine ⟨h1, hT, (h1.k2 bq ?_ ?_ ?_).trans HF0.out.2.2.2.1⟩ <;> (have := HO.out; omega))
      rw [hg] at hT ⊢
      clear hT hb hg
      obtain ⟨We, hWe⟩ : ∃ We, World.drew Wd = We := ⟨_, rfl⟩
      have HE : Hid (LX w W0 bl be L.length v (cellsY L) 0 We ∧ TakeIs We g (.slice (some ⟨tb, ro, none⟩) 24 cr)) := Lib.hid (by rw [← hWe]; exact ⟨HD.out.1.drew, HD.out.2.1⟩)
      have HKE : Hid (KeepsFrom W0.heap.size W We) := Lib.hid (HK.out.trans (by rw [← hWe]; exact below_keeps (Below.refl _ Wd).drew _))
      have HTK : ∀ W1, TakeIs W1 g (.slice (some ⟨tb, ro, none⟩) 24 cr) → Keep2 W0 bl be W1 → ∀ o s', o + s' ≤ 24 → 1 ≤ s' → s' ≤ 8 → Calls Try.prog 35 #[.int .i64 (o : Nat), .int .i64 (s' : Nat), .pointer (some ⟨g, 0, none⟩)] W1 fun e W' => e = .returned (.int .u64 (numZ (shZ z s.2.1) (24 * (k + 1) + o) s' : Nat)) ∧ W' = W1 := fun W1 hT1 hK1 o s' h1 h2 h3 => by
        have := take_any g tb ro 24 cr (shZ (shZ z s.2.1) (24 * (k + 1))) (fun j => hzz _) o s' h1 h2 h3 hcr.1 hcr.2 W1 hT1 (HTC.out W1 hK1)
        rwa [numZ_sh] at this
      have b0 := numZ_lt (shZ z s.2.1) (fun j => hzz _) (24 * (k + 1)) 4
      have b4 := numZ_lt (shZ z s.2.1) (fun j => hzz _) (24 * (k + 1) + 4) 1
      have b6 := numZ_lt (shZ z s.2.1) (fun j => hzz _) (24 * (k + 1) + 6) 2
      have hsy : symZ (shZ z s.2.1) (shZ z x.2.1) n2 k = (nameZ (shZ z x.2.1) n2 (numZ (shZ z s.2.1) (24 * (k + 1)) 4)).map fun nm => (nm, numZ (shZ z s.2.1) (24 * (k + 1) + 8) 8, numZ (shZ z s.2.1) (24 * (k + 1) + 16) 8, (numZ (shZ z s.2.1) (24 * (k + 1) + 4) 1 % 16 == 2) && !(numZ (shZ z s.2.1) (24 * (k + 1) + 6) 2 == 0)) := rfl
      have T04 := HTK Wd HD.out.2.1 HD.out.1.k2 0 4 (by decide) (by decide) (by decide)
      have T41 := HTK We HE.out.2 HE.out.1.k2 4 1 (by decide) (by decide) (by decide)
      have T62 := HTK We HE.out.2 HE.out.1.k2 6 2 (by decide) (by decide) (by decide)
      have T88 := HTK We HE.out.2 HE.out.1.k2 8 8 (by decide) (by decide) (by decide)
      have T168 := HTK We HE.out.2 HE.out.1.k2 16 8 (by decide) (by decide) (by decide)
      rw [Nat.add_zero] at T04
      clear HTK
      have hNM := named_any a2 n2 c2 (shZ z x.2.1) (fun j => hzz _) (numZ (shZ z s.2.1) (24 * (k + 1)) 4) (by omega) Wd (HF0.out.2.2.1.keep2 HF0.out.2.2.2.2.1 HF0.out.2.2.2.2.2 HD.out.1.k2)
      generalize numZ (shZ z s.2.1) (24 * (k + 1)) 4 = m0 at *
      generalize numZ (shZ z s.2.1) (24 * (k + 1) + 4) 1 = m4 at *
      generalize numZ (shZ z s.2.1) (24 * (k + 1) + 6) 2 = m6 at *
      generalize numZ (shZ z s.2.1) (24 * (k + 1) + 8) 8 = m8 at *
      generalize numZ (shZ z s.2.1) (24 * (k + 1) + 16) 8 = m16 at *
      rcases hnm : nameZ (shZ z x.2.1) n2 m0 with _ | nm
      · have HSY : Hid (symZ (shZ z s.2.1) (shZ z x.2.1) n2 k = none) := Lib.hid (by rw [hsy, hnm]; rfl)
        have HNM : Hid (Calls Try.prog 25 #[.slice a2 n2 c2, .int .u64 (m0 : Nat)] Wd fun e W' => e = .returned (.tuple #[.string ⟨#[]⟩, .bool false]) ∧ W' = Wd) := Lib.hid (hNM.mono (fun e W' h => ⟨by have h2 := NamedOf.name (sz := shZ z x.2.1) (fun j => hzz _) h.1; rw [hnm] at h2; exact h2, h.2⟩))
        have HT04 := Lib.hid T04
        clear hNM hnm hsy T04 T41 T62 T88 T168 b0 b4 b6
        refine wpIn_region_round (S := fun W' : World => W' = Wd) (by kernel_rfl) (by kernel_rfl) hWd (fun hHeld => ?_)
        rw [hWd] at hHeld ⊢
        clear hHeld
        have hHeld : (fun W' : World => W' = Wd) Wd := rfl
        refine wpAnyH_take (i := 0) (v := ?_) rfl (by kernel_rfl) (by kernel_rfl) (by kernel_rfl) (fun _ _ _ h => h) (Or.inl ⟨by kernel_rfl, ?_⟩) (by assumption) ?_
        rotate_left
        · intro wv hSw
          have hSe : wv = Wd := hSw
          subst hSe
          have cq := HD.out.2.2.cell
          go_simp
          try with_reducible rfl
        simp only [Act.put, List.setIfInBounds_toArray, List.set_cons_zero, List.set_cons_succ, List.getElem_toArray, List.getElem_cons_succ, List.getElem_cons_zero]
        refine wpAnyH_take (i := 1) (v := ?_) rfl (by kernel_rfl) (by kernel_rfl) (by kernel_rfl) (fun _ _ _ h => h) (Or.inl ⟨by kernel_rfl, ?_⟩) (by assumption) ?_
        rotate_left
        · intro wv hSw
          go_simp
          try with_reducible rfl
        simp only [Act.put, List.setIfInBounds_toArray, List.set_cons_zero, List.set_cons_succ, List.getElem_toArray, List.getElem_cons_succ, List.getElem_cons_zero]
        refine wpAnyH_ready (rs := [2]) (by kernel_rfl) (by simp) ?_
        refine AllReadyH.cons rfl (fun K hK => ?_) AllReadyH.nil
        go_simp
        go_at_call 35
        refine HT04.out.mono ?_
        rintro e W9x ⟨rfl, hw9⟩
        rw [hw9]
        clear hw9
        refine hK.out _ _ rfl (fun hHeld2 => ?_)
        clear hK K hHeld hHeld2
        have hHeld : (fun W' : World => W' = Wd) Wd := rfl
        try simp only [Act.put, List.setIfInBounds_toArray, List.set_cons_zero, List.set_cons_succ, List.getElem_toArray, List.getElem_cons_succ, List.getElem_cons_zero]
        refine wpAnyH_ready (rs := [3]) (by kernel_rfl) (by simp) ?_
        refine AllReadyH.cons rfl (fun K hK => ?_) AllReadyH.nil
        go_simp
        go_at_call 25
        refine HNM.out.mono ?_
        rintro e W9x ⟨rfl, hw9⟩
        rw [hw9]
        clear hw9
        refine hK.out _ _ rfl (fun hHeld2 => ?_)
        clear hK K hHeld hHeld2
        have hHeld : (fun W' : World => W' = Wd) Wd := rfl
        try simp only [Act.put, List.setIfInBounds_toArray, List.set_cons_zero, List.set_cons_succ, List.getElem_toArray, List.getElem_cons_succ, List.getElem_cons_zero]
        refine wpAnyH_take (i := 4) (v := ?_) rfl (by kernel_rfl) (by kernel_rfl) (by kernel_rfl) (fun _ _ _ h => h) (Or.inl ⟨by kernel_rfl, ?_⟩) (by assumption) ?_
        rotate_left
        · intro wv hSw
          go_simp
          try with_reducible rfl
        simp only [Act.put, List.setIfInBounds_toArray, List.set_cons_zero, List.set_cons_succ, List.getElem_toArray, List.getElem_cons_succ, List.getElem_cons_zero]
        refine wpAnyH_take (i := 5) (v := ?_) rfl (by kernel_rfl) (by kernel_rfl) (by kernel_rfl) (fun _ _ _ h => h) (Or.inl ⟨by kernel_rfl, ?_⟩) (by assumption) ?_
        rotate_left
        · intro wv hSw
          go_simp
          try with_reducible rfl
        simp only [Act.put, List.setIfInBounds_toArray, List.set_cons_zero, List.set_cons_succ, List.getElem_toArray, List.getElem_cons_succ, List.getElem_cons_zero]
        refine wpAnyH_take (i := 6) (v := ?_) rfl (by kernel_rfl) (by kernel_rfl) (by kernel_rfl) (fun _ _ _ h => h) (Or.inl ⟨by kernel_rfl, ?_⟩) (by assumption) ?_
        rotate_left
        · intro wv hSw
          go_simp
          try with_reducible rfl
        simp only [Act.put, List.setIfInBounds_toArray, List.set_cons_zero, List.set_cons_succ, List.getElem_toArray, List.getElem_cons_succ, List.getElem_cons_zero]
        refine wpAnyH_take (i := 7) (v := ?_) rfl (by kernel_rfl) (by kernel_rfl) (by kernel_rfl) (fun _ _ _ h => h) (Or.inl ⟨by kernel_rfl, ?_⟩) (by assumption) ?_
        rotate_left
        · intro wv hSw
          go_simp
          try with_reducible rfl
        simp only [Act.put, List.setIfInBounds_toArray, List.set_cons_zero, List.set_cons_succ, List.getElem_toArray, List.getElem_cons_succ, List.getElem_cons_zero]
        refine wpAnyH_take (i := 8) (v := ?_) rfl (by kernel_rfl) (by kernel_rfl) (by kernel_rfl) (fun _ _ _ h => h) (Or.inl ⟨by kernel_rfl, ?_⟩) (by assumption) ?_
        rotate_left
        · intro wv hSw
          go_simp
          try with_reducible rfl
        simp only [Act.put, List.setIfInBounds_toArray, List.set_cons_zero, List.set_cons_succ, List.getElem_toArray, List.getElem_cons_succ, List.getElem_cons_zero]
        refine wpAnyH_done (by kernel_rfl) ?_ _
        refine OnlyN.mk ?_
        clear hHeld
        obtain ⟨hZ1, hZ2, hZ3⟩ := HD.out.1.fail hbl hbl0 hne hbe0 (by have := HO.out; omega)
        have hb1 := HD.out.1.box.cell
        have hf1 := HD.out.1.box.frozen
        have hb2 := hZ3.cell
        have hf2 := hZ3.frozen
        have HZ := Lib.hid (And.intro hZ1 hZ2)
        clear hZ1 hZ2 hZ3
        gi_wp2_with fail
        refine ⟨HK.out.trans (HZ.out.2.from _), rfl, ?_, HZ.out.1⟩
        rw [symR_snoc, HL.out, HKK.out, HSY.out]
        rfl
      · have HSY : Hid (symZ (shZ z s.2.1) (shZ z x.2.1) n2 k = some (nm, m8, m16, (m4 % 16 == 2) && !(m6 == 0))) := Lib.hid (by rw [hsy, hnm]; rfl)
        have HNM : Hid (Calls Try.prog 25 #[.slice a2 n2 c2, .int .u64 (m0 : Nat)] Wd fun e W' => e = .returned (.tuple #[.string nm, .bool true]) ∧ W' = Wd) := Lib.hid (hNM.mono (fun e W' h => ⟨by have h2 := NamedOf.name (sz := shZ z x.2.1) (fun j => hzz _) h.1; rw [hnm] at h2; exact h2, h.2⟩))
        have HT04 := Lib.hid T04
        clear hNM hnm hsy T04
        have hT41 := Lib.hid T41
        have hT62 := Lib.hid T62
        have hT88 := Lib.hid T88
        have hT168 := Lib.hid T168
        clear T41 T62 T88 T168
        refine wpIn_region_round (S := fun W' : World => W' = Wd) (by kernel_rfl) (by kernel_rfl) hWd (fun hHeld => ?_)
        rw [hWd] at hHeld ⊢
        clear hHeld
        have hHeld : (fun W' : World => W' = Wd) Wd := rfl
        refine wpAnyH_take (i := 0) (v := ?_) rfl (by kernel_rfl) (by kernel_rfl) (by kernel_rfl) (fun _ _ _ h => h) (Or.inl ⟨by kernel_rfl, ?_⟩) (by assumption) ?_
        rotate_left
        · intro wv hSw
          have hSe : wv = Wd := hSw
          subst hSe
          have cq := HD.out.2.2.cell
          go_simp
          try with_reducible rfl
        simp only [Act.put, List.setIfInBounds_toArray, List.set_cons_zero, List.set_cons_succ, List.getElem_toArray, List.getElem_cons_succ, List.getElem_cons_zero]
        refine wpAnyH_take (i := 1) (v := ?_) rfl (by kernel_rfl) (by kernel_rfl) (by kernel_rfl) (fun _ _ _ h => h) (Or.inl ⟨by kernel_rfl, ?_⟩) (by assumption) ?_
        rotate_left
        · intro wv hSw
          go_simp
          try with_reducible rfl
        simp only [Act.put, List.setIfInBounds_toArray, List.set_cons_zero, List.set_cons_succ, List.getElem_toArray, List.getElem_cons_succ, List.getElem_cons_zero]
        refine wpAnyH_ready (rs := [2]) (by kernel_rfl) (by simp) ?_
        refine AllReadyH.cons rfl (fun K hK => ?_) AllReadyH.nil
        go_simp
        go_at_call 35
        refine HT04.out.mono ?_
        rintro e W9x ⟨rfl, hw9⟩
        rw [hw9]
        clear hw9
        refine hK.out _ _ rfl (fun hHeld2 => ?_)
        clear hK K hHeld hHeld2
        have hHeld : (fun W' : World => W' = Wd) Wd := rfl
        try simp only [Act.put, List.setIfInBounds_toArray, List.set_cons_zero, List.set_cons_succ, List.getElem_toArray, List.getElem_cons_succ, List.getElem_cons_zero]
        refine wpAnyH_ready (rs := [3]) (by kernel_rfl) (by simp) ?_
        refine AllReadyH.cons rfl (fun K hK => ?_) AllReadyH.nil
        go_simp
        go_at_call 25
        refine HNM.out.mono ?_
        rintro e W9x ⟨rfl, hw9⟩
        rw [hw9]
        clear hw9
        refine hK.out _ _ rfl (fun hHeld2 => ?_)
        clear hK K hHeld hHeld2
        have hHeld : (fun W' : World => W' = Wd) Wd := rfl
        try simp only [Act.put, List.setIfInBounds_toArray, List.set_cons_zero, List.set_cons_succ, List.getElem_toArray, List.getElem_cons_succ, List.getElem_cons_zero]
        refine wpAnyH_take (i := 4) (v := ?_) rfl (by kernel_rfl) (by kernel_rfl) (by kernel_rfl) (fun _ _ _ h => h) (Or.inl ⟨by kernel_rfl, ?_⟩) (by assumption) ?_
        rotate_left
        · intro wv hSw
          go_simp
          try with_reducible rfl
        simp only [Act.put, List.setIfInBounds_toArray, List.set_cons_zero, List.set_cons_succ, List.getElem_toArray, List.getElem_cons_succ, List.getElem_cons_zero]
        refine wpAnyH_take (i := 5) (v := ?_) rfl (by kernel_rfl) (by kernel_rfl) (by kernel_rfl) (fun _ _ _ h => h) (Or.inl ⟨by kernel_rfl, ?_⟩) (by assumption) ?_
        rotate_left
        · intro wv hSw
          go_simp
          try with_reducible rfl
        simp only [Act.put, List.setIfInBounds_toArray, List.set_cons_zero, List.set_cons_succ, List.getElem_toArray, List.getElem_cons_succ, List.getElem_cons_zero]
        refine wpAnyH_take (i := 6) (v := ?_) rfl (by kernel_rfl) (by kernel_rfl) (by kernel_rfl) (fun _ _ _ h => h) (Or.inl ⟨by kernel_rfl, ?_⟩) (by assumption) ?_
        rotate_left
        · intro wv hSw
          go_simp
          try with_reducible rfl
        simp only [Act.put, List.setIfInBounds_toArray, List.set_cons_zero, List.set_cons_succ, List.getElem_toArray, List.getElem_cons_succ, List.getElem_cons_zero]
        refine wpAnyH_take (i := 7) (v := ?_) rfl (by kernel_rfl) (by kernel_rfl) (by kernel_rfl) (fun _ _ _ h => h) (Or.inl ⟨by kernel_rfl, ?_⟩) (by assumption) ?_
        rotate_left
        · intro wv hSw
          go_simp
          try with_reducible rfl
        simp only [Act.put, List.setIfInBounds_toArray, List.set_cons_zero, List.set_cons_succ, List.getElem_toArray, List.getElem_cons_succ, List.getElem_cons_zero]
        refine wpAnyH_take (i := 8) (v := ?_) rfl (by kernel_rfl) (by kernel_rfl) (by kernel_rfl) (fun _ _ _ h => h) (Or.inl ⟨by kernel_rfl, ?_⟩) (by assumption) ?_
        rotate_left
        · intro wv hSw
          go_simp
          try with_reducible rfl
        simp only [Act.put, List.setIfInBounds_toArray, List.set_cons_zero, List.set_cons_succ, List.getElem_toArray, List.getElem_cons_succ, List.getElem_cons_zero]
        refine wpAnyH_done (by kernel_rfl) ?_ _
        refine OnlyN.mk ?_
        clear hHeld
        gi_wp2_with fail
        clear HD HK hWd HNM HT04 HTC
        have e15 : bits BinOp.and IntKind.u64 (m4 : Int) 15 = ((m4 % 16 : Nat) : Int) := low15 ⟨m4, by simpa using b4⟩
        by_cases hf1 : m4 % 16 = 2
        · rw [hf1] at e15
          replace e15 : bits BinOp.and IntKind.u64 (m4 : Int) 15 = 2 := e15
          by_cases hf2 : m6 = 0
          · subst hf2
            have hf2 : (0 : Nat) = 0 := rfl
            have cl : We.cell? ⟨bl, 0, none⟩ = some v := HE.out.1.box.cell
            refine wpIn_region_roundZ 18 (S := fun W' : World => W'.cell? ⟨bl, 0, none⟩ = some v) (by kernel_rfl) (by kernel_rfl) (by rw [hWe]; exact cl) (fun hHeld => ?_)
            clear hHeld
            rw [hWe]
            have hHeld : (fun W' : World => W'.cell? ⟨bl, 0, none⟩ = some v) We := cl
            clear cl
            refine wpAnyZ_take (i := 0) (v := ?_) rfl (by kernel_rfl) (by kernel_rfl) (by kernel_rfl) (by kernel_rfl) (fun _ _ _ h => h) (Or.inl ⟨by kernel_rfl, ?_⟩) hHeld ?_
            rotate_left
            · intro wv hSw
              have cq : World.cell? wv ⟨bl, 0, none⟩ = some v := hSw
              go_simp
              try with_reducible rfl
            simp only [Act.put, List.setIfInBounds_toArray, List.set_cons_zero, List.set_cons_succ, List.getElem_toArray, List.getElem_cons_succ, List.getElem_cons_zero]
            refine wpAnyZ_take (i := 1) (v := ?_) rfl (by kernel_rfl) (by kernel_rfl) (by kernel_rfl) (by kernel_rfl) (fun _ _ _ h => h) (Or.inl ⟨by kernel_rfl, ?_⟩) hHeld ?_
            rotate_left
            · intro wv hSw
              go_simp
              try with_reducible rfl
            simp only [Act.put, List.setIfInBounds_toArray, List.set_cons_zero, List.set_cons_succ, List.getElem_toArray, List.getElem_cons_succ, List.getElem_cons_zero]
            refine wpAnyZ_take (i := 2) (v := ?_) rfl (by kernel_rfl) (by kernel_rfl) (by kernel_rfl) (by kernel_rfl) (fun _ _ _ h => h) (Or.inl ⟨by kernel_rfl, ?_⟩) hHeld ?_
            rotate_left
            · intro wv hSw
              go_simp
              try with_reducible rfl
            simp only [Act.put, List.setIfInBounds_toArray, List.set_cons_zero, List.set_cons_succ, List.getElem_toArray, List.getElem_cons_succ, List.getElem_cons_zero]
            refine wpAnyZ_take (i := 4) (v := ?_) rfl (by kernel_rfl) (by kernel_rfl) (by kernel_rfl) (by kernel_rfl) (fun _ _ _ h => h) (Or.inl ⟨by kernel_rfl, ?_⟩) hHeld ?_
            rotate_left
            · intro wv hSw
              go_simp
              try with_reducible rfl
            simp only [Act.put, List.setIfInBounds_toArray, List.set_cons_zero, List.set_cons_succ, List.getElem_toArray, List.getElem_cons_succ, List.getElem_cons_zero]
            refine wpAnyZ_take (i := 6) (v := ?_) rfl (by kernel_rfl) (by kernel_rfl) (by kernel_rfl) (by kernel_rfl) (fun _ _ _ h => h) (Or.inl ⟨by kernel_rfl, ?_⟩) hHeld ?_
            rotate_left
            · intro wv hSw
              go_simp
              try with_reducible rfl
            simp only [Act.put, List.setIfInBounds_toArray, List.set_cons_zero, List.set_cons_succ, List.getElem_toArray, List.getElem_cons_succ, List.getElem_cons_zero]
            refine wpAnyZ_one (i := 3) (by kernel_rfl) rfl (fun K hK => ?_)
            go_simp
            go_at_call 35
            refine hT88.out.mono ?_
            rintro e W9x ⟨rfl, hw9⟩
            rw [hw9]
            clear hw9
            refine hK.out _ _ (fun _ => hHeld) ?_
            clear hK K
            try simp only [Act.put, List.setIfInBounds_toArray, List.set_cons_zero, List.set_cons_succ, List.getElem_toArray, List.getElem_cons_succ, List.getElem_cons_zero]
            refine wpAnyZ_one (i := 5) (by kernel_rfl) rfl (fun K hK => ?_)
            go_simp
            go_at_call 35
            refine hT168.out.mono ?_
            rintro e W9x ⟨rfl, hw9⟩
            rw [hw9]
            clear hw9
            refine hK.out _ _ (fun _ => hHeld) ?_
            clear hK K
            try simp only [Act.put, List.setIfInBounds_toArray, List.set_cons_zero, List.set_cons_succ, List.getElem_toArray, List.getElem_cons_succ, List.getElem_cons_zero]
            refine wpAnyZ_one (i := 7) (by kernel_rfl) rfl (fun K hK => ?_)
            go_simp
            go_at_call 35
            refine hT41.out.mono ?_
            rintro e W9x ⟨rfl, hw9⟩
            rw [hw9]
            clear hw9
            refine hK.out _ _ (fun _ => hHeld) ?_
            clear hK K
            try simp only [Act.put, List.setIfInBounds_toArray, List.set_cons_zero, List.set_cons_succ, List.getElem_toArray, List.getElem_cons_succ, List.getElem_cons_zero]
            refine wpAnyZ_take (i := 8) (v := ?_) rfl (by kernel_rfl) (by kernel_rfl) (by kernel_rfl) (by kernel_rfl) (fun _ _ _ h => h) (Or.inl ⟨by kernel_rfl, ?_⟩) hHeld ?_
            rotate_left
            · intro wv hSw
              go_simp
              try with_reducible rfl
            simp only [Act.put, List.setIfInBounds_toArray, List.set_cons_zero, List.set_cons_succ, List.getElem_toArray, List.getElem_cons_succ, List.getElem_cons_zero]
            refine wpAnyZ_take (i := 9) (v := ?_) rfl (by kernel_rfl) (by kernel_rfl) (by kernel_rfl) (by kernel_rfl) (fun _ _ _ h => h) (Or.inl ⟨by kernel_rfl, ?_⟩) hHeld ?_
            rotate_left
            · intro wv hSw
              go_simp
              try with_reducible rfl
            simp only [Act.put, List.setIfInBounds_toArray, List.set_cons_zero, List.set_cons_succ, List.getElem_toArray, List.getElem_cons_succ, List.getElem_cons_zero]
            refine wpAnyZ_take (i := 10) (v := ?_) rfl (by kernel_rfl) (by kernel_rfl) (by kernel_rfl) (by kernel_rfl) (fun _ _ _ h => h) (Or.inl ⟨by kernel_rfl, ?_⟩) hHeld ?_
            rotate_left
            · intro wv hSw
              go_simp
              try with_reducible rfl
            simp only [Act.put, List.setIfInBounds_toArray, List.set_cons_zero, List.set_cons_succ, List.getElem_toArray, List.getElem_cons_succ, List.getElem_cons_zero]
            refine wpAnyZ_take (i := 11) (v := ?_) rfl (by kernel_rfl) (by kernel_rfl) (by kernel_rfl) (by kernel_rfl) (fun _ _ _ h => h) (Or.inl ⟨by kernel_rfl, ?_⟩) hHeld ?_
            rotate_left
            · intro wv hSw
              go_simp
              try with_reducible rfl
            simp only [Act.put, List.setIfInBounds_toArray, List.set_cons_zero, List.set_cons_succ, List.getElem_toArray, List.getElem_cons_succ, List.getElem_cons_zero]
            refine wpAnyZ_one (i := 12) (by kernel_rfl) rfl (fun K hK => ?_)
            go_simp
            go_at_call 35
            refine hT62.out.mono ?_
            rintro e W9x ⟨rfl, hw9⟩
            rw [hw9]
            clear hw9
            refine hK.out _ _ (fun _ => hHeld) ?_
            clear hK K
            try simp only [Act.put, List.setIfInBounds_toArray, List.set_cons_zero, List.set_cons_succ, List.getElem_toArray, List.getElem_cons_succ, List.getElem_cons_zero]
            refine wpAnyZ_take (i := 13) (v := ?_) rfl (by kernel_rfl) (by kernel_rfl) (by kernel_rfl) (by kernel_rfl) (fun _ _ _ h => h) (Or.inl ⟨by kernel_rfl, ?_⟩) hHeld ?_
            rotate_left
            · intro wv hSw
              go_simp
              try with_reducible rfl
            simp only [Act.put, List.setIfInBounds_toArray, List.set_cons_zero, List.set_cons_succ, List.getElem_toArray, List.getElem_cons_succ, List.getElem_cons_zero]
            refine wpAnyZ_take (i := 14) (v := ?_) rfl (by kernel_rfl) (by kernel_rfl) (by kernel_rfl) (by kernel_rfl) (fun _ _ _ h => h) (Or.inl ⟨by kernel_rfl, ?_⟩) hHeld ?_
            rotate_left
            · intro wv hSw
              go_simp
              try with_reducible rfl
            simp only [Act.put, List.setIfInBounds_toArray, List.set_cons_zero, List.set_cons_succ, List.getElem_toArray, List.getElem_cons_succ, List.getElem_cons_zero]
            refine wpAnyZ_take (i := 15) (v := ?_) rfl (by kernel_rfl) (by kernel_rfl) (by kernel_rfl) (by kernel_rfl) (fun _ _ _ h => h) (Or.inl ⟨by kernel_rfl, ?_⟩) hHeld ?_
            rotate_left
            · intro wv hSw
              go_simp
              try with_reducible rfl
            simp only [Act.put, List.setIfInBounds_toArray, List.set_cons_zero, List.set_cons_succ, List.getElem_toArray, List.getElem_cons_succ, List.getElem_cons_zero]
            refine wpAnyZ_one (i := 16) (by kernel_rfl) rfl (fun K hK => ?_)
            go_simp
            refine hK.out _ _ (fun _ => (HE.out.1.box.alloc _).cell) ?_
            clear hK K hHeld
            have hHeld := (HE.out.1.box.alloc (.cells #[.string nm, .int .u64 (m8 : Nat), .int .u64 (m16 : Nat), .bool false] 42)).cell
            try simp only [Act.put, List.setIfInBounds_toArray, List.set_cons_zero, List.set_cons_succ, List.getElem_toArray, List.getElem_cons_succ, List.getElem_cons_zero]
            refine wpAnyZ_one (i := 17) (by kernel_rfl) rfl (fun K hK => ?_)
            rw [if_pos (by kernel_rfl)]
            refine wp_append_own _ _ _ 36 rfl W0.heap.size 42 i0 (.agg #[.string ⟨#[]⟩, .int .u64 0, .int .u64 0, .bool false]) 4 40 Try.underlying36 HI0.out.1 HI0.out.2.1 HI0.out.2.2.1 HI0.out.2.2.2 rfl (by decide) _ L.length (cellsY L) rfl (HE.out.1.keep ((Below.refl _ _).alloc (Nat.le_refl _) _)).row ⟨_, 0, none⟩ 1 1 (Sy.cs (nm, m8, m16, false)) rfl rfl (cells_newY _ nm m8 m16 false) (ones_y _) (by unfold maxLen; omega) (by omega) (by have := HE.out.1.size; simp; omega) ?_
            intro v2 w2 hown hgr _
            obtain ⟨hA, hA2, hA3⟩ := HE.out.1.app hlw hbl hbl0 hne hbe0 hown hgr
            have hown2 := hown
            obtain ⟨g2, cap2, rfl⟩ := ownsRow_succ hown2
            have HA := Lib.hid (And.intro hA hA2)
            have hc := hA3.cell
            have hf := hA3.frozen
            clear hown hown2 hgr hA hA2
            refine hK.out _ _ (fun _ => hc) ?_
            clear hK K hHeld
            try simp only [Act.put, List.setIfInBounds_toArray, List.set_cons_zero, List.set_cons_succ, List.getElem_toArray, List.getElem_cons_succ, List.getElem_cons_zero]
            refine wpAnyZ_one (i := 18) (by kernel_rfl) rfl (fun K hK => ?_)
            go_simp
            refine hK.out _ _ (fun h => absurd rfl h) ?_
            clear hK K hc hf hA3
            try simp only [Act.put, List.setIfInBounds_toArray, List.set_cons_zero, List.set_cons_succ, List.getElem_toArray, List.getElem_cons_succ, List.getElem_cons_zero]
            refine wpAnyZ_done (by kernel_rfl) ?_ _
            refine OnlyN.mk ?_
            gi_wp2
            have hsy : symZ (shZ z s.2.1) (shZ z x.2.1) n2 k = some (nm, m8, m16, false) := by rw [HSY.out]; simp [hf1, hf2]
            have hfin : symR (shZ z s.2.1) (shZ z x.2.1) n2 (rowsM n1) (pre ++ [k0]) = some (L ++ [(nm, m8, m16, false)]) ∧ LX w W0 bl be (L ++ [(nm, m8, m16, false)]).length (.slice (some ⟨g2, 0, none⟩) (L.length + 1) cap2) (cellsY (L ++ [(nm, m8, m16, false)])) 0 (World.setCell w2 ⟨bl, 0, none⟩ (.slice (some ⟨g2, 0, none⟩) (L.length + 1) cap2)) := by
              refine ⟨?_, ?_⟩
              · rw [symR_snoc, HL.out, HKK.out, hsy]
                rfl
              · have hca : cellsY (L ++ [(nm, m8, m16, false)]) = cellsY L ++ Sy.cs (nm, m8, m16, false) := by simp [cellsY]
                rw [List.length_append, hca]
                exact HA.out.1
            first
              | exact ⟨HKE.out.trans (HA.out.2.from _), LX.kpN HLX.out HA.out.1 (Nat.le_trans HKE.out.size HA.out.2.size) HG.out, ⟨L ++ [(nm, m8, m16, false)], ⟨_, hfin⟩⟩⟩
              | exact ⟨HKE.out.trans (HA.out.2.from _), LX.kpN HLX.out HA.out.1 (Nat.le_trans HKE.out.size HA.out.2.size) HG.out, ⟨L ++ [(nm, m8, m16, false)], hfin.1, _, hfin.2⟩⟩
          · have dm : ((m6 : Int) == 0) = false := by
              rw [beq_eq_false_iff_ne]
              omega
            have dm2 : ((m6 : Int) != 0) = true := by rw [bne, dm]; rfl
            have cl : We.cell? ⟨bl, 0, none⟩ = some v := HE.out.1.box.cell
            refine wpIn_region_roundZ 18 (S := fun W' : World => W'.cell? ⟨bl, 0, none⟩ = some v) (by kernel_rfl) (by kernel_rfl) (by rw [hWe]; exact cl) (fun hHeld => ?_)
            clear hHeld
            rw [hWe]
            have hHeld : (fun W' : World => W'.cell? ⟨bl, 0, none⟩ = some v) We := cl
            clear cl
            refine wpAnyZ_take (i := 0) (v := ?_) rfl (by kernel_rfl) (by kernel_rfl) (by kernel_rfl) (by kernel_rfl) (fun _ _ _ h => h) (Or.inl ⟨by kernel_rfl, ?_⟩) hHeld ?_
            rotate_left
            · intro wv hSw
              have cq : World.cell? wv ⟨bl, 0, none⟩ = some v := hSw
              go_simp
              try with_reducible rfl
            simp only [Act.put, List.setIfInBounds_toArray, List.set_cons_zero, List.set_cons_succ, List.getElem_toArray, List.getElem_cons_succ, List.getElem_cons_zero]
            refine wpAnyZ_take (i := 1) (v := ?_) rfl (by kernel_rfl) (by kernel_rfl) (by kernel_rfl) (by kernel_rfl) (fun _ _ _ h => h) (Or.inl ⟨by kernel_rfl, ?_⟩) hHeld ?_
            rotate_left
            · intro wv hSw
              go_simp
              try with_reducible rfl
            simp only [Act.put, List.setIfInBounds_toArray, List.set_cons_zero, List.set_cons_succ, List.getElem_toArray, List.getElem_cons_succ, List.getElem_cons_zero]
            refine wpAnyZ_take (i := 2) (v := ?_) rfl (by kernel_rfl) (by kernel_rfl) (by kernel_rfl) (by kernel_rfl) (fun _ _ _ h => h) (Or.inl ⟨by kernel_rfl, ?_⟩) hHeld ?_
            rotate_left
            · intro wv hSw
              go_simp
              try with_reducible rfl
            simp only [Act.put, List.setIfInBounds_toArray, List.set_cons_zero, List.set_cons_succ, List.getElem_toArray, List.getElem_cons_succ, List.getElem_cons_zero]
            refine wpAnyZ_take (i := 4) (v := ?_) rfl (by kernel_rfl) (by kernel_rfl) (by kernel_rfl) (by kernel_rfl) (fun _ _ _ h => h) (Or.inl ⟨by kernel_rfl, ?_⟩) hHeld ?_
            rotate_left
            · intro wv hSw
              go_simp
              try with_reducible rfl
            simp only [Act.put, List.setIfInBounds_toArray, List.set_cons_zero, List.set_cons_succ, List.getElem_toArray, List.getElem_cons_succ, List.getElem_cons_zero]
            refine wpAnyZ_take (i := 6) (v := ?_) rfl (by kernel_rfl) (by kernel_rfl) (by kernel_rfl) (by kernel_rfl) (fun _ _ _ h => h) (Or.inl ⟨by kernel_rfl, ?_⟩) hHeld ?_
            rotate_left
            · intro wv hSw
              go_simp
              try with_reducible rfl
            simp only [Act.put, List.setIfInBounds_toArray, List.set_cons_zero, List.set_cons_succ, List.getElem_toArray, List.getElem_cons_succ, List.getElem_cons_zero]
            refine wpAnyZ_one (i := 3) (by kernel_rfl) rfl (fun K hK => ?_)
            go_simp
            go_at_call 35
            refine hT88.out.mono ?_
            rintro e W9x ⟨rfl, hw9⟩
            rw [hw9]
            clear hw9
            refine hK.out _ _ (fun _ => hHeld) ?_
            clear hK K
            try simp only [Act.put, List.setIfInBounds_toArray, List.set_cons_zero, List.set_cons_succ, List.getElem_toArray, List.getElem_cons_succ, List.getElem_cons_zero]
            refine wpAnyZ_one (i := 5) (by kernel_rfl) rfl (fun K hK => ?_)
            go_simp
            go_at_call 35
            refine hT168.out.mono ?_
            rintro e W9x ⟨rfl, hw9⟩
            rw [hw9]
            clear hw9
            refine hK.out _ _ (fun _ => hHeld) ?_
            clear hK K
            try simp only [Act.put, List.setIfInBounds_toArray, List.set_cons_zero, List.set_cons_succ, List.getElem_toArray, List.getElem_cons_succ, List.getElem_cons_zero]
            refine wpAnyZ_one (i := 7) (by kernel_rfl) rfl (fun K hK => ?_)
            go_simp
            go_at_call 35
            refine hT41.out.mono ?_
            rintro e W9x ⟨rfl, hw9⟩
            rw [hw9]
            clear hw9
            refine hK.out _ _ (fun _ => hHeld) ?_
            clear hK K
            try simp only [Act.put, List.setIfInBounds_toArray, List.set_cons_zero, List.set_cons_succ, List.getElem_toArray, List.getElem_cons_succ, List.getElem_cons_zero]
            refine wpAnyZ_take (i := 8) (v := ?_) rfl (by kernel_rfl) (by kernel_rfl) (by kernel_rfl) (by kernel_rfl) (fun _ _ _ h => h) (Or.inl ⟨by kernel_rfl, ?_⟩) hHeld ?_
            rotate_left
            · intro wv hSw
              go_simp
              try with_reducible rfl
            simp only [Act.put, List.setIfInBounds_toArray, List.set_cons_zero, List.set_cons_succ, List.getElem_toArray, List.getElem_cons_succ, List.getElem_cons_zero]
            refine wpAnyZ_take (i := 9) (v := ?_) rfl (by kernel_rfl) (by kernel_rfl) (by kernel_rfl) (by kernel_rfl) (fun _ _ _ h => h) (Or.inl ⟨by kernel_rfl, ?_⟩) hHeld ?_
            rotate_left
            · intro wv hSw
              go_simp
              try with_reducible rfl
            simp only [Act.put, List.setIfInBounds_toArray, List.set_cons_zero, List.set_cons_succ, List.getElem_toArray, List.getElem_cons_succ, List.getElem_cons_zero]
            refine wpAnyZ_take (i := 10) (v := ?_) rfl (by kernel_rfl) (by kernel_rfl) (by kernel_rfl) (by kernel_rfl) (fun _ _ _ h => h) (Or.inl ⟨by kernel_rfl, ?_⟩) hHeld ?_
            rotate_left
            · intro wv hSw
              go_simp
              try with_reducible rfl
            simp only [Act.put, List.setIfInBounds_toArray, List.set_cons_zero, List.set_cons_succ, List.getElem_toArray, List.getElem_cons_succ, List.getElem_cons_zero]
            refine wpAnyZ_take (i := 11) (v := ?_) rfl (by kernel_rfl) (by kernel_rfl) (by kernel_rfl) (by kernel_rfl) (fun _ _ _ h => h) (Or.inl ⟨by kernel_rfl, ?_⟩) hHeld ?_
            rotate_left
            · intro wv hSw
              go_simp
              try with_reducible rfl
            simp only [Act.put, List.setIfInBounds_toArray, List.set_cons_zero, List.set_cons_succ, List.getElem_toArray, List.getElem_cons_succ, List.getElem_cons_zero]
            refine wpAnyZ_one (i := 12) (by kernel_rfl) rfl (fun K hK => ?_)
            go_simp
            go_at_call 35
            refine hT62.out.mono ?_
            rintro e W9x ⟨rfl, hw9⟩
            rw [hw9]
            clear hw9
            refine hK.out _ _ (fun _ => hHeld) ?_
            clear hK K
            try simp only [Act.put, List.setIfInBounds_toArray, List.set_cons_zero, List.set_cons_succ, List.getElem_toArray, List.getElem_cons_succ, List.getElem_cons_zero]
            refine wpAnyZ_take (i := 13) (v := ?_) rfl (by kernel_rfl) (by kernel_rfl) (by kernel_rfl) (by kernel_rfl) (fun _ _ _ h => h) (Or.inl ⟨by kernel_rfl, ?_⟩) hHeld ?_
            rotate_left
            · intro wv hSw
              go_simp
              try with_reducible rfl
            simp only [Act.put, List.setIfInBounds_toArray, List.set_cons_zero, List.set_cons_succ, List.getElem_toArray, List.getElem_cons_succ, List.getElem_cons_zero]
            refine wpAnyZ_take (i := 14) (v := ?_) rfl (by kernel_rfl) (by kernel_rfl) (by kernel_rfl) (by kernel_rfl) (fun _ _ _ h => h) (Or.inl ⟨by kernel_rfl, ?_⟩) hHeld ?_
            rotate_left
            · intro wv hSw
              go_simp
              try with_reducible rfl
            simp only [Act.put, List.setIfInBounds_toArray, List.set_cons_zero, List.set_cons_succ, List.getElem_toArray, List.getElem_cons_succ, List.getElem_cons_zero]
            refine wpAnyZ_take (i := 15) (v := ?_) rfl (by kernel_rfl) (by kernel_rfl) (by kernel_rfl) (by kernel_rfl) (fun _ _ _ h => h) (Or.inl ⟨by kernel_rfl, ?_⟩) hHeld ?_
            rotate_left
            · intro wv hSw
              go_simp
              try with_reducible rfl
            simp only [Act.put, List.setIfInBounds_toArray, List.set_cons_zero, List.set_cons_succ, List.getElem_toArray, List.getElem_cons_succ, List.getElem_cons_zero]
            refine wpAnyZ_one (i := 16) (by kernel_rfl) rfl (fun K hK => ?_)
            go_simp
            refine hK.out _ _ (fun _ => (HE.out.1.box.alloc _).cell) ?_
            clear hK K hHeld
            have hHeld := (HE.out.1.box.alloc (.cells #[.string nm, .int .u64 (m8 : Nat), .int .u64 (m16 : Nat), .bool true] 42)).cell
            try simp only [Act.put, List.setIfInBounds_toArray, List.set_cons_zero, List.set_cons_succ, List.getElem_toArray, List.getElem_cons_succ, List.getElem_cons_zero]
            refine wpAnyZ_one (i := 17) (by kernel_rfl) rfl (fun K hK => ?_)
            rw [if_pos (by kernel_rfl)]
            refine wp_append_own _ _ _ 36 rfl W0.heap.size 42 i0 (.agg #[.string ⟨#[]⟩, .int .u64 0, .int .u64 0, .bool false]) 4 40 Try.underlying36 HI0.out.1 HI0.out.2.1 HI0.out.2.2.1 HI0.out.2.2.2 rfl (by decide) _ L.length (cellsY L) rfl (HE.out.1.keep ((Below.refl _ _).alloc (Nat.le_refl _) _)).row ⟨_, 0, none⟩ 1 1 (Sy.cs (nm, m8, m16, true)) rfl rfl (cells_newY _ nm m8 m16 true) (ones_y _) (by unfold maxLen; omega) (by omega) (by have := HE.out.1.size; simp; omega) ?_
            intro v2 w2 hown hgr _
            obtain ⟨hA, hA2, hA3⟩ := HE.out.1.app hlw hbl hbl0 hne hbe0 hown hgr
            have hown2 := hown
            obtain ⟨g2, cap2, rfl⟩ := ownsRow_succ hown2
            have HA := Lib.hid (And.intro hA hA2)
            have hc := hA3.cell
            have hf := hA3.frozen
            clear hown hown2 hgr hA hA2
            refine hK.out _ _ (fun _ => hc) ?_
            clear hK K hHeld
            try simp only [Act.put, List.setIfInBounds_toArray, List.set_cons_zero, List.set_cons_succ, List.getElem_toArray, List.getElem_cons_succ, List.getElem_cons_zero]
            refine wpAnyZ_one (i := 18) (by kernel_rfl) rfl (fun K hK => ?_)
            go_simp
            refine hK.out _ _ (fun h => absurd rfl h) ?_
            clear hK K hc hf hA3
            try simp only [Act.put, List.setIfInBounds_toArray, List.set_cons_zero, List.set_cons_succ, List.getElem_toArray, List.getElem_cons_succ, List.getElem_cons_zero]
            refine wpAnyZ_done (by kernel_rfl) ?_ _
            refine OnlyN.mk ?_
            gi_wp2
            have hsy : symZ (shZ z s.2.1) (shZ z x.2.1) n2 k = some (nm, m8, m16, true) := by rw [HSY.out]; simp [hf1, hf2]
            have hfin : symR (shZ z s.2.1) (shZ z x.2.1) n2 (rowsM n1) (pre ++ [k0]) = some (L ++ [(nm, m8, m16, true)]) ∧ LX w W0 bl be (L ++ [(nm, m8, m16, true)]).length (.slice (some ⟨g2, 0, none⟩) (L.length + 1) cap2) (cellsY (L ++ [(nm, m8, m16, true)])) 0 (World.setCell w2 ⟨bl, 0, none⟩ (.slice (some ⟨g2, 0, none⟩) (L.length + 1) cap2)) := by
              refine ⟨?_, ?_⟩
              · rw [symR_snoc, HL.out, HKK.out, hsy]
                rfl
              · have hca : cellsY (L ++ [(nm, m8, m16, true)]) = cellsY L ++ Sy.cs (nm, m8, m16, true) := by simp [cellsY]
                rw [List.length_append, hca]
                exact HA.out.1
            first
              | exact ⟨HKE.out.trans (HA.out.2.from _), LX.kpN HLX.out HA.out.1 (Nat.le_trans HKE.out.size HA.out.2.size) HG.out, ⟨L ++ [(nm, m8, m16, true)], ⟨_, hfin⟩⟩⟩
              | exact ⟨HKE.out.trans (HA.out.2.from _), LX.kpN HLX.out HA.out.1 (Nat.le_trans HKE.out.size HA.out.2.size) HG.out, ⟨L ++ [(nm, m8, m16, true)], hfin.1, _, hfin.2⟩⟩
        · have HF1 := Lib.hid hf1
          obtain ⟨q, hq⟩ : ∃ q, m4 % 16 = q := ⟨_, rfl⟩
          rw [hq] at e15
          have dl2 : ¬ (q : Int) = 2 := by omega
          have dl : ((q : Int) == 2) = false := by
            rw [beq_eq_false_iff_ne]
            omega
          clear hf1 hq
          have cl : We.cell? ⟨bl, 0, none⟩ = some v := HE.out.1.box.cell
          refine wpIn_region_roundZ 18 (S := fun W' : World => W'.cell? ⟨bl, 0, none⟩ = some v) (by kernel_rfl) (by kernel_rfl) (by rw [hWe]; exact cl) (fun hHeld => ?_)
          clear hHeld
          rw [hWe]
          have hHeld : (fun W' : World => W'.cell? ⟨bl, 0, none⟩ = some v) We := cl
          clear cl
          refine wpAnyZ_take (i := 0) (v := ?_) rfl (by kernel_rfl) (by kernel_rfl) (by kernel_rfl) (by kernel_rfl) (fun _ _ _ h => h) (Or.inl ⟨by kernel_rfl, ?_⟩) hHeld ?_
          rotate_left
          · intro wv hSw
            have cq : World.cell? wv ⟨bl, 0, none⟩ = some v := hSw
            go_simp
            try with_reducible rfl
          simp only [Act.put, List.setIfInBounds_toArray, List.set_cons_zero, List.set_cons_succ, List.getElem_toArray, List.getElem_cons_succ, List.getElem_cons_zero]
          refine wpAnyZ_take (i := 1) (v := ?_) rfl (by kernel_rfl) (by kernel_rfl) (by kernel_rfl) (by kernel_rfl) (fun _ _ _ h => h) (Or.inl ⟨by kernel_rfl, ?_⟩) hHeld ?_
          rotate_left
          · intro wv hSw
            go_simp
            try with_reducible rfl
          simp only [Act.put, List.setIfInBounds_toArray, List.set_cons_zero, List.set_cons_succ, List.getElem_toArray, List.getElem_cons_succ, List.getElem_cons_zero]
          refine wpAnyZ_take (i := 2) (v := ?_) rfl (by kernel_rfl) (by kernel_rfl) (by kernel_rfl) (by kernel_rfl) (fun _ _ _ h => h) (Or.inl ⟨by kernel_rfl, ?_⟩) hHeld ?_
          rotate_left
          · intro wv hSw
            go_simp
            try with_reducible rfl
          simp only [Act.put, List.setIfInBounds_toArray, List.set_cons_zero, List.set_cons_succ, List.getElem_toArray, List.getElem_cons_succ, List.getElem_cons_zero]
          refine wpAnyZ_take (i := 4) (v := ?_) rfl (by kernel_rfl) (by kernel_rfl) (by kernel_rfl) (by kernel_rfl) (fun _ _ _ h => h) (Or.inl ⟨by kernel_rfl, ?_⟩) hHeld ?_
          rotate_left
          · intro wv hSw
            go_simp
            try with_reducible rfl
          simp only [Act.put, List.setIfInBounds_toArray, List.set_cons_zero, List.set_cons_succ, List.getElem_toArray, List.getElem_cons_succ, List.getElem_cons_zero]
          refine wpAnyZ_take (i := 6) (v := ?_) rfl (by kernel_rfl) (by kernel_rfl) (by kernel_rfl) (by kernel_rfl) (fun _ _ _ h => h) (Or.inl ⟨by kernel_rfl, ?_⟩) hHeld ?_
          rotate_left
          · intro wv hSw
            go_simp
            try with_reducible rfl
          simp only [Act.put, List.setIfInBounds_toArray, List.set_cons_zero, List.set_cons_succ, List.getElem_toArray, List.getElem_cons_succ, List.getElem_cons_zero]
          refine wpAnyZ_one (i := 3) (by kernel_rfl) rfl (fun K hK => ?_)
          go_simp
          go_at_call 35
          refine hT88.out.mono ?_
          rintro e W9x ⟨rfl, hw9⟩
          rw [hw9]
          clear hw9
          refine hK.out _ _ (fun _ => hHeld) ?_
          clear hK K
          try simp only [Act.put, List.setIfInBounds_toArray, List.set_cons_zero, List.set_cons_succ, List.getElem_toArray, List.getElem_cons_succ, List.getElem_cons_zero]
          refine wpAnyZ_one (i := 5) (by kernel_rfl) rfl (fun K hK => ?_)
          go_simp
          go_at_call 35
          refine hT168.out.mono ?_
          rintro e W9x ⟨rfl, hw9⟩
          rw [hw9]
          clear hw9
          refine hK.out _ _ (fun _ => hHeld) ?_
          clear hK K
          try simp only [Act.put, List.setIfInBounds_toArray, List.set_cons_zero, List.set_cons_succ, List.getElem_toArray, List.getElem_cons_succ, List.getElem_cons_zero]
          refine wpAnyZ_one (i := 7) (by kernel_rfl) rfl (fun K hK => ?_)
          go_simp
          go_at_call 35
          refine hT41.out.mono ?_
          rintro e W9x ⟨rfl, hw9⟩
          rw [hw9]
          clear hw9
          refine hK.out _ _ (fun _ => hHeld) ?_
          clear hK K
          try simp only [Act.put, List.setIfInBounds_toArray, List.set_cons_zero, List.set_cons_succ, List.getElem_toArray, List.getElem_cons_succ, List.getElem_cons_zero]
          refine wpAnyZ_take (i := 8) (v := ?_) rfl (by kernel_rfl) (by kernel_rfl) (by kernel_rfl) (by kernel_rfl) (fun _ _ _ h => h) (Or.inl ⟨by kernel_rfl, ?_⟩) hHeld ?_
          rotate_left
          · intro wv hSw
            go_simp
            try with_reducible rfl
          simp only [Act.put, List.setIfInBounds_toArray, List.set_cons_zero, List.set_cons_succ, List.getElem_toArray, List.getElem_cons_succ, List.getElem_cons_zero]
          refine wpAnyZ_take (i := 9) (v := ?_) rfl (by kernel_rfl) (by kernel_rfl) (by kernel_rfl) (by kernel_rfl) (fun _ _ _ h => h) (Or.inl ⟨by kernel_rfl, ?_⟩) hHeld ?_
          rotate_left
          · intro wv hSw
            go_simp
            try with_reducible rfl
          simp only [Act.put, List.setIfInBounds_toArray, List.set_cons_zero, List.set_cons_succ, List.getElem_toArray, List.getElem_cons_succ, List.getElem_cons_zero]
          refine wpAnyZ_take (i := 10) (v := ?_) rfl (by kernel_rfl) (by kernel_rfl) (by kernel_rfl) (by kernel_rfl) (fun _ _ _ h => h) (Or.inl ⟨by kernel_rfl, ?_⟩) hHeld ?_
          rotate_left
          · intro wv hSw
            go_simp
            try with_reducible rfl
          simp only [Act.put, List.setIfInBounds_toArray, List.set_cons_zero, List.set_cons_succ, List.getElem_toArray, List.getElem_cons_succ, List.getElem_cons_zero]
          refine wpAnyZ_take (i := 11) (v := undef) rfl (by kernel_rfl) (by kernel_rfl) (by kernel_rfl) (by kernel_rfl) (fun _ _ _ h => h) (Or.inr ⟨by kernel_rfl, rfl⟩) hHeld ?_
          simp only [Act.put, List.setIfInBounds_toArray, List.set_cons_zero, List.set_cons_succ, List.getElem_toArray, List.getElem_cons_succ, List.getElem_cons_zero]
          refine wpAnyZ_take (i := 12) (v := undef) rfl (by kernel_rfl) (by kernel_rfl) (by kernel_rfl) (by kernel_rfl) (fun _ _ _ h => h) (Or.inr ⟨by kernel_rfl, rfl⟩) hHeld ?_
          simp only [Act.put, List.setIfInBounds_toArray, List.set_cons_zero, List.set_cons_succ, List.getElem_toArray, List.getElem_cons_succ, List.getElem_cons_zero]
          refine wpAnyZ_take (i := 13) (v := undef) rfl (by kernel_rfl) (by kernel_rfl) (by kernel_rfl) (by kernel_rfl) (fun _ _ _ h => h) (Or.inr ⟨by kernel_rfl, rfl⟩) hHeld ?_
          simp only [Act.put, List.setIfInBounds_toArray, List.set_cons_zero, List.set_cons_succ, List.getElem_toArray, List.getElem_cons_succ, List.getElem_cons_zero]
          refine wpAnyZ_take (i := 14) (v := ?_) rfl (by kernel_rfl) (by kernel_rfl) (by kernel_rfl) (by kernel_rfl) (fun _ _ _ h => h) (Or.inl ⟨by kernel_rfl, ?_⟩) hHeld ?_
          rotate_left
          · intro wv hSw
            go_simp
            try with_reducible rfl
          simp only [Act.put, List.setIfInBounds_toArray, List.set_cons_zero, List.set_cons_succ, List.getElem_toArray, List.getElem_cons_succ, List.getElem_cons_zero]
          refine wpAnyZ_take (i := 15) (v := ?_) rfl (by kernel_rfl) (by kernel_rfl) (by kernel_rfl) (by kernel_rfl) (fun _ _ _ h => h) (Or.inl ⟨by kernel_rfl, ?_⟩) hHeld ?_
          rotate_left
          · intro wv hSw
            go_simp
            try with_reducible rfl
          simp only [Act.put, List.setIfInBounds_toArray, List.set_cons_zero, List.set_cons_succ, List.getElem_toArray, List.getElem_cons_succ, List.getElem_cons_zero]
          refine wpAnyZ_one (i := 16) (by kernel_rfl) rfl (fun K hK => ?_)
          go_simp
          refine hK.out _ _ (fun _ => (HE.out.1.box.alloc _).cell) ?_
          clear hK K hHeld
          have hHeld := (HE.out.1.box.alloc (.cells #[.string nm, .int .u64 (m8 : Nat), .int .u64 (m16 : Nat), .bool false] 42)).cell
          try simp only [Act.put, List.setIfInBounds_toArray, List.set_cons_zero, List.set_cons_succ, List.getElem_toArray, List.getElem_cons_succ, List.getElem_cons_zero]
          refine wpAnyZ_one (i := 17) (by kernel_rfl) rfl (fun K hK => ?_)
          rw [if_pos (by kernel_rfl)]
          refine wp_append_own _ _ _ 36 rfl W0.heap.size 42 i0 (.agg #[.string ⟨#[]⟩, .int .u64 0, .int .u64 0, .bool false]) 4 40 Try.underlying36 HI0.out.1 HI0.out.2.1 HI0.out.2.2.1 HI0.out.2.2.2 rfl (by decide) _ L.length (cellsY L) rfl (HE.out.1.keep ((Below.refl _ _).alloc (Nat.le_refl _) _)).row ⟨_, 0, none⟩ 1 1 (Sy.cs (nm, m8, m16, false)) rfl rfl (cells_newY _ nm m8 m16 false) (ones_y _) (by unfold maxLen; omega) (by omega) (by have := HE.out.1.size; simp; omega) ?_
          intro v2 w2 hown hgr _
          obtain ⟨hA, hA2, hA3⟩ := HE.out.1.app hlw hbl hbl0 hne hbe0 hown hgr
          have hown2 := hown
          obtain ⟨g2, cap2, rfl⟩ := ownsRow_succ hown2
          have HA := Lib.hid (And.intro hA hA2)
          have hc := hA3.cell
          have hf := hA3.frozen
          clear hown hown2 hgr hA hA2
          refine hK.out _ _ (fun _ => hc) ?_
          clear hK K hHeld
          try simp only [Act.put, List.setIfInBounds_toArray, List.set_cons_zero, List.set_cons_succ, List.getElem_toArray, List.getElem_cons_succ, List.getElem_cons_zero]
          refine wpAnyZ_one (i := 18) (by kernel_rfl) rfl (fun K hK => ?_)
          go_simp
          refine hK.out _ _ (fun h => absurd rfl h) ?_
          clear hK K hc hf hA3
          try simp only [Act.put, List.setIfInBounds_toArray, List.set_cons_zero, List.set_cons_succ, List.getElem_toArray, List.getElem_cons_succ, List.getElem_cons_zero]
          refine wpAnyZ_done (by kernel_rfl) ?_ _
          refine OnlyN.mk ?_
          gi_wp2
          have hsy : symZ (shZ z s.2.1) (shZ z x.2.1) n2 k = some (nm, m8, m16, false) := by rw [HSY.out]; simp [HF1.out]
          have hfin : symR (shZ z s.2.1) (shZ z x.2.1) n2 (rowsM n1) (pre ++ [k0]) = some (L ++ [(nm, m8, m16, false)]) ∧ LX w W0 bl be (L ++ [(nm, m8, m16, false)]).length (.slice (some ⟨g2, 0, none⟩) (L.length + 1) cap2) (cellsY (L ++ [(nm, m8, m16, false)])) 0 (World.setCell w2 ⟨bl, 0, none⟩ (.slice (some ⟨g2, 0, none⟩) (L.length + 1) cap2)) := by
            refine ⟨?_, ?_⟩
            · rw [symR_snoc, HL.out, HKK.out, hsy]
              rfl
            · have hca : cellsY (L ++ [(nm, m8, m16, false)]) = cellsY L ++ Sy.cs (nm, m8, m16, false) := by simp [cellsY]
              rw [List.length_append, hca]
              exact HA.out.1
          first
            | exact ⟨HKE.out.trans (HA.out.2.from _), LX.kpN HLX.out HA.out.1 (Nat.le_trans HKE.out.size HA.out.2.size) HG.out, ⟨L ++ [(nm, m8, m16, false)], ⟨_, hfin⟩⟩⟩
            | exact ⟨HKE.out.trans (HA.out.2.from _), LX.kpN HLX.out HA.out.1 (Nat.le_trans HKE.out.size HA.out.2.size) HG.out, ⟨L ++ [(nm, m8, m16, false)], hfin.1, _, hfin.2⟩⟩
    case done =>
      rintro D ys W hD rfl ⟨L, v, hL, hLX⟩ hK
      have HL := Lib.hid hL
      have HX := Lib.hid hLX
      have HKD := Lib.hid hK
      clear hL hLX hK
      go_wp2_with fail
      have hS0 := And.intro HX.out.box.cell HX.out.err.cell
      refine wp_region_noPanic ?_
      refine wp_region_held_drew (S := fun W : World => World.cell? W ⟨bl, 0, none⟩ = some v ∧ World.cell? W ⟨be, 0, none⟩ = some (.int .i64 0)) (by kernel_rfl) ?_ (fun hHeld => ?_)
      · exact hS0
      clear hS0
      refine wpAnyH_take (i := 0) (v := ?_) rfl (by kernel_rfl) (by kernel_rfl) (by kernel_rfl) (fun _ _ _ h => h) (Or.inl ⟨by kernel_rfl, ?_⟩) (by assumption) ?_
      rotate_left
      · intro wv hSw
        have c0 := hSw.1
        go_simp
        try with_reducible rfl
      simp only [Act.put, List.setIfInBounds_toArray, List.set_cons_zero, List.set_cons_succ, List.getElem_toArray, List.getElem_cons_succ, List.getElem_cons_zero]
      refine wpAnyH_take (i := 1) (v := ?_) rfl (by kernel_rfl) (by kernel_rfl) (by kernel_rfl) (fun _ _ _ h => h) (Or.inl ⟨by kernel_rfl, ?_⟩) (by assumption) ?_
      rotate_left
      · intro wv hSw
        have c0 := hSw.2
        go_simp
        try with_reducible rfl
      simp only [Act.put, List.setIfInBounds_toArray, List.set_cons_zero, List.set_cons_succ, List.getElem_toArray, List.getElem_cons_succ, List.getElem_cons_zero]
      refine wpAnyH_take (i := 2) (v := ?_) rfl (by kernel_rfl) (by kernel_rfl) (by kernel_rfl) (fun _ _ _ h => h) (Or.inl ⟨by kernel_rfl, ?_⟩) (by assumption) ?_
      rotate_left
      · intro wv hSw
        go_simp
        try with_reducible rfl
      simp only [Act.put, List.setIfInBounds_toArray, List.set_cons_zero, List.set_cons_succ, List.getElem_toArray, List.getElem_cons_succ, List.getElem_cons_zero]
      refine wpAnyH_take (i := 3) (v := ?_) rfl (by kernel_rfl) (by kernel_rfl) (by kernel_rfl) (fun _ _ _ h => h) (Or.inl ⟨by kernel_rfl, ?_⟩) (by assumption) ?_
      rotate_left
      · intro wv hSw
        go_simp
        try with_reducible rfl
      simp only [Act.put, List.setIfInBounds_toArray, List.set_cons_zero, List.set_cons_succ, List.getElem_toArray, List.getElem_cons_succ, List.getElem_cons_zero]
      refine wpAnyH_done (by kernel_rfl) ?_ _
      refine NoPanic.normal ?_
      clear hHeld
      go_wp2_with fail
      rw [Exit.noGoto_ret]
      show bodyPostM Fence.wide 5 Try.prog Try.f10 _ Exit.ret _ _
      refine ⟨by simp, .inl ⟨_, _, rfl, run_takeDeferred (show (World.drew W).heap[D]? = _ from HKD.out), ?_⟩⟩
      exact ⟨_, results_tmp2 rfl _ _ _, L, v, 0, rfl, HX.out.sy hlw hD HKD.out, .inl ⟨by rw [← HN.out.1, ← HN.out.2, ← symR_range]; exact HL.out, rfl⟩⟩
    case stop =>
      rintro D c pre W hD hS ⟨rfl, hno, hLX⟩ hK
      obtain ⟨L, v, hL0, hv0⟩ : ∃ (L : List Sy) (v : Value), L = [] ∧ v = .slice none 0 0 := ⟨_, _, rfl, rfl⟩
      have HL0 := Lib.hid hL0
      replace hLX : LX w W0 bl be L.length v (cellsY L) 33 W := by rw [hL0, hv0]; exact hLX
      have HX := Lib.hid hLX
      have HKD := Lib.hid hK
      have HS := Lib.hid (And.intro hS hno)
      clear hLX hK hS hno hL0 hv0
      refine wpIn_wide.2 ?_
      go_wp2_with fail
      have hS0 := And.intro HX.out.box.cell HX.out.err.cell
      refine wp_region_noPanic ?_
      refine wp_region_held_drew (S := fun W : World => World.cell? W ⟨bl, 0, none⟩ = some v ∧ World.cell? W ⟨be, 0, none⟩ = some (.int .i64 33)) (by kernel_rfl) ?_ (fun hHeld => ?_)
      · exact hS0
      clear hS0
      refine wpAnyH_take (i := 0) (v := ?_) rfl (by kernel_rfl) (by kernel_rfl) (by kernel_rfl) (fun _ _ _ h => h) (Or.inl ⟨by kernel_rfl, ?_⟩) (by assumption) ?_
      rotate_left
      · intro wv hSw
        have c0 := hSw.1
        go_simp
        try with_reducible rfl
      simp only [Act.put, List.setIfInBounds_toArray, List.set_cons_zero, List.set_cons_succ, List.getElem_toArray, List.getElem_cons_succ, List.getElem_cons_zero]
      refine wpAnyH_take (i := 1) (v := ?_) rfl (by kernel_rfl) (by kernel_rfl) (by kernel_rfl) (fun _ _ _ h => h) (Or.inl ⟨by kernel_rfl, ?_⟩) (by assumption) ?_
      rotate_left
      · intro wv hSw
        have c0 := hSw.2
        go_simp
        try with_reducible rfl
      simp only [Act.put, List.setIfInBounds_toArray, List.set_cons_zero, List.set_cons_succ, List.getElem_toArray, List.getElem_cons_succ, List.getElem_cons_zero]
      refine wpAnyH_take (i := 2) (v := ?_) rfl (by kernel_rfl) (by kernel_rfl) (by kernel_rfl) (fun _ _ _ h => h) (Or.inl ⟨by kernel_rfl, ?_⟩) (by assumption) ?_
      rotate_left
      · intro wv hSw
        go_simp
        try with_reducible rfl
      simp only [Act.put, List.setIfInBounds_toArray, List.set_cons_zero, List.set_cons_succ, List.getElem_toArray, List.getElem_cons_succ, List.getElem_cons_zero]
      refine wpAnyH_take (i := 3) (v := ?_) rfl (by kernel_rfl) (by kernel_rfl) (by kernel_rfl) (fun _ _ _ h => h) (Or.inl ⟨by kernel_rfl, ?_⟩) (by assumption) ?_
      rotate_left
      · intro wv hSw
        go_simp
        try with_reducible rfl
      simp only [Act.put, List.setIfInBounds_toArray, List.set_cons_zero, List.set_cons_succ, List.getElem_toArray, List.getElem_cons_succ, List.getElem_cons_zero]
      refine wpAnyH_done (by kernel_rfl) ?_ _
      refine NoPanic.normal ?_
      clear hHeld
      go_wp2_with fail
      rw [Exit.noGoto_ret]
      show bodyPostM Fence.wide 5 Try.prog Try.f10 _ Exit.ret _ _
      refine ⟨by simp, .inl ⟨_, _, rfl, run_takeDeferred (show (World.drew W).heap[D]? = _ from HKD.out), ?_⟩⟩
      exact ⟨_, results_tmp2 rfl _ _ _, L, v, 33, rfl, HX.out.sy hlw hD HKD.out, .inr ⟨by rw [← HN.out.1, ← HN.out.2]; exact symR_cut HS.out.2 HS.out.1, HL0.out, rfl⟩⟩
end Go.Proofs.Ytegbhjmghkbgmaa
