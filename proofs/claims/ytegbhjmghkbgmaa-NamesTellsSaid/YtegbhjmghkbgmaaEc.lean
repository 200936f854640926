/- NamesErrors' walk. -/
import Derived.Test.YtegbhjmghkbgmaaFs
namespace Go.Proofs.Ytegbhjmghkbgmaa
open Go.RowKit Go.Shelf
set_option linter.unusedVariables false
set_option linter.unusedSimpArgs false
attribute [local go_sem] Oper.semAt_some
theorem lit_cs (s : Sc) : (#[.int .u32 (s.1 : Nat), .int .u64 (s.2.1 : Nat), .int .u64 (s.2.2.1 : Nat), .int .u32 (s.2.2.2.1 : Nat), .int .u64 (s.2.2.2.2 : Nat)] : Array Value) = s.cs.toArray := rfl
theorem info54f : (Try.prog.info? 54).map (fun i => (i.zero, i.size, i.bytes)) = some (some (.agg #[.int .u32 0, .int .u64 0, .int .u64 0, .int .u32 0, .int .u64 0]), 5, 40) := by kernel_rfl
theorem mk33 : ∃ C : Array Value, ∀ W : World, (Instr.makeSlice 24 (.int .i64 33) (.int .i64 33)).run Try.prog W = .ok (.slice (some ⟨W.heap.size, 0, none⟩) 33 33) (W.alloc (.cells C 54)) := by
  obtain ⟨i, hi, hz, hs, hb⟩ := info_parts info54f
  exact ⟨_, fun W => run_makeSlice (P := Try.prog) W 24 54 i _ Try.underlying24 hi hz .i64 .i64 33 33 (by decide) (by decide) (by rw [hs]; decide) (by rw [hb]; decide) (by decide)⟩
def ErrIs (ab : Option Addr) (bn bc : Nat) (cs : List Sc) (er : Int) (W : World) : Prop := ∀ a p, RX W a (cs.flatMap Sc.cs) → Calls Try.prog 10 #[.slice ab bn bc, .agg #[.int .u64 0, .int .u64 0, .int .u64 0, .slice none 0 0, .slice a cs.length p]] W fun e W' => (∃ v, e = .returned (.tuple #[v, .int .i64 er])) ∧ Below W.heap.size W W'
theorem errIs {ab : Option Addr} {bn bc : Nat} {z : Nat → Nat} (hzz : ∀ j, z j < 256) {cs : List Sc} (hok : ∀ s, s ∈ cs → s.ok) (hn : cs.length ≤ 9223372036854775807) {er : Int} (he : (readZ z bn cs).2 = er) {W : World} (hz : BZ W ab bn bc z) : ErrIs ab bn bc cs er W := fun a p h => by
  refine (read_any ab bn bc z hzz _ _ _ _ a p cs hok hn W hz h).mono fun e W' h => ?_
  obtain ⟨v, h1, h2⟩ := h
  rw [he] at h1
  exact ⟨⟨v, h1⟩, h2.2⟩
set_option maxRecDepth 100000 in
set_option maxHeartbeats 8000000 in
theorem errs_small (a : Option Addr) (p : Nat) (l : List En) (hl : l.length ≤ 60) (hf : ∀ x, x ∈ l → x.fine) (hok : ∀ x, x ∈ l → x.ok) (ea kd lk : Nat) (hea : U ea) (hkd : V32 kd) (hlk : V32 lk) (w : World) (h : RX w a (l.flatMap En.cs)) (hgr : Calls Try.prog 7 #[.slice a l.length p] w fun e W' => W' = w ∧ ∃ g : Bool, e = .returned (.bool g)) :
    Calls Try.prog 6 #[.slice a l.length p, .int .u64 (ea : Nat), .int .u32 (kd : Nat), .int .u32 (lk : Nat)] w fun e W' => e = .returned (.bool true) ∧ Below w.heap.size w W' := by
  have HGR := Lib.hid hgr
  have HMA := Lib.hid (made_any 0 (by decide) a p l hl hok (fun x hx => (hf x hx).1) w h)
  have HWK := Lib.hid wakes_any
  clear hgr h
  have hsl := strL_len (l := l) (fun x hx => (hf x hx).1)
  obtain ⟨m, hm⟩ : ∃ m, 24 * (l.length + 1) = m := ⟨_, rfl⟩
  obtain ⟨m2, hm2⟩ : ∃ m2, 0 + m = m2 := ⟨_, rfl⟩
  obtain ⟨S, hS⟩ : ∃ S, (strL l).length = S := ⟨_, rfl⟩
  obtain ⟨N, hN⟩ : ∃ N, madeN 0 l = N := ⟨_, rfl⟩
  have hNv : N = m + S := by rw [← hN, ← hm, ← hS]; unfold madeN; omega
  have hzz := madeZ_lt 0 l
  have E1 := err_each (z := madeZ 0 l) (bn := N) hl hf hok (fun _ _ => rfl) hzz (by omega) ea
  have E2 := err_kind (z := madeZ 0 l) (bn := N) hl hf hok (fun _ _ => rfl) hzz (by omega) kd
  have E3 := err_link (z := madeZ 0 l) (bn := N) hl hf hok (fun _ _ => rfl) hzz (by omega) lk
  have E4 := err_place (z := madeZ 0 l) (bn := N) hl (N + 1) (by omega)
  rw [hm, hm2, hS] at E1 E2 E3
  rw [hm, hS] at E4
  have hsec : secsM 0 l = [(0, 0, 0, 0, 0), (2, 0, m, 2, 24), (3, m2, S, 0, 0)] := by unfold secsM; rw [hm, hm2, hS]
  unfold U at hea
  unfold V32 at hkd hlk
  have okS : ∀ x y : Sc, x.ok → y.ok → ∀ s, s ∈ ([(0, 0, 0, 0, 0), x, y] : List Sc) → s.ok := fun x y hx hy s hs => by
    simp at hs
    rcases hs with rfl | rfl | rfl
    · unfold Sc.ok V32 U
      decide
    · exact hx
    · exact hy
  have HE1 := Lib.hid (fun (W : World) ab bc (hz : BZ W ab N bc (madeZ 0 l)) => errIs hzz (okS (2, 0, m, 2, ea) (3, m2, S, 0, 0) (by unfold Sc.ok V32 U; dsimp only; omega) (by unfold Sc.ok V32 U; dsimp only; omega)) (by simp) E1 hz)
  have HE2 := Lib.hid (fun (W : World) ab bc (hz : BZ W ab N bc (madeZ 0 l)) => errIs hzz (okS (2, 0, m, 2, 24) (kd, m2, S, 0, 0) (by unfold Sc.ok V32 U; dsimp only; omega) (by unfold Sc.ok V32 U; dsimp only; omega)) (by simp) E2 hz)
  have HE3 := Lib.hid (fun (W : World) ab bc (hz : BZ W ab N bc (madeZ 0 l)) => errIs hzz (okS (2, 0, m, lk, 24) (3, m2, S, 0, 0) (by unfold Sc.ok V32 U; dsimp only; omega) (by unfold Sc.ok V32 U; dsimp only; omega)) (by simp) E3 hz)
  have HE4 := Lib.hid (fun (W : World) ab bc (hz : BZ W ab N bc (madeZ 0 l)) => errIs hzz (okS (2, 0, m, 2, 24) (3, N + 1, S, 0, 0) (by unfold Sc.ok V32 U; dsimp only; omega) (by unfold Sc.ok V32 U; dsimp only; omega)) (by simp) E4 hz)
  have HE5 := Lib.hid (fun (W : World) ab (bc : Nat) b p => read_many (.slice ab N bc) (.int .u64 0) (.int .u64 0) (.int .u64 0) (.slice none 0 0) (some ⟨b, 0, none⟩) 33 p (by decide) (by decide) W)
  obtain ⟨r1, hr1⟩ : ∃ r1 : Int, (if ea = 24 then (0 : Int) else 32) = r1 := ⟨_, rfl⟩
  obtain ⟨r2, hr2⟩ : ∃ r2 : Int, (if kd = 3 then (0 : Int) else 32) = r2 := ⟨_, rfl⟩
  obtain ⟨r3, hr3⟩ : ∃ r3 : Int, (if lk = 2 then (0 : Int) else 32) = r3 := ⟨_, rfl⟩
  rw [hr1] at HE1
  rw [hr2] at HE2
  rw [hr3] at HE3
  have HRR := Lib.hid (And.intro hr1 (And.intro hr2 hr3))
  have hNb : N < 100000 := by omega
  obtain ⟨N1, hN1⟩ : ∃ N1, N + 1 = N1 := ⟨_, rfl⟩
  rw [hN1] at HE4
  have hN2 : (N : Int) + 1 = (N1 : Int) := by omega
  have hN3 : N1 < 100001 := by omega
  clear hN1
  clear E1 E2 E3 E4 okS hsl hr1 hr2 hr3 hm hm2 hS hNv hf hok hea hkd hlk
  unfold MadeOf at HMA
  rw [hN, hsec] at HMA
  generalize madeZ 0 l = z at *
  clear hN hsec hl
  generalize l.length = n at *
  go_enter Try.func6, Try.ntmps6
  go_wp2_with (first | (go_at_call 7; refine HGR.out.mono ?_) | fail)
  first | (rintro e W1 hw1 g rfl) | (rintro e W1 ⟨hw1, g, rfl⟩)
  rw [hw1]
  clear hw1
  cases g
  rotate_left
  · go_wp2_with (first | (go_at_call 8; refine (HWK.out _).mono ?_) | fail)
    first | (rintro e W1 rfl hb) | (rintro e W1 ⟨rfl, hb⟩)
    go_wp2_with fail
    go_ret
    exact ⟨rfl, hb⟩
  go_wp2_with (first | (go_at_call 9; refine HMA.out.mono ?_) | fail)
  first | (rintro e W2 ⟨ab, cb, a2, p2, rfl, hz, hr, hb⟩) | (rintro e W2 ab cb a2 p2 rfl hz hr hb)
  obtain ⟨xb, xo, rfl, -⟩ := Sc_at (k := 1) hr rfl
  go_upto_region 4 with fail
  have HF0 : Hid (BZ (W2.alloc (.cells #[.int .u64 0, .int .u64 0, .int .u64 0, .slice none 0 0, .slice (some ⟨xb, xo, none⟩) 3 p2] 31)) ab N cb z ∧ RX (W2.alloc (.cells #[.int .u64 0, .int .u64 0, .int .u64 0, .slice none 0 0, .slice (some ⟨xb, xo, none⟩) 3 p2] 31)) (some ⟨xb, xo, none⟩) (([(0, 0, 0, 0, 0), (2, 0, m, 2, 24), (3, m2, S, 0, 0)] : List Sc).flatMap Sc.cs) ∧ Below w.heap.size w (W2.alloc (.cells #[.int .u64 0, .int .u64 0, .int .u64 0, .slice none 0 0, .slice (some ⟨xb, xo, none⟩) 3 p2] 31)) ∧ (W2.alloc (.cells #[.int .u64 0, .int .u64 0, .int .u64 0, .slice none 0 0, .slice (some ⟨xb, xo, none⟩) 3 p2] 31)).heap[W2.heap.size]? = some (.cells #[.int .u64 0, .int .u64 0, .int .u64 0, .slice none 0 0, .slice (some ⟨xb, xo, none⟩) 3 p2] 31 (0, 0))) := Lib.hid (by
    have hk := (Below.refl W2.heap.size W2).alloc (Nat.le_refl _) (.cells #[.int .u64 0, .int .u64 0, .int .u64 0, .slice none 0 0, .slice (some ⟨xb, xo, none⟩) 3 p2] 31)
    exact ⟨hz.keep hk, hr.keep hk, hb.alloc hb.size _, heap_alloc_last W2 _⟩)
  clear hz hr hb HMA HGR
  generalize World.alloc W2 _ = w0 at HF0 ⊢
  generalize (World.heap W2).size = b10 at HF0 ⊢
  have HS0 : Hid (FS w0 [] w0.drew) := Lib.hid ⟨fun x hx => absurd hx (by simp), (Below.refl _ _).drew⟩
  refine wp_region_noPanic ?_
  refine wp_region_held_drew (S := fun W : World => FS w0 [] W) (by kernel_rfl) ?_ (fun hHeld => ?_)
  · exact HS0.out
  clear HS0
  generalize World.drew _ = V5 at hHeld ⊢
  refine wpAnyH_take (i := 0) (v := ?_) rfl (by kernel_rfl) (by kernel_rfl) (by kernel_rfl) (fun _ _ _ h => h) (Or.inl ⟨by kernel_rfl, ?_⟩) (by assumption) ?_
  rotate_left
  · intro wv hSw
    go_simp
    try with_reducible rfl
  simp only [Act.put, List.setIfInBounds_toArray, List.set_cons_zero, List.set_cons_succ, List.getElem_toArray, List.getElem_cons_succ, List.getElem_cons_zero]
  refine wpAnyH_take (i := 1) (v := ?_) rfl (by kernel_rfl) (by kernel_rfl) (by kernel_rfl) (fun _ _ _ h => h) (Or.inl ⟨by kernel_rfl, ?_⟩) (by assumption) ?_
  rotate_left
  · intro wv hSw
    have c4 := cell_keep (cell_at (i := 4) (v := .slice (some ⟨xb, xo, none⟩) 3 p2) HF0.out.2.2.2 rfl) hSw.2
    go_simp
    try with_reducible rfl
  simp only [Act.put, List.setIfInBounds_toArray, List.set_cons_zero, List.set_cons_succ, List.getElem_toArray, List.getElem_cons_succ, List.getElem_cons_zero]
  refine wpAnyH_take (i := 2) (v := ?_) rfl (by kernel_rfl) (by kernel_rfl) (by kernel_rfl) (fun _ _ _ h => h) (Or.inl ⟨by kernel_rfl, ?_⟩) (by assumption) ?_
  rotate_left
  · intro wv hSw
    go_simp
    try with_reducible rfl
  simp only [Act.put, List.setIfInBounds_toArray, List.set_cons_zero, List.set_cons_succ, List.getElem_toArray, List.getElem_cons_succ, List.getElem_cons_zero]
  refine wpAnyH_take (i := 3) (v := ?_) rfl (by kernel_rfl) (by kernel_rfl) (by kernel_rfl) (fun _ _ _ h => h) (Or.inl ⟨by kernel_rfl, ?_⟩) (by assumption) ?_
  rotate_left
  · intro wv hSw
    obtain ⟨y1, y2, hy, f0, f1, f2, f3, f4⟩ := Sc_at (k := 1) (HF0.out.2.1.keep hSw.2) rfl
    cases hy
    dsimp only at f0 f1 f2 f3 f4
    simp only [Nat.reduceMul] at f0 f1 f2 f3 f4
    go_simp
    try with_reducible rfl
  simp only [Act.put, List.setIfInBounds_toArray, List.set_cons_zero, List.set_cons_succ, List.getElem_toArray, List.getElem_cons_succ, List.getElem_cons_zero]
  refine wpAnyH_take (i := 4) (v := ?_) rfl (by kernel_rfl) (by kernel_rfl) (by kernel_rfl) (fun _ _ _ h => h) (Or.inl ⟨by kernel_rfl, ?_⟩) (by assumption) ?_
  rotate_left
  · intro wv hSw
    go_simp
    try with_reducible rfl
  simp only [Act.put, List.setIfInBounds_toArray, List.set_cons_zero, List.set_cons_succ, List.getElem_toArray, List.getElem_cons_succ, List.getElem_cons_zero]
  refine wpAnyH_take (i := 5) (v := ?_) rfl (by kernel_rfl) (by kernel_rfl) (by kernel_rfl) (fun _ _ _ h => h) (Or.inl ⟨by kernel_rfl, ?_⟩) (by assumption) ?_
  rotate_left
  · intro wv hSw
    have c4 := cell_keep (cell_at (i := 4) (v := .slice (some ⟨xb, xo, none⟩) 3 p2) HF0.out.2.2.2 rfl) hSw.2
    go_simp
    try with_reducible rfl
  simp only [Act.put, List.setIfInBounds_toArray, List.set_cons_zero, List.set_cons_succ, List.getElem_toArray, List.getElem_cons_succ, List.getElem_cons_zero]
  refine wpAnyH_take (i := 6) (v := ?_) rfl (by kernel_rfl) (by kernel_rfl) (by kernel_rfl) (fun _ _ _ h => h) (Or.inl ⟨by kernel_rfl, ?_⟩) (by assumption) ?_
  rotate_left
  · intro wv hSw
    go_simp
    try with_reducible rfl
  simp only [Act.put, List.setIfInBounds_toArray, List.set_cons_zero, List.set_cons_succ, List.getElem_toArray, List.getElem_cons_succ, List.getElem_cons_zero]
  refine wpAnyH_take (i := 7) (v := ?_) rfl (by kernel_rfl) (by kernel_rfl) (by kernel_rfl) (fun _ _ _ h => h) (Or.inl ⟨by kernel_rfl, ?_⟩) (by assumption) ?_
  rotate_left
  · intro wv hSw
    obtain ⟨y1, y2, hy, f0, f1, f2, f3, f4⟩ := Sc_at (k := 2) (HF0.out.2.1.keep hSw.2) rfl
    cases hy
    dsimp only at f0 f1 f2 f3 f4
    simp only [Nat.reduceMul] at f0 f1 f2 f3 f4
    go_simp
    try with_reducible rfl
  simp only [Act.put, List.setIfInBounds_toArray, List.set_cons_zero, List.set_cons_succ, List.getElem_toArray, List.getElem_cons_succ, List.getElem_cons_zero]
  refine wpAnyH_ready (rs := [8, 9]) (by kernel_rfl) (by simp) ?_
  refine AllReadyH.cons rfl (fun K hK => ?_) (AllReadyH.cons rfl (fun K hK => ?_) AllReadyH.nil)
  · skip
    have hz : w0.heap.size ≤ (World.heap V5).size := hHeld.2.size
    have hA : FS w0 [((World.heap V5).size, (0, 0, 0, 0, 0))] (World.alloc V5 (.cells #[.int .u32 0, .int .u64 0, .int .u64 0, .int .u32 0, .int .u64 0] 54)) := hHeld.box (0, 0, 0, 0, 0)
    go_simp
    refine hK.out _ _ (hA.less (by simp)) (fun hHeld2 => ?_)
    clear hK K hHeld hHeld2
    have HA := Lib.hid hA
    clear hA
    generalize World.alloc V5 _ = V6 at HA ⊢
    have hz2 : (World.heap V5).size < (World.heap V6).size := by have := HA.out.lt; simp at this; omega
    generalize (World.heap V5).size = b11 at HA hz hz2 ⊢
    have hHeld : (fun W : World => FS w0 [] W) V6 := HA.out.less (by simp)
    try simp only [Act.put, List.setIfInBounds_toArray, List.set_cons_zero, List.set_cons_succ, List.getElem_toArray, List.getElem_cons_succ, List.getElem_cons_zero]
    refine wpAnyH_ready (rs := [9]) (by kernel_rfl) (by simp) ?_
    refine AllReadyH.cons rfl (fun K hK => ?_) AllReadyH.nil
    have hA : FS w0 [((World.heap V6).size, (0, 0, 0, 0, 0)), (b11, (0, 0, 0, 0, 0))] (World.alloc V6 (.cells #[.int .u32 0, .int .u64 0, .int .u64 0, .int .u32 0, .int .u64 0] 54)) := HA.out.box (0, 0, 0, 0, 0)
    go_simp
    refine hK.out _ _ (hA.less (by simp)) (fun hHeld2 => ?_)
    clear hK K hHeld hHeld2 HA
    have HA := Lib.hid hA
    clear hA
    generalize World.alloc V6 _ = V7 at HA ⊢
    generalize (World.heap V6).size = b12 at HA hz2 ⊢
    have hHeld : (fun W : World => FS w0 [] W) V7 := HA.out.less (by simp)
    try simp only [Act.put, List.setIfInBounds_toArray, List.set_cons_zero, List.set_cons_succ, List.getElem_toArray, List.getElem_cons_succ, List.getElem_cons_zero]
    have HD : Hid (w0.heap.size ≤ b11 ∧ w0.heap.size ≤ b12 ∧ b11 ≠ b12) := Lib.hid (by omega)
    clear hz hz2
    refine wpAnyH_ready (rs := [10]) (by kernel_rfl) (by simp) ?_
    refine AllReadyH.cons rfl (fun K hK => ?_) AllReadyH.nil
    rw [if_pos (by kernel_rfl)]
    have hA : FS w0 [(b11, (2, 0, m, 2, 24)), (b12, (0, 0, 0, 0, 0))] (World.setRow V7 b11 (Sc.cs (2, 0, m, 2, 24)).toArray) := (HA.out.less (l' := [(b11, (0, 0, 0, 0, 0)), (b12, (0, 0, 0, 0, 0))]) (by simp)).row (by have := HD.out; simp; omega) (by have := HD.out; omega) (2, 0, m, 2, 24)
    refine wp_store54 (x := .tmp 11) (y := .tmp 36) (b := b11) (u := (0, 0, 0, 0, 0)) (f := (2, 0, m, 2, 24)) rfl rfl rfl (HA.out.get b11 (0, 0, 0, 0, 0) (by simp)) ?_
    refine hK.out _ _ (hA.less (by simp)) (fun hHeld2 => ?_)
    clear hK K hHeld hHeld2 HA
    have HA := Lib.hid hA
    clear hA
    generalize World.setRow V7 _ _ = V8 at HA ⊢
    have hHeld : (fun W : World => FS w0 [] W) V8 := HA.out.less (by simp)
    try simp only [Act.put, List.setIfInBounds_toArray, List.set_cons_zero, List.set_cons_succ, List.getElem_toArray, List.getElem_cons_succ, List.getElem_cons_zero]
    refine wpAnyH_ready (rs := [11]) (by kernel_rfl) (by simp) ?_
    refine AllReadyH.cons rfl (fun K hK => ?_) AllReadyH.nil
    rw [if_pos (by kernel_rfl)]
    have hA : FS w0 [(b12, (3, m2, S, 0, 0)), (b11, (2, 0, m, 2, 24))] (World.setRow V8 b12 (Sc.cs (3, m2, S, 0, 0)).toArray) := (HA.out.less (l' := [(b12, (0, 0, 0, 0, 0)), (b11, (2, 0, m, 2, 24))]) (by simp)).row (by have := HD.out; simp; omega) (by have := HD.out; omega) (3, m2, S, 0, 0)
    refine wp_store54 (x := .tmp 12) (y := .tmp 40) (b := b12) (u := (0, 0, 0, 0, 0)) (f := (3, m2, S, 0, 0)) rfl rfl rfl (HA.out.get b12 (0, 0, 0, 0, 0) (by simp)) ?_
    refine hK.out _ _ (hA.less (by simp)) (fun hHeld2 => ?_)
    clear hK K hHeld hHeld2 HA
    have HA := Lib.hid hA
    clear hA
    generalize World.setRow V8 _ _ = V9 at HA ⊢
    have hHeld : (fun W : World => FS w0 [] W) V9 := HA.out.less (by simp)
    try simp only [Act.put, List.setIfInBounds_toArray, List.set_cons_zero, List.set_cons_succ, List.getElem_toArray, List.getElem_cons_succ, List.getElem_cons_zero]
    refine wpAnyH_done (by kernel_rfl) ?_ _
    refine NoPanic.normal ?_
    clear hHeld
    have HS := HA
    clear HA
    go_upto_region 5 with fail
    obtain ⟨f0, f1, f2, f3, f4⟩ := (HS.out.get b11 (2, 0, m, 2, 24) (by simp)).c
    dsimp only at f0 f1 f2 f3 f4
    go_upto_region 6 with fail
    have HS2 : Hid (FS w0 [((World.heap V9).size, (2, 0, m, 2, 24)), (b12, (3, m2, S, 0, 0)), (b11, (2, 0, m, 2, 24))] (World.alloc V9 (.cells #[.int .u32 2, .int .u64 0, .int .u64 (m : Nat), .int .u32 2, .int .u64 24] 54))) := Lib.hid (HS.out.box (2, 0, m, 2, 24))
    have HD2 : Hid (w0.heap.size ≤ b12 ∧ w0.heap.size ≤ b11 ∧ w0.heap.size ≤ (World.heap V9).size ∧ b12 ≠ b11 ∧ b12 ≠ (World.heap V9).size ∧ b11 ≠ (World.heap V9).size) := Lib.hid (by
      have h1 := HS.out.lt
      have h2 := HS.out.2.size
      simp at h1
      have h3 := HD.out
      omega)
    clear f0 f1 f2 f3 f4
    generalize World.alloc V9 _ = X1 at HS2 ⊢
    generalize (World.heap V9).size = b13 at HS2 HD2 ⊢
    clear HD
    have HD := HD2
    clear HD2
    clear HS
    have HS := HS2
    clear HS2
    have k0 := (HS.out.get b13 (2, 0, m, 2, 24) (by simp)).c
    have k1 := k0.2.2.2.2
    dsimp only at k1
    have k2 := (HS.out.get b13 (2, 0, m, 2, 24) (by simp)).f 4
    clear k0
    go_upto_region 7 with fail
    have HS2 : Hid (FS w0 [(b13, (2, 0, m, 2, ea)), (b12, (3, m2, S, 0, 0)), (b11, (2, 0, m, 2, 24))] (World.setCell X1 ⟨b13, 4, none⟩ (.int .u64 (ea : Nat)))) := Lib.hid ((HS.out.less (l' := [(b13, (2, 0, m, 2, 24)), (b12, (3, m2, S, 0, 0)), (b11, (2, 0, m, 2, 24))]) (by simp)).set (by have := HD.out; simp; omega) (by have := HD.out; omega) 4 _ (2, 0, m, 2, ea) rfl)
    clear k1 k2
    generalize World.setCell X1 _ _ = X2 at HS2 ⊢
    clear HS
    have HS := HS2
    clear HS2
    obtain ⟨f0, f1, f2, f3, f4⟩ := (HS.out.get b13 (2, 0, m, 2, ea) (by simp)).c
    dsimp only at f0 f1 f2 f3 f4
    obtain ⟨g0, g1, g2, g3, g4⟩ := (HS.out.get b12 (3, m2, S, 0, 0) (by simp)).c
    dsimp only at g0 g1 g2 g3 g4
    have HRW := Lib.hid (rx_three X2 (2, 0, m, 2, ea) (3, m2, S, 0, 0))
    have HBZ := Lib.hid (HF0.out.1.keep (HS.out.alloc (.cells #[.int .u32 0, .int .u64 0, .int .u64 0, .int .u32 0, .int .u64 0, .int .u32 2, .int .u64 0, .int .u64 (m : Nat), .int .u32 2, .int .u64 (ea : Nat), .int .u32 3, .int .u64 (m2 : Nat), .int .u64 (S : Nat), .int .u32 0, .int .u64 0] 54)).2)
    have HSA := Lib.hid (HS.out.alloc (.cells #[.int .u32 0, .int .u64 0, .int .u64 0, .int .u32 0, .int .u64 0, .int .u32 2, .int .u64 0, .int .u64 (m : Nat), .int .u32 2, .int .u64 (ea : Nat), .int .u32 3, .int .u64 (m2 : Nat), .int .u64 (S : Nat), .int .u32 0, .int .u64 0] 54))
    go_wp2_with (first | (go_at_call 10; refine (HE1.out _ ab cb HBZ.out _ 3 HRW.out).mono ?_) | fail)
    first | (rintro e X3 vX3 rfl hb) | (rintro e X3 ⟨vX3, rfl⟩ hb) | (rintro e X3 ⟨⟨vX3, rfl⟩, hb⟩)
    have HS2 := Lib.hid (HSA.out.keep (by first | exact hb | (rw [World.size_alloc]; exact hb)))
    clear hb HSA HBZ HRW f0 f1 f2 f3 f4 g0 g1 g2 g3 g4
    clear HS
    have HS := HS2
    clear HS2
    go_upto_region 8 with fail
    obtain ⟨f0, f1, f2, f3, f4⟩ := (HS.out.get b12 (3, m2, S, 0, 0) (by simp)).c
    dsimp only at f0 f1 f2 f3 f4
    go_upto_region 9 with fail
    have HS2 : Hid (FS w0 [((World.heap X3).size, (3, m2, S, 0, 0)), (b13, (2, 0, m, 2, ea)), (b12, (3, m2, S, 0, 0)), (b11, (2, 0, m, 2, 24))] (World.alloc X3 (.cells #[.int .u32 3, .int .u64 (m2 : Nat), .int .u64 (S : Nat), .int .u32 0, .int .u64 0] 54))) := Lib.hid (HS.out.box (3, m2, S, 0, 0))
    have HD2 : Hid (w0.heap.size ≤ b13 ∧ w0.heap.size ≤ b12 ∧ w0.heap.size ≤ b11 ∧ w0.heap.size ≤ (World.heap X3).size ∧ b13 ≠ b12 ∧ b13 ≠ b11 ∧ b12 ≠ b11 ∧ b13 ≠ (World.heap X3).size ∧ b12 ≠ (World.heap X3).size ∧ b11 ≠ (World.heap X3).size) := Lib.hid (by
      have h1 := HS.out.lt
      have h2 := HS.out.2.size
      simp at h1
      have h3 := HD.out
      omega)
    clear f0 f1 f2 f3 f4
    generalize World.alloc X3 _ = X4 at HS2 ⊢
    generalize (World.heap X3).size = b16 at HS2 HD2 ⊢
    clear HD
    have HD := HD2
    clear HD2
    clear HS
    have HS := HS2
    clear HS2
    have k0 := (HS.out.get b16 (3, m2, S, 0, 0) (by simp)).c
    have k1 := k0.1
    dsimp only at k1
    have k2 := (HS.out.get b16 (3, m2, S, 0, 0) (by simp)).f 0
    clear k0
    go_upto_region 10 with fail
    have HS2 : Hid (FS w0 [(b16, (kd, m2, S, 0, 0)), (b13, (2, 0, m, 2, ea)), (b12, (3, m2, S, 0, 0)), (b11, (2, 0, m, 2, 24))] (World.setCell X4 ⟨b16, 0, none⟩ (.int .u32 (kd : Nat)))) := Lib.hid ((HS.out.less (l' := [(b16, (3, m2, S, 0, 0)), (b13, (2, 0, m, 2, ea)), (b12, (3, m2, S, 0, 0)), (b11, (2, 0, m, 2, 24))]) (by simp)).set (by have := HD.out; simp; omega) (by have := HD.out; omega) 0 _ (kd, m2, S, 0, 0) rfl)
    clear k1 k2
    generalize World.setCell X4 _ _ = X5 at HS2 ⊢
    clear HS
    have HS := HS2
    clear HS2
    obtain ⟨f0, f1, f2, f3, f4⟩ := (HS.out.get b11 (2, 0, m, 2, 24) (by simp)).c
    dsimp only at f0 f1 f2 f3 f4
    obtain ⟨g0, g1, g2, g3, g4⟩ := (HS.out.get b16 (kd, m2, S, 0, 0) (by simp)).c
    dsimp only at g0 g1 g2 g3 g4
    have HRW := Lib.hid (rx_three X5 (2, 0, m, 2, 24) (kd, m2, S, 0, 0))
    have HBZ := Lib.hid (HF0.out.1.keep (HS.out.alloc (.cells #[.int .u32 0, .int .u64 0, .int .u64 0, .int .u32 0, .int .u64 0, .int .u32 2, .int .u64 0, .int .u64 (m : Nat), .int .u32 2, .int .u64 24, .int .u32 (kd : Nat), .int .u64 (m2 : Nat), .int .u64 (S : Nat), .int .u32 0, .int .u64 0] 54)).2)
    have HSA := Lib.hid (HS.out.alloc (.cells #[.int .u32 0, .int .u64 0, .int .u64 0, .int .u32 0, .int .u64 0, .int .u32 2, .int .u64 0, .int .u64 (m : Nat), .int .u32 2, .int .u64 24, .int .u32 (kd : Nat), .int .u64 (m2 : Nat), .int .u64 (S : Nat), .int .u32 0, .int .u64 0] 54))
    go_wp2_with (first | (go_at_call 10; refine (HE2.out _ ab cb HBZ.out _ 3 HRW.out).mono ?_) | fail)
    first | (rintro e X6 vX6 rfl hb) | (rintro e X6 ⟨vX6, rfl⟩ hb) | (rintro e X6 ⟨⟨vX6, rfl⟩, hb⟩)
    have HS2 := Lib.hid (HSA.out.keep (by first | exact hb | (rw [World.size_alloc]; exact hb)))
    clear hb HSA HBZ HRW f0 f1 f2 f3 f4 g0 g1 g2 g3 g4
    clear HS
    have HS := HS2
    clear HS2
    go_upto_region 11 with fail
    obtain ⟨f0, f1, f2, f3, f4⟩ := (HS.out.get b11 (2, 0, m, 2, 24) (by simp)).c
    dsimp only at f0 f1 f2 f3 f4
    have HQ := Lib.hid (HS.out.get b13 (2, 0, m, 2, ea) (by simp))
    have HS2 : Hid (FS w0 [(b13, (2, 0, m, 2, 24)), (b16, (kd, m2, S, 0, 0)), (b12, (3, m2, S, 0, 0)), (b11, (2, 0, m, 2, 24))] (World.setRow X6 b13 (Sc.cs (2, 0, m, 2, 24)).toArray)) := Lib.hid ((HS.out.less (l' := [(b13, (2, 0, m, 2, ea)), (b16, (kd, m2, S, 0, 0)), (b12, (3, m2, S, 0, 0)), (b11, (2, 0, m, 2, 24))]) (by simp)).row (by have := HD.out; simp; omega) (by have := HD.out; omega) (2, 0, m, 2, 24))
    go_upto_region 12 with (first | (refine wpList_store54 (u := (2, 0, m, 2, ea)) (f := (2, 0, m, 2, 24)) rfl rfl rfl rfl HQ.out ?_) | fail)
    clear f0 f1 f2 f3 f4 HQ
    generalize World.setRow X6 _ _ = X7 at HS2 ⊢
    clear HS
    have HS := HS2
    clear HS2
    have k0 := (HS.out.get b13 (2, 0, m, 2, 24) (by simp)).c
    have k1 := k0.2.2.2.1
    dsimp only at k1
    have k2 := (HS.out.get b13 (2, 0, m, 2, 24) (by simp)).f 3
    clear k0
    go_upto_region 13 with fail
    have HS2 : Hid (FS w0 [(b13, (2, 0, m, lk, 24)), (b16, (kd, m2, S, 0, 0)), (b12, (3, m2, S, 0, 0)), (b11, (2, 0, m, 2, 24))] (World.setCell X7 ⟨b13, 3, none⟩ (.int .u32 (lk : Nat)))) := Lib.hid ((HS.out.less (l' := [(b13, (2, 0, m, 2, 24)), (b16, (kd, m2, S, 0, 0)), (b12, (3, m2, S, 0, 0)), (b11, (2, 0, m, 2, 24))]) (by simp)).set (by have := HD.out; simp; omega) (by have := HD.out; omega) 3 _ (2, 0, m, lk, 24) rfl)
    clear k1 k2
    generalize World.setCell X7 _ _ = X8 at HS2 ⊢
    clear HS
    have HS := HS2
    clear HS2
    obtain ⟨f0, f1, f2, f3, f4⟩ := (HS.out.get b13 (2, 0, m, lk, 24) (by simp)).c
    dsimp only at f0 f1 f2 f3 f4
    obtain ⟨g0, g1, g2, g3, g4⟩ := (HS.out.get b12 (3, m2, S, 0, 0) (by simp)).c
    dsimp only at g0 g1 g2 g3 g4
    have HRW := Lib.hid (rx_three X8 (2, 0, m, lk, 24) (3, m2, S, 0, 0))
    have HBZ := Lib.hid (HF0.out.1.keep (HS.out.alloc (.cells #[.int .u32 0, .int .u64 0, .int .u64 0, .int .u32 0, .int .u64 0, .int .u32 2, .int .u64 0, .int .u64 (m : Nat), .int .u32 (lk : Nat), .int .u64 24, .int .u32 3, .int .u64 (m2 : Nat), .int .u64 (S : Nat), .int .u32 0, .int .u64 0] 54)).2)
    have HSA := Lib.hid (HS.out.alloc (.cells #[.int .u32 0, .int .u64 0, .int .u64 0, .int .u32 0, .int .u64 0, .int .u32 2, .int .u64 0, .int .u64 (m : Nat), .int .u32 (lk : Nat), .int .u64 24, .int .u32 3, .int .u64 (m2 : Nat), .int .u64 (S : Nat), .int .u32 0, .int .u64 0] 54))
    go_wp2_with (first | (go_at_call 10; refine (HE3.out _ ab cb HBZ.out _ 3 HRW.out).mono ?_) | fail)
    first | (rintro e X9 vX9 rfl hb) | (rintro e X9 ⟨vX9, rfl⟩ hb) | (rintro e X9 ⟨⟨vX9, rfl⟩, hb⟩)
    have HS2 := Lib.hid (HSA.out.keep (by first | exact hb | (rw [World.size_alloc]; exact hb)))
    clear hb HSA HBZ HRW f0 f1 f2 f3 f4 g0 g1 g2 g3 g4
    clear HS
    have HS := HS2
    clear HS2
    go_upto_region 14 with fail
    obtain ⟨f0, f1, f2, f3, f4⟩ := (HS.out.get b12 (3, m2, S, 0, 0) (by simp)).c
    dsimp only at f0 f1 f2 f3 f4
    have HQ := Lib.hid (HS.out.get b16 (kd, m2, S, 0, 0) (by simp))
    have HS2 : Hid (FS w0 [(b16, (3, m2, S, 0, 0)), (b13, (2, 0, m, lk, 24)), (b12, (3, m2, S, 0, 0)), (b11, (2, 0, m, 2, 24))] (World.setRow X9 b16 (Sc.cs (3, m2, S, 0, 0)).toArray)) := Lib.hid ((HS.out.less (l' := [(b16, (kd, m2, S, 0, 0)), (b13, (2, 0, m, lk, 24)), (b12, (3, m2, S, 0, 0)), (b11, (2, 0, m, 2, 24))]) (by simp)).row (by have := HD.out; simp; omega) (by have := HD.out; omega) (3, m2, S, 0, 0))
    go_upto_region 15 with (first | (refine wpList_store54 (u := (kd, m2, S, 0, 0)) (f := (3, m2, S, 0, 0)) rfl rfl rfl rfl HQ.out ?_) | fail)
    clear f0 f1 f2 f3 f4 HQ
    generalize World.setRow X9 _ _ = X10 at HS2 ⊢
    clear HS
    have HS := HS2
    clear HS2
    have uN : IntKind.u64.wrap (N : Int) = (N : Int) := IntWalk.u64_in _ (by omega)
    have uN1 : IntKind.u64.wrap ((N : Int) + 1) = (N1 : Int) := by
      rw [hN2]
      exact IntWalk.u64_in _ (by omega)
    have k0 := (HS.out.get b16 (3, m2, S, 0, 0) (by simp)).c
    have k1 := k0.2.1
    dsimp only at k1
    have k2 := (HS.out.get b16 (3, m2, S, 0, 0) (by simp)).f 1
    clear k0
    go_upto_region 16 with fail
    have HS2 : Hid (FS w0 [(b16, (3, N1, S, 0, 0)), (b13, (2, 0, m, lk, 24)), (b12, (3, m2, S, 0, 0)), (b11, (2, 0, m, 2, 24))] (World.setCell X10 ⟨b16, 1, none⟩ (.int .u64 (N1 : Nat)))) := Lib.hid ((HS.out.less (l' := [(b16, (3, m2, S, 0, 0)), (b13, (2, 0, m, lk, 24)), (b12, (3, m2, S, 0, 0)), (b11, (2, 0, m, 2, 24))]) (by simp)).set (by have := HD.out; simp; omega) (by have := HD.out; omega) 1 _ (3, N1, S, 0, 0) rfl)
    clear k1 k2
    generalize World.setCell X10 _ _ = X11 at HS2 ⊢
    clear HS
    have HS := HS2
    clear HS2
    obtain ⟨f0, f1, f2, f3, f4⟩ := (HS.out.get b11 (2, 0, m, 2, 24) (by simp)).c
    dsimp only at f0 f1 f2 f3 f4
    obtain ⟨g0, g1, g2, g3, g4⟩ := (HS.out.get b16 (3, N1, S, 0, 0) (by simp)).c
    dsimp only at g0 g1 g2 g3 g4
    have HRW := Lib.hid (rx_three X11 (2, 0, m, 2, 24) (3, N1, S, 0, 0))
    have HBZ := Lib.hid (HF0.out.1.keep (HS.out.alloc (.cells #[.int .u32 0, .int .u64 0, .int .u64 0, .int .u32 0, .int .u64 0, .int .u32 2, .int .u64 0, .int .u64 (m : Nat), .int .u32 2, .int .u64 24, .int .u32 3, .int .u64 (N1 : Nat), .int .u64 (S : Nat), .int .u32 0, .int .u64 0] 54)).2)
    have HSA := Lib.hid (HS.out.alloc (.cells #[.int .u32 0, .int .u64 0, .int .u64 0, .int .u32 0, .int .u64 0, .int .u32 2, .int .u64 0, .int .u64 (m : Nat), .int .u32 2, .int .u64 24, .int .u32 3, .int .u64 (N1 : Nat), .int .u64 (S : Nat), .int .u32 0, .int .u64 0] 54))
    go_wp2_with (first | (go_at_call 10; refine (HE4.out _ ab cb HBZ.out _ 3 HRW.out).mono ?_) | fail)
    first | (rintro e X12 vX12 rfl hb) | (rintro e X12 ⟨vX12, rfl⟩ hb) | (rintro e X12 ⟨⟨vX12, rfl⟩, hb⟩)
    have HS2 := Lib.hid (HSA.out.keep (by first | exact hb | (rw [World.size_alloc]; exact hb)))
    clear hb HSA HBZ HRW f0 f1 f2 f3 f4 g0 g1 g2 g3 g4
    clear HS
    have HS := HS2
    clear HS2
    go_upto_region 17 with fail
    have HSA := Lib.hid (HS.out.2)
    clear HS
    obtain ⟨C, hmk⟩ := mk33
    go_wp2_with (first | (go_at_call 10; refine (HE5.out _ ab cb _ _).mono ?_) | fail)
    first | (rintro e X13 rfl hb) | (rintro e X13 ⟨rfl, hb⟩)
    have HBF := Lib.hid (HF0.out.2.2.1.trans ((HSA.out.trans ((((Below.refl _ X12).alloc (Nat.le_refl _) _).trans (hb.mono (by simp))).mono HSA.out.size)).mono HF0.out.2.2.1.size))
    clear hb HSA HE5 HD HF0 uN uN1 hN2 hN3 hmk
    obtain ⟨hr1, hr2, hr3⟩ := HRR.out
    clear HRR
    by_cases he0 : ea = 24
    · rw [if_pos he0] at hr1
      subst hr1
      subst he0
      by_cases he1 : kd = 3
      · rw [if_pos he1] at hr2
        subst hr2
        subst he1
        by_cases he2 : lk = 2
        · rw [if_pos he2] at hr3
          subst hr3
          subst he2
          go_wp2_with (first | (go_at_call 8; refine (HWK.out _).mono ?_) | fail)
          first | (rintro e X14 rfl hb) | (rintro e X14 ⟨rfl, hb⟩)
          have HZ := Lib.hid (HBF.out.trans (hb.mono HBF.out.size))
          clear hb
          go_wp2_with fail
          go_ret
          exact ⟨rfl, HZ.out⟩
        · rw [if_neg he2] at hr3
          subst hr3
          have d2 : ((lk : Int) == 2) = false := by
            rw [beq_eq_false_iff_ne]
            omega
          clear he2
          go_wp2_with (first | (go_at_call 8; refine (HWK.out _).mono ?_) | fail)
          first | (rintro e X14 rfl hb) | (rintro e X14 ⟨rfl, hb⟩)
          have HZ := Lib.hid (HBF.out.trans (hb.mono HBF.out.size))
          clear hb
          go_wp2_with fail
          go_ret
          exact ⟨rfl, HZ.out⟩
      · rw [if_neg he1] at hr2
        subst hr2
        have d1 : ((kd : Int) == 3) = false := by
          rw [beq_eq_false_iff_ne]
          omega
        clear he1
        by_cases he2 : lk = 2
        · rw [if_pos he2] at hr3
          subst hr3
          subst he2
          go_wp2_with (first | (go_at_call 8; refine (HWK.out _).mono ?_) | fail)
          first | (rintro e X14 rfl hb) | (rintro e X14 ⟨rfl, hb⟩)
          have HZ := Lib.hid (HBF.out.trans (hb.mono HBF.out.size))
          clear hb
          go_wp2_with fail
          go_ret
          exact ⟨rfl, HZ.out⟩
        · rw [if_neg he2] at hr3
          subst hr3
          have d2 : ((lk : Int) == 2) = false := by
            rw [beq_eq_false_iff_ne]
            omega
          clear he2
          go_wp2_with (first | (go_at_call 8; refine (HWK.out _).mono ?_) | fail)
          first | (rintro e X14 rfl hb) | (rintro e X14 ⟨rfl, hb⟩)
          have HZ := Lib.hid (HBF.out.trans (hb.mono HBF.out.size))
          clear hb
          go_wp2_with fail
          go_ret
          exact ⟨rfl, HZ.out⟩
    · rw [if_neg he0] at hr1
      subst hr1
      have d0 : ((ea : Int) == 24) = false := by
        rw [beq_eq_false_iff_ne]
        omega
      clear he0
      by_cases he1 : kd = 3
      · rw [if_pos he1] at hr2
        subst hr2
        subst he1
        by_cases he2 : lk = 2
        · rw [if_pos he2] at hr3
          subst hr3
          subst he2
          go_wp2_with (first | (go_at_call 8; refine (HWK.out _).mono ?_) | fail)
          first | (rintro e X14 rfl hb) | (rintro e X14 ⟨rfl, hb⟩)
          have HZ := Lib.hid (HBF.out.trans (hb.mono HBF.out.size))
          clear hb
          go_wp2_with fail
          go_ret
          exact ⟨rfl, HZ.out⟩
        · rw [if_neg he2] at hr3
          subst hr3
          have d2 : ((lk : Int) == 2) = false := by
            rw [beq_eq_false_iff_ne]
            omega
          clear he2
          go_wp2_with (first | (go_at_call 8; refine (HWK.out _).mono ?_) | fail)
          first | (rintro e X14 rfl hb) | (rintro e X14 ⟨rfl, hb⟩)
          have HZ := Lib.hid (HBF.out.trans (hb.mono HBF.out.size))
          clear hb
          go_wp2_with fail
          go_ret
          exact ⟨rfl, HZ.out⟩
      · rw [if_neg he1] at hr2
        subst hr2
        have d1 : ((kd : Int) == 3) = false := by
          rw [beq_eq_false_iff_ne]
          omega
        clear he1
        by_cases he2 : lk = 2
        · rw [if_pos he2] at hr3
          subst hr3
          subst he2
          go_wp2_with (first | (go_at_call 8; refine (HWK.out _).mono ?_) | fail)
          first | (rintro e X14 rfl hb) | (rintro e X14 ⟨rfl, hb⟩)
          have HZ := Lib.hid (HBF.out.trans (hb.mono HBF.out.size))
          clear hb
          go_wp2_with fail
          go_ret
          exact ⟨rfl, HZ.out⟩
        · rw [if_neg he2] at hr3
          subst hr3
          have d2 : ((lk : Int) == 2) = false := by
            rw [beq_eq_false_iff_ne]
            omega
          clear he2
          go_wp2_with (first | (go_at_call 8; refine (HWK.out _).mono ?_) | fail)
          first | (rintro e X14 rfl hb) | (rintro e X14 ⟨rfl, hb⟩)
          have HZ := Lib.hid (HBF.out.trans (hb.mono HBF.out.size))
          clear hb
          go_wp2_with fail
          go_ret
          exact ⟨rfl, HZ.out⟩
  · skip
    have hz : w0.heap.size ≤ (World.heap V5).size := hHeld.2.size
    have hA : FS w0 [((World.heap V5).size, (0, 0, 0, 0, 0))] (World.alloc V5 (.cells #[.int .u32 0, .int .u64 0, .int .u64 0, .int .u32 0, .int .u64 0] 54)) := hHeld.box (0, 0, 0, 0, 0)
    go_simp
    refine hK.out _ _ (hA.less (by simp)) (fun hHeld2 => ?_)
    clear hK K hHeld hHeld2
    have HA := Lib.hid hA
    clear hA
    generalize World.alloc V5 _ = V6 at HA ⊢
    have hz2 : (World.heap V5).size < (World.heap V6).size := by have := HA.out.lt; simp at this; omega
    generalize (World.heap V5).size = b12 at HA hz hz2 ⊢
    have hHeld : (fun W : World => FS w0 [] W) V6 := HA.out.less (by simp)
    try simp only [Act.put, List.setIfInBounds_toArray, List.set_cons_zero, List.set_cons_succ, List.getElem_toArray, List.getElem_cons_succ, List.getElem_cons_zero]
    refine wpAnyH_ready (rs := [8]) (by kernel_rfl) (by simp) ?_
    refine AllReadyH.cons rfl (fun K hK => ?_) AllReadyH.nil
    have hA : FS w0 [((World.heap V6).size, (0, 0, 0, 0, 0)), (b12, (0, 0, 0, 0, 0))] (World.alloc V6 (.cells #[.int .u32 0, .int .u64 0, .int .u64 0, .int .u32 0, .int .u64 0] 54)) := HA.out.box (0, 0, 0, 0, 0)
    go_simp
    refine hK.out _ _ (hA.less (by simp)) (fun hHeld2 => ?_)
    clear hK K hHeld hHeld2 HA
    have HA := Lib.hid hA
    clear hA
    generalize World.alloc V6 _ = V7 at HA ⊢
    generalize (World.heap V6).size = b11 at HA hz2 ⊢
    have hHeld : (fun W : World => FS w0 [] W) V7 := HA.out.less (by simp)
    try simp only [Act.put, List.setIfInBounds_toArray, List.set_cons_zero, List.set_cons_succ, List.getElem_toArray, List.getElem_cons_succ, List.getElem_cons_zero]
    have HD : Hid (w0.heap.size ≤ b11 ∧ w0.heap.size ≤ b12 ∧ b11 ≠ b12) := Lib.hid (by omega)
    clear hz hz2
    refine wpAnyH_ready (rs := [10]) (by kernel_rfl) (by simp) ?_
    refine AllReadyH.cons rfl (fun K hK => ?_) AllReadyH.nil
    rw [if_pos (by kernel_rfl)]
    have hA : FS w0 [(b11, (2, 0, m, 2, 24)), (b12, (0, 0, 0, 0, 0))] (World.setRow V7 b11 (Sc.cs (2, 0, m, 2, 24)).toArray) := (HA.out.less (l' := [(b11, (0, 0, 0, 0, 0)), (b12, (0, 0, 0, 0, 0))]) (by simp)).row (by have := HD.out; simp; omega) (by have := HD.out; omega) (2, 0, m, 2, 24)
    refine wp_store54 (x := .tmp 11) (y := .tmp 36) (b := b11) (u := (0, 0, 0, 0, 0)) (f := (2, 0, m, 2, 24)) rfl rfl rfl (HA.out.get b11 (0, 0, 0, 0, 0) (by simp)) ?_
    refine hK.out _ _ (hA.less (by simp)) (fun hHeld2 => ?_)
    clear hK K hHeld hHeld2 HA
    have HA := Lib.hid hA
    clear hA
    generalize World.setRow V7 _ _ = V8 at HA ⊢
    have hHeld : (fun W : World => FS w0 [] W) V8 := HA.out.less (by simp)
    try simp only [Act.put, List.setIfInBounds_toArray, List.set_cons_zero, List.set_cons_succ, List.getElem_toArray, List.getElem_cons_succ, List.getElem_cons_zero]
    refine wpAnyH_ready (rs := [11]) (by kernel_rfl) (by simp) ?_
    refine AllReadyH.cons rfl (fun K hK => ?_) AllReadyH.nil
    rw [if_pos (by kernel_rfl)]
    have hA : FS w0 [(b12, (3, m2, S, 0, 0)), (b11, (2, 0, m, 2, 24))] (World.setRow V8 b12 (Sc.cs (3, m2, S, 0, 0)).toArray) := (HA.out.less (l' := [(b12, (0, 0, 0, 0, 0)), (b11, (2, 0, m, 2, 24))]) (by simp)).row (by have := HD.out; simp; omega) (by have := HD.out; omega) (3, m2, S, 0, 0)
    refine wp_store54 (x := .tmp 12) (y := .tmp 40) (b := b12) (u := (0, 0, 0, 0, 0)) (f := (3, m2, S, 0, 0)) rfl rfl rfl (HA.out.get b12 (0, 0, 0, 0, 0) (by simp)) ?_
    refine hK.out _ _ (hA.less (by simp)) (fun hHeld2 => ?_)
    clear hK K hHeld hHeld2 HA
    have HA := Lib.hid hA
    clear hA
    generalize World.setRow V8 _ _ = V9 at HA ⊢
    have hHeld : (fun W : World => FS w0 [] W) V9 := HA.out.less (by simp)
    try simp only [Act.put, List.setIfInBounds_toArray, List.set_cons_zero, List.set_cons_succ, List.getElem_toArray, List.getElem_cons_succ, List.getElem_cons_zero]
    refine wpAnyH_done (by kernel_rfl) ?_ _
    refine NoPanic.normal ?_
    clear hHeld
    have HS := HA
    clear HA
    go_upto_region 5 with fail
    obtain ⟨f0, f1, f2, f3, f4⟩ := (HS.out.get b11 (2, 0, m, 2, 24) (by simp)).c
    dsimp only at f0 f1 f2 f3 f4
    go_upto_region 6 with fail
    have HS2 : Hid (FS w0 [((World.heap V9).size, (2, 0, m, 2, 24)), (b12, (3, m2, S, 0, 0)), (b11, (2, 0, m, 2, 24))] (World.alloc V9 (.cells #[.int .u32 2, .int .u64 0, .int .u64 (m : Nat), .int .u32 2, .int .u64 24] 54))) := Lib.hid (HS.out.box (2, 0, m, 2, 24))
    have HD2 : Hid (w0.heap.size ≤ b12 ∧ w0.heap.size ≤ b11 ∧ w0.heap.size ≤ (World.heap V9).size ∧ b12 ≠ b11 ∧ b12 ≠ (World.heap V9).size ∧ b11 ≠ (World.heap V9).size) := Lib.hid (by
      have h1 := HS.out.lt
      have h2 := HS.out.2.size
      simp at h1
      have h3 := HD.out
      omega)
    clear f0 f1 f2 f3 f4
    generalize World.alloc V9 _ = X1 at HS2 ⊢
    generalize (World.heap V9).size = b13 at HS2 HD2 ⊢
    clear HD
    have HD := HD2
    clear HD2
    clear HS
    have HS := HS2
    clear HS2
    have k0 := (HS.out.get b13 (2, 0, m, 2, 24) (by simp)).c
    have k1 := k0.2.2.2.2
    dsimp only at k1
    have k2 := (HS.out.get b13 (2, 0, m, 2, 24) (by simp)).f 4
    clear k0
    go_upto_region 7 with fail
    have HS2 : Hid (FS w0 [(b13, (2, 0, m, 2, ea)), (b12, (3, m2, S, 0, 0)), (b11, (2, 0, m, 2, 24))] (World.setCell X1 ⟨b13, 4, none⟩ (.int .u64 (ea : Nat)))) := Lib.hid ((HS.out.less (l' := [(b13, (2, 0, m, 2, 24)), (b12, (3, m2, S, 0, 0)), (b11, (2, 0, m, 2, 24))]) (by simp)).set (by have := HD.out; simp; omega) (by have := HD.out; omega) 4 _ (2, 0, m, 2, ea) rfl)
    clear k1 k2
    generalize World.setCell X1 _ _ = X2 at HS2 ⊢
    clear HS
    have HS := HS2
    clear HS2
    obtain ⟨f0, f1, f2, f3, f4⟩ := (HS.out.get b13 (2, 0, m, 2, ea) (by simp)).c
    dsimp only at f0 f1 f2 f3 f4
    obtain ⟨g0, g1, g2, g3, g4⟩ := (HS.out.get b12 (3, m2, S, 0, 0) (by simp)).c
    dsimp only at g0 g1 g2 g3 g4
    have HRW := Lib.hid (rx_three X2 (2, 0, m, 2, ea) (3, m2, S, 0, 0))
    have HBZ := Lib.hid (HF0.out.1.keep (HS.out.alloc (.cells #[.int .u32 0, .int .u64 0, .int .u64 0, .int .u32 0, .int .u64 0, .int .u32 2, .int .u64 0, .int .u64 (m : Nat), .int .u32 2, .int .u64 (ea : Nat), .int .u32 3, .int .u64 (m2 : Nat), .int .u64 (S : Nat), .int .u32 0, .int .u64 0] 54)).2)
    have HSA := Lib.hid (HS.out.alloc (.cells #[.int .u32 0, .int .u64 0, .int .u64 0, .int .u32 0, .int .u64 0, .int .u32 2, .int .u64 0, .int .u64 (m : Nat), .int .u32 2, .int .u64 (ea : Nat), .int .u32 3, .int .u64 (m2 : Nat), .int .u64 (S : Nat), .int .u32 0, .int .u64 0] 54))
    go_wp2_with (first | (go_at_call 10; refine (HE1.out _ ab cb HBZ.out _ 3 HRW.out).mono ?_) | fail)
    first | (rintro e X3 vX3 rfl hb) | (rintro e X3 ⟨vX3, rfl⟩ hb) | (rintro e X3 ⟨⟨vX3, rfl⟩, hb⟩)
    have HS2 := Lib.hid (HSA.out.keep (by first | exact hb | (rw [World.size_alloc]; exact hb)))
    clear hb HSA HBZ HRW f0 f1 f2 f3 f4 g0 g1 g2 g3 g4
    clear HS
    have HS := HS2
    clear HS2
    go_upto_region 8 with fail
    obtain ⟨f0, f1, f2, f3, f4⟩ := (HS.out.get b12 (3, m2, S, 0, 0) (by simp)).c
    dsimp only at f0 f1 f2 f3 f4
    go_upto_region 9 with fail
    have HS2 : Hid (FS w0 [((World.heap X3).size, (3, m2, S, 0, 0)), (b13, (2, 0, m, 2, ea)), (b12, (3, m2, S, 0, 0)), (b11, (2, 0, m, 2, 24))] (World.alloc X3 (.cells #[.int .u32 3, .int .u64 (m2 : Nat), .int .u64 (S : Nat), .int .u32 0, .int .u64 0] 54))) := Lib.hid (HS.out.box (3, m2, S, 0, 0))
    have HD2 : Hid (w0.heap.size ≤ b13 ∧ w0.heap.size ≤ b12 ∧ w0.heap.size ≤ b11 ∧ w0.heap.size ≤ (World.heap X3).size ∧ b13 ≠ b12 ∧ b13 ≠ b11 ∧ b12 ≠ b11 ∧ b13 ≠ (World.heap X3).size ∧ b12 ≠ (World.heap X3).size ∧ b11 ≠ (World.heap X3).size) := Lib.hid (by
      have h1 := HS.out.lt
      have h2 := HS.out.2.size
      simp at h1
      have h3 := HD.out
      omega)
    clear f0 f1 f2 f3 f4
    generalize World.alloc X3 _ = X4 at HS2 ⊢
    generalize (World.heap X3).size = b16 at HS2 HD2 ⊢
    clear HD
    have HD := HD2
    clear HD2
    clear HS
    have HS := HS2
    clear HS2
    have k0 := (HS.out.get b16 (3, m2, S, 0, 0) (by simp)).c
    have k1 := k0.1
    dsimp only at k1
    have k2 := (HS.out.get b16 (3, m2, S, 0, 0) (by simp)).f 0
    clear k0
    go_upto_region 10 with fail
    have HS2 : Hid (FS w0 [(b16, (kd, m2, S, 0, 0)), (b13, (2, 0, m, 2, ea)), (b12, (3, m2, S, 0, 0)), (b11, (2, 0, m, 2, 24))] (World.setCell X4 ⟨b16, 0, none⟩ (.int .u32 (kd : Nat)))) := Lib.hid ((HS.out.less (l' := [(b16, (3, m2, S, 0, 0)), (b13, (2, 0, m, 2, ea)), (b12, (3, m2, S, 0, 0)), (b11, (2, 0, m, 2, 24))]) (by simp)).set (by have := HD.out; simp; omega) (by have := HD.out; omega) 0 _ (kd, m2, S, 0, 0) rfl)
    clear k1 k2
    generalize World.setCell X4 _ _ = X5 at HS2 ⊢
    clear HS
    have HS := HS2
    clear HS2
    obtain ⟨f0, f1, f2, f3, f4⟩ := (HS.out.get b11 (2, 0, m, 2, 24) (by simp)).c
    dsimp only at f0 f1 f2 f3 f4
    obtain ⟨g0, g1, g2, g3, g4⟩ := (HS.out.get b16 (kd, m2, S, 0, 0) (by simp)).c
    dsimp only at g0 g1 g2 g3 g4
    have HRW := Lib.hid (rx_three X5 (2, 0, m, 2, 24) (kd, m2, S, 0, 0))
    have HBZ := Lib.hid (HF0.out.1.keep (HS.out.alloc (.cells #[.int .u32 0, .int .u64 0, .int .u64 0, .int .u32 0, .int .u64 0, .int .u32 2, .int .u64 0, .int .u64 (m : Nat), .int .u32 2, .int .u64 24, .int .u32 (kd : Nat), .int .u64 (m2 : Nat), .int .u64 (S : Nat), .int .u32 0, .int .u64 0] 54)).2)
    have HSA := Lib.hid (HS.out.alloc (.cells #[.int .u32 0, .int .u64 0, .int .u64 0, .int .u32 0, .int .u64 0, .int .u32 2, .int .u64 0, .int .u64 (m : Nat), .int .u32 2, .int .u64 24, .int .u32 (kd : Nat), .int .u64 (m2 : Nat), .int .u64 (S : Nat), .int .u32 0, .int .u64 0] 54))
    go_wp2_with (first | (go_at_call 10; refine (HE2.out _ ab cb HBZ.out _ 3 HRW.out).mono ?_) | fail)
    first | (rintro e X6 vX6 rfl hb) | (rintro e X6 ⟨vX6, rfl⟩ hb) | (rintro e X6 ⟨⟨vX6, rfl⟩, hb⟩)
    have HS2 := Lib.hid (HSA.out.keep (by first | exact hb | (rw [World.size_alloc]; exact hb)))
    clear hb HSA HBZ HRW f0 f1 f2 f3 f4 g0 g1 g2 g3 g4
    clear HS
    have HS := HS2
    clear HS2
    go_upto_region 11 with fail
    obtain ⟨f0, f1, f2, f3, f4⟩ := (HS.out.get b11 (2, 0, m, 2, 24) (by simp)).c
    dsimp only at f0 f1 f2 f3 f4
    have HQ := Lib.hid (HS.out.get b13 (2, 0, m, 2, ea) (by simp))
    have HS2 : Hid (FS w0 [(b13, (2, 0, m, 2, 24)), (b16, (kd, m2, S, 0, 0)), (b12, (3, m2, S, 0, 0)), (b11, (2, 0, m, 2, 24))] (World.setRow X6 b13 (Sc.cs (2, 0, m, 2, 24)).toArray)) := Lib.hid ((HS.out.less (l' := [(b13, (2, 0, m, 2, ea)), (b16, (kd, m2, S, 0, 0)), (b12, (3, m2, S, 0, 0)), (b11, (2, 0, m, 2, 24))]) (by simp)).row (by have := HD.out; simp; omega) (by have := HD.out; omega) (2, 0, m, 2, 24))
    go_upto_region 12 with (first | (refine wpList_store54 (u := (2, 0, m, 2, ea)) (f := (2, 0, m, 2, 24)) rfl rfl rfl rfl HQ.out ?_) | fail)
    clear f0 f1 f2 f3 f4 HQ
    generalize World.setRow X6 _ _ = X7 at HS2 ⊢
    clear HS
    have HS := HS2
    clear HS2
    have k0 := (HS.out.get b13 (2, 0, m, 2, 24) (by simp)).c
    have k1 := k0.2.2.2.1
    dsimp only at k1
    have k2 := (HS.out.get b13 (2, 0, m, 2, 24) (by simp)).f 3
    clear k0
    go_upto_region 13 with fail
    have HS2 : Hid (FS w0 [(b13, (2, 0, m, lk, 24)), (b16, (kd, m2, S, 0, 0)), (b12, (3, m2, S, 0, 0)), (b11, (2, 0, m, 2, 24))] (World.setCell X7 ⟨b13, 3, none⟩ (.int .u32 (lk : Nat)))) := Lib.hid ((HS.out.less (l' := [(b13, (2, 0, m, 2, 24)), (b16, (kd, m2, S, 0, 0)), (b12, (3, m2, S, 0, 0)), (b11, (2, 0, m, 2, 24))]) (by simp)).set (by have := HD.out; simp; omega) (by have := HD.out; omega) 3 _ (2, 0, m, lk, 24) rfl)
    clear k1 k2
    generalize World.setCell X7 _ _ = X8 at HS2 ⊢
    clear HS
    have HS := HS2
    clear HS2
    obtain ⟨f0, f1, f2, f3, f4⟩ := (HS.out.get b13 (2, 0, m, lk, 24) (by simp)).c
    dsimp only at f0 f1 f2 f3 f4
    obtain ⟨g0, g1, g2, g3, g4⟩ := (HS.out.get b12 (3, m2, S, 0, 0) (by simp)).c
    dsimp only at g0 g1 g2 g3 g4
    have HRW := Lib.hid (rx_three X8 (2, 0, m, lk, 24) (3, m2, S, 0, 0))
    have HBZ := Lib.hid (HF0.out.1.keep (HS.out.alloc (.cells #[.int .u32 0, .int .u64 0, .int .u64 0, .int .u32 0, .int .u64 0, .int .u32 2, .int .u64 0, .int .u64 (m : Nat), .int .u32 (lk : Nat), .int .u64 24, .int .u32 3, .int .u64 (m2 : Nat), .int .u64 (S : Nat), .int .u32 0, .int .u64 0] 54)).2)
    have HSA := Lib.hid (HS.out.alloc (.cells #[.int .u32 0, .int .u64 0, .int .u64 0, .int .u32 0, .int .u64 0, .int .u32 2, .int .u64 0, .int .u64 (m : Nat), .int .u32 (lk : Nat), .int .u64 24, .int .u32 3, .int .u64 (m2 : Nat), .int .u64 (S : Nat), .int .u32 0, .int .u64 0] 54))
    go_wp2_with (first | (go_at_call 10; refine (HE3.out _ ab cb HBZ.out _ 3 HRW.out).mono ?_) | fail)
    first | (rintro e X9 vX9 rfl hb) | (rintro e X9 ⟨vX9, rfl⟩ hb) | (rintro e X9 ⟨⟨vX9, rfl⟩, hb⟩)
    have HS2 := Lib.hid (HSA.out.keep (by first | exact hb | (rw [World.size_alloc]; exact hb)))
    clear hb HSA HBZ HRW f0 f1 f2 f3 f4 g0 g1 g2 g3 g4
    clear HS
    have HS := HS2
    clear HS2
    go_upto_region 14 with fail
    obtain ⟨f0, f1, f2, f3, f4⟩ := (HS.out.get b12 (3, m2, S, 0, 0) (by simp)).c
    dsimp only at f0 f1 f2 f3 f4
    have HQ := Lib.hid (HS.out.get b16 (kd, m2, S, 0, 0) (by simp))
    have HS2 : Hid (FS w0 [(b16, (3, m2, S, 0, 0)), (b13, (2, 0, m, lk, 24)), (b12, (3, m2, S, 0, 0)), (b11, (2, 0, m, 2, 24))] (World.setRow X9 b16 (Sc.cs (3, m2, S, 0, 0)).toArray)) := Lib.hid ((HS.out.less (l' := [(b16, (kd, m2, S, 0, 0)), (b13, (2, 0, m, lk, 24)), (b12, (3, m2, S, 0, 0)), (b11, (2, 0, m, 2, 24))]) (by simp)).row (by have := HD.out; simp; omega) (by have := HD.out; omega) (3, m2, S, 0, 0))
    go_upto_region 15 with (first | (refine wpList_store54 (u := (kd, m2, S, 0, 0)) (f := (3, m2, S, 0, 0)) rfl rfl rfl rfl HQ.out ?_) | fail)
    clear f0 f1 f2 f3 f4 HQ
    generalize World.setRow X9 _ _ = X10 at HS2 ⊢
    clear HS
    have HS := HS2
    clear HS2
    have uN : IntKind.u64.wrap (N : Int) = (N : Int) := IntWalk.u64_in _ (by omega)
    have uN1 : IntKind.u64.wrap ((N : Int) + 1) = (N1 : Int) := by
      rw [hN2]
      exact IntWalk.u64_in _ (by omega)
    have k0 := (HS.out.get b16 (3, m2, S, 0, 0) (by simp)).c
    have k1 := k0.2.1
    dsimp only at k1
    have k2 := (HS.out.get b16 (3, m2, S, 0, 0) (by simp)).f 1
    clear k0
    go_upto_region 16 with fail
    have HS2 : Hid (FS w0 [(b16, (3, N1, S, 0, 0)), (b13, (2, 0, m, lk, 24)), (b12, (3, m2, S, 0, 0)), (b11, (2, 0, m, 2, 24))] (World.setCell X10 ⟨b16, 1, none⟩ (.int .u64 (N1 : Nat)))) := Lib.hid ((HS.out.less (l' := [(b16, (3, m2, S, 0, 0)), (b13, (2, 0, m, lk, 24)), (b12, (3, m2, S, 0, 0)), (b11, (2, 0, m, 2, 24))]) (by simp)).set (by have := HD.out; simp; omega) (by have := HD.out; omega) 1 _ (3, N1, S, 0, 0) rfl)
    clear k1 k2
    generalize World.setCell X10 _ _ = X11 at HS2 ⊢
    clear HS
    have HS := HS2
    clear HS2
    obtain ⟨f0, f1, f2, f3, f4⟩ := (HS.out.get b11 (2, 0, m, 2, 24) (by simp)).c
    dsimp only at f0 f1 f2 f3 f4
    obtain ⟨g0, g1, g2, g3, g4⟩ := (HS.out.get b16 (3, N1, S, 0, 0) (by simp)).c
    dsimp only at g0 g1 g2 g3 g4
    have HRW := Lib.hid (rx_three X11 (2, 0, m, 2, 24) (3, N1, S, 0, 0))
    have HBZ := Lib.hid (HF0.out.1.keep (HS.out.alloc (.cells #[.int .u32 0, .int .u64 0, .int .u64 0, .int .u32 0, .int .u64 0, .int .u32 2, .int .u64 0, .int .u64 (m : Nat), .int .u32 2, .int .u64 24, .int .u32 3, .int .u64 (N1 : Nat), .int .u64 (S : Nat), .int .u32 0, .int .u64 0] 54)).2)
    have HSA := Lib.hid (HS.out.alloc (.cells #[.int .u32 0, .int .u64 0, .int .u64 0, .int .u32 0, .int .u64 0, .int .u32 2, .int .u64 0, .int .u64 (m : Nat), .int .u32 2, .int .u64 24, .int .u32 3, .int .u64 (N1 : Nat), .int .u64 (S : Nat), .int .u32 0, .int .u64 0] 54))
    go_wp2_with (first | (go_at_call 10; refine (HE4.out _ ab cb HBZ.out _ 3 HRW.out).mono ?_) | fail)
    first | (rintro e X12 vX12 rfl hb) | (rintro e X12 ⟨vX12, rfl⟩ hb) | (rintro e X12 ⟨⟨vX12, rfl⟩, hb⟩)
    have HS2 := Lib.hid (HSA.out.keep (by first | exact hb | (rw [World.size_alloc]; exact hb)))
    clear hb HSA HBZ HRW f0 f1 f2 f3 f4 g0 g1 g2 g3 g4
    clear HS
    have HS := HS2
    clear HS2
    go_upto_region 17 with fail
    have HSA := Lib.hid (HS.out.2)
    clear HS
    obtain ⟨C, hmk⟩ := mk33
    go_wp2_with (first | (go_at_call 10; refine (HE5.out _ ab cb _ _).mono ?_) | fail)
    first | (rintro e X13 rfl hb) | (rintro e X13 ⟨rfl, hb⟩)
    have HBF := Lib.hid (HF0.out.2.2.1.trans ((HSA.out.trans ((((Below.refl _ X12).alloc (Nat.le_refl _) _).trans (hb.mono (by simp))).mono HSA.out.size)).mono HF0.out.2.2.1.size))
    clear hb HSA HE5 HD HF0 uN uN1 hN2 hN3 hmk
    obtain ⟨hr1, hr2, hr3⟩ := HRR.out
    clear HRR
    by_cases he0 : ea = 24
    · rw [if_pos he0] at hr1
      subst hr1
      subst he0
      by_cases he1 : kd = 3
      · rw [if_pos he1] at hr2
        subst hr2
        subst he1
        by_cases he2 : lk = 2
        · rw [if_pos he2] at hr3
          subst hr3
          subst he2
          go_wp2_with (first | (go_at_call 8; refine (HWK.out _).mono ?_) | fail)
          first | (rintro e X14 rfl hb) | (rintro e X14 ⟨rfl, hb⟩)
          have HZ := Lib.hid (HBF.out.trans (hb.mono HBF.out.size))
          clear hb
          go_wp2_with fail
          go_ret
          exact ⟨rfl, HZ.out⟩
        · rw [if_neg he2] at hr3
          subst hr3
          have d2 : ((lk : Int) == 2) = false := by
            rw [beq_eq_false_iff_ne]
            omega
          clear he2
          go_wp2_with (first | (go_at_call 8; refine (HWK.out _).mono ?_) | fail)
          first | (rintro e X14 rfl hb) | (rintro e X14 ⟨rfl, hb⟩)
          have HZ := Lib.hid (HBF.out.trans (hb.mono HBF.out.size))
          clear hb
          go_wp2_with fail
          go_ret
          exact ⟨rfl, HZ.out⟩
      · rw [if_neg he1] at hr2
        subst hr2
        have d1 : ((kd : Int) == 3) = false := by
          rw [beq_eq_false_iff_ne]
          omega
        clear he1
        by_cases he2 : lk = 2
        · rw [if_pos he2] at hr3
          subst hr3
          subst he2
          go_wp2_with (first | (go_at_call 8; refine (HWK.out _).mono ?_) | fail)
          first | (rintro e X14 rfl hb) | (rintro e X14 ⟨rfl, hb⟩)
          have HZ := Lib.hid (HBF.out.trans (hb.mono HBF.out.size))
          clear hb
          go_wp2_with fail
          go_ret
          exact ⟨rfl, HZ.out⟩
        · rw [if_neg he2] at hr3
          subst hr3
          have d2 : ((lk : Int) == 2) = false := by
            rw [beq_eq_false_iff_ne]
            omega
          clear he2
          go_wp2_with (first | (go_at_call 8; refine (HWK.out _).mono ?_) | fail)
          first | (rintro e X14 rfl hb) | (rintro e X14 ⟨rfl, hb⟩)
          have HZ := Lib.hid (HBF.out.trans (hb.mono HBF.out.size))
          clear hb
          go_wp2_with fail
          go_ret
          exact ⟨rfl, HZ.out⟩
    · rw [if_neg he0] at hr1
      subst hr1
      have d0 : ((ea : Int) == 24) = false := by
        rw [beq_eq_false_iff_ne]
        omega
      clear he0
      by_cases he1 : kd = 3
      · rw [if_pos he1] at hr2
        subst hr2
        subst he1
        by_cases he2 : lk = 2
        · rw [if_pos he2] at hr3
          subst hr3
          subst he2
          go_wp2_with (first | (go_at_call 8; refine (HWK.out _).mono ?_) | fail)
          first | (rintro e X14 rfl hb) | (rintro e X14 ⟨rfl, hb⟩)
          have HZ := Lib.hid (HBF.out.trans (hb.mono HBF.out.size))
          clear hb
          go_wp2_with fail
          go_ret
          exact ⟨rfl, HZ.out⟩
        · rw [if_neg he2] at hr3
          subst hr3
          have d2 : ((lk : Int) == 2) = false := by
            rw [beq_eq_false_iff_ne]
            omega
          clear he2
          go_wp2_with (first | (go_at_call 8; refine (HWK.out _).mono ?_) | fail)
          first | (rintro e X14 rfl hb) | (rintro e X14 ⟨rfl, hb⟩)
          have HZ := Lib.hid (HBF.out.trans (hb.mono HBF.out.size))
          clear hb
          go_wp2_with fail
          go_ret
          exact ⟨rfl, HZ.out⟩
      · rw [if_neg he1] at hr2
        subst hr2
        have d1 : ((kd : Int) == 3) = false := by
          rw [beq_eq_false_iff_ne]
          omega
        clear he1
        by_cases he2 : lk = 2
        · rw [if_pos he2] at hr3
          subst hr3
          subst he2
          go_wp2_with (first | (go_at_call 8; refine (HWK.out _).mono ?_) | fail)
          first | (rintro e X14 rfl hb) | (rintro e X14 ⟨rfl, hb⟩)
          have HZ := Lib.hid (HBF.out.trans (hb.mono HBF.out.size))
          clear hb
          go_wp2_with fail
          go_ret
          exact ⟨rfl, HZ.out⟩
        · rw [if_neg he2] at hr3
          subst hr3
          have d2 : ((lk : Int) == 2) = false := by
            rw [beq_eq_false_iff_ne]
            omega
          clear he2
          go_wp2_with (first | (go_at_call 8; refine (HWK.out _).mono ?_) | fail)
          first | (rintro e X14 rfl hb) | (rintro e X14 ⟨rfl, hb⟩)
          have HZ := Lib.hid (HBF.out.trans (hb.mono HBF.out.size))
          clear hb
          go_wp2_with fail
          go_ret
          exact ⟨rfl, HZ.out⟩
theorem errs_great (a : Option Addr) (p : Nat) (n : Nat) (x y z : Value) (w : World) (hgr : Calls Try.prog 7 #[.slice a n p] w fun e W' => W' = w ∧ e = .returned (.bool true)) : Calls Try.prog 6 #[.slice a n p, x, y, z] w fun e W' => e = .returned (.bool true) ∧ Below w.heap.size w W' := by
  have HGR := Lib.hid hgr
  have HWK := Lib.hid wakes_any
  clear hgr
  go_enter Try.func6, Try.ntmps6
  go_wp2_with (first | (go_at_call 7; refine HGR.out.mono ?_) | fail)
  first | (rintro e W1 hw1 rfl) | (rintro e W1 ⟨hw1, rfl⟩)
  rw [hw1]
  clear hw1
  go_wp2_with (first | (go_at_call 8; refine (HWK.out _).mono ?_) | fail)
  first | (rintro e W1 rfl hb) | (rintro e W1 ⟨rfl, hb⟩)
  go_wp2_with fail
  go_ret
  exact ⟨rfl, hb⟩
theorem errs_law (a : Option Addr) (p : Nat) (l : List En) (hn : l.length ≤ 9223372036854775807) (hs : ∀ x, x ∈ l → x.1.size ≤ 9223372036854775807) (hok : ∀ x, x ∈ l → x.ok) (ea kd lk : Nat) (hea : U ea) (hkd : V32 kd) (hlk : V32 lk) (w : World) (h : RX w a (l.flatMap En.cs)) :
    Calls Try.prog 6 #[.slice a l.length p, .int .u64 (ea : Nat), .int .u32 (kd : Nat), .int .u32 (lk : Nat)] w fun e W' => e = .returned (.bool true) ∧ Below w.heap.size w W' := by
  have hg := great_any a p l hn hs w h
  by_cases hc : l.length ≤ 60 ∧ ∀ x, x ∈ l → x.fine
  · exact errs_small a p l hc.1 hc.2 hok ea kd lk hea hkd hlk w h (hg.mono fun e W' h => ⟨h.1, h.2.choose, h.2.choose_spec.1⟩)
  · refine errs_great a p l.length _ _ _ w (hg.mono fun e W' h => ⟨h.1, ?_⟩)
    obtain ⟨g, h1, h2⟩ := h.2
    cases g
    · exact absurd (h2 rfl) hc
    · exact h1
end Go.Proofs.Ytegbhjmghkbgmaa
