/- names.Read: pieces that are not whole. -/
import Derived.Test.YtegbhjmghkbgmaaRa
namespace Go.Proofs.Ytegbhjmghkbgmaa
open Go.RowKit Go.Shelf
set_option linter.unusedVariables false
set_option linter.unusedSimpArgs false
attribute [local go_sem] Oper.semAt_some
/-- What a region keeps may be made more, midway. -/
theorem wpAnyH_narrow {P : Program} {md : Region.Mode} {ops : Array Oper} {Q : Exit → Act → World → Prop} {S S' : World → Prop} (hS : ∀ w, S' w → S w) :
    ∀ (fuel : Nat) (listed : Array Bool) (a : Act) (w : World), wpAnyH P md ops Q S' fuel listed a w → wpAnyH P md ops Q S fuel listed a w
  | 0, _, _, _, h => h
  | fuel + 1, _, _, _, h => ⟨h.1, fun i hi => wpOp_mono (fun a w hh => ⟨hS w hh.1, wpAnyH_narrow hS fuel _ a w hh.2⟩) (h.2 i hi)⟩
/-- What piece hands over, whole or not. -/
def PieceX (s : Sc) (pb : Bool) (z : Nat → Nat) (w : World) (e : Ending) (W' : World) : Prop := ∃ a' n' c', e = .returned (.tuple #[.slice a' n' c', .bool pb]) ∧ (pb = true → n' = s.2.2.1 ∧ BZ W' a' n' c' (shZ z s.2.1)) ∧ Below w.heap.size w W'
theorem PieceOf.x {s : Sc} {n : Nat} {z : Nat → Nat} {w : World} {e : Ending} {W' : World} (h : PieceOf s n z w e W') : PieceX s (pieceB s n) z w e W' := by
  obtain ⟨h1, h2, h3⟩ := h
  cases hp : pieceB s n
  · exact ⟨none, 0, 0, h2 hp, (fun h => by cases h), h3⟩
  · obtain ⟨a', c', he, hz⟩ := h1 hp
    exact ⟨a', _, c', he, fun _ => ⟨rfl, hz⟩, h3⟩
/-- Bytes that can be read, if they are there. -/
def BC (pb : Bool) (s : Sc) (z : Nat → Nat) (a : Option Addr) (n c : Nat) (W : World) : Prop := pb = true → n = s.2.2.1 ∧ BZ W a n c (shZ z s.2.1)
theorem BC.keep {pb : Bool} {s : Sc} {z : Nat → Nat} {a : Option Addr} {n c : Nat} {W W' : World} (h : BC pb s z a n c W) (hb : Below W.heap.size W W') : BC pb s z a n c W' := fun hp => ⟨(h hp).1, (h hp).2.keep hb⟩
theorem BC.drew {pb : Bool} {s : Sc} {z : Nat → Nat} {a : Option Addr} {n c : Nat} {W : World} (h : BC pb s z a n c W) : BC pb s z a n c W.drew := h.keep (Below.refl _ W).drew
theorem BZ.put {W : World} {a : Option Addr} {n c : Nat} {z : Nat → Nat} {bq : Nat} {p : Option Addr} {q r : Nat} (h : BZ W a n c z) (hx : Boxed W bq 27 (.slice p q r)) (v : Value) : BZ (W.setCell ⟨bq, 0, none⟩ v) a n c z := by
  refine ⟨?_, h.2⟩
  rcases h.1 with h | ⟨b, off, ha, hc⟩
  · exact .inl h
  · refine .inr ⟨b, off, ha, fun j hj => ?_⟩
    have h1 := hc j hj
    rw [World.cell?_setCell_other]
    · exact h1
    · intro e
      rw [← e, hx.cell] at h1
      cases h1
theorem BC.put {pb : Bool} {s : Sc} {z : Nat → Nat} {a : Option Addr} {n c : Nat} {W : World} {bq : Nat} {p : Option Addr} {q r : Nat} (h : BC pb s z a n c W) (hx : Boxed W bq 27 (.slice p q r)) (v : Value) : BC pb s z a n c (W.setCell ⟨bq, 0, none⟩ v) := fun hp => ⟨(h hp).1, (h hp).2.put hx v⟩
theorem HW.put {w : World} {v0 v1 v2 v3 : Value} {a : Option Addr} {n p : Nat} {W : World} {bq : Nat} (h : HW w v0 v1 v2 v3 a n p W) (hq : w.heap.size < bq) (v : Value) : HW w v0 v1 v2 v3 a n p (W.setCell ⟨bq, 0, none⟩ v) := ⟨(Below.heap_setCell W _ _ _ (by simp; omega)).trans h.1, h.2.setCell (p := ⟨bq, 0, none⟩) (by dsimp only; omega) _⟩
theorem Boxed.keep' {W W' : World} {B : Nat} {t : TypeId} {v : Value} (h : Boxed W B t v) (hb : Below W.heap.size W W') : Boxed W' B t v := (hb.block _ h.lt).trans h
set_option maxRecDepth 100000 in
set_option maxHeartbeats 8000000 in
theorem read_place (ab : Option Addr) (bn bc : Nat) (z : Nat → Nat) (v0 v1 v2 v3 : Value) (a : Option Addr) (p : Nat) (cs : List Sc) (hok : ∀ s, s ∈ cs → s.ok) (hn : cs.length ≤ 32) (i : Nat) (hi : symI cs = some i) (s : Sc) (hs : cs[i]? = some s) (hk : kindsS s cs = true) (x : Sc) (hx : cs[s.2.2.2.1]? = some x) (hp : (pieceB s bn && pieceB x bn) = false) (w : World) (hbz : BZ w ab bn bc z) (h : RX w a (cs.flatMap Sc.cs)) : Calls Try.prog 10 #[.slice ab bn bc, .agg #[v0, v1, v2, v3, .slice a cs.length p]] w fun e W' => e = .returned (.tuple #[.slice none 0 0, .int .i64 33]) ∧ Below w.heap.size w W' := by
  have hkk := hk
  obtain ⟨b9, o9, rfl, -⟩ := Sc_at h hs
  have hin : i < cs.length := (List.getElem?_eq_some_iff.1 hs).1
  have hln : s.2.2.2.1 < cs.length := (List.getElem?_eq_some_iff.1 hx).1
  have HIX := Lib.hid (fun W (hb : Below w.heap.size w W) => index_func _ p cs (by omega) W (h.keep hb))
  have hv : symV cs = (i : Int) := by unfold symV; rw [hi]
  rw [hv] at HIX
  clear hv hi
  have HX := Lib.hid (fun W (hb : Below w.heap.size w W) => h.keep hb)
  have HKI := Lib.hid (fun W (hb : Below w.heap.size w W) => kinds_any s (hok s (List.mem_of_getElem? hs)) _ p cs (by omega) W (h.keep hb))
  have HK1 := Lib.hid hs
  have HK2 := Lib.hid hx
  have HP1 := Lib.hid (fun W (hb : Below w.heap.size w W) => (piece_any ab bn bc z s (hok s (List.mem_of_getElem? hs)) W (hbz.keep hb)).mono (fun e W' h => h.x))
  have HP2 := Lib.hid (fun W (hb : Below w.heap.size w W) => (piece_any ab bn bc z x (hok x (List.mem_of_getElem? hx)) W (hbz.keep hb)).mono (fun e W' h => h.x))
  rw [hk] at HKI
  clear hk hs hok h hbz hkk hx
  generalize cs.length = n at *
  have HS := Lib.hid (HW.new w v0 v1 v2 v3 (some ⟨b9, o9, none⟩) n p)
  have d1 : decide ((32 : Int) < (n : Int)) = false := decide_eq_false (by omega)
  have hx1 : ¬ (32 : Int) < (n : Int) := by omega
  have hx2 : ¬ (i : Int) < 0 := by omega
  have hx3 : (i : Int) < (n : Int) := by omega
  have hx4 : ((s.2.2.2.1 : Nat) : Int) < (n : Int) := by omega
  generalize pieceB s bn = pb1 at *
  generalize pieceB x bn = pb2 at *
  refine (callsIn_wide (n := 5)).1 (callsIn_of_wp_marks Try.func10 rfl trivial ?_ rfl)
  simp only [Try.ntmps10, List.size_toArray, List.length_cons, List.length_nil, Nat.reduceAdd, Nat.reduceSub, Array.replicate_succ, Array.replicate_zero, List.push_toArray, List.append_toArray, List.nil_append, List.cons_append]
  refine (wpIn_wide (n := 5)).2 ?_
  go_wp2_with fail
  go_step3
  generalize World.alloc w _ = W1 at HS ⊢
  have c4 := HS.out.c
  go_wp2_with (first | (go_at_call 19; refine (HIX.out _ HS.out.2).mono ?_) | fail)
  rintro e W2 ⟨rfl, hb⟩
  have HB := Lib.hid (HS.out.keep hb)
  clear hb c4 HIX HS
  go_upto_region 6 with fail
  refine wp_region_noPanic ?_
  refine wp_region_held_drew (S := fun W : World => HW w v0 v1 v2 v3 (some ⟨b9, o9, none⟩) n p W) (by kernel_rfl) ?_ (fun hHeld => ?_)
  · exact HB.out.drew
  generalize World.drew _ = W3 at hHeld ⊢
  clear HB
  refine wpAnyH_take (i := 0) (v := ?_) rfl (by kernel_rfl) (by kernel_rfl) (by kernel_rfl) (fun _ _ _ h => h) (Or.inl ⟨by kernel_rfl, ?_⟩) (by assumption) ?_
  rotate_left
  · intro wv hSw
    go_simp
    try with_reducible rfl
  simp only [Act.put, List.setIfInBounds_toArray, List.set_cons_zero, List.set_cons_succ, List.getElem_toArray, List.getElem_cons_succ, List.getElem_cons_zero]
  refine wpAnyH_take (i := 1) (v := ?_) rfl (by kernel_rfl) (by kernel_rfl) (by kernel_rfl) (fun _ _ _ h => h) (Or.inl ⟨by kernel_rfl, ?_⟩) (by assumption) ?_
  rotate_left
  · intro wv hSw
    have d4 := hSw.c
    go_simp
    try with_reducible rfl
  simp only [Act.put, List.setIfInBounds_toArray, List.set_cons_zero, List.set_cons_succ, List.getElem_toArray, List.getElem_cons_succ, List.getElem_cons_zero]
  refine wpAnyH_take (i := 2) (v := ?_) rfl (by kernel_rfl) (by kernel_rfl) (by kernel_rfl) (fun _ _ _ h => h) (Or.inl ⟨by kernel_rfl, ?_⟩) (by assumption) ?_
  rotate_left
  · intro wv hSw
    go_simp
    try with_reducible rfl
  simp only [Act.put, List.setIfInBounds_toArray, List.set_cons_zero, List.set_cons_succ, List.getElem_toArray, List.getElem_cons_succ, List.getElem_cons_zero]
  refine wpAnyH_take (i := 3) (v := ?_) rfl (by kernel_rfl) (by kernel_rfl) (by kernel_rfl) (fun _ _ _ h => h) (Or.inl ⟨by kernel_rfl, ?_⟩) (by assumption) ?_
  rotate_left
  · intro wv hSw
    go_simp
    try with_reducible rfl
  simp only [Act.put, List.setIfInBounds_toArray, List.set_cons_zero, List.set_cons_succ, List.getElem_toArray, List.getElem_cons_succ, List.getElem_cons_zero]
  refine wpAnyH_take (i := 4) (v := ?_) rfl (by kernel_rfl) (by kernel_rfl) (by kernel_rfl) (fun _ _ _ h => h) (Or.inl ⟨by kernel_rfl, ?_⟩) (by assumption) ?_
  rotate_left
  · intro wv hSw
    obtain ⟨b8, o8, ha9, f0, f1, f2, f3, f4⟩ := Sc_at (HX.out wv hSw.2) HK1.out
    cases ha9
    go_simp
    try with_reducible rfl
  simp only [Act.put, List.setIfInBounds_toArray, List.set_cons_zero, List.set_cons_succ, List.getElem_toArray, List.getElem_cons_succ, List.getElem_cons_zero]
  refine wpAnyH_take (i := 5) (v := ?_) rfl (by kernel_rfl) (by kernel_rfl) (by kernel_rfl) (fun _ _ _ h => h) (Or.inl ⟨by kernel_rfl, ?_⟩) (by assumption) ?_
  rotate_left
  · intro wv hSw
    go_simp
    try with_reducible rfl
  simp only [Act.put, List.setIfInBounds_toArray, List.set_cons_zero, List.set_cons_succ, List.getElem_toArray, List.getElem_cons_succ, List.getElem_cons_zero]
  refine wpAnyH_take (i := 6) (v := ?_) rfl (by kernel_rfl) (by kernel_rfl) (by kernel_rfl) (fun _ _ _ h => h) (Or.inl ⟨by kernel_rfl, ?_⟩) (by assumption) ?_
  rotate_left
  · intro wv hSw
    have d4 := hSw.c
    go_simp
    try with_reducible rfl
  simp only [Act.put, List.setIfInBounds_toArray, List.set_cons_zero, List.set_cons_succ, List.getElem_toArray, List.getElem_cons_succ, List.getElem_cons_zero]
  refine wpAnyH_ready (rs := [7]) (by kernel_rfl) (by simp) ?_
  refine AllReadyH.cons rfl (fun K hK => ?_) AllReadyH.nil
  go_simp
  go_at_call 21
  refine (HKI.out _ hHeld.2).mono ?_
  first | (rintro e W9x rfl hb) | (rintro e W9x ⟨rfl, hb⟩)
  refine hK.out _ _ (hHeld.keep hb) (fun hHeld2 => ?_)
  clear hK K hHeld hb
  have hHeld := hHeld2
  clear hHeld2
  try simp only [Act.put, List.setIfInBounds_toArray, List.set_cons_zero, List.set_cons_succ, List.getElem_toArray, List.getElem_cons_succ, List.getElem_cons_zero]
  refine wpAnyH_take (i := 8) (v := ?_) rfl (by kernel_rfl) (by kernel_rfl) (by kernel_rfl) (fun _ _ _ h => h) (Or.inl ⟨by kernel_rfl, ?_⟩) (by assumption) ?_
  rotate_left
  · intro wv hSw
    go_simp
    try with_reducible rfl
  simp only [Act.put, List.setIfInBounds_toArray, List.set_cons_zero, List.set_cons_succ, List.getElem_toArray, List.getElem_cons_succ, List.getElem_cons_zero]
  refine wpAnyH_done (by kernel_rfl) ?_ _
  refine NoPanic.normal ?_
  have HB := Lib.hid hHeld
  clear hHeld HKI
  go_upto_region 8 with fail
  have c4 := HB.out.c
  obtain ⟨b8, o8, ha9, f0, f1, f2, f3, f4⟩ := Sc_at (HX.out _ HB.out.2) HK1.out
  cases ha9
  go_upto_region 9 with (first | (go_at_call 22; refine (HP1.out _ HB.out.2).mono ?_) | fail)
  rintro e W4 ⟨a1, n1, c1, rfl, hz1, hb⟩
  have HB4 := Lib.hid (And.intro (HB.out.keep hb) (show BC pb1 s z a1 n1 c1 W4 from hz1))
  clear hb hz1 c4 f0 f1 f2 f3 f4 HB
  have HB := HB4
  clear HB4
  go_upto_region 9 with fail
  refine wp_region_noPanic ?_
  refine wp_region_held_drew (S := fun W : World => HW w v0 v1 v2 v3 (some ⟨b9, o9, none⟩) n p W ∧ BC pb1 s z a1 n1 c1 W) (by kernel_rfl) ?_ (fun hHeld => ?_)
  · exact ⟨HB.out.1.drew, HB.out.2.drew⟩
  generalize World.drew _ = W5 at hHeld ⊢
  clear HB
  refine wpAnyH_take (i := 0) (v := ?_) rfl (by kernel_rfl) (by kernel_rfl) (by kernel_rfl) (fun _ _ _ h => h) (Or.inl ⟨by kernel_rfl, ?_⟩) (by assumption) ?_
  rotate_left
  · intro wv hSw
    go_simp
    try with_reducible rfl
  simp only [Act.put, List.setIfInBounds_toArray, List.set_cons_zero, List.set_cons_succ, List.getElem_toArray, List.getElem_cons_succ, List.getElem_cons_zero]
  refine wpAnyH_take (i := 1) (v := ?_) rfl (by kernel_rfl) (by kernel_rfl) (by kernel_rfl) (fun _ _ _ h => h) (Or.inl ⟨by kernel_rfl, ?_⟩) (by assumption) ?_
  rotate_left
  · intro wv hSw
    go_simp
    try with_reducible rfl
  simp only [Act.put, List.setIfInBounds_toArray, List.set_cons_zero, List.set_cons_succ, List.getElem_toArray, List.getElem_cons_succ, List.getElem_cons_zero]
  refine wpAnyH_take (i := 2) (v := ?_) rfl (by kernel_rfl) (by kernel_rfl) (by kernel_rfl) (fun _ _ _ h => h) (Or.inl ⟨by kernel_rfl, ?_⟩) (by assumption) ?_
  rotate_left
  · intro wv hSw
    have d4 := hSw.1.c
    go_simp
    try with_reducible rfl
  simp only [Act.put, List.setIfInBounds_toArray, List.set_cons_zero, List.set_cons_succ, List.getElem_toArray, List.getElem_cons_succ, List.getElem_cons_zero]
  refine wpAnyH_take (i := 3) (v := ?_) rfl (by kernel_rfl) (by kernel_rfl) (by kernel_rfl) (fun _ _ _ h => h) (Or.inl ⟨by kernel_rfl, ?_⟩) (by assumption) ?_
  rotate_left
  · intro wv hSw
    go_simp
    try with_reducible rfl
  simp only [Act.put, List.setIfInBounds_toArray, List.set_cons_zero, List.set_cons_succ, List.getElem_toArray, List.getElem_cons_succ, List.getElem_cons_zero]
  refine wpAnyH_take (i := 4) (v := ?_) rfl (by kernel_rfl) (by kernel_rfl) (by kernel_rfl) (fun _ _ _ h => h) (Or.inl ⟨by kernel_rfl, ?_⟩) (by assumption) ?_
  rotate_left
  · intro wv hSw
    have d4 := hSw.1.c
    go_simp
    try with_reducible rfl
  simp only [Act.put, List.setIfInBounds_toArray, List.set_cons_zero, List.set_cons_succ, List.getElem_toArray, List.getElem_cons_succ, List.getElem_cons_zero]
  refine wpAnyH_take (i := 5) (v := ?_) rfl (by kernel_rfl) (by kernel_rfl) (by kernel_rfl) (fun _ _ _ h => h) (Or.inl ⟨by kernel_rfl, ?_⟩) (by assumption) ?_
  rotate_left
  · intro wv hSw
    go_simp
    try with_reducible rfl
  simp only [Act.put, List.setIfInBounds_toArray, List.set_cons_zero, List.set_cons_succ, List.getElem_toArray, List.getElem_cons_succ, List.getElem_cons_zero]
  refine wpAnyH_take (i := 6) (v := ?_) rfl (by kernel_rfl) (by kernel_rfl) (by kernel_rfl) (fun _ _ _ h => h) (Or.inl ⟨by kernel_rfl, ?_⟩) (by assumption) ?_
  rotate_left
  · intro wv hSw
    go_simp
    try with_reducible rfl
  simp only [Act.put, List.setIfInBounds_toArray, List.set_cons_zero, List.set_cons_succ, List.getElem_toArray, List.getElem_cons_succ, List.getElem_cons_zero]
  refine wpAnyH_take (i := 7) (v := ?_) rfl (by kernel_rfl) (by kernel_rfl) (by kernel_rfl) (fun _ _ _ h => h) (Or.inl ⟨by kernel_rfl, ?_⟩) (by assumption) ?_
  rotate_left
  · intro wv hSw
    go_simp
    try with_reducible rfl
  simp only [Act.put, List.setIfInBounds_toArray, List.set_cons_zero, List.set_cons_succ, List.getElem_toArray, List.getElem_cons_succ, List.getElem_cons_zero]
  refine wpAnyH_take (i := 8) (v := ?_) rfl (by kernel_rfl) (by kernel_rfl) (by kernel_rfl) (fun _ _ _ h => h) (Or.inl ⟨by kernel_rfl, ?_⟩) (by assumption) ?_
  rotate_left
  · intro wv hSw
    obtain ⟨b8, o8, ha9, f0, f1, f2, f3, f4⟩ := Sc_at (HX.out wv hSw.1.2) HK1.out
    cases ha9
    go_simp
    try with_reducible rfl
  simp only [Act.put, List.setIfInBounds_toArray, List.set_cons_zero, List.set_cons_succ, List.getElem_toArray, List.getElem_cons_succ, List.getElem_cons_zero]
  refine wpAnyH_take (i := 9) (v := ?_) rfl (by kernel_rfl) (by kernel_rfl) (by kernel_rfl) (fun _ _ _ h => h) (Or.inl ⟨by kernel_rfl, ?_⟩) (by assumption) ?_
  rotate_left
  · intro wv hSw
    go_simp
    try with_reducible rfl
  simp only [Act.put, List.setIfInBounds_toArray, List.set_cons_zero, List.set_cons_succ, List.getElem_toArray, List.getElem_cons_succ, List.getElem_cons_zero]
  refine wpAnyH_take (i := 10) (v := ?_) rfl (by kernel_rfl) (by kernel_rfl) (by kernel_rfl) (fun _ _ _ h => h) (Or.inl ⟨by kernel_rfl, ?_⟩) (by assumption) ?_
  rotate_left
  · intro wv hSw
    obtain ⟨b8, o8, ha9, f0, f1, f2, f3, f4⟩ := Sc_at (HX.out wv hSw.1.2) HK2.out
    cases ha9
    go_simp
    try with_reducible rfl
  simp only [Act.put, List.setIfInBounds_toArray, List.set_cons_zero, List.set_cons_succ, List.getElem_toArray, List.getElem_cons_succ, List.getElem_cons_zero]
  refine wpAnyH_ready (rs := [11, 15]) (by kernel_rfl) (by simp) ?_
  refine AllReadyH.cons rfl (fun K hK => ?_) (AllReadyH.cons rfl (fun K hK => ?_) AllReadyH.nil)
  · skip
    go_simp
    go_at_call 22
    refine (HP2.out _ hHeld.1.2).mono ?_
    rintro e W9x ⟨a2, n2, c2, rfl, hz2, hb⟩
    refine hK.out _ _ (⟨hHeld.1.keep hb, hHeld.2.keep hb⟩) (fun hHeld2 => ?_)
    clear hK K hHeld hb
    have hHeld := hHeld2
    clear hHeld2
    try simp only [Act.put, List.setIfInBounds_toArray, List.set_cons_zero, List.set_cons_succ, List.getElem_toArray, List.getElem_cons_succ, List.getElem_cons_zero]
    have hz3 : BC pb2 x z a2 n2 c2 W9x := hz2
    clear hz2
    refine wpAnyH_narrow (S' := (fun W : World => HW w v0 v1 v2 v3 (some ⟨b9, o9, none⟩) n p W ∧ BC pb1 s z a1 n1 c1 W ∧ BC pb2 x z a2 n2 c2 W)) (fun _ h => ⟨h.1, h.2.1⟩) _ _ _ _ ?_
    have hNew : (fun W : World => HW w v0 v1 v2 v3 (some ⟨b9, o9, none⟩) n p W ∧ BC pb1 s z a1 n1 c1 W ∧ BC pb2 x z a2 n2 c2 W) _ := ⟨hHeld.1, hHeld.2, hz3⟩
    clear hHeld hz3
    have hHeld := hNew
    clear hNew
    generalize W9x = W6 at hHeld ⊢
    refine wpAnyH_take (i := 12) (v := ?_) rfl (by kernel_rfl) (by kernel_rfl) (by kernel_rfl) (fun _ _ _ h => h) (Or.inl ⟨by kernel_rfl, ?_⟩) (by assumption) ?_
    rotate_left
    · intro wv hSw
      go_simp
      try with_reducible rfl
    simp only [Act.put, List.setIfInBounds_toArray, List.set_cons_zero, List.set_cons_succ, List.getElem_toArray, List.getElem_cons_succ, List.getElem_cons_zero]
    refine wpAnyH_take (i := 13) (v := ?_) rfl (by kernel_rfl) (by kernel_rfl) (by kernel_rfl) (fun _ _ _ h => h) (Or.inl ⟨by kernel_rfl, ?_⟩) (by assumption) ?_
    rotate_left
    · intro wv hSw
      go_simp
      try with_reducible rfl
    simp only [Act.put, List.setIfInBounds_toArray, List.set_cons_zero, List.set_cons_succ, List.getElem_toArray, List.getElem_cons_succ, List.getElem_cons_zero]
    refine wpAnyH_take (i := 14) (v := ?_) rfl (by kernel_rfl) (by kernel_rfl) (by kernel_rfl) (fun _ _ _ h => h) (Or.inl ⟨by kernel_rfl, ?_⟩) (by assumption) ?_
    rotate_left
    · intro wv hSw
      go_simp
      try with_reducible rfl
    simp only [Act.put, List.setIfInBounds_toArray, List.set_cons_zero, List.set_cons_succ, List.getElem_toArray, List.getElem_cons_succ, List.getElem_cons_zero]
    refine wpAnyH_ready (rs := [15]) (by kernel_rfl) (by simp) ?_
    refine AllReadyH.cons rfl (fun K hK => ?_) AllReadyH.nil
    have hLT := hHeld.1.lt
    go_simp
    have hHa : (fun W : World => HW w v0 v1 v2 v3 (some ⟨b9, o9, none⟩) n p W ∧ BC pb1 s z a1 n1 c1 W ∧ BC pb2 x z a2 n2 c2 W) (World.alloc W6 (.cells #[.slice none 0 0] 27)) := ⟨hHeld.1.keep ((Below.refl _ _).alloc (Nat.le_refl _) _), hHeld.2.1.keep ((Below.refl _ _).alloc (Nat.le_refl _) _), hHeld.2.2.keep ((Below.refl _ _).alloc (Nat.le_refl _) _)⟩
    have hBq : Boxed (World.alloc W6 (.cells #[.slice none 0 0] 27)) (World.heap W6).size 27 (.slice none 0 0) := Boxed.new _ _ _
    refine hK.out _ _ hHa (fun hHeld2 => ?_)
    clear hK K hHeld hHeld2
    have hHeld := hHa
    clear hHa
    have hql : Hid (w.heap.size < (World.heap W6).size) := Lib.hid hLT
    clear hLT
    refine wpAnyH_narrow (S' := (fun W : World => HW w v0 v1 v2 v3 (some ⟨b9, o9, none⟩) n p W ∧ BC pb1 s z a1 n1 c1 W ∧ BC pb2 x z a2 n2 c2 W ∧ ∃ p0 q0 r0, Boxed W (World.heap W6).size 27 (.slice p0 q0 r0))) (fun _ h => ⟨h.1, h.2.1, h.2.2.1⟩) _ _ _ _ ?_
    have hNew : (fun W : World => HW w v0 v1 v2 v3 (some ⟨b9, o9, none⟩) n p W ∧ BC pb1 s z a1 n1 c1 W ∧ BC pb2 x z a2 n2 c2 W ∧ ∃ p0 q0 r0, Boxed W (World.heap W6).size 27 (.slice p0 q0 r0)) _ := ⟨hHeld.1, hHeld.2.1, hHeld.2.2, _, _, _, hBq⟩
    clear hHeld hBq
    have hHeld := hNew
    clear hNew
    generalize World.alloc W6 _ = W7 at hHeld ⊢
    generalize (World.heap W6).size = bq at *
    try simp only [Act.put, List.setIfInBounds_toArray, List.set_cons_zero, List.set_cons_succ, List.getElem_toArray, List.getElem_cons_succ, List.getElem_cons_zero]
    refine wpAnyH_ready (rs := [16]) (by kernel_rfl) (by simp) ?_
    refine AllReadyH.cons rfl (fun K hK => ?_) AllReadyH.nil
    obtain ⟨p0, q0, r0, hbx⟩ := hHeld.2.2.2
    have hbc := hbx.cell
    have hbf := hbx.frozen
    have hPut : (fun W : World => HW w v0 v1 v2 v3 (some ⟨b9, o9, none⟩) n p W ∧ BC pb1 s z a1 n1 c1 W ∧ BC pb2 x z a2 n2 c2 W ∧ ∃ p0 q0 r0, Boxed W bq 27 (.slice p0 q0 r0)) (World.setCell _ ⟨bq, 0, none⟩ (.slice a2 n2 c2)) := ⟨hHeld.1.put hql.out _, hHeld.2.1.put hbx _, hHeld.2.2.1.put hbx _, _, _, _, hbx.set _⟩
    have hBS := Lib.hid (hbx.set (.slice a2 n2 c2))
    go_simp
    refine hK.out _ _ hPut (fun hHeld2 => ?_)
    clear hK K hHeld hHeld2 hbx hbc hbf
    have hHeld := hPut
    clear hPut
    try simp only [Act.put, List.setIfInBounds_toArray, List.set_cons_zero, List.set_cons_succ, List.getElem_toArray, List.getElem_cons_succ, List.getElem_cons_zero]
    refine wpAnyH_take (i := 17) (v := ?_) rfl (by kernel_rfl) (by kernel_rfl) (by kernel_rfl) (fun _ _ _ h => h) (Or.inl ⟨by kernel_rfl, ?_⟩) (by assumption) ?_
    rotate_left
    · intro wv hSw
      go_simp
      try with_reducible rfl
    simp only [Act.put, List.setIfInBounds_toArray, List.set_cons_zero, List.set_cons_succ, List.getElem_toArray, List.getElem_cons_succ, List.getElem_cons_zero]
    refine wpAnyH_done (by kernel_rfl) ?_ _
    refine NoPanic.normal ?_
    have HR := Lib.hid (And.intro hHeld.1 (And.intro hHeld.2.1 (And.intro hHeld.2.2.1 (And.intro hBS.out hql.out))))
    clear hHeld hBS hql
    generalize World.setCell _ _ _ = W8 at HR ⊢
    rcases pb1 with _ | _
    · go_wp2_with fail
      rw [Exit.noGoto_ret]
      show bodyPostM Fence.wide 5 Try.prog Try.f10 _ Exit.ret _ _
      exact ⟨_, results_tmp2 rfl _ _ _, rfl, HR.out.1.2⟩
    · rcases pb2 with _ | _
      rotate_left
      · cases hp
      go_wp2_with fail
      rw [Exit.noGoto_ret]
      show bodyPostM Fence.wide 5 Try.prog Try.f10 _ Exit.ret _ _
      exact ⟨_, results_tmp2 rfl _ _ _, rfl, HR.out.1.2⟩
  · skip
    have hLT := hHeld.1.lt
    go_simp
    have hHa : (fun W : World => HW w v0 v1 v2 v3 (some ⟨b9, o9, none⟩) n p W ∧ BC pb1 s z a1 n1 c1 W) (World.alloc W5 (.cells #[.slice none 0 0] 27)) := ⟨hHeld.1.keep ((Below.refl _ _).alloc (Nat.le_refl _) _), hHeld.2.keep ((Below.refl _ _).alloc (Nat.le_refl _) _)⟩
    have hBq : Boxed (World.alloc W5 (.cells #[.slice none 0 0] 27)) (World.heap W5).size 27 (.slice none 0 0) := Boxed.new _ _ _
    refine hK.out _ _ hHa (fun hHeld2 => ?_)
    clear hK K hHeld hHeld2
    have hHeld := hHa
    clear hHa
    have hql : Hid (w.heap.size < (World.heap W5).size) := Lib.hid hLT
    clear hLT
    refine wpAnyH_narrow (S' := (fun W : World => HW w v0 v1 v2 v3 (some ⟨b9, o9, none⟩) n p W ∧ BC pb1 s z a1 n1 c1 W ∧ ∃ p0 q0 r0, Boxed W (World.heap W5).size 27 (.slice p0 q0 r0))) (fun _ h => ⟨h.1, h.2.1⟩) _ _ _ _ ?_
    have hNew : (fun W : World => HW w v0 v1 v2 v3 (some ⟨b9, o9, none⟩) n p W ∧ BC pb1 s z a1 n1 c1 W ∧ ∃ p0 q0 r0, Boxed W (World.heap W5).size 27 (.slice p0 q0 r0)) _ := ⟨hHeld.1, hHeld.2, _, _, _, hBq⟩
    clear hHeld hBq
    have hHeld := hNew
    clear hNew
    generalize World.alloc W5 _ = W6 at hHeld ⊢
    generalize (World.heap W5).size = bq at *
    try simp only [Act.put, List.setIfInBounds_toArray, List.set_cons_zero, List.set_cons_succ, List.getElem_toArray, List.getElem_cons_succ, List.getElem_cons_zero]
    refine wpAnyH_ready (rs := [11]) (by kernel_rfl) (by simp) ?_
    refine AllReadyH.cons rfl (fun K hK => ?_) AllReadyH.nil
    go_simp
    go_at_call 22
    refine (HP2.out _ hHeld.1.2).mono ?_
    rintro e W9x ⟨a2, n2, c2, rfl, hz2, hb⟩
    refine hK.out _ _ (⟨hHeld.1.keep hb, hHeld.2.1.keep hb, hHeld.2.2.choose, hHeld.2.2.choose_spec.choose, hHeld.2.2.choose_spec.choose_spec.choose, Boxed.keep' hHeld.2.2.choose_spec.choose_spec.choose_spec hb⟩) (fun hHeld2 => ?_)
    clear hK K hHeld hb
    have hHeld := hHeld2
    clear hHeld2
    try simp only [Act.put, List.setIfInBounds_toArray, List.set_cons_zero, List.set_cons_succ, List.getElem_toArray, List.getElem_cons_succ, List.getElem_cons_zero]
    have hz3 : BC pb2 x z a2 n2 c2 W9x := hz2
    clear hz2
    refine wpAnyH_narrow (S' := (fun W : World => HW w v0 v1 v2 v3 (some ⟨b9, o9, none⟩) n p W ∧ BC pb1 s z a1 n1 c1 W ∧ BC pb2 x z a2 n2 c2 W ∧ ∃ p0 q0 r0, Boxed W bq 27 (.slice p0 q0 r0))) (fun _ h => ⟨h.1, h.2.1, h.2.2.2⟩) _ _ _ _ ?_
    have hNew : (fun W : World => HW w v0 v1 v2 v3 (some ⟨b9, o9, none⟩) n p W ∧ BC pb1 s z a1 n1 c1 W ∧ BC pb2 x z a2 n2 c2 W ∧ ∃ p0 q0 r0, Boxed W bq 27 (.slice p0 q0 r0)) _ := ⟨hHeld.1, hHeld.2.1, hz3, hHeld.2.2⟩
    clear hHeld hz3
    have hHeld := hNew
    clear hNew
    generalize W9x = W7 at hHeld ⊢
    refine wpAnyH_take (i := 12) (v := ?_) rfl (by kernel_rfl) (by kernel_rfl) (by kernel_rfl) (fun _ _ _ h => h) (Or.inl ⟨by kernel_rfl, ?_⟩) (by assumption) ?_
    rotate_left
    · intro wv hSw
      go_simp
      try with_reducible rfl
    simp only [Act.put, List.setIfInBounds_toArray, List.set_cons_zero, List.set_cons_succ, List.getElem_toArray, List.getElem_cons_succ, List.getElem_cons_zero]
    refine wpAnyH_take (i := 13) (v := ?_) rfl (by kernel_rfl) (by kernel_rfl) (by kernel_rfl) (fun _ _ _ h => h) (Or.inl ⟨by kernel_rfl, ?_⟩) (by assumption) ?_
    rotate_left
    · intro wv hSw
      go_simp
      try with_reducible rfl
    simp only [Act.put, List.setIfInBounds_toArray, List.set_cons_zero, List.set_cons_succ, List.getElem_toArray, List.getElem_cons_succ, List.getElem_cons_zero]
    refine wpAnyH_take (i := 14) (v := ?_) rfl (by kernel_rfl) (by kernel_rfl) (by kernel_rfl) (fun _ _ _ h => h) (Or.inl ⟨by kernel_rfl, ?_⟩) (by assumption) ?_
    rotate_left
    · intro wv hSw
      go_simp
      try with_reducible rfl
    simp only [Act.put, List.setIfInBounds_toArray, List.set_cons_zero, List.set_cons_succ, List.getElem_toArray, List.getElem_cons_succ, List.getElem_cons_zero]
    refine wpAnyH_ready (rs := [16]) (by kernel_rfl) (by simp) ?_
    refine AllReadyH.cons rfl (fun K hK => ?_) AllReadyH.nil
    obtain ⟨p0, q0, r0, hbx⟩ := hHeld.2.2.2
    have hbc := hbx.cell
    have hbf := hbx.frozen
    have hPut : (fun W : World => HW w v0 v1 v2 v3 (some ⟨b9, o9, none⟩) n p W ∧ BC pb1 s z a1 n1 c1 W ∧ BC pb2 x z a2 n2 c2 W ∧ ∃ p0 q0 r0, Boxed W bq 27 (.slice p0 q0 r0)) (World.setCell _ ⟨bq, 0, none⟩ (.slice a2 n2 c2)) := ⟨hHeld.1.put hql.out _, hHeld.2.1.put hbx _, hHeld.2.2.1.put hbx _, _, _, _, hbx.set _⟩
    have hBS := Lib.hid (hbx.set (.slice a2 n2 c2))
    go_simp
    refine hK.out _ _ hPut (fun hHeld2 => ?_)
    clear hK K hHeld hHeld2 hbx hbc hbf
    have hHeld := hPut
    clear hPut
    try simp only [Act.put, List.setIfInBounds_toArray, List.set_cons_zero, List.set_cons_succ, List.getElem_toArray, List.getElem_cons_succ, List.getElem_cons_zero]
    refine wpAnyH_take (i := 17) (v := ?_) rfl (by kernel_rfl) (by kernel_rfl) (by kernel_rfl) (fun _ _ _ h => h) (Or.inl ⟨by kernel_rfl, ?_⟩) (by assumption) ?_
    rotate_left
    · intro wv hSw
      go_simp
      try with_reducible rfl
    simp only [Act.put, List.setIfInBounds_toArray, List.set_cons_zero, List.set_cons_succ, List.getElem_toArray, List.getElem_cons_succ, List.getElem_cons_zero]
    refine wpAnyH_done (by kernel_rfl) ?_ _
    refine NoPanic.normal ?_
    have HR := Lib.hid (And.intro hHeld.1 (And.intro hHeld.2.1 (And.intro hHeld.2.2.1 (And.intro hBS.out hql.out))))
    clear hHeld hBS hql
    generalize World.setCell _ _ _ = W8 at HR ⊢
    rcases pb1 with _ | _
    · go_wp2_with fail
      rw [Exit.noGoto_ret]
      show bodyPostM Fence.wide 5 Try.prog Try.f10 _ Exit.ret _ _
      exact ⟨_, results_tmp2 rfl _ _ _, rfl, HR.out.1.2⟩
    · rcases pb2 with _ | _
      rotate_left
      · cases hp
      go_wp2_with fail
      rw [Exit.noGoto_ret]
      show bodyPostM Fence.wide 5 Try.prog Try.f10 _ Exit.ret _ _
      exact ⟨_, results_tmp2 rfl _ _ _, rfl, HR.out.1.2⟩
end Go.Proofs.Ytegbhjmghkbgmaa
