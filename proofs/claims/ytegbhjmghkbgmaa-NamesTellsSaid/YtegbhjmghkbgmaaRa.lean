/- names.Read: too many sections; no section of symbols; kinds that are others. -/
import Derived.Test.YtegbhjmghkbgmaaRd
namespace Go.Proofs.Ytegbhjmghkbgmaa
open Go.RowKit Go.Shelf
set_option linter.unusedVariables false
set_option linter.unusedSimpArgs false
attribute [local go_sem] Oper.semAt_some
/-- Read's own copy of the header, in a block of its own. -/
def HW (w : World) (v0 v1 v2 v3 : Value) (a : Option Addr) (n p : Nat) (W : World) : Prop := W.heap[w.heap.size]? = some (.cells #[v0, v1, v2, v3, .slice a n p] 31 (0, 0)) ∧ Below w.heap.size w W
theorem HW.new (w : World) (v0 v1 v2 v3 : Value) (a : Option Addr) (n p : Nat) : HW w v0 v1 v2 v3 a n p (w.alloc (.cells #[v0, v1, v2, v3, .slice a n p] 31)) := ⟨heap_alloc_last w _, (Below.refl _ w).alloc (Nat.le_refl _) _⟩
theorem HW.keep {w : World} {v0 v1 v2 v3 : Value} {a : Option Addr} {n p : Nat} {W W' : World} (h : HW w v0 v1 v2 v3 a n p W) (hb : Below W.heap.size W W') : HW w v0 v1 v2 v3 a n p W' := ⟨(hb.block _ (Array.getElem?_eq_some_iff.1 h.1).1).trans h.1, h.2.trans (hb.mono h.2.size)⟩
theorem HW.drew {w : World} {v0 v1 v2 v3 : Value} {a : Option Addr} {n p : Nat} {W : World} (h : HW w v0 v1 v2 v3 a n p W) : HW w v0 v1 v2 v3 a n p W.drew := ⟨h.1, h.2.drew⟩
theorem HW.c {w : World} {v0 v1 v2 v3 : Value} {a : Option Addr} {n p : Nat} {W : World} (h : HW w v0 v1 v2 v3 a n p W) : W.cell? ⟨w.heap.size, 4, none⟩ = some (.slice a n p) := cell_at (i := 4) h.1 rfl
theorem HW.lt {w : World} {v0 v1 v2 v3 : Value} {a : Option Addr} {n p : Nat} {W : World} (h : HW w v0 v1 v2 v3 a n p W) : w.heap.size < W.heap.size := (Array.getElem?_eq_some_iff.1 h.1).1
set_option maxRecDepth 100000 in
set_option maxHeartbeats 4000000 in
theorem read_many (vb v0 v1 v2 v3 : Value) (a : Option Addr) (n p : Nat) (hn : 32 < n) (hn2 : n ≤ 9223372036854775807) (w : World) : Calls Try.prog 10 #[vb, .agg #[v0, v1, v2, v3, .slice a n p]] w fun e W' => e = .returned (.tuple #[.slice none 0 0, .int .i64 2]) ∧ Below w.heap.size w W' := by
  have HS := Lib.hid (HW.new w v0 v1 v2 v3 a n p)
  have d1 : decide ((32 : Int) < (n : Int)) = true := decide_eq_true (by omega)
  have hx : (32 : Int) < (n : Int) := by omega
  refine (callsIn_wide (n := 5)).1 (callsIn_of_wp_marks Try.func10 rfl trivial ?_ rfl)
  simp only [Try.ntmps10, List.size_toArray, List.length_cons, List.length_nil, Nat.reduceAdd, Nat.reduceSub, Array.replicate_succ, Array.replicate_zero, List.push_toArray, List.append_toArray, List.nil_append, List.cons_append]
  refine (wpIn_wide (n := 5)).2 ?_
  go_wp2_with fail
  go_step3
  generalize World.alloc w _ = W1 at HS ⊢
  have c4 := HS.out.c
  go_wp2_with fail
  rw [Exit.noGoto_ret]
  show bodyPostM Fence.wide 5 Try.prog Try.f10 _ Exit.ret _ _
  exact ⟨_, results_tmp2 rfl _ _ _, rfl, HS.out.2⟩
set_option maxRecDepth 100000 in
set_option maxHeartbeats 4000000 in
theorem read_none (vb v0 v1 v2 v3 : Value) (a : Option Addr) (p : Nat) (cs : List Sc) (hn : cs.length ≤ 32) (hno : symI cs = none) (w : World) (h : RX w a (cs.flatMap Sc.cs)) : Calls Try.prog 10 #[vb, .agg #[v0, v1, v2, v3, .slice a cs.length p]] w fun e W' => e = .returned (.tuple #[.slice none 0 0, .int .i64 0]) ∧ Below w.heap.size w W' := by
  have HIX := Lib.hid (fun W (hb : Below w.heap.size w W) => index_func a p cs (by omega) W (h.keep hb))
  have hv : symV cs = -1 := by unfold symV; rw [hno]
  rw [hv] at HIX
  clear hv hno h
  generalize cs.length = n at *
  have HS := Lib.hid (HW.new w v0 v1 v2 v3 a n p)
  have d1 : decide ((32 : Int) < (n : Int)) = false := decide_eq_false (by omega)
  have hx : ¬ (32 : Int) < (n : Int) := by omega
  refine (callsIn_wide (n := 5)).1 (callsIn_of_wp_marks Try.func10 rfl trivial ?_ rfl)
  simp only [Try.ntmps10, List.size_toArray, List.length_cons, List.length_nil, Nat.reduceAdd, Nat.reduceSub, Array.replicate_succ, Array.replicate_zero, List.push_toArray, List.append_toArray, List.nil_append, List.cons_append]
  refine (wpIn_wide (n := 5)).2 ?_
  go_wp2_with fail
  go_step3
  generalize World.alloc w _ = W1 at HS ⊢
  have c4 := HS.out.c
  go_wp2_with (first | (go_at_call 19; refine (HIX.out _ HS.out.2).mono ?_) | fail)
  rintro e W2 ⟨rfl, hb⟩
  have HB := Lib.hid (HS.out.keep hb)
  clear hb c4
  go_wp2_with fail
  rw [Exit.noGoto_ret]
  show bodyPostM Fence.wide 5 Try.prog Try.f10 _ Exit.ret _ _
  exact ⟨_, results_tmp2 rfl _ _ _, rfl, HB.out.2⟩
set_option maxRecDepth 100000 in
set_option maxHeartbeats 4000000 in
theorem read_kind (vb v0 v1 v2 v3 : Value) (a : Option Addr) (p : Nat) (cs : List Sc) (hok : ∀ s, s ∈ cs → s.ok) (hn : cs.length ≤ 32) (i : Nat) (hi : symI cs = some i) (s : Sc) (hs : cs[i]? = some s) (hk : kindsS s cs = false) (w : World) (h : RX w a (cs.flatMap Sc.cs)) : Calls Try.prog 10 #[vb, .agg #[v0, v1, v2, v3, .slice a cs.length p]] w fun e W' => e = .returned (.tuple #[.slice none 0 0, .int .i64 32]) ∧ Below w.heap.size w W' := by
  obtain ⟨b9, o9, rfl, -⟩ := Sc_at h hs
  have hin : i < cs.length := (List.getElem?_eq_some_iff.1 hs).1
  have HIX := Lib.hid (fun W (hb : Below w.heap.size w W) => index_func _ p cs (by omega) W (h.keep hb))
  have hv : symV cs = (i : Int) := by unfold symV; rw [hi]
  rw [hv] at HIX
  clear hv hi
  have HX := Lib.hid (fun W (hb : Below w.heap.size w W) => h.keep hb)
  have HKI := Lib.hid (fun W (hb : Below w.heap.size w W) => kinds_any s (hok s (List.mem_of_getElem? hs)) _ p cs (by omega) W (h.keep hb))
  have HK1 := Lib.hid hs
  rw [hk] at HKI
  clear hk hs hok h
  generalize cs.length = n at *
  have HS := Lib.hid (HW.new w v0 v1 v2 v3 (some ⟨b9, o9, none⟩) n p)
  have d1 : decide ((32 : Int) < (n : Int)) = false := decide_eq_false (by omega)
  have hx : ¬ (32 : Int) < (n : Int) := by omega
  have hx2 : ¬ (i : Int) < 0 := by omega
  have hx3 : (i : Int) < (n : Int) := by omega
  refine (callsIn_wide (n := 5)).1 (callsIn_of_wp_marks Try.func10 rfl trivial ?_ rfl)
  simp only [Try.ntmps10, List.size_toArray, List.length_cons, List.length_nil, Nat.reduceAdd, Nat.reduceSub, Array.replicate_succ, Array.replicate_zero, List.push_toArray, List.append_toArray, List.nil_append, List.cons_append]
  refine (wpIn_wide (n := 5)).2 ?_
  go_wp2_with fail
  go_step3
  generalize World.alloc w _ = W1 at HS ⊢
  have c4 := HS.out.c
  go_wp2_with (first | (go_at_call 19; refine (HIX.out _ HS.out.2).mono ?_) | fail)
  rintro e W2 ⟨rfl, hb⟩
  have HB := Lib.hid (HS.out.keep hb)
  clear hb c4 HIX HS
  go_upto_region 6 with fail
  refine wp_region_noPanic ?_
  refine wp_region_held_drew (S := fun W : World => HW w v0 v1 v2 v3 (some ⟨b9, o9, none⟩) n p W) (by kernel_rfl) ?_ (fun hHeld => ?_)
  · exact HB.out.drew
  generalize World.drew _ = W3 at hHeld ⊢
  clear HB
  refine wpAnyH_take (i := 0) (v := ?_) rfl (by kernel_rfl) (by kernel_rfl) (by kernel_rfl) (fun _ _ _ h => h) (Or.inl ⟨by kernel_rfl, ?_⟩) (by assumption) ?_
  rotate_left
  · intro wv hSw
    go_simp
    try with_reducible rfl
  simp only [Act.put, List.setIfInBounds_toArray, List.set_cons_zero, List.set_cons_succ, List.getElem_toArray, List.getElem_cons_succ, List.getElem_cons_zero]
  refine wpAnyH_take (i := 1) (v := ?_) rfl (by kernel_rfl) (by kernel_rfl) (by kernel_rfl) (fun _ _ _ h => h) (Or.inl ⟨by kernel_rfl, ?_⟩) (by assumption) ?_
  rotate_left
  · intro wv hSw
    have d4 := hSw.c
    go_simp
    try with_reducible rfl
  simp only [Act.put, List.setIfInBounds_toArray, List.set_cons_zero, List.set_cons_succ, List.getElem_toArray, List.getElem_cons_succ, List.getElem_cons_zero]
  refine wpAnyH_take (i := 2) (v := ?_) rfl (by kernel_rfl) (by kernel_rfl) (by kernel_rfl) (fun _ _ _ h => h) (Or.inl ⟨by kernel_rfl, ?_⟩) (by assumption) ?_
  rotate_left
  · intro wv hSw
    go_simp
    try with_reducible rfl
  simp only [Act.put, List.setIfInBounds_toArray, List.set_cons_zero, List.set_cons_succ, List.getElem_toArray, List.getElem_cons_succ, List.getElem_cons_zero]
  refine wpAnyH_take (i := 3) (v := ?_) rfl (by kernel_rfl) (by kernel_rfl) (by kernel_rfl) (fun _ _ _ h => h) (Or.inl ⟨by kernel_rfl, ?_⟩) (by assumption) ?_
  rotate_left
  · intro wv hSw
    go_simp
    try with_reducible rfl
  simp only [Act.put, List.setIfInBounds_toArray, List.set_cons_zero, List.set_cons_succ, List.getElem_toArray, List.getElem_cons_succ, List.getElem_cons_zero]
  refine wpAnyH_take (i := 4) (v := ?_) rfl (by kernel_rfl) (by kernel_rfl) (by kernel_rfl) (fun _ _ _ h => h) (Or.inl ⟨by kernel_rfl, ?_⟩) (by assumption) ?_
  rotate_left
  · intro wv hSw
    obtain ⟨b8, o8, ha9, f0, f1, f2, f3, f4⟩ := Sc_at (HX.out wv hSw.2) HK1.out
    cases ha9
    go_simp
    try with_reducible rfl
  simp only [Act.put, List.setIfInBounds_toArray, List.set_cons_zero, List.set_cons_succ, List.getElem_toArray, List.getElem_cons_succ, List.getElem_cons_zero]
  refine wpAnyH_take (i := 5) (v := ?_) rfl (by kernel_rfl) (by kernel_rfl) (by kernel_rfl) (fun _ _ _ h => h) (Or.inl ⟨by kernel_rfl, ?_⟩) (by assumption) ?_
  rotate_left
  · intro wv hSw
    go_simp
    try with_reducible rfl
  simp only [Act.put, List.setIfInBounds_toArray, List.set_cons_zero, List.set_cons_succ, List.getElem_toArray, List.getElem_cons_succ, List.getElem_cons_zero]
  refine wpAnyH_take (i := 6) (v := ?_) rfl (by kernel_rfl) (by kernel_rfl) (by kernel_rfl) (fun _ _ _ h => h) (Or.inl ⟨by kernel_rfl, ?_⟩) (by assumption) ?_
  rotate_left
  · intro wv hSw
    have d4 := hSw.c
    go_simp
    try with_reducible rfl
  simp only [Act.put, List.setIfInBounds_toArray, List.set_cons_zero, List.set_cons_succ, List.getElem_toArray, List.getElem_cons_succ, List.getElem_cons_zero]
  refine wpAnyH_ready (rs := [7]) (by kernel_rfl) (by simp) ?_
  refine AllReadyH.cons rfl (fun K hK => ?_) AllReadyH.nil
  go_simp
  go_at_call 21
  refine (HKI.out _ hHeld.2).mono ?_
  first | (rintro e W9x rfl hb) | (rintro e W9x ⟨rfl, hb⟩)
  refine hK.out _ _ (hHeld.keep hb) (fun hHeld2 => ?_)
  clear hK K hHeld hb
  have hHeld := hHeld2
  clear hHeld2
  try simp only [Act.put, List.setIfInBounds_toArray, List.set_cons_zero, List.set_cons_succ, List.getElem_toArray, List.getElem_cons_succ, List.getElem_cons_zero]
  refine wpAnyH_take (i := 8) (v := ?_) rfl (by kernel_rfl) (by kernel_rfl) (by kernel_rfl) (fun _ _ _ h => h) (Or.inl ⟨by kernel_rfl, ?_⟩) (by assumption) ?_
  rotate_left
  · intro wv hSw
    go_simp
    try with_reducible rfl
  simp only [Act.put, List.setIfInBounds_toArray, List.set_cons_zero, List.set_cons_succ, List.getElem_toArray, List.getElem_cons_succ, List.getElem_cons_zero]
  refine wpAnyH_done (by kernel_rfl) ?_ _
  refine NoPanic.normal ?_
  have HB := Lib.hid hHeld.2
  clear hHeld
  go_wp2_with fail
  rw [Exit.noGoto_ret]
  show bodyPostM Fence.wide 5 Try.prog Try.f10 _ Exit.ret _ _
  exact ⟨_, results_tmp2 rfl _ _ _, rfl, HB.out⟩
end Go.Proofs.Ytegbhjmghkbgmaa
