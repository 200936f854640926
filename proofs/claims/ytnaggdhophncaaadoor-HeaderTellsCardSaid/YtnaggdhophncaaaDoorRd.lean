/- header.Read. -/
import Derived.Test.YtnaggdhophncaaaDoorRo
namespace Go.Proofs.YtnaggdhophncaaaDoor
open Go.RowKit Go.Shelf
set_option linter.unusedVariables false
set_option linter.unusedSimpArgs false
attribute [local go_sem] Oper.semAt_some
def magZ (z : Nat → Nat) : Bool := magB (z 0) (z 1) (z 2) (z 3)
/-- Do the segments' and the sections' headers stand within? -/
def placeB (z : Nat → Nat) (len : Nat) : Bool := withB len (numZ z 32 8) (numZ z 56 2) 56 && withB len (numZ z 40 8) (numZ z 60 2) 64
/-- The first error that is so. -/
def readE (z : Nat → Nat) (len : Nat) : Nat := if 131072 < len then 2 else if len < 64 then 30 else if !magZ z then 31 else if !kindsB z then 32 else if !placeB z len then 33 else 0
def hz0 : Array Value := hcv 0 0 0 (.slice none 0 0) (.slice none 0 0)
theorem exec_neq53m {o : Oper} {ρ : Operand → Value} {W : World} {X Y : Operand} {a b c d : Nat} {mg : Bool} (hm : magB a b c d = mg) {ty : TypeId} (ho : o.op = .binOp .neq 53 X Y ty) (hx : ρ X = v53 a b c d) (hy : ρ Y = v53 127 69 76 70) (ha : a < 256) (hb : b < 256) (hc : c < 256) (hd : d < 256) :
    (execOp ρ o).run Tryd.prog W = .ok (.value (.bool (!mg))) W := by
  rw [← hm]
  exact exec_neq53 ho hx hy ha hb hc hd
theorem below_row {B : Nat} {w W : World} {b : Nat} {vs : Array Value} (h : Below B w W) (hb : B ≤ b) : Below B w (W.setRow b vs) :=
  ⟨h.os, h.tape, h.output, by simpa [World.setRow] using h.size, fun k hk => (setRow_other W b k vs (by omega)).trans (h.block k hk)⟩
/-- What Read tells. -/
def ReadP (w : World) (re en so sc ns nc : Nat) (z : Nat → Nat) (e : Ending) (W' : World) : Prop :=
  (re ≠ 0 ∧ e = .returned (.tuple #[.agg hz0, .int .i64 (re : Nat)]) ∧ Below w.heap.size w W') ∨
  (re = 0 ∧ ∃ v1 v2, e = .returned (.tuple #[.agg (hcv en so sc v1 v2), .int .i64 0]) ∧
    W'.ownsRow w.heap.size 30 7 v1 ns (rowsL segC z so 56 ns) ∧ W'.ownsRow w.heap.size 32 5 v2 nc (rowsL secC z sc 64 nc) ∧ Below w.heap.size w W')
def ReadOf (w : World) (z : Nat → Nat) (len : Nat) : Ending → World → Prop := ReadP w (readE z len) (numZ z 24 8) (numZ z 32 8) (numZ z 40 8) (numZ z 56 2) (numZ z 60 2) z
/-- The result's box and the header's. -/
def FR (w : World) (cs : Array Value) (W : World) : Prop :=
  W.heap[w.heap.size]? = some (.cells hz0 27 (0, 0)) ∧ W.heap[w.heap.size + 1]? = some (.cells cs 27 (0, 0)) ∧ Below w.heap.size w W
theorem FR.new {w : World} : FR w hz0 ((w.alloc (.cells hz0 27)).alloc (.cells hz0 27)) := by
  have h1 := heap_alloc_last w (.cells hz0 27)
  have h2 := heap_alloc_last (w.alloc (.cells hz0 27)) (.cells hz0 27)
  simp only [World.size_alloc] at h2
  have hb : Below w.heap.size w ((w.alloc (.cells hz0 27)).alloc (.cells hz0 27)) := ((Below.refl _ w).alloc (Nat.le_refl _) _).alloc (by simp) _
  exact ⟨((((Below.refl (w.heap.size + 1) (w.alloc (.cells hz0 27))).alloc (by simp) (.cells hz0 27))).block _ (by omega)).trans h1, h2, hb⟩
theorem FR.keep {w W W' : World} {cs : Array Value} (h : FR w cs W) (hb : Below W.heap.size W W') : FR w cs W' :=
  ⟨(hb.block _ (Array.getElem?_eq_some_iff.1 h.1).1).trans h.1, (hb.block _ (Array.getElem?_eq_some_iff.1 h.2.1).1).trans h.2.1, h.2.2.trans (hb.mono h.2.2.size)⟩
theorem FR.drew {w W : World} {cs : Array Value} (h : FR w cs W) : FR w cs W.drew := ⟨h.1, h.2.1, h.2.2.drew⟩
theorem FR.set {w W : World} {cs : Array Value} (h : FR w cs W) (i : Nat) (x : Value) : FR w (cs.setIfInBounds i x) (W.setCell ⟨w.heap.size + 1, i, none⟩ x) :=
  ⟨(Below.heap_setCell W ⟨w.heap.size + 1, i, none⟩ x _ (by dsimp only; omega)).trans h.1, set_at h.2.1, h.2.2.setCell (p := ⟨w.heap.size + 1, i, none⟩) (by dsimp only; omega) _⟩
theorem FR.res {w W : World} {cs c : Array Value} (h : FR w cs W) : (W.setRow w.heap.size c).heap[w.heap.size]? = some (.cells c 27 (0, 0)) ∧ Below w.heap.size w (W.setRow w.heap.size c) :=
  ⟨setRow_heap W _ _ _ 27 (0, 0) h.1, below_row h.2.2 (Nat.le_refl _)⟩
theorem below_put {w W : World} {c u : Array Value} (h : W.heap[w.heap.size]? = some (.cells u 27 (0, 0))) (hb : Below w.heap.size w W) : (W.setRow w.heap.size c).heap[w.heap.size]? = some (.cells c 27 (0, 0)) ∧ Below w.heap.size w (W.setRow w.heap.size c) :=
  ⟨setRow_heap W _ _ _ 27 (0, 0) h, below_row hb (Nat.le_refl _)⟩
theorem res10 {W : World} {b : Nat} {c : Array Value} {r : Nat} {tm : Array Value} (hp : tm.getD 2 undef = .pointer (some ⟨b, 0, none⟩)) (hr : tm.getD 3 undef = .int .i64 (r : Nat)) (h : W.heap[b]? = some (.cells c 27 (0, 0))) (hs : c.size = 5) : (results Tryd.f10 tm).run Tryd.prog W = .ok (.tuple #[.agg c, .int .i64 (r : Nat)]) W := by
  rw [results_cell_tmp (fn := Tryd.f10) (p := 2) (u := 3) (ty := 27) rfl, hp, hr]
  simp [asAddr, load27_run h hs, Result.andThen]
theorem with_yes {len a n s : Nat} (h : withB len a n s = true) (hn : 0 < n) : a ≤ len ∧ n * s ≤ len - a := by
  unfold withB at h
  have : (n == 0) = false := by simp; omega
  rw [this] at h
  simpa using h
theorem owns_ne {W : World} {n : Nat} {ty : TypeId} {sz : Nat} {v : Value} {k : Nat} {L : List Value} {b : Nat} (h : W.ownsRow n ty sz v k L) (hb : b < n) : v.ownBlock = none ∨ v.ownBlock ≠ some b := by
  cases hv : v.ownBlock with
  | none => exact .inl rfl
  | some q => exact .inr (fun e => by have := owns_block h q hv; cases e; omega)
theorem owns_lower {W : World} {n n' : Nat} {ty : TypeId} {sz : Nat} {v : Value} {k : Nat} {L : List Value} (h : W.ownsRow n ty sz v k L) (hn : n' ≤ n) : W.ownsRow n' ty sz v k L :=
  ⟨h.1, h.2.imp_right fun ⟨g, cap, cur, h1, h2, h3⟩ => ⟨g, cap, cur, h1, Nat.le_trans hn h2, h3⟩⟩
theorem LS.other {W0 W : World} {H : Nat} {cs : Array Value} {ty ty' : TypeId} {sz sz' : Nat} {v v' : Value} {k k' n : Nat} {L L' : List Value} (h : LS W0 H cs ty sz v k L W) (ho : W0.ownsRow n ty' sz' v' k' L') (hH : H < n) : W.ownsRow n ty' sz' v' k' L' := ho.kept h.2.2 (owns_ne ho hH)
theorem owns_set {W : World} {n : Nat} {ty : TypeId} {sz : Nat} {v : Value} {k : Nat} {L : List Value} {b : Nat} (h : W.ownsRow n ty sz v k L) (hb : b < n) (c : Array Value) : (W.setRow b c).ownsRow n ty sz v k L := h.kept (grown_row W b c) (owns_ne h hb)
theorem bs_part {W : World} {b off len : Nat} {z : Nat → Nat} (h : BS W (some ⟨b, off, none⟩) len z) (o : Nat) : BS W (some ⟨b, off + o, none⟩) (len - o) (shZ z o) := fun hl => by
  obtain ⟨b2, off2, he, hc⟩ := h (by omega)
  cases he
  exact ⟨b, off + o, rfl, fun j hj => by have := hc (o + j) (by omega); rwa [← Nat.add_assoc] at this⟩
def seg0 : Value := .agg #[.int .u32 0, .int .u32 0, .int .u64 0, .int .u64 0, .int .u64 0, .int .u64 0, .int .u64 0]
def sec0 : Value := .agg #[.int .u32 0, .int .u64 0, .int .u64 0, .int .u32 0, .int .u64 0]
theorem infoE30 : (Tryd.prog.info? 30).map (fun i => (i.zero, i.size, i.bytes)) = some (some seg0, 7, 48) := by kernel_rfl
theorem infoE32 : (Tryd.prog.info? 32).map (fun i => (i.zero, i.size, i.bytes)) = some (some sec0, 5, 40) := by kernel_rfl
theorem segC_len (z : Nat → Nat) : (segC z).length = 7 := rfl
theorem secC_len (z : Nat → Nat) : (secC z).length = 5 := rfl
set_option maxRecDepth 100000 in
set_option maxHeartbeats 8000000 in
theorem read_any (ad : Option Addr) (len cap : Nat) (z : Nat → Nat) (hz : ∀ j, z j < 256) (hl : len ≤ cap) (hm : cap ≤ 9223372036854775807) (w : World) (h : BS w ad len z) (hG : GM w) :
    Calls Tryd.prog 10 #[.slice ad len cap] w (ReadOf w z len) := by
  have HS := Lib.hid (FR.new (w := w))
  have HBS := Lib.hid (fun W hb => BS.keep (W' := W) h hb)
  have HGM := Lib.hid (fun W hb => GM.below (W' := W) hG hb)
  clear h hG
  have hs0 : hz0.size = 5 := rfl
  have ho0 : hz0.all (·.oneCell') = true := by kernel_rfl
  have HZ0 : Hid ((#[.int .u64 0, .int .u64 0, .int .u64 0, .slice none 0 0, .slice none 0 0] : Array Value) = hz0) := Lib.hid rfl
  go_enter Tryd.func10, Tryd.ntmps10
  go_wp2_with fail
  rw [HZ0.out]
  go_step3
  go_wp2_with fail
  rw [HZ0.out]
  go_step3
  generalize World.alloc (World.alloc w _) _ = W1 at HS ⊢
  by_cases h1 : 131072 < len
  · have hE : readE z len = 2 := by unfold readE; rw [if_pos h1]
    have hd : decide ((131072 : Int) < (len : Int)) = true := decide_eq_true (by omega)
    have HE := Lib.hid hE
    clear hE
    go_wp2_with (first | (refine wpList_store27 (u := hz0) (c := hz0) rfl rfl rfl rfl HS.out.1 hs0 hs0 ho0 ?_) | fail)
    have HR := Lib.hid (HS.out.res (c := hz0))
    generalize World.setRow _ _ _ = W9 at HR ⊢
    rw [Exit.noGoto_ret]
    refine bodyPost_ret (res10 (r := 2) rfl rfl HR.out.1 hs0) rfl ?_
    try rw [HRF.out]
    exact .inl ⟨by rw [HE.out]; decide, by rw [HE.out], HR.out.2⟩
  · have hd : decide ((131072 : Int) < (len : Int)) = false := decide_eq_false (by omega)
    by_cases h2 : len < 64
    · have hE : readE z len = 30 := by unfold readE; rw [if_neg h1, if_pos h2]
      have hd2 : decide ((len : Int) < 64) = true := decide_eq_true (by omega)
      have HE := Lib.hid hE
      clear hE
      go_wp2_with (first | (refine wpList_store27 (u := hz0) (c := hz0) rfl rfl rfl rfl HS.out.1 hs0 hs0 ho0 ?_) | fail)
      have HR := Lib.hid (HS.out.res (c := hz0))
      generalize World.setRow _ _ _ = W9 at HR ⊢
      rw [Exit.noGoto_ret]
      refine bodyPost_ret (res10 (r := 30) rfl rfl HR.out.1 hs0) rfl ?_
      try rw [HRF.out]
      exact .inl ⟨by rw [HE.out]; decide, by rw [HE.out], HR.out.2⟩
    · have hd2 : decide ((len : Int) < 64) = false := decide_eq_false (by omega)
      obtain ⟨b, off, rfl, _⟩ := HBS.out w (Below.refl _ _) (by omega)
      have hne4 : ¬ cap = 4 := by omega
      have hi4 : 4 ≤ (cap : Int) := by omega
      go_upto_region 25 with fail
      obtain ⟨mg, hmg⟩ : ∃ mg, magB (z 0) (z 1) (z 2) (z 3) = mg := ⟨_, rfl⟩
      have HMG := Lib.hid hmg
      clear hmg
      refine wp_region_noPanic ?_
      refine wp_region_held_drew (S := fun W : World => FR w hz0 W) (by kernel_rfl) ?_ (fun hHeld => ?_)
      · exact HS.out.drew
      have HS2 := Lib.hid HS.out.drew
      clear HS
      generalize World.drew _ = W2 at hHeld HS2 ⊢
      refine wpAnyH_take (i := 0) (v := ?_) rfl (by kernel_rfl) (by kernel_rfl) (by kernel_rfl) (fun _ _ _ h => h) (Or.inl ⟨by kernel_rfl, ?_⟩) (by assumption) ?_
      rotate_left
      · intro wv hSw
        go_simp
        try with_reducible rfl
      simp only [Act.put, List.setIfInBounds_toArray, List.set_cons_zero, List.set_cons_succ, List.getElem_toArray, List.getElem_cons_succ, List.getElem_cons_zero]
      refine wpAnyH_take (i := 1) (v := ?_) rfl (by kernel_rfl) (by kernel_rfl) (by kernel_rfl) (fun _ _ _ h => h) (Or.inl ⟨by kernel_rfl, ?_⟩) (by assumption) ?_
      rotate_left
      · intro wv hSw
        go_simp
        try with_reducible rfl
      simp only [Act.put, List.setIfInBounds_toArray, List.set_cons_zero, List.set_cons_succ, List.getElem_toArray, List.getElem_cons_succ, List.getElem_cons_zero]
      refine wpAnyH_take (i := 2) (v := ?_) rfl (by kernel_rfl) (by kernel_rfl) (by kernel_rfl) (fun _ _ _ h => h) (Or.inl ⟨by kernel_rfl, ?_⟩) (by assumption) ?_
      rotate_left
      · intro wv hSw
        have ha := run_arrayAt (P := Tryd.prog) (w := wv) 53 5 4 (some ⟨b, off, none⟩) 4 cap Tryd.underlying53 (by decide)
        go_simp
        try with_reducible rfl
      simp only [Act.put, List.setIfInBounds_toArray, List.set_cons_zero, List.set_cons_succ, List.getElem_toArray, List.getElem_cons_succ, List.getElem_cons_zero]
      refine wpAnyH_take (i := 3) (v := ?_) rfl (by kernel_rfl) (by kernel_rfl) (by kernel_rfl) (fun _ _ _ h => h) (Or.inl ⟨by kernel_rfl, ?_⟩) (by assumption) ?_
      rotate_left
      · intro wv hSw
        obtain ⟨b2, off2, hbo, hcs⟩ := HBS.out wv hSw.2.2 (by omega); obtain ⟨rfl, rfl⟩ : b = b2 ∧ off = off2 := by cases hbo; exact ⟨rfl, rfl⟩
        have d0 : wv.cell? ⟨b, off, none⟩ = some (.int .u8 (z 0 : Nat)) := hcs 0 (by omega)
        have d1 : wv.cell? ⟨b, off + 1, none⟩ = some (.int .u8 (z 1 : Nat)) := hcs 1 (by omega)
        have d2 : wv.cell? ⟨b, off + 2, none⟩ = some (.int .u8 (z 2 : Nat)) := hcs 2 (by omega)
        have d3 : wv.cell? ⟨b, off + 3, none⟩ = some (.int .u8 (z 3 : Nat)) := hcs 3 (by omega)
        clear hcs hSw
        go_simp
        try with_reducible rfl
      simp only [Act.put, List.setIfInBounds_toArray, List.set_cons_zero, List.set_cons_succ, List.getElem_toArray, List.getElem_cons_succ, List.getElem_cons_zero]
      refine wpAnyH_take (i := 4) (v := ?_) rfl (by kernel_rfl) (by kernel_rfl) (by kernel_rfl) (fun _ _ _ h => h) (Or.inl ⟨by kernel_rfl, ?_⟩) (by assumption) ?_
      rotate_left
      · intro wv hSw
        have d0 : wv.cell? ⟨0, 0, none⟩ = some (.int .u8 127) := (HGM.out wv hSw.2.2).mg 0 _ rfl
        have d1 : wv.cell? ⟨0, 1, none⟩ = some (.int .u8 69) := (HGM.out wv hSw.2.2).mg 1 _ rfl
        have d2 : wv.cell? ⟨0, 2, none⟩ = some (.int .u8 76) := (HGM.out wv hSw.2.2).mg 2 _ rfl
        have d3 : wv.cell? ⟨0, 3, none⟩ = some (.int .u8 70) := (HGM.out wv hSw.2.2).mg 3 _ rfl
        clear hSw
        go_simp
        try with_reducible rfl
      simp only [Act.put, List.setIfInBounds_toArray, List.set_cons_zero, List.set_cons_succ, List.getElem_toArray, List.getElem_cons_succ, List.getElem_cons_zero]
      refine wpAnyH_take (i := 5) (v := ?_) rfl (by kernel_rfl) (by kernel_rfl) (by kernel_rfl) (fun _ _ _ h => h) (Or.inl ⟨by kernel_rfl, ?_⟩) (by assumption) ?_
      rotate_left
      · intro wv hSw
        refine exec_neq53m HMG.out (X := .tmp 105) (Y := .tmp 106) (ty := 53) ?_ ?_ ?_ (hz _) (hz _) (hz _) (hz _)
        · rfl
        · rfl
        · rfl
        try with_reducible rfl
      simp only [Act.put, List.setIfInBounds_toArray, List.set_cons_zero, List.set_cons_succ, List.getElem_toArray, List.getElem_cons_succ, List.getElem_cons_zero]
      refine wpAnyH_take (i := 6) (v := ?_) rfl (by kernel_rfl) (by kernel_rfl) (by kernel_rfl) (fun _ _ _ h => h) (Or.inl ⟨by kernel_rfl, ?_⟩) (by assumption) ?_
      rotate_left
      · intro wv hSw
        go_simp
        try with_reducible rfl
      simp only [Act.put, List.setIfInBounds_toArray, List.set_cons_zero, List.set_cons_succ, List.getElem_toArray, List.getElem_cons_succ, List.getElem_cons_zero]
      refine wpAnyH_done (by kernel_rfl) ?_ _
      refine NoPanic.normal ?_
      have HS := HS2
      cases mg
      rotate_left
      · have h3 : magZ z = true := HMG.out
        have HK := Lib.hid (fun W hb => kinds_any (some ⟨b, off, none⟩) len cap z hz (by omega) hl hm W (HBS.out W hb) (HGM.out W hb))
        have HNN := Lib.hid (fun o s h1 h8 ho W hb => hnumz (some ⟨b, off, none⟩) len cap z hz o s h1 h8 ho hl hm W (HBS.out W hb))
        have hM3 : ¬ (!magZ z) = true := by rw [h3]; decide
        by_cases h4 : kindsB z = true
        rotate_left
        · have hek : errK z = 32 := by unfold errK; rw [if_neg h4]
          have hE : readE z len = 32 := by unfold readE; rw [if_neg h1, if_neg h2, if_neg hM3, if_pos (by rw [Bool.eq_false_iff.2 h4]; rfl)]
          rw [hek] at HK
          go_wp2_with fail
          go_at_call 25
          refine (HK.out _ HS.out.2.2).mono ?_
          rintro e W4 ⟨rfl, hb⟩
          replace HS := Lib.hid (HS.out.keep hb)
          clear hb
          have HE := Lib.hid hE
          clear hE
          go_wp2_with (first | (refine wpList_store27 (u := hz0) (c := hz0) rfl rfl rfl rfl HS.out.1 hs0 hs0 ho0 ?_) | fail)
          have HR := Lib.hid (HS.out.res (c := hz0))
          generalize World.setRow _ _ _ = W9 at HR ⊢
          rw [Exit.noGoto_ret]
          refine bodyPost_ret (res10 (r := 32) rfl rfl HR.out.1 hs0) rfl ?_
          try rw [HRF.out]
          exact .inl ⟨by rw [HE.out]; decide, by rw [HE.out], HR.out.2⟩
        · have hek : errK z = 0 := by unfold errK; rw [if_pos h4]
          rw [hek] at HK
          go_wp2_with fail
          go_at_call 25
          refine (HK.out _ HS.out.2.2).mono ?_
          rintro e W4 ⟨rfl, hb⟩
          replace HS := Lib.hid (HS.out.keep hb)
          clear hb
          have hK4 : ¬ (!kindsB z) = true := by rw [h4]; decide
          have HRE : Hid (readE z len = if !placeB z len then 33 else 0) := Lib.hid (by unfold readE; rw [if_neg h1, if_neg h2, if_neg hM3, if_neg hK4])
          have h64 : 64 ≤ len := by omega
          have hkb := h4
          unfold kindsB at hkb
          simp only [Bool.and_eq_true, decide_eq_true_eq] at hkb
          have hn1 : numZ z 56 2 ≤ 16 := hkb.2.1
          have hn2 : numZ z 60 2 ≤ 32 := hkb.2.2
          clear h1 h2 hM3 hK4 h3 h4 hek HK HMG hd hd2 hne4 hi4 hkb
          have f0 := frozen_at HS.out.2.1 0
          have f1 := frozen_at HS.out.2.1 1
          have f2 := frozen_at HS.out.2.1 2
          have r0 := cell_at (i := 0) (v := .int .u64 0) HS.out.2.1 rfl
          have r1 := cell_at (i := 1) (v := .int .u64 0) HS.out.2.1 rfl
          have r2 := cell_at (i := 2) (v := .int .u64 0) HS.out.2.1 rfl
          go_wp2_with fail
          go_at_call 26
          refine (HNN.out 24 8 (by decide) (by decide) (by omega) _ HS.out.2.2).mono ?_
          rintro e W9 ⟨rfl, h9⟩
          rw [h9]
          clear h9
          go_wp2_with fail
          go_at_call 26
          refine (HNN.out 32 8 (by decide) (by decide) (by omega) _ HS.out.2.2).mono ?_
          rintro e W9 ⟨rfl, h9⟩
          rw [h9]
          clear h9
          go_wp2_with fail
          go_at_call 26
          refine (HNN.out 40 8 (by decide) (by decide) (by omega) _ HS.out.2.2).mono ?_
          rintro e W9 ⟨rfl, h9⟩
          rw [h9]
          clear h9
          have hso : numZ z 32 8 < 18446744073709551616 := numZ_lt z hz 32 8
          have hsc : numZ z 40 8 < 18446744073709551616 := numZ_lt z hz 40 8
          have HS5 := Lib.hid (((HS.out.set 0 (.int .u64 (numZ z 24 8 : Nat))).set 1 (.int .u64 (numZ z 32 8 : Nat))).set 2 (.int .u64 (numZ z 40 8 : Nat)))
          have hcse : ((hz0.setIfInBounds 0 (.int .u64 (numZ z 24 8 : Nat))).setIfInBounds 1 (.int .u64 (numZ z 32 8 : Nat))).setIfInBounds 2 (.int .u64 (numZ z 40 8 : Nat)) = hcv (numZ z 24 8) (numZ z 32 8) (numZ z 40 8) (.slice none 0 0) (.slice none 0 0) := rfl
          rw [hcse] at HS5
          have w1 : IntKind.i64.wrap (numZ z 56 2 : Int) = (numZ z 56 2 : Int) := IntWalk.i64_in _ (by omega)
          have w2 : IntKind.i64.wrap (numZ z 60 2 : Int) = (numZ z 60 2 : Int) := IntWalk.i64_in _ (by omega)
          have HN1 := Lib.hid (fun W hb => HNN.out 56 2 (by decide) (by decide) (by omega) W hb)
          have HN2 := Lib.hid (fun W hb => HNN.out 60 2 (by decide) (by decide) (by omega) W hb)
          have HP : Hid (placeB z len = (withB len (numZ z 32 8) (numZ z 56 2) 56 && withB len (numZ z 40 8) (numZ z 60 2) 64)) := Lib.hid rfl
          go_upto_region 6 with fail
          clear HS f0 f1 f2 r0 r1 r2 hcse HNN
          have HRF : Hid (ReadOf w z len = ReadP w (readE z len) (numZ z 24 8) (numZ z 32 8) (numZ z 40 8) (numZ z 56 2) (numZ z 60 2) z) := Lib.hid rfl
          generalize readE z len = re at *
          generalize placeB z len = pb at *
          generalize numZ z 24 8 = en at *
          generalize numZ z 32 8 = so at *
          generalize numZ z 40 8 = sc at *
          generalize numZ z 56 2 = ns at *
          generalize numZ z 60 2 = nc at *
          generalize World.setCell _ _ _ = W5 at HS5 ⊢
          go_wp2_with fail
          go_at_call 26
          refine (HN1.out _ HS5.out.2.2).mono ?_
          rintro e W9 ⟨rfl, h9⟩
          rw [h9]
          clear h9
          go_wp2_with fail
          go_at_call 26
          refine (HN2.out _ HS5.out.2.2).mono ?_
          rintro e W9 ⟨rfl, h9⟩
          rw [h9]
          clear h9
          have c1 := cell_at (i := 1) (v := .int .u64 (so : Nat)) HS5.out.2.1 rfl
          have c2 := cell_at (i := 2) (v := .int .u64 (sc : Nat)) HS5.out.2.1 rfl
          have hm56 : len < 9223372036854775808 := by omega
          have HW1 := Lib.hid (fun W => within_any (some ⟨b, off, none⟩) len cap so ns 56 hm56 (by omega) (by decide) W)
          have HW2 := Lib.hid (fun W => within_any (some ⟨b, off, none⟩) len cap sc nc 64 hm56 (by omega) (by decide) W)
          clear HN1 HN2 w1 w2
          have HS := HS5
          clear HS5
          by_cases hb1 : withB len so ns 56 = true
          rotate_left
          · rw [Bool.eq_false_iff.2 hb1] at HW1 HP
            have hE : re = 33 := by rw [HRE.out, HP.out]; rfl
            clear HRE HP HW2 hb1
            go_wp2_with fail
            go_at_call 27
            refine (HW1.out _).mono ?_
            rintro e W9 ⟨rfl, h9⟩
            rw [h9]
            clear h9
            have HE := Lib.hid hE
            clear hE
            go_wp2_with (first | (refine wpList_store27 (u := hz0) (c := hz0) rfl rfl rfl rfl HS.out.1 hs0 hs0 ho0 ?_) | fail)
            have HR := Lib.hid (HS.out.res (c := hz0))
            generalize World.setRow _ _ _ = W9 at HR ⊢
            rw [Exit.noGoto_ret]
            refine bodyPost_ret (res10 (r := 33) rfl rfl HR.out.1 hs0) rfl ?_
            try rw [HRF.out]
            exact .inl ⟨by rw [HE.out]; decide, by rw [HE.out], HR.out.2⟩
          by_cases hb2 : withB len sc nc 64 = true
          rotate_left
          · rw [hb1] at HW1 HP
            rw [Bool.eq_false_iff.2 hb2] at HW2 HP
            have hE : re = 33 := by rw [HRE.out, HP.out]; rfl
            clear HRE HP hb1 hb2
            go_wp2_with fail
            go_at_call 27
            refine (HW1.out _).mono ?_
            rintro e W9 ⟨rfl, h9⟩
            rw [h9]
            clear h9
            go_wp2_with fail
            go_at_call 27
            refine (HW2.out _).mono ?_
            rintro e W9 ⟨rfl, h9⟩
            rw [h9]
            clear h9
            have HE := Lib.hid hE
            clear hE
            go_wp2_with (first | (refine wpList_store27 (u := hz0) (c := hz0) rfl rfl rfl rfl HS.out.1 hs0 hs0 ho0 ?_) | fail)
            have HR := Lib.hid (HS.out.res (c := hz0))
            generalize World.setRow _ _ _ = W9 at HR ⊢
            rw [Exit.noGoto_ret]
            refine bodyPost_ret (res10 (r := 33) rfl rfl HR.out.1 hs0) rfl ?_
            try rw [HRF.out]
            exact .inl ⟨by rw [HE.out]; decide, by rw [HE.out], HR.out.2⟩
          have HB1 := Lib.hid hb1
          have HB2 := Lib.hid hb2
          rw [hb1] at HW1 HP
          rw [hb2] at HW2 HP
          have HE : Hid (re = 0) := Lib.hid (by rw [HRE.out, HP.out]; rfl)
          clear HRE HP hb1 hb2
          go_wp2_with fail
          go_at_call 27
          refine (HW1.out _).mono ?_
          rintro e W9 ⟨rfl, h9⟩
          rw [h9]
          clear h9
          go_wp2_with fail
          go_at_call 27
          refine (HW2.out _).mono ?_
          rintro e W9 ⟨rfl, h9⟩
          rw [h9]
          clear h9
          clear HW1 HW2 c1 c2
          have HL0 : Hid (LS W5 (w.heap.size + 1) (hcv en so sc (.slice none 0 0) (.slice none 0 0)) 30 7 (.slice none 0 0) 0 (rowsL segC z so 56 0) W5) := Lib.hid (LS.start HS.out.2.1)
          obtain ⟨i0, hi, hz0, hz1, hz2⟩ := info_parts infoE30
          have HI0 := Lib.hid (And.intro hi (And.intro hz0 (And.intro hz1 hz2)))
          clear hi hz0 hz1 hz2
          have HLT1 : Hid (w.heap.size + 1 < W5.heap.size) := Lib.hid (Array.getElem?_eq_some_iff.1 HS.out.2.1).1
          go_wp2_with fail
          go_loopw [48] (fun i W => ∃ (k : Nat) (v : Value), k ≤ ns ∧ i = .int .i64 k ∧ Hid (LS W5 (w.heap.size + 1) (hcv en so sc v (.slice none 0 0)) 30 7 v k (rowsL segC z so 56 k) W)) (fun i _ => ns - (intOf i).toNat)
          case atStart => exact ⟨0, _, by omega, rfl, HL0⟩
          case round =>
            clear HL0
            obtain ⟨k, v, hk, rfl, HL⟩ := hrel
            by_cases hlt : k < ns
            · obtain ⟨hle, hfit⟩ := with_yes HB1.out (by omega : 0 < ns)
              have hks : (k + 1) * 56 ≤ ns * 56 := Nat.mul_le_mul_right _ (by omega)
              have c1 := cell_at (i := 1) (v := .int .u64 (so : Nat)) HL.out.1 rfl
              have u1 : IntKind.i64.wrap ((k : Int) * 56) = (k : Int) * 56 := IntWalk.i64_in _ (by omega)
              have u2 : IntKind.u64.wrap ((k : Int) * 56) = (k : Int) * 56 := IntWalk.u64_in _ (by omega)
              have u3 : IntKind.u64.wrap ((so : Int) + (k : Int) * 56) = (so : Int) + (k : Int) * 56 := IntWalk.u64_in _ (by omega)
              have hi0 : 0 ≤ (so : Int) + (k : Int) * 56 := by omega
              have hi1 : (so : Int) + (k : Int) * 56 ≤ (len : Int) := by omega
              have ht : ((so : Int) + (k : Int) * 56).toNat = so + k * 56 := by omega
              have hne : ¬ cap = so + k * 56 := by omega
              have hbs : BS wr (some ⟨b, off + (so + k * 56), none⟩) (len - (so + k * 56)) (shZ z (so + k * 56)) := bs_part (HBS.out wr (HL.out.below HS.out.2.2 (by omega))) _
              have HT := Lib.hid (take_seg _ _ (cap - (so + k * 56)) (shZ z (so + k * 56)) (fun j => hz _) (by omega) (by omega) (by omega) wr hbs)
              clear hbs
              go_wp2_with fail
              go_at_call 20
              refine HT.out.mono ?_
              rintro e W9 ⟨rfl, h9⟩
              have HL9 := Lib.hid (HL.out.keep h9)
              have HRW : Hid (rowsL segC z so 56 (k + 1) = rowsL segC z so 56 k ++ [.int .u32 (numZ (shZ z (so + k * 56)) 0 4 : Nat), .int .u32 (numZ (shZ z (so + k * 56)) 4 4 : Nat), .int .u64 (numZ (shZ z (so + k * 56)) 8 8 : Nat), .int .u64 (numZ (shZ z (so + k * 56)) 16 8 : Nat), .int .u64 (numZ (shZ z (so + k * 56)) 32 8 : Nat), .int .u64 (numZ (shZ z (so + k * 56)) 40 8 : Nat), .int .u64 (numZ (shZ z (so + k * 56)) 48 8 : Nat)]) := Lib.hid (by rw [rowsL_succ]; rfl)
              clear h9 HT HL c1 u1 u2 u3 hi0 hi1 ht hne
              generalize numZ (shZ z (so + k * 56)) 0 4 = n0 at *
              generalize numZ (shZ z (so + k * 56)) 4 4 = n1 at *
              generalize numZ (shZ z (so + k * 56)) 8 8 = n2 at *
              generalize numZ (shZ z (so + k * 56)) 16 8 = n3 at *
              generalize numZ (shZ z (so + k * 56)) 32 8 = n4 at *
              generalize numZ (shZ z (so + k * 56)) 40 8 = n5 at *
              generalize numZ (shZ z (so + k * 56)) 48 8 = n6 at *
              generalize shZ z (so + k * 56) = zz at *
              go_upto_region 13 with fail
              have HN := Lib.hid (cells_newL W9 [.int .u32 (n0 : Nat), .int .u32 (n1 : Nat), .int .u64 (n2 : Nat), .int .u64 (n3 : Nat), .int .u64 (n4 : Nat), .int .u64 (n5 : Nat), .int .u64 (n6 : Nat)] 30)
              have HLA := Lib.hid (HL9.out.keep ((Below.refl _ W9).alloc (Nat.le_refl _) (.cells #[.int .u32 (n0 : Nat), .int .u32 (n1 : Nat), .int .u64 (n2 : Nat), .int .u64 (n3 : Nat), .int .u64 (n4 : Nat), .int .u64 (n5 : Nat), .int .u64 (n6 : Nat)] 30)))
              clear HL9
              generalize World.alloc W9 _ = W10 at HN HLA ⊢
              generalize W9.heap.size = D at HN ⊢
              have e0 : W10.cell? ⟨D, 0, none⟩ = some (.int .u32 (n0 : Nat)) := HN.out 0 _ rfl
              have e1 : W10.cell? ⟨D, 1, none⟩ = some (.int .u32 (n1 : Nat)) := HN.out 1 _ rfl
              have e2 : W10.cell? ⟨D, 2, none⟩ = some (.int .u64 (n2 : Nat)) := HN.out 2 _ rfl
              have e3 : W10.cell? ⟨D, 3, none⟩ = some (.int .u64 (n3 : Nat)) := HN.out 3 _ rfl
              have e4 : W10.cell? ⟨D, 4, none⟩ = some (.int .u64 (n4 : Nat)) := HN.out 4 _ rfl
              have e5 : W10.cell? ⟨D, 5, none⟩ = some (.int .u64 (n5 : Nat)) := HN.out 5 _ rfl
              have e6 : W10.cell? ⟨D, 6, none⟩ = some (.int .u64 (n6 : Nat)) := HN.out 6 _ rfl
              have c3 := cell_at (i := 3) (v := v) HLA.out.1 rfl
              have hlen : (rowsL segC z so 56 k).length = k * 7 := rowsL_len segC_len z so 56 k
              have HLB := Lib.hid (HLA.out.keep ((Below.refl _ W10).alloc (Nat.le_refl _) (.cells #[.int .u32 (n0 : Nat), .int .u32 (n1 : Nat), .int .u64 (n2 : Nat), .int .u64 (n3 : Nat), .int .u64 (n4 : Nat), .int .u64 (n5 : Nat), .int .u64 (n6 : Nat)] 30)))
              go_wp2_with (first | (at_builtin; refine wpList_append_own _ rfl _ _ 24 rfl W5.heap.size 30 i0 seg0 7 48 Tryd.underlying24 HI0.out.1 HI0.out.2.1 HI0.out.2.2.1 HI0.out.2.2.2 rfl (by decide) v k (rowsL segC z so 56 k) rfl HLB.out.2.1 ⟨_, 0, none⟩ 1 1 [.int .u32 (n0 : Nat), .int .u32 (n1 : Nat), .int .u64 (n2 : Nat), .int .u64 (n3 : Nat), .int .u64 (n4 : Nat), .int .u64 (n5 : Nat), .int .u64 (n6 : Nat)] rfl rfl (cells_newL _ [.int .u32 (n0 : Nat), .int .u32 (n1 : Nat), .int .u64 (n2 : Nat), .int .u64 (n3 : Nat), .int .u64 (n4 : Nat), .int .u64 (n5 : Nat), .int .u64 (n6 : Nat)] 30) (by intro u hu; simp at hu; rcases hu with rfl | rfl | rfl | rfl | rfl | rfl | rfl <;> rfl) (by unfold maxLen; omega) (by omega) (HLB.out.2.2.size) ?_) | fail)
              intro v5 W6 hown hgr _
              obtain ⟨a5, c5, rfl⟩ := owns_slice hown
              have HL6 := Lib.hid (HLB.out.app HLT1.out hown hgr)
              clear hown hgr HLA HLB HN c3
              have d3 := cell_at (i := 3) (v := v) HL6.out.1 rfl
              have f3 := frozen_at HL6.out.1 3
              have HL7 := Lib.hid (HL6.out.set HLT1.out 3 (.slice a5 (k + 1) c5))
              have hcs : (hcv en so sc v (.slice none 0 0)).setIfInBounds 3 (.slice a5 (k + 1) c5) = hcv en so sc (.slice a5 (k + 1) c5) (.slice none 0 0) := rfl
              rw [hcs] at HL7
              clear hcs
              go_wp2_with fail
              go_roundw
              case rel => exact ⟨k + 1, _, by omega, by go_num, by rw [HRW.out]; exact HL7⟩
              case measure => simp [intOf]; omega
            · obtain rfl : ns = k := by omega
              obtain ⟨a1, p1, rfl⟩ := owns_slice HL.out.2.1
              have HL1 := HL
              clear HL
              generalize wr = WA at HL1 ⊢
              have HBA := Lib.hid (HL1.out.below HS.out.2.2 (by omega))
              have HL0 : Hid (LS WA (w.heap.size + 1) (hcv en so sc (.slice a1 ns p1) (.slice none 0 0)) 32 5 (.slice none 0 0) 0 (rowsL secC z sc 64 0) WA) := Lib.hid (LS.start HL1.out.1)
              obtain ⟨i0, hi, hz0, hz1, hz2⟩ := info_parts infoE32
              have HI0 := Lib.hid (And.intro hi (And.intro hz0 (And.intro hz1 hz2)))
              clear hi hz0 hz1 hz2
              have HLT2 : Hid (w.heap.size + 1 < WA.heap.size) := Lib.hid (Array.getElem?_eq_some_iff.1 HL1.out.1).1
              go_wp2_with fail
              go_loopw [71] (fun i W => ∃ (k : Nat) (v : Value), k ≤ nc ∧ i = .int .i64 k ∧ Hid (LS WA (w.heap.size + 1) (hcv en so sc (.slice a1 ns p1) v) 32 5 v k (rowsL secC z sc 64 k) W)) (fun i _ => nc - (intOf i).toNat)
              case atStart => exact ⟨0, _, by omega, rfl, HL0⟩
              case round =>
                clear HL0
                obtain ⟨k, v, hk, rfl, HL⟩ := hrel
                by_cases hlt : k < nc
                · obtain ⟨hle, hfit⟩ := with_yes HB2.out (by omega : 0 < nc)
                  have hks : (k + 1) * 64 ≤ nc * 64 := Nat.mul_le_mul_right _ (by omega)
                  have c1 := cell_at (i := 2) (v := .int .u64 (sc : Nat)) HL.out.1 rfl
                  have u1 : IntKind.i64.wrap ((k : Int) * 64) = (k : Int) * 64 := IntWalk.i64_in _ (by omega)
                  have u2 : IntKind.u64.wrap ((k : Int) * 64) = (k : Int) * 64 := IntWalk.u64_in _ (by omega)
                  have u3 : IntKind.u64.wrap ((sc : Int) + (k : Int) * 64) = (sc : Int) + (k : Int) * 64 := IntWalk.u64_in _ (by omega)
                  have hi0 : 0 ≤ (sc : Int) + (k : Int) * 64 := by omega
                  have hi1 : (sc : Int) + (k : Int) * 64 ≤ (len : Int) := by omega
                  have ht : ((sc : Int) + (k : Int) * 64).toNat = sc + k * 64 := by omega
                  have hne : ¬ cap = sc + k * 64 := by omega
                  have hbs : BS wr (some ⟨b, off + (sc + k * 64), none⟩) (len - (sc + k * 64)) (shZ z (sc + k * 64)) := bs_part (HBS.out wr (HL.out.below HBA.out (by omega))) _
                  have HT := Lib.hid (take_sec _ _ (cap - (sc + k * 64)) (shZ z (sc + k * 64)) (fun j => hz _) (by omega) (by omega) (by omega) wr hbs)
                  clear hbs
                  go_wp2_with fail
                  go_at_call 22
                  refine HT.out.mono ?_
                  rintro e W9 ⟨rfl, h9⟩
                  have HL9 := Lib.hid (HL.out.keep h9)
                  have HRW : Hid (rowsL secC z sc 64 (k + 1) = rowsL secC z sc 64 k ++ [.int .u32 (numZ (shZ z (sc + k * 64)) 4 4 : Nat), .int .u64 (numZ (shZ z (sc + k * 64)) 24 8 : Nat), .int .u64 (numZ (shZ z (sc + k * 64)) 32 8 : Nat), .int .u32 (numZ (shZ z (sc + k * 64)) 40 4 : Nat), .int .u64 (numZ (shZ z (sc + k * 64)) 56 8 : Nat)]) := Lib.hid (by rw [rowsL_succ]; rfl)
                  clear h9 HT HL c1 u1 u2 u3 hi0 hi1 ht hne
                  generalize numZ (shZ z (sc + k * 64)) 4 4 = n0 at *
                  generalize numZ (shZ z (sc + k * 64)) 24 8 = n1 at *
                  generalize numZ (shZ z (sc + k * 64)) 32 8 = n2 at *
                  generalize numZ (shZ z (sc + k * 64)) 40 4 = n3 at *
                  generalize numZ (shZ z (sc + k * 64)) 56 8 = n4 at *
                  generalize shZ z (sc + k * 64) = zz at *
                  go_upto_region 19 with fail
                  have HN := Lib.hid (cells_newL W9 [.int .u32 (n0 : Nat), .int .u64 (n1 : Nat), .int .u64 (n2 : Nat), .int .u32 (n3 : Nat), .int .u64 (n4 : Nat)] 32)
                  have HLA := Lib.hid (HL9.out.keep ((Below.refl _ W9).alloc (Nat.le_refl _) (.cells #[.int .u32 (n0 : Nat), .int .u64 (n1 : Nat), .int .u64 (n2 : Nat), .int .u32 (n3 : Nat), .int .u64 (n4 : Nat)] 32)))
                  clear HL9
                  generalize World.alloc W9 _ = W10 at HN HLA ⊢
                  generalize W9.heap.size = D at HN ⊢
                  have e0 : W10.cell? ⟨D, 0, none⟩ = some (.int .u32 (n0 : Nat)) := HN.out 0 _ rfl
                  have e1 : W10.cell? ⟨D, 1, none⟩ = some (.int .u64 (n1 : Nat)) := HN.out 1 _ rfl
                  have e2 : W10.cell? ⟨D, 2, none⟩ = some (.int .u64 (n2 : Nat)) := HN.out 2 _ rfl
                  have e3 : W10.cell? ⟨D, 3, none⟩ = some (.int .u32 (n3 : Nat)) := HN.out 3 _ rfl
                  have e4 : W10.cell? ⟨D, 4, none⟩ = some (.int .u64 (n4 : Nat)) := HN.out 4 _ rfl
                  have c3 := cell_at (i := 4) (v := v) HLA.out.1 rfl
                  have hlen : (rowsL secC z sc 64 k).length = k * 5 := rowsL_len secC_len z sc 64 k
                  have HLB := Lib.hid (HLA.out.keep ((Below.refl _ W10).alloc (Nat.le_refl _) (.cells #[.int .u32 (n0 : Nat), .int .u64 (n1 : Nat), .int .u64 (n2 : Nat), .int .u32 (n3 : Nat), .int .u64 (n4 : Nat)] 32)))
                  go_wp2_with (first | (at_builtin; refine wpList_append_own _ rfl _ _ 25 rfl WA.heap.size 32 i0 sec0 5 40 Tryd.underlying25 HI0.out.1 HI0.out.2.1 HI0.out.2.2.1 HI0.out.2.2.2 rfl (by decide) v k (rowsL secC z sc 64 k) rfl HLB.out.2.1 ⟨_, 0, none⟩ 1 1 [.int .u32 (n0 : Nat), .int .u64 (n1 : Nat), .int .u64 (n2 : Nat), .int .u32 (n3 : Nat), .int .u64 (n4 : Nat)] rfl rfl (cells_newL _ [.int .u32 (n0 : Nat), .int .u64 (n1 : Nat), .int .u64 (n2 : Nat), .int .u32 (n3 : Nat), .int .u64 (n4 : Nat)] 32) (by intro u hu; simp at hu; rcases hu with rfl | rfl | rfl | rfl | rfl <;> rfl) (by unfold maxLen; omega) (by omega) (HLB.out.2.2.size) ?_) | fail)
                  intro v5 W6 hown hgr _
                  obtain ⟨a5, c5, rfl⟩ := owns_slice hown
                  have HL6 := Lib.hid (HLB.out.app HLT2.out hown hgr)
                  clear hown hgr HLA HLB HN c3
                  have d3 := cell_at (i := 4) (v := v) HL6.out.1 rfl
                  have f3 := frozen_at HL6.out.1 4
                  have HL7 := Lib.hid (HL6.out.set HLT2.out 4 (.slice a5 (k + 1) c5))
                  have hcs : (hcv en so sc (.slice a1 ns p1) v).setIfInBounds 4 (.slice a5 (k + 1) c5) = hcv en so sc (.slice a1 ns p1) (.slice a5 (k + 1) c5) := rfl
                  rw [hcs] at HL7
                  clear hcs
                  go_wp2_with fail
                  go_roundw
                  case rel => exact ⟨k + 1, _, by omega, by go_num, by rw [HRW.out]; exact HL7⟩
                  case measure => simp [intOf]; omega
                · obtain rfl : nc = k := by omega
                  obtain ⟨a2, p2, rfl⟩ := owns_slice HL.out.2.1
                  have HL2 := HL
                  clear HL
                  generalize wr = WB at HL2 ⊢
                  have HBB := Lib.hid (HL2.out.below HBA.out (by omega))
                  have hres : WB.heap[w.heap.size]? = some (.cells hz0 27 (0, 0)) := by
                    have h5 := HS.out.1
                    have hl5 := (Array.getElem?_eq_some_iff.1 h5).1
                    have hA := (HL1.out.2.2.block w.heap.size hl5 (by intro e; have := Option.some.inj e; omega)).trans h5
                    exact (HL2.out.2.2.block w.heap.size (Array.getElem?_eq_some_iff.1 hA).1 (by intro e; have := Option.some.inj e; omega)).trans hA
                  have hsz : (hcv en so sc (.slice a1 ns p1) (.slice a2 nc p2)).size = 5 := rfl
                  have hone : (hcv en so sc (.slice a1 ns p1) (.slice a2 nc p2)).all (·.oneCell') = true := by kernel_rfl
                  go_wp2_with (first | (refine wpList_load27 (b := w.heap.size + 1) (c := hcv en so sc (.slice a1 ns p1) (.slice a2 nc p2)) rfl rfl rfl HL2.out.1 rfl ?_) | (refine wpList_store27 (b := w.heap.size) (u := hz0) (c := hcv en so sc (.slice a1 ns p1) (.slice a2 nc p2)) rfl rfl rfl rfl hres hs0 hsz hone ?_) | fail)
                  have HR := Lib.hid (below_put (c := hcv en so sc (.slice a1 ns p1) (.slice a2 nc p2)) hres HBB.out)
                  have HO1 := Lib.hid (owns_set (HL2.out.other HL1.out.2.1 (by have := HLT1.out; omega)) (Nat.lt_of_succ_lt HLT1.out) (hcv en so sc (.slice a1 ns p1) (.slice a2 nc p2)))
                  have HO2 := Lib.hid (owns_set HL2.out.2.1 (Nat.lt_of_succ_lt HLT2.out) (hcv en so sc (.slice a1 ns p1) (.slice a2 nc p2)))
                  generalize World.setRow _ _ _ = W9 at HR HO1 HO2 ⊢
                  rw [Exit.noGoto_ret]
                  refine bodyPost_ret (res10 (r := 0) rfl rfl HR.out.1 rfl) rfl ?_
                  rw [HRF.out]
                  exact .inr ⟨HE.out, _, _, rfl, owns_lower HO1.out (by have := HLT1.out; omega), owns_lower HO2.out (by have := HLT2.out; omega), HR.out.2⟩
      · have h3 : ¬ magZ z = true := Bool.eq_false_iff.1 HMG.out
        have hE : readE z len = 31 := by unfold readE; rw [if_neg h1, if_neg h2, if_pos (by rw [Bool.eq_false_iff.2 h3]; rfl)]
        have HE := Lib.hid hE
        clear hE
        go_wp2_with (first | (refine wpList_store27 (u := hz0) (c := hz0) rfl rfl rfl rfl HS.out.1 hs0 hs0 ho0 ?_) | fail)
        have HR := Lib.hid (HS.out.res (c := hz0))
        generalize World.setRow _ _ _ = W9 at HR ⊢
        rw [Exit.noGoto_ret]
        refine bodyPost_ret (res10 (r := 31) rfl rfl HR.out.1 hs0) rfl ?_
        try rw [HRF.out]
        exact .inl ⟨by rw [HE.out]; decide, by rw [HE.out], HR.out.2⟩
end Go.Proofs.YtnaggdhophncaaaDoor
