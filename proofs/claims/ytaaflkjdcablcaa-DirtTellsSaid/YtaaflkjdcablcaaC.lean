/- dirt.rights: the ranges that may be, in memory of its own. -/
import Derived.Test.YtaaflkjdcablcaaB
namespace Go.Proofs.Ytaaflkjdcablcaa
open Go.RowKit Go.Shelf
set_option linter.unusedVariables false
set_option linter.unusedSimpArgs false
attribute [local go_sem] Oper.semAt_some
def Rg.cs (r : Rg) : List Value := [.int .u64 (r.1 : Nat), .int .u64 (r.2 : Nat)]
def cellsR (zs : List Rg) : List Value := zs.flatMap Rg.cs
theorem cellsR_len (zs : List Rg) : (cellsR zs).length = zs.length * 2 := by
  induction zs with
  | nil => rfl
  | cons x xs ih => unfold cellsR at ih ⊢; rw [List.flatMap_cons, List.length_append, ih, List.length_cons]; simp [Rg.cs]; omega
theorem cellsR_snoc (pre : List Rg) (x : Rg) : cellsR (pre ++ [x]) = cellsR pre ++ x.cs := by simp [cellsR]
theorem cellsR_app (a b : List Rg) : cellsR (a ++ b) = cellsR a ++ cellsR b := by simp [cellsR]
theorem ones_R (zs : List Rg) : ∀ u ∈ cellsR zs, u.oneCell' = true := by
  intro u hu
  obtain ⟨x, _, hx⟩ := List.mem_flatMap.1 hu
  simp [Rg.cs] at hx
  rcases hx with rfl | rfl <;> rfl
theorem infoE25 : (Try.prog.info? 25).map (fun i => (i.zero, i.size, i.bytes)) = some (some (.agg #[.int .u64 0, .int .u64 0]), 2, 16) := by kernel_rfl
theorem info_parts {t : TypeId} {z : Value} {s b : Nat} (h : (Try.prog.info? t).map (fun i => (i.zero, i.size, i.bytes)) = some (some z, s, b)) : ∃ i, Try.prog.info? t = some i ∧ i.zero = some z ∧ i.size = s ∧ i.bytes = b := by
  cases hq : Try.prog.info? t with
  | none => rw [hq] at h; cases h
  | some i =>
    rw [hq] at h
    simp only [Option.map_some, Option.some.injEq, Prod.mk.injEq] at h
    exact ⟨i, rfl, h.1, h.2.1, h.2.2⟩
/-- Ranges so far, in a row of one's own. -/
def SR (w : World) (pre : List Rg) (v : Value) (W : World) : Prop := W.ownsRow w.heap.size 25 2 v pre.length (cellsR pre) ∧ Below w.heap.size w W
theorem SR.keep {w W W' : World} {L : List Rg} {v : Value} (h : SR w L v W) (hb : Below W.heap.size W W') : SR w L v W' := by
  refine ⟨⟨h.1.1, ?_⟩, h.2.trans (hb.mono h.2.size)⟩
  rcases h.1.2 with ⟨hv, hn⟩ | ⟨g, cap, cur, hv, hg, hh, h2⟩
  · exact .inl ⟨hv, hn⟩
  · exact .inr ⟨g, cap, cur, hv, hg, (hb.block g (Array.getElem?_eq_some_iff.1 hh).1).trans hh, h2⟩
theorem SR.alloc {w W : World} {pre : List Rg} {v : Value} (h : SR w pre v W) (o : Obj) : SR w pre v (W.alloc o) := h.keep ((Below.refl _ _).alloc (Nat.le_refl _) o)
theorem SR.drew {w W : World} {pre : List Rg} {v : Value} (h : SR w pre v W) : SR w pre v W.drew := ⟨h.1, h.2.drew⟩
theorem SR.nextL {w W W1 : World} {L M : List Rg} {v v' : Value} (h : SR w L v W) (ho : W1.ownsRow w.heap.size 25 2 v' (L.length + M.length) (cellsR L ++ cellsR M)) (hg : W.grownBy W1 v.ownBlock) : SR w (L ++ M) v' W1 := by
  refine ⟨by rw [cellsR_app, List.length_append]; exact ho, ?_⟩
  exact h.2.grown hg h.2.size (fun q e => by
    rcases h.1.2 with ⟨h, _⟩ | ⟨g', cap', cur, h, hle, _⟩
    · rw [h] at e; cases e
    · rw [h] at e; cases e; exact hle)
theorem SR.next {w W W1 : World} {pre : List Rg} {x : Rg} {v v' : Value} {o : Obj} (h : SR w pre v W) (ho : W1.ownsRow w.heap.size 25 2 v' (pre.length + 1) (cellsR pre ++ x.cs)) (hg : (W.alloc o).grownBy W1 v.ownBlock) : SR w (pre ++ [x]) v' W1 :=
  SR.nextL (M := [x]) (h.alloc o) (by simpa [cellsR] using ho) hg
theorem SR.nil (w W : World) (hb : Below w.heap.size w W) : SR w [] (.slice none 0 0) W := ⟨World.ownsRow_nil _ _ _ _, hb⟩
def rightR (r : Rg) : Bool := decide (r.1 ≤ r.2)
def rAt (zs : List Rg) (k : Nat) : Rg := (zl zs k, zh zs k)
theorem take_succ' (zs : List Rg) (k : Nat) (hk : k < zs.length) : zs.take (k + 1) = zs.take k ++ [rAt zs k] := by
  rw [List.take_add_one]
  congr 1
  simp [rAt, zl, zh, List.getD, hk]
def rightsK (zs : List Rg) (k : Nat) : List Rg := (zs.take k).filter rightR
theorem rightsK_succ (zs : List Rg) (k : Nat) (hk : k < zs.length) : rightsK zs (k + 1) = rightsK zs k ++ (if rightR (rAt zs k) then [rAt zs k] else []) := by
  unfold rightsK
  rw [take_succ' zs k hk, List.filter_append]
  cases h : rightR (rAt zs k) <;> simp [h]
theorem rightsK_len (zs : List Rg) (k : Nat) : (rightsK zs k).length ≤ k := by
  refine Nat.le_trans (List.length_filter_le _ _) ?_
  rw [List.length_take]
  omega
theorem cells_new2 (W : World) (x : Rg) (j : Nat) (u : Value) (hu : x.cs[j]? = some u) : (W.alloc (.cells #[.int .u64 (x.1 : Nat), .int .u64 (x.2 : Nat)] 25)).cell? ((⟨W.heap.size, 0, none⟩ : Addr).add j) = some u := by
  obtain ⟨c0, c1⟩ := (RB.new W x.1 x.2).c
  have hj : j < 2 := by
    have := (List.getElem?_eq_some_iff.1 hu).1
    simpa [Rg.cs] using this
  rcases (by omega : j = 0 ∨ j = 1) with rfl | rfl
  · simp [Rg.cs] at hu
    subst hu
    exact c0
  · simp [Rg.cs] at hu
    subst hu
    exact c1
theorem ones_x (x : Rg) : ∀ u ∈ x.cs, u.oneCell' = true := by
  intro u hu
  simp [Rg.cs] at hu
  rcases hu with rfl | rfl <;> rfl
set_option maxRecDepth 100000 in
set_option maxHeartbeats 4000000 in
theorem rights_any (a : Option Addr) (cap : Nat) (zs : List Rg) (hn : zs.length ≤ 1000000) (w : World) (hR : RD w a zs) :
    Calls Try.prog 31 #[.slice a zs.length cap] w fun e w' => ∃ v, e = .returned v ∧ SR w (zs.filter rightR) v w' := by
  obtain ⟨i0, hi, hz0, hz1, hz2⟩ := info_parts infoE25
  have HI0 := Lib.hid (And.intro hi (And.intro hz0 (And.intro hz1 hz2)))
  clear hi hz0 hz1 hz2
  have HR := Lib.hid hR
  have HS0 := Lib.hid (SR.nil w w (Below.refl _ _))
  clear hR
  obtain ⟨n, hl⟩ : ∃ n, zs.length = n := ⟨_, rfl⟩
  have HL := Lib.hid hl
  rw [hl] at hn ⊢
  clear hl
  go_enter Try.func31, Try.ntmps31
  go_wp2_with fail
  go_loopw [3, 8] (fun v i W => ∃ k : Nat, k ≤ n ∧ i = .int .i64 k ∧ Hid (SR w (rightsK zs k) v W)) (fun _ i _ => n - (intOf i).toNat)
  case atStart => exact ⟨0, by omega, rfl, HS0⟩
  case round =>
    clear HS0
    obtain ⟨k, hk, rfl, HS⟩ := hrel
    by_cases hlt : k < n
    · have hlt' : k < zs.length := by rw [HL.out]; exact hlt
      obtain ⟨b, off, ha, c0, c1⟩ := HR.out.keep HS.out.2 k hlt'
      subst ha
      have HK := Lib.hid (rightsK_succ zs k hlt')
      have hlen := rightsK_len zs k
      obtain ⟨x, hx⟩ : ∃ x, rAt zs k = x := ⟨_, rfl⟩
      have e0 : zl zs k = x.1 := by rw [← hx]; rfl
      have e1 : zh zs k = x.2 := by rw [← hx]; rfl
      rw [e0] at c0
      rw [e1] at c1
      rw [hx] at HK
      clear hx e0 e1
      generalize hpre : rightsK zs k = pre at *
      clear hpre
      have HRT := Lib.hid (fun w => right_any x.1 x.2 w)
      have hrr : rightR x = decide (x.1 ≤ x.2) := rfl
      have HRR := Lib.hid hrr
      clear hrr
      cases hr : decide (x.1 ≤ x.2)
      · rw [hr] at HRT HRR
        go_wp2_with (first | (go_at_call 27; refine (HRT.out _).mono ?_) | fail)
        first | (rintro e W3 rfl hb) | (rintro e W3 ⟨rfl, hb⟩)
        have HS3 := Lib.hid ((HS.out.alloc _).keep hb)
        clear hb HS c0 c1
        go_wp2_with fail
        go_roundw
        case rel => exact ⟨k + 1, by omega, by go_num, by rw [HK.out, HRR.out]; simpa using HS3⟩
        case measure => simp [intOf]; omega
      · rw [hr] at HRT HRR
        have HB := Lib.hid (RB.new wr x.1 x.2)
        go_wp2_with (first | (go_at_call 27; refine (HRT.out _).mono ?_) | fail)
        first | (rintro e W3 rfl hb) | (rintro e W3 ⟨rfl, hb⟩)
        have HS3 := Lib.hid ((HS.out.alloc _).keep hb)
        obtain ⟨d0, d1⟩ := (HB.out.keep hb).c
        clear hb HS c0 c1
        go_wp2_with (first | (at_builtin; refine wpList_append_own _ rfl _ _ 22 rfl w.heap.size 25 i0 (.agg #[.int .u64 0, .int .u64 0]) 2 16 Try.underlying22 HI0.out.1 HI0.out.2.1 HI0.out.2.2.1 HI0.out.2.2.2 rfl (by decide) _ pre.length (cellsR pre) rfl (HS3.out.1.alloc _) ⟨_, 0, none⟩ 1 1 x.cs rfl rfl (cells_new2 _ x) (ones_x _) (by unfold maxLen; omega) (by omega) (by have := HS3.out.2.size; simp; omega) ?_) | fail)
        intro v5 W5 hown hgr _
        have HS5 := Lib.hid (SR.next (x := x) HS3.out hown hgr)
        clear hown hgr d0 d1 HS3
        go_wp2_with fail
        go_roundw
        case rel => exact ⟨k + 1, by omega, by go_num, by rw [HK.out, HRR.out]; exact HS5⟩
        case measure => simp [intOf]; omega
    · obtain rfl : k = n := by omega
      have he : rightsK zs k = zs.filter rightR := by unfold rightsK; rw [← HL.out, List.take_length]
      have HE := Lib.hid he
      clear he
      go_wp2_with fail
      go_ret
      exact ⟨_, rfl, by rw [← HE.out]; exact HS.out⟩
end Go.Proofs.Ytaaflkjdcablcaa
