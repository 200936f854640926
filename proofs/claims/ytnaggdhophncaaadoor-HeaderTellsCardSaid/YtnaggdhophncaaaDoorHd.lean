/- header.Head. -/
import Derived.Test.YtnaggdhophncaaaDoorSe
import Derived.Test.YtnaggdhophncaaaDoorNu
import Derived.Test.YtnaggdhophncaaaDoorTl
import Derived.Deep.MidRow
namespace Go.Proofs.YtnaggdhophncaaaDoor
open Go.RowKit Go.Shelf
set_option linter.unusedVariables false
set_option linter.unusedSimpArgs false
attribute [local go_sem] Oper.semAt_some
def mgL : List Value := [.int .u8 127, .int .u8 69, .int .u8 76, .int .u8 70]
def muL : List Value := [.int .i64 4, .int .i64 1, .int .u64 2, .int .i64 0, .int .i64 5, .int .i64 1, .int .u64 1, .int .i64 0, .int .i64 6, .int .i64 1, .int .u64 1, .int .i64 0, .int .i64 16, .int .i64 2, .int .u64 2, .int .i64 0, .int .i64 18, .int .i64 2, .int .u64 62, .int .i64 0, .int .i64 20, .int .i64 4, .int .u64 1, .int .i64 0, .int .i64 48, .int .i64 4, .int .u64 0, .int .i64 0, .int .i64 52, .int .i64 2, .int .u64 64, .int .i64 0, .int .i64 54, .int .i64 2, .int .u64 56, .int .i64 56, .int .i64 58, .int .i64 2, .int .u64 64, .int .i64 60]
def mgN (k : Nat) : Nat := [127, 69, 76, 70].getD k 0
def mA (k : Nat) : Nat := [4, 5, 6, 16, 18, 20, 48, 52, 54, 58].getD k 0
def mS (k : Nat) : Nat := [1, 1, 1, 2, 2, 4, 4, 2, 2, 2].getD k 0
def mW (k : Nat) : Nat := [2, 1, 1, 2, 62, 1, 0, 64, 56, 64].getD k 0
def mU (k : Nat) : Nat := [0, 0, 0, 0, 0, 0, 0, 0, 56, 60].getD k 0
theorem mg_at (k : Nat) (hk : k < 4) (W : World) : (Instr.index 53 (.agg #[.int .u8 127, .int .u8 69, .int .u8 76, .int .u8 70]) (.int .i64 (k : Int))).run Tryd.prog W = .ok (.int .u8 (mgN k : Nat)) W := by
  obtain rfl | rfl | rfl | rfl : k = 0 ∨ k = 1 ∨ k = 2 ∨ k = 3 := by omega
  all_goals kernel_rfl
theorem mu_at (k : Nat) (hk : k < 10) (W : World) : (Instr.index 61 (.agg muL.toArray) (.int .i64 (k : Int))).run Tryd.prog W = .ok (.agg #[.int .i64 (mA k : Nat), .int .i64 (mS k : Nat), .int .u64 (mW k : Nat), .int .i64 (mU k : Nat)]) W := by
  obtain rfl | rfl | rfl | rfl | rfl | rfl | rfl | rfl | rfl | rfl : k = 0 ∨ k = 1 ∨ k = 2 ∨ k = 3 ∨ k = 4 ∨ k = 5 ∨ k = 6 ∨ k = 7 ∨ k = 8 ∨ k = 9 := by omega
  all_goals kernel_rfl
theorem mu_fit (k : Nat) (hk : k < 10) : 1 ≤ mS k ∧ mS k ≤ 8 ∧ mA k + mS k ≤ 64 := by
  obtain rfl | rfl | rfl | rfl | rfl | rfl | rfl | rfl | rfl | rfl : k = 0 ∨ k = 1 ∨ k = 2 ∨ k = 3 ∨ k = 4 ∨ k = 5 ∨ k = 6 ∨ k = 7 ∨ k = 8 ∨ k = 9 := by omega
  all_goals decide
/-- The two tables are there. -/
def GM (w : World) : Prop := (w.rangeAt 0 0 mgL ∧ w.rangeAt 1 0 muL) ∧ 2 ≤ w.heap.size
theorem rangeAt_block {W W' : World} {b o : Nat} {cs : List Value} (h : W.rangeAt b o cs) (hb : W'.heap[b]? = W.heap[b]?) : W'.rangeAt b o cs := fun j v hv => (World.cell?_of_block (a := ⟨b, o + j, none⟩) hb).trans (h j v hv)
theorem GM.below {W W' : World} (h : GM W) (hb : Below W.heap.size W W') : GM W' := by
  have h2 := h.2
  exact ⟨⟨rangeAt_block h.1.1 (hb.block 0 (by omega)), rangeAt_block h.1.2 (hb.block 1 (by omega))⟩, Nat.le_trans h2 hb.size⟩
theorem GM.to {W W' : World} (h : GM W) (hb : Below W.heap.size W W') : GM W' := h.below hb
theorem GM.row {W : World} {b : Nat} {c : Array Value} (h : GM W) (hb : 2 ≤ b) : GM (W.setRow b c) := ⟨⟨rangeAt_block h.1.1 (setRow_other _ _ _ _ (by omega)), rangeAt_block h.1.2 (setRow_other _ _ _ _ (by omega))⟩, by have := h.2; simp [World.setRow]; exact this⟩
theorem GM.mg {W : World} (h : GM W) (k v) (hv : mgL[k]? = some v) : W.cell? ⟨0, k, none⟩ = some v := by have := h.1.1 k v hv; rwa [Nat.zero_add] at this
theorem info61 : (Tryd.prog.info? 61).map (·.size) = some muL.length := by kernel_rfl
/-- What the head is behind so many of the table's numbers. -/
def magF (k : Nat) : Nat → Nat := fun j => if j < k then mgN j else 0
def headK : Nat → Nat → Nat
  | 0 => magF 4
  | k + 1 => putF (headK k) (mA k) (mS k) (mW k)
def headF (en so sc ns nc : Nat) : Nat → Nat := putF (putF (putF (putF (putF (headK 10) 24 8 en) 32 8 so) 40 8 sc) 56 2 ns) 60 2 nc
/-- A header's cells. -/
def hcs (en so sc ns nc : Nat) (sa ca : Option Addr) (sp cp : Nat) : Array Value := #[.int .u64 (en : Nat), .int .u64 (so : Nat), .int .u64 (sc : Nat), .slice sa ns sp, .slice ca nc cp]
theorem magF_set (g k : Nat) (W : World) (hk : k < 4) (h : BR W g 64 (magF k)) : BR (W.setCell ⟨g, k, none⟩ (.int .u8 (mgN k : Nat))) g 64 (magF (k + 1)) := by
  have h1 := set_at (i := k) (v := .int .u8 (mgN k : Nat)) h
  unfold BR
  rw [h1]
  have e : (rowB (magF k) 64).toArray.setIfInBounds k (.int .u8 (mgN k : Nat)) = (rowB (magF (k + 1)) 64).toArray := by
    apply Array.ext'
    simp only [List.setIfInBounds_toArray]
    apply List.ext_getElem?
    intro j
    by_cases hj : j < 64
    · rw [List.getElem?_set, rowB_at _ _ _ hj, rowB_at _ _ _ hj, rowB_len]
      unfold magF
      by_cases e : k = j
      · subst e; simp; omega
      · simp [e, show j < k + 1 ↔ j < k by omega]
    · rw [List.getElem?_eq_none (by simp [rowB_len]; omega), List.getElem?_eq_none (by rw [rowB_len]; omega)]
  rw [e]
/-- The thing in its box, the bytes so far, the tables. -/
def HG (w : World) (b g : Nat) (cs : Array Value) (f : Nat → Nat) (W : World) : Prop := SG w b g 64 cs 27 f W ∧ GM W
theorem HG.put {w W W' : World} {b g : Nat} {cs : Array Value} {f h : Nat → Nat} (hS : HG w b g cs f W) (hbg : b ≠ g) (hg : w.heap.size ≤ g) (h2 : 2 ≤ g) (h1 : BR W' g 64 h) (h3 : W.grownBy W' (some g)) : HG w b g cs h W' :=
  ⟨hS.1.put hbg hg h1 h3, ⟨rangeAt_block hS.2.1.1 (h3.block 0 (by have := hS.2.2; omega) (fun e => by cases e; omega)), rangeAt_block hS.2.1.2 (h3.block 1 (by have := hS.2.2; omega) (fun e => by cases e; omega))⟩, Nat.le_trans hS.2.2 h3.size⟩
theorem HG.keep {w W W' : World} {b g : Nat} {cs : Array Value} {f : Nat → Nat} (hS : HG w b g cs f W) (hb : Below W.heap.size W W') : HG w b g cs f W' :=
  ⟨⟨(hb.block b (Array.getElem?_eq_some_iff.1 hS.1.1).1).trans hS.1.1, hS.1.2.1.keep hb, hS.1.2.2.trans (hb.mono hS.1.2.2.size)⟩, hS.2.below hb⟩
theorem grown_set {W : World} {g k : Nat} {v : Value} {c : Array Value} {t : TypeId} (h : W.heap[g]? = some (.cells c t (0, 0))) : W.grownBy (W.setCell ⟨g, k, none⟩ v) (some g) := by
  rw [setCell_eq_setRow W g k c t (0, 0) v h]
  exact grown_row W g _
theorem HG.new {w : World} (hG : GM w) (cs : Array Value) : HG w w.heap.size (w.heap.size + 1) cs (magF 0) ((w.alloc (.cells cs 27)).alloc (.cells (rowB (fun _ => 0) 64).toArray 5)) := by
  have h := SG.new w 64 cs 27
  refine ⟨⟨h.1, h.2.1.congr (fun j _ => by simp [magF]), h.2.2⟩, hG.below h.2.2⟩
set_option maxRecDepth 100000 in
set_option maxHeartbeats 8000000 in
theorem head_any (en so sc ns nc : Nat) (sa ca : Option Addr) (sp cp : Nat) (hns : ns ≤ 9223372036854775807) (hnc : nc ≤ 9223372036854775807) (w : World) (hG : GM w) :
    Calls Tryd.prog 14 #[.agg (hcs en so sc ns nc sa ca sp cp)] w fun e W' => e = .returned (.slice (some ⟨w.heap.size + 1, 0, none⟩) 64 64) ∧ BR W' (w.heap.size + 1) 64 (headF en so sc ns nc) ∧ Below w.heap.size w W' := by
  have hg2 : 2 ≤ w.heap.size + 1 := by have := hG.2; omega
  have hmk : (Instr.makeSlice 22 (.int .i64 64) (.int .i64 64)).run Tryd.prog (w.alloc (.cells (hcs en so sc ns nc sa ca sp cp) 27)) = .ok (.slice (some ⟨(w.alloc (.cells (hcs en so sc ns nc sa ca sp cp) 27)).heap.size, 0, none⟩) 64 64) ((w.alloc (.cells (hcs en so sc ns nc sa ca sp cp) 27)).alloc (.cells (rowB (fun _ => 0) 64).toArray 5)) := by
    have := make_n 64 (by decide) (w.alloc (.cells (hcs en so sc ns nc sa ca sp cp) 27))
    rwa [made_row] at this
  have HS0 := Lib.hid (HG.new hG (hcs en so sc ns nc sa ca sp cp))
  have hbg : w.heap.size ≠ w.heap.size + 1 := by omega
  have hwg : w.heap.size ≤ w.heap.size + 1 := by omega
  have w1 : IntKind.u64.wrap (ns : Int) = (ns : Int) := IntWalk.u64_in _ (by omega)
  have w2 : IntKind.u64.wrap (nc : Int) = (nc : Int) := IntWalk.u64_in _ (by omega)
  have HN := Lib.hid (And.intro w1 w2)
  clear hG hns hnc w1 w2
  simp only [World.size_alloc] at hmk
  generalize hB : w.heap.size = B at *
  have HCS : ∃ cs, cs = hcs en so sc ns nc sa ca sp cp := ⟨_, rfl⟩
  obtain ⟨cs, hcse⟩ := HCS
  rw [← hcse] at hmk HS0 ⊢
  have HCE := Lib.hid hcse
  clear hcse
  go_enter Tryd.func14, Tryd.ntmps14
  go_upto_region 2 with fail
  generalize World.alloc (World.alloc w _) _ = W1 at HS0 ⊢
  clear hmk
  have c0 := HS0.out.2.mg 0 (.int .u8 127) rfl
  have c1 := HS0.out.2.mg 1 (.int .u8 69) rfl
  have c2 := HS0.out.2.mg 2 (.int .u8 76) rfl
  have c3 := HS0.out.2.mg 3 (.int .u8 70) rfl
  go_wp2_with fail
  clear c0 c1 c2 c3
  go_loopw [10] (fun i W => ∃ k : Nat, k ≤ 4 ∧ i = .int .i64 k ∧ Hid (HG w B (B + 1) cs (magF k) W)) (fun i _ => 4 - (intOf i).toNat)
  case atStart => exact ⟨0, by omega, rfl, HS0⟩
  case round =>
    clear HS0
    obtain ⟨k, hk, rfl, HS⟩ := hrel
    by_cases hlt : k < 4
    · have hix := fun W => mg_at k hlt W
      have hk64 : k < 64 := by omega
      have hcell := HS.out.1.2.1.c k hk64
      have hfr : wr.frozen? ⟨B + 1, k, none⟩ = false := frozen_at HS.out.1.2.1 k
      have HS2 := Lib.hid (HS.out.put hbg (by omega) hg2 (magF_set (B + 1) k wr hlt HS.out.1.2.1) (grown_set HS.out.1.2.1))
      generalize mgN k = mv at *
      go_wp2_with fail
      go_roundw
      case rel => exact ⟨k + 1, by omega, by go_num, HS2⟩
      case measure => simp [intOf]; omega
    · obtain rfl : k = 4 := by omega
      have HM : Hid (headK 0 = magF 4) := Lib.hid rfl
      go_wp2_with (first | (refine wpList_load_mid rfl 61 _ rfl 1 0 rfl muL _ HS.out.2.1.2 Tryd.underlying61 rfl info61 ?_) | fail)
      go_loopw [20] (fun i W => ∃ k : Nat, k ≤ 10 ∧ i = .int .i64 k ∧ Hid (HG w B (B + 1) cs (headK k) W)) (fun i _ => 10 - (intOf i).toNat)
      case atStart => exact ⟨0, by omega, rfl, HS⟩
      case round =>
        clear HS
        obtain ⟨k, hk, rfl, HS⟩ := hrel
        by_cases hlt : k < 10
        · have hix := fun W => mu_at k hlt W
          obtain ⟨f1, f2, f3⟩ := mu_fit k hlt
          have HM := Lib.hid (show headK (k + 1) = putF (headK k) (mA k) (mS k) (mW k) from rfl)
          have HSA := Lib.hid (HS.out.keep ((Below.refl wr.heap.size wr).alloc (Nat.le_refl _) (.cells #[.int .i64 (mA k : Nat), .int .i64 (mS k : Nat), .int .u64 (mW k : Nat), .int .i64 (mU k : Nat)] 60)))
          generalize mA k = a at *
          generalize mS k = s at *
          generalize mW k = x at *
          generalize mU k = u at *
          generalize muL = mul at *
          go_wp2_with fail
          go_at_call 31
          refine (put_any (B + 1) 64 64 _ a s x f1 f2 f3 (by decide) (by decide) (by decide) _ HSA.out.1.2.1).mono ?_
          rintro e W9 ⟨rfl, h1, h2⟩
          have HS2 := Lib.hid (HSA.out.put hbg (by omega) hg2 h1 h2)
          rw [← HM.out] at HS2
          clear h1 h2
          go_wp2_with fail
          go_roundw
          case rel => exact ⟨k + 1, by omega, by go_num, HS2⟩
          case measure => simp [intOf]; omega
        · obtain rfl : k = 10 := by omega
          generalize muL = mul at *
          have c0 := cell_at (i := 0) (v := .int .u64 (en : Nat)) HS.out.1.1 (by rw [HCE.out]; rfl)
          go_wp2_with fail
          go_at_call 31
          refine (put_any (B + 1) 64 64 _ 24 8 en (by decide) (by decide) (by decide) (by decide) (by decide) (by decide) _ HS.out.1.2.1).mono ?_
          rintro e W20 ⟨rfl, h1, h2⟩
          replace HS := Lib.hid (HS.out.put hbg (by omega) hg2 h1 h2)
          clear h1 h2 c0
          have c1 := cell_at (i := 1) (v := .int .u64 (so : Nat)) HS.out.1.1 (by rw [HCE.out]; rfl)
          go_wp2_with fail
          go_at_call 31
          refine (put_any (B + 1) 64 64 _ 32 8 so (by decide) (by decide) (by decide) (by decide) (by decide) (by decide) _ HS.out.1.2.1).mono ?_
          rintro e W21 ⟨rfl, h1, h2⟩
          replace HS := Lib.hid (HS.out.put hbg (by omega) hg2 h1 h2)
          clear h1 h2 c1
          have c2 := cell_at (i := 2) (v := .int .u64 (sc : Nat)) HS.out.1.1 (by rw [HCE.out]; rfl)
          go_wp2_with fail
          go_at_call 31
          refine (put_any (B + 1) 64 64 _ 40 8 sc (by decide) (by decide) (by decide) (by decide) (by decide) (by decide) _ HS.out.1.2.1).mono ?_
          rintro e W22 ⟨rfl, h1, h2⟩
          replace HS := Lib.hid (HS.out.put hbg (by omega) hg2 h1 h2)
          clear h1 h2 c2
          have c3 := cell_at (i := 3) (v := .slice sa ns sp) HS.out.1.1 (by rw [HCE.out]; rfl)
          have w3 := HN.out.1
          go_wp2_with fail
          go_at_call 31
          refine (put_any (B + 1) 64 64 _ 56 2 ns (by decide) (by decide) (by decide) (by decide) (by decide) (by decide) _ HS.out.1.2.1).mono ?_
          rintro e W23 ⟨rfl, h1, h2⟩
          replace HS := Lib.hid (HS.out.put hbg (by omega) hg2 h1 h2)
          clear h1 h2 c3 w3
          have c4 := cell_at (i := 4) (v := .slice ca nc cp) HS.out.1.1 (by rw [HCE.out]; rfl)
          have w4 := HN.out.2
          go_wp2_with fail
          go_at_call 31
          refine (put_any (B + 1) 64 64 _ 60 2 nc (by decide) (by decide) (by decide) (by decide) (by decide) (by decide) _ HS.out.1.2.1).mono ?_
          rintro e W24 ⟨rfl, h1, h2⟩
          replace HS := Lib.hid (HS.out.put hbg (by omega) hg2 h1 h2)
          clear h1 h2 c4 w4
          go_wp2_with fail
          go_ret
          exact ⟨rfl, HS.out.1.2.1, hB ▸ HS.out.1.2.2⟩
end Go.Proofs.YtnaggdhophncaaaDoor
