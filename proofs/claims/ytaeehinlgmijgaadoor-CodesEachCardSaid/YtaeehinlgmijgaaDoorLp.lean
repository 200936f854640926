/- Forms in a row, one by one. -/
import Derived.Test.YtaeehinlgmijgaaDoorPw
namespace Go.Proofs.YtaeehinlgmijgaaDoor
open Go.RowKit Go.Shelf
set_option linter.unusedVariables false
set_option linter.unusedSimpArgs false
/-- All forms in the row at block g. -/
def RF (W : World) (g : Nat) : Prop := ∃ cur, W.heap[g]? = some (.cells cur 23 (0, 0)) ∧ cur.toList.take (139 * 14) = cellsL formsL
def fAt (k : Nat) : Fm := formsL.getD k zf
theorem cells_at : ∀ (L : List Fm) (k j : Nat), k < L.length → j < 14 → (cellsL L)[k * 14 + j]? = (L.getD k zf).cs[j]?
  | [], k, j, h, _ => by simp at h
  | x :: L, 0, j, _, hj => by
    simp only [cellsL, List.flatMap_cons, Nat.zero_mul, Nat.zero_add, List.getD_cons_zero]
    rw [List.getElem?_append_left (by rw [Fm.cs_len]; exact hj)]
  | x :: L, k + 1, j, h, hj => by
    have ih := cells_at L k j (by simpa using h) hj
    simp only [cellsL, List.flatMap_cons, List.getD_cons_succ] at ih ⊢
    rw [List.getElem?_append_right (by rw [Fm.cs_len]; omega), Fm.cs_len, ← ih]
    congr 1
    omega
theorem RF.at {W : World} {g : Nat} (h : RF W g) (k : Nat) (hk : k < 139) : W.rangeAt g (k * 14) (fAt k).cs := by
  obtain ⟨cur, hh, ht⟩ := h
  intro j v hv
  have hj : j < 14 := by
    have := (List.getElem?_eq_some_iff.1 hv).1
    rwa [Fm.cs_len] at this
  have hc := cells_at formsL k j (by rw [forms_len]; exact hk) hj
  have hc2 : cur.toList[k * 14 + j]? = some v := by
    have h2 : (cur.toList.take (139 * 14))[k * 14 + j]? = cur.toList[k * 14 + j]? := by
      rw [List.getElem?_take, if_pos (by omega)]
    rw [← h2, ht, hc]
    exact hv
  have hc3 : cur[k * 14 + j]? = some v := by simpa using hc2
  simp [World.cell?, hh, hc3]
theorem RF.lt {W : World} {g : Nat} (h : RF W g) : g < W.heap.size := by
  obtain ⟨cur, hh, _⟩ := h
  exact (Array.getElem?_eq_some_iff.1 hh).1
theorem RF.keep {W W' : World} {g : Nat} (h : RF W g) (hb : Below W.heap.size W W') : RF W' g := by
  obtain ⟨cur, hh, ht⟩ := h
  exact ⟨cur, (hb.block g (Array.getElem?_eq_some_iff.1 hh).1).trans hh, ht⟩
theorem RF.row {W : World} {g b : Nat} {c : Array Value} (h : RF W g) (hb : g ≠ b) : RF (W.setRow b c) g := by
  obtain ⟨cur, hh, ht⟩ := h
  exact ⟨cur, (setRow_other hb).trans hh, ht⟩
theorem RF.alloc {W : World} {g : Nat} (h : RF W g) (o : Obj) : RF (W.alloc o) g := h.keep ((Below.refl _ _).alloc (Nat.le_refl _) o)
theorem RF.of {W : World} {n : Nat} {v : Value} (h : W.ownsRow n 23 14 v 139 (cellsL formsL)) : ∃ g cap, v = .slice (some ⟨g, 0, none⟩) 139 cap ∧ n ≤ g ∧ RF W g := by
  obtain ⟨g, cap, hv, hg, cur, hh, ht⟩ := row_slice h (by decide)
  exact ⟨g, cap, hv, hg, cur, hh, ht⟩
/-- A form out of the row is loaded. -/
theorem wpList_loadF {ops : Array Oper} {rest : List Oper} {op : Oper} {a : Act} {w : World} {Q : Exit → Act → World → Prop} (x : Operand) (ho : op.op = .load 23 x) (hw : Region.wanted op (yielded ops a.tmps) = true)
    (b o k : Nat) (hx : a.eval x = .pointer (some ⟨b, o, none⟩)) (hg : RF w b) (hk : k < 139) (hok : o = k * 14)
    (h : wpList Tryd.prog ops Q rest (a.put op.dst (fAt k).v) w) : wpList Tryd.prog ops Q (op :: rest) a w := by
  subst hok
  unfold wpList
  rw [if_pos hw]
  refine .inl ?_
  exact wp_load_mid 23 x ho b (k * 14) hx (fAt k).cs _ (hg.at k hk) Tryd.underlying23 rfl (by rw [Fm.cs_len]; kernel_rfl) h
theorem fits_call (f : Fm) (p m o : Nat) (d : Int) (w : World) :
    Calls Tryd.prog 12 #[Fm.v f, .int .u8 (p : Nat), .int .u8 (m : Nat), .int .u8 (o : Nat), .int .i64 d] w fun e w' => e = .returned (.bool (fitsZ f p m o d)) ∧ Below w.heap.size w w' := fits_any f p m o d w
theorem take_succ (k : Nat) (hk : k < 139) : formsL.take (k + 1) = formsL.take k ++ [fAt k] := by
  rw [List.take_add_one]
  congr 1
  have : k < formsL.length := by rw [forms_len]; exact hk
  simp [fAt, List.getD, this]
theorem fAt_mem (k : Nat) (hk : k < 139) : fAt k ∈ formsL := by
  have : k < formsL.length := by rw [forms_len]; exact hk
  simp [fAt, List.getD, this]
theorem take_all : formsL.take 139 = formsL := by rw [← forms_len, List.take_length]
end Go.Proofs.YtaeehinlgmijgaaDoor
