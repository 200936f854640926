/- CodesEach: what is found by a form's own numbers. -/
import Derived.Test.YtaeehinlgmijgaaDoorTc
namespace Go.Proofs.YtaeehinlgmijgaaDoor
open Go.RowKit Go.Shelf
set_option linter.unusedVariables false
set_option linter.unusedSimpArgs false
attribute [local go_sem] Oper.semAt_some
def digB (p m o : Nat) (f : Fm) : Bool := f.d != -1 && standsB f p m o
def eachOk (f : Fm) : Bool := decide (f.deed < 40) && (f.plus == false || (f.o % 8 == 0 && decide (f.o < 248) && f.d == -1)) && (if f.plus then List.range 8 else [0]).all (fun r => formsL.any (digB f.p f.m (f.o + r)) == (f.d != -1))
theorem each_all : formsL.all eachOk = true := by decide +kernel
theorem digZ_eq (p m o : Nat) (f : Fm) (hf : f.o < 256) (ho : o < 256) : digZ p m o f = digB p m o f := by
  unfold digZ digB
  rw [standsZ_eq f p m o hf ho]
theorem any_cong {h h' : Fm → Bool} : ∀ (L : List Fm), (∀ f, f ∈ L → h f = h' f) → L.any h = L.any h'
  | [], _ => rfl
  | f :: L, e => by rw [List.any_cons, List.any_cons, e f List.mem_cons_self, any_cong L (fun g hg => e g (List.mem_cons_of_mem _ hg))]
theorem each_of {f : Fm} (h : f ∈ formsL) : f.deed < 40 ∧ (f.plus = true → f.o % 8 = 0 ∧ f.o < 248 ∧ f.d = -1) ∧ ∀ r, r ∈ (if f.plus then List.range 8 else [0]) → formsL.any (digZ f.p f.m (f.o + r)) = (f.d != -1) := by
  have ho := good_o h
  have he := List.all_eq_true.1 each_all f h
  simp only [eachOk, Bool.and_eq_true, Bool.or_eq_true, decide_eq_true_eq, beq_iff_eq, List.all_eq_true] at he
  refine ⟨he.1.1, fun hp => ?_, fun r hr => ?_⟩
  · rcases he.1.2 with h | h
    · rw [hp] at h; cases h
    · exact ⟨h.1.1, h.1.2, h.2⟩
  · rw [← he.2 r hr]
    refine any_cong formsL (fun g hg => digZ_eq _ _ _ g (good_o hg) ?_)
    by_cases hp : f.plus = true
    · rw [if_pos hp] at hr
      rcases he.1.2 with h | h
      · rw [hp] at h; cases h
      · have := h.1.2; have := List.mem_range.1 hr; omega
    · rw [if_neg hp] at hr
      have := List.mem_singleton.1 hr
      omega
theorem each_find {f : Fm} (h : f ∈ formsL) (r : Nat) (hr : r ∈ (if f.plus then List.range 8 else [0])) (d : Int) (hd : f.d = -1 ∨ f.d = d) : findR (fun g => fitsZ g f.p f.m (f.o + r) d) = (f, true) := by
  have hb : f.o + r < 256 := by
    have ho := good_o h
    by_cases hp : f.plus = true
    · rw [if_pos hp] at hr
      have := (each_of h).2.1 hp
      have := List.mem_range.1 hr
      omega
    · rw [if_neg hp] at hr
      have := List.mem_singleton.1 hr
      omega
  have hfit : fitsZ f f.p f.m (f.o + r) d = true := by
    rw [fitsZ_eq f _ _ _ d (good_o h) hb]
    have hq : opq f (f.o + r) = f.o := by
      unfold opq
      by_cases hp : f.plus = true
      · rw [if_pos hp] at hr ⊢
        have := (each_of h).2.1 hp
        have := List.mem_range.1 hr
        omega
      · rw [if_neg hp] at hr ⊢
        have := List.mem_singleton.1 hr
        omega
    simp only [fitsB, standsB, hq, beq_self_eq_true, Bool.true_and, Bool.or_eq_true, beq_iff_eq]
    exact hd
  have hm : f ∈ formsL.filter (fun g => fitsZ g f.p f.m (f.o + r) d) := List.mem_filter.2 ⟨h, hfit⟩
  have hl := fits_le f.p f.m (f.o + r) d hb
  unfold findR
  rw [← List.head?_filter]
  match hF : formsL.filter (fun g => fitsZ g f.p f.m (f.o + r) d) with
  | [] => rw [hF] at hm; cases hm
  | [a] => rw [hF] at hm; rw [List.mem_singleton.1 hm]; rfl
  | a :: b :: l => rw [hF] at hl; simp at hl
def hasK (k j : Nat) : Bool := (formsL.take k).any (fun f => f.deed == j)
theorem hasK_succ (k : Nat) (hk : k < 139) (j : Nat) : hasK (k + 1) j = (hasK k j || (fAt k).deed == j) := any_succ _ k hk
theorem hasK_all : ∀ j : Fin 40, hasK 139 j.val = decide (j.val ≠ 0) := by decide +kernel
def hasC (k : Nat) : Array Value := ((List.range 40).map (fun j => Value.bool (hasK k j))).toArray
def HB (W : World) (b k : Nat) : Prop := W.heap[b]? = some (.cells (hasC k) 34 (0, 0))
theorem HB.at {W : World} {b k : Nat} (h : HB W b k) (j : Nat) (hj : j < 40) : W.cell? ⟨b, j, none⟩ = some (.bool (hasK k j)) := by
  have h' : W.heap[b]? = some (.cells (hasC k) 34 (0, 0)) := h
  simp [World.cell?, h', hasC, hj]
theorem HB.fro {W : World} {b k : Nat} (h : HB W b k) (j : Nat) : W.frozen? ⟨b, j, none⟩ = false := by
  have h' : W.heap[b]? = some (.cells (hasC k) 34 (0, 0)) := h
  simp [World.frozen?, h']
theorem HB.keep {W W' : World} {b k : Nat} (h : HB W b k) (hb : Below W.heap.size W W') : HB W' b k := (hb.block b (Array.getElem?_eq_some_iff.1 h).1).trans h
theorem HB.set {W : World} {b k : Nat} (h : HB W b k) (hk : k < 139) : HB (W.setCell ⟨b, (fAt k).deed, none⟩ (.bool true)) b (k + 1) := by
  have h' : W.heap[b]? = some (.cells (hasC k) 34 (0, 0)) := h
  have hlt := (Array.getElem?_eq_some_iff.1 h').1
  have e : (hasC k).setIfInBounds (fAt k).deed (.bool true) = hasC (k + 1) := by
    apply Array.ext_getElem?
    intro j
    unfold hasC
    simp only [List.setIfInBounds_toArray, List.getElem?_toArray, List.getElem?_set, List.length_map, List.length_range, List.getElem?_map]
    by_cases hj : j < 40
    · by_cases e : (fAt k).deed = j
      · subst e
        simp [hj, hasK_succ k hk]
      · simp [e, hj, hasK_succ k hk]
    · have hr : (List.range 40)[j]? = none := by simp; omega
      by_cases e : (fAt k).deed = j
      · subst e; simp [hj, hr]
      · simp [e, hr]
  show (W.heap.modify b _)[b]? = _
  rw [Array.getElem?_modify]
  simp [h', e]
theorem cs_ev (f : Fm) : f.cs[0]? = some (.int .u8 (f.p : Nat)) ∧ f.cs[1]? = some (.int .u8 (f.m : Nat)) ∧ f.cs[2]? = some (.int .u8 (f.o : Nat)) ∧ f.cs[3]? = some (.bool f.plus) ∧ f.cs[4]? = some (.int .i64 f.d) ∧ f.cs[5]? = some (.int .u8 (f.deed : Nat)) := ⟨rfl, rfl, rfl, rfl, rfl, rfl⟩
theorem norm8 (a : Int) : ∃ k : Nat, k < 8 ∧ (wrap64 (Int.tmod a 8 + 8)).tmod 8 = (k : Int) := by
  have h1 : -8 < Int.tmod a 8 := by have := Int.lt_tmod_of_pos a (show (0 : Int) < 8 by decide); omega
  have h2 : Int.tmod a 8 < 8 := Int.tmod_lt_of_pos a (by decide)
  generalize Int.tmod a 8 = y at *
  have e : wrap64 (y + 8) = y + 8 := by unfold wrap64; omega
  rw [e, Int.tmod_eq_emod_of_nonneg (by omega)]
  exact ⟨((y + 8) % 8).toNat, by omega, by omega⟩
def EW (w : World) (g b k : Nat) (W : World) : Prop := RF W g ∧ HB W b k ∧ GL W ∧ Below w.heap.size w W
theorem EW.keep {w W W' : World} {g b k : Nat} (h : EW w g b k W) (hb : Below W.heap.size W W') : EW w g b k W' := ⟨h.1.keep hb, h.2.1.keep hb, h.2.2.1.below hb, h.2.2.2.trans (hb.mono h.2.2.2.size)⟩
theorem EW.drew {w W : World} {g b k : Nat} (h : EW w g b k W) : EW w g b k W.drew := ⟨h.1, h.2.1, h.2.2.1, h.2.2.2.drew⟩
theorem RF.c0 {W : World} {g : Nat} (h : RF W g) (k : Nat) (hk : k < 139) (v : Value) (hv : (fAt k).cs[0]? = some v) : W.cell? ⟨g, k * 14, none⟩ = some v := h.at k hk 0 v hv
theorem RF.c {W : World} {g : Nat} (h : RF W g) (k : Nat) (hk : k < 139) (j : Nat) (v : Value) (hv : (fAt k).cs[j]? = some v) : W.cell? ⟨g, k * 14 + j, none⟩ = some v := h.at k hk j v hv
theorem RF.setCell {W : World} {g b : Nat} (h : RF W g) (hb : g ≠ b) (o : Nat) (v : Value) : RF (W.setCell ⟨b, o, none⟩ v) g := by
  obtain ⟨cur, hh, ht⟩ := h
  exact ⟨cur, (Below.heap_setCell W ⟨b, o, none⟩ v g hb).trans hh, ht⟩
theorem EW.set {w W : World} {g b k : Nat} (h : EW w g b k W) (hk : k < 139) (hg : g ≠ b) (hw : 2 ≤ w.heap.size) (hb : w.heap.size ≤ b) : EW w g b (k + 1) (W.setCell ⟨b, (fAt k).deed, none⟩ (.bool true)) :=
  ⟨h.1.setCell hg _ _, h.2.1.set hk, h.2.2.1.block (Below.heap_setCell W ⟨b, _, none⟩ _ 0 (show (0 : Nat) ≠ b by omega)) (Below.heap_setCell W ⟨b, _, none⟩ _ 1 (show (1 : Nat) ≠ b by omega)), h.2.2.2.setCell (by exact hb) _⟩
end Go.Proofs.YtaeehinlgmijgaaDoor
