/- dirt: a row of one's own, sorted. -/
import Derived.Test.YtaaflkjdcablcaaD
import Derived.Test.YtaaflkjdcablcaaF
namespace Go.Proofs.Ytaaflkjdcablcaa
open Go.RowKit Go.Shelf Go.Lib Go.Sort
set_option linter.unusedVariables false
set_option linter.unusedSimpArgs false
attribute [local go_sem] Oper.semAt_some
theorem cellsR_at : ∀ (L : List Rg) (k j : Nat), k < L.length → j < 2 → (cellsR L)[k * 2 + j]? = (L.getD k (0, 0)).cs[j]?
  | [], k, j, h, _ => by simp at h
  | x :: L, 0, j, _, hj => by
    simp only [cellsR, List.flatMap_cons, Nat.zero_mul, Nat.zero_add, List.getD_cons_zero]
    rw [List.getElem?_append_left (by simp [Rg.cs]; exact hj)]
  | x :: L, k + 1, j, h, hj => by
    have ih := cellsR_at L k j (by simpa using h) hj
    simp only [cellsR, List.flatMap_cons, List.getD_cons_succ] at ih ⊢
    rw [List.getElem?_append_right (by simp [Rg.cs]; omega), ← ih]
    congr 1
    simp [Rg.cs]
    omega
/-- The block of a row of one's own. -/
def BK (W : World) (g cap : Nat) (zs : List Rg) : Prop := ∃ cur, W.heap[g]? = some (.cells cur 25 (0, 0)) ∧ cur.size = cap * 2 ∧ zs.length ≤ cap ∧ cur.toList.take (zs.length * 2) = cellsR zs
theorem SR.bk {w W : World} {zs : List Rg} {v : Value} (h : SR w zs v W) : (v = .slice none 0 0 ∧ zs = []) ∨ ∃ g cap, v = .slice (some ⟨g, 0, none⟩) zs.length cap ∧ w.heap.size ≤ g ∧ cap ≤ maxLen ∧ BK W g cap zs := by
  rcases h.1.2 with ⟨hv, hn⟩ | ⟨g, cap, cur, hv, hg, hh, h1, h2, h3, h4⟩
  · exact .inl ⟨hv, List.eq_nil_of_length_eq_zero hn⟩
  · exact .inr ⟨g, cap, hv, hg, h2, cur, hh, h3, h1, h4⟩
theorem BK.c {W : World} {g cap : Nat} {zs : List Rg} (h : BK W g cap zs) (i : Nat) (hi : i < zs.length) : c2 W g i (rAt zs i) := by
  obtain ⟨cur, h1, h2, h3, h4⟩ := h
  have hc : ∀ p, W.cell? ⟨g, p, none⟩ = cur[p]? := fun p => by
    unfold World.cell?
    rw [h1]
    rfl
  have hj : ∀ j, j < 2 → cur[i * 2 + j]? = (zs.getD i (0, 0)).cs[j]? := fun j hj => by
    rw [← cellsR_at zs i j hi hj, ← h4, List.getElem?_take, if_pos (by omega)]
    simp
  refine ⟨?_, ?_⟩
  · rw [hc]
    exact (hj 0 (by omega)).trans rfl
  · rw [hc]
    exact (hj 1 (by omega)).trans rfl
theorem BK.fro {W : World} {g cap : Nat} {zs : List Rg} (h : BK W g cap zs) (p : Nat) : W.frozen? ⟨g, p, none⟩ = false := by
  obtain ⟨cur, h1, _⟩ := h
  simp [World.frozen?, h1]
theorem getBang (zs : List Rg) (i : Nat) (hi : i < zs.length) : zs.toArray[i]! = rAt zs i := by
  simp [rAt, zl, zh, List.getD, hi]
theorem flat_at (d : Array Rg) (i : Nat) (hi : i < d.size) : (flatK Rg.cs 2 d)[i * 2]! = .int .u64 ((d[i]!).1 : Nat) ∧ (flatK Rg.cs 2 d)[i * 2 + 1]! = .int .u64 ((d[i]!).2 : Nat) := by
  constructor
  · rw [get_flatK _ _ _ _ (by omega), show i * 2 / 2 = i by omega, show i * 2 % 2 = 0 by omega]
    rfl
  · rw [get_flatK _ _ _ _ (by omega), show (i * 2 + 1) / 2 = i by omega, show (i * 2 + 1) % 2 = 1 by omega]
    rfl
theorem BK.holds {W : World} {g cap : Nat} {zs : List Rg} (h : BK W g cap zs) : HoldsK Rg.cs 2 W g 0 zs.toArray := by
  intro t ht
  have ht' : t < zs.length * 2 := by simpa using ht
  refine ⟨?_, by rw [Nat.zero_add]; exact h.fro t⟩
  rw [Nat.zero_add]
  have hi : t / 2 < zs.length := by omega
  obtain ⟨c0, c1⟩ := h.c (t / 2) hi
  obtain ⟨f0, f1⟩ := flat_at zs.toArray (t / 2) (by simpa using hi)
  rw [getBang zs _ hi] at f0 f1
  rcases (by omega : t % 2 = 0 ∨ t % 2 = 1) with e | e
  · have et : t = t / 2 * 2 := by omega
    rw [← et] at c0 f0
    rw [c0]
    exact congrArg some f0.symm
  · have et : t = t / 2 * 2 + 1 := by omega
    rw [← et] at c1 f1
    rw [c1]
    exact congrArg some f1.symm
theorem sorted_any (w : World) (g cap : Nat) (zs : List Rg) (W : World) (h : BK W g cap zs) (hg : w.heap.size ≤ g) (hB : RowKit.Below w.heap.size w W) (hn : zs.length ≤ 1000000) :
    Calls Try.prog 32 #[.slice (some ⟨g, 0, none⟩) zs.length cap, .func (.func 33) #[] #[]] W fun e W' => e = .returned (.tuple #[]) ∧ ∃ zs', zs'.Perm zs ∧ (∀ i j, i < j → j < zs'.length → ¬ (zl zs' j < zl zs' i)) ∧ JW w g cap 0 [] zs' W' := by
  have hlt : g < W.heap.size := by
    obtain ⟨cur, h1, _⟩ := h
    exact (Array.getElem?_eq_some_iff.1 h1).1
  have hH := h.holds
  have hc := sort_raw g 0 cap zs.toArray W hH hlt (by simp; omega)
  rw [List.size_toArray] at hc
  refine hc.mono fun e W' he => ⟨he.1, ?_⟩
  obtain ⟨_, d', n, os, hp, hs, rfl⟩ := he
  obtain ⟨hsz0, _, hperm⟩ := hp
  have hsz : d'.size = zs.length := by simpa using hsz0
  have hK := holdsK_sortWorldK Rg.cs 2 W g 0 n zs.toArray d' os hlt hH (by simpa using hsz)
  have hlen : d'.toList.length = zs.length := by simpa using hsz
  refine ⟨d'.toList, ?_, fun i j hij hj => ?_, ?_, fun i hi => absurd hi (by simp), fun i _ hi => ?_, ?_⟩
  · have e1 : (d'.extract 0 zs.length).toList = d'.toList := by rw [← hsz, Array.extract_size]
    have e2 : ((zs.toArray).extract 0 zs.length).toList = zs := by simp
    rw [e1, e2] at hperm
    exact hperm
  · have := hs i j (Nat.zero_le _) hij (by have := hj; simp at this; omega)
    rw [ltR] at this
    have hi' : i < d'.size := by have := hj; simp at this; omega
    have hj' : j < d'.size := by simpa using hj
    simpa [zl, List.getD, hi', hj'] using this
  · obtain ⟨cur, h1, h2, _⟩ := h
    refine ⟨putCells id 0 (flatK Rg.cs 2 d') cur, ?_, by simp [putCells, h2]⟩
    show ((W.heap.modify g (onCells (putCells id 0 (flatK Rg.cs 2 d')))) ++ os)[g]? = _
    rw [Array.getElem?_append_left (by simpa using hlt), Array.getElem?_modify, if_pos rfl, h1]
    rfl
  · have hi' : i < d'.size := by simpa using hi
    obtain ⟨f0, f1⟩ := flat_at d' i hi'
    have hr : rAt d'.toList i = d'[i]! := by simp [rAt, zl, zh, List.getD, hi']
    rw [hr]
    have k0 := (hK (i * 2) (by simp; omega)).1
    have k1 := (hK (i * 2 + 1) (by simp; omega)).1
    rw [Nat.zero_add] at k0 k1
    exact ⟨k0.trans (congrArg some f0), k1.trans (congrArg some f1)⟩
  · refine hB.trans ⟨rfl, rfl, rfl, ?_, fun k hk => ?_⟩
    · unfold sortWorldK putRowK putRow mapBlock grow Sort.ahead
      simp
    · have hkW : k < W.heap.size := by have := hB.size; omega
      show ((W.heap.modify g (onCells (putCells id 0 (flatK Rg.cs 2 d')))) ++ os)[k]? = _
      rw [Array.getElem?_append_left (by simpa using hkW), Array.getElem?_modify, if_neg (by omega)]
end Go.Proofs.Ytaaflkjdcablcaa
