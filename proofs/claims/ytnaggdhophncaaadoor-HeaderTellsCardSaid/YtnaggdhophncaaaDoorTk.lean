/- header.TakeSegment, header.TakeSection. -/
import Derived.Test.YtnaggdhophncaaaDoorTa
namespace Go.Proofs.YtnaggdhophncaaaDoor
open Go.RowKit Go.Shelf
set_option linter.unusedVariables false
set_option linter.unusedSimpArgs false
attribute [local go_sem] Oper.semAt_some
def numZ (z : Nat → Nat) (o s : Nat) : Nat := numN (fun j => z (o + j)) s
theorem numZ_lt (z : Nat → Nat) (hz : ∀ j, z j < 256) (o s : Nat) : numZ z o s < 2 ^ (8 * s) := numN_lt _ (fun j => hz _) s
theorem w32n {k : Nat} (h : k < 2 ^ (8 * 4)) : IntKind.u32.wrap (k : Int) = (k : Int) := by
  rw [IntKind.wrap_u32]
  exact Int.emod_eq_of_lt (by omega) (by omega)
theorem ownFrom_block {β : Type} (B q : Nat) (c : β → Array Value) (t : TypeId) : OwnFrom B (fun (s : β) W => W.heap[q]? = some (.cells (c s) t (0, 0))) := fun s X Y row hs hg hr => by
  refine (hg.block q (Array.getElem?_eq_some_iff.1 hs).1 (fun e => ?_)).trans hs
  obtain ⟨_, o, ho, hc⟩ := hr q e.symm
  rw [hs] at ho; cases ho; cases hc
theorem frozen_at {W : World} {b : Nat} {cs : Array Value} {t : TypeId} (h : W.heap[b]? = some (.cells cs t (0, 0))) (i : Nat) : W.frozen? ⟨b, i, none⟩ = false := by simp [World.frozen?, h]
theorem five (w : World) (o0 o1 o2 o3 o4 : Obj) : (((((w.alloc o0).alloc o1).alloc o2).alloc o3).alloc o4).heap[w.heap.size]? = some o0 ∧ (((((w.alloc o0).alloc o1).alloc o2).alloc o3).alloc o4).heap[w.heap.size + 1]? = some o1 ∧ (((((w.alloc o0).alloc o1).alloc o2).alloc o3).alloc o4).heap[w.heap.size + 2]? = some o2 ∧ (((((w.alloc o0).alloc o1).alloc o2).alloc o3).alloc o4).heap[w.heap.size + 3]? = some o3 ∧ (((((w.alloc o0).alloc o1).alloc o2).alloc o3).alloc o4).heap[w.heap.size + 4]? = some o4 := by
  have h0 := World.alloc_heap_new w o0
  have h1 := World.alloc_heap_new (w.alloc o0) o1
  have h2 := World.alloc_heap_new ((w.alloc o0).alloc o1) o2
  have h3 := World.alloc_heap_new (((w.alloc o0).alloc o1).alloc o2) o3
  have h4 := World.alloc_heap_new ((((w.alloc o0).alloc o1).alloc o2).alloc o3) o4
  simp only [World.size_alloc, Nat.add_assoc, Nat.reduceAdd] at h1 h2 h3 h4
  have k : ∀ (W : World) (o : Obj) (q : Nat), q < W.heap.size → (W.alloc o).heap[q]? = W.heap[q]? := fun W o q hq => Below.heap_alloc W o q hq
  refine ⟨?_, ?_, ?_, ?_, h4⟩
  · rw [k _ _ _ (by simp <;> omega), k _ _ _ (by simp <;> omega), k _ _ _ (by simp <;> omega), k _ _ _ (by simp), h0]
  · rw [k _ _ _ (by simp <;> omega), k _ _ _ (by simp <;> omega), k _ _ _ (by simp), h1]
  · rw [k _ _ _ (by simp <;> omega), k _ _ _ (by simp), h2]
  · rw [k _ _ _ (by simp), h3]
/-- A place and a number. -/
def pl (nn i x : Nat) (h : i < nn) : Pl nn := ⟨(i, x), h⟩
theorem out_step {nn : Nat} {z : Nat → Nat} {zs : List Int} {k : Nat} {pre : List (Pl nn)} (hp : outK nn z zs k = pre) (i o s : Nat) (hs : sK zs k = (s : Int)) (hi : iK zs k = i) (ho : atK zs k = o) (h : i < nn) : outK nn z zs (k + 1) = pre ++ [⟨(i, numZ z o s), h⟩] := by
  subst hp
  subst hi
  subst ho
  show outK nn z zs k ++ (if sK zs k < 0 then ([] : List (Pl nn)) else if h : iK zs k < nn then [⟨(iK zs k, numN (fun j => z (atK zs k + j)) (sK zs k).natAbs), h⟩] else []) = _
  rw [if_neg (by omega), dif_pos h, hs, Int.natAbs_natCast]
  rfl
theorem out_skip {nn : Nat} {z : Nat → Nat} {zs : List Int} {k : Nat} {pre : List (Pl nn)} (hp : outK nn z zs k = pre) (hs : sK zs k < 0) : outK nn z zs (k + 1) = pre := by
  subst hp
  show outK nn z zs k ++ (if sK zs k < 0 then ([] : List (Pl nn)) else if h : iK zs k < nn then [⟨(iK zs k, numN (fun j => z (atK zs k + j)) (sK zs k).natAbs), h⟩] else []) = _
  rw [if_pos hs, List.append_nil]
/-- What the range keeps: the numbers so far, the result's box. -/
def NB (nn q : Nat) (pre : List (Pl nn)) (W : World) : Prop := ∀ j, j < nn → W.cell? ⟨q, j, none⟩ = some (.int .u64 (wr pre j : Nat)) ∧ W.frozen? ⟨q, j, none⟩ = false
def NI (w : World) (nn q r : Nat) (cs : Array Value) (t : TypeId) (pre : List (Pl nn)) (W : World) : Prop := (NB nn q pre W ∧ W.heap[r]? = some (.cells cs t (0, 0))) ∧ Below w.heap.size w W
def segZ : List Int := [4, 4, 8, 8, -8, 8, 8, 8]
theorem seg_fit (len : Nat) (h : 56 ≤ len) : FitT segZ len 7 := fun k hk => by
  have e : ∀ k, k < 8 → -1000 ≤ sK segZ k ∧ (0 ≤ sK segZ k → 1 ≤ sK segZ k ∧ sK segZ k ≤ 8 ∧ atK segZ k + (sK segZ k).natAbs ≤ 56 ∧ iK segZ k < 7) ∧ atK segZ k ≤ 100000 ∧ iK segZ k ≤ 1000 := by decide +kernel
  obtain ⟨a, b, c⟩ := e k hk
  exact ⟨a, fun h0 => ⟨(b h0).1, (b h0).2.1, Nat.le_trans (b h0).2.2.1 h, (b h0).2.2.2⟩, c⟩
theorem seg_wr (a0 a1 a2 a3 a4 a5 a6 : Nat) : wr ([pl 7 0 (a0) (by decide), pl 7 1 (a1) (by decide), pl 7 2 (a2) (by decide), pl 7 3 (a3) (by decide), pl 7 4 (a4) (by decide), pl 7 5 (a5) (by decide), pl 7 6 (a6) (by decide)] : List (Pl 7)) 0 = a0 ∧ wr ([pl 7 0 (a0) (by decide), pl 7 1 (a1) (by decide), pl 7 2 (a2) (by decide), pl 7 3 (a3) (by decide), pl 7 4 (a4) (by decide), pl 7 5 (a5) (by decide), pl 7 6 (a6) (by decide)] : List (Pl 7)) 1 = a1 ∧ wr ([pl 7 0 (a0) (by decide), pl 7 1 (a1) (by decide), pl 7 2 (a2) (by decide), pl 7 3 (a3) (by decide), pl 7 4 (a4) (by decide), pl 7 5 (a5) (by decide), pl 7 6 (a6) (by decide)] : List (Pl 7)) 2 = a2 ∧ wr ([pl 7 0 (a0) (by decide), pl 7 1 (a1) (by decide), pl 7 2 (a2) (by decide), pl 7 3 (a3) (by decide), pl 7 4 (a4) (by decide), pl 7 5 (a5) (by decide), pl 7 6 (a6) (by decide)] : List (Pl 7)) 3 = a3 ∧ wr ([pl 7 0 (a0) (by decide), pl 7 1 (a1) (by decide), pl 7 2 (a2) (by decide), pl 7 3 (a3) (by decide), pl 7 4 (a4) (by decide), pl 7 5 (a5) (by decide), pl 7 6 (a6) (by decide)] : List (Pl 7)) 4 = a4 ∧ wr ([pl 7 0 (a0) (by decide), pl 7 1 (a1) (by decide), pl 7 2 (a2) (by decide), pl 7 3 (a3) (by decide), pl 7 4 (a4) (by decide), pl 7 5 (a5) (by decide), pl 7 6 (a6) (by decide)] : List (Pl 7)) 5 = a5 ∧ wr ([pl 7 0 (a0) (by decide), pl 7 1 (a1) (by decide), pl 7 2 (a2) (by decide), pl 7 3 (a3) (by decide), pl 7 4 (a4) (by decide), pl 7 5 (a5) (by decide), pl 7 6 (a6) (by decide)] : List (Pl 7)) 6 = a6 := by
  refine ⟨?_, ?_, ?_, ?_, ?_, ?_, ?_⟩ <;> simp [wr, pl]
theorem seg_list (z : Nat → Nat) : outK 7 z segZ 8 = [pl 7 0 (numZ z 0 4) (by decide), pl 7 1 (numZ z 4 4) (by decide), pl 7 2 (numZ z 8 8) (by decide), pl 7 3 (numZ z 16 8) (by decide), pl 7 4 (numZ z 32 8) (by decide), pl 7 5 (numZ z 40 8) (by decide), pl 7 6 (numZ z 48 8) (by decide)] := by
  have e0 : outK 7 z segZ 0 = [] := rfl
  have e1 := out_step e0 0 0 4 (by decide) (by decide) (by decide) (by decide)
  have e2 := out_step e1 1 4 4 (by decide) (by decide) (by decide) (by decide)
  have e3 := out_step e2 2 8 8 (by decide) (by decide) (by decide) (by decide)
  have e4 := out_step e3 3 16 8 (by decide) (by decide) (by decide) (by decide)
  have e5 := out_skip e4 (by decide)
  have e6 := out_step e5 4 32 8 (by decide) (by decide) (by decide) (by decide)
  have e7 := out_step e6 5 40 8 (by decide) (by decide) (by decide) (by decide)
  have e8 := out_step e7 6 48 8 (by decide) (by decide) (by decide) (by decide)
  exact e8
theorem seg_out (z : Nat → Nat) : wr (outK 7 z segZ 8) 0 = numZ z 0 4 ∧ wr (outK 7 z segZ 8) 1 = numZ z 4 4 ∧ wr (outK 7 z segZ 8) 2 = numZ z 8 8 ∧ wr (outK 7 z segZ 8) 3 = numZ z 16 8 ∧ wr (outK 7 z segZ 8) 4 = numZ z 32 8 ∧ wr (outK 7 z segZ 8) 5 = numZ z 40 8 ∧ wr (outK 7 z segZ 8) 6 = numZ z 48 8 := by
  have h := seg_wr (numZ z 0 4) (numZ z 4 4) (numZ z 8 8) (numZ z 16 8) (numZ z 32 8) (numZ z 40 8) (numZ z 48 8)
  rw [← seg_list z] at h
  exact h
def secZ : List Int := [-4, 4, -16, 8, 8, 4, -12, 8]
theorem sec_fit (len : Nat) (h : 64 ≤ len) : FitT secZ len 5 := fun k hk => by
  have e : ∀ k, k < 8 → -1000 ≤ sK secZ k ∧ (0 ≤ sK secZ k → 1 ≤ sK secZ k ∧ sK secZ k ≤ 8 ∧ atK secZ k + (sK secZ k).natAbs ≤ 64 ∧ iK secZ k < 5) ∧ atK secZ k ≤ 100000 ∧ iK secZ k ≤ 1000 := by decide +kernel
  obtain ⟨a, b, c⟩ := e k hk
  exact ⟨a, fun h0 => ⟨(b h0).1, (b h0).2.1, Nat.le_trans (b h0).2.2.1 h, (b h0).2.2.2⟩, c⟩
theorem sec_wr (a0 a1 a2 a3 a4 : Nat) : wr ([pl 5 0 (a0) (by decide), pl 5 1 (a1) (by decide), pl 5 2 (a2) (by decide), pl 5 3 (a3) (by decide), pl 5 4 (a4) (by decide)] : List (Pl 5)) 0 = a0 ∧ wr ([pl 5 0 (a0) (by decide), pl 5 1 (a1) (by decide), pl 5 2 (a2) (by decide), pl 5 3 (a3) (by decide), pl 5 4 (a4) (by decide)] : List (Pl 5)) 1 = a1 ∧ wr ([pl 5 0 (a0) (by decide), pl 5 1 (a1) (by decide), pl 5 2 (a2) (by decide), pl 5 3 (a3) (by decide), pl 5 4 (a4) (by decide)] : List (Pl 5)) 2 = a2 ∧ wr ([pl 5 0 (a0) (by decide), pl 5 1 (a1) (by decide), pl 5 2 (a2) (by decide), pl 5 3 (a3) (by decide), pl 5 4 (a4) (by decide)] : List (Pl 5)) 3 = a3 ∧ wr ([pl 5 0 (a0) (by decide), pl 5 1 (a1) (by decide), pl 5 2 (a2) (by decide), pl 5 3 (a3) (by decide), pl 5 4 (a4) (by decide)] : List (Pl 5)) 4 = a4 := by
  refine ⟨?_, ?_, ?_, ?_, ?_⟩ <;> simp [wr, pl]
theorem sec_list (z : Nat → Nat) : outK 5 z secZ 8 = [pl 5 0 (numZ z 4 4) (by decide), pl 5 1 (numZ z 24 8) (by decide), pl 5 2 (numZ z 32 8) (by decide), pl 5 3 (numZ z 40 4) (by decide), pl 5 4 (numZ z 56 8) (by decide)] := by
  have e0 : outK 5 z secZ 0 = [] := rfl
  have e1 := out_skip e0 (by decide)
  have e2 := out_step e1 0 4 4 (by decide) (by decide) (by decide) (by decide)
  have e3 := out_skip e2 (by decide)
  have e4 := out_step e3 1 24 8 (by decide) (by decide) (by decide) (by decide)
  have e5 := out_step e4 2 32 8 (by decide) (by decide) (by decide) (by decide)
  have e6 := out_step e5 3 40 4 (by decide) (by decide) (by decide) (by decide)
  have e7 := out_skip e6 (by decide)
  have e8 := out_step e7 4 56 8 (by decide) (by decide) (by decide) (by decide)
  exact e8
theorem sec_out (z : Nat → Nat) : wr (outK 5 z secZ 8) 0 = numZ z 4 4 ∧ wr (outK 5 z secZ 8) 1 = numZ z 24 8 ∧ wr (outK 5 z secZ 8) 2 = numZ z 32 8 ∧ wr (outK 5 z secZ 8) 3 = numZ z 40 4 ∧ wr (outK 5 z secZ 8) 4 = numZ z 56 8 := by
  have h := sec_wr (numZ z 4 4) (numZ z 24 8) (numZ z 32 8) (numZ z 40 4) (numZ z 56 8)
  rw [← sec_list z] at h
  exact h
theorem seg_world (w : World) (g off len cap : Nat) (z : Nat → Nat) (hc : ∀ j, j < len → w.cell? ⟨g, off + j, none⟩ = some (.int .u8 (z j : Nat))) (hl : 0 < len) :
    NI w 7 (w.heap.size + 1) w.heap.size #[.int .u32 0, .int .u32 0, .int .u64 0, .int .u64 0, .int .u64 0, .int .u64 0, .int .u64 0] 30 [] (((((w.alloc (.cells #[.int .u32 0, .int .u32 0, .int .u64 0, .int .u64 0, .int .u64 0, .int .u64 0, .int .u64 0] 30)).alloc (.cells #[.int .u64 0, .int .u64 0, .int .u64 0, .int .u64 0, .int .u64 0, .int .u64 0, .int .u64 0] 64)).alloc (.cells #[.int .i64 4, .int .i64 4, .int .i64 8, .int .i64 8, .int .i64 (-8), .int .i64 8, .int .i64 8, .int .i64 8] 3)).alloc (.cells #[.slice (some ⟨g, off, none⟩) len cap] 22)).alloc (.cells #[.slice (some ⟨w.heap.size + 2, 0, none⟩) 8 8] 71)) ∧ (((((w.alloc (.cells #[.int .u32 0, .int .u32 0, .int .u64 0, .int .u64 0, .int .u64 0, .int .u64 0, .int .u64 0] 30)).alloc (.cells #[.int .u64 0, .int .u64 0, .int .u64 0, .int .u64 0, .int .u64 0, .int .u64 0, .int .u64 0] 64)).alloc (.cells #[.int .i64 4, .int .i64 4, .int .i64 8, .int .i64 8, .int .i64 (-8), .int .i64 8, .int .i64 8, .int .i64 8] 3)).alloc (.cells #[.slice (some ⟨g, off, none⟩) len cap] 22)).alloc (.cells #[.slice (some ⟨w.heap.size + 2, 0, none⟩) 8 8] 71)).cell? ⟨w.heap.size + 4, 0, none⟩ = some (.slice (some ⟨w.heap.size + 2, 0, none⟩) 8 8) ∧ TV (w.heap.size + 3) (w.heap.size + 2) g off len cap segZ z (((((w.alloc (.cells #[.int .u32 0, .int .u32 0, .int .u64 0, .int .u64 0, .int .u64 0, .int .u64 0, .int .u64 0] 30)).alloc (.cells #[.int .u64 0, .int .u64 0, .int .u64 0, .int .u64 0, .int .u64 0, .int .u64 0, .int .u64 0] 64)).alloc (.cells #[.int .i64 4, .int .i64 4, .int .i64 8, .int .i64 8, .int .i64 (-8), .int .i64 8, .int .i64 8, .int .i64 8] 3)).alloc (.cells #[.slice (some ⟨g, off, none⟩) len cap] 22)).alloc (.cells #[.slice (some ⟨w.heap.size + 2, 0, none⟩) 8 8] 71)) ∧ g < w.heap.size := by
  have hg : g < w.heap.size := cell_lt' (hc 0 hl)
  have hb : Below w.heap.size w (((((w.alloc (.cells #[.int .u32 0, .int .u32 0, .int .u64 0, .int .u64 0, .int .u64 0, .int .u64 0, .int .u64 0] 30)).alloc (.cells #[.int .u64 0, .int .u64 0, .int .u64 0, .int .u64 0, .int .u64 0, .int .u64 0, .int .u64 0] 64)).alloc (.cells #[.int .i64 4, .int .i64 4, .int .i64 8, .int .i64 8, .int .i64 (-8), .int .i64 8, .int .i64 8, .int .i64 8] 3)).alloc (.cells #[.slice (some ⟨g, off, none⟩) len cap] 22)).alloc (.cells #[.slice (some ⟨w.heap.size + 2, 0, none⟩) 8 8] 71)) := (((((Below.refl _ w).alloc (Nat.le_refl _) _).alloc (by simp) _).alloc (by simp; omega) _).alloc (by simp; omega) _).alloc (by simp; omega) _
  obtain ⟨e0, e1, e2, e3, e4⟩ := five w (.cells #[.int .u32 0, .int .u32 0, .int .u64 0, .int .u64 0, .int .u64 0, .int .u64 0, .int .u64 0] 30) (.cells #[.int .u64 0, .int .u64 0, .int .u64 0, .int .u64 0, .int .u64 0, .int .u64 0, .int .u64 0] 64) (.cells #[.int .i64 4, .int .i64 4, .int .i64 8, .int .i64 8, .int .i64 (-8), .int .i64 8, .int .i64 8, .int .i64 8] 3) (.cells #[.slice (some ⟨g, off, none⟩) len cap] 22) (.cells #[.slice (some ⟨w.heap.size + 2, 0, none⟩) 8 8] 71)
  refine ⟨⟨⟨fun j hj => ?_, e0⟩, hb⟩, cell_at e4 rfl, ⟨cell_at e3 rfl, fun k hk => ?_, fun j hj => cell_keep (hc j hj) hb⟩, hg⟩
  · refine ⟨cell_at e1 ?_, frozen_at e1 j⟩
    match j, hj with
    | 0, _ => rfl
    | 1, _ => rfl
    | 2, _ => rfl
    | 3, _ => rfl
    | 4, _ => rfl
    | 5, _ => rfl
    | 6, _ => rfl
  · refine cell_at e2 ?_
    have hk' : k < 8 := hk
    match k, hk' with
    | 0, _ => rfl
    | 1, _ => rfl
    | 2, _ => rfl
    | 3, _ => rfl
    | 4, _ => rfl
    | 5, _ => rfl
    | 6, _ => rfl
    | 7, _ => rfl
theorem sec_world (w : World) (g off len cap : Nat) (z : Nat → Nat) (hc : ∀ j, j < len → w.cell? ⟨g, off + j, none⟩ = some (.int .u8 (z j : Nat))) (hl : 0 < len) :
    NI w 5 (w.heap.size + 1) w.heap.size #[.int .u32 0, .int .u64 0, .int .u64 0, .int .u32 0, .int .u64 0] 32 [] (((((w.alloc (.cells #[.int .u32 0, .int .u64 0, .int .u64 0, .int .u32 0, .int .u64 0] 32)).alloc (.cells #[.int .u64 0, .int .u64 0, .int .u64 0, .int .u64 0, .int .u64 0] 68)).alloc (.cells #[.int .i64 (-4), .int .i64 4, .int .i64 (-16), .int .i64 8, .int .i64 8, .int .i64 4, .int .i64 (-12), .int .i64 8] 3)).alloc (.cells #[.slice (some ⟨g, off, none⟩) len cap] 22)).alloc (.cells #[.slice (some ⟨w.heap.size + 2, 0, none⟩) 8 8] 71)) ∧ (((((w.alloc (.cells #[.int .u32 0, .int .u64 0, .int .u64 0, .int .u32 0, .int .u64 0] 32)).alloc (.cells #[.int .u64 0, .int .u64 0, .int .u64 0, .int .u64 0, .int .u64 0] 68)).alloc (.cells #[.int .i64 (-4), .int .i64 4, .int .i64 (-16), .int .i64 8, .int .i64 8, .int .i64 4, .int .i64 (-12), .int .i64 8] 3)).alloc (.cells #[.slice (some ⟨g, off, none⟩) len cap] 22)).alloc (.cells #[.slice (some ⟨w.heap.size + 2, 0, none⟩) 8 8] 71)).cell? ⟨w.heap.size + 4, 0, none⟩ = some (.slice (some ⟨w.heap.size + 2, 0, none⟩) 8 8) ∧ TV (w.heap.size + 3) (w.heap.size + 2) g off len cap secZ z (((((w.alloc (.cells #[.int .u32 0, .int .u64 0, .int .u64 0, .int .u32 0, .int .u64 0] 32)).alloc (.cells #[.int .u64 0, .int .u64 0, .int .u64 0, .int .u64 0, .int .u64 0] 68)).alloc (.cells #[.int .i64 (-4), .int .i64 4, .int .i64 (-16), .int .i64 8, .int .i64 8, .int .i64 4, .int .i64 (-12), .int .i64 8] 3)).alloc (.cells #[.slice (some ⟨g, off, none⟩) len cap] 22)).alloc (.cells #[.slice (some ⟨w.heap.size + 2, 0, none⟩) 8 8] 71)) ∧ g < w.heap.size := by
  have hg : g < w.heap.size := cell_lt' (hc 0 hl)
  have hb : Below w.heap.size w (((((w.alloc (.cells #[.int .u32 0, .int .u64 0, .int .u64 0, .int .u32 0, .int .u64 0] 32)).alloc (.cells #[.int .u64 0, .int .u64 0, .int .u64 0, .int .u64 0, .int .u64 0] 68)).alloc (.cells #[.int .i64 (-4), .int .i64 4, .int .i64 (-16), .int .i64 8, .int .i64 8, .int .i64 4, .int .i64 (-12), .int .i64 8] 3)).alloc (.cells #[.slice (some ⟨g, off, none⟩) len cap] 22)).alloc (.cells #[.slice (some ⟨w.heap.size + 2, 0, none⟩) 8 8] 71)) := (((((Below.refl _ w).alloc (Nat.le_refl _) _).alloc (by simp) _).alloc (by simp; omega) _).alloc (by simp; omega) _).alloc (by simp; omega) _
  obtain ⟨e0, e1, e2, e3, e4⟩ := five w (.cells #[.int .u32 0, .int .u64 0, .int .u64 0, .int .u32 0, .int .u64 0] 32) (.cells #[.int .u64 0, .int .u64 0, .int .u64 0, .int .u64 0, .int .u64 0] 68) (.cells #[.int .i64 (-4), .int .i64 4, .int .i64 (-16), .int .i64 8, .int .i64 8, .int .i64 4, .int .i64 (-12), .int .i64 8] 3) (.cells #[.slice (some ⟨g, off, none⟩) len cap] 22) (.cells #[.slice (some ⟨w.heap.size + 2, 0, none⟩) 8 8] 71)
  refine ⟨⟨⟨fun j hj => ?_, e0⟩, hb⟩, cell_at e4 rfl, ⟨cell_at e3 rfl, fun k hk => ?_, fun j hj => cell_keep (hc j hj) hb⟩, hg⟩
  · refine ⟨cell_at e1 ?_, frozen_at e1 j⟩
    match j, hj with
    | 0, _ => rfl
    | 1, _ => rfl
    | 2, _ => rfl
    | 3, _ => rfl
    | 4, _ => rfl
  · refine cell_at e2 ?_
    have hk' : k < 8 := hk
    match k, hk' with
    | 0, _ => rfl
    | 1, _ => rfl
    | 2, _ => rfl
    | 3, _ => rfl
    | 4, _ => rfl
    | 5, _ => rfl
    | 6, _ => rfl
    | 7, _ => rfl
end Go.Proofs.YtnaggdhophncaaaDoor
