/- made: what it keeps. -/
import Derived.Test.YtegbhjmghkbgmaaJ
import Derived.Lib.AppendStr
import Derived.Maps.AppendAt
namespace Go.Proofs.Ytegbhjmghkbgmaa
open Go.RowKit Go.Shelf
set_option linter.unusedVariables false
set_option linter.unusedSimpArgs false
attribute [local go_sem] Oper.semAt_some
theorem info31 : (Try.prog.info? 31).map (·.size) = some 5 := by kernel_rfl
theorem load31_run {W : World} {b : Nat} {c : Array Value} (h : W.heap[b]? = some (.cells c 31 (0, 0))) (hs : c.size = 5) : (loadVar 31 ⟨b, 0, none⟩).run Try.prog W = .ok (.agg c) W :=
  run_loadVar_row _ _ 31 31 c (0, 0) _ h Try.underlying31 rfl (by rw [hs]; exact info31)
theorem store31_run {W : World} {b : Nat} {c u : Array Value} (h : W.heap[b]? = some (.cells u 31 (0, 0))) (hu : u.size = 5) (hs : c.size = 5) (ho : c.all (·.oneCell') = true) : (storeVar 31 ⟨b, 0, none⟩ (.agg c)).run Try.prog W = .ok () (W.setRow b c) :=
  run_storeVar_row _ _ 31 31 u c h (by rw [hs]; exact info31) (by rw [hu, hs]) ho
theorem wpList_store31 {ops : Array Oper} {Q : Exit → Act → World → Prop} {o : Oper} {rest : List Oper} {a : Act} {W : World} {x y : Operand} {b : Nat} {u c : Array Value}
    (ho : o.op = .store 31 x y) (hg : o.guard = none) (hx : a.eval x = .pointer (some ⟨b, 0, none⟩)) (hy : a.eval y = .agg c) (h : W.heap[b]? = some (.cells u 31 (0, 0))) (hu : u.size = 5) (hs : c.size = 5) (h1 : c.all (·.oneCell') = true)
    (hn : wpList Try.prog ops Q rest (a.put o.dst undef) (W.setRow b c)) : wpList Try.prog ops Q (o :: rest) a W := by
  refine wpList_plain hg fun K hK => ?_
  have e : (execOp a.eval o).run Try.prog W = .ok .skip (W.setRow b c) := by
    unfold execOp
    rw [ho]
    simp only [hx, hy, Instr.storeAt, Instr.sureAddr, Sem.run_bind, Sem.run_pure, Result.andThen, store31_run h hu hs h1]
  unfold Oper.wp
  rw [e, Oper.upon_skip]
  exact hK _ _ hn
def hzv : Array Value := #[.int .u64 0, .int .u64 0, .int .u64 0, .slice none 0 0, .slice none 0 0]
theorem res9 {W : World} {b : Nat} {c : Array Value} {r : Value} {tm : Array Value} (hp : tm.getD 5 undef = .pointer (some ⟨b, 0, none⟩)) (hr : tm.getD 4 undef = r) (h : W.heap[b]? = some (.cells c 31 (0, 0))) (hs : c.size = 5) : (results Try.f9 tm).run Try.prog W = .ok (.tuple #[r, .agg c]) W := by
  have hp2 : tm[5]?.getD undef = .pointer (some ⟨b, 0, none⟩) := by simpa using hp
  have hr2 : tm[4]?.getD undef = r := by simpa using hr
  simp [results, Try.f9, hp2, hr2, asAddr, load31_run h hs, Result.andThen]
/-! Bytes in a list -/
def cellsN (ys : List Nat) : List Value := ys.map fun b => Value.int .u8 (b : Nat)
theorem cellsN_len (ys : List Nat) : (cellsN ys).length = ys.length := by simp [cellsN]
theorem cellsN_app (ys zs : List Nat) : cellsN (ys ++ zs) = cellsN ys ++ cellsN zs := by simp [cellsN]
theorem cellsN_at {ys : List Nat} {j : Nat} (h : j < ys.length) : (cellsN ys)[j]? = some (.int .u8 (ys.getD j 0 : Nat)) := by simp [cellsN, h]
theorem cellsN_one (ys : List Nat) : ∀ u ∈ cellsN ys, u.oneCell' = true := fun u hu => by
  obtain ⟨b, _, rfl⟩ := List.mem_map.1 hu
  rfl
theorem rowB_N (f : Nat → Nat) (n : Nat) : rowB f n = cellsN ((List.range n).map f) := by simp [rowB, upto, cellsN]
def nameL (b : ByteArray) : List Nat := b.data.toList.map (·.toNat)
theorem nameL_len (b : ByteArray) : (nameL b).length = b.size := by
  unfold nameL
  rw [List.length_map, Array.length_toList]
  rfl
theorem strCells_N (b : ByteArray) : Lib.strCells b = cellsN (nameL b) := by
  unfold Lib.strCells cellsN nameL
  rw [List.map_map]
  rfl
/-- The bytes of the strings of some entries. -/
def strL (l : List En) : List Nat := 0 :: l.flatMap fun s => nameL s.1 ++ [0]
theorem strL_snoc (l : List En) (s : En) : strL (l ++ [s]) = strL l ++ nameL s.1 ++ [0] := by simp [strL]
theorem strL_snoc_len (l : List En) (s : En) : (strL (l ++ [s])).length = (strL l).length + s.1.size + 1 := by
  rw [strL_snoc, List.length_append, List.length_append, nameL_len]
  rfl
theorem strL_len {l : List En} (h : ∀ x, x ∈ l → x.1.size ≤ 60) : (strL l).length ≤ 1 + l.length * 61 := by
  induction l with
  | nil => simp [strL]
  | cons s l ih =>
    have h1 := h s (List.mem_cons_self ..)
    have h2 := ih (fun x hx => h x (List.mem_cons_of_mem _ hx))
    have e : (strL (s :: l)).length = (strL l).length + (s.1.size + 1) := by
      simp [strL, nameL_len]
      omega
    rw [e, List.length_cons]
    omega
/-- A table's bytes, with an entry put at a place. -/
def entF (f : Nat → Nat) (o so : Nat) (s : En) : Nat → Nat := putF (putF (putF (putF (putF f o 4 so) (o + 4) 1 s.2.1) (o + 6) 2 s.2.2.1) (o + 8) 8 s.2.2.2.1) (o + 16) 8 s.2.2.2.2
def tabF (l : List En) : Nat → Nat → Nat
  | 0 => fun _ => 0
  | k + 1 => match l[k]? with
    | some s => entF (tabF l k) (24 * (k + 1)) (strL (l.take k)).length s
    | none => tabF l k
theorem tabF_succ {l : List En} {k : Nat} {s : En} (h : l[k]? = some s) : tabF l (k + 1) = entF (tabF l k) (24 * (k + 1)) (strL (l.take k)).length s := by
  show (match l[k]? with | some s => _ | none => _) = _
  rw [h]
def En.ok (s : En) : Prop := s.2.1 < 256 ∧ s.2.2.1 < 65536 ∧ U s.2.2.2.1 ∧ U s.2.2.2.2
/-! A table and a row of one's own, apart -/
structure MS (w : World) (gt m : Nat) (f : Nat → Nat) (v : Value) (xs : List Nat) (W : World) : Prop where
  tab : BR W gt m f
  str : W.ownsRow w.heap.size 5 1 v xs.length (cellsN xs)
  ne : v.ownBlock ≠ some gt
  b : Below w.heap.size w W
  gt : w.heap.size ≤ gt
theorem MS.keep {w W W' : World} {gt m : Nat} {f : Nat → Nat} {v : Value} {xs : List Nat} (h : MS w gt m f v xs W) (hb : Below W.heap.size W W') : MS w gt m f v xs W' :=
  ⟨h.tab.keep hb, h.str.kept (grown_below' hb none) (by
    cases hv : v.ownBlock with
    | none => exact .inl rfl
    | some q => exact .inr (by simp)), h.ne, h.b.trans (hb.mono h.b.size), h.gt⟩
theorem MS.alloc {w W : World} {gt m : Nat} {f : Nat → Nat} {v : Value} {xs : List Nat} (h : MS w gt m f v xs W) (o : Obj) : MS w gt m f v xs (W.alloc o) := h.keep ((Below.refl _ _).alloc (Nat.le_refl _) o)
theorem MS.put {w W W' : World} {gt m : Nat} {f f' : Nat → Nat} {v : Value} {xs : List Nat} (h : MS w gt m f v xs W) (ht : BR W' gt m f') (hg : W.grownBy W' (some gt)) : MS w gt m f' v xs W' :=
  ⟨ht, h.str.kept hg (.inr (fun e => h.ne e)), h.ne, h.b.grown hg h.b.size (fun q e => by cases e; exact h.gt), h.gt⟩
theorem MS.app {w W W' : World} {gt m : Nat} {f : Nat → Nat} {v v' : Value} {xs xs' : List Nat} (h : MS w gt m f v xs W) (hown : W'.ownsRow w.heap.size 5 1 v' xs'.length (cellsN xs')) (hg : W.grownBy W' v.ownBlock) (hat : v'.ownBlock = v.ownBlock ∨ v'.ownBlock = some W.heap.size) : MS w gt m f v' xs' W' := by
  have hlt : gt < W.heap.size := (Array.getElem?_eq_some_iff.1 h.tab).1
  refine ⟨(hg.block gt hlt (fun e => h.ne e.symm)).trans h.tab, hown, ?_, h.b.grown hg h.b.size (fun q e => owns_block h.str q e), h.gt⟩
  rcases hat with e | e
  · rw [e]; exact h.ne
  · rw [e]
    intro h2
    cases h2
    omega
theorem BR.set1 {W : World} {g m : Nat} {f : Nat → Nat} (h : BR W g m f) (o x : Nat) (ho : o < m) (hx : x < 256) : BR (W.setCell ⟨g, o, none⟩ (.int .u8 (x : Nat))) g m (putF f o 1 x) ∧ W.grownBy (W.setCell ⟨g, o, none⟩ (.int .u8 (x : Nat))) (some g) := by
  refine ⟨?_, grown_set h⟩
  unfold BR
  rw [setCell_eq_setRow W g o _ _ (0, 0) _ h, setRow_heap W g _ _ 5 (0, 0) h]
  congr 2
  apply Array.ext'
  apply List.ext_getElem?
  intro j
  by_cases hj : j < m
  · rw [rowB_at _ _ _ hj]
    by_cases e : j = o
    · subst e
      unfold putF
      rw [if_pos (by omega)]
      have e0 : byN x (j - j) = x := by unfold byN; rw [Nat.sub_self]; omega
      rw [e0]
      simp [rowB_len, hj]
    · unfold putF
      rw [if_neg (by omega)]
      simp [rowB_len, Ne.symm e, rowB_at _ _ _ hj]
  · have hj' : m ≤ j := by omega
    simp [rowB_len, hj']
theorem BR.fro {W : World} {g m : Nat} {f : Nat → Nat} (h : BR W g m f) (o : Nat) : W.frozen? ⟨g, o, none⟩ = false := frozen_at h o
theorem MS.set1 {w W : World} {gt m : Nat} {f : Nat → Nat} {v : Value} {xs : List Nat} (h : MS w gt m f v xs W) (o x : Nat) (ho : o < m) (hx : x < 256) : MS w gt m (putF f o 1 x) v xs (W.setCell ⟨gt, o, none⟩ (.int .u8 (x : Nat))) := h.put (h.tab.set1 o x ho hx).1 (h.tab.set1 o x ho hx).2
/-- append of a string's bytes, with where the new row lies. -/
theorem app_str_at (ty : TypeId) (base n : Nat) (v : Value) (xs : List Value) (W : World) (hown : W.ownsRow base 5 1 v n xs) (s : ByteArray) (hn : n + s.size ≤ 1000000) (hb0 : base ≤ W.heap.size) (hv : 0 < n) :
    ∃ v' W', (Builtin.append_ #[27, 9] ty #[v, .string s]).run Try.prog W = .ok v' W' ∧ W'.ownsRow base 5 1 v' (n + s.size) (xs ++ Lib.strCells s) ∧ W.grownBy W' v.ownBlock ∧ (v'.ownBlock = v.ownBlock ∨ v'.ownBlock = some W.heap.size) := by
  obtain ⟨i, hi, hz, hs, hb⟩ := info_parts info5
  obtain ⟨v', W', hr, h1, h2, _⟩ := Lib.run_append_own_string (P := Try.prog) W base 27 9 ty 5 i Try.underlying27 Try.underlying9 hi hz hs hb v n xs hown s (by unfold maxLen; omega) (by omega) hb0
  refine ⟨v', W', hr, h1, h2, ?_⟩
  have hxl : xs.length = n := by simpa using hown.1
  rcases hown.2 with ⟨rfl, h0⟩ | ⟨g, cap, cur, rfl, hbg, hg, hnc, hcm, hcs, htake⟩
  · omega
  · by_cases hroom : n + s.size ≤ cap
    · have hcs' : cur.size = cap := by simpa using hcs
      have hr2 := Lib.run_append_room_string (P := Try.prog) W 27 9 ty 5 i Try.underlying27 Try.underlying9 hi hs g n cap cur hg s hroom (by omega)
      rw [hr] at hr2
      cases hr2
      exact .inl rfl
    · have holds : ∀ j u, xs[j]? = some u → W.cell? ((⟨g, 0, none⟩ : Addr).add j) = some u := hown.cells (g := g) rfl
      have hr2 := Lib.run_append_grow_string (P := Try.prog) W 27 9 ty 5 i (.int .u8 0) Try.underlying27 Try.underlying9 hi hz ⟨g, 0, none⟩ n cap xs (by rw [hs]; simpa using hxl) holds s (by omega) (by omega) (by rw [hb]; exact growslice_fits (by omega) (by omega))
      rw [hr] at hr2
      cases hr2
      exact .inr rfl
theorem wpList_appstr {ops : Array Oper} {Q : Exit → Act → World → Prop} {o : Oper} {rest : List Oper} {a : Act} {W : World} {x y : Operand} {v : Value} {base n : Nat} {xs : List Value} {s : ByteArray}
    (ho : o.op = .call { callee := .builtin .append, args := #[x, y], argTypes := #[27, 9] }) (hg : o.guard = none) (hx : a.eval x = v) (hy : a.eval y = .string s) (h : W.ownsRow base 5 1 v n xs) (hn : n + s.size ≤ 1000000) (hb0 : base ≤ W.heap.size) (hv : 0 < n)
    (hk : ∀ v' W', W'.ownsRow base 5 1 v' (n + s.size) (xs ++ Lib.strCells s) → W.grownBy W' v.ownBlock → (v'.ownBlock = v.ownBlock ∨ v'.ownBlock = some W.heap.size) → wpList Try.prog ops Q rest (a.put o.dst v') W') : wpList Try.prog ops Q (o :: rest) a W := by
  refine wpList_plain hg fun K hK => ?_
  obtain ⟨v', W', hr, h1, h2, h3⟩ := app_str_at o.type base n v xs W h s hn hb0 hv
  unfold Oper.wp execOp
  simp only [ho, resolve, invoke, builtin, Sem.run_bind, Sem.run_pure, Result.andThen_ok, List.map_toArray, List.map_cons, List.map_nil, hx, hy, hr]
  exact hK _ _ (hk v' W' h1 h2 h3)
end Go.Proofs.Ytegbhjmghkbgmaa
