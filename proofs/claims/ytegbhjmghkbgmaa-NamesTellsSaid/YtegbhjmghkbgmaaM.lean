/- Symbols in a row of one's own; names.Functions where there is one function at most. -/
import Derived.Test.YtegbhjmghkbgmaaL
namespace Go.Proofs.Ytegbhjmghkbgmaa
open Go.RowKit Go.Shelf
set_option linter.unusedVariables false
set_option linter.unusedSimpArgs false
attribute [local go_sem] Oper.semAt_some
def cellsY (l : List Sy) : List Value := l.flatMap Sy.cs
theorem cellsY_len (l : List Sy) : (cellsY l).length = l.length * 4 := flat_len Sy_len l
theorem ones_y (x : Sy) : ∀ u ∈ x.cs, u.oneCell' = true := by
  intro u hu
  simp [Sy.cs] at hu
  rcases hu with rfl | rfl | rfl | rfl <;> rfl
theorem info42f : (Try.prog.info? 42).map (fun i => (i.zero, i.size, i.bytes)) = some (some (.agg #[.string ⟨#[]⟩, .int .u64 0, .int .u64 0, .bool false]), 4, 40) := by kernel_rfl
/-- Symbols so far, in a row of one's own. -/
def SY (w : World) (pre : List Sy) (v : Value) (W : World) : Prop := W.ownsRow w.heap.size 42 4 v pre.length (cellsY pre) ∧ Below w.heap.size w W
theorem SY.keep {w W W' : World} {L : List Sy} {v : Value} (h : SY w L v W) (hb : Below W.heap.size W W') : SY w L v W' := by
  refine ⟨⟨h.1.1, ?_⟩, h.2.trans (hb.mono h.2.size)⟩
  rcases h.1.2 with ⟨hv, hn⟩ | ⟨g, cap, cur, hv, hg, hh, h2⟩
  · exact .inl ⟨hv, hn⟩
  · exact .inr ⟨g, cap, cur, hv, hg, (hb.block g (Array.getElem?_eq_some_iff.1 hh).1).trans hh, h2⟩
theorem SY.alloc {w W : World} {pre : List Sy} {v : Value} (h : SY w pre v W) (o : Obj) : SY w pre v (W.alloc o) := h.keep ((Below.refl _ _).alloc (Nat.le_refl _) o)
theorem SY.nil (w W : World) (hb : Below w.heap.size w W) : SY w [] (.slice none 0 0) W := ⟨World.ownsRow_nil _ _ _ _, hb⟩
theorem SY.next {w W W1 : World} {pre : List Sy} {x : Sy} {v v' : Value} {o : Obj} (h : SY w pre v W) (ho : W1.ownsRow w.heap.size 42 4 v' (pre.length + 1) (cellsY pre ++ x.cs)) (hg : (W.alloc o).grownBy W1 v.ownBlock) : SY w (pre ++ [x]) v' W1 := by
  have h' := h.alloc o
  refine ⟨by rw [List.length_append, show cellsY (pre ++ [x]) = cellsY pre ++ x.cs by simp [cellsY]]; exact ho, ?_⟩
  exact h'.2.grown hg h'.2.size (fun q e => by
    rcases h'.1.2 with ⟨h, _⟩ | ⟨g', cap', cur, h, hle, _⟩
    · rw [h] at e; cases e
    · rw [h] at e; cases e; exact hle)
theorem cells_newY (W : World) (x : ByteArray) (y z : Nat) (f : Bool) (j : Nat) (u : Value) (hu : (Sy.cs (x, y, z, f))[j]? = some u) : (W.alloc (.cells #[.string x, .int .u64 (y : Nat), .int .u64 (z : Nat), .bool f] 42)).cell? ((⟨W.heap.size, 0, none⟩ : Addr).add j) = some u := by
  have h : YB (W.alloc (.cells #[.string x, .int .u64 (y : Nat), .int .u64 (z : Nat), .bool f] 42)) W.heap.size (x, y, z, f) := heap_alloc_last W _
  rw [Addr.add_lit, Nat.zero_add]
  exact cell_at h (by simpa using hu)
def isF (s : Sy) : Bool := s.2.2.2
set_option maxRecDepth 100000 in
set_option maxHeartbeats 4000000 in
theorem funcs_one (a : Option Addr) (p : Nat) (l : List Sy) (hn : l.length ≤ 1000000) (h1 : (l.filter isF).length ≤ 1) (w : World) (h : RX w a (l.flatMap Sy.cs)) : Calls Try.prog 16 #[.slice a l.length p] w fun e W' => ∃ v, e = .returned v ∧ SY w (l.filter isF) v W' := by
  obtain ⟨i0, hi, hz0, hz1, hz2⟩ := info_parts info42f
  have HI0 := Lib.hid (And.intro hi (And.intro hz0 (And.intro hz1 hz2)))
  clear hi hz0 hz1 hz2
  have HX := Lib.hid (fun W (hb : Below w.heap.size w W) => h.keep hb)
  have HS0 := Lib.hid (SY.nil w w (Below.refl _ _))
  have HC1 := Lib.hid h1
  obtain ⟨n, hn1⟩ : ∃ n, l.length = n := ⟨_, rfl⟩
  rw [hn1] at hn ⊢
  have HL := Lib.hid hn1
  clear h hn1 h1
  go_enter Try.func16, Try.ntmps16
  go_wp2_with fail
  go_loopw [3, 8] (fun v i W => ∃ k : Nat, k ≤ n ∧ i = .int .i64 k ∧ Hid (SY w ((l.take k).filter isF) v W)) (fun _ i _ => n - (intOf i).toNat)
  case atStart => exact ⟨0, by omega, rfl, HS0⟩
  case round =>
    clear HS0
    obtain ⟨k, hk, rfl, HS⟩ := hrel
    by_cases hlt : k < n
    · obtain ⟨s, hs⟩ : ∃ s, l[k]? = some s := ⟨l[k]'(by have := HL.out; omega), List.getElem?_eq_getElem _⟩
      have HK1 := Lib.hid hs
      have HT : Hid ((l.take (k + 1)).filter isF = (l.take k).filter isF ++ (if isF s then [s] else [])) := Lib.hid (by
        rw [List.take_add_one, hs, List.filter_append]
        cases hf : isF s <;> simp [hf])
      clear hs
      have hlen : ((l.take k).filter isF).length ≤ n := by
        have e1 := List.length_filter_le isF (l.take k)
        have e2 : (l.take k).length ≤ k := by rw [List.length_take]; omega
        omega
      generalize (l.take k).filter isF = pre at *
      obtain ⟨x1, o1, ha1, f0, f1, f2, f3⟩ := Sy_at (HX.out wr HS.out.2) HK1.out
      subst ha1
      obtain ⟨x, y, z, fn⟩ := s
      dsimp only at f0 f1 f2 f3
      have HN : Hid (YB (wr.alloc (.cells #[.string x, .int .u64 (y : Nat), .int .u64 (z : Nat), .bool fn] 42)) wr.heap.size (x, y, z, fn) ∧ SY w pre u3 (wr.alloc (.cells #[.string x, .int .u64 (y : Nat), .int .u64 (z : Nat), .bool fn] 42))) := Lib.hid ⟨heap_alloc_last wr _, HS.out.alloc _⟩
      go_upto_region 5 with fail
      generalize World.alloc wr _ = W2 at HN ⊢
      clear f0 f1 f2 f3 HS
      generalize wr.heap.size = b2 at HN ⊢
      obtain ⟨c0, c1, c2, c3⟩ := HN.out.1.c
      dsimp only at c0 c1 c2 c3
      cases fn
      · have HT2 : Hid (List.filter isF (List.take (k + 1) l) = pre) := Lib.hid (by rw [HT.out]; simp [isF])
        go_wp2_with fail
        go_roundw
        case rel => exact ⟨k + 1, by omega, by go_num, by rw [HT2.out]; exact Lib.hid HN.out.2⟩
        case measure => simp [intOf]; omega
      · have HT2 : Hid (List.filter isF (List.take (k + 1) l) = pre ++ [(x, y, z, true)]) := Lib.hid (by rw [HT.out]; simp [isF])
        go_wp2_with (first | (at_builtin; refine wpList_append_own _ rfl _ _ 36 rfl w.heap.size 42 i0 (.agg #[.string ⟨#[]⟩, .int .u64 0, .int .u64 0, .bool false]) 4 40 Try.underlying36 HI0.out.1 HI0.out.2.1 HI0.out.2.2.1 HI0.out.2.2.2 rfl (by decide) _ pre.length (cellsY pre) rfl (HN.out.2.1 |> fun h => (SY.alloc HN.out.2 _).1) ⟨_, 0, none⟩ 1 1 (Sy.cs (x, y, z, true)) rfl rfl (cells_newY _ x y z true) (ones_y _) (by unfold maxLen; omega) (by omega) (by have := HN.out.2.2.size; simp; omega) ?_) | fail)
        intro v5 W5 hown hgr _
        have HS5 := Lib.hid (SY.next (x := (x, y, z, true)) HN.out.2 hown hgr)
        clear hown hgr c0 c1 c2 c3
        go_wp2_with fail
        go_roundw
        case rel => exact ⟨k + 1, by omega, by go_num, by rw [HT2.out]; exact HS5⟩
        case measure => simp [intOf]; omega
    · obtain rfl : n = k := by omega
      have he : (l.take n).filter isF = l.filter isF := by rw [← HL.out, List.take_length]
      rw [he] at HS
      clear he
      obtain ⟨fs, hfs⟩ : ∃ fs, l.filter isF = fs := ⟨_, rfl⟩
      rw [hfs] at HS HC1
      have HFS := Lib.hid hfs
      clear hfs
      obtain ⟨a3, c3, rfl⟩ := owns_slice HS.out.1
      have HQ := Lib.hid (sort_one a3 fs.length c3 HC1.out (.func (.func 31) #[] #[]))
      go_wp2_with (first | (go_at_call 30; refine (HQ.out _).mono ?_) | fail)
      rintro e W3 ⟨rfl, rfl⟩
      go_wp2_with fail
      go_ret
      exact ⟨_, rfl, by rw [HFS.out]; exact HS.out⟩
end Go.Proofs.Ytegbhjmghkbgmaa
