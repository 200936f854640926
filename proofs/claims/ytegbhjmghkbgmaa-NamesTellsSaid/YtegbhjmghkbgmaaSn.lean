/- slices.SortStableFunc, and names.Functions for however many. -/
import Derived.Test.YtegbhjmghkbgmaaM
import Derived.Test.YtegbhjmghkbgmaaSm
namespace Go.Proofs.Ytegbhjmghkbgmaa
open Go.RowKit Go.Shelf
set_option linter.unusedVariables false
set_option linter.unusedSimpArgs false
attribute [local go_sem] Oper.semAt_some
set_option maxRecDepth 100000 in
set_option maxHeartbeats 4000000 in
theorem sort_blk (g cap : Nat) (L : List Sy) (R : List Value) (hN : L.length ≤ 100000) (w : World) (h : QY w g L R) :
    Calls Try.prog 30 #[.slice (some ⟨g, 0, none⟩) L.length cap, .func (.func 31) #[] #[]] w fun e W' => e = .returned (.tuple #[]) ∧ ∃ L', (Up L' ∧ SameK L L') ∧ QY W' g L' R ∧ w.grownBy W' (some g) := by
  have HI := Lib.hid (stable_any g cap L R hN w h)
  obtain ⟨n, hn⟩ : ∃ n, L.length = n := ⟨_, rfl⟩
  rw [hn] at hN HI ⊢
  clear hn h
  go_enter Try.func30, Try.ntmps30
  go_wp2_with (first | (go_at_call 39; refine HI.out.mono ?_) | fail)
  first | (rintro e W2 rfl L2 q1 q0 q2 q3; have HF := Lib.hid (And.intro (And.intro q1 q0) (And.intro q2 q3)); clear q1 q0 q2 q3) | (rintro e W2 ⟨rfl, L2, q1, q2, q3⟩; have HF := Lib.hid (And.intro q1 (And.intro q2 q3)); clear q1 q2 q3)
  go_wp2_with fail
  go_end0
  exact ⟨rfl, L2, HF.out⟩
theorem sort_any (l : List Sy) (hN : l.length ≤ 100000) (a : Option Addr) (c : Nat) (w W : World) (h : SY w l (.slice a l.length c) W) :
    Calls Try.prog 30 #[.slice a l.length c, .func (.func 31) #[] #[]] W fun e W' => e = .returned (.tuple #[]) ∧ ∃ L', (Up L' ∧ SameK l L') ∧ SY w L' (.slice a l.length c) W' := by
  rcases h.1.2 with ⟨hv, hn⟩ | ⟨g, cap, cur, hv, hg, hh, h2, h3, h4, h5⟩
  · have e : l = [] := List.eq_nil_of_length_eq_zero hn
    subst e
    refine (sort_one a 0 c (by decide) _ W).mono ?_
    rintro e W' ⟨rfl, rfl⟩
    exact ⟨rfl, [], ⟨List.Pairwise.nil, SameK.refl _⟩, h⟩
  · cases hv
    have hq : QY W g l (cur.toList.drop (l.length * 4)) := by
      unfold QY
      rw [← h5, List.take_append_drop, Array.toArray_toList]
      exact hh
    refine (sort_blk g c l _ hN W hq).mono ?_
    rintro e W' ⟨rfl, L', q1, q2, q3⟩
    have hl : L'.length = l.length := q1.2.len
    refine ⟨rfl, L', q1, ⟨by rw [cellsY_len], .inr ⟨g, c, _, by rw [hl], hg, q2, by rw [hl]; exact h2, h3, ?_, ?_⟩⟩, ?_⟩
    · simp only [List.size_toArray, List.length_append, cellsY_len, List.length_drop, Array.length_toList, hl]
      have : l.length * 4 ≤ c * 4 := by omega
      omega
    · rw [← cellsY_len L', List.take_left]
    · exact h.2.grown q3 h.2.size (fun k e => by cases e; exact hg)
set_option maxRecDepth 100000 in
set_option maxHeartbeats 4000000 in
theorem funcs_any (a : Option Addr) (p : Nat) (l : List Sy) (hn : l.length ≤ 100000) (w : World) (h : RX w a (l.flatMap Sy.cs)) : Calls Try.prog 16 #[.slice a l.length p] w fun e W' => ∃ v, e = .returned v ∧ ∃ L', (Up L' ∧ SameK (l.filter isF) L') ∧ SY w L' v W' := by
  obtain ⟨i0, hi, hz0, hz1, hz2⟩ := info_parts info42f
  have HI0 := Lib.hid (And.intro hi (And.intro hz0 (And.intro hz1 hz2)))
  clear hi hz0 hz1 hz2
  have HX := Lib.hid (fun W (hb : Below w.heap.size w W) => h.keep hb)
  have HS0 := Lib.hid (SY.nil w w (Below.refl _ _))
  obtain ⟨n, hn1⟩ : ∃ n, l.length = n := ⟨_, rfl⟩
  rw [hn1] at hn ⊢
  have HL := Lib.hid hn1
  clear h hn1
  go_enter Try.func16, Try.ntmps16
  go_wp2_with fail
  go_loopw [3, 8] (fun v i W => ∃ k : Nat, k ≤ n ∧ i = .int .i64 k ∧ Hid (SY w ((l.take k).filter isF) v W)) (fun _ i _ => n - (intOf i).toNat)
  case atStart => exact ⟨0, by omega, rfl, HS0⟩
  case round =>
    clear HS0
    obtain ⟨k, hk, rfl, HS⟩ := hrel
    by_cases hlt : k < n
    · obtain ⟨s, hs⟩ : ∃ s, l[k]? = some s := ⟨l[k]'(by have := HL.out; omega), List.getElem?_eq_getElem _⟩
      have HK1 := Lib.hid hs
      have HT : Hid ((l.take (k + 1)).filter isF = (l.take k).filter isF ++ (if isF s then [s] else [])) := Lib.hid (by
        rw [List.take_add_one, hs, List.filter_append]
        cases hf : isF s <;> simp [hf])
      clear hs
      have hlen : ((l.take k).filter isF).length ≤ n := by
        have e1 := List.length_filter_le isF (l.take k)
        have e2 : (l.take k).length ≤ k := by rw [List.length_take]; omega
        omega
      generalize (l.take k).filter isF = pre at *
      obtain ⟨x1, o1, ha1, f0, f1, f2, f3⟩ := Sy_at (HX.out wr HS.out.2) HK1.out
      subst ha1
      obtain ⟨x, y, z, fn⟩ := s
      dsimp only at f0 f1 f2 f3
      have HN : Hid (YB (wr.alloc (.cells #[.string x, .int .u64 (y : Nat), .int .u64 (z : Nat), .bool fn] 42)) wr.heap.size (x, y, z, fn) ∧ SY w pre u3 (wr.alloc (.cells #[.string x, .int .u64 (y : Nat), .int .u64 (z : Nat), .bool fn] 42))) := Lib.hid ⟨heap_alloc_last wr _, HS.out.alloc _⟩
      go_upto_region 5 with fail
      generalize World.alloc wr _ = W2 at HN ⊢
      clear f0 f1 f2 f3 HS
      generalize wr.heap.size = b2 at HN ⊢
      obtain ⟨c0, c1, c2, c3⟩ := HN.out.1.c
      dsimp only at c0 c1 c2 c3
      cases fn
      · have HT2 : Hid (List.filter isF (List.take (k + 1) l) = pre) := Lib.hid (by rw [HT.out]; simp [isF])
        go_wp2_with fail
        go_roundw
        case rel => exact ⟨k + 1, by omega, by go_num, by rw [HT2.out]; exact Lib.hid HN.out.2⟩
        case measure => simp [intOf]; omega
      · have HT2 : Hid (List.filter isF (List.take (k + 1) l) = pre ++ [(x, y, z, true)]) := Lib.hid (by rw [HT.out]; simp [isF])
        go_wp2_with (first | (at_builtin; refine wpList_append_own _ rfl _ _ 36 rfl w.heap.size 42 i0 (.agg #[.string ⟨#[]⟩, .int .u64 0, .int .u64 0, .bool false]) 4 40 Try.underlying36 HI0.out.1 HI0.out.2.1 HI0.out.2.2.1 HI0.out.2.2.2 rfl (by decide) _ pre.length (cellsY pre) rfl (HN.out.2.1 |> fun h => (SY.alloc HN.out.2 _).1) ⟨_, 0, none⟩ 1 1 (Sy.cs (x, y, z, true)) rfl rfl (cells_newY _ x y z true) (ones_y _) (by unfold maxLen; omega) (by omega) (by have := HN.out.2.2.size; simp; omega) ?_) | fail)
        intro v5 W5 hown hgr _
        have HS5 := Lib.hid (SY.next (x := (x, y, z, true)) HN.out.2 hown hgr)
        clear hown hgr c0 c1 c2 c3
        go_wp2_with fail
        go_roundw
        case rel => exact ⟨k + 1, by omega, by go_num, by rw [HT2.out]; exact HS5⟩
        case measure => simp [intOf]; omega
    · obtain rfl : n = k := by omega
      have he : (l.take n).filter isF = l.filter isF := by rw [← HL.out, List.take_length]
      rw [he] at HS
      clear he
      obtain ⟨fs, hfs⟩ : ∃ fs, l.filter isF = fs := ⟨_, rfl⟩
      rw [hfs] at HS
      have hfl : fs.length ≤ 100000 := by
        rw [← hfs]
        have := List.length_filter_le isF l
        have := HL.out
        omega
      have HFS := Lib.hid hfs
      clear hfs
      obtain ⟨a3, c3, rfl⟩ := owns_slice HS.out.1
      have HQ := Lib.hid (sort_any fs hfl a3 c3 w wr HS.out)
      clear HS hfl
      go_wp2_with (first | (go_at_call 30; refine HQ.out.mono ?_) | fail)
      first | (rintro e W3 rfl L3 q1 q0 q2; have HF := Lib.hid (And.intro (And.intro q1 q0) q2); clear q1 q0 q2) | (rintro e W3 ⟨rfl, L3, q1, q2⟩; have HF := Lib.hid (And.intro q1 q2); clear q1 q2)
      go_wp2_with fail
      go_ret
      exact ⟨_, rfl, L3, by rw [HFS.out]; exact HF.out.1, HF.out.2⟩
end Go.Proofs.Ytegbhjmghkbgmaa
