/- made: its walk. -/
import Derived.Test.YtegbhjmghkbgmaaMb
namespace Go.Proofs.Ytegbhjmghkbgmaa
open Go.RowKit Go.Shelf
set_option linter.unusedVariables false
set_option linter.unusedSimpArgs false
attribute [local go_sem] Oper.semAt_some
theorem own_made (n : Nat) (hn : n ≤ 100000) (W : World) : (W.alloc (.cells (madeCells #[.int .u8 0] n) 5)).ownsRow W.heap.size 5 1 (.slice (some ⟨W.heap.size, 0, none⟩) n n) (List.replicate n 0).length (cellsN (List.replicate n 0)) := by
  rw [List.length_replicate]
  refine ⟨by simp [cellsN], .inr ⟨_, _, _, rfl, Nat.le_refl _, heap_alloc_last W _, Nat.le_refl _, by unfold maxLen; omega, by rw [made_row]; simp [rowB_len], ?_⟩⟩
  rw [made_row, rowB_N]
  simp [cellsN]
  apply List.ext_getElem?
  intro j
  by_cases hj : j < n <;> simp [hj]
def madeL (ahead : Nat) (l : List En) : List Nat := List.replicate ahead 0 ++ (List.range (24 * (l.length + 1))).map (tabF l l.length) ++ strL l
def madeZ (ahead : Nat) (l : List En) : Nat → Nat := fun j => (madeL ahead l).getD j 0
def secsM (ahead : Nat) (l : List En) : List Sc := [(0, 0, 0, 0, 0), (2, ahead, 24 * (l.length + 1), 2, 24), (3, ahead + 24 * (l.length + 1), (strL l).length, 0, 0)]
def madeN (ahead : Nat) (l : List En) : Nat := ahead + 24 * (l.length + 1) + (strL l).length
theorem madeL_len (ahead : Nat) (l : List En) : (madeL ahead l).length = madeN ahead l := by
  simp [madeL, madeN]
  omega
theorem bz_of_own {W : World} {base : Nat} {a : Option Addr} {n c : Nat} {xs : List Nat} (h : W.ownsRow base 5 1 (.slice a n c) xs.length (cellsN xs)) : n = xs.length ∧ BZ W a n c (fun j => xs.getD j 0) := by
  rcases h.2 with ⟨e, h0⟩ | ⟨g, cap, cur, e, hg, hh, h1, h2, h3, h4⟩
  · cases e
    exact ⟨h0.symm, .inl ⟨rfl, rfl, rfl⟩, Nat.le_refl _, by decide⟩
  · cases e
    refine ⟨rfl, .inr ⟨g, 0, rfl, fun j hj => ?_⟩, h1, by simpa [maxLen] using h2⟩
    have := h.cells (g := g) rfl j _ (cellsN_at hj)
    rw [Addr.add_lit] at this
    exact this
theorem owns_some {W : World} {base : Nat} {ty : TypeId} {sz : Nat} {v : Value} {k : Nat} {L : List Value} (h : W.ownsRow base ty sz v k L) (hk : 0 < k) : ∃ g c, v = .slice (some ⟨g, 0, none⟩) k c := by
  rcases h.2 with ⟨rfl, rfl⟩ | ⟨g, cap, cur, rfl, hg, _⟩
  · omega
  · exact ⟨_, _, rfl⟩
theorem BR.news {W : World} {g n : Nat} {f : Nat → Nat} (h : BR W g n f) : ∀ j u, (rowB f n)[j]? = some u → W.cell? ((⟨g, 0, none⟩ : Addr).add j) = some u := fun j u hu => by
  rw [Addr.add_lit, Nat.zero_add]
  exact cell_at h (by simpa using hu)
theorem rowB_one (f : Nat → Nat) (n : Nat) : ∀ u ∈ rowB f n, u.oneCell' = true := by
  rw [rowB_N]
  exact cellsN_one _
def MadeOf (ahead : Nat) (l : List En) (w : World) (e : Ending) (W' : World) : Prop := ∃ ab cb a p, e = .returned (.tuple #[.slice ab (madeN ahead l) cb, .agg #[.int .u64 0, .int .u64 0, .int .u64 0, .slice none 0 0, .slice a 3 p]]) ∧ BZ W' ab (madeN ahead l) cb (madeZ ahead l) ∧ RX W' a ((secsM ahead l).flatMap Sc.cs) ∧ Below w.heap.size w W'
theorem MS.start {w1 : World} {m : Nat} : MS w1 (w1.heap.size + 1) m (fun _ => 0) (.slice (some ⟨w1.heap.size, 0, none⟩) 1 1) [0] ((w1.alloc (.cells #[.int .u8 0] 5)).alloc (.cells (madeCells #[.int .u8 0] m) 5)) := by
  have h1 := heap_alloc_last w1 (.cells #[.int .u8 0] 5)
  have hb : Below (w1.heap.size + 1) (w1.alloc (.cells #[.int .u8 0] 5)) ((w1.alloc (.cells #[.int .u8 0] 5)).alloc (.cells (madeCells #[.int .u8 0] m) 5)) := (Below.refl _ _).alloc (by simp) _
  have h2 := heap_alloc_last (w1.alloc (.cells #[.int .u8 0] 5)) (.cells (madeCells #[.int .u8 0] m) 5)
  rw [World.size_alloc] at h2
  refine ⟨by unfold BR; rw [← made_row]; exact h2, ⟨rfl, .inr ⟨w1.heap.size, 1, #[.int .u8 0], rfl, Nat.le_refl _, (hb.block _ (by omega)).trans h1, Nat.le_refl _, by unfold maxLen; omega, rfl, rfl⟩⟩, ?_, ((Below.refl _ w1).alloc (Nat.le_refl _) _).alloc (by simp) _, by omega⟩
  intro e
  simp [Value.ownBlock] at e
set_option maxRecDepth 100000 in
set_option maxHeartbeats 8000000 in
theorem made_any (ahead : Nat) (hA : ahead ≤ 200) (a : Option Addr) (p : Nat) (l : List En) (hl : l.length ≤ 60) (hok : ∀ x, x ∈ l → x.ok) (hsz : ∀ x, x ∈ l → x.1.size ≤ 60) (w : World) (h : RX w a (l.flatMap En.cs)) : Calls Try.prog 9 #[.int .i64 (ahead : Nat), .slice a l.length p] w (MadeOf ahead l w) := by
  have HX := Lib.hid (fun W (hb : Below w.heap.size w W) => h.keep hb)
  have HOK := Lib.hid hok
  have HSZ := Lib.hid hsz
  have HSL := Lib.hid (fun k => strL_len (l := l.take k) (fun x hx => hsz x (List.mem_of_mem_take hx)))
  have HMO : Hid (∀ e W', MadeOf ahead l w e W' = MadeOf ahead l w e W') := Lib.hid (fun _ _ => rfl)
  have HM := Lib.hid (fun (w1 : World) (m : Nat) => MS.start (w1 := w1) (m := m))
  obtain ⟨i0, hi0, hz0, hz1, hz2⟩ := info_parts info5
  have HI0 := Lib.hid (And.intro hi0 (And.intro hz0 (And.intro hz1 hz2)))
  clear h hok hsz hi0 hz0 hz1 hz2
  obtain ⟨n, hn1⟩ : ∃ n, l.length = n := ⟨_, rfl⟩
  have HL := Lib.hid hn1
  rw [hn1] at hl ⊢
  clear hn1
  obtain ⟨m, hm⟩ : ∃ m, 24 * (n + 1) = m := ⟨_, rfl⟩
  have u0 : IntKind.i64.wrap ((n : Int) + 1) = (n : Int) + 1 := IntWalk.i64_in _ (by omega)
  have u1 : IntKind.i64.wrap (24 * ((n : Int) + 1)) = 24 * ((n : Int) + 1) := IntWalk.i64_in _ (by omega)
  have e24 : 24 * ((n : Int) + 1) = (m : Int) := by omega
  have hmk := make_n m (by omega)
  go_enter Try.func9, Try.ntmps9
  have HH : Hid ((w.alloc (.cells #[.int .u64 0, .int .u64 0, .int .u64 0, .slice none 0 0, .slice none 0 0] 31)).heap[w.heap.size]? = some (.cells hzv 31 (0, 0)) ∧ Below w.heap.size w (w.alloc (.cells #[.int .u64 0, .int .u64 0, .int .u64 0, .slice none 0 0, .slice none 0 0] 31))) := Lib.hid ⟨heap_alloc_last w _, (Below.refl _ w).alloc (Nat.le_refl _) _⟩
  go_upto_region 1 with fail
  generalize World.alloc w _ = w1 at HH ⊢
  have HLT : w.heap.size < w1.heap.size := (Array.getElem?_eq_some_iff.1 HH.out.1).1
  go_upto_region 3 with fail
  have HS0 := Lib.hid (HM.out w1 m)
  clear HM
  generalize World.alloc (World.alloc w1 _) _ = W2 at HS0 ⊢
  clear u0 u1 hmk e24
  obtain ⟨gt, hgt⟩ : ∃ gt, w1.heap.size + 1 = gt := ⟨_, rfl⟩
  try rw [hgt] at HS0
  try rw [hgt]
  clear hgt
  go_wp2_with fail
  go_loopw [6, 8] (fun u i wr => ∃ k : Nat, k ≤ n ∧ i = .int .i64 k ∧ Hid (MS w1 gt m (tabF l k) u (strL (l.take k)) wr)) (fun _ i _ => n - (intOf i).toNat)
  case atStart => exact ⟨0, by omega, rfl, by simpa [strL, tabF] using HS0⟩
  case round =>
    clear HS0
    obtain ⟨k, hk, rfl, HS⟩ := hrel
    have hS := HSL.out k
    rw [List.length_take, HL.out] at hS
    by_cases hlt : k < n
    · obtain ⟨s, hs⟩ : ∃ s, l[k]? = some s := ⟨l[k]'(by have := HL.out; omega), List.getElem?_eq_getElem _⟩
      have HK1 := Lib.hid hs
      have hsok := HOK.out s (List.mem_of_getElem? hs)
      have hssz := HSZ.out s (List.mem_of_getElem? hs)
      have HT1 : Hid (tabF l (k + 1) = entF (tabF l k) (24 * (k + 1)) (strL (l.take k)).length s) := Lib.hid (tabF_succ hs)
      have HT2 : Hid (strL (l.take (k + 1)) = strL (l.take k) ++ nameL s.1 ++ [0]) := Lib.hid (by rw [List.take_add_one, hs]; exact strL_snoc _ _)
      clear hs
      have hS0 : 0 < (strL (l.take k)).length := by simp [strL]
      rw [Nat.min_eq_left (by omega)] at hS
      generalize strL (l.take k) = S at *
      generalize tabF l k = f at *
      obtain ⟨a3, c3, rfl⟩ := owns_slice HS.out.str
      obtain ⟨N, hN⟩ : ∃ N, S.length = N := ⟨_, rfl⟩
      have HN := Lib.hid hN
      obtain ⟨b8, o8, rfl, -⟩ := En_at (HX.out _ (HH.out.2.trans (HS.out.b.mono (Nat.le_of_lt HLT)))) HK1.out
      obtain ⟨nm, kd, sc, ad, si⟩ := s
      obtain ⟨o1, o2, o3, o4⟩ := hsok
      dsimp only at o1 o2 o3 o4 hssz
      obtain ⟨q, hq⟩ : ∃ q, 24 * (k + 1) = q := ⟨_, rfl⟩
      have hqm : q + 24 ≤ m := by omega
      rw [hq] at HT1
      have u0 : IntKind.i64.wrap ((k : Int) + 1) = (k : Int) + 1 := IntWalk.i64_in _ (by omega)
      have u1 : IntKind.i64.wrap (24 * ((k : Int) + 1)) = 24 * ((k : Int) + 1) := IntWalk.i64_in _ (by omega)
      have e24 : 24 * ((k : Int) + 1) = (q : Int) := by omega
      have u2 : IntKind.u64.wrap (N : Int) = (N : Int) := IntWalk.u64_in _ (by omega)
      obtain ⟨q4, hq4⟩ : ∃ x, q + 4 = x := ⟨_, rfl⟩
      have e4 : (q : Int) + 4 = (q4 : Int) := by omega
      have u4 : IntKind.i64.wrap ((q : Int) + 4) = (q4 : Int) := by
        rw [IntWalk.i64_in _ (by omega)]
        exact e4
      obtain ⟨q6, hq6⟩ : ∃ x, q + 6 = x := ⟨_, rfl⟩
      have e6 : (q : Int) + 6 = (q6 : Int) := by omega
      have u6 : IntKind.i64.wrap ((q : Int) + 6) = (q6 : Int) := by
        rw [IntWalk.i64_in _ (by omega)]
        exact e6
      obtain ⟨q8, hq8⟩ : ∃ x, q + 8 = x := ⟨_, rfl⟩
      have e8 : (q : Int) + 8 = (q8 : Int) := by omega
      have u8 : IntKind.i64.wrap ((q : Int) + 8) = (q8 : Int) := by
        rw [IntWalk.i64_in _ (by omega)]
        exact e8
      obtain ⟨q16, hq16⟩ : ∃ x, q + 16 = x := ⟨_, rfl⟩
      have e16 : (q : Int) + 16 = (q16 : Int) := by omega
      have u16 : IntKind.i64.wrap ((q : Int) + 16) = (q16 : Int) := by
        rw [IntWalk.i64_in _ (by omega)]
        exact e16
      have us : IntKind.u64.wrap (sc : Int) = (sc : Int) := IntWalk.u64_in _ (by omega)
      have hi4 : q4 < m := by omega
      rw [hN] at hS hS0 HT1 HS ⊢
      have HQ := Lib.hid (And.intro hN (And.intro hq (And.intro hqm (And.intro hq4 (And.intro hq6 (And.intro hq8 (And.intro hq16 (And.intro hm (And.intro hl (And.intro hA (And.intro hS (And.intro hS0 (And.intro hssz (And.intro hk hlt))))))))))))))
      have HO := Lib.hid (And.intro o1 (And.intro o2 (And.intro o3 o4)))
      have HI4 := Lib.hid hi4
      clear hN hq hqm hq4 hq6 hq8 hq16 hS hS0 hssz o1 o2 o3 o4
      go_wp2_with (first | (go_at_call 18; refine (put_any gt m m _ q 4 N (by decide) (by decide) (by have := HQ.out; omega) (by have := HQ.out; omega) (Nat.le_refl _) (by have := HQ.out; omega) _ HS.out.tab).mono ?_) | fail)
      first | (rintro e W2 rfl ht hg) | (rintro e W2 ⟨rfl, ht, hg⟩)
      have HS2 := Lib.hid (HS.out.put ht hg)
      clear ht hg HS
      have HS := HS2
      clear HS2
      have c4 := HS.out.tab.c q4 hi4
      have g4 := HS.out.tab.fro q4
      obtain ⟨b8, o8, ha8, f0, f1, f2, f3, f4⟩ := En_at (HX.out _ (HH.out.2.trans (HS.out.b.mono (Nat.le_of_lt HLT)))) HK1.out
      cases ha8
      dsimp only at f0 f1 f2 f3 f4
      go_upto_region 9 with fail
      have HS2 := Lib.hid (HS.out.set1 q4 kd hi4 HO.out.1)
      clear HS c4 g4 f0 f1 f2 f3 f4
      have HS := HS2
      clear HS2
      generalize World.setCell _ _ _ = W5 at HS ⊢
      obtain ⟨b8, o8, ha8, f0, f1, f2, f3, f4⟩ := En_at (HX.out _ (HH.out.2.trans (HS.out.b.mono (Nat.le_of_lt HLT)))) HK1.out
      cases ha8
      dsimp only at f0 f1 f2 f3 f4
      go_wp2_with (first | (go_at_call 18; refine (put_any gt m m _ q6 2 sc (by decide) (by decide) (by have := HQ.out; omega) (by have := HQ.out; omega) (Nat.le_refl _) (by have := HQ.out; omega) _ HS.out.tab).mono ?_) | fail)
      first | (rintro e W2 rfl ht hg) | (rintro e W2 ⟨rfl, ht, hg⟩)
      have HS2 := Lib.hid (HS.out.put ht hg)
      clear ht hg HS
      have HS := HS2
      clear HS2
      clear f0 f1 f2 f3 f4
      obtain ⟨b8, o8, ha8, f0, f1, f2, f3, f4⟩ := En_at (HX.out _ (HH.out.2.trans (HS.out.b.mono (Nat.le_of_lt HLT)))) HK1.out
      cases ha8
      dsimp only at f0 f1 f2 f3 f4
      go_wp2_with (first | (go_at_call 18; refine (put_any gt m m _ q8 8 ad (by decide) (by decide) (by have := HQ.out; omega) (by have := HQ.out; omega) (Nat.le_refl _) (by have := HQ.out; omega) _ HS.out.tab).mono ?_) | fail)
      first | (rintro e W2 rfl ht hg) | (rintro e W2 ⟨rfl, ht, hg⟩)
      have HS2 := Lib.hid (HS.out.put ht hg)
      clear ht hg HS
      have HS := HS2
      clear HS2
      clear f0 f1 f2 f3 f4
      obtain ⟨b8, o8, ha8, f0, f1, f2, f3, f4⟩ := En_at (HX.out _ (HH.out.2.trans (HS.out.b.mono (Nat.le_of_lt HLT)))) HK1.out
      cases ha8
      dsimp only at f0 f1 f2 f3 f4
      go_wp2_with (first | (go_at_call 18; refine (put_any gt m m _ q16 8 si (by decide) (by decide) (by have := HQ.out; omega) (by have := HQ.out; omega) (Nat.le_refl _) (by have := HQ.out; omega) _ HS.out.tab).mono ?_) | fail)
      first | (rintro e W2 rfl ht hg) | (rintro e W2 ⟨rfl, ht, hg⟩)
      have HS2 := Lib.hid (HS.out.put ht hg)
      clear ht hg HS
      have HS := HS2
      clear HS2
      clear f0 f1 f2 f3 f4
      obtain ⟨b8, o8, ha8, f0, f1, f2, f3, f4⟩ := En_at (HX.out _ (HH.out.2.trans (HS.out.b.mono (Nat.le_of_lt HLT)))) HK1.out
      cases ha8
      dsimp only at f0 f1 f2 f3 f4
      clear f1 f2 f3 f4
      go_wp2_with (first | (refine wpList_appstr (s := nm) (v := .slice a3 N c3) (xs := cellsN S) rfl rfl rfl rfl (by have := HS.out.str; rw [HN.out] at this; exact this) (by have := HQ.out; omega) HS.out.b.size (by have := HQ.out; omega) ?_) | fail)
      intro v2 W6 hown hgr hat
      have HS2 : Hid (MS w1 gt m _ v2 (S ++ nameL nm) W6) := Lib.hid (HS.out.app (by rw [List.length_append, cellsN_app, nameL_len, HN.out, ← strCells_N]; exact hown) hgr hat)
      clear hown hgr hat HS f0
      have HS := HS2
      clear HS2
      go_wp2_with (first | (at_builtin; refine wpList_append_own_at _ rfl _ _ 27 rfl w1.heap.size 5 i0 (.int .u8 0) 1 1 Try.underlying27 HI0.out.1 HI0.out.2.1 HI0.out.2.2.1 HI0.out.2.2.2 rfl (by decide) _ (S ++ nameL nm).length (cellsN (S ++ nameL nm)) rfl (HS.out.alloc _).str ⟨_, 0, none⟩ 1 1 (cellsN [0]) rfl rfl (cell_one_new _ _ _) (cellsN_one _) (by rw [List.length_append, nameL_len, HN.out]; unfold maxLen; have := HQ.out; omega) (by rw [List.length_append, nameL_len, HN.out]; have := HQ.out; omega) (by have := HS.out.b.size; simp; omega) ?_) | fail)
      intro v3 W7 hown hgr _ hat
      have HS2 : Hid (MS w1 gt m (tabF l (k + 1)) v3 (strL (l.take (k + 1))) W7) := Lib.hid (by
        have h := (HS.out.alloc (.cells #[.int .u8 0] 5)).app (xs' := S ++ nameL nm ++ [0]) (by
          have e9 : (S ++ nameL nm ++ [0]).length = S.length + (nameL nm).length + 1 := by simp [Nat.add_assoc]
          rw [e9, cellsN_app]
          exact hown) hgr (by rw [World.size_alloc]; exact hat)
        rw [HT1.out, HT2.out]
        unfold entF
        dsimp only
        have e := HQ.out
        rw [e.2.2.2.1, e.2.2.2.2.1, e.2.2.2.2.2.1, e.2.2.2.2.2.2.1]
        exact h)
      clear hown hgr hat HS
      have HE1 := Lib.hid (show k + 1 ≤ n by have := HQ.out; omega)
      go_wp2_with fail
      go_roundw
      case rel => exact ⟨k + 1, HE1.out, by first | done | rfl | go_num, HS2⟩
      case measure => have := HE1.out; simp [intOf]; omega
    · obtain rfl : n = k := by omega
      have HF : Hid (tabF l l.length = tabF l n) := Lib.hid (by rw [HL.out])
      have hT : l.take n = l := by rw [← HL.out, List.take_length]
      rw [hT] at HS hS
      clear hT hlt hk
      obtain ⟨N, hN⟩ : ∃ N, (strL l).length = N := ⟨_, rfl⟩
      have hN0 : 0 < N := by rw [← hN]; simp [strL]
      rw [hN, Nat.min_self] at hS
      have hstr := HS.out.str
      rw [hN] at hstr
      obtain ⟨g3, c3, rfl⟩ := owns_some hstr hN0
      clear hstr
      generalize tabF l n = f at *
      have hmk := make_n ahead (by omega)
      have ua : IntKind.u64.wrap (ahead : Int) = (ahead : Int) := IntWalk.u64_in _ (by omega)
      have um : IntKind.u64.wrap (m : Int) = (m : Int) := IntWalk.u64_in _ (by omega)
      have uN : IntKind.u64.wrap (N : Int) = (N : Int) := IntWalk.u64_in _ (by omega)
      obtain ⟨am, ham⟩ : ∃ am, ahead + m = am := ⟨_, rfl⟩
      have e1 : (ahead : Int) + (m : Int) = (am : Int) := by omega
      have u1 : IntKind.i64.wrap ((ahead : Int) + (m : Int)) = (am : Int) := by
        rw [IntWalk.i64_in _ (by omega)]
        exact e1
      have u2 : IntKind.u64.wrap (am : Int) = (am : Int) := IntWalk.u64_in _ (by omega)
      have hb1 : am < 100000 := by omega
      have HQ := Lib.hid (And.intro hN (And.intro hm (And.intro hl (And.intro hA (And.intro hS (And.intro ham hN0))))))
      clear hN hm hl hA hS ham hN0
      have HB0 := Lib.hid ((Below.refl wr.heap.size wr).alloc (Nat.le_refl _) (.cells (madeCells #[.int .u8 0] ahead) 5))
      have HOM := Lib.hid (own_made ahead (by have := HQ.out; omega) wr)
      have HS1 := Lib.hid (HS.out.keep HB0.out)
      go_wp2_with (first | (at_builtin; refine wpList_append_own _ rfl _ _ 27 rfl wr.heap.size 5 i0 (.int .u8 0) 1 1 Try.underlying27 HI0.out.1 HI0.out.2.1 HI0.out.2.2.1 HI0.out.2.2.2 rfl (by decide) _ (List.replicate ahead 0).length (cellsN (List.replicate ahead 0)) rfl HOM.out ⟨gt, 0, none⟩ m m (rowB f m) rfl (by rw [rowB_len]; omega) HS1.out.tab.news (rowB_one _ _) (by rw [List.length_replicate]; unfold maxLen; have := HQ.out; omega) (by rw [List.length_replicate]; have := HQ.out; omega) (by have := HB0.out.size; exact this) ?_) | fail)
      intro v4 W4 hown4 hgr4 _
      have HB4 := Lib.hid (HB0.out.grown hgr4 (HB0.out.size) (fun q e => by cases e; exact Nat.le_refl _))
      have HS4 := Lib.hid (HS.out.keep HB4.out)
      have HO4 : Hid (W4.ownsRow wr.heap.size 5 1 v4 (ahead + m) (cellsN (List.replicate ahead 0) ++ rowB f m)) := Lib.hid (by simpa using hown4)
      clear hown4 hgr4 HS1 HOM HB0
      go_wp2_with (first | (at_builtin; refine wpList_append_own _ rfl _ _ 27 rfl wr.heap.size 5 i0 (.int .u8 0) 1 1 Try.underlying27 HI0.out.1 HI0.out.2.1 HI0.out.2.2.1 HI0.out.2.2.2 rfl (by decide) _ _ _ rfl HO4.out ⟨g3, 0, none⟩ N c3 (cellsN (strL l)) rfl (by rw [cellsN_len]; have := HQ.out; omega) (HS4.out.str.cells (g := g3) rfl) (cellsN_one _) (by unfold maxLen; have := HQ.out; omega) (by have := HQ.out; omega) HB4.out.size ?_) | fail)
      intro v5 W5 hown5 hgr5 _
      have HB5 := Lib.hid (HB4.out.grown hgr5 HB4.out.size (fun q e => owns_block HO4.out q e))
      have HO5 : Hid (W5.ownsRow wr.heap.size 5 1 v5 (madeL ahead l).length (cellsN (madeL ahead l))) := Lib.hid (by
        have e : (madeL ahead l).length = ahead + m + N := by
          have := HQ.out
          rw [madeL_len]
          unfold madeN
          rw [HL.out]
          omega
        have e2 : cellsN (madeL ahead l) = cellsN (List.replicate ahead 0) ++ rowB f m ++ cellsN (strL l) := by
          unfold madeL
          rw [cellsN_app, cellsN_app, HF.out, HL.out, HQ.out.2.1, rowB_N]
        rw [e, e2, List.append_assoc]
        exact hown5)
      clear hown5 hgr5 HO4 HS4 HB4
      obtain ⟨a5, c5, rfl⟩ := owns_slice HO5.out
      have hlw : wr.heap.size ≤ W5.heap.size := HB5.out.size
      have hw1 : w1.heap.size ≤ wr.heap.size := HS.out.b.size
      have HBW := Lib.hid (HS.out.b.trans (HB5.out.mono hw1))
      have HB6 : Hid (Below w1.heap.size w1 (W5.alloc (.cells #[.int .u32 0, .int .u64 0, .int .u64 0, .int .u32 0, .int .u64 0, .int .u32 2, .int .u64 (ahead : Nat), .int .u64 (m : Nat), .int .u32 2, .int .u64 24, .int .u32 3, .int .u64 (am : Nat), .int .u64 (N : Nat), .int .u32 0, .int .u64 0] 54)) ∧ (W5.alloc (.cells #[.int .u32 0, .int .u64 0, .int .u64 0, .int .u32 0, .int .u64 0, .int .u32 2, .int .u64 (ahead : Nat), .int .u64 (m : Nat), .int .u32 2, .int .u64 24, .int .u32 3, .int .u64 (am : Nat), .int .u64 (N : Nat), .int .u32 0, .int .u64 0] 54)).ownsRow wr.heap.size 5 1 (.slice a5 (madeL ahead l).length c5) (madeL ahead l).length (cellsN (madeL ahead l)) ∧ (W5.alloc (.cells #[.int .u32 0, .int .u64 0, .int .u64 0, .int .u32 0, .int .u64 0, .int .u32 2, .int .u64 (ahead : Nat), .int .u64 (m : Nat), .int .u32 2, .int .u64 24, .int .u32 3, .int .u64 (am : Nat), .int .u64 (N : Nat), .int .u32 0, .int .u64 0] 54)).heap[W5.heap.size]? = some (.cells #[.int .u32 0, .int .u64 0, .int .u64 0, .int .u32 0, .int .u64 0, .int .u32 2, .int .u64 (ahead : Nat), .int .u64 (m : Nat), .int .u32 2, .int .u64 24, .int .u32 3, .int .u64 (am : Nat), .int .u64 (N : Nat), .int .u32 0, .int .u64 0] 54 (0, 0))) := Lib.hid
        ⟨HBW.out.alloc (by omega) _, HO5.out.alloc _, heap_alloc_last W5 _⟩
      have HH6 : Hid ((W5.alloc (.cells #[.int .u32 0, .int .u64 0, .int .u64 0, .int .u32 0, .int .u64 0, .int .u32 2, .int .u64 (ahead : Nat), .int .u64 (m : Nat), .int .u32 2, .int .u64 24, .int .u32 3, .int .u64 (am : Nat), .int .u64 (N : Nat), .int .u32 0, .int .u64 0] 54)).heap[w.heap.size]? = some (.cells hzv 31 (0, 0))) := Lib.hid ((HB6.out.1.block _ HLT).trans HH.out.1)
      have HCO : Hid ((#[.int .u64 0, .int .u64 0, .int .u64 0, .slice none 0 0, .slice (some ⟨W5.heap.size, 0, none⟩) 3 3] : Array Value).all (·.oneCell') = true) := Lib.hid (by kernel_rfl)
      have HZS : Hid (hzv.size = 5) := Lib.hid rfl
      go_wp2_with (first | (refine wpList_store31 (u := hzv) (c := #[.int .u64 0, .int .u64 0, .int .u64 0, .slice none 0 0, .slice (some ⟨W5.heap.size, 0, none⟩) 3 3]) rfl rfl rfl rfl HH6.out HZS.out rfl HCO.out ?_) | fail)
      generalize World.alloc W5 _ = W6 at HB6 HH6 ⊢
      refine bodyPost_ret (res9 rfl rfl (setRow_heap W6 _ _ _ 31 (0, 0) HH6.out) rfl) rfl ?_
      have hne : w.heap.size < wr.heap.size := Nat.lt_of_lt_of_le HLT hw1
      obtain ⟨hz1, hz2⟩ := bz_of_own (owns_set HB6.out.2.1 hne #[.int .u64 0, .int .u64 0, .int .u64 0, .slice none 0 0, .slice (some ⟨W5.heap.size, 0, none⟩) 3 3])
      refine ⟨a5, c5, some ⟨W5.heap.size, 0, none⟩, 3, by rw [← madeL_len]; rfl, by rw [← madeL_len]; exact hz2, fun _ => ⟨W5.heap.size, 0, rfl, fun j u hu => ?_⟩, below_row' (HH.out.2.trans (HB6.out.1.mono (Nat.le_of_lt HLT))) (Nat.le_refl _)⟩
      rw [Nat.zero_add]
      refine cell_at ((setRow_other _ _ _ _ (show W5.heap.size ≠ w.heap.size by omega)).trans HB6.out.2.2) ?_
      have e7 := HQ.out
      unfold secsM at hu
      rw [HL.out, e7.2.1, e7.1, e7.2.2.2.2.2.1] at hu
      simpa [Sc.cs] using hu
end Go.Proofs.Ytegbhjmghkbgmaa
