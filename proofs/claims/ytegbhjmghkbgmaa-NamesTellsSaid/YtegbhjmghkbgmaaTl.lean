/- NamesTells' walk. -/
import Derived.Test.YtegbhjmghkbgmaaUe
import Derived.Test.YtegbhjmghkbgmaaUd
import Derived.Test.YtegbhjmghkbgmaaUa
namespace Go.Proofs.Ytegbhjmghkbgmaa
open Go.RowKit Go.Shelf
set_option linter.unusedVariables false
set_option linter.unusedSimpArgs false
attribute [local go_sem] Oper.semAt_some
def pc (x : Int × Int) : List Value := [.int .i64 x.1, .int .i64 x.2]
theorem pc_len (x : Int × Int) : (pc x).length = 2 := rfl
theorem pair_at {W : World} {ad : Option Addr} {zs : List (Int × Int)} (h : RX W ad (zs.flatMap pc)) {k : Nat} {s : Int × Int} (hk : zs[k]? = some s) : ∃ b off, ad = some ⟨b, off, none⟩ ∧ W.cell? ⟨b, off + k * 2, none⟩ = some (.int .i64 s.1) ∧ W.cell? ⟨b, off + k * 2 + 1, none⟩ = some (.int .i64 s.2) := by
  have hl := (List.getElem?_eq_some_iff.1 hk).1
  obtain ⟨b, off, ha, hc⟩ := h (by rw [flat_len pc_len]; omega)
  have e : ∀ i, i < 2 → ∀ u, (pc s)[i]? = some u → W.cell? ⟨b, off + k * 2 + i, none⟩ = some u := fun i hi u hu => by
    rw [Nat.add_assoc]
    exact hc _ _ ((flat_at pc_len zs k i s hk hi).trans hu)
  exact ⟨b, off, ha, e 0 (by decide) _ rfl, e 1 (by decide) _ rfl⟩
/-- What stands while bytes are put. -/
def TS (w : World) (g N cb b2 b8 p2 : Nat) (cs0 : List Sc) (z : Nat → Nat) (W : World) : Prop := GB W g N cb z ∧ RX W (some ⟨b2, 0, none⟩) (cs0.flatMap Sc.cs) ∧ W.heap[b8]? = some (.cells #[.int .u64 0, .int .u64 0, .int .u64 0, .slice none 0 0, .slice (some ⟨b2, 0, none⟩) 3 p2] 31 (0, 0)) ∧ Below w.heap.size w W
theorem TS.put {w W : World} {g N cb b2 b8 p2 : Nat} {cs0 : List Sc} {z : Nat → Nat} (h : TS w g N cb b2 b8 p2 cs0 z W) (h2 : b2 ≠ g) (h8 : b8 ≠ g) (hg : w.heap.size ≤ g) (i v : Nat) : TS w g N cb b2 b8 p2 cs0 (fun j => if j = i then v else z j) (W.setCell ⟨g, i, none⟩ (.int .u8 (v : Nat))) := ⟨h.1.put i v, h.2.1.far h2 i _, (heap_setCell_other W ⟨g, i, none⟩ b8 _ h8).trans h.2.2.1, h.2.2.2.setCell hg _⟩
theorem TS.keep {w W W' : World} {g N cb b2 b8 p2 : Nat} {cs0 : List Sc} {z : Nat → Nat} (h : TS w g N cb b2 b8 p2 cs0 z W) (hb : Below W.heap.size W W') : TS w g N cb b2 b8 p2 cs0 z W' := ⟨h.1.keep hb, h.2.1.keep hb, (hb.block _ (Array.getElem?_eq_some_iff.1 h.2.2.1).1).trans h.2.2.1, h.2.2.2.trans (hb.mono h.2.2.2.size)⟩
/-- What stands through the three readings. -/
def NS (w : World) (g N cb : Nat) (z : Nat → Nat) (b2 gA gB b14 b8 : Nat) (cs0 csA csB : List Sc) (C : Array Value) (W : World) : Prop := GB W g N cb z ∧ RX W (some ⟨b2, 0, none⟩) (cs0.flatMap Sc.cs) ∧ RX W (some ⟨gA, 0, none⟩) (csA.flatMap Sc.cs) ∧ RX W (some ⟨gB, 0, none⟩) (csB.flatMap Sc.cs) ∧ W.heap[b14]? = some (.cells C 24 (0, 0)) ∧ (∃ c4, W.heap[b8]? = some (.cells #[.int .u64 0, .int .u64 0, .int .u64 0, .slice none 0 0, c4] 31 (0, 0))) ∧ Below w.heap.size w W
theorem NS.keep {w W W' : World} {g N cb : Nat} {z : Nat → Nat} {b2 gA gB b14 b8 : Nat} {cs0 csA csB : List Sc} {C : Array Value} (h : NS w g N cb z b2 gA gB b14 b8 cs0 csA csB C W) (hb : Below W.heap.size W W') : NS w g N cb z b2 gA gB b14 b8 cs0 csA csB C W' := by
  obtain ⟨h1, h2, h3, h4, h5, ⟨c4, h6⟩, h7⟩ := h
  exact ⟨h1.keep hb, h2.keep hb, h3.keep hb, h4.keep hb, (hb.block _ (Array.getElem?_eq_some_iff.1 h5).1).trans h5, ⟨c4, (hb.block _ (Array.getElem?_eq_some_iff.1 h6).1).trans h6⟩, h7.trans (hb.mono h7.size)⟩
theorem NS.put {w W : World} {g N cb : Nat} {z : Nat → Nat} {b2 gA gB b14 b8 : Nat} {cs0 csA csB : List Sc} {C : Array Value} (h : NS w g N cb z b2 gA gB b14 b8 cs0 csA csB C W) (e1 : g ≠ b8) (e2 : b2 ≠ b8) (e3 : gA ≠ b8) (e4 : gB ≠ b8) (e5 : b14 ≠ b8) (e6 : w.heap.size ≤ b8) (v : Value) : NS w g N cb z b2 gA gB b14 b8 cs0 csA csB C (W.setCell ⟨b8, 4, none⟩ v) ∧ (W.setCell ⟨b8, 4, none⟩ v).heap[b8]? = some (.cells #[.int .u64 0, .int .u64 0, .int .u64 0, .slice none 0 0, v] 31 (0, 0)) := by
  obtain ⟨h1, h2, h3, h4, h5, ⟨c4, h6⟩, h7⟩ := h
  have h8 := heap_setCell_same W b8 4 _ 31 v h6
  refine ⟨⟨?_, h2.far e2 4 v, h3.far e3 4 v, h4.far e4 4 v, (heap_setCell_other W ⟨b8, 4, none⟩ b14 v e5).trans h5, ⟨v, h8⟩, h7.setCell e6 v⟩, h8⟩
  obtain ⟨cur, h9, h10⟩ := h1
  exact ⟨cur, (heap_setCell_other W ⟨b8, 4, none⟩ g v e1).trans h9, h10⟩
theorem NS.pick {w W : World} {g N cb : Nat} {z : Nat → Nat} {b2 gA gB b14 b8 : Nat} {cs0 csA csB : List Sc} {n0 p0 nA pA nB pB : Nat} (h : NS w g N cb z b2 gA gB b14 b8 cs0 csA csB #[.slice (some ⟨b2, 0, none⟩) n0 p0, .slice (some ⟨gA, 0, none⟩) nA pA, .slice (some ⟨gB, 0, none⟩) nB pB] W) (l0 : cs0.length = n0) (lA : csA.length = nA) (lB : csB.length = nB) (o0 : ∀ s, s ∈ cs0 → s.ok) (oA : ∀ s, s ∈ csA → s.ok) (oB : ∀ s, s ∈ csB → s.ok) (e2 : b2 ≠ b8) (e3 : gA ≠ b8) (e4 : gB ≠ b8) (i0 : n0 ≤ 100) (iA : nA ≤ 100) (iB : nB ≤ 100) {k : Nat} (hk : k < 3) : ∃ (bk nk ck : Nat) (csk : List Sc), W.cell? ⟨b14, k, none⟩ = some (.slice (some ⟨bk, 0, none⟩) nk ck) ∧ csk.length = nk ∧ RX W (some ⟨bk, 0, none⟩) (csk.flatMap Sc.cs) ∧ bk ≠ b8 ∧ (∀ s, s ∈ csk → s.ok) ∧ nk ≤ 100 := by
  obtain ⟨h1, h2, h3, h4, h5, _⟩ := h
  obtain rfl | rfl | rfl : k = 0 ∨ k = 1 ∨ k = 2 := by omega
  · exact ⟨_, _, _, cs0, cell_at h5 rfl, l0, h2, e2, o0, i0⟩
  · exact ⟨_, _, _, csA, cell_at h5 rfl, lA, h3, e3, oA, iA⟩
  · exact ⟨_, _, _, csB, cell_at h5 rfl, lB, h4, e4, oB, iB⟩
theorem found2 (l : List Sy) (nm : ByteArray) : ∃ (s : Sy) (ev : Int), findV l nm = .tuple #[s.v, .int .i64 ev] := by
  unfold findV
  cases h : findS l nm with
  | some s => exact ⟨s, 0, rfl⟩
  | none => exact ⟨zsy, 40, rfl⟩
theorem readZ_len {z : Nat → Nat} {bn : Nat} {cs : List Sc} : (readZ z bn cs).1.length ≤ 200 := by
  unfold readZ
  by_cases h : 32 < cs.length
  · rw [if_pos h]
    exact Nat.zero_le _
  rw [if_neg h]
  cases hi : symI cs with
  | none => exact Nat.zero_le _
  | some i =>
    dsimp only
    cases hs : cs[i]? with
    | none => exact Nat.zero_le _
    | some s =>
      dsimp only
      by_cases hk : kindsS s cs = true
      rotate_left
      · rw [if_neg hk]
        exact Nat.zero_le _
      rw [if_pos hk]
      cases hx : cs[s.2.2.2.1]? with
      | none => exact Nat.zero_le _
      | some x =>
        dsimp only
        by_cases hp : (pieceB s bn && pieceB x bn) = true
        rotate_left
        · rw [if_neg hp]
          exact Nat.zero_le _
        rw [if_pos hp]
        cases hy : symsZ (shZ z s.2.1) (shZ z x.2.1) x.2.2.1 (List.range (rowsM s.2.2.1)) with
        | none => exact Nat.zero_le _
        | some L =>
          have h1 := syms_len hy
          have h2 := kinds_sz hk
          show L.length ≤ 200
          unfold rowsM at h1
          omega
theorem rx_own {W : World} {n0 g n c k : Nat} {L : List Value} {cs : List Sc} (h : W.ownsRow n0 54 5 (.slice (some ⟨g, 0, none⟩) n c) k L) (e : L = cs.flatMap Sc.cs) : RX W (some ⟨g, 0, none⟩) (cs.flatMap Sc.cs) := by
  rw [← e]
  exact RX.own h
theorem tmod_bounds (x : Int) {n : Int} (hn : 0 < n) : -n < x.tmod n ∧ x.tmod n < n := by
  have h1 := Int.tmod_lt_of_pos x hn
  refine ⟨?_, h1⟩
  have h2 := Int.tmod_lt_of_pos (-x) hn
  rw [Int.neg_tmod] at h2
  omega
theorem wrap8 (y : Int) : ∃ v : Nat, IntKind.u8.wrap y = (v : Int) ∧ v < 256 := by
  have h : IntKind.u8.wrap y = y % 256 := by simp [IntKind.wrap, IntKind.bits, IntKind.signed]
  rw [h]
  exact ⟨(y % 256).toNat, by omega, by omega⟩
theorem own_ge {W : World} {n0 g n c k : Nat} {ty : TypeId} {sz : Nat} {L : List Value} (h : W.ownsRow n0 ty sz (.slice (some ⟨g, 0, none⟩) n c) k L) : n0 ≤ g := owns_block h g rfl
set_option maxRecDepth 100000 in
set_option maxHeartbeats 16000000 in
theorem tells_small (ahead : Nat) (hA : ahead ≤ 200) (a : Option Addr) (p : Nat) (l : List En) (hl : l.length ≤ 60) (hf : ∀ x, x ∈ l → x.fine) (hok : ∀ x, x ∈ l → x.ok) (ab2 : Option Addr) (pb : Nat) (bs : List (Int × Int)) (hbs : bs.length ≤ 20) (hbok : ∀ x, x ∈ bs → (-9223372036854775808 ≤ x.1 ∧ x.1 ≤ 9223372036854775807)) (am : Option Addr) (cm : Nat) (ms : List Sc) (hms : ms.length ≤ 40) (hmok : ∀ s, s ∈ ms → s.ok) (nm : ByteArray) (hnm : nm.size ≤ 100) (w : World) (h : RX w a (l.flatMap En.cs)) (hb : RX w ab2 (bs.flatMap pc)) (hm : SrcC w am ms.length cm ms) (hgr : Calls Try.prog 7 #[.slice a l.length p] w fun e W' => W' = w ∧ ∃ g : Bool, e = .returned (.bool g)) :
    Calls Try.prog 3 #[.int .i64 (ahead : Nat), .slice a l.length p, .slice ab2 bs.length pb, .slice am ms.length cm, .string nm] w fun e W' => e = .returned (.bool true) ∧ Below w.heap.size w W' := by
  have HGR := Lib.hid hgr
  have HMA := Lib.hid (made_own ahead hA a p l hl hok (fun x hx => (hf x hx).1) w h)
  have HWK := Lib.hid wakes_any
  have HBAD := Lib.hid hb
  have HMS := Lib.hid hm
  have HMOK := Lib.hid hmok
  have HBOK := Lib.hid hbok
  have hsl := strL_len (l := l) (fun x hx => (hf x hx).1)
  have hs0 : 0 < (strL l).length := by simp [strL]
  obtain ⟨N, hN⟩ : ∃ N, madeN ahead l = N := ⟨_, rfl⟩
  have hNb : N < 100000 := by unfold madeN at hN; omega
  have hNp : 0 < N := by unfold madeN at hN; omega
  have hzz := Lib.hid (madeZ_lt ahead l)
  have HZD : Hid ((fun j => (madeL ahead l).getD j 0) = madeZ ahead l) := Lib.hid rfl
  have HML := Lib.hid (madeL_len ahead l)
  rw [hN] at HML
  have hsok : ∀ s, s ∈ secsM ahead l → s.ok := fun s hs => by
    unfold secsM at hs
    simp at hs
    rcases hs with rfl | rfl | rfl
    · unfold Sc.ok V32 U
      decide
    · unfold Sc.ok V32 U
      dsimp only
      omega
    · unfold Sc.ok V32 U
      dsimp only
      omega
  have HSOK := Lib.hid hsok
  have HS3 := Lib.hid (show (secsM ahead l).length = 3 from rfl)
  unfold MadeOwn at HMA
  rw [hN] at HMA
  clear hgr h hb hm hmok hbok hsl hs0 hN hsok hf hok
  generalize secsM ahead l = cs0 at *
  generalize madeZ ahead l = z0 at *
  generalize madeL ahead l = ml at *
  obtain ⟨n, hn⟩ : ∃ n, l.length = n := ⟨_, rfl⟩
  rw [hn] at hl HGR HMA ⊢
  clear hn
  obtain ⟨nb, hnb⟩ : ∃ nb, bs.length = nb := ⟨_, rfl⟩
  have HNB := Lib.hid hnb
  rw [hnb] at hbs ⊢
  clear hnb
  obtain ⟨mn, hmn⟩ : ∃ mn, ms.length = mn := ⟨_, rfl⟩
  have HMN := Lib.hid hmn
  rw [hmn] at hms HMS ⊢
  clear hmn
  have d1 : decide ((ahead : Int) < 0) = false := decide_eq_false (by omega)
  have d2 : decide ((200 : Int) < (ahead : Int)) = false := decide_eq_false (by omega)
  have d3 : decide ((20 : Int) < (nb : Int)) = false := decide_eq_false (by omega)
  have d4 : decide ((100 : Int) < (nm.size : Int)) = false := decide_eq_false (by omega)
  have d5 : decide ((40 : Int) < (mn : Int)) = false := decide_eq_false (by omega)
  go_enter Try.func3, Try.ntmps3
  go_wp2_with (first | (go_at_call 7; refine HGR.out.mono ?_) | fail)
  first | (rintro e ⟨gg, rfl⟩) | (rintro e W1 ⟨hw1, ⟨gg, rfl⟩⟩; rw [hw1]; clear hw1) | (rintro e W1 hw1 ⟨gg, rfl⟩; rw [hw1]; clear hw1)
  cases gg
  rotate_left
  · go_wp2_with (first | (go_at_call 8; refine (HWK.out _).mono ?_) | fail)
    first | (rintro e W1 rfl hb) | (rintro e W1 ⟨rfl, hb⟩)
    go_wp2_with fail
    go_ret
    exact ⟨rfl, hb⟩
  go_wp2_with (first | (go_at_call 9; refine HMA.out.mono ?_) | fail)
  first | (rintro e W2 g cb b2 p2 rfl ho hr hbg hwb hb) | (rintro e W2 ⟨g, cb, b2, p2, rfl, ho, hr, hbg, hwb, hb⟩)
  clear d1 d2 d3 d4 d5
  go_upto_region 4 with fail
  obtain ⟨hgb, hnc, hcm, hwg⟩ := GB.of_own ho HML.out
  rw [HZD.out] at hgb
  have HF0 : Hid (TS w g N cb b2 W2.heap.size p2 cs0 z0 (W2.alloc (.cells #[.int .u64 0, .int .u64 0, .int .u64 0, .slice none 0 0, .slice (some ⟨b2, 0, none⟩) 3 p2] 31)) ∧ W2.heap.size ≠ g ∧ W2.heap.size ≠ b2) := Lib.hid (by
    have hk := (Below.refl W2.heap.size W2).alloc (Nat.le_refl _) (.cells #[.int .u64 0, .int .u64 0, .int .u64 0, .slice none 0 0, .slice (some ⟨b2, 0, none⟩) 3 p2] 31)
    have h2 : b2 < W2.heap.size := by
      obtain ⟨b1, o1, he, hc⟩ := hr (by rw [flat_len Sc_len, HS3.out]; decide)
      cases he
      obtain ⟨u, hu⟩ : ∃ u, (cs0.flatMap Sc.cs)[0]? = some u := ⟨_, List.getElem?_eq_getElem (by rw [flat_len Sc_len, HS3.out]; decide)⟩
      exact cell_lt' (hc 0 u hu)
    exact ⟨⟨hgb.keep hk, hr.keep hk, heap_alloc_last W2 _, hb.trans (hk.mono hb.size)⟩, Nat.ne_of_gt hgb.lt, Nat.ne_of_gt h2⟩)
  have HGE := Lib.hid (And.intro hwg (And.intro hwb hb.size))
  have HNC := Lib.hid (And.intro hnc hcm)
  have HNE := Lib.hid hbg
  clear hgb ho hr hbg hwb hb hwg hnc hcm HMA HGR HZD HML
  generalize World.alloc W2 _ = w0 at HF0 ⊢
  generalize (World.heap W2).size = b8 at HF0 HGE ⊢
  go_wp2_with fail
  go_loopw [13] (fun i W => ∃ (k : Nat) (z : Nat → Nat), k ≤ nb ∧ i = .int .i64 k ∧ Hid (∀ j, z j < 256) ∧ Hid (TS w g N cb b2 b8 p2 cs0 z W)) (fun i _ => nb - (intOf i).toNat)
  case atStart => exact ⟨0, z0, Nat.zero_le _, rfl, hzz, Lib.hid HF0.out.1⟩
  case round =>
    clear hzz
    obtain ⟨k, z, hk, rfl, hzz, HT⟩ := hrel
    by_cases hlt : k < nb
    · obtain ⟨s, hs⟩ : ∃ s, bs[k]? = some s := ⟨bs[k]'(by have := HNB.out; omega), List.getElem?_eq_getElem _⟩
      have hsok := HBOK.out s (List.mem_of_getElem? hs)
      obtain ⟨x, y⟩ := s
      dsimp only at hsok
      obtain ⟨x1, o1, ha1, f0, f1⟩ := pair_at HBAD.out hs
      subst ha1
      dsimp only at f0 f1
      have HC := Lib.hid (And.intro f0 f1)
      clear f0 f1 hs
      have hN0 : ¬ (N : Int) = 0 := by omega
      have hN2 : ¬ N = 0 := by omega
      have hN1 : ((N : Int) == 0) = false := by
        rw [beq_eq_false_iff_ne]
        exact hN0
      obtain ⟨r1, hr1⟩ : ∃ r1, x.tmod (N : Int) = r1 := ⟨_, rfl⟩
      have hr1b : -(N : Int) < r1 ∧ r1 < (N : Int) := by
        rw [← hr1]
        exact tmod_bounds x (by omega)
      obtain ⟨ix, hix⟩ : ∃ ix : Nat, (r1 + (N : Int)).tmod (N : Int) = (ix : Int) := ⟨((r1 + (N : Int)).tmod (N : Int)).toNat, by
        have := Int.tmod_nonneg (a := r1 + (N : Int)) (N : Int) (by omega)
        omega⟩
      have hixb : ix < N := by
        have := (tmod_bounds (r1 + (N : Int)) (n := (N : Int)) (by omega)).2
        omega
      obtain ⟨v, hv, hvb⟩ : ∃ v : Nat, IntKind.u8.wrap y = (v : Int) ∧ v < 256 := wrap8 y
      have ur1 : IntKind.i64.wrap r1 = r1 := IntWalk.i64_in _ (by omega)
      have us1 : IntKind.i64.wrap (r1 + (N : Int)) = r1 + (N : Int) := IntWalk.i64_in _ (by omega)
      have uix : IntKind.i64.wrap (ix : Int) = (ix : Int) := IntWalk.i64_in _ (by omega)
      have hixi : (ix : Int) < (N : Int) := by omega
      clear hr1b
      go_wp2_with fail
      refine wp_region_noPanic ?_
      refine wp_region_held_drew (S := fun W : World => Below w.heap.size w W) (by kernel_rfl) ?_ (fun hHeld => ?_)
      · exact HT.out.2.2.2.drew
      have HT5 := Lib.hid (TS.keep HT.out (Below.refl _ wr).drew)
      generalize World.drew _ = V5 at HT5 hHeld ⊢
      refine wpAnyH_take (i := 0) (v := ?_) rfl (by kernel_rfl) (by kernel_rfl) (by kernel_rfl) (fun _ _ _ h => h) (Or.inl ⟨by kernel_rfl, ?_⟩) (by assumption) ?_
      rotate_left
      · intro wv hSw
        go_simp
        try with_reducible rfl
      simp only [Act.put, List.setIfInBounds_toArray, List.set_cons_zero, List.set_cons_succ, List.getElem_toArray, List.getElem_cons_succ, List.getElem_cons_zero]
      refine wpAnyH_take (i := 1) (v := ?_) rfl (by kernel_rfl) (by kernel_rfl) (by kernel_rfl) (fun _ _ _ h => h) (Or.inl ⟨by kernel_rfl, ?_⟩) (by assumption) ?_
      rotate_left
      · intro wv hSw
        go_simp
        try with_reducible rfl
      simp only [Act.put, List.setIfInBounds_toArray, List.set_cons_zero, List.set_cons_succ, List.getElem_toArray, List.getElem_cons_succ, List.getElem_cons_zero]
      refine wpAnyH_take (i := 2) (v := ?_) rfl (by kernel_rfl) (by kernel_rfl) (by kernel_rfl) (fun _ _ _ h => h) (Or.inl ⟨by kernel_rfl, ?_⟩) (by assumption) ?_
      rotate_left
      · intro wv hSw
        go_simp
        try with_reducible rfl
      simp only [Act.put, List.setIfInBounds_toArray, List.set_cons_zero, List.set_cons_succ, List.getElem_toArray, List.getElem_cons_succ, List.getElem_cons_zero]
      refine wpAnyH_take (i := 3) (v := ?_) rfl (by kernel_rfl) (by kernel_rfl) (by kernel_rfl) (fun _ _ _ h => h) (Or.inl ⟨by kernel_rfl, ?_⟩) (by assumption) ?_
      rotate_left
      · intro wv hSw
        go_simp
        try with_reducible rfl
      simp only [Act.put, List.setIfInBounds_toArray, List.set_cons_zero, List.set_cons_succ, List.getElem_toArray, List.getElem_cons_succ, List.getElem_cons_zero]
      refine wpAnyH_take (i := 4) (v := ?_) rfl (by kernel_rfl) (by kernel_rfl) (by kernel_rfl) (fun _ _ _ h => h) (Or.inl ⟨by kernel_rfl, ?_⟩) (by assumption) ?_
      rotate_left
      · intro wv hSw
        go_simp
        try with_reducible rfl
      simp only [Act.put, List.setIfInBounds_toArray, List.set_cons_zero, List.set_cons_succ, List.getElem_toArray, List.getElem_cons_succ, List.getElem_cons_zero]
      refine wpAnyH_take (i := 5) (v := ?_) rfl (by kernel_rfl) (by kernel_rfl) (by kernel_rfl) (fun _ _ _ h => h) (Or.inl ⟨by kernel_rfl, ?_⟩) (by assumption) ?_
      rotate_left
      · intro wv hSw
        have c0 := cell_keep HC.out.1 hSw
        go_simp
        try with_reducible rfl
      simp only [Act.put, List.setIfInBounds_toArray, List.set_cons_zero, List.set_cons_succ, List.getElem_toArray, List.getElem_cons_succ, List.getElem_cons_zero]
      refine wpAnyH_take (i := 6) (v := ?_) rfl (by kernel_rfl) (by kernel_rfl) (by kernel_rfl) (fun _ _ _ h => h) (Or.inl ⟨by kernel_rfl, ?_⟩) (by assumption) ?_
      rotate_left
      · intro wv hSw
        go_simp
        try with_reducible rfl
      simp only [Act.put, List.setIfInBounds_toArray, List.set_cons_zero, List.set_cons_succ, List.getElem_toArray, List.getElem_cons_succ, List.getElem_cons_zero]
      refine wpAnyH_take (i := 7) (v := ?_) rfl (by kernel_rfl) (by kernel_rfl) (by kernel_rfl) (fun _ _ _ h => h) (Or.inl ⟨by kernel_rfl, ?_⟩) (by assumption) ?_
      rotate_left
      · intro wv hSw
        go_simp
        try with_reducible rfl
      simp only [Act.put, List.setIfInBounds_toArray, List.set_cons_zero, List.set_cons_succ, List.getElem_toArray, List.getElem_cons_succ, List.getElem_cons_zero]
      refine wpAnyH_take (i := 8) (v := ?_) rfl (by kernel_rfl) (by kernel_rfl) (by kernel_rfl) (fun _ _ _ h => h) (Or.inl ⟨by kernel_rfl, ?_⟩) (by assumption) ?_
      rotate_left
      · intro wv hSw
        go_simp
        try with_reducible rfl
      simp only [Act.put, List.setIfInBounds_toArray, List.set_cons_zero, List.set_cons_succ, List.getElem_toArray, List.getElem_cons_succ, List.getElem_cons_zero]
      refine wpAnyH_take (i := 9) (v := ?_) rfl (by kernel_rfl) (by kernel_rfl) (by kernel_rfl) (fun _ _ _ h => h) (Or.inl ⟨by kernel_rfl, ?_⟩) (by assumption) ?_
      rotate_left
      · intro wv hSw
        go_simp
        try with_reducible rfl
      simp only [Act.put, List.setIfInBounds_toArray, List.set_cons_zero, List.set_cons_succ, List.getElem_toArray, List.getElem_cons_succ, List.getElem_cons_zero]
      refine wpAnyH_take (i := 10) (v := ?_) rfl (by kernel_rfl) (by kernel_rfl) (by kernel_rfl) (fun _ _ _ h => h) (Or.inl ⟨by kernel_rfl, ?_⟩) (by assumption) ?_
      rotate_left
      · intro wv hSw
        go_simp
        try with_reducible rfl
      simp only [Act.put, List.setIfInBounds_toArray, List.set_cons_zero, List.set_cons_succ, List.getElem_toArray, List.getElem_cons_succ, List.getElem_cons_zero]
      refine wpAnyH_take (i := 11) (v := ?_) rfl (by kernel_rfl) (by kernel_rfl) (by kernel_rfl) (fun _ _ _ h => h) (Or.inl ⟨by kernel_rfl, ?_⟩) (by assumption) ?_
      rotate_left
      · intro wv hSw
        go_simp
        try with_reducible rfl
      simp only [Act.put, List.setIfInBounds_toArray, List.set_cons_zero, List.set_cons_succ, List.getElem_toArray, List.getElem_cons_succ, List.getElem_cons_zero]
      refine wpAnyH_take (i := 12) (v := ?_) rfl (by kernel_rfl) (by kernel_rfl) (by kernel_rfl) (fun _ _ _ h => h) (Or.inl ⟨by kernel_rfl, ?_⟩) (by assumption) ?_
      rotate_left
      · intro wv hSw
        go_simp
        try with_reducible rfl
      simp only [Act.put, List.setIfInBounds_toArray, List.set_cons_zero, List.set_cons_succ, List.getElem_toArray, List.getElem_cons_succ, List.getElem_cons_zero]
      refine wpAnyH_take (i := 13) (v := ?_) rfl (by kernel_rfl) (by kernel_rfl) (by kernel_rfl) (fun _ _ _ h => h) (Or.inl ⟨by kernel_rfl, ?_⟩) (by assumption) ?_
      rotate_left
      · intro wv hSw
        go_simp
        try with_reducible rfl
      simp only [Act.put, List.setIfInBounds_toArray, List.set_cons_zero, List.set_cons_succ, List.getElem_toArray, List.getElem_cons_succ, List.getElem_cons_zero]
      refine wpAnyH_take (i := 14) (v := ?_) rfl (by kernel_rfl) (by kernel_rfl) (by kernel_rfl) (fun _ _ _ h => h) (Or.inl ⟨by kernel_rfl, ?_⟩) (by assumption) ?_
      rotate_left
      · intro wv hSw
        go_simp
        try with_reducible rfl
      simp only [Act.put, List.setIfInBounds_toArray, List.set_cons_zero, List.set_cons_succ, List.getElem_toArray, List.getElem_cons_succ, List.getElem_cons_zero]
      refine wpAnyH_take (i := 15) (v := ?_) rfl (by kernel_rfl) (by kernel_rfl) (by kernel_rfl) (fun _ _ _ h => h) (Or.inl ⟨by kernel_rfl, ?_⟩) (by assumption) ?_
      rotate_left
      · intro wv hSw
        go_simp
        try with_reducible rfl
      simp only [Act.put, List.setIfInBounds_toArray, List.set_cons_zero, List.set_cons_succ, List.getElem_toArray, List.getElem_cons_succ, List.getElem_cons_zero]
      refine wpAnyH_take (i := 16) (v := ?_) rfl (by kernel_rfl) (by kernel_rfl) (by kernel_rfl) (fun _ _ _ h => h) (Or.inl ⟨by kernel_rfl, ?_⟩) (by assumption) ?_
      rotate_left
      · intro wv hSw
        go_simp
        try with_reducible rfl
      simp only [Act.put, List.setIfInBounds_toArray, List.set_cons_zero, List.set_cons_succ, List.getElem_toArray, List.getElem_cons_succ, List.getElem_cons_zero]
      refine wpAnyH_take (i := 17) (v := ?_) rfl (by kernel_rfl) (by kernel_rfl) (by kernel_rfl) (fun _ _ _ h => h) (Or.inl ⟨by kernel_rfl, ?_⟩) (by assumption) ?_
      rotate_left
      · intro wv hSw
        go_simp
        try with_reducible rfl
      simp only [Act.put, List.setIfInBounds_toArray, List.set_cons_zero, List.set_cons_succ, List.getElem_toArray, List.getElem_cons_succ, List.getElem_cons_zero]
      refine wpAnyH_take (i := 18) (v := ?_) rfl (by kernel_rfl) (by kernel_rfl) (by kernel_rfl) (fun _ _ _ h => h) (Or.inl ⟨by kernel_rfl, ?_⟩) (by assumption) ?_
      rotate_left
      · intro wv hSw
        go_simp
        try with_reducible rfl
      simp only [Act.put, List.setIfInBounds_toArray, List.set_cons_zero, List.set_cons_succ, List.getElem_toArray, List.getElem_cons_succ, List.getElem_cons_zero]
      refine wpAnyH_take (i := 19) (v := ?_) rfl (by kernel_rfl) (by kernel_rfl) (by kernel_rfl) (fun _ _ _ h => h) (Or.inl ⟨by kernel_rfl, ?_⟩) (by assumption) ?_
      rotate_left
      · intro wv hSw
        have c0 := cell_keep HC.out.2 hSw
        go_simp
        try with_reducible rfl
      simp only [Act.put, List.setIfInBounds_toArray, List.set_cons_zero, List.set_cons_succ, List.getElem_toArray, List.getElem_cons_succ, List.getElem_cons_zero]
      refine wpAnyH_take (i := 20) (v := ?_) rfl (by kernel_rfl) (by kernel_rfl) (by kernel_rfl) (fun _ _ _ h => h) (Or.inl ⟨by kernel_rfl, ?_⟩) (by assumption) ?_
      rotate_left
      · intro wv hSw
        go_simp
        try with_reducible rfl
      simp only [Act.put, List.setIfInBounds_toArray, List.set_cons_zero, List.set_cons_succ, List.getElem_toArray, List.getElem_cons_succ, List.getElem_cons_zero]
      refine wpAnyH_take (i := 21) (v := ?_) rfl (by kernel_rfl) (by kernel_rfl) (by kernel_rfl) (fun _ _ _ h => h) (Or.inl ⟨by kernel_rfl, ?_⟩) (by assumption) ?_
      rotate_left
      · intro wv hSw
        go_simp
        try with_reducible rfl
      simp only [Act.put, List.setIfInBounds_toArray, List.set_cons_zero, List.set_cons_succ, List.getElem_toArray, List.getElem_cons_succ, List.getElem_cons_zero]
      refine wpAnyH_ready (rs := [22]) (by kernel_rfl) (by simp) ?_
      refine AllReadyH.cons rfl (fun K hK => ?_) (AllReadyH.nil)
      have c0 := HT5.out.1.cell hixb
      have fz := HT5.out.1.frozen ix
      go_simp
      have HT2 := Lib.hid (TS.put HT5.out HNE.out HF0.out.2.1 HGE.out.1 ix v)
      refine hK.out _ _ HT2.out.2.2.2 (fun hHeld2 => ?_)
      clear hK K hHeld hHeld2 c0 fz
      have hHeld : (fun W : World => Below w.heap.size w W) _ := HT2.out.2.2.2
      try simp only [Act.put, List.setIfInBounds_toArray, List.set_cons_zero, List.set_cons_succ, List.getElem_toArray, List.getElem_cons_succ, List.getElem_cons_zero]
      refine wpAnyH_done (by kernel_rfl) ?_ _
      refine NoPanic.normal ?_
      clear hHeld
      have HZ2 : Hid (∀ j, (fun j => if j = ix then v else z j) j < 256) := Lib.hid (fun j => by
        show (if j = ix then v else z j) < 256
        split
        · exact hvb
        · exact hzz.out j)
      go_wp2_with fail
      go_roundw
      case rel => exact ⟨k + 1, _, by omega, by go_num, HZ2, HT2⟩
      case measure => simp [intOf]; omega
    · obtain rfl : nb = k := by omega
      have HEN := Lib.hid (And.intro HF0.out.2.1 HF0.out.2.2)
      clear HF0
      go_wp2_with fail
      have HT0 := HT
      have HSS : Hid (∀ V, Below wr.heap.size wr V → SrcC V (some ⟨b2, 0, none⟩) 3 p2 cs0) := Lib.hid (fun V hV => by
        have h1 := RX.src (HT.out.2.1.keep hV) p2 (fun e => by have := HS3.out; rw [e] at this; cases this)
        rw [HS3.out] at h1
        exact h1)
      have HMM : Hid (∀ V, Below wr.heap.size wr V → SrcC V am mn cm ms) := Lib.hid (fun V hV => HMS.out.keep (HT.out.2.2.2.trans (hV.mono HT.out.2.2.2.size)))
      have HB8 : Hid (b8 < wr.heap.size) := Lib.hid (Array.getElem?_eq_some_iff.1 HT.out.2.2.1).1
      have HC8 : Hid (∀ V, Below wr.heap.size wr V → V.cell? ⟨b8, 4, none⟩ = some (.slice (some ⟨b2, 0, none⟩) 3 p2)) := Lib.hid (fun V hV => cell_keep (cell_at (i := 4) HT.out.2.2.1 rfl) hV)
      have HB0 := Lib.hid (Below.refl wr.heap.size wr)
      obtain ⟨W0, rfl⟩ : ∃ W0, W0 = wr := ⟨_, rfl⟩
      clear HT
      refine wp_region_noPanic ?_
      refine wp_region_held_drew (S := fun W : World => Below W0.heap.size W0 W) (by kernel_rfl) ?_ (fun hHeld => ?_)
      · exact HB0.out.drew
      generalize World.drew _ = V20 at hHeld ⊢
      refine wpAnyH_take (i := 0) (v := ?_) rfl (by kernel_rfl) (by kernel_rfl) (by kernel_rfl) (fun _ _ _ h => h) (Or.inl ⟨by kernel_rfl, ?_⟩) (by assumption) ?_
      rotate_left
      · intro wv hSw
        go_simp
        try with_reducible rfl
      simp only [Act.put, List.setIfInBounds_toArray, List.set_cons_zero, List.set_cons_succ, List.getElem_toArray, List.getElem_cons_succ, List.getElem_cons_zero]
      refine wpAnyH_take (i := 1) (v := ?_) rfl (by kernel_rfl) (by kernel_rfl) (by kernel_rfl) (fun _ _ _ h => h) (Or.inl ⟨by kernel_rfl, ?_⟩) (by assumption) ?_
      rotate_left
      · intro wv hSw
        have c0 := HC8.out wv hSw
        go_simp
        try with_reducible rfl
      simp only [Act.put, List.setIfInBounds_toArray, List.set_cons_zero, List.set_cons_succ, List.getElem_toArray, List.getElem_cons_succ, List.getElem_cons_zero]
      refine wpAnyH_take (i := 3) (v := ?_) rfl (by kernel_rfl) (by kernel_rfl) (by kernel_rfl) (fun _ _ _ h => h) (Or.inl ⟨by kernel_rfl, ?_⟩) (by assumption) ?_
      rotate_left
      · intro wv hSw
        go_simp
        try with_reducible rfl
      simp only [Act.put, List.setIfInBounds_toArray, List.set_cons_zero, List.set_cons_succ, List.getElem_toArray, List.getElem_cons_succ, List.getElem_cons_zero]
      refine wpAnyH_take (i := 4) (v := ?_) rfl (by kernel_rfl) (by kernel_rfl) (by kernel_rfl) (fun _ _ _ h => h) (Or.inl ⟨by kernel_rfl, ?_⟩) (by assumption) ?_
      rotate_left
      · intro wv hSw
        have c0 := HC8.out wv hSw
        go_simp
        try with_reducible rfl
      simp only [Act.put, List.setIfInBounds_toArray, List.set_cons_zero, List.set_cons_succ, List.getElem_toArray, List.getElem_cons_succ, List.getElem_cons_zero]
      refine wpAnyH_take (i := 6) (v := ?_) rfl (by kernel_rfl) (by kernel_rfl) (by kernel_rfl) (fun _ _ _ h => h) (Or.inl ⟨by kernel_rfl, ?_⟩) (by assumption) ?_
      rotate_left
      · intro wv hSw
        go_simp
        try with_reducible rfl
      simp only [Act.put, List.setIfInBounds_toArray, List.set_cons_zero, List.set_cons_succ, List.getElem_toArray, List.getElem_cons_succ, List.getElem_cons_zero]
      refine wpAnyH_take (i := 9) (v := ?_) rfl (by kernel_rfl) (by kernel_rfl) (by kernel_rfl) (fun _ _ _ h => h) (Or.inl ⟨by kernel_rfl, ?_⟩) (by assumption) ?_
      rotate_left
      · intro wv hSw
        go_simp
        try with_reducible rfl
      simp only [Act.put, List.setIfInBounds_toArray, List.set_cons_zero, List.set_cons_succ, List.getElem_toArray, List.getElem_cons_succ, List.getElem_cons_zero]
      refine wpAnyH_take (i := 11) (v := ?_) rfl (by kernel_rfl) (by kernel_rfl) (by kernel_rfl) (fun _ _ _ h => h) (Or.inl ⟨by kernel_rfl, ?_⟩) (by assumption) ?_
      rotate_left
      · intro wv hSw
        go_simp
        try with_reducible rfl
      simp only [Act.put, List.setIfInBounds_toArray, List.set_cons_zero, List.set_cons_succ, List.getElem_toArray, List.getElem_cons_succ, List.getElem_cons_zero]
      refine wpAnyH_take (i := 12) (v := ?_) rfl (by kernel_rfl) (by kernel_rfl) (by kernel_rfl) (fun _ _ _ h => h) (Or.inl ⟨by kernel_rfl, ?_⟩) (by assumption) ?_
      rotate_left
      · intro wv hSw
        have c0 := HC8.out wv hSw
        go_simp
        try with_reducible rfl
      simp only [Act.put, List.setIfInBounds_toArray, List.set_cons_zero, List.set_cons_succ, List.getElem_toArray, List.getElem_cons_succ, List.getElem_cons_zero]
      refine wpAnyH_take (i := 16) (v := ?_) rfl (by kernel_rfl) (by kernel_rfl) (by kernel_rfl) (fun _ _ _ h => h) (Or.inl ⟨by kernel_rfl, ?_⟩) (by assumption) ?_
      rotate_left
      · intro wv hSw
        go_simp
        try with_reducible rfl
      simp only [Act.put, List.setIfInBounds_toArray, List.set_cons_zero, List.set_cons_succ, List.getElem_toArray, List.getElem_cons_succ, List.getElem_cons_zero]
      refine wpAnyH_ready (rs := [2, 8]) (by kernel_rfl) (by simp) ?_
      refine AllReadyH.cons rfl (fun K hK => ?_) (AllReadyH.cons rfl (fun K hK => ?_) (AllReadyH.nil))
      · have hN := own_emptyC (V := V20) hHeld.size
        have hB : Below W0.heap.size W0 (World.alloc V20 (.cells #[] 54)) := hHeld.alloc hHeld.size _
        go_simp
        refine hK.out _ _ hB (fun hHeld2 => ?_)
        clear hK K hHeld hHeld2
        have HA := Lib.hid hN
        clear hN
        generalize World.alloc V20 _ = V21 at HA hB ⊢
        generalize (World.heap V20).size = gA1 at HA ⊢
        have hHeld : (fun W : World => Below W0.heap.size W0 W) V21 := hB
        clear hB
        try simp only [Act.put, List.setIfInBounds_toArray, List.set_cons_zero, List.set_cons_succ, List.getElem_toArray, List.getElem_cons_succ, List.getElem_cons_zero]
        refine wpAnyH_ready (rs := [5, 8]) (by kernel_rfl) (by simp) ?_
        refine AllReadyH.cons rfl (fun K hK => ?_) (AllReadyH.cons rfl (fun K hK => ?_) (AllReadyH.nil))
        · rw [if_pos (by kernel_rfl)]
          refine wp_app_secs (x := .tmp 84) (y := .tmp 86) (base := W0.heap.size) (g := gA1) (q := 0) (n := 0) (xs := cellsC []) (M := cs0) rfl rfl rfl HA.out (HSS.out _ hHeld) (by omega) hHeld.size ?_
          intro gA2 qA2 V22 hown hgr hwhere
          have hB := hHeld.grown hgr hHeld.size (fun x e => by cases e; exact own_ge HA.out)
          refine hK.out _ _ hB (fun hHeld2 => ?_)
          clear hK K hHeld hHeld2 HA hgr hwhere
          have HA := Lib.hid hown
          clear hown
          have hHeld : (fun W : World => Below W0.heap.size W0 W) V22 := hB
          clear hB
          try simp only [Act.put, List.setIfInBounds_toArray, List.set_cons_zero, List.set_cons_succ, List.getElem_toArray, List.getElem_cons_succ, List.getElem_cons_zero]
          refine wpAnyH_ready (rs := [7, 8]) (by kernel_rfl) (by simp) ?_
          refine AllReadyH.cons rfl (fun K hK => ?_) (AllReadyH.cons rfl (fun K hK => ?_) (AllReadyH.nil))
          · rw [if_pos (by kernel_rfl)]
            refine wp_app_secs (x := .tmp 87) (y := .tmp 88) (base := W0.heap.size) (g := gA2) (q := qA2) (n := (0 + 3)) (xs := (cellsC [] ++ cellsC cs0)) (M := ms) rfl rfl rfl HA.out (HMM.out _ hHeld) (by omega) hHeld.size ?_
            intro gA3 qA3 V23 hown hgr hwhere
            have hB := hHeld.grown hgr hHeld.size (fun x e => by cases e; exact own_ge HA.out)
            refine hK.out _ _ hB (fun hHeld2 => ?_)
            clear hK K hHeld hHeld2 HA hgr hwhere
            have HA := Lib.hid hown
            clear hown
            have hHeld : (fun W : World => Below W0.heap.size W0 W) V23 := hB
            clear hB
            try simp only [Act.put, List.setIfInBounds_toArray, List.set_cons_zero, List.set_cons_succ, List.getElem_toArray, List.getElem_cons_succ, List.getElem_cons_zero]
            refine wpAnyH_ready (rs := [8]) (by kernel_rfl) (by simp) ?_
            refine AllReadyH.cons rfl (fun K hK => ?_) (AllReadyH.nil)
            have hN := own_emptyC (V := V23) hHeld.size
            have hB : Below W0.heap.size W0 (World.alloc V23 (.cells #[] 54)) := hHeld.alloc hHeld.size _
            have HA2 := Lib.hid (own_keep HA.out ((Below.refl _ _).alloc (Nat.le_refl _) (.cells #[] 54)))
            have HN2 := Lib.hid (Nat.ne_of_gt (own_lt HA.out))
            clear HA
            go_simp
            refine hK.out _ _ hB (fun hHeld2 => ?_)
            clear hK K hHeld hHeld2
            have HB := Lib.hid hN
            clear hN
            generalize World.alloc V23 _ = V24 at HB hB HA2 ⊢
            generalize (World.heap V23).size = gB4 at HB HN2 ⊢
            have hHeld : (fun W : World => Below W0.heap.size W0 W) V24 := hB
            clear hB
            have HA := HA2
            clear HA2
            have HNE2 := HN2
            clear HN2
            try simp only [Act.put, List.setIfInBounds_toArray, List.set_cons_zero, List.set_cons_succ, List.getElem_toArray, List.getElem_cons_succ, List.getElem_cons_zero]
            refine wpAnyH_ready (rs := [10]) (by kernel_rfl) (by simp) ?_
            refine AllReadyH.cons rfl (fun K hK => ?_) (AllReadyH.nil)
            rw [if_pos (by kernel_rfl)]
            refine wp_app_secs (x := .tmp 90) (y := .tmp 91) (base := W0.heap.size) (g := gB4) (q := 0) (n := 0) (xs := cellsC []) (M := ms) rfl rfl rfl HB.out (HMM.out _ hHeld) (by omega) hHeld.size ?_
            intro gB5 qB5 V25 hown hgr hwhere
            have hB := hHeld.grown hgr hHeld.size (fun x e => by cases e; exact own_ge HB.out)
            have HN2 : Hid (gB5 ≠ gA3) := Lib.hid (by
              rcases hwhere with e | e
              · rw [e]
                first | exact HNE2.out | exact fun h => HNE2.out h.symm
              · rw [e]
                exact Nat.ne_of_gt (own_lt HA.out))
            have HA2 := Lib.hid (own_grown HA.out hgr (by first | exact HNE2.out | exact fun h => HNE2.out h.symm))
            clear HA HNE2
            refine hK.out _ _ hB (fun hHeld2 => ?_)
            clear hK K hHeld hHeld2 HB hgr hwhere
            have HB := Lib.hid hown
            clear hown
            have hHeld : (fun W : World => Below W0.heap.size W0 W) V25 := hB
            clear hB
            have HA := HA2
            clear HA2
            have HNE2 := HN2
            clear HN2
            try simp only [Act.put, List.setIfInBounds_toArray, List.set_cons_zero, List.set_cons_succ, List.getElem_toArray, List.getElem_cons_succ, List.getElem_cons_zero]
            refine wpAnyH_ready (rs := [13]) (by kernel_rfl) (by simp) ?_
            refine AllReadyH.cons rfl (fun K hK => ?_) (AllReadyH.nil)
            rw [if_pos (by kernel_rfl)]
            refine wp_app_secs (x := .tmp 92) (y := .tmp 94) (base := W0.heap.size) (g := gB5) (q := qB5) (n := (0 + mn)) (xs := (cellsC [] ++ cellsC ms)) (M := cs0) rfl rfl rfl HB.out (HSS.out _ hHeld) (by omega) hHeld.size ?_
            intro gB6 qB6 V26 hown hgr hwhere
            have hB := hHeld.grown hgr hHeld.size (fun x e => by cases e; exact own_ge HB.out)
            have HN2 : Hid (gB6 ≠ gA3) := Lib.hid (by
              rcases hwhere with e | e
              · rw [e]
                first | exact HNE2.out | exact fun h => HNE2.out h.symm
              · rw [e]
                exact Nat.ne_of_gt (own_lt HA.out))
            have HA2 := Lib.hid (own_grown HA.out hgr (by first | exact HNE2.out | exact fun h => HNE2.out h.symm))
            clear HA HNE2
            refine hK.out _ _ hB (fun hHeld2 => ?_)
            clear hK K hHeld hHeld2 HB hgr hwhere
            have HB := Lib.hid hown
            clear hown
            have hHeld : (fun W : World => Below W0.heap.size W0 W) V26 := hB
            clear hB
            have HA := HA2
            clear HA2
            have HNE2 := HN2
            clear HN2
            try simp only [Act.put, List.setIfInBounds_toArray, List.set_cons_zero, List.set_cons_succ, List.getElem_toArray, List.getElem_cons_succ, List.getElem_cons_zero]
            refine wpAnyH_ready (rs := [14]) (by kernel_rfl) (by simp) ?_
            refine AllReadyH.cons rfl (fun K hK => ?_) (AllReadyH.nil)
            have hB : Below W0.heap.size W0 (World.alloc V26 (.cells #[.slice (some ⟨b2, 0, none⟩) 3 p2, .slice (some ⟨gA3, 0, none⟩) (3 + mn) qA3, .slice (some ⟨gB6, 0, none⟩) (mn + 3) qB6] 24)) := hHeld.alloc hHeld.size _
            have HA2 := Lib.hid (own_keep HA.out ((Below.refl _ _).alloc (Nat.le_refl _) (.cells #[.slice (some ⟨b2, 0, none⟩) 3 p2, .slice (some ⟨gA3, 0, none⟩) (3 + mn) qA3, .slice (some ⟨gB6, 0, none⟩) (mn + 3) qB6] 24)))
            have HB2 := Lib.hid (own_keep HB.out ((Below.refl _ _).alloc (Nat.le_refl _) (.cells #[.slice (some ⟨b2, 0, none⟩) 3 p2, .slice (some ⟨gA3, 0, none⟩) (3 + mn) qA3, .slice (some ⟨gB6, 0, none⟩) (mn + 3) qB6] 24)))
            have HL2 : Hid ((World.alloc V26 (.cells #[.slice (some ⟨b2, 0, none⟩) 3 p2, .slice (some ⟨gA3, 0, none⟩) (3 + mn) qA3, .slice (some ⟨gB6, 0, none⟩) (mn + 3) qB6] 24)).heap[(World.heap V26).size]? = some (.cells #[.slice (some ⟨b2, 0, none⟩) 3 p2, .slice (some ⟨gA3, 0, none⟩) (3 + mn) qA3, .slice (some ⟨gB6, 0, none⟩) (mn + 3) qB6] 24 (0, 0)) ∧ W0.heap.size ≤ (World.heap V26).size) := Lib.hid ⟨heap_alloc_last V26 _, hHeld.size⟩
            clear HA HB HNE2
            rw [Nat.zero_add] at HA2 HB2
            go_simp
            refine hK.out _ _ hB (fun hHeld2 => ?_)
            clear hK K hHeld hHeld2
            generalize World.alloc V26 _ = W9 at HA2 HB2 HL2 hB ⊢
            generalize (World.heap V26).size = b14 at HL2 ⊢
            have hHeld : (fun W : World => Below W0.heap.size W0 W) W9 := hB
            clear hB
            try simp only [Act.put, List.setIfInBounds_toArray, List.set_cons_zero, List.set_cons_succ, List.getElem_toArray, List.getElem_cons_succ, List.getElem_cons_zero]
            refine wpAnyH_take (i := 15) (v := ?_) rfl (by kernel_rfl) (by kernel_rfl) (by kernel_rfl) (fun _ _ _ h => h) (Or.inl ⟨by kernel_rfl, ?_⟩) (by assumption) ?_
            rotate_left
            · intro wv hSw
              go_simp
              try with_reducible rfl
            simp only [Act.put, List.setIfInBounds_toArray, List.set_cons_zero, List.set_cons_succ, List.getElem_toArray, List.getElem_cons_succ, List.getElem_cons_zero]
            refine wpAnyH_done (by kernel_rfl) ?_ _
            refine NoPanic.normal ?_
            have HB9 := Lib.hid hHeld
            clear hHeld
            have HSA := Lib.hid (rx_own (cs := cs0 ++ ms) HA2.out (by simp [cellsC]))
            have HSB := Lib.hid (rx_own (cs := ms ++ cs0) HB2.out (by simp [cellsC]))
            have HEA := Lib.hid (Nat.ne_of_gt (Nat.lt_of_lt_of_le HB8.out (own_ge HA2.out)))
            have HEB := Lib.hid (Nat.ne_of_gt (Nat.lt_of_lt_of_le HB8.out (own_ge HB2.out)))
            clear HA2 HB2
            have HLA : Hid ((cs0 ++ ms).length = 3 + mn ∧ (ms ++ cs0).length = mn + 3) := Lib.hid (by
              rw [List.length_append, List.length_append, HS3.out, HMN.out]
              omega)
            have HOA : Hid ((∀ s, s ∈ cs0 ++ ms → s.ok) ∧ (∀ s, s ∈ ms ++ cs0 → s.ok)) := Lib.hid ⟨fun s hs => (List.mem_append.1 hs).elim (HSOK.out s) (HMOK.out s), fun s hs => (List.mem_append.1 hs).elim (HMOK.out s) (HSOK.out s)⟩
            have HNS : Hid (NS w g N cb z b2 gA3 gB6 b14 b8 cs0 (cs0 ++ ms) (ms ++ cs0) #[.slice (some ⟨b2, 0, none⟩) 3 p2, .slice (some ⟨gA3, 0, none⟩) (3 + mn) qA3, .slice (some ⟨gB6, 0, none⟩) (mn + 3) qB6] W9) := Lib.hid (by
              have h0 := TS.keep HT0.out HB9.out
              exact ⟨h0.1, h0.2.1, HSA.out, HSB.out, HL2.out.1, ⟨_, h0.2.2.1⟩, h0.2.2.2⟩)
            have HEE : Hid (g ≠ b8 ∧ b2 ≠ b8 ∧ gA3 ≠ b8 ∧ gB6 ≠ b8 ∧ b14 ≠ b8 ∧ w.heap.size ≤ b8) := Lib.hid ⟨fun e => HEN.out.1 e.symm, fun e => HEN.out.2 e.symm, HEA.out, HEB.out, Nat.ne_of_gt (Nat.lt_of_lt_of_le HB8.out HL2.out.2), HGE.out.2.2⟩
            clear HSA HSB HEA HEB HL2 HB9 HT0
            have HLL : Hid (3 + mn ≤ 100 ∧ mn + 3 ≤ 100) := Lib.hid (by omega)
            generalize 3 + mn = nA at HLA HNS HLL ⊢
            generalize mn + 3 = nB at HLA HNS HLL ⊢
            generalize cs0 ++ ms = csA at HLA HNS HOA ⊢
            generalize ms ++ cs0 = csB at HLA HNS HOA ⊢
            go_wp2_with fail
            go_loopw [98] (fun i W => ∃ k : Nat, k ≤ 3 ∧ i = .int .i64 k ∧ Hid (NS w g N cb z b2 gA3 gB6 b14 b8 cs0 csA csB #[.slice (some ⟨b2, 0, none⟩) 3 p2, .slice (some ⟨gA3, 0, none⟩) nA qA3, .slice (some ⟨gB6, 0, none⟩) nB qB6] W)) (fun i _ => 3 - (intOf i).toNat)
            case atStart => exact ⟨0, by omega, rfl, HNS⟩
            case round =>
              clear HNS
              obtain ⟨k, hk, rfl, HS⟩ := hrel
              by_cases hlt : k < 3
              rotate_left
              · obtain rfl : k = 3 := by omega
                go_wp2_with (first | (go_at_call 8; refine (HWK.out _).mono ?_) | fail)
                first | (rintro e W8 rfl hb) | (rintro e W8 ⟨rfl, hb⟩)
                have HBZ := Lib.hid (HS.out.2.2.2.2.2.2.trans (hb.mono HS.out.2.2.2.2.2.2.size))
                clear hb
                go_wp2_with fail
                go_ret
                exact ⟨rfl, HBZ.out⟩
              · obtain ⟨bk, nk, ck, csk, hc, hnk, hrx, hbk, hokk, hnk2⟩ := HS.out.pick HS3.out HLA.out.1 HLA.out.2 HSOK.out HOA.out.1 HOA.out.2 HEE.out.2.1 HEE.out.2.2.1 HEE.out.2.2.2.1 (by decide) HLL.out.1 HLL.out.2 hlt
                have hki : (k : Int) < 3 := by omega
                obtain ⟨c4, h8⟩ := HS.out.2.2.2.2.2.1
                have f4 := cell_at (i := 4) (v := c4) h8 rfl
                have z4 := frozen_at h8 4
                have HP : Hid ((NS w g N cb z b2 gA3 gB6 b14 b8 cs0 csA csB #[.slice (some ⟨b2, 0, none⟩) 3 p2, .slice (some ⟨gA3, 0, none⟩) nA qA3, .slice (some ⟨gB6, 0, none⟩) nB qB6] (wr.setCell ⟨b8, 4, none⟩ (.slice (some ⟨bk, 0, none⟩) nk ck)) ∧ (wr.setCell ⟨b8, 4, none⟩ (.slice (some ⟨bk, 0, none⟩) nk ck)).heap[b8]? = some (.cells #[.int .u64 0, .int .u64 0, .int .u64 0, .slice none 0 0, .slice (some ⟨bk, 0, none⟩) nk ck] 31 (0, 0))) ∧ RX (wr.setCell ⟨b8, 4, none⟩ (.slice (some ⟨bk, 0, none⟩) nk ck)) (some ⟨bk, 0, none⟩) (csk.flatMap Sc.cs)) := Lib.hid ⟨HS.out.put HEE.out.1 HEE.out.2.1 HEE.out.2.2.1 HEE.out.2.2.2.1 HEE.out.2.2.2.2.1 HEE.out.2.2.2.2.2 _, hrx.far hbk 4 _⟩
                have HCK := Lib.hid (And.intro hnk hokk)
                clear hnk hokk hrx hbk h8 HS
                go_upto_region 12 with fail
                generalize World.setCell wr _ _ = W5 at HP ⊢
                clear hc f4 z4
                have HRD : Hid (∀ V, Below W5.heap.size W5 V → Calls Try.prog 10 #[.slice (some ⟨g, 0, none⟩) N cb, .agg #[.int .u64 0, .int .u64 0, .int .u64 0, .slice none 0 0, .slice (some ⟨bk, 0, none⟩) nk ck]] V fun e W' => ∃ v, e = .returned (.tuple #[v, .int .i64 (readZ z N csk).2]) ∧ SY V (readZ z N csk).1 v W') := Lib.hid (fun V hV => by
                  have h1 := read_any (some ⟨g, 0, none⟩) N cb z hzz.out (.int .u64 0) (.int .u64 0) (.int .u64 0) (.slice none 0 0) (some ⟨bk, 0, none⟩) ck csk HCK.out.2 (by have h3 := HCK.out.1; omega) V ((HP.out.1.1.keep hV).1.bz HNC.out.1 HNC.out.2) (HP.out.2.keep hV)
                  rw [HCK.out.1] at h1
                  exact h1)
                have HRR : Hid (∀ V, Below W5.heap.size W5 V → Calls Try.prog 11 #[.slice (some ⟨g, 0, none⟩) N cb, .agg #[.int .u64 0, .int .u64 0, .int .u64 0, .slice none 0 0, .slice (some ⟨bk, 0, none⟩) nk ck]] V fun e W' => ∃ v, e = .returned (.tuple #[v, .int .i64 (readZ z N csk).2]) ∧ SY V (readZ z N csk).1 v W') := Lib.hid (fun V hV => by
                  have h1 := rread_any (some ⟨g, 0, none⟩) N cb z hzz.out (.int .u64 0) (.int .u64 0) (.int .u64 0) (.slice none 0 0) (some ⟨bk, 0, none⟩) ck csk HCK.out.2 (by have h3 := HCK.out.1; omega) V ((HP.out.1.1.keep hV).1.bz HNC.out.1 HNC.out.2) (HP.out.2.keep hV)
                  rw [HCK.out.1] at h1
                  exact h1)
                have hlen : (readZ z N csk).1.length ≤ 200 := readZ_len
                generalize (readZ z N csk).1 = L at HRD HRR hlen
                generalize (readZ z N csk).2 = E at HRD HRR
                obtain ⟨ln, hln⟩ : ∃ ln, L.length = ln := ⟨_, rfl⟩
                rw [hln] at hlen
                have HLN := Lib.hid hln
                clear hln
                have HB5 := Lib.hid (Below.refl W5.heap.size W5)
                have HC5 : Hid (∀ V, Below W5.heap.size W5 V → V.cell? ⟨b8, 0, none⟩ = some (.int .u64 0) ∧ V.cell? ⟨b8, 1, none⟩ = some (.int .u64 0) ∧ V.cell? ⟨b8, 2, none⟩ = some (.int .u64 0) ∧ V.cell? ⟨b8, 3, none⟩ = some (.slice none 0 0) ∧ V.cell? ⟨b8, 4, none⟩ = some (.slice (some ⟨bk, 0, none⟩) nk ck)) := Lib.hid (fun V hV => ⟨cell_keep (cell_at (i := 0) HP.out.1.2 rfl) hV, cell_keep (cell_at (i := 1) HP.out.1.2 rfl) hV, cell_keep (cell_at (i := 2) HP.out.1.2 rfl) hV, cell_keep (cell_at (i := 3) HP.out.1.2 rfl) hV, cell_keep (cell_at (i := 4) HP.out.1.2 rfl) hV⟩)
                have HNN : Hid (∀ V, Below W5.heap.size W5 V → NS w g N cb z b2 gA3 gB6 b14 b8 cs0 csA csB #[.slice (some ⟨b2, 0, none⟩) 3 p2, .slice (some ⟨gA3, 0, none⟩) nA qA3, .slice (some ⟨gB6, 0, none⟩) nB qB6] V) := Lib.hid (fun V hV => HP.out.1.1.keep hV)
                clear HP HCK
                obtain ⟨h0, h1, h2, h3, h4⟩ := HC5.out W5 HB5.out
                go_wp2_with (first | (go_at_call 10; refine (HRD.out _ HB5.out).mono ?_) | fail)
                first | (rintro e W6 v rfl hS) | (rintro e W6 ⟨v, rfl, hS⟩)
                have hS1 := hS
                obtain ⟨a5, c5, rfl⟩ := owns_slice hS1.1
                have HX5 := Lib.hid (And.intro (RX.own hS.1) (HB5.out.trans (hS.2.mono HB5.out.size)))
                rw [HLN.out]
                clear hS hS1 h0 h1 h2 h3 h4 HRD
                obtain ⟨h0, h1, h2, h3, h4⟩ := HC5.out W6 HX5.out.2
                go_wp2_with (first | (go_at_call 11; refine (HRR.out _ HX5.out.2).mono ?_) | fail)
                first | (rintro e W7 v rfl hS) | (rintro e W7 ⟨v, rfl, hS⟩)
                have hS1 := hS
                obtain ⟨a6, c6, rfl⟩ := owns_slice hS1.1
                have HX6 : Hid (RX W7 a6 (L.flatMap Sy.cs) ∧ RX W7 a5 (L.flatMap Sy.cs) ∧ Below W5.heap.size W5 W7) := Lib.hid ⟨RX.own hS.1, HX5.out.1.keep hS.2, HX5.out.2.trans (hS.2.mono HX5.out.2.size)⟩
                rw [HLN.out]
                clear hS hS1 h0 h1 h2 h3 h4 HRR HX5 HC5
                have HB7 := Lib.hid (Below.refl W7.heap.size W7)
                have H12 : Hid (∀ V, Below W7.heap.size W7 V → Calls Try.prog 12 #[.slice a5 ln c5, .slice a6 ln c6] V fun e W' => e = .returned (.bool true) ∧ Below W7.heap.size W7 W') := Lib.hid (fun V hV => by
                  have h5 := rsame_any a5 a6 c5 c6 L L (by have := HLN.out; omega) (by have := HLN.out; omega) V (HX6.out.2.1.keep hV) (HX6.out.1.keep hV)
                  rw [HLN.out, decide_eq_true rfl] at h5
                  exact h5.mono (fun e W' hp => ⟨hp.1, hV.trans (hp.2.mono hV.size)⟩))
                have H13 : Hid (∀ V, Below W7.heap.size W7 V → Calls Try.prog 13 #[.slice a5 ln c5, .slice a6 ln c6] V fun e W' => e = .returned (.bool true) ∧ Below W7.heap.size W7 W') := Lib.hid (fun V hV => by
                  have h5 := same_any a5 a6 c5 c6 L L (by have := HLN.out; omega) (by have := HLN.out; omega) V (HX6.out.2.1.keep hV) (HX6.out.1.keep hV)
                  rw [HLN.out, decide_eq_true rfl] at h5
                  exact h5.mono (fun e W' hp => ⟨hp.1, hV.trans (hp.2.mono hV.size)⟩))
                go_wp2_with (first | (go_at_call 12; refine (H12.out _ HB7.out).mono ?_) | fail)
                first | (rintro e W8 rfl hb) | (rintro e W8 ⟨rfl, hb⟩)
                have HB8 := Lib.hid hb
                clear hb
                go_wp2_with (first | (go_at_call 13; refine (H13.out _ HB8.out).mono ?_) | fail)
                first | (rintro e W9 rfl hb) | (rintro e W9 ⟨rfl, hb⟩)
                have HB9 := Lib.hid hb
                clear hb HB8
                go_wp2_with (first | (go_at_call 12; refine (H12.out _ HB9.out).mono ?_) | fail)
                first | (rintro e W10 rfl hb) | (rintro e W10 ⟨rfl, hb⟩)
                have HB10 := Lib.hid hb
                clear hb HB9 H12 H13
                have HFD : Hid (∀ V, Below W7.heap.size W7 V → Calls Try.prog 14 #[.slice a6 ln c6, .string nm] V fun e W' => e = .returned (findV L nm) ∧ Below W7.heap.size W7 W') := Lib.hid (fun V hV => by
                  have h5 := find_any a6 c6 L nm (by have := HLN.out; omega) V (HX6.out.1.keep hV)
                  rw [HLN.out] at h5
                  exact h5.mono (fun e W' hp => ⟨hp.1, hV.trans (hp.2.mono hV.size)⟩))
                have HRF : Hid (∀ V, Below W7.heap.size W7 V → Calls Try.prog 15 #[.slice a6 ln c6, .string nm] V fun e W' => e = .returned (findV L nm) ∧ Below V.heap.size V W') := Lib.hid (fun V hV => by
                  have h5 := rfind_any a6 c6 L nm (by have := HLN.out; omega) V (HX6.out.1.keep hV)
                  rw [HLN.out] at h5
                  exact h5)
                obtain ⟨s, ev, hv⟩ := found2 L nm
                rw [hv] at HFD HRF
                clear hv
                obtain ⟨s1, s2, s3, s4⟩ := s
                unfold Sy.v at HFD HRF
                dsimp only at HFD HRF
                go_wp2_with (first | (go_at_call 14; refine (HFD.out _ HB10.out).mono ?_) | fail)
                first | (rintro e W11 rfl hb) | (rintro e W11 ⟨rfl, hb⟩)
                have HN1 : Hid (YB (W11.alloc (.cells #[.string s1, .int .u64 (s2 : Nat), .int .u64 (s3 : Nat), .bool s4] 42)) W11.heap.size (s1, s2, s3, s4) ∧ Below W7.heap.size W7 (W11.alloc (.cells #[.string s1, .int .u64 (s2 : Nat), .int .u64 (s3 : Nat), .bool s4] 42))) := Lib.hid ⟨heap_alloc_last W11 _, hb.alloc hb.size _⟩
                clear hb HB10 HFD
                go_upto_region 17 with fail
                generalize World.alloc W11 _ = W12 at HN1 ⊢
                generalize W11.heap.size = y1 at HN1 ⊢
                go_wp2_with (first | (go_at_call 15; refine (HRF.out _ HN1.out.2).mono ?_) | fail)
                first | (rintro e W13 rfl hb) | (rintro e W13 ⟨rfl, hb⟩)
                have HFU : Hid (∀ V, Below W7.heap.size W7 V → Calls Try.prog 16 #[.slice a6 ln c6] V fun e W' => ∃ v, e = .returned v ∧ ∃ L', (Up L' ∧ SameK (L.filter isF) L') ∧ SY V L' v W') := Lib.hid (fun V hV => by
                  have h5 := funcs_any a6 c6 L (by have := HLN.out; omega) V (HX6.out.1.keep hV)
                  rw [HLN.out] at h5
                  exact h5)
                have HRU : Hid (∀ V, Below W7.heap.size W7 V → Calls Try.prog 17 #[.slice a6 ln c6] V fun e W' => ∃ v, e = .returned v ∧ ∃ a3 c3 L', v = .slice a3 (List.length L') c3 ∧ (Up L' ∧ SameK (L.filter isF) L') ∧ OV W' a3 c3 L' ∧ Below V.heap.size V W') := Lib.hid (fun V hV => by
                  have h5 := rfuncs_any a6 c6 L (by have := HLN.out; omega) V (HX6.out.1.keep hV)
                  rw [HLN.out] at h5
                  exact h5)
                have HN2 : Hid (YB (W13.alloc (.cells #[.string s1, .int .u64 (s2 : Nat), .int .u64 (s3 : Nat), .bool s4] 42)) W13.heap.size (s1, s2, s3, s4) ∧ YB (W13.alloc (.cells #[.string s1, .int .u64 (s2 : Nat), .int .u64 (s3 : Nat), .bool s4] 42)) y1 (s1, s2, s3, s4) ∧ Below W7.heap.size W7 (W13.alloc (.cells #[.string s1, .int .u64 (s2 : Nat), .int .u64 (s3 : Nat), .bool s4] 42))) := Lib.hid (by
                  have hk := (Below.refl W13.heap.size W13).alloc (Nat.le_refl _) (.cells #[.string s1, .int .u64 (s2 : Nat), .int .u64 (s3 : Nat), .bool s4] 42)
                  have h5 := HN1.out.2.trans (hb.mono HN1.out.2.size)
                  exact ⟨heap_alloc_last W13 _, (HN1.out.1.keep hb).keep hk, h5.trans (hk.mono h5.size)⟩)
                clear hb HN1 HRF
                go_upto_region 18 with fail
                generalize World.alloc W13 _ = W14 at HN2 ⊢
                generalize W13.heap.size = y2 at HN2 ⊢
                obtain ⟨c0, c1, c2, c3⟩ := HN2.out.1.c
                obtain ⟨e0, e1, e2, e3⟩ := HN2.out.2.1.c
                dsimp only at c0 c1 c2 c3 e0 e1 e2 e3
                go_wp2_with (first | (go_at_call 16; refine (HFU.out _ HN2.out.2.2).mono ?_) | fail)
                first | (rintro e W15 v rfl L1 q1 q0 q2; have HF1 := Lib.hid (And.intro (And.intro q1 q0) q2); clear q1 q0 q2) | (rintro e W15 ⟨v, rfl, L1, q1, q2⟩; have HF1 := Lib.hid (And.intro q1 q2); clear q1 q2)
                obtain ⟨a7, c7, rfl⟩ := owns_slice HF1.out.2.1
                have HG1 : Hid (RX W15 a7 (L1.flatMap Sy.cs) ∧ Below W7.heap.size W7 W15) := Lib.hid ⟨RX.own HF1.out.2.1, HN2.out.2.2.trans (HF1.out.2.2.mono HN2.out.2.2.size)⟩
                clear c0 c1 c2 c3 e0 e1 e2 e3 HN2 HFU
                go_wp2_with (first | (go_at_call 17; refine (HRU.out _ HG1.out.2).mono ?_) | fail)
                first | (rintro e W16 v rfl a8 c8 L2 rfl q1 q0 q2 q3) | (rintro e W16 ⟨v, rfl, a8, c8, L2, rfl, ⟨q1, q0⟩, q2, q3⟩)
                have he : L2 = L1 := Up.unique HF1.out.1.1 q1 (SameK.trans (SameK.symm HF1.out.1.2) q0)
                rw [he] at q2 ⊢
                clear he q1 q0
                have HG2 : Hid (RX W16 a7 (L1.flatMap Sy.cs) ∧ RX W16 a8 (L1.flatMap Sy.cs) ∧ Below W7.heap.size W7 W16) := Lib.hid ⟨HG1.out.1.keep q3, q2.1, HG1.out.2.trans (q3.mono HG1.out.2.size)⟩
                have hl1 : L1.length ≤ 200 := by
                  have h5 := SameK.len HF1.out.1.2
                  have h6 := List.length_filter_le isF L
                  have h7 := HLN.out
                  omega
                clear q2 q3 HG1 HF1 HRU
                have H12 : Hid (Calls Try.prog 12 #[.slice a7 L1.length c7, .slice a8 L1.length c8] W16 fun e W' => e = .returned (.bool true) ∧ Below W7.heap.size W7 W') := Lib.hid (by
                  have h5 := rsame_any a7 a8 c7 c8 L1 L1 (by omega) (by omega) W16 HG2.out.1 HG2.out.2.1
                  rw [decide_eq_true rfl] at h5
                  exact h5.mono (fun e W' hp => ⟨hp.1, HG2.out.2.2.trans (hp.2.mono HG2.out.2.2.size)⟩))
                generalize L1.length = l1 at H12 hl1 ⊢
                go_wp2_with (first | (go_at_call 12; refine H12.out.mono ?_) | fail)
                first | (rintro e W17 rfl hb) | (rintro e W17 ⟨rfl, hb⟩)
                have HB17 := Lib.hid (HNN.out _ (HX6.out.2.2.trans (hb.mono HX6.out.2.2.size)))
                clear hb HX6 H12 HG2 HNN
                go_wp2_with fail
                go_roundw
                case rel => exact ⟨k + 1, by omega, by go_num, HB17⟩
                case measure => simp [intOf]; omega
          · have hN := own_emptyC (V := V22) hHeld.size
            have hB : Below W0.heap.size W0 (World.alloc V22 (.cells #[] 54)) := hHeld.alloc hHeld.size _
            have HA2 := Lib.hid (own_keep HA.out ((Below.refl _ _).alloc (Nat.le_refl _) (.cells #[] 54)))
            have HN2 := Lib.hid (Nat.ne_of_gt (own_lt HA.out))
            clear HA
            go_simp
            refine hK.out _ _ hB (fun hHeld2 => ?_)
            clear hK K hHeld hHeld2
            have HB := Lib.hid hN
            clear hN
            generalize World.alloc V22 _ = V28 at HB hB HA2 ⊢
            generalize (World.heap V22).size = gB8 at HB HN2 ⊢
            have hHeld : (fun W : World => Below W0.heap.size W0 W) V28 := hB
            clear hB
            have HA := HA2
            clear HA2
            have HNE2 := HN2
            clear HN2
            try simp only [Act.put, List.setIfInBounds_toArray, List.set_cons_zero, List.set_cons_succ, List.getElem_toArray, List.getElem_cons_succ, List.getElem_cons_zero]
            refine wpAnyH_ready (rs := [7]) (by kernel_rfl) (by simp) ?_
            refine AllReadyH.cons rfl (fun K hK => ?_) (AllReadyH.nil)
            rw [if_pos (by kernel_rfl)]
            refine wp_app_secs (x := .tmp 87) (y := .tmp 88) (base := W0.heap.size) (g := gA2) (q := qA2) (n := (0 + 3)) (xs := (cellsC [] ++ cellsC cs0)) (M := ms) rfl rfl rfl HA.out (HMM.out _ hHeld) (by omega) hHeld.size ?_
            intro gA9 qA9 V29 hown hgr hwhere
            have hB := hHeld.grown hgr hHeld.size (fun x e => by cases e; exact own_ge HA.out)
            have HN2 : Hid (gA9 ≠ gB8) := Lib.hid (by
              rcases hwhere with e | e
              · rw [e]
                first | exact HNE2.out | exact fun h => HNE2.out h.symm
              · rw [e]
                exact Nat.ne_of_gt (own_lt HB.out))
            have HB2 := Lib.hid (own_grown HB.out hgr (by first | exact HNE2.out | exact fun h => HNE2.out h.symm))
            clear HB HNE2
            refine hK.out _ _ hB (fun hHeld2 => ?_)
            clear hK K hHeld hHeld2 HA hgr hwhere
            have HA := Lib.hid hown
            clear hown
            have hHeld : (fun W : World => Below W0.heap.size W0 W) V29 := hB
            clear hB
            have HB := HB2
            clear HB2
            have HNE2 := HN2
            clear HN2
            try simp only [Act.put, List.setIfInBounds_toArray, List.set_cons_zero, List.set_cons_succ, List.getElem_toArray, List.getElem_cons_succ, List.getElem_cons_zero]
            refine wpAnyH_ready (rs := [10]) (by kernel_rfl) (by simp) ?_
            refine AllReadyH.cons rfl (fun K hK => ?_) (AllReadyH.nil)
            rw [if_pos (by kernel_rfl)]
            refine wp_app_secs (x := .tmp 90) (y := .tmp 91) (base := W0.heap.size) (g := gB8) (q := 0) (n := 0) (xs := cellsC []) (M := ms) rfl rfl rfl HB.out (HMM.out _ hHeld) (by omega) hHeld.size ?_
            intro gB10 qB10 V30 hown hgr hwhere
            have hB := hHeld.grown hgr hHeld.size (fun x e => by cases e; exact own_ge HB.out)
            have HN2 : Hid (gB10 ≠ gA9) := Lib.hid (by
              rcases hwhere with e | e
              · rw [e]
                first | exact HNE2.out | exact fun h => HNE2.out h.symm
              · rw [e]
                exact Nat.ne_of_gt (own_lt HA.out))
            have HA2 := Lib.hid (own_grown HA.out hgr (by first | exact HNE2.out | exact fun h => HNE2.out h.symm))
            clear HA HNE2
            refine hK.out _ _ hB (fun hHeld2 => ?_)
            clear hK K hHeld hHeld2 HB hgr hwhere
            have HB := Lib.hid hown
            clear hown
            have hHeld : (fun W : World => Below W0.heap.size W0 W) V30 := hB
            clear hB
            have HA := HA2
            clear HA2
            have HNE2 := HN2
            clear HN2
            try simp only [Act.put, List.setIfInBounds_toArray, List.set_cons_zero, List.set_cons_succ, List.getElem_toArray, List.getElem_cons_succ, List.getElem_cons_zero]
            refine wpAnyH_ready (rs := [13]) (by kernel_rfl) (by simp) ?_
            refine AllReadyH.cons rfl (fun K hK => ?_) (AllReadyH.nil)
            rw [if_pos (by kernel_rfl)]
            refine wp_app_secs (x := .tmp 92) (y := .tmp 94) (base := W0.heap.size) (g := gB10) (q := qB10) (n := (0 + mn)) (xs := (cellsC [] ++ cellsC ms)) (M := cs0) rfl rfl rfl HB.out (HSS.out _ hHeld) (by omega) hHeld.size ?_
            intro gB11 qB11 V31 hown hgr hwhere
            have hB := hHeld.grown hgr hHeld.size (fun x e => by cases e; exact own_ge HB.out)
            have HN2 : Hid (gB11 ≠ gA9) := Lib.hid (by
              rcases hwhere with e | e
              · rw [e]
                first | exact HNE2.out | exact fun h => HNE2.out h.symm
              · rw [e]
                exact Nat.ne_of_gt (own_lt HA.out))
            have HA2 := Lib.hid (own_grown HA.out hgr (by first | exact HNE2.out | exact fun h => HNE2.out h.symm))
            clear HA HNE2
            refine hK.out _ _ hB (fun hHeld2 => ?_)
            clear hK K hHeld hHeld2 HB hgr hwhere
            have HB := Lib.hid hown
            clear hown
            have hHeld : (fun W : World => Below W0.heap.size W0 W) V31 := hB
            clear hB
            have HA := HA2
            clear HA2
            have HNE2 := HN2
            clear HN2
            try simp only [Act.put, List.setIfInBounds_toArray, List.set_cons_zero, List.set_cons_succ, List.getElem_toArray, List.getElem_cons_succ, List.getElem_cons_zero]
            refine wpAnyH_ready (rs := [14]) (by kernel_rfl) (by simp) ?_
            refine AllReadyH.cons rfl (fun K hK => ?_) (AllReadyH.nil)
            have hB : Below W0.heap.size W0 (World.alloc V31 (.cells #[.slice (some ⟨b2, 0, none⟩) 3 p2, .slice (some ⟨gA9, 0, none⟩) (3 + mn) qA9, .slice (some ⟨gB11, 0, none⟩) (mn + 3) qB11] 24)) := hHeld.alloc hHeld.size _
            have HA2 := Lib.hid (own_keep HA.out ((Below.refl _ _).alloc (Nat.le_refl _) (.cells #[.slice (some ⟨b2, 0, none⟩) 3 p2, .slice (some ⟨gA9, 0, none⟩) (3 + mn) qA9, .slice (some ⟨gB11, 0, none⟩) (mn + 3) qB11] 24)))
            have HB2 := Lib.hid (own_keep HB.out ((Below.refl _ _).alloc (Nat.le_refl _) (.cells #[.slice (some ⟨b2, 0, none⟩) 3 p2, .slice (some ⟨gA9, 0, none⟩) (3 + mn) qA9, .slice (some ⟨gB11, 0, none⟩) (mn + 3) qB11] 24)))
            have HL2 : Hid ((World.alloc V31 (.cells #[.slice (some ⟨b2, 0, none⟩) 3 p2, .slice (some ⟨gA9, 0, none⟩) (3 + mn) qA9, .slice (some ⟨gB11, 0, none⟩) (mn + 3) qB11] 24)).heap[(World.heap V31).size]? = some (.cells #[.slice (some ⟨b2, 0, none⟩) 3 p2, .slice (some ⟨gA9, 0, none⟩) (3 + mn) qA9, .slice (some ⟨gB11, 0, none⟩) (mn + 3) qB11] 24 (0, 0)) ∧ W0.heap.size ≤ (World.heap V31).size) := Lib.hid ⟨heap_alloc_last V31 _, hHeld.size⟩
            clear HA HB HNE2
            rw [Nat.zero_add] at HA2 HB2
            go_simp
            refine hK.out _ _ hB (fun hHeld2 => ?_)
            clear hK K hHeld hHeld2
            generalize World.alloc V31 _ = W9 at HA2 HB2 HL2 hB ⊢
            generalize (World.heap V31).size = b14 at HL2 ⊢
            have hHeld : (fun W : World => Below W0.heap.size W0 W) W9 := hB
            clear hB
            try simp only [Act.put, List.setIfInBounds_toArray, List.set_cons_zero, List.set_cons_succ, List.getElem_toArray, List.getElem_cons_succ, List.getElem_cons_zero]
            refine wpAnyH_take (i := 15) (v := ?_) rfl (by kernel_rfl) (by kernel_rfl) (by kernel_rfl) (fun _ _ _ h => h) (Or.inl ⟨by kernel_rfl, ?_⟩) (by assumption) ?_
            rotate_left
            · intro wv hSw
              go_simp
              try with_reducible rfl
            simp only [Act.put, List.setIfInBounds_toArray, List.set_cons_zero, List.set_cons_succ, List.getElem_toArray, List.getElem_cons_succ, List.getElem_cons_zero]
            refine wpAnyH_done (by kernel_rfl) ?_ _
            refine NoPanic.normal ?_
            have HB9 := Lib.hid hHeld
            clear hHeld
            have HSA := Lib.hid (rx_own (cs := cs0 ++ ms) HA2.out (by simp [cellsC]))
            have HSB := Lib.hid (rx_own (cs := ms ++ cs0) HB2.out (by simp [cellsC]))
            have HEA := Lib.hid (Nat.ne_of_gt (Nat.lt_of_lt_of_le HB8.out (own_ge HA2.out)))
            have HEB := Lib.hid (Nat.ne_of_gt (Nat.lt_of_lt_of_le HB8.out (own_ge HB2.out)))
            clear HA2 HB2
            have HLA : Hid ((cs0 ++ ms).length = 3 + mn ∧ (ms ++ cs0).length = mn + 3) := Lib.hid (by
              rw [List.length_append, List.length_append, HS3.out, HMN.out]
              omega)
            have HOA : Hid ((∀ s, s ∈ cs0 ++ ms → s.ok) ∧ (∀ s, s ∈ ms ++ cs0 → s.ok)) := Lib.hid ⟨fun s hs => (List.mem_append.1 hs).elim (HSOK.out s) (HMOK.out s), fun s hs => (List.mem_append.1 hs).elim (HMOK.out s) (HSOK.out s)⟩
            have HNS : Hid (NS w g N cb z b2 gA9 gB11 b14 b8 cs0 (cs0 ++ ms) (ms ++ cs0) #[.slice (some ⟨b2, 0, none⟩) 3 p2, .slice (some ⟨gA9, 0, none⟩) (3 + mn) qA9, .slice (some ⟨gB11, 0, none⟩) (mn + 3) qB11] W9) := Lib.hid (by
              have h0 := TS.keep HT0.out HB9.out
              exact ⟨h0.1, h0.2.1, HSA.out, HSB.out, HL2.out.1, ⟨_, h0.2.2.1⟩, h0.2.2.2⟩)
            have HEE : Hid (g ≠ b8 ∧ b2 ≠ b8 ∧ gA9 ≠ b8 ∧ gB11 ≠ b8 ∧ b14 ≠ b8 ∧ w.heap.size ≤ b8) := Lib.hid ⟨fun e => HEN.out.1 e.symm, fun e => HEN.out.2 e.symm, HEA.out, HEB.out, Nat.ne_of_gt (Nat.lt_of_lt_of_le HB8.out HL2.out.2), HGE.out.2.2⟩
            clear HSA HSB HEA HEB HL2 HB9 HT0
            have HLL : Hid (3 + mn ≤ 100 ∧ mn + 3 ≤ 100) := Lib.hid (by omega)
            generalize 3 + mn = nA at HLA HNS HLL ⊢
            generalize mn + 3 = nB at HLA HNS HLL ⊢
            generalize cs0 ++ ms = csA at HLA HNS HOA ⊢
            generalize ms ++ cs0 = csB at HLA HNS HOA ⊢
            go_wp2_with fail
            go_loopw [98] (fun i W => ∃ k : Nat, k ≤ 3 ∧ i = .int .i64 k ∧ Hid (NS w g N cb z b2 gA9 gB11 b14 b8 cs0 csA csB #[.slice (some ⟨b2, 0, none⟩) 3 p2, .slice (some ⟨gA9, 0, none⟩) nA qA9, .slice (some ⟨gB11, 0, none⟩) nB qB11] W)) (fun i _ => 3 - (intOf i).toNat)
            case atStart => exact ⟨0, by omega, rfl, HNS⟩
            case round =>
              clear HNS
              obtain ⟨k, hk, rfl, HS⟩ := hrel
              by_cases hlt : k < 3
              rotate_left
              · obtain rfl : k = 3 := by omega
                go_wp2_with (first | (go_at_call 8; refine (HWK.out _).mono ?_) | fail)
                first | (rintro e W8 rfl hb) | (rintro e W8 ⟨rfl, hb⟩)
                have HBZ := Lib.hid (HS.out.2.2.2.2.2.2.trans (hb.mono HS.out.2.2.2.2.2.2.size))
                clear hb
                go_wp2_with fail
                go_ret
                exact ⟨rfl, HBZ.out⟩
              · obtain ⟨bk, nk, ck, csk, hc, hnk, hrx, hbk, hokk, hnk2⟩ := HS.out.pick HS3.out HLA.out.1 HLA.out.2 HSOK.out HOA.out.1 HOA.out.2 HEE.out.2.1 HEE.out.2.2.1 HEE.out.2.2.2.1 (by decide) HLL.out.1 HLL.out.2 hlt
                have hki : (k : Int) < 3 := by omega
                obtain ⟨c4, h8⟩ := HS.out.2.2.2.2.2.1
                have f4 := cell_at (i := 4) (v := c4) h8 rfl
                have z4 := frozen_at h8 4
                have HP : Hid ((NS w g N cb z b2 gA9 gB11 b14 b8 cs0 csA csB #[.slice (some ⟨b2, 0, none⟩) 3 p2, .slice (some ⟨gA9, 0, none⟩) nA qA9, .slice (some ⟨gB11, 0, none⟩) nB qB11] (wr.setCell ⟨b8, 4, none⟩ (.slice (some ⟨bk, 0, none⟩) nk ck)) ∧ (wr.setCell ⟨b8, 4, none⟩ (.slice (some ⟨bk, 0, none⟩) nk ck)).heap[b8]? = some (.cells #[.int .u64 0, .int .u64 0, .int .u64 0, .slice none 0 0, .slice (some ⟨bk, 0, none⟩) nk ck] 31 (0, 0))) ∧ RX (wr.setCell ⟨b8, 4, none⟩ (.slice (some ⟨bk, 0, none⟩) nk ck)) (some ⟨bk, 0, none⟩) (csk.flatMap Sc.cs)) := Lib.hid ⟨HS.out.put HEE.out.1 HEE.out.2.1 HEE.out.2.2.1 HEE.out.2.2.2.1 HEE.out.2.2.2.2.1 HEE.out.2.2.2.2.2 _, hrx.far hbk 4 _⟩
                have HCK := Lib.hid (And.intro hnk hokk)
                clear hnk hokk hrx hbk h8 HS
                go_upto_region 12 with fail
                generalize World.setCell wr _ _ = W5 at HP ⊢
                clear hc f4 z4
                have HRD : Hid (∀ V, Below W5.heap.size W5 V → Calls Try.prog 10 #[.slice (some ⟨g, 0, none⟩) N cb, .agg #[.int .u64 0, .int .u64 0, .int .u64 0, .slice none 0 0, .slice (some ⟨bk, 0, none⟩) nk ck]] V fun e W' => ∃ v, e = .returned (.tuple #[v, .int .i64 (readZ z N csk).2]) ∧ SY V (readZ z N csk).1 v W') := Lib.hid (fun V hV => by
                  have h1 := read_any (some ⟨g, 0, none⟩) N cb z hzz.out (.int .u64 0) (.int .u64 0) (.int .u64 0) (.slice none 0 0) (some ⟨bk, 0, none⟩) ck csk HCK.out.2 (by have h3 := HCK.out.1; omega) V ((HP.out.1.1.keep hV).1.bz HNC.out.1 HNC.out.2) (HP.out.2.keep hV)
                  rw [HCK.out.1] at h1
                  exact h1)
                have HRR : Hid (∀ V, Below W5.heap.size W5 V → Calls Try.prog 11 #[.slice (some ⟨g, 0, none⟩) N cb, .agg #[.int .u64 0, .int .u64 0, .int .u64 0, .slice none 0 0, .slice (some ⟨bk, 0, none⟩) nk ck]] V fun e W' => ∃ v, e = .returned (.tuple #[v, .int .i64 (readZ z N csk).2]) ∧ SY V (readZ z N csk).1 v W') := Lib.hid (fun V hV => by
                  have h1 := rread_any (some ⟨g, 0, none⟩) N cb z hzz.out (.int .u64 0) (.int .u64 0) (.int .u64 0) (.slice none 0 0) (some ⟨bk, 0, none⟩) ck csk HCK.out.2 (by have h3 := HCK.out.1; omega) V ((HP.out.1.1.keep hV).1.bz HNC.out.1 HNC.out.2) (HP.out.2.keep hV)
                  rw [HCK.out.1] at h1
                  exact h1)
                have hlen : (readZ z N csk).1.length ≤ 200 := readZ_len
                generalize (readZ z N csk).1 = L at HRD HRR hlen
                generalize (readZ z N csk).2 = E at HRD HRR
                obtain ⟨ln, hln⟩ : ∃ ln, L.length = ln := ⟨_, rfl⟩
                rw [hln] at hlen
                have HLN := Lib.hid hln
                clear hln
                have HB5 := Lib.hid (Below.refl W5.heap.size W5)
                have HC5 : Hid (∀ V, Below W5.heap.size W5 V → V.cell? ⟨b8, 0, none⟩ = some (.int .u64 0) ∧ V.cell? ⟨b8, 1, none⟩ = some (.int .u64 0) ∧ V.cell? ⟨b8, 2, none⟩ = some (.int .u64 0) ∧ V.cell? ⟨b8, 3, none⟩ = some (.slice none 0 0) ∧ V.cell? ⟨b8, 4, none⟩ = some (.slice (some ⟨bk, 0, none⟩) nk ck)) := Lib.hid (fun V hV => ⟨cell_keep (cell_at (i := 0) HP.out.1.2 rfl) hV, cell_keep (cell_at (i := 1) HP.out.1.2 rfl) hV, cell_keep (cell_at (i := 2) HP.out.1.2 rfl) hV, cell_keep (cell_at (i := 3) HP.out.1.2 rfl) hV, cell_keep (cell_at (i := 4) HP.out.1.2 rfl) hV⟩)
                have HNN : Hid (∀ V, Below W5.heap.size W5 V → NS w g N cb z b2 gA9 gB11 b14 b8 cs0 csA csB #[.slice (some ⟨b2, 0, none⟩) 3 p2, .slice (some ⟨gA9, 0, none⟩) nA qA9, .slice (some ⟨gB11, 0, none⟩) nB qB11] V) := Lib.hid (fun V hV => HP.out.1.1.keep hV)
                clear HP HCK
                obtain ⟨h0, h1, h2, h3, h4⟩ := HC5.out W5 HB5.out
                go_wp2_with (first | (go_at_call 10; refine (HRD.out _ HB5.out).mono ?_) | fail)
                first | (rintro e W6 v rfl hS) | (rintro e W6 ⟨v, rfl, hS⟩)
                have hS1 := hS
                obtain ⟨a5, c5, rfl⟩ := owns_slice hS1.1
                have HX5 := Lib.hid (And.intro (RX.own hS.1) (HB5.out.trans (hS.2.mono HB5.out.size)))
                rw [HLN.out]
                clear hS hS1 h0 h1 h2 h3 h4 HRD
                obtain ⟨h0, h1, h2, h3, h4⟩ := HC5.out W6 HX5.out.2
                go_wp2_with (first | (go_at_call 11; refine (HRR.out _ HX5.out.2).mono ?_) | fail)
                first | (rintro e W7 v rfl hS) | (rintro e W7 ⟨v, rfl, hS⟩)
                have hS1 := hS
                obtain ⟨a6, c6, rfl⟩ := owns_slice hS1.1
                have HX6 : Hid (RX W7 a6 (L.flatMap Sy.cs) ∧ RX W7 a5 (L.flatMap Sy.cs) ∧ Below W5.heap.size W5 W7) := Lib.hid ⟨RX.own hS.1, HX5.out.1.keep hS.2, HX5.out.2.trans (hS.2.mono HX5.out.2.size)⟩
                rw [HLN.out]
                clear hS hS1 h0 h1 h2 h3 h4 HRR HX5 HC5
                have HB7 := Lib.hid (Below.refl W7.heap.size W7)
                have H12 : Hid (∀ V, Below W7.heap.size W7 V → Calls Try.prog 12 #[.slice a5 ln c5, .slice a6 ln c6] V fun e W' => e = .returned (.bool true) ∧ Below W7.heap.size W7 W') := Lib.hid (fun V hV => by
                  have h5 := rsame_any a5 a6 c5 c6 L L (by have := HLN.out; omega) (by have := HLN.out; omega) V (HX6.out.2.1.keep hV) (HX6.out.1.keep hV)
                  rw [HLN.out, decide_eq_true rfl] at h5
                  exact h5.mono (fun e W' hp => ⟨hp.1, hV.trans (hp.2.mono hV.size)⟩))
                have H13 : Hid (∀ V, Below W7.heap.size W7 V → Calls Try.prog 13 #[.slice a5 ln c5, .slice a6 ln c6] V fun e W' => e = .returned (.bool true) ∧ Below W7.heap.size W7 W') := Lib.hid (fun V hV => by
                  have h5 := same_any a5 a6 c5 c6 L L (by have := HLN.out; omega) (by have := HLN.out; omega) V (HX6.out.2.1.keep hV) (HX6.out.1.keep hV)
                  rw [HLN.out, decide_eq_true rfl] at h5
                  exact h5.mono (fun e W' hp => ⟨hp.1, hV.trans (hp.2.mono hV.size)⟩))
                go_wp2_with (first | (go_at_call 12; refine (H12.out _ HB7.out).mono ?_) | fail)
                first | (rintro e W8 rfl hb) | (rintro e W8 ⟨rfl, hb⟩)
                have HB8 := Lib.hid hb
                clear hb
                go_wp2_with (first | (go_at_call 13; refine (H13.out _ HB8.out).mono ?_) | fail)
                first | (rintro e W9 rfl hb) | (rintro e W9 ⟨rfl, hb⟩)
                have HB9 := Lib.hid hb
                clear hb HB8
                go_wp2_with (first | (go_at_call 12; refine (H12.out _ HB9.out).mono ?_) | fail)
                first | (rintro e W10 rfl hb) | (rintro e W10 ⟨rfl, hb⟩)
                have HB10 := Lib.hid hb
                clear hb HB9 H12 H13
                have HFD : Hid (∀ V, Below W7.heap.size W7 V → Calls Try.prog 14 #[.slice a6 ln c6, .string nm] V fun e W' => e = .returned (findV L nm) ∧ Below W7.heap.size W7 W') := Lib.hid (fun V hV => by
                  have h5 := find_any a6 c6 L nm (by have := HLN.out; omega) V (HX6.out.1.keep hV)
                  rw [HLN.out] at h5
                  exact h5.mono (fun e W' hp => ⟨hp.1, hV.trans (hp.2.mono hV.size)⟩))
                have HRF : Hid (∀ V, Below W7.heap.size W7 V → Calls Try.prog 15 #[.slice a6 ln c6, .string nm] V fun e W' => e = .returned (findV L nm) ∧ Below V.heap.size V W') := Lib.hid (fun V hV => by
                  have h5 := rfind_any a6 c6 L nm (by have := HLN.out; omega) V (HX6.out.1.keep hV)
                  rw [HLN.out] at h5
                  exact h5)
                obtain ⟨s, ev, hv⟩ := found2 L nm
                rw [hv] at HFD HRF
                clear hv
                obtain ⟨s1, s2, s3, s4⟩ := s
                unfold Sy.v at HFD HRF
                dsimp only at HFD HRF
                go_wp2_with (first | (go_at_call 14; refine (HFD.out _ HB10.out).mono ?_) | fail)
                first | (rintro e W11 rfl hb) | (rintro e W11 ⟨rfl, hb⟩)
                have HN1 : Hid (YB (W11.alloc (.cells #[.string s1, .int .u64 (s2 : Nat), .int .u64 (s3 : Nat), .bool s4] 42)) W11.heap.size (s1, s2, s3, s4) ∧ Below W7.heap.size W7 (W11.alloc (.cells #[.string s1, .int .u64 (s2 : Nat), .int .u64 (s3 : Nat), .bool s4] 42))) := Lib.hid ⟨heap_alloc_last W11 _, hb.alloc hb.size _⟩
                clear hb HB10 HFD
                go_upto_region 17 with fail
                generalize World.alloc W11 _ = W12 at HN1 ⊢
                generalize W11.heap.size = y1 at HN1 ⊢
                go_wp2_with (first | (go_at_call 15; refine (HRF.out _ HN1.out.2).mono ?_) | fail)
                first | (rintro e W13 rfl hb) | (rintro e W13 ⟨rfl, hb⟩)
                have HFU : Hid (∀ V, Below W7.heap.size W7 V → Calls Try.prog 16 #[.slice a6 ln c6] V fun e W' => ∃ v, e = .returned v ∧ ∃ L', (Up L' ∧ SameK (L.filter isF) L') ∧ SY V L' v W') := Lib.hid (fun V hV => by
                  have h5 := funcs_any a6 c6 L (by have := HLN.out; omega) V (HX6.out.1.keep hV)
                  rw [HLN.out] at h5
                  exact h5)
                have HRU : Hid (∀ V, Below W7.heap.size W7 V → Calls Try.prog 17 #[.slice a6 ln c6] V fun e W' => ∃ v, e = .returned v ∧ ∃ a3 c3 L', v = .slice a3 (List.length L') c3 ∧ (Up L' ∧ SameK (L.filter isF) L') ∧ OV W' a3 c3 L' ∧ Below V.heap.size V W') := Lib.hid (fun V hV => by
                  have h5 := rfuncs_any a6 c6 L (by have := HLN.out; omega) V (HX6.out.1.keep hV)
                  rw [HLN.out] at h5
                  exact h5)
                have HN2 : Hid (YB (W13.alloc (.cells #[.string s1, .int .u64 (s2 : Nat), .int .u64 (s3 : Nat), .bool s4] 42)) W13.heap.size (s1, s2, s3, s4) ∧ YB (W13.alloc (.cells #[.string s1, .int .u64 (s2 : Nat), .int .u64 (s3 : Nat), .bool s4] 42)) y1 (s1, s2, s3, s4) ∧ Below W7.heap.size W7 (W13.alloc (.cells #[.string s1, .int .u64 (s2 : Nat), .int .u64 (s3 : Nat), .bool s4] 42))) := Lib.hid (by
                  have hk := (Below.refl W13.heap.size W13).alloc (Nat.le_refl _) (.cells #[.string s1, .int .u64 (s2 : Nat), .int .u64 (s3 : Nat), .bool s4] 42)
                  have h5 := HN1.out.2.trans (hb.mono HN1.out.2.size)
                  exact ⟨heap_alloc_last W13 _, (HN1.out.1.keep hb).keep hk, h5.trans (hk.mono h5.size)⟩)
                clear hb HN1 HRF
                go_upto_region 18 with fail
                generalize World.alloc W13 _ = W14 at HN2 ⊢
                generalize W13.heap.size = y2 at HN2 ⊢
                obtain ⟨c0, c1, c2, c3⟩ := HN2.out.1.c
                obtain ⟨e0, e1, e2, e3⟩ := HN2.out.2.1.c
                dsimp only at c0 c1 c2 c3 e0 e1 e2 e3
                go_wp2_with (first | (go_at_call 16; refine (HFU.out _ HN2.out.2.2).mono ?_) | fail)
                first | (rintro e W15 v rfl L1 q1 q0 q2; have HF1 := Lib.hid (And.intro (And.intro q1 q0) q2); clear q1 q0 q2) | (rintro e W15 ⟨v, rfl, L1, q1, q2⟩; have HF1 := Lib.hid (And.intro q1 q2); clear q1 q2)
                obtain ⟨a7, c7, rfl⟩ := owns_slice HF1.out.2.1
                have HG1 : Hid (RX W15 a7 (L1.flatMap Sy.cs) ∧ Below W7.heap.size W7 W15) := Lib.hid ⟨RX.own HF1.out.2.1, HN2.out.2.2.trans (HF1.out.2.2.mono HN2.out.2.2.size)⟩
                clear c0 c1 c2 c3 e0 e1 e2 e3 HN2 HFU
                go_wp2_with (first | (go_at_call 17; refine (HRU.out _ HG1.out.2).mono ?_) | fail)
                first | (rintro e W16 v rfl a8 c8 L2 rfl q1 q0 q2 q3) | (rintro e W16 ⟨v, rfl, a8, c8, L2, rfl, ⟨q1, q0⟩, q2, q3⟩)
                have he : L2 = L1 := Up.unique HF1.out.1.1 q1 (SameK.trans (SameK.symm HF1.out.1.2) q0)
                rw [he] at q2 ⊢
                clear he q1 q0
                have HG2 : Hid (RX W16 a7 (L1.flatMap Sy.cs) ∧ RX W16 a8 (L1.flatMap Sy.cs) ∧ Below W7.heap.size W7 W16) := Lib.hid ⟨HG1.out.1.keep q3, q2.1, HG1.out.2.trans (q3.mono HG1.out.2.size)⟩
                have hl1 : L1.length ≤ 200 := by
                  have h5 := SameK.len HF1.out.1.2
                  have h6 := List.length_filter_le isF L
                  have h7 := HLN.out
                  omega
                clear q2 q3 HG1 HF1 HRU
                have H12 : Hid (Calls Try.prog 12 #[.slice a7 L1.length c7, .slice a8 L1.length c8] W16 fun e W' => e = .returned (.bool true) ∧ Below W7.heap.size W7 W') := Lib.hid (by
                  have h5 := rsame_any a7 a8 c7 c8 L1 L1 (by omega) (by omega) W16 HG2.out.1 HG2.out.2.1
                  rw [decide_eq_true rfl] at h5
                  exact h5.mono (fun e W' hp => ⟨hp.1, HG2.out.2.2.trans (hp.2.mono HG2.out.2.2.size)⟩))
                generalize L1.length = l1 at H12 hl1 ⊢
                go_wp2_with (first | (go_at_call 12; refine H12.out.mono ?_) | fail)
                first | (rintro e W17 rfl hb) | (rintro e W17 ⟨rfl, hb⟩)
                have HB17 := Lib.hid (HNN.out _ (HX6.out.2.2.trans (hb.mono HX6.out.2.2.size)))
                clear hb HX6 H12 HG2 HNN
                go_wp2_with fail
                go_roundw
                case rel => exact ⟨k + 1, by omega, by go_num, HB17⟩
                case measure => simp [intOf]; omega
        · have hN := own_emptyC (V := V21) hHeld.size
          have hB : Below W0.heap.size W0 (World.alloc V21 (.cells #[] 54)) := hHeld.alloc hHeld.size _
          have HA2 := Lib.hid (own_keep HA.out ((Below.refl _ _).alloc (Nat.le_refl _) (.cells #[] 54)))
          have HN2 := Lib.hid (Nat.ne_of_gt (own_lt HA.out))
          clear HA
          go_simp
          refine hK.out _ _ hB (fun hHeld2 => ?_)
          clear hK K hHeld hHeld2
          have HB := Lib.hid hN
          clear hN
          generalize World.alloc V21 _ = V33 at HB hB HA2 ⊢
          generalize (World.heap V21).size = gB13 at HB HN2 ⊢
          have hHeld : (fun W : World => Below W0.heap.size W0 W) V33 := hB
          clear hB
          have HA := HA2
          clear HA2
          have HNE2 := HN2
          clear HN2
          try simp only [Act.put, List.setIfInBounds_toArray, List.set_cons_zero, List.set_cons_succ, List.getElem_toArray, List.getElem_cons_succ, List.getElem_cons_zero]
          refine wpAnyH_ready (rs := [5]) (by kernel_rfl) (by simp) ?_
          refine AllReadyH.cons rfl (fun K hK => ?_) (AllReadyH.nil)
          rw [if_pos (by kernel_rfl)]
          refine wp_app_secs (x := .tmp 84) (y := .tmp 86) (base := W0.heap.size) (g := gA1) (q := 0) (n := 0) (xs := cellsC []) (M := cs0) rfl rfl rfl HA.out (HSS.out _ hHeld) (by omega) hHeld.size ?_
          intro gA14 qA14 V34 hown hgr hwhere
          have hB := hHeld.grown hgr hHeld.size (fun x e => by cases e; exact own_ge HA.out)
          have HN2 : Hid (gA14 ≠ gB13) := Lib.hid (by
            rcases hwhere with e | e
            · rw [e]
              first | exact HNE2.out | exact fun h => HNE2.out h.symm
            · rw [e]
              exact Nat.ne_of_gt (own_lt HB.out))
          have HB2 := Lib.hid (own_grown HB.out hgr (by first | exact HNE2.out | exact fun h => HNE2.out h.symm))
          clear HB HNE2
          refine hK.out _ _ hB (fun hHeld2 => ?_)
          clear hK K hHeld hHeld2 HA hgr hwhere
          have HA := Lib.hid hown
          clear hown
          have hHeld : (fun W : World => Below W0.heap.size W0 W) V34 := hB
          clear hB
          have HB := HB2
          clear HB2
          have HNE2 := HN2
          clear HN2
          try simp only [Act.put, List.setIfInBounds_toArray, List.set_cons_zero, List.set_cons_succ, List.getElem_toArray, List.getElem_cons_succ, List.getElem_cons_zero]
          refine wpAnyH_ready (rs := [7]) (by kernel_rfl) (by simp) ?_
          refine AllReadyH.cons rfl (fun K hK => ?_) (AllReadyH.nil)
          rw [if_pos (by kernel_rfl)]
          refine wp_app_secs (x := .tmp 87) (y := .tmp 88) (base := W0.heap.size) (g := gA14) (q := qA14) (n := (0 + 3)) (xs := (cellsC [] ++ cellsC cs0)) (M := ms) rfl rfl rfl HA.out (HMM.out _ hHeld) (by omega) hHeld.size ?_
          intro gA15 qA15 V35 hown hgr hwhere
          have hB := hHeld.grown hgr hHeld.size (fun x e => by cases e; exact own_ge HA.out)
          have HN2 : Hid (gA15 ≠ gB13) := Lib.hid (by
            rcases hwhere with e | e
            · rw [e]
              first | exact HNE2.out | exact fun h => HNE2.out h.symm
            · rw [e]
              exact Nat.ne_of_gt (own_lt HB.out))
          have HB2 := Lib.hid (own_grown HB.out hgr (by first | exact HNE2.out | exact fun h => HNE2.out h.symm))
          clear HB HNE2
          refine hK.out _ _ hB (fun hHeld2 => ?_)
          clear hK K hHeld hHeld2 HA hgr hwhere
          have HA := Lib.hid hown
          clear hown
          have hHeld : (fun W : World => Below W0.heap.size W0 W) V35 := hB
          clear hB
          have HB := HB2
          clear HB2
          have HNE2 := HN2
          clear HN2
          try simp only [Act.put, List.setIfInBounds_toArray, List.set_cons_zero, List.set_cons_succ, List.getElem_toArray, List.getElem_cons_succ, List.getElem_cons_zero]
          refine wpAnyH_ready (rs := [10]) (by kernel_rfl) (by simp) ?_
          refine AllReadyH.cons rfl (fun K hK => ?_) (AllReadyH.nil)
          rw [if_pos (by kernel_rfl)]
          refine wp_app_secs (x := .tmp 90) (y := .tmp 91) (base := W0.heap.size) (g := gB13) (q := 0) (n := 0) (xs := cellsC []) (M := ms) rfl rfl rfl HB.out (HMM.out _ hHeld) (by omega) hHeld.size ?_
          intro gB16 qB16 V36 hown hgr hwhere
          have hB := hHeld.grown hgr hHeld.size (fun x e => by cases e; exact own_ge HB.out)
          have HN2 : Hid (gB16 ≠ gA15) := Lib.hid (by
            rcases hwhere with e | e
            · rw [e]
              first | exact HNE2.out | exact fun h => HNE2.out h.symm
            · rw [e]
              exact Nat.ne_of_gt (own_lt HA.out))
          have HA2 := Lib.hid (own_grown HA.out hgr (by first | exact HNE2.out | exact fun h => HNE2.out h.symm))
          clear HA HNE2
          refine hK.out _ _ hB (fun hHeld2 => ?_)
          clear hK K hHeld hHeld2 HB hgr hwhere
          have HB := Lib.hid hown
          clear hown
          have hHeld : (fun W : World => Below W0.heap.size W0 W) V36 := hB
          clear hB
          have HA := HA2
          clear HA2
          have HNE2 := HN2
          clear HN2
          try simp only [Act.put, List.setIfInBounds_toArray, List.set_cons_zero, List.set_cons_succ, List.getElem_toArray, List.getElem_cons_succ, List.getElem_cons_zero]
          refine wpAnyH_ready (rs := [13]) (by kernel_rfl) (by simp) ?_
          refine AllReadyH.cons rfl (fun K hK => ?_) (AllReadyH.nil)
          rw [if_pos (by kernel_rfl)]
          refine wp_app_secs (x := .tmp 92) (y := .tmp 94) (base := W0.heap.size) (g := gB16) (q := qB16) (n := (0 + mn)) (xs := (cellsC [] ++ cellsC ms)) (M := cs0) rfl rfl rfl HB.out (HSS.out _ hHeld) (by omega) hHeld.size ?_
          intro gB17 qB17 V37 hown hgr hwhere
          have hB := hHeld.grown hgr hHeld.size (fun x e => by cases e; exact own_ge HB.out)
          have HN2 : Hid (gB17 ≠ gA15) := Lib.hid (by
            rcases hwhere with e | e
            · rw [e]
              first | exact HNE2.out | exact fun h => HNE2.out h.symm
            · rw [e]
              exact Nat.ne_of_gt (own_lt HA.out))
          have HA2 := Lib.hid (own_grown HA.out hgr (by first | exact HNE2.out | exact fun h => HNE2.out h.symm))
          clear HA HNE2
          refine hK.out _ _ hB (fun hHeld2 => ?_)
          clear hK K hHeld hHeld2 HB hgr hwhere
          have HB := Lib.hid hown
          clear hown
          have hHeld : (fun W : World => Below W0.heap.size W0 W) V37 := hB
          clear hB
          have HA := HA2
          clear HA2
          have HNE2 := HN2
          clear HN2
          try simp only [Act.put, List.setIfInBounds_toArray, List.set_cons_zero, List.set_cons_succ, List.getElem_toArray, List.getElem_cons_succ, List.getElem_cons_zero]
          refine wpAnyH_ready (rs := [14]) (by kernel_rfl) (by simp) ?_
          refine AllReadyH.cons rfl (fun K hK => ?_) (AllReadyH.nil)
          have hB : Below W0.heap.size W0 (World.alloc V37 (.cells #[.slice (some ⟨b2, 0, none⟩) 3 p2, .slice (some ⟨gA15, 0, none⟩) (3 + mn) qA15, .slice (some ⟨gB17, 0, none⟩) (mn + 3) qB17] 24)) := hHeld.alloc hHeld.size _
          have HA2 := Lib.hid (own_keep HA.out ((Below.refl _ _).alloc (Nat.le_refl _) (.cells #[.slice (some ⟨b2, 0, none⟩) 3 p2, .slice (some ⟨gA15, 0, none⟩) (3 + mn) qA15, .slice (some ⟨gB17, 0, none⟩) (mn + 3) qB17] 24)))
          have HB2 := Lib.hid (own_keep HB.out ((Below.refl _ _).alloc (Nat.le_refl _) (.cells #[.slice (some ⟨b2, 0, none⟩) 3 p2, .slice (some ⟨gA15, 0, none⟩) (3 + mn) qA15, .slice (some ⟨gB17, 0, none⟩) (mn + 3) qB17] 24)))
          have HL2 : Hid ((World.alloc V37 (.cells #[.slice (some ⟨b2, 0, none⟩) 3 p2, .slice (some ⟨gA15, 0, none⟩) (3 + mn) qA15, .slice (some ⟨gB17, 0, none⟩) (mn + 3) qB17] 24)).heap[(World.heap V37).size]? = some (.cells #[.slice (some ⟨b2, 0, none⟩) 3 p2, .slice (some ⟨gA15, 0, none⟩) (3 + mn) qA15, .slice (some ⟨gB17, 0, none⟩) (mn + 3) qB17] 24 (0, 0)) ∧ W0.heap.size ≤ (World.heap V37).size) := Lib.hid ⟨heap_alloc_last V37 _, hHeld.size⟩
          clear HA HB HNE2
          rw [Nat.zero_add] at HA2 HB2
          go_simp
          refine hK.out _ _ hB (fun hHeld2 => ?_)
          clear hK K hHeld hHeld2
          generalize World.alloc V37 _ = W9 at HA2 HB2 HL2 hB ⊢
          generalize (World.heap V37).size = b14 at HL2 ⊢
          have hHeld : (fun W : World => Below W0.heap.size W0 W) W9 := hB
          clear hB
          try simp only [Act.put, List.setIfInBounds_toArray, List.set_cons_zero, List.set_cons_succ, List.getElem_toArray, List.getElem_cons_succ, List.getElem_cons_zero]
          refine wpAnyH_take (i := 15) (v := ?_) rfl (by kernel_rfl) (by kernel_rfl) (by kernel_rfl) (fun _ _ _ h => h) (Or.inl ⟨by kernel_rfl, ?_⟩) (by assumption) ?_
          rotate_left
          · intro wv hSw
            go_simp
            try with_reducible rfl
          simp only [Act.put, List.setIfInBounds_toArray, List.set_cons_zero, List.set_cons_succ, List.getElem_toArray, List.getElem_cons_succ, List.getElem_cons_zero]
          refine wpAnyH_done (by kernel_rfl) ?_ _
          refine NoPanic.normal ?_
          have HB9 := Lib.hid hHeld
          clear hHeld
          have HSA := Lib.hid (rx_own (cs := cs0 ++ ms) HA2.out (by simp [cellsC]))
          have HSB := Lib.hid (rx_own (cs := ms ++ cs0) HB2.out (by simp [cellsC]))
          have HEA := Lib.hid (Nat.ne_of_gt (Nat.lt_of_lt_of_le HB8.out (own_ge HA2.out)))
          have HEB := Lib.hid (Nat.ne_of_gt (Nat.lt_of_lt_of_le HB8.out (own_ge HB2.out)))
          clear HA2 HB2
          have HLA : Hid ((cs0 ++ ms).length = 3 + mn ∧ (ms ++ cs0).length = mn + 3) := Lib.hid (by
            rw [List.length_append, List.length_append, HS3.out, HMN.out]
            omega)
          have HOA : Hid ((∀ s, s ∈ cs0 ++ ms → s.ok) ∧ (∀ s, s ∈ ms ++ cs0 → s.ok)) := Lib.hid ⟨fun s hs => (List.mem_append.1 hs).elim (HSOK.out s) (HMOK.out s), fun s hs => (List.mem_append.1 hs).elim (HMOK.out s) (HSOK.out s)⟩
          have HNS : Hid (NS w g N cb z b2 gA15 gB17 b14 b8 cs0 (cs0 ++ ms) (ms ++ cs0) #[.slice (some ⟨b2, 0, none⟩) 3 p2, .slice (some ⟨gA15, 0, none⟩) (3 + mn) qA15, .slice (some ⟨gB17, 0, none⟩) (mn + 3) qB17] W9) := Lib.hid (by
            have h0 := TS.keep HT0.out HB9.out
            exact ⟨h0.1, h0.2.1, HSA.out, HSB.out, HL2.out.1, ⟨_, h0.2.2.1⟩, h0.2.2.2⟩)
          have HEE : Hid (g ≠ b8 ∧ b2 ≠ b8 ∧ gA15 ≠ b8 ∧ gB17 ≠ b8 ∧ b14 ≠ b8 ∧ w.heap.size ≤ b8) := Lib.hid ⟨fun e => HEN.out.1 e.symm, fun e => HEN.out.2 e.symm, HEA.out, HEB.out, Nat.ne_of_gt (Nat.lt_of_lt_of_le HB8.out HL2.out.2), HGE.out.2.2⟩
          clear HSA HSB HEA HEB HL2 HB9 HT0
          have HLL : Hid (3 + mn ≤ 100 ∧ mn + 3 ≤ 100) := Lib.hid (by omega)
          generalize 3 + mn = nA at HLA HNS HLL ⊢
          generalize mn + 3 = nB at HLA HNS HLL ⊢
          generalize cs0 ++ ms = csA at HLA HNS HOA ⊢
          generalize ms ++ cs0 = csB at HLA HNS HOA ⊢
          go_wp2_with fail
          go_loopw [98] (fun i W => ∃ k : Nat, k ≤ 3 ∧ i = .int .i64 k ∧ Hid (NS w g N cb z b2 gA15 gB17 b14 b8 cs0 csA csB #[.slice (some ⟨b2, 0, none⟩) 3 p2, .slice (some ⟨gA15, 0, none⟩) nA qA15, .slice (some ⟨gB17, 0, none⟩) nB qB17] W)) (fun i _ => 3 - (intOf i).toNat)
          case atStart => exact ⟨0, by omega, rfl, HNS⟩
          case round =>
            clear HNS
            obtain ⟨k, hk, rfl, HS⟩ := hrel
            by_cases hlt : k < 3
            rotate_left
            · obtain rfl : k = 3 := by omega
              go_wp2_with (first | (go_at_call 8; refine (HWK.out _).mono ?_) | fail)
              first | (rintro e W8 rfl hb) | (rintro e W8 ⟨rfl, hb⟩)
              have HBZ := Lib.hid (HS.out.2.2.2.2.2.2.trans (hb.mono HS.out.2.2.2.2.2.2.size))
              clear hb
              go_wp2_with fail
              go_ret
              exact ⟨rfl, HBZ.out⟩
            · obtain ⟨bk, nk, ck, csk, hc, hnk, hrx, hbk, hokk, hnk2⟩ := HS.out.pick HS3.out HLA.out.1 HLA.out.2 HSOK.out HOA.out.1 HOA.out.2 HEE.out.2.1 HEE.out.2.2.1 HEE.out.2.2.2.1 (by decide) HLL.out.1 HLL.out.2 hlt
              have hki : (k : Int) < 3 := by omega
              obtain ⟨c4, h8⟩ := HS.out.2.2.2.2.2.1
              have f4 := cell_at (i := 4) (v := c4) h8 rfl
              have z4 := frozen_at h8 4
              have HP : Hid ((NS w g N cb z b2 gA15 gB17 b14 b8 cs0 csA csB #[.slice (some ⟨b2, 0, none⟩) 3 p2, .slice (some ⟨gA15, 0, none⟩) nA qA15, .slice (some ⟨gB17, 0, none⟩) nB qB17] (wr.setCell ⟨b8, 4, none⟩ (.slice (some ⟨bk, 0, none⟩) nk ck)) ∧ (wr.setCell ⟨b8, 4, none⟩ (.slice (some ⟨bk, 0, none⟩) nk ck)).heap[b8]? = some (.cells #[.int .u64 0, .int .u64 0, .int .u64 0, .slice none 0 0, .slice (some ⟨bk, 0, none⟩) nk ck] 31 (0, 0))) ∧ RX (wr.setCell ⟨b8, 4, none⟩ (.slice (some ⟨bk, 0, none⟩) nk ck)) (some ⟨bk, 0, none⟩) (csk.flatMap Sc.cs)) := Lib.hid ⟨HS.out.put HEE.out.1 HEE.out.2.1 HEE.out.2.2.1 HEE.out.2.2.2.1 HEE.out.2.2.2.2.1 HEE.out.2.2.2.2.2 _, hrx.far hbk 4 _⟩
              have HCK := Lib.hid (And.intro hnk hokk)
              clear hnk hokk hrx hbk h8 HS
              go_upto_region 12 with fail
              generalize World.setCell wr _ _ = W5 at HP ⊢
              clear hc f4 z4
              have HRD : Hid (∀ V, Below W5.heap.size W5 V → Calls Try.prog 10 #[.slice (some ⟨g, 0, none⟩) N cb, .agg #[.int .u64 0, .int .u64 0, .int .u64 0, .slice none 0 0, .slice (some ⟨bk, 0, none⟩) nk ck]] V fun e W' => ∃ v, e = .returned (.tuple #[v, .int .i64 (readZ z N csk).2]) ∧ SY V (readZ z N csk).1 v W') := Lib.hid (fun V hV => by
                have h1 := read_any (some ⟨g, 0, none⟩) N cb z hzz.out (.int .u64 0) (.int .u64 0) (.int .u64 0) (.slice none 0 0) (some ⟨bk, 0, none⟩) ck csk HCK.out.2 (by have h3 := HCK.out.1; omega) V ((HP.out.1.1.keep hV).1.bz HNC.out.1 HNC.out.2) (HP.out.2.keep hV)
                rw [HCK.out.1] at h1
                exact h1)
              have HRR : Hid (∀ V, Below W5.heap.size W5 V → Calls Try.prog 11 #[.slice (some ⟨g, 0, none⟩) N cb, .agg #[.int .u64 0, .int .u64 0, .int .u64 0, .slice none 0 0, .slice (some ⟨bk, 0, none⟩) nk ck]] V fun e W' => ∃ v, e = .returned (.tuple #[v, .int .i64 (readZ z N csk).2]) ∧ SY V (readZ z N csk).1 v W') := Lib.hid (fun V hV => by
                have h1 := rread_any (some ⟨g, 0, none⟩) N cb z hzz.out (.int .u64 0) (.int .u64 0) (.int .u64 0) (.slice none 0 0) (some ⟨bk, 0, none⟩) ck csk HCK.out.2 (by have h3 := HCK.out.1; omega) V ((HP.out.1.1.keep hV).1.bz HNC.out.1 HNC.out.2) (HP.out.2.keep hV)
                rw [HCK.out.1] at h1
                exact h1)
              have hlen : (readZ z N csk).1.length ≤ 200 := readZ_len
              generalize (readZ z N csk).1 = L at HRD HRR hlen
              generalize (readZ z N csk).2 = E at HRD HRR
              obtain ⟨ln, hln⟩ : ∃ ln, L.length = ln := ⟨_, rfl⟩
              rw [hln] at hlen
              have HLN := Lib.hid hln
              clear hln
              have HB5 := Lib.hid (Below.refl W5.heap.size W5)
              have HC5 : Hid (∀ V, Below W5.heap.size W5 V → V.cell? ⟨b8, 0, none⟩ = some (.int .u64 0) ∧ V.cell? ⟨b8, 1, none⟩ = some (.int .u64 0) ∧ V.cell? ⟨b8, 2, none⟩ = some (.int .u64 0) ∧ V.cell? ⟨b8, 3, none⟩ = some (.slice none 0 0) ∧ V.cell? ⟨b8, 4, none⟩ = some (.slice (some ⟨bk, 0, none⟩) nk ck)) := Lib.hid (fun V hV => ⟨cell_keep (cell_at (i := 0) HP.out.1.2 rfl) hV, cell_keep (cell_at (i := 1) HP.out.1.2 rfl) hV, cell_keep (cell_at (i := 2) HP.out.1.2 rfl) hV, cell_keep (cell_at (i := 3) HP.out.1.2 rfl) hV, cell_keep (cell_at (i := 4) HP.out.1.2 rfl) hV⟩)
              have HNN : Hid (∀ V, Below W5.heap.size W5 V → NS w g N cb z b2 gA15 gB17 b14 b8 cs0 csA csB #[.slice (some ⟨b2, 0, none⟩) 3 p2, .slice (some ⟨gA15, 0, none⟩) nA qA15, .slice (some ⟨gB17, 0, none⟩) nB qB17] V) := Lib.hid (fun V hV => HP.out.1.1.keep hV)
              clear HP HCK
              obtain ⟨h0, h1, h2, h3, h4⟩ := HC5.out W5 HB5.out
              go_wp2_with (first | (go_at_call 10; refine (HRD.out _ HB5.out).mono ?_) | fail)
              first | (rintro e W6 v rfl hS) | (rintro e W6 ⟨v, rfl, hS⟩)
              have hS1 := hS
              obtain ⟨a5, c5, rfl⟩ := owns_slice hS1.1
              have HX5 := Lib.hid (And.intro (RX.own hS.1) (HB5.out.trans (hS.2.mono HB5.out.size)))
              rw [HLN.out]
              clear hS hS1 h0 h1 h2 h3 h4 HRD
              obtain ⟨h0, h1, h2, h3, h4⟩ := HC5.out W6 HX5.out.2
              go_wp2_with (first | (go_at_call 11; refine (HRR.out _ HX5.out.2).mono ?_) | fail)
              first | (rintro e W7 v rfl hS) | (rintro e W7 ⟨v, rfl, hS⟩)
              have hS1 := hS
              obtain ⟨a6, c6, rfl⟩ := owns_slice hS1.1
              have HX6 : Hid (RX W7 a6 (L.flatMap Sy.cs) ∧ RX W7 a5 (L.flatMap Sy.cs) ∧ Below W5.heap.size W5 W7) := Lib.hid ⟨RX.own hS.1, HX5.out.1.keep hS.2, HX5.out.2.trans (hS.2.mono HX5.out.2.size)⟩
              rw [HLN.out]
              clear hS hS1 h0 h1 h2 h3 h4 HRR HX5 HC5
              have HB7 := Lib.hid (Below.refl W7.heap.size W7)
              have H12 : Hid (∀ V, Below W7.heap.size W7 V → Calls Try.prog 12 #[.slice a5 ln c5, .slice a6 ln c6] V fun e W' => e = .returned (.bool true) ∧ Below W7.heap.size W7 W') := Lib.hid (fun V hV => by
                have h5 := rsame_any a5 a6 c5 c6 L L (by have := HLN.out; omega) (by have := HLN.out; omega) V (HX6.out.2.1.keep hV) (HX6.out.1.keep hV)
                rw [HLN.out, decide_eq_true rfl] at h5
                exact h5.mono (fun e W' hp => ⟨hp.1, hV.trans (hp.2.mono hV.size)⟩))
              have H13 : Hid (∀ V, Below W7.heap.size W7 V → Calls Try.prog 13 #[.slice a5 ln c5, .slice a6 ln c6] V fun e W' => e = .returned (.bool true) ∧ Below W7.heap.size W7 W') := Lib.hid (fun V hV => by
                have h5 := same_any a5 a6 c5 c6 L L (by have := HLN.out; omega) (by have := HLN.out; omega) V (HX6.out.2.1.keep hV) (HX6.out.1.keep hV)
                rw [HLN.out, decide_eq_true rfl] at h5
                exact h5.mono (fun e W' hp => ⟨hp.1, hV.trans (hp.2.mono hV.size)⟩))
              go_wp2_with (first | (go_at_call 12; refine (H12.out _ HB7.out).mono ?_) | fail)
              first | (rintro e W8 rfl hb) | (rintro e W8 ⟨rfl, hb⟩)
              have HB8 := Lib.hid hb
              clear hb
              go_wp2_with (first | (go_at_call 13; refine (H13.out _ HB8.out).mono ?_) | fail)
              first | (rintro e W9 rfl hb) | (rintro e W9 ⟨rfl, hb⟩)
              have HB9 := Lib.hid hb
              clear hb HB8
              go_wp2_with (first | (go_at_call 12; refine (H12.out _ HB9.out).mono ?_) | fail)
              first | (rintro e W10 rfl hb) | (rintro e W10 ⟨rfl, hb⟩)
              have HB10 := Lib.hid hb
              clear hb HB9 H12 H13
              have HFD : Hid (∀ V, Below W7.heap.size W7 V → Calls Try.prog 14 #[.slice a6 ln c6, .string nm] V fun e W' => e = .returned (findV L nm) ∧ Below W7.heap.size W7 W') := Lib.hid (fun V hV => by
                have h5 := find_any a6 c6 L nm (by have := HLN.out; omega) V (HX6.out.1.keep hV)
                rw [HLN.out] at h5
                exact h5.mono (fun e W' hp => ⟨hp.1, hV.trans (hp.2.mono hV.size)⟩))
              have HRF : Hid (∀ V, Below W7.heap.size W7 V → Calls Try.prog 15 #[.slice a6 ln c6, .string nm] V fun e W' => e = .returned (findV L nm) ∧ Below V.heap.size V W') := Lib.hid (fun V hV => by
                have h5 := rfind_any a6 c6 L nm (by have := HLN.out; omega) V (HX6.out.1.keep hV)
                rw [HLN.out] at h5
                exact h5)
              obtain ⟨s, ev, hv⟩ := found2 L nm
              rw [hv] at HFD HRF
              clear hv
              obtain ⟨s1, s2, s3, s4⟩ := s
              unfold Sy.v at HFD HRF
              dsimp only at HFD HRF
              go_wp2_with (first | (go_at_call 14; refine (HFD.out _ HB10.out).mono ?_) | fail)
              first | (rintro e W11 rfl hb) | (rintro e W11 ⟨rfl, hb⟩)
              have HN1 : Hid (YB (W11.alloc (.cells #[.string s1, .int .u64 (s2 : Nat), .int .u64 (s3 : Nat), .bool s4] 42)) W11.heap.size (s1, s2, s3, s4) ∧ Below W7.heap.size W7 (W11.alloc (.cells #[.string s1, .int .u64 (s2 : Nat), .int .u64 (s3 : Nat), .bool s4] 42))) := Lib.hid ⟨heap_alloc_last W11 _, hb.alloc hb.size _⟩
              clear hb HB10 HFD
              go_upto_region 17 with fail
              generalize World.alloc W11 _ = W12 at HN1 ⊢
              generalize W11.heap.size = y1 at HN1 ⊢
              go_wp2_with (first | (go_at_call 15; refine (HRF.out _ HN1.out.2).mono ?_) | fail)
              first | (rintro e W13 rfl hb) | (rintro e W13 ⟨rfl, hb⟩)
              have HFU : Hid (∀ V, Below W7.heap.size W7 V → Calls Try.prog 16 #[.slice a6 ln c6] V fun e W' => ∃ v, e = .returned v ∧ ∃ L', (Up L' ∧ SameK (L.filter isF) L') ∧ SY V L' v W') := Lib.hid (fun V hV => by
                have h5 := funcs_any a6 c6 L (by have := HLN.out; omega) V (HX6.out.1.keep hV)
                rw [HLN.out] at h5
                exact h5)
              have HRU : Hid (∀ V, Below W7.heap.size W7 V → Calls Try.prog 17 #[.slice a6 ln c6] V fun e W' => ∃ v, e = .returned v ∧ ∃ a3 c3 L', v = .slice a3 (List.length L') c3 ∧ (Up L' ∧ SameK (L.filter isF) L') ∧ OV W' a3 c3 L' ∧ Below V.heap.size V W') := Lib.hid (fun V hV => by
                have h5 := rfuncs_any a6 c6 L (by have := HLN.out; omega) V (HX6.out.1.keep hV)
                rw [HLN.out] at h5
                exact h5)
              have HN2 : Hid (YB (W13.alloc (.cells #[.string s1, .int .u64 (s2 : Nat), .int .u64 (s3 : Nat), .bool s4] 42)) W13.heap.size (s1, s2, s3, s4) ∧ YB (W13.alloc (.cells #[.string s1, .int .u64 (s2 : Nat), .int .u64 (s3 : Nat), .bool s4] 42)) y1 (s1, s2, s3, s4) ∧ Below W7.heap.size W7 (W13.alloc (.cells #[.string s1, .int .u64 (s2 : Nat), .int .u64 (s3 : Nat), .bool s4] 42))) := Lib.hid (by
                have hk := (Below.refl W13.heap.size W13).alloc (Nat.le_refl _) (.cells #[.string s1, .int .u64 (s2 : Nat), .int .u64 (s3 : Nat), .bool s4] 42)
                have h5 := HN1.out.2.trans (hb.mono HN1.out.2.size)
                exact ⟨heap_alloc_last W13 _, (HN1.out.1.keep hb).keep hk, h5.trans (hk.mono h5.size)⟩)
              clear hb HN1 HRF
              go_upto_region 18 with fail
              generalize World.alloc W13 _ = W14 at HN2 ⊢
              generalize W13.heap.size = y2 at HN2 ⊢
              obtain ⟨c0, c1, c2, c3⟩ := HN2.out.1.c
              obtain ⟨e0, e1, e2, e3⟩ := HN2.out.2.1.c
              dsimp only at c0 c1 c2 c3 e0 e1 e2 e3
              go_wp2_with (first | (go_at_call 16; refine (HFU.out _ HN2.out.2.2).mono ?_) | fail)
              first | (rintro e W15 v rfl L1 q1 q0 q2; have HF1 := Lib.hid (And.intro (And.intro q1 q0) q2); clear q1 q0 q2) | (rintro e W15 ⟨v, rfl, L1, q1, q2⟩; have HF1 := Lib.hid (And.intro q1 q2); clear q1 q2)
              obtain ⟨a7, c7, rfl⟩ := owns_slice HF1.out.2.1
              have HG1 : Hid (RX W15 a7 (L1.flatMap Sy.cs) ∧ Below W7.heap.size W7 W15) := Lib.hid ⟨RX.own HF1.out.2.1, HN2.out.2.2.trans (HF1.out.2.2.mono HN2.out.2.2.size)⟩
              clear c0 c1 c2 c3 e0 e1 e2 e3 HN2 HFU
              go_wp2_with (first | (go_at_call 17; refine (HRU.out _ HG1.out.2).mono ?_) | fail)
              first | (rintro e W16 v rfl a8 c8 L2 rfl q1 q0 q2 q3) | (rintro e W16 ⟨v, rfl, a8, c8, L2, rfl, ⟨q1, q0⟩, q2, q3⟩)
              have he : L2 = L1 := Up.unique HF1.out.1.1 q1 (SameK.trans (SameK.symm HF1.out.1.2) q0)
              rw [he] at q2 ⊢
              clear he q1 q0
              have HG2 : Hid (RX W16 a7 (L1.flatMap Sy.cs) ∧ RX W16 a8 (L1.flatMap Sy.cs) ∧ Below W7.heap.size W7 W16) := Lib.hid ⟨HG1.out.1.keep q3, q2.1, HG1.out.2.trans (q3.mono HG1.out.2.size)⟩
              have hl1 : L1.length ≤ 200 := by
                have h5 := SameK.len HF1.out.1.2
                have h6 := List.length_filter_le isF L
                have h7 := HLN.out
                omega
              clear q2 q3 HG1 HF1 HRU
              have H12 : Hid (Calls Try.prog 12 #[.slice a7 L1.length c7, .slice a8 L1.length c8] W16 fun e W' => e = .returned (.bool true) ∧ Below W7.heap.size W7 W') := Lib.hid (by
                have h5 := rsame_any a7 a8 c7 c8 L1 L1 (by omega) (by omega) W16 HG2.out.1 HG2.out.2.1
                rw [decide_eq_true rfl] at h5
                exact h5.mono (fun e W' hp => ⟨hp.1, HG2.out.2.2.trans (hp.2.mono HG2.out.2.2.size)⟩))
              generalize L1.length = l1 at H12 hl1 ⊢
              go_wp2_with (first | (go_at_call 12; refine H12.out.mono ?_) | fail)
              first | (rintro e W17 rfl hb) | (rintro e W17 ⟨rfl, hb⟩)
              have HB17 := Lib.hid (HNN.out _ (HX6.out.2.2.trans (hb.mono HX6.out.2.2.size)))
              clear hb HX6 H12 HG2 HNN
              go_wp2_with fail
              go_roundw
              case rel => exact ⟨k + 1, by omega, by go_num, HB17⟩
              case measure => simp [intOf]; omega
      · have hN := own_emptyC (V := V20) hHeld.size
        have hB : Below W0.heap.size W0 (World.alloc V20 (.cells #[] 54)) := hHeld.alloc hHeld.size _
        go_simp
        refine hK.out _ _ hB (fun hHeld2 => ?_)
        clear hK K hHeld hHeld2
        have HB := Lib.hid hN
        clear hN
        generalize World.alloc V20 _ = V39 at HB hB ⊢
        generalize (World.heap V20).size = gB19 at HB ⊢
        have hHeld : (fun W : World => Below W0.heap.size W0 W) V39 := hB
        clear hB
        try simp only [Act.put, List.setIfInBounds_toArray, List.set_cons_zero, List.set_cons_succ, List.getElem_toArray, List.getElem_cons_succ, List.getElem_cons_zero]
        refine wpAnyH_ready (rs := [2]) (by kernel_rfl) (by simp) ?_
        refine AllReadyH.cons rfl (fun K hK => ?_) (AllReadyH.nil)
        have hN := own_emptyC (V := V39) hHeld.size
        have hB : Below W0.heap.size W0 (World.alloc V39 (.cells #[] 54)) := hHeld.alloc hHeld.size _
        have HB2 := Lib.hid (own_keep HB.out ((Below.refl _ _).alloc (Nat.le_refl _) (.cells #[] 54)))
        have HN2 := Lib.hid (Nat.ne_of_gt (own_lt HB.out))
        clear HB
        go_simp
        refine hK.out _ _ hB (fun hHeld2 => ?_)
        clear hK K hHeld hHeld2
        have HA := Lib.hid hN
        clear hN
        generalize World.alloc V39 _ = V40 at HA hB HB2 ⊢
        generalize (World.heap V39).size = gA20 at HA HN2 ⊢
        have hHeld : (fun W : World => Below W0.heap.size W0 W) V40 := hB
        clear hB
        have HB := HB2
        clear HB2
        have HNE2 := HN2
        clear HN2
        try simp only [Act.put, List.setIfInBounds_toArray, List.set_cons_zero, List.set_cons_succ, List.getElem_toArray, List.getElem_cons_succ, List.getElem_cons_zero]
        refine wpAnyH_ready (rs := [5]) (by kernel_rfl) (by simp) ?_
        refine AllReadyH.cons rfl (fun K hK => ?_) (AllReadyH.nil)
        rw [if_pos (by kernel_rfl)]
        refine wp_app_secs (x := .tmp 84) (y := .tmp 86) (base := W0.heap.size) (g := gA20) (q := 0) (n := 0) (xs := cellsC []) (M := cs0) rfl rfl rfl HA.out (HSS.out _ hHeld) (by omega) hHeld.size ?_
        intro gA21 qA21 V41 hown hgr hwhere
        have hB := hHeld.grown hgr hHeld.size (fun x e => by cases e; exact own_ge HA.out)
        have HN2 : Hid (gA21 ≠ gB19) := Lib.hid (by
          rcases hwhere with e | e
          · rw [e]
            first | exact HNE2.out | exact fun h => HNE2.out h.symm
          · rw [e]
            exact Nat.ne_of_gt (own_lt HB.out))
        have HB2 := Lib.hid (own_grown HB.out hgr (by first | exact HNE2.out | exact fun h => HNE2.out h.symm))
        clear HB HNE2
        refine hK.out _ _ hB (fun hHeld2 => ?_)
        clear hK K hHeld hHeld2 HA hgr hwhere
        have HA := Lib.hid hown
        clear hown
        have hHeld : (fun W : World => Below W0.heap.size W0 W) V41 := hB
        clear hB
        have HB := HB2
        clear HB2
        have HNE2 := HN2
        clear HN2
        try simp only [Act.put, List.setIfInBounds_toArray, List.set_cons_zero, List.set_cons_succ, List.getElem_toArray, List.getElem_cons_succ, List.getElem_cons_zero]
        refine wpAnyH_ready (rs := [7]) (by kernel_rfl) (by simp) ?_
        refine AllReadyH.cons rfl (fun K hK => ?_) (AllReadyH.nil)
        rw [if_pos (by kernel_rfl)]
        refine wp_app_secs (x := .tmp 87) (y := .tmp 88) (base := W0.heap.size) (g := gA21) (q := qA21) (n := (0 + 3)) (xs := (cellsC [] ++ cellsC cs0)) (M := ms) rfl rfl rfl HA.out (HMM.out _ hHeld) (by omega) hHeld.size ?_
        intro gA22 qA22 V42 hown hgr hwhere
        have hB := hHeld.grown hgr hHeld.size (fun x e => by cases e; exact own_ge HA.out)
        have HN2 : Hid (gA22 ≠ gB19) := Lib.hid (by
          rcases hwhere with e | e
          · rw [e]
            first | exact HNE2.out | exact fun h => HNE2.out h.symm
          · rw [e]
            exact Nat.ne_of_gt (own_lt HB.out))
        have HB2 := Lib.hid (own_grown HB.out hgr (by first | exact HNE2.out | exact fun h => HNE2.out h.symm))
        clear HB HNE2
        refine hK.out _ _ hB (fun hHeld2 => ?_)
        clear hK K hHeld hHeld2 HA hgr hwhere
        have HA := Lib.hid hown
        clear hown
        have hHeld : (fun W : World => Below W0.heap.size W0 W) V42 := hB
        clear hB
        have HB := HB2
        clear HB2
        have HNE2 := HN2
        clear HN2
        try simp only [Act.put, List.setIfInBounds_toArray, List.set_cons_zero, List.set_cons_succ, List.getElem_toArray, List.getElem_cons_succ, List.getElem_cons_zero]
        refine wpAnyH_ready (rs := [10]) (by kernel_rfl) (by simp) ?_
        refine AllReadyH.cons rfl (fun K hK => ?_) (AllReadyH.nil)
        rw [if_pos (by kernel_rfl)]
        refine wp_app_secs (x := .tmp 90) (y := .tmp 91) (base := W0.heap.size) (g := gB19) (q := 0) (n := 0) (xs := cellsC []) (M := ms) rfl rfl rfl HB.out (HMM.out _ hHeld) (by omega) hHeld.size ?_
        intro gB23 qB23 V43 hown hgr hwhere
        have hB := hHeld.grown hgr hHeld.size (fun x e => by cases e; exact own_ge HB.out)
        have HN2 : Hid (gB23 ≠ gA22) := Lib.hid (by
          rcases hwhere with e | e
          · rw [e]
            first | exact HNE2.out | exact fun h => HNE2.out h.symm
          · rw [e]
            exact Nat.ne_of_gt (own_lt HA.out))
        have HA2 := Lib.hid (own_grown HA.out hgr (by first | exact HNE2.out | exact fun h => HNE2.out h.symm))
        clear HA HNE2
        refine hK.out _ _ hB (fun hHeld2 => ?_)
        clear hK K hHeld hHeld2 HB hgr hwhere
        have HB := Lib.hid hown
        clear hown
        have hHeld : (fun W : World => Below W0.heap.size W0 W) V43 := hB
        clear hB
        have HA := HA2
        clear HA2
        have HNE2 := HN2
        clear HN2
        try simp only [Act.put, List.setIfInBounds_toArray, List.set_cons_zero, List.set_cons_succ, List.getElem_toArray, List.getElem_cons_succ, List.getElem_cons_zero]
        refine wpAnyH_ready (rs := [13]) (by kernel_rfl) (by simp) ?_
        refine AllReadyH.cons rfl (fun K hK => ?_) (AllReadyH.nil)
        rw [if_pos (by kernel_rfl)]
        refine wp_app_secs (x := .tmp 92) (y := .tmp 94) (base := W0.heap.size) (g := gB23) (q := qB23) (n := (0 + mn)) (xs := (cellsC [] ++ cellsC ms)) (M := cs0) rfl rfl rfl HB.out (HSS.out _ hHeld) (by omega) hHeld.size ?_
        intro gB24 qB24 V44 hown hgr hwhere
        have hB := hHeld.grown hgr hHeld.size (fun x e => by cases e; exact own_ge HB.out)
        have HN2 : Hid (gB24 ≠ gA22) := Lib.hid (by
          rcases hwhere with e | e
          · rw [e]
            first | exact HNE2.out | exact fun h => HNE2.out h.symm
          · rw [e]
            exact Nat.ne_of_gt (own_lt HA.out))
        have HA2 := Lib.hid (own_grown HA.out hgr (by first | exact HNE2.out | exact fun h => HNE2.out h.symm))
        clear HA HNE2
        refine hK.out _ _ hB (fun hHeld2 => ?_)
        clear hK K hHeld hHeld2 HB hgr hwhere
        have HB := Lib.hid hown
        clear hown
        have hHeld : (fun W : World => Below W0.heap.size W0 W) V44 := hB
        clear hB
        have HA := HA2
        clear HA2
        have HNE2 := HN2
        clear HN2
        try simp only [Act.put, List.setIfInBounds_toArray, List.set_cons_zero, List.set_cons_succ, List.getElem_toArray, List.getElem_cons_succ, List.getElem_cons_zero]
        refine wpAnyH_ready (rs := [14]) (by kernel_rfl) (by simp) ?_
        refine AllReadyH.cons rfl (fun K hK => ?_) (AllReadyH.nil)
        have hB : Below W0.heap.size W0 (World.alloc V44 (.cells #[.slice (some ⟨b2, 0, none⟩) 3 p2, .slice (some ⟨gA22, 0, none⟩) (3 + mn) qA22, .slice (some ⟨gB24, 0, none⟩) (mn + 3) qB24] 24)) := hHeld.alloc hHeld.size _
        have HA2 := Lib.hid (own_keep HA.out ((Below.refl _ _).alloc (Nat.le_refl _) (.cells #[.slice (some ⟨b2, 0, none⟩) 3 p2, .slice (some ⟨gA22, 0, none⟩) (3 + mn) qA22, .slice (some ⟨gB24, 0, none⟩) (mn + 3) qB24] 24)))
        have HB2 := Lib.hid (own_keep HB.out ((Below.refl _ _).alloc (Nat.le_refl _) (.cells #[.slice (some ⟨b2, 0, none⟩) 3 p2, .slice (some ⟨gA22, 0, none⟩) (3 + mn) qA22, .slice (some ⟨gB24, 0, none⟩) (mn + 3) qB24] 24)))
        have HL2 : Hid ((World.alloc V44 (.cells #[.slice (some ⟨b2, 0, none⟩) 3 p2, .slice (some ⟨gA22, 0, none⟩) (3 + mn) qA22, .slice (some ⟨gB24, 0, none⟩) (mn + 3) qB24] 24)).heap[(World.heap V44).size]? = some (.cells #[.slice (some ⟨b2, 0, none⟩) 3 p2, .slice (some ⟨gA22, 0, none⟩) (3 + mn) qA22, .slice (some ⟨gB24, 0, none⟩) (mn + 3) qB24] 24 (0, 0)) ∧ W0.heap.size ≤ (World.heap V44).size) := Lib.hid ⟨heap_alloc_last V44 _, hHeld.size⟩
        clear HA HB HNE2
        rw [Nat.zero_add] at HA2 HB2
        go_simp
        refine hK.out _ _ hB (fun hHeld2 => ?_)
        clear hK K hHeld hHeld2
        generalize World.alloc V44 _ = W9 at HA2 HB2 HL2 hB ⊢
        generalize (World.heap V44).size = b14 at HL2 ⊢
        have hHeld : (fun W : World => Below W0.heap.size W0 W) W9 := hB
        clear hB
        try simp only [Act.put, List.setIfInBounds_toArray, List.set_cons_zero, List.set_cons_succ, List.getElem_toArray, List.getElem_cons_succ, List.getElem_cons_zero]
        refine wpAnyH_take (i := 15) (v := ?_) rfl (by kernel_rfl) (by kernel_rfl) (by kernel_rfl) (fun _ _ _ h => h) (Or.inl ⟨by kernel_rfl, ?_⟩) (by assumption) ?_
        rotate_left
        · intro wv hSw
          go_simp
          try with_reducible rfl
        simp only [Act.put, List.setIfInBounds_toArray, List.set_cons_zero, List.set_cons_succ, List.getElem_toArray, List.getElem_cons_succ, List.getElem_cons_zero]
        refine wpAnyH_done (by kernel_rfl) ?_ _
        refine NoPanic.normal ?_
        have HB9 := Lib.hid hHeld
        clear hHeld
        have HSA := Lib.hid (rx_own (cs := cs0 ++ ms) HA2.out (by simp [cellsC]))
        have HSB := Lib.hid (rx_own (cs := ms ++ cs0) HB2.out (by simp [cellsC]))
        have HEA := Lib.hid (Nat.ne_of_gt (Nat.lt_of_lt_of_le HB8.out (own_ge HA2.out)))
        have HEB := Lib.hid (Nat.ne_of_gt (Nat.lt_of_lt_of_le HB8.out (own_ge HB2.out)))
        clear HA2 HB2
        have HLA : Hid ((cs0 ++ ms).length = 3 + mn ∧ (ms ++ cs0).length = mn + 3) := Lib.hid (by
          rw [List.length_append, List.length_append, HS3.out, HMN.out]
          omega)
        have HOA : Hid ((∀ s, s ∈ cs0 ++ ms → s.ok) ∧ (∀ s, s ∈ ms ++ cs0 → s.ok)) := Lib.hid ⟨fun s hs => (List.mem_append.1 hs).elim (HSOK.out s) (HMOK.out s), fun s hs => (List.mem_append.1 hs).elim (HMOK.out s) (HSOK.out s)⟩
        have HNS : Hid (NS w g N cb z b2 gA22 gB24 b14 b8 cs0 (cs0 ++ ms) (ms ++ cs0) #[.slice (some ⟨b2, 0, none⟩) 3 p2, .slice (some ⟨gA22, 0, none⟩) (3 + mn) qA22, .slice (some ⟨gB24, 0, none⟩) (mn + 3) qB24] W9) := Lib.hid (by
          have h0 := TS.keep HT0.out HB9.out
          exact ⟨h0.1, h0.2.1, HSA.out, HSB.out, HL2.out.1, ⟨_, h0.2.2.1⟩, h0.2.2.2⟩)
        have HEE : Hid (g ≠ b8 ∧ b2 ≠ b8 ∧ gA22 ≠ b8 ∧ gB24 ≠ b8 ∧ b14 ≠ b8 ∧ w.heap.size ≤ b8) := Lib.hid ⟨fun e => HEN.out.1 e.symm, fun e => HEN.out.2 e.symm, HEA.out, HEB.out, Nat.ne_of_gt (Nat.lt_of_lt_of_le HB8.out HL2.out.2), HGE.out.2.2⟩
        clear HSA HSB HEA HEB HL2 HB9 HT0
        have HLL : Hid (3 + mn ≤ 100 ∧ mn + 3 ≤ 100) := Lib.hid (by omega)
        generalize 3 + mn = nA at HLA HNS HLL ⊢
        generalize mn + 3 = nB at HLA HNS HLL ⊢
        generalize cs0 ++ ms = csA at HLA HNS HOA ⊢
        generalize ms ++ cs0 = csB at HLA HNS HOA ⊢
        go_wp2_with fail
        go_loopw [98] (fun i W => ∃ k : Nat, k ≤ 3 ∧ i = .int .i64 k ∧ Hid (NS w g N cb z b2 gA22 gB24 b14 b8 cs0 csA csB #[.slice (some ⟨b2, 0, none⟩) 3 p2, .slice (some ⟨gA22, 0, none⟩) nA qA22, .slice (some ⟨gB24, 0, none⟩) nB qB24] W)) (fun i _ => 3 - (intOf i).toNat)
        case atStart => exact ⟨0, by omega, rfl, HNS⟩
        case round =>
          clear HNS
          obtain ⟨k, hk, rfl, HS⟩ := hrel
          by_cases hlt : k < 3
          rotate_left
          · obtain rfl : k = 3 := by omega
            go_wp2_with (first | (go_at_call 8; refine (HWK.out _).mono ?_) | fail)
            first | (rintro e W8 rfl hb) | (rintro e W8 ⟨rfl, hb⟩)
            have HBZ := Lib.hid (HS.out.2.2.2.2.2.2.trans (hb.mono HS.out.2.2.2.2.2.2.size))
            clear hb
            go_wp2_with fail
            go_ret
            exact ⟨rfl, HBZ.out⟩
          · obtain ⟨bk, nk, ck, csk, hc, hnk, hrx, hbk, hokk, hnk2⟩ := HS.out.pick HS3.out HLA.out.1 HLA.out.2 HSOK.out HOA.out.1 HOA.out.2 HEE.out.2.1 HEE.out.2.2.1 HEE.out.2.2.2.1 (by decide) HLL.out.1 HLL.out.2 hlt
            have hki : (k : Int) < 3 := by omega
            obtain ⟨c4, h8⟩ := HS.out.2.2.2.2.2.1
            have f4 := cell_at (i := 4) (v := c4) h8 rfl
            have z4 := frozen_at h8 4
            have HP : Hid ((NS w g N cb z b2 gA22 gB24 b14 b8 cs0 csA csB #[.slice (some ⟨b2, 0, none⟩) 3 p2, .slice (some ⟨gA22, 0, none⟩) nA qA22, .slice (some ⟨gB24, 0, none⟩) nB qB24] (wr.setCell ⟨b8, 4, none⟩ (.slice (some ⟨bk, 0, none⟩) nk ck)) ∧ (wr.setCell ⟨b8, 4, none⟩ (.slice (some ⟨bk, 0, none⟩) nk ck)).heap[b8]? = some (.cells #[.int .u64 0, .int .u64 0, .int .u64 0, .slice none 0 0, .slice (some ⟨bk, 0, none⟩) nk ck] 31 (0, 0))) ∧ RX (wr.setCell ⟨b8, 4, none⟩ (.slice (some ⟨bk, 0, none⟩) nk ck)) (some ⟨bk, 0, none⟩) (csk.flatMap Sc.cs)) := Lib.hid ⟨HS.out.put HEE.out.1 HEE.out.2.1 HEE.out.2.2.1 HEE.out.2.2.2.1 HEE.out.2.2.2.2.1 HEE.out.2.2.2.2.2 _, hrx.far hbk 4 _⟩
            have HCK := Lib.hid (And.intro hnk hokk)
            clear hnk hokk hrx hbk h8 HS
            go_upto_region 12 with fail
            generalize World.setCell wr _ _ = W5 at HP ⊢
            clear hc f4 z4
            have HRD : Hid (∀ V, Below W5.heap.size W5 V → Calls Try.prog 10 #[.slice (some ⟨g, 0, none⟩) N cb, .agg #[.int .u64 0, .int .u64 0, .int .u64 0, .slice none 0 0, .slice (some ⟨bk, 0, none⟩) nk ck]] V fun e W' => ∃ v, e = .returned (.tuple #[v, .int .i64 (readZ z N csk).2]) ∧ SY V (readZ z N csk).1 v W') := Lib.hid (fun V hV => by
              have h1 := read_any (some ⟨g, 0, none⟩) N cb z hzz.out (.int .u64 0) (.int .u64 0) (.int .u64 0) (.slice none 0 0) (some ⟨bk, 0, none⟩) ck csk HCK.out.2 (by have h3 := HCK.out.1; omega) V ((HP.out.1.1.keep hV).1.bz HNC.out.1 HNC.out.2) (HP.out.2.keep hV)
              rw [HCK.out.1] at h1
              exact h1)
            have HRR : Hid (∀ V, Below W5.heap.size W5 V → Calls Try.prog 11 #[.slice (some ⟨g, 0, none⟩) N cb, .agg #[.int .u64 0, .int .u64 0, .int .u64 0, .slice none 0 0, .slice (some ⟨bk, 0, none⟩) nk ck]] V fun e W' => ∃ v, e = .returned (.tuple #[v, .int .i64 (readZ z N csk).2]) ∧ SY V (readZ z N csk).1 v W') := Lib.hid (fun V hV => by
              have h1 := rread_any (some ⟨g, 0, none⟩) N cb z hzz.out (.int .u64 0) (.int .u64 0) (.int .u64 0) (.slice none 0 0) (some ⟨bk, 0, none⟩) ck csk HCK.out.2 (by have h3 := HCK.out.1; omega) V ((HP.out.1.1.keep hV).1.bz HNC.out.1 HNC.out.2) (HP.out.2.keep hV)
              rw [HCK.out.1] at h1
              exact h1)
            have hlen : (readZ z N csk).1.length ≤ 200 := readZ_len
            generalize (readZ z N csk).1 = L at HRD HRR hlen
            generalize (readZ z N csk).2 = E at HRD HRR
            obtain ⟨ln, hln⟩ : ∃ ln, L.length = ln := ⟨_, rfl⟩
            rw [hln] at hlen
            have HLN := Lib.hid hln
            clear hln
            have HB5 := Lib.hid (Below.refl W5.heap.size W5)
            have HC5 : Hid (∀ V, Below W5.heap.size W5 V → V.cell? ⟨b8, 0, none⟩ = some (.int .u64 0) ∧ V.cell? ⟨b8, 1, none⟩ = some (.int .u64 0) ∧ V.cell? ⟨b8, 2, none⟩ = some (.int .u64 0) ∧ V.cell? ⟨b8, 3, none⟩ = some (.slice none 0 0) ∧ V.cell? ⟨b8, 4, none⟩ = some (.slice (some ⟨bk, 0, none⟩) nk ck)) := Lib.hid (fun V hV => ⟨cell_keep (cell_at (i := 0) HP.out.1.2 rfl) hV, cell_keep (cell_at (i := 1) HP.out.1.2 rfl) hV, cell_keep (cell_at (i := 2) HP.out.1.2 rfl) hV, cell_keep (cell_at (i := 3) HP.out.1.2 rfl) hV, cell_keep (cell_at (i := 4) HP.out.1.2 rfl) hV⟩)
            have HNN : Hid (∀ V, Below W5.heap.size W5 V → NS w g N cb z b2 gA22 gB24 b14 b8 cs0 csA csB #[.slice (some ⟨b2, 0, none⟩) 3 p2, .slice (some ⟨gA22, 0, none⟩) nA qA22, .slice (some ⟨gB24, 0, none⟩) nB qB24] V) := Lib.hid (fun V hV => HP.out.1.1.keep hV)
            clear HP HCK
            obtain ⟨h0, h1, h2, h3, h4⟩ := HC5.out W5 HB5.out
            go_wp2_with (first | (go_at_call 10; refine (HRD.out _ HB5.out).mono ?_) | fail)
            first | (rintro e W6 v rfl hS) | (rintro e W6 ⟨v, rfl, hS⟩)
            have hS1 := hS
            obtain ⟨a5, c5, rfl⟩ := owns_slice hS1.1
            have HX5 := Lib.hid (And.intro (RX.own hS.1) (HB5.out.trans (hS.2.mono HB5.out.size)))
            rw [HLN.out]
            clear hS hS1 h0 h1 h2 h3 h4 HRD
            obtain ⟨h0, h1, h2, h3, h4⟩ := HC5.out W6 HX5.out.2
            go_wp2_with (first | (go_at_call 11; refine (HRR.out _ HX5.out.2).mono ?_) | fail)
            first | (rintro e W7 v rfl hS) | (rintro e W7 ⟨v, rfl, hS⟩)
            have hS1 := hS
            obtain ⟨a6, c6, rfl⟩ := owns_slice hS1.1
            have HX6 : Hid (RX W7 a6 (L.flatMap Sy.cs) ∧ RX W7 a5 (L.flatMap Sy.cs) ∧ Below W5.heap.size W5 W7) := Lib.hid ⟨RX.own hS.1, HX5.out.1.keep hS.2, HX5.out.2.trans (hS.2.mono HX5.out.2.size)⟩
            rw [HLN.out]
            clear hS hS1 h0 h1 h2 h3 h4 HRR HX5 HC5
            have HB7 := Lib.hid (Below.refl W7.heap.size W7)
            have H12 : Hid (∀ V, Below W7.heap.size W7 V → Calls Try.prog 12 #[.slice a5 ln c5, .slice a6 ln c6] V fun e W' => e = .returned (.bool true) ∧ Below W7.heap.size W7 W') := Lib.hid (fun V hV => by
              have h5 := rsame_any a5 a6 c5 c6 L L (by have := HLN.out; omega) (by have := HLN.out; omega) V (HX6.out.2.1.keep hV) (HX6.out.1.keep hV)
              rw [HLN.out, decide_eq_true rfl] at h5
              exact h5.mono (fun e W' hp => ⟨hp.1, hV.trans (hp.2.mono hV.size)⟩))
            have H13 : Hid (∀ V, Below W7.heap.size W7 V → Calls Try.prog 13 #[.slice a5 ln c5, .slice a6 ln c6] V fun e W' => e = .returned (.bool true) ∧ Below W7.heap.size W7 W') := Lib.hid (fun V hV => by
              have h5 := same_any a5 a6 c5 c6 L L (by have := HLN.out; omega) (by have := HLN.out; omega) V (HX6.out.2.1.keep hV) (HX6.out.1.keep hV)
              rw [HLN.out, decide_eq_true rfl] at h5
              exact h5.mono (fun e W' hp => ⟨hp.1, hV.trans (hp.2.mono hV.size)⟩))
            go_wp2_with (first | (go_at_call 12; refine (H12.out _ HB7.out).mono ?_) | fail)
            first | (rintro e W8 rfl hb) | (rintro e W8 ⟨rfl, hb⟩)
            have HB8 := Lib.hid hb
            clear hb
            go_wp2_with (first | (go_at_call 13; refine (H13.out _ HB8.out).mono ?_) | fail)
            first | (rintro e W9 rfl hb) | (rintro e W9 ⟨rfl, hb⟩)
            have HB9 := Lib.hid hb
            clear hb HB8
            go_wp2_with (first | (go_at_call 12; refine (H12.out _ HB9.out).mono ?_) | fail)
            first | (rintro e W10 rfl hb) | (rintro e W10 ⟨rfl, hb⟩)
            have HB10 := Lib.hid hb
            clear hb HB9 H12 H13
            have HFD : Hid (∀ V, Below W7.heap.size W7 V → Calls Try.prog 14 #[.slice a6 ln c6, .string nm] V fun e W' => e = .returned (findV L nm) ∧ Below W7.heap.size W7 W') := Lib.hid (fun V hV => by
              have h5 := find_any a6 c6 L nm (by have := HLN.out; omega) V (HX6.out.1.keep hV)
              rw [HLN.out] at h5
              exact h5.mono (fun e W' hp => ⟨hp.1, hV.trans (hp.2.mono hV.size)⟩))
            have HRF : Hid (∀ V, Below W7.heap.size W7 V → Calls Try.prog 15 #[.slice a6 ln c6, .string nm] V fun e W' => e = .returned (findV L nm) ∧ Below V.heap.size V W') := Lib.hid (fun V hV => by
              have h5 := rfind_any a6 c6 L nm (by have := HLN.out; omega) V (HX6.out.1.keep hV)
              rw [HLN.out] at h5
              exact h5)
            obtain ⟨s, ev, hv⟩ := found2 L nm
            rw [hv] at HFD HRF
            clear hv
            obtain ⟨s1, s2, s3, s4⟩ := s
            unfold Sy.v at HFD HRF
            dsimp only at HFD HRF
            go_wp2_with (first | (go_at_call 14; refine (HFD.out _ HB10.out).mono ?_) | fail)
            first | (rintro e W11 rfl hb) | (rintro e W11 ⟨rfl, hb⟩)
            have HN1 : Hid (YB (W11.alloc (.cells #[.string s1, .int .u64 (s2 : Nat), .int .u64 (s3 : Nat), .bool s4] 42)) W11.heap.size (s1, s2, s3, s4) ∧ Below W7.heap.size W7 (W11.alloc (.cells #[.string s1, .int .u64 (s2 : Nat), .int .u64 (s3 : Nat), .bool s4] 42))) := Lib.hid ⟨heap_alloc_last W11 _, hb.alloc hb.size _⟩
            clear hb HB10 HFD
            go_upto_region 17 with fail
            generalize World.alloc W11 _ = W12 at HN1 ⊢
            generalize W11.heap.size = y1 at HN1 ⊢
            go_wp2_with (first | (go_at_call 15; refine (HRF.out _ HN1.out.2).mono ?_) | fail)
            first | (rintro e W13 rfl hb) | (rintro e W13 ⟨rfl, hb⟩)
            have HFU : Hid (∀ V, Below W7.heap.size W7 V → Calls Try.prog 16 #[.slice a6 ln c6] V fun e W' => ∃ v, e = .returned v ∧ ∃ L', (Up L' ∧ SameK (L.filter isF) L') ∧ SY V L' v W') := Lib.hid (fun V hV => by
              have h5 := funcs_any a6 c6 L (by have := HLN.out; omega) V (HX6.out.1.keep hV)
              rw [HLN.out] at h5
              exact h5)
            have HRU : Hid (∀ V, Below W7.heap.size W7 V → Calls Try.prog 17 #[.slice a6 ln c6] V fun e W' => ∃ v, e = .returned v ∧ ∃ a3 c3 L', v = .slice a3 (List.length L') c3 ∧ (Up L' ∧ SameK (L.filter isF) L') ∧ OV W' a3 c3 L' ∧ Below V.heap.size V W') := Lib.hid (fun V hV => by
              have h5 := rfuncs_any a6 c6 L (by have := HLN.out; omega) V (HX6.out.1.keep hV)
              rw [HLN.out] at h5
              exact h5)
            have HN2 : Hid (YB (W13.alloc (.cells #[.string s1, .int .u64 (s2 : Nat), .int .u64 (s3 : Nat), .bool s4] 42)) W13.heap.size (s1, s2, s3, s4) ∧ YB (W13.alloc (.cells #[.string s1, .int .u64 (s2 : Nat), .int .u64 (s3 : Nat), .bool s4] 42)) y1 (s1, s2, s3, s4) ∧ Below W7.heap.size W7 (W13.alloc (.cells #[.string s1, .int .u64 (s2 : Nat), .int .u64 (s3 : Nat), .bool s4] 42))) := Lib.hid (by
              have hk := (Below.refl W13.heap.size W13).alloc (Nat.le_refl _) (.cells #[.string s1, .int .u64 (s2 : Nat), .int .u64 (s3 : Nat), .bool s4] 42)
              have h5 := HN1.out.2.trans (hb.mono HN1.out.2.size)
              exact ⟨heap_alloc_last W13 _, (HN1.out.1.keep hb).keep hk, h5.trans (hk.mono h5.size)⟩)
            clear hb HN1 HRF
            go_upto_region 18 with fail
            generalize World.alloc W13 _ = W14 at HN2 ⊢
            generalize W13.heap.size = y2 at HN2 ⊢
            obtain ⟨c0, c1, c2, c3⟩ := HN2.out.1.c
            obtain ⟨e0, e1, e2, e3⟩ := HN2.out.2.1.c
            dsimp only at c0 c1 c2 c3 e0 e1 e2 e3
            go_wp2_with (first | (go_at_call 16; refine (HFU.out _ HN2.out.2.2).mono ?_) | fail)
            first | (rintro e W15 v rfl L1 q1 q0 q2; have HF1 := Lib.hid (And.intro (And.intro q1 q0) q2); clear q1 q0 q2) | (rintro e W15 ⟨v, rfl, L1, q1, q2⟩; have HF1 := Lib.hid (And.intro q1 q2); clear q1 q2)
            obtain ⟨a7, c7, rfl⟩ := owns_slice HF1.out.2.1
            have HG1 : Hid (RX W15 a7 (L1.flatMap Sy.cs) ∧ Below W7.heap.size W7 W15) := Lib.hid ⟨RX.own HF1.out.2.1, HN2.out.2.2.trans (HF1.out.2.2.mono HN2.out.2.2.size)⟩
            clear c0 c1 c2 c3 e0 e1 e2 e3 HN2 HFU
            go_wp2_with (first | (go_at_call 17; refine (HRU.out _ HG1.out.2).mono ?_) | fail)
            first | (rintro e W16 v rfl a8 c8 L2 rfl q1 q0 q2 q3) | (rintro e W16 ⟨v, rfl, a8, c8, L2, rfl, ⟨q1, q0⟩, q2, q3⟩)
            have he : L2 = L1 := Up.unique HF1.out.1.1 q1 (SameK.trans (SameK.symm HF1.out.1.2) q0)
            rw [he] at q2 ⊢
            clear he q1 q0
            have HG2 : Hid (RX W16 a7 (L1.flatMap Sy.cs) ∧ RX W16 a8 (L1.flatMap Sy.cs) ∧ Below W7.heap.size W7 W16) := Lib.hid ⟨HG1.out.1.keep q3, q2.1, HG1.out.2.trans (q3.mono HG1.out.2.size)⟩
            have hl1 : L1.length ≤ 200 := by
              have h5 := SameK.len HF1.out.1.2
              have h6 := List.length_filter_le isF L
              have h7 := HLN.out
              omega
            clear q2 q3 HG1 HF1 HRU
            have H12 : Hid (Calls Try.prog 12 #[.slice a7 L1.length c7, .slice a8 L1.length c8] W16 fun e W' => e = .returned (.bool true) ∧ Below W7.heap.size W7 W') := Lib.hid (by
              have h5 := rsame_any a7 a8 c7 c8 L1 L1 (by omega) (by omega) W16 HG2.out.1 HG2.out.2.1
              rw [decide_eq_true rfl] at h5
              exact h5.mono (fun e W' hp => ⟨hp.1, HG2.out.2.2.trans (hp.2.mono HG2.out.2.2.size)⟩))
            generalize L1.length = l1 at H12 hl1 ⊢
            go_wp2_with (first | (go_at_call 12; refine H12.out.mono ?_) | fail)
            first | (rintro e W17 rfl hb) | (rintro e W17 ⟨rfl, hb⟩)
            have HB17 := Lib.hid (HNN.out _ (HX6.out.2.2.trans (hb.mono HX6.out.2.2.size)))
            clear hb HX6 H12 HG2 HNN
            go_wp2_with fail
            go_roundw
            case rel => exact ⟨k + 1, by omega, by go_num, HB17⟩
            case measure => simp [intOf]; omega
end Go.Proofs.Ytegbhjmghkbgmaa
