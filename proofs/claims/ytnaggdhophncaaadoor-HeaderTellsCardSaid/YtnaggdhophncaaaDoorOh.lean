/- Headers and bytes as arguments. -/
import Derived.Test.YtnaggdhophncaaaDoorOp
import Derived.Test.YtnaggdhophncaaaDoorLd
namespace Go.Proofs.YtnaggdhophncaaaDoor
open Go.ChangeShapes Go.WideShapes Go.ChangeAt Go.WalkArith Go.RowKit
set_option linter.unusedVariables false
set_option linter.unusedSimpArgs false
def segOf {H : Type} (y : DataW H × List MemPlace) : Sg := match y.1 with | .agg [.lit (.int _ z0), .lit (.int _ z1), .lit (.int _ z2), .lit (.int _ z3), .lit (.int _ z4), .lit (.int _ z5), .lit (.int _ z6)] => (z0.toNat, z1.toNat, z2.toNat, z3.toNat, z4.toNat, z5.toNat, z6.toNat) | _ => (0, 0, 0, 0, 0, 0, 0)
theorem open_segs {H : Type} {enc : TypeId × Value → H} {W : World} {base : Nat} {held : Bool} {fuel : Nat} {cs : List Value} {x : DataW H × List MemPlace}
    (h : DataW.trod enc Tryd.prog W base (fun _ => true) held fuel 24 cs = some x) : ∃ (a : Option Addr) (l c : Nat) (zs : List Sg), cs = [.slice a l c] ∧ zs.length = l ∧ (∀ s ∈ zs, s.ok) ∧ RX W a (zs.flatMap Sg.cs) := by
  rcases DataW.trod_slice Tryd.underlying24 h with ⟨hcs, _⟩ | ⟨a, l, c, elems, rest, n, _, hcs, _, hb, hl, hm, hlen, hel, _, _⟩
  · refine ⟨none, 0, 0, [], hcs, rfl, ?_, ?_⟩
    · intro s h
      cases h
    · intro h
      simp at h
  · rw [cellsA30] at hel
    have each : ∀ i, i < elems.length → ∃ x0 x1 x2 x3 x4 x5 x6 : Nat, elems[i]? = some (.agg [.lit (.int .u32 (x0 : Nat)), .lit (.int .u32 (x1 : Nat)), .lit (.int .u64 (x2 : Nat)), .lit (.int .u64 (x3 : Nat)), .lit (.int .u64 (x4 : Nat)), .lit (.int .u64 (x5 : Nat)), .lit (.int .u64 (x6 : Nat))], []) ∧ Sg.ok (x0, x1, x2, x3, x4, x5, x6) ∧ ∀ j u, ([.int .u32 (x0 : Nat), .int .u32 (x1 : Nat), .int .u64 (x2 : Nat), .int .u64 (x3 : Nat), .int .u64 (x4 : Nat), .int .u64 (x5 : Nat), .int .u64 (x6 : Nat)] : List Value)[j]? = some u → W.cell? ((a.add (i * 7)).add j) = some u := by
      intro i hi
      have h1 := hel i (by omega)
      rw [List.getElem?_eq_getElem hi, Option.bind_eq_some_iff] at h1
      obtain ⟨cs, hc, hy⟩ := h1
      obtain ⟨_, hn, hcell⟩ := World.cells?_some hc
      obtain ⟨x0, x1, x2, x3, x4, x5, x6, rfl, e, u⟩ := trod_seg hn hy
      refine ⟨x0, x1, x2, x3, x4, x5, x6, by rw [List.getElem?_eq_getElem hi, e], u, fun j u hu => ?_⟩
      have hj := (List.getElem?_eq_some_iff.1 hu).1
      have := hcell j (by simpa using hj)
      rw [this, hu]
    refine ⟨some a, l, c, elems.map segOf, hcs, by simpa using hlen, ?_, ?_⟩
    · intro r hr
      obtain ⟨y, hy, rfl⟩ := List.mem_map.1 hr
      obtain ⟨i, hi⟩ := List.getElem?_of_mem hy
      obtain ⟨x0, x1, x2, x3, x4, x5, x6, e, u, _⟩ := each i (List.getElem?_eq_some_iff.1 hi).1
      rw [hi] at e
      obtain rfl := Option.some.inj e
      simpa [segOf] using u
    · intro hL
      rw [flat_len Sg_len, List.length_map] at hL
      obtain ⟨b, off, spot⟩ := a
      have h0 : 0 < elems.length := by
        rcases Nat.eq_zero_or_pos elems.length with h | h
        · rw [h] at hL; omega
        · exact h
      obtain ⟨y0, y1, y2, y3, y4, y5, y6, _, _, c0⟩ := each 0 h0
      have hspot : spot = none := World.cell?_spot (by simpa [Addr.add] using c0 0 _ rfl)
      subst hspot
      refine ⟨b, off, rfl, fun j u hu => ?_⟩
      have hj := (List.getElem?_eq_some_iff.1 hu).1
      rw [flat_len Sg_len, List.length_map] at hj
      have hk : j / 7 < elems.length := Nat.div_lt_of_lt_mul (by omega)
      obtain ⟨x0, x1, x2, x3, x4, x5, x6, e, _, c1⟩ := each (j / 7) hk
      have hz : (elems.map segOf)[j / 7]? = some (x0, x1, x2, x3, x4, x5, x6) := by rw [List.getElem?_map, e]; simp [segOf]
      have hf := flat_at Sg_len (elems.map segOf) (j / 7) (j % 7) _ hz (Nat.mod_lt _ (by decide))
      rw [show j / 7 * 7 + j % 7 = j by omega, hu] at hf
      have hq := c1 (j % 7) u hf.symm
      rw [Addr.add_lit, Addr.add_lit] at hq
      rw [← hq]
      congr 2
      omega
def secOf {H : Type} (y : DataW H × List MemPlace) : Sc := match y.1 with | .agg [.lit (.int _ z0), .lit (.int _ z1), .lit (.int _ z2), .lit (.int _ z3), .lit (.int _ z4)] => (z0.toNat, z1.toNat, z2.toNat, z3.toNat, z4.toNat) | _ => (0, 0, 0, 0, 0)
theorem open_secs {H : Type} {enc : TypeId × Value → H} {W : World} {base : Nat} {held : Bool} {fuel : Nat} {cs : List Value} {x : DataW H × List MemPlace}
    (h : DataW.trod enc Tryd.prog W base (fun _ => true) held fuel 25 cs = some x) : ∃ (a : Option Addr) (l c : Nat) (zs : List Sc), cs = [.slice a l c] ∧ zs.length = l ∧ (∀ s ∈ zs, s.ok) ∧ RX W a (zs.flatMap Sc.cs) := by
  rcases DataW.trod_slice Tryd.underlying25 h with ⟨hcs, _⟩ | ⟨a, l, c, elems, rest, n, _, hcs, _, hb, hl, hm, hlen, hel, _, _⟩
  · refine ⟨none, 0, 0, [], hcs, rfl, ?_, ?_⟩
    · intro s h
      cases h
    · intro h
      simp at h
  · rw [cellsA32] at hel
    have each : ∀ i, i < elems.length → ∃ x0 x1 x2 x3 x4 : Nat, elems[i]? = some (.agg [.lit (.int .u32 (x0 : Nat)), .lit (.int .u64 (x1 : Nat)), .lit (.int .u64 (x2 : Nat)), .lit (.int .u32 (x3 : Nat)), .lit (.int .u64 (x4 : Nat))], []) ∧ Sc.ok (x0, x1, x2, x3, x4) ∧ ∀ j u, ([.int .u32 (x0 : Nat), .int .u64 (x1 : Nat), .int .u64 (x2 : Nat), .int .u32 (x3 : Nat), .int .u64 (x4 : Nat)] : List Value)[j]? = some u → W.cell? ((a.add (i * 5)).add j) = some u := by
      intro i hi
      have h1 := hel i (by omega)
      rw [List.getElem?_eq_getElem hi, Option.bind_eq_some_iff] at h1
      obtain ⟨cs, hc, hy⟩ := h1
      obtain ⟨_, hn, hcell⟩ := World.cells?_some hc
      obtain ⟨x0, x1, x2, x3, x4, rfl, e, u⟩ := trod_sec hn hy
      refine ⟨x0, x1, x2, x3, x4, by rw [List.getElem?_eq_getElem hi, e], u, fun j u hu => ?_⟩
      have hj := (List.getElem?_eq_some_iff.1 hu).1
      have := hcell j (by simpa using hj)
      rw [this, hu]
    refine ⟨some a, l, c, elems.map secOf, hcs, by simpa using hlen, ?_, ?_⟩
    · intro r hr
      obtain ⟨y, hy, rfl⟩ := List.mem_map.1 hr
      obtain ⟨i, hi⟩ := List.getElem?_of_mem hy
      obtain ⟨x0, x1, x2, x3, x4, e, u, _⟩ := each i (List.getElem?_eq_some_iff.1 hi).1
      rw [hi] at e
      obtain rfl := Option.some.inj e
      simpa [secOf] using u
    · intro hL
      rw [flat_len Sc_len, List.length_map] at hL
      obtain ⟨b, off, spot⟩ := a
      have h0 : 0 < elems.length := by
        rcases Nat.eq_zero_or_pos elems.length with h | h
        · rw [h] at hL; omega
        · exact h
      obtain ⟨y0, y1, y2, y3, y4, _, _, c0⟩ := each 0 h0
      have hspot : spot = none := World.cell?_spot (by simpa [Addr.add] using c0 0 _ rfl)
      subst hspot
      refine ⟨b, off, rfl, fun j u hu => ?_⟩
      have hj := (List.getElem?_eq_some_iff.1 hu).1
      rw [flat_len Sc_len, List.length_map] at hj
      have hk : j / 5 < elems.length := Nat.div_lt_of_lt_mul (by omega)
      obtain ⟨x0, x1, x2, x3, x4, e, _, c1⟩ := each (j / 5) hk
      have hz : (elems.map secOf)[j / 5]? = some (x0, x1, x2, x3, x4) := by rw [List.getElem?_map, e]; simp [secOf]
      have hf := flat_at Sc_len (elems.map secOf) (j / 5) (j % 5) _ hz (Nat.mod_lt _ (by decide))
      rw [show j / 5 * 5 + j % 5 = j by omega, hu] at hf
      have hq := c1 (j % 5) u hf.symm
      rw [Addr.add_lit, Addr.add_lit] at hq
      rw [← hq]
      congr 2
      omega
theorem list5h {α : Type} (l : List α) (h : l.length = 5) : ∃ a b c d e, l = [a, b, c, d, e] := by
  match l, h with
  | [a, b, c, d, e], _ => exact ⟨a, b, c, d, e, rfl⟩
theorem cellsA27 : Tryd.prog.cellsOf 27 = 5 := by kernel_rfl
theorem cx24 : Tryd.prog.cellsOf 24 = 1 := by kernel_rfl
theorem cx25 : Tryd.prog.cellsOf 25 = 1 := by kernel_rfl
/-- What a header that came in is. -/
structure HdF (W : World) (en so sc : Nat) (zs : List Sg) (cs : List Sc) (a1 a2 : Option Addr) : Prop where
  en : U en
  so : U so
  sc : U sc
  okz : ∀ s ∈ zs, s.ok
  okc : ∀ s ∈ cs, s.ok
  r1 : RX W a1 (zs.flatMap Sg.cs)
  r2 : RX W a2 (cs.flatMap Sc.cs)
set_option maxRecDepth 10000 in
theorem open_hd {H : Type} {enc : TypeId × Value → H} {w : World} {base : Nat} {held : Bool} {r0 : Reach} {b0 : Nat} {v : Value} {d0 : DataW H} {p0 : List MemPlace}
    (hv : Value.okWide Tryd.prog w r0 b0 27 v) (h : DataW.Trod enc Tryd.prog w base (fun _ => true) held 27 v d0 p0) :
    ∃ (en so sc : Nat) (zs : List Sg) (cs : List Sc) (a1 a2 : Option Addr) (p1 p2 : Nat), v = .agg #[.int .u64 (en : Nat), .int .u64 (so : Nat), .int .u64 (sc : Nat), .slice a1 zs.length p1, .slice a2 cs.length p2] ∧ HdF w en so sc zs cs a1 a2 := by
  obtain ⟨cs, rfl, hsz, _⟩ : ∃ cs, v = .agg cs ∧ cs.size = Tryd.prog.cellsOf 27 ∧ Row.okWide Tryd.prog w r0 b0 27 cs := by
    simpa [Value.okWide, Tryd.underlying27] using hv
  rw [cellsA27] at hsz
  obtain ⟨l⟩ := cs
  obtain ⟨c0, c1, c2, c3, c4, rfl⟩ := list5h l hsz
  obtain ⟨fuel, hf⟩ := h
  obtain ⟨xs, m, _, hx, _, hlen, he⟩ := DataW.trod_struct Tryd.underlying27 hf
  obtain ⟨y0, y1, y2, y3, y4, rfl⟩ := list5h xs hlen
  simp only [Value.cells] at he
  have t0 := he 0 _ rfl
  have t1 := he 1 _ rfl
  have t2 := he 2 _ rfl
  have t3 := he 3 _ rfl
  have t4 := he 4 _ rfl
  simp [c23] at t0 t1 t2
  simp [cx24] at t3
  simp [cx25] at t4
  obtain ⟨z0, e0, rfl, w0⟩ := DataW.trod_int Tryd.underlying23 t0
  obtain ⟨z1, e1, rfl, w1⟩ := DataW.trod_int Tryd.underlying23 t1
  obtain ⟨z2, e2, rfl, w2⟩ := DataW.trod_int Tryd.underlying23 t2
  have b0 := Go.bounds_u64 w0
  have b1 := Go.bounds_u64 w1
  have b2 := Go.bounds_u64 w2
  obtain ⟨en, rfl⟩ := Int.eq_ofNat_of_zero_le b0.1
  obtain ⟨so, rfl⟩ := Int.eq_ofNat_of_zero_le b1.1
  obtain ⟨sc, rfl⟩ := Int.eq_ofNat_of_zero_le b2.1
  obtain ⟨a1, n, p1, zs, e3, rfl, ok1, r1⟩ := open_segs t3
  obtain ⟨a2, m2, p2, cs, e4, rfl, ok2, r2⟩ := open_secs t4
  simp at e0 e1 e2 e3 e4
  subst e0 e1 e2 e3 e4
  exact ⟨en, so, sc, zs, cs, a1, a2, p1, p2, rfl, by unfold U; omega, by unfold U; omega, by unfold U; omega, ok1, ok2, r1, r2⟩
/-- What bytes that came in are. -/
def BI (W : World) (ad : Option Addr) (len cap : Nat) (z : Nat → Nat) : Prop := RI W ad len cap z ∧ (∀ j, z j < 256) ∧ len ≤ cap ∧ cap ≤ 9223372036854775807
theorem open_by {H : Type} {enc : TypeId × Value → H} {W : World} {base : Nat} {held : Bool} {ad : Option Addr} {len cap : Nat} {d : DataW H} {p : List MemPlace}
    (h : DataW.Trod enc Tryd.prog W base (fun _ => true) held 22 (.slice ad len cap) d p) : ∃ z, BI W ad len cap z := by
  obtain ⟨fuel, hf⟩ := h
  rcases open_ints Tryd.underlying22 Tryd.underlying5 (by kernel_rfl) hf with ⟨hcs, _⟩ | ⟨x, l, c, zs, hcs, _, hl, hm, hz, _, hcell, hwz⟩
  · simp [Value.cells] at hcs
    obtain ⟨rfl, rfl, rfl⟩ := hcs
    exact ⟨fun _ => 0, .inl ⟨rfl, rfl, rfl⟩, fun _ => Nat.zero_lt_succ _, Nat.le_refl _, by decide⟩
  · simp [Value.cells] at hcs
    obtain ⟨rfl, rfl, rfl⟩ := hcs
    have hb : ∀ j, 0 ≤ zs.getD j 0 ∧ zs.getD j 0 < 256 := fun j => by
      rw [List.getD_eq_getElem?_getD]
      cases hj : zs[j]? with
      | none => simp
      | some n =>
        have := Go.bounds_u8 (hwz n (List.mem_of_getElem? hj))
        simp only [Option.getD_some]
        omega
    refine ⟨fun j => (zs.getD j 0).toNat, .inr ⟨_, rfl, fun j hj => ?_⟩, fun j => by have := hb j; show (zs.getD j 0).toNat < 256; omega, hl, by unfold maxLen at hm; omega⟩
    rw [hcell j (by simp at hz; omega)]
    congr 2
    have := hb j
    show zs.getD j 0 = ((zs.getD j 0).toNat : Int)
    omega
theorem BI.bs {W : World} {ad : Option Addr} {len cap : Nat} {z : Nat → Nat} (h : BI W ad len cap z) : BS W ad len z := fun hl => by
  rcases h.1 with ⟨_, h0, _⟩ | ⟨⟨b, off, spot⟩, ha, hc⟩
  · omega
  · have hspot : spot = none := World.cell?_spot (by simpa [Addr.add] using hc 0 hl)
    subst hspot
    exact ⟨b, off, ha, fun j hj => by have := hc j hj; rwa [Addr.add_lit] at this⟩
end Go.Proofs.YtnaggdhophncaaaDoor
