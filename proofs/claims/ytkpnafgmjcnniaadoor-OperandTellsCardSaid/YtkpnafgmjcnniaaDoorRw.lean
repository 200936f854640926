/- OperandRight, for all bytes. -/
import Derived.Test.YtkpnafgmjcnniaaDoorBk
import Derived.Test.YtkpnafgmjcnniaaDoorRl
import Derived.Test.YtkpnafgmjcnniaaDoorLa
import Derived.OpenShut
namespace Go.Proofs.YtkpnafgmjcnniaaDoor
open Go.ChangeShapes Go.WideShapes Go.ChangeAt Go.RowKit
set_option linter.unusedVariables false
set_option linter.unusedSimpArgs false
theorem laidOut : laidOutB Tryd.prog = true := by kernel_rfl
/-- A slice of bytes that came in. -/
def BY (w : World) (ad : Option Addr) (len cap : Nat) (zs : List Int) : Prop := (ad = none ∧ len = 0 ∧ cap = 0 ∧ zs = []) ∨ ∃ x, ad = some x ∧ len ≤ cap ∧ cap ≤ maxLen ∧ zs.length = cap ∧ (∀ i, i < zs.length → w.cell? (x.add i) = some (.int .u8 (zs.getD i 0))) ∧ ∀ n ∈ zs, (Lit.int .u8 n).wf = true
theorem open_by {H : Type} {enc : TypeId × Value → H} {W : World} {base : Nat} {held : Bool} {ad : Option Addr} {len cap : Nat} {d : DataW H} {p : List MemPlace}
    (h : DataW.Trod enc Tryd.prog W base (fun _ => true) held 24 (.slice ad len cap) d p) : ∃ zs, BY W ad len cap zs := by
  obtain ⟨fuel, hf⟩ := h
  rcases open_ints Tryd.underlying24 Tryd.underlying5 (by kernel_rfl) hf with ⟨hcs, _⟩ | ⟨x, l, c, zs, hcs, _, hl, hm, hz, _, hcell, hwz⟩
  · simp [Value.cells] at hcs
    obtain ⟨rfl, rfl, rfl⟩ := hcs
    exact ⟨[], .inl ⟨rfl, rfl, rfl, rfl⟩⟩
  · simp [Value.cells] at hcs
    obtain ⟨rfl, rfl, rfl⟩ := hcs
    exact ⟨zs, .inr ⟨_, rfl, hl, hm, by simpa using hz, hcell, hwz⟩⟩
def zN (zs : List Int) (j : Nat) : Nat := (zs.getD j 0).toNat
theorem BY.lt {w : World} {ad : Option Addr} {len cap : Nat} {zs : List Int} (h : BY w ad len cap zs) (j : Nat) : zN zs j < 256 := by
  unfold zN
  rcases h with ⟨_, _, _, rfl⟩ | ⟨x, _, _, _, _, _, hw⟩
  · simp
  · by_cases hj : j < zs.length
    · have hb := Go.bounds_u8 (hw zs[j] (List.getElem_mem hj))
      rw [List.getD_eq_getElem?_getD, List.getElem?_eq_getElem hj]; simp; omega
    · rw [List.getD_eq_getElem?_getD, List.getElem?_eq_none (by omega)]; simp
theorem BY.cap {w : World} {ad : Option Addr} {len cap : Nat} {zs : List Int} (h : BY w ad len cap zs) : len ≤ cap := by
  rcases h with ⟨_, h1, h2, _⟩ | ⟨_, _, h, _⟩ <;> omega
theorem BY.bs {w : World} {ad : Option Addr} {len cap : Nat} {zs : List Int} (h : BY w ad len cap zs) : BS w ad len (zN zs) := fun hl => by
  rcases h with ⟨_, h1, _⟩ | ⟨x, rfl, hl2, _, hz, hcell, hw⟩
  · omega
  · obtain ⟨b, off, spot⟩ := x
    have hc := hcell 0 (by omega)
    have hspot : spot = none := by simpa [Addr.add] using World.cell?_spot hc
    subst hspot
    refine ⟨b, off, rfl, fun j hj => ?_⟩
    have h1 := hcell j (by omega)
    rw [Addr.add_lit] at h1
    rw [h1]
    have hj2 : j < zs.length := by omega
    have hb := Go.bounds_u8 (hw zs[j] (List.getElem_mem hj2))
    unfold zN
    rw [List.getD_eq_getElem?_getD, List.getElem?_eq_getElem hj2]
    simp
    omega
theorem puZ_lt (Q : Nat) (o : Opd) (j : Nat) : puZ Q o j < 256 := by
  have h7 : x7N o < 8 := by unfold x7N; split <;> omega
  have hy : y7N o < 8 := by unfold y7N; split <;> omega
  have ht := topN_lt o.s
  have hM : puM o < 3 := by unfold puM; split <;> (try split) <;> (try split) <;> omega
  unfold puZ
  split
  · dsimp only; omega
  · split
    · unfold catN; split
      · dsimp only; omega
      · exact byN_lt _ _
    · split
      · unfold catN; split
        · dsimp only; split <;> omega
        · exact byN_lt _ _
      · unfold catN; split
        · dsimp only; omega
        · exact byN_lt _ _
theorem puR_lt (Q : Nat) (hQ : Q < 16) (o : Opd) (hok : o.ok = true) : puR Q o < 8 := by
  by_cases hk : o.k = 1
  · obtain ⟨_, h0, h1⟩ := ok_reg hok hk
    unfold puR; rw [if_pos hk]; omega
  · obtain ⟨ho, hf, hp⟩ := ok_mem hok hk
    unfold puR; rw [if_neg hk]
    cases hpp : o.p
    · rw [hpp] at hp
      obtain ⟨hb0, hb1, hi0, hi1, hi4, hs⟩ := ok_parts hp
      have hx8 : x8N o ≤ 1 := by unfold x8N; split <;> omega
      have hy8 : y8N o ≤ 1 := by unfold y8N; split <;> omega
      simp only [Bool.false_eq_true, if_false]; omega
    · simp only [if_true]; omega
theorem SL.bs {W : World} {g c cap : Nat} {f : Nat → Nat} (h : SL W (.slice (some ⟨g, 0, none⟩) c cap) c (fun j => (f j : Nat))) : BS W (some ⟨g, 0, none⟩) c f ∧ c ≤ cap := by
  obtain ⟨g', cap', e, h1, h2⟩ := h
  cases e
  exact ⟨fun _ => ⟨g, 0, rfl, fun j hj => by rw [Nat.zero_add]; exact h2 j hj⟩, h1⟩
theorem puN_le (o : Opd) : puN o ≤ 6 := by
  have hW : puW o ≤ 4 := by unfold puW; split <;> (try split) <;> (try split) <;> omega
  unfold puN; split
  · omega
  · split
    · omega
    · split <;> omega
/-- Put's bytes, taken. -/
theorem take_put (Q : Nat) (hQ : Q < 16) (o : Opd) (hok : o.ok = true) (h0 : -9223372036854775808 ≤ o.d) (h1 : o.d ≤ 9223372036854775807) (W : World) (hm : Mk W) (g cap : Nat) (h : SL W (.slice (some ⟨g, 0, none⟩) (puN o) cap) (puN o) (fun j => (puZ Q o j : Nat))) :
    Calls Tryd.prog 13 #[.slice (some ⟨g, 0, none⟩) (puN o) cap, .int .u8 (puR Q o : Nat)] W fun e w' => e = .returned (.tuple #[.int .i64 Q, o.v, .int .i64 (puN o : Nat), .int .i64 0]) ∧ Below W.heap.size W w' := by
  have hR := puR_lt Q hQ o hok
  have hN := puN_le o
  have ht := take_any (some ⟨g, 0, none⟩) (puN o) cap (puZ Q o) (puR Q o) (by omega) W (puZ_lt Q o) hm h.bs.1 (by omega) h.bs.2
  rw [back Q hQ o hok h0 h1 (puN o) (puZ Q o) (Nat.le_refl _) (fun _ _ => rfl)] at ht
  exact ht
theorem right_walk (ad : Option Addr) (len cap : Nat) (zs : List Int) (R : Int) {w : World} (hb : BY w ad len cap zs) (hR : (Lit.int .u8 R).wf = true) (_W : World) (hm : Mk w) :
    Calls Tryd.prog 5 #[.slice ad len cap, .int .u8 R] w fun e w' => e = .returned (.bool true) ∧ Below w.heap.size w w' := by
  have hRb := Go.bounds_u8 hR
  obtain ⟨r, rfl⟩ := Int.eq_ofNat_of_zero_le hRb.1
  by_cases h20 : 20 < len
  · exact rl_out ad len cap r w hm (by omega)
  have ht := take_any ad len cap (zN zs) r (by omega) w hb.lt hm hb.bs (by omega) hb.cap
  cases hk : tkF len (zN zs) r with
  | none =>
    rw [hk] at ht
    have h6 := tk_six _ _ _ hk
    exact rl_none ad len cap r w hm (by omega) ht
  | some x =>
    obtain ⟨reg, o, k⟩ := x
    rw [hk] at ht
    obtain ⟨⟨Q, rfl, hQ⟩, hok, k1, k2, k3, d0, d1⟩ := taken len (zN zs) hb.lt r reg o k hk
    have hRr := fun W => rright_any o.k o.r o.b o.i o.s o.d o.p o.m W
    rw [rrB_eq _ _ _ _ _ _ _ _ d0 d1, show rB o.k o.r o.b o.i o.s o.d o.p o.m = true from hok] at hRr
    exact rl_some ad len cap r Q o.k o.r o.b o.i o.s o.d o.p o.m k (puN o) (fun j => (puZ Q o j : Nat)) (puR Q o : Nat) w hm (by omega) (by omega) (by omega) (by omega) (by omega) (by omega) ht
      (fun W hW => put_any Q hQ o hok W hW) (fun W g cap2 hW hS => take_put Q hQ o hok d0 d1 W hW g cap2 hS) hRr
end Go.Proofs.YtkpnafgmjcnniaaDoor
