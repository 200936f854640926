/- OperandParts, for all bytes and any prefix. -/
import Derived.Test.YtkpnafgmjcnniaaDoorPq
import Derived.Test.YtkpnafgmjcnniaaDoorPl
import Derived.Test.YtkpnafgmjcnniaaDoorPl0
import Derived.Test.YtkpnafgmjcnniaaDoorPl1
import Derived.Test.YtkpnafgmjcnniaaDoorPl2
namespace Go.Proofs.YtkpnafgmjcnniaaDoor
open Go.RowKit
set_option linter.unusedVariables false
set_option linter.unusedSimpArgs false
theorem own_nil {w : World} {B : Nat} {v : Value} (h : w.ownsRow B 3 1 v 0 []) : ∃ sp cap, v = .slice sp 0 cap := by
  rcases h.2 with ⟨rfl, _⟩ | ⟨g, cap, cur, rfl, _⟩
  · exact ⟨_, _, rfl⟩
  · exact ⟨_, _, rfl⟩
theorem own_cons {w : World} {B n : Nat} {v : Value} {xs : List Value} (h : w.ownsRow B 3 1 v (n + 1) xs) : ∃ g cap, v = .slice (some ⟨g, 0, none⟩) (n + 1) cap ∧ ∀ j, j < n + 1 → w.cell? ⟨g, j, none⟩ = xs[j]? := by
  rcases h.2 with ⟨_, h0⟩ | ⟨g, cap, cur, rfl, _⟩
  · exact absurd h0 (by omega)
  · exact ⟨g, cap, rfl, fun j hj => h.cellAt j (by omega)⟩
theorem partL_cases (k b i : Int) (hb : -1 ≤ b ∧ b ≤ 15) (hi : -1 ≤ i ∧ i ≤ 15) : partL k b i = [] ∨ (∃ x, partL k b i = [x] ∧ 0 ≤ x ∧ x ≤ 15) ∨ ∃ x y, partL k b i = [x, y] ∧ (0 ≤ x ∧ x ≤ 15) ∧ 0 ≤ y ∧ y ≤ 15 := by
  unfold partL
  by_cases hk : k = 2
  · rw [if_pos hk]
    by_cases h1 : 0 ≤ b
    · by_cases h2 : 0 ≤ i
      · rw [if_pos h1, if_pos h2]; exact .inr (.inr ⟨b, i, rfl, by omega, by omega⟩)
      · rw [if_pos h1, if_neg h2]; exact .inr (.inl ⟨b, rfl, by omega⟩)
    · by_cases h2 : 0 ≤ i
      · rw [if_neg h1, if_pos h2]; exact .inr (.inl ⟨i, rfl, by omega⟩)
      · rw [if_neg h1, if_neg h2]; exact .inl rfl
  · rw [if_neg hk]; exact .inl rfl
theorem parts_walk (ad : Option Addr) (len cap : Nat) (zs : List Int) (R : Int) {w : World} (hb : BY w ad len cap zs) (hR : (Lit.int .u8 R).wf = true) (_W : World) (hm : Mk w) :
    Calls Tryd.prog 6 #[.slice ad len cap, .int .u8 R] w fun e w' => e = .returned (.bool true) ∧ Below w.heap.size w w' := by
  have hRb := Go.bounds_u8 hR
  obtain ⟨r, rfl⟩ := Int.eq_ofNat_of_zero_le hRb.1
  by_cases h20 : 20 < len
  · exact pl_out ad len cap r w hm (by omega)
  have hr8 : r < 256 := by omega
  obtain ⟨e7, e2⟩ := rex7 ⟨r, hr8⟩
  have ht : ∀ S : Nat, S < 256 → ∀ W, Below w.heap.size w W → Calls Tryd.prog 13 #[.slice ad len cap, .int .u8 S] W fun e w' => e = .returned (tkV (tkF len (zN zs) S)) ∧ Below W.heap.size W w' :=
    fun S hS W hW => take_any ad len cap (zN zs) S hS W hb.lt (hm.below hW) (hb.bs.below hW) (by omega) hb.cap
  have t1 := ht r hr8
  have t2 := ht (r % 8) (by omega)
  have t3 := ht 0 (by omega)
  rw [tk_low] at t2
  cases hk : tkF len (zN zs) r with
  | none =>
    rw [hk] at t1 t2
    rw [tk_none _ _ _ hk] at t3
    exact pl_none ad len cap r ((r % 8 : Nat) : Int) w hm (by omega) e7 t1 t2 t3
  | some x =>
    obtain ⟨reg, o, k⟩ := x
    obtain ⟨t, q, hq, hreg, ⟨tl, th⟩, rk, rd, rp, rr, rb, ri, ⟨a1, a2⟩, ⟨a3, a4⟩, ⟨a5, a6⟩, a7, a8⟩ := tk_some _ _ _ _ _ _ hk
    rw [hk] at t1 t2
    rw [hq] at t3
    rw [gN_two] at hreg
    have ho : o = ⟨q.k, o.r, o.b, o.i, o.s, q.d, q.p, o.m⟩ := by rw [← rk, ← rd, ← rp]
    have hU := uses_wide o
    rw [ho] at t1 t2 hU
    have z0 : (0 : Int) ≤ ((r / 4 % 2 : Nat) : Int) := by omega
    have z1 : ((r / 4 % 2 : Nat) : Int) ≤ 1 := by omega
    rcases partL_cases q.k o.b o.i a7 a8 with hp | ⟨x, hp, x0, x1⟩ | ⟨x, y, hp, ⟨x0, x1⟩, y0, y1⟩
    · exact pl_some0 ad len cap r ((r % 8 : Nat) : Int) reg t ((r / 4 % 2 : Nat) : Int) k q.k o.r o.b o.i o.s q.d q.p o.m q.r q.b q.i q.s q.m w hm (by omega) e7 e2 z0 z1 tl th hreg a1 a2 a3 a4 a5 a6 rr rb ri t1 t2 t3
        (fun W => (hU W).mono fun e w' h => by
          obtain ⟨⟨v, he, hv⟩, hB⟩ := h
          rw [show partL _ _ _ = _ from hp] at hv
          exact ⟨⟨v, he, own_nil hv⟩, hB⟩)
    · exact pl_some1 ad len cap r ((r % 8 : Nat) : Int) reg t ((r / 4 % 2 : Nat) : Int) k q.k o.r o.b o.i o.s q.d q.p o.m q.r q.b q.i q.s q.m x w hm (by omega) e7 e2 z0 z1 tl th hreg a1 a2 a3 a4 a5 a6 rr rb ri t1 t2 t3 x0 x1
        (fun W => (hU W).mono fun e w' h => by
          obtain ⟨⟨v, he, hv⟩, hB⟩ := h
          rw [show partL _ _ _ = _ from hp] at hv
          obtain ⟨g, c, e1, e2⟩ := own_cons (n := 0) hv
          exact ⟨⟨v, he, g, c, e1, e2 0 (by omega)⟩, hB⟩)
    · exact pl_some2 ad len cap r ((r % 8 : Nat) : Int) reg t ((r / 4 % 2 : Nat) : Int) k q.k o.r o.b o.i o.s q.d q.p o.m q.r q.b q.i q.s q.m x y w hm (by omega) e7 e2 z0 z1 tl th hreg a1 a2 a3 a4 a5 a6 rr rb ri t1 t2 t3 x0 x1 y0 y1
        (fun W => (hU W).mono fun e w' h => by
          obtain ⟨⟨v, he, hv⟩, hB⟩ := h
          rw [show partL _ _ _ = _ from hp] at hv
          obtain ⟨g, c, e1, e2⟩ := own_cons (n := 1) hv
          exact ⟨⟨v, he, g, c, e1, e2 0 (by omega), e2 1 (by omega)⟩, hB⟩)
end Go.Proofs.YtkpnafgmjcnniaaDoor
