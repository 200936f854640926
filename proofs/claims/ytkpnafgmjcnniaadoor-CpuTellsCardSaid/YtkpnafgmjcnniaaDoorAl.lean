/- Package cpu: Address, one contract. -/
import Derived.Test.YtkpnafgmjcnniaaDoorAh
import Derived.Test.YtkpnafgmjcnniaaDoorPa
namespace Go.Proofs.YtkpnafgmjcnniaaDoor
open Go.RowKit
set_option linter.unusedVariables false
set_option linter.unusedSimpArgs false
def mulN (a : Nat) (s : Int) : Nat := a * uN s % 18446744073709551616
theorem mul_val (a : Nat) (s : Int) : IntKind.u64.wrap ((a : Nat) * IntKind.u64.wrap s) = ((mulN a s : Nat) : Int) := by
  rw [uN_val s, IntKind.wrap_u64]
  unfold mulN
  rw [Int.natCast_emod, Int.natCast_mul]
  rfl
/-- What an address is the sum of. -/
def adL (R : Nat → Nat) (p : Bool) (b i s d : Int) (x : Nat) : List Nat :=
  if p then [x, uN d] else (if b = -1 then [] else [R (b.toNat % 16)]) ++ ((if i = -1 then [] else [mulN (R (i.toNat % 16)) s]) ++ [uN d])
theorem stops_of {W : World} {qo qn qc : Nat} {r b i s d : Int} {p : Bool} {m : Int} {x : Nat} {c : Array Value} {R : Nat → Nat} (hc : CPU c R) (hb : -1 ≤ b) (hi : -1 ≤ i) (hp : p = true → b = -1 ∧ i = -1) (n : Nat) (hn : 1 ≤ n) (hA : AB W qo qn qc 2 r b i s d p m x c) :
    SeqStopsK Fence.wide n Tryd.prog 74 #[.pointer (some ⟨qo, 0, none⟩), .pointer (some ⟨qn, 0, none⟩), .pointer (some ⟨qc, 0, none⟩)] (fun y : Nat => #[Value.int .u64 y]) (KpA qo qn qc) (fun l => l = adL R p b i s d x) (fun _ => True) 4 W := fun l J Jx W1 hW hJ hJx hY h0 => by
  have hg : ∀ pre W1 W2, J pre W1 → World.grownBy W1 W2 none → J pre W2 := fun pre W1 W2 h hg => hJ pre W1 W2 none h hg (fun r e => by cases e)
  have hA1 := hA.keep hW
  cases p
  · by_cases hb1 : b = -1
    · subst hb1
      by_cases hi1 : i = -1
      · subst hi1
        exact cp_nxx n hn l qo qn qc r s d m x 0 0 _ c R hc (mul_val _ s) J Jx hY W1 hA1 h0 hg
      · obtain ⟨I, rfl⟩ := Int.eq_ofNat_of_zero_le (show 0 ≤ i by omega)
        have e : adL R false (-1) I s d x = [mulN (R (I % 16)) s, uN d] := by simp [adL, hi1]
        rw [e]
        exact cp_nxi n hn l qo qn qc r s d m x 0 I _ c R hc (mul_val _ s) J Jx hY W1 hA1 h0 hg
    · obtain ⟨B, rfl⟩ := Int.eq_ofNat_of_zero_le (show 0 ≤ b by omega)
      by_cases hi1 : i = -1
      · subst hi1
        have e : adL R false B (-1) s d x = [R (B % 16), uN d] := by simp [adL, hb1]
        rw [e]
        exact cp_nbx n hn l qo qn qc r s d m x B 0 _ c R hc (mul_val _ s) J Jx hY W1 hA1 h0 hg
      · obtain ⟨I, rfl⟩ := Int.eq_ofNat_of_zero_le (show 0 ≤ i by omega)
        have e : adL R false B I s d x = [R (B % 16), mulN (R (I % 16)) s, uN d] := by simp [adL, hb1, hi1]
        rw [e]
        exact cp_nbi n hn l qo qn qc r s d m x B I _ c R hc (mul_val _ s) J Jx hY W1 hA1 h0 hg
  · obtain ⟨rfl, rfl⟩ := hp rfl
    exact cp_pxx n hn l qo qn qc r s d m x 0 0 _ c R hc (mul_val _ s) J Jx hY W1 hA1 h0 hg
theorem rB_parts {r b i s d : Int} {p : Bool} {m : Int} (h : rB 2 r b i s d p m = true) : r = 0 ∧ m = 0 ∧ -1 ≤ b ∧ b ≤ 15 ∧ -1 ≤ i ∧ i ≤ 15 ∧ (p = true → b = -1 ∧ i = -1) := by
  obtain ⟨ho, _, hp⟩ := ok_mem (o := ⟨2, r, b, i, s, d, p, m⟩) h (show (2 : Int) ≠ 1 by decide)
  have h1 : r = 0 := congrArg Opd.r ho
  have h2 : m = 0 := congrArg Opd.m ho
  dsimp only at hp
  cases p
  · obtain ⟨a1, a2, a3, a4, _⟩ := ok_parts hp
    exact ⟨h1, h2, a1, a2, a3, a4, fun h => by cases h⟩
  · obtain ⟨rfl, rfl, _⟩ := ok_rip hp
    exact ⟨h1, h2, by omega, by omega, by omega, by omega, fun _ => ⟨rfl, rfl⟩⟩
theorem addr_all (r b i s d : Int) (p : Bool) (m : Int) (x : Nat) (c : Array Value) (R : Nat → Nat) (hc : CPU c R) (w : World) (hm : Mk w) (hr : rB 2 r b i s d p m = true) :
    Calls Tryd.prog 27 #[.agg c, ov 2 r b i s d p m, .int .u64 x] w fun e W' => e = .returned (.tuple #[.int .u64 (sumA (adL R p b i s d x)), .int .i64 0]) ∧ Below w.heap.size w W' := by
  obtain ⟨_, _, h1, _, h2, _, h3⟩ := rB_parts hr
  exact callsIn_wide.1 (addr_gen 3 (Nat.le_refl _) r b i s d p m x c R hc _ (fun W qo qn qc hA => stops_of hc h1 h2 h3 2 (by omega) hA) w hm hr)
set_option maxRecDepth 100000 in
theorem addr_bad (r b i s d : Int) (p : Bool) (m x : Int) (c : Array Value) (w : World) (hm : Mk w) (hr : rB 2 r b i s d p m = false) :
    Calls Tryd.prog 27 #[.agg c, ov 2 r b i s d p m, .int .u64 x] w fun e W' => e = .returned (.tuple #[.int .u64 0, .int .i64 2]) ∧ Below w.heap.size w W' := by
  have HS := Lib.hid (AS.new w c 2 r b i s d p m)
  have HR : Hid (∀ W, Mk W → Calls Tryd.prog 18 #[ov 2 r b i s d p m] W fun e w' => e = .returned (.bool false) ∧ Below W.heap.size W w') := Lib.hid (fun W hW => by rw [← hr]; exact right_any 2 r b i s d p m W hW)
  have HM := Lib.hid hm
  clear hr hm
  go_enter Tryd.func27, Tryd.ntmps27
  go_upto_region 1 with fail
  generalize World.alloc (World.alloc (World.alloc _ _) _) _ = W1 at *
  obtain ⟨c0, c1, c2, c3, c4, c5, c6, c7⟩ := HS.out.2.1.c
  have hz := HM.out.below HS.out.2.2.2
  go_wp2_with (go_at_call 18; (with_reducible refine (HR.out _ hz).mono ?_); rintro e w1 ⟨rfl, hb1⟩; have HK := Lib.hid (HS.out.keep hb1); clear hb1 c0 c1 c2 c3 c4 c5 c6 c7; have ca : w1.cell? ⟨w.heap.size + 1 + 1, 0, none⟩ = some (.int .u64 0) := (by have := HK.out.2.2.1; simp [World.cell?, this]); have fa : w1.frozen? ⟨w.heap.size + 1 + 1, 0, none⟩ = false := (by have := HK.out.2.2.1; simp [World.frozen?, this]))
  have HB := Lib.hid (HK.out.2.2.2.setCell (p := ⟨w.heap.size + 1 + 1, 0, none⟩) (by dsimp only; omega) (.int .u64 0))
  have HT : Hid ((w1.setCell ⟨w.heap.size + 1 + 1, 0, none⟩ (.int .u64 0)).cell? ⟨w.heap.size + 1 + 1, 0, none⟩ = some (.int .u64 0)) := Lib.hid (by have := cset (i := 0) (v := .int .u64 0) HK.out.2.2.1; simp [World.cell?, this])
  generalize World.setCell _ _ _ = W3 at *
  have ct := HT.out
  exact bodyPost_ret (v := .tuple #[.int .u64 0, .int .i64 2]) (by simp [results, Tryd.results27, go_sem, ct]) rfl ⟨rfl, HB.out⟩
end Go.Proofs.YtkpnafgmjcnniaaDoor
