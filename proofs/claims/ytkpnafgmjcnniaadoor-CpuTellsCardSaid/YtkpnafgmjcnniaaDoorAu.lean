/- The reference's conditions and packed flags. -/
import Derived.Test.YtkpnafgmjcnniaaDoorAt
namespace Go.Proofs.YtkpnafgmjcnniaaDoor
open Go.RowKit
set_option linter.unusedVariables false
set_option linter.unusedSimpArgs false
theorem odd1_fin : ∀ n : Fin 256, (bits .and .u8 (n.val : Int) 1 == 1) = decide (n.val % 2 = 1) := by decide +kernel
theorem rcond_any (C Z S O P : Bool) (n : Nat) (hn : n < 256) (w : World) :
    Calls Tryd.prog 36 #[fl C Z S O P, .int .u8 n] w fun e w' => e = .returned (.bool (cdB C Z S O P n)) ∧ Below w.heap.size w w' := by
  have h1 := rcc_fin ⟨n, hn⟩
  have h2 := odd1_fin ⟨n, hn⟩
  dsimp only at h1 h2
  have hk : n % 16 / 2 < 8 := by omega
  unfold cdB
  generalize n % 16 / 2 = k at *
  match k, hk with
  | 0, _ => have h := rcond_0 C Z S O P n h1 w; rw [h2] at h; exact h
  | 1, _ => have h := rcond_1 C Z S O P n h1 w; rw [h2] at h; exact h
  | 2, _ => have h := rcond_2 C Z S O P n h1 w; rw [h2] at h; exact h
  | 3, _ => have h := rcond_3 C Z S O P n h1 w; rw [h2] at h; exact h
  | 4, _ => have h := rcond_4 C Z S O P n h1 w; rw [h2] at h; exact h
  | 5, _ => have h := rcond_5 C Z S O P n h1 w; rw [h2] at h; exact h
  | 6, _ => have h := rcond_6 C Z S O P n h1 w; rw [h2] at h; exact h
  | 7, _ => have h := rcond_7 C Z S O P n h1 w; rw [h2] at h; exact h
/-- The sum of the first k bits. -/
def rsK (C Z S O P : Bool) (k : Nat) : Int := match k with
  | 0 => 0
  | 1 => if C then 1 else 0
  | 2 => (if C then 1 else 0) + (if P then 4 else 0)
  | 3 => (if C then 1 else 0) + (if P then 4 else 0) + (if O then 8 else 0)
  | 4 => (if C then 1 else 0) + (if P then 4 else 0) + (if O then 8 else 0) + (if Z then 64 else 0)
  | _ => (if C then 1 else 0) + (if P then 4 else 0) + (if O then 8 else 0) + (if Z then 64 else 0) + (if S then 128 else 0)
theorem rsK_sum : ∀ C Z S O P : Bool, rsK C Z S O P 5 = sumI C Z S O P seqE := by decide +kernel
def flR (C Z S O P : Bool) : Array Value := #[.bool C, .bool P, .bool O, .bool Z, .bool S]
def bsR : Array Value := #[.int .u8 1, .int .u8 4, .int .u8 8, .int .u8 64, .int .u8 128]
def flK (C Z S O P : Bool) (k : Nat) : Bool := match k with
  | 0 => C
  | 1 => P
  | 2 => O
  | 3 => Z
  | _ => S
def bK (k : Nat) : Int := match k with
  | 0 => 1
  | 1 => 4
  | 2 => 8
  | 3 => 64
  | _ => 128
theorem rsK_step : ∀ C Z S O P : Bool, ∀ k : Fin 5, rsK C Z S O P (k.val + 1) = if flK C Z S O P k.val then IntKind.u8.wrap (rsK C Z S O P k.val + bK k.val) else rsK C Z S O P k.val := by decide +kernel
theorem flR_at (C Z S O P : Bool) (k : Nat) (h : k < 5) : (flR C Z S O P)[k]? = some (.bool (flK C Z S O P k)) := by
  match k, h with
  | 0, _ => rfl
  | 1, _ => rfl
  | 2, _ => rfl
  | 3, _ => rfl
  | 4, _ => rfl
theorem bsR_at (k : Nat) (h : k < 5) : bsR[k]? = some (.int .u8 (bK k)) := by
  match k, h with
  | 0, _ => rfl
  | 1, _ => rfl
  | 2, _ => rfl
  | 3, _ => rfl
  | 4, _ => rfl
theorem bK_bd (k : Nat) : 0 ≤ bK k ∧ bK k < 256 := by unfold bK; split <;> omega
theorem rsK_bd (C Z S O P : Bool) (k : Nat) : 0 ≤ rsK C Z S O P k ∧ rsK C Z S O P k < 256 := by
  unfold rsK; cases C <;> cases Z <;> cases S <;> cases O <;> cases P <;> (split <;> simp)
def RP (w : World) (C Z S O P : Bool) (W : World) : Prop := W.heap[w.heap.size + 1]? = some (.cells (flR C Z S O P) 96 (0, 0)) ∧ W.heap[w.heap.size + 1 + 1]? = some (.cells bsR 97 (0, 0)) ∧ Below w.heap.size w W
theorem RP.new (w : World) (C Z S O P : Bool) : RP w C Z S O P (((w.alloc (.cells #[.bool C, .bool Z, .bool S, .bool O, .bool P] 48)).alloc (.cells (flR C Z S O P) 96)).alloc (.cells bsR 97)) := by
  have h1 := heap_alloc_last (w.alloc (.cells #[.bool C, .bool Z, .bool S, .bool O, .bool P] 48)) (.cells (flR C Z S O P) 96)
  have h2 := heap_alloc_last ((w.alloc (.cells #[.bool C, .bool Z, .bool S, .bool O, .bool P] 48)).alloc (.cells (flR C Z S O P) 96)) (.cells bsR 97)
  simp only [World.size_alloc] at h1 h2
  exact ⟨(((Below.refl (w.heap.size + 1 + 1) _).alloc (by simp) _).block _ (by omega)).trans h1, h2, (((Below.refl _ w).alloc (Nat.le_refl _) _).alloc (by simp) _).alloc (by simp; omega) _⟩
set_option maxHeartbeats 4000000 in
theorem rpacked_all (C Z S O P : Bool) (w : World) :
    Calls Tryd.prog 38 #[fl C Z S O P] w fun e w' => e = .returned (.int .u8 (sumI C Z S O P seqE)) ∧ Below w.heap.size w w' := by
  have HQ := Lib.hid (rsK_sum C Z S O P)
  have HT := Lib.hid (rsK_step C Z S O P)
  have HR := Lib.hid (RP.new w C Z S O P)
  unfold fl
  unfold flR bsR at HR
  go_enter Tryd.func38, Tryd.ntmps38
  go_wp2_with fail
  generalize World.alloc (World.alloc (World.alloc _ _) _) _ = W1 at *
  go_loop [3, 6] (fun n i => ∃ k : Nat, k ≤ 5 ∧ i = .int .i64 k ∧ n = .int .u8 (rsK C Z S O P k)) (fun _ i => 5 - (intOf i).toNat)
  case atStart => exact ⟨0, by omega, rfl, rfl⟩
  case round =>
    obtain ⟨k, hk, rfl, rfl⟩ := hrel
    by_cases hlt : k < 5
    · have c1 : W1.cell? ⟨w.heap.size + 1, k, none⟩ = some (.bool (flK C Z S O P k)) := by
        simp [World.cell?, HR.out.1]; exact flR_at C Z S O P k hlt
      have c2 : W1.cell? ⟨w.heap.size + 1 + 1, k, none⟩ = some (.int .u8 (bK k)) := by
        simp [World.cell?, HR.out.2.1]; exact bsR_at k hlt
      have HT2 := Lib.hid (HT.out ⟨k, hlt⟩)
      have hb0 := bK_bd k
      have hs0 := rsK_bd C Z S O P k
      generalize flK C Z S O P k = q at *
      generalize bK k = bb at *
      generalize hss : rsK C Z S O P k = ss at *
      have HSS := Lib.hid hss
      clear hss
      cases q
      · go_wp2_with fail
        go_round
        case rel => exact ⟨k + 1, by omega, by go_num, by rw [HT2.out]; simp⟩
        case measure => simp [intOf]; omega
      · go_wp2_with fail
        go_round
        case rel => exact ⟨k + 1, by omega, by go_num, by rw [HT2.out]; simp [IntKind.wrap_u8]⟩
        case measure => simp [intOf]; omega
    · obtain rfl : k = 5 := by omega
      go_wp2
      go_ret
      exact ⟨by rw [HQ.out]; rfl, HR.out.2.2⟩
end Go.Proofs.YtkpnafgmjcnniaaDoor
