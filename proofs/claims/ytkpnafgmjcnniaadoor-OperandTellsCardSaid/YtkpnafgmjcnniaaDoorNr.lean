/- The document's own number: a displacement of one byte or four. -/
import Derived.Test.YtkpnafgmjcnniaaDoorBk
import Derived.LoopN
import Derived.Lib.EndianBits
namespace Go.Proofs.YtkpnafgmjcnniaaDoor
open Go.RowKit
set_option linter.unusedVariables false
set_option linter.unusedSimpArgs false
theorem rnum_few (sp : Option Addr) (n cap : Nat) (wd : Int) (w : World) (h : (n : Int) < wd) :
    Calls Tryd.prog 45 #[.slice sp n cap, .int .i64 wd] w fun e w' => e = .returned (.tuple #[.int .i64 0, .bool false]) ∧ w = w' := by
  go_enter Tryd.func45, Tryd.ntmps45
  go_wp2
  go_returns
  exact ⟨rfl, rfl⟩
def s1 (x : Nat) : Int := if x < 128 then x else (x : Int) - 256
theorem s1_eq (x : Int) (a : Nat) (hx : x = a) (h : a < 256) : IntKind.i64.wrap (IntKind.i8.wrap x) = s1 a := by
  subst hx
  have : ∀ a : Fin 256, IntKind.i64.wrap (IntKind.i8.wrap (a.val : Int)) = s1 a.val := by decide +kernel
  exact this ⟨a, h⟩
theorem rnum_one (b off : Nat) (n cap : Nat) (a : Nat) (w : World) (ha : a < 256) (h : 1 ≤ n) (hc : n ≤ cap) (c0 : w.cell? ⟨b, off, none⟩ = some (.int .u8 (a : Nat))) :
    Calls Tryd.prog 45 #[.slice (some ⟨b, off, none⟩) n cap, .int .i64 1] w fun e w' => e = .returned (.tuple #[.int .i64 (s1 a), .bool true]) ∧ w = w' := by
  have hs := s1_eq a a rfl ha
  go_enter Tryd.func45, Tryd.ntmps45
  go_wp2
  go_returns
  exact ⟨by rw [← hs]; first | rfl | (simp [go_sem]; done), rfl⟩
def s4 (x : Nat) : Int := if x < 2147483648 then x else (x : Int) - 4294967296
set_option maxHeartbeats 4000000 in
theorem rnum_four0 (b off : Nat) (n cap : Nat) (a0 a1 a2 a3 : Nat) (w : World) (h0 : a0 < 256) (h1 : a1 < 256) (h2 : a2 < 256) (h3 : a3 < 256) (h : 4 ≤ n) (hc : n ≤ cap) (c0 : w.cell? ⟨b, off, none⟩ = some (.int .u8 (a0 : Nat))) (c1 : w.cell? ⟨b, off + 1, none⟩ = some (.int .u8 (a1 : Nat))) (c2 : w.cell? ⟨b, off + 2, none⟩ = some (.int .u8 (a2 : Nat))) (c3 : w.cell? ⟨b, off + 3, none⟩ = some (.int .u8 (a3 : Nat))) (X : Int)
    (hX : bits .or .u32 (bits .or .u32 (bits .or .u32 (bits .or .u32 0 (a0 : Nat)) ((a1 : Nat) * 256)) ((a2 : Nat) * 65536)) ((a3 : Nat) * 16777216) = X) (hY : wrap64 (wrap32 X) = s4 (a0 + 256 * a1 + 65536 * a2 + 16777216 * a3)) :
    Calls Tryd.prog 45 #[.slice (some ⟨b, off, none⟩) n cap, .int .i64 4] w fun e w' => e = .returned (.tuple #[.int .i64 (s4 (a0 + 256 * a1 + 65536 * a2 + 16777216 * a3)), .bool true]) ∧ w = w' := by
  go_enter Tryd.func45, Tryd.ntmps45
  go_wp2
  refine wp_loop_rounds 5 ?_
  repeat any_goals (rw [rounds_succ]; go_wp2)
  go_returns
  exact ⟨by subst hX; rw [← hY]; rfl, rfl⟩
theorem or_four (a0 a1 a2 a3 : Nat) (h0 : a0 < 256) (h1 : a1 < 256) (h2 : a2 < 256) (h3 : a3 < 256) : bits .or .u32 (bits .or .u32 (bits .or .u32 (bits .or .u32 0 (a0 : Nat)) ((a1 : Nat) * 256)) ((a2 : Nat) * 65536)) ((a3 : Nat) * 16777216) = ((a0 + 256 * a1 + 65536 * a2 + 16777216 * a3 : Nat) : Int) := by
  have e0 : bits .or .u32 0 (a0 : Nat) = (a0 : Int) := by
    have := u32_or_nat 0 a0 (by omega) (by omega)
    simpa using this
  rw [e0, u32_or8 (a0 : Int) ((a1 : Int) * 256) (by omega) (by omega) (by omega) (by omega) (by omega), u32_or16 ((a0 : Int) + (a1 : Int) * 256) ((a2 : Int) * 65536) (by omega) (by omega) (by omega) (by omega) (by omega), u32_or24 ((a0 : Int) + (a1 : Int) * 256 + (a2 : Int) * 65536) ((a3 : Int) * 16777216) (by omega) (by omega) (by omega) (by omega) (by omega)]
  omega
theorem rnum_four (b off : Nat) (n cap : Nat) (z : Nat → Nat) (k : Nat) (w : World) (hz : ∀ j, z j < 256) (h : 4 ≤ n) (hc : n ≤ cap) (hcell : ∀ j, j < 4 → w.cell? ⟨b, off + j, none⟩ = some (.int .u8 (z (k + j) : Nat))) :
    Calls Tryd.prog 45 #[.slice (some ⟨b, off, none⟩) n cap, .int .i64 4] w fun e w' => e = .returned (.tuple #[.int .i64 (dI z k 4), .bool true]) ∧ w = w' := by
  have h0 := hz (k + 0)
  have h1 := hz (k + 1)
  have h2 := hz (k + 2)
  have h3 := hz (k + 3)
  have e : dI z k 4 = s4 (z (k + 0) + 256 * z (k + 1) + 65536 * z (k + 2) + 16777216 * z (k + 3)) := by
    have e : numN (fun j => z (k + j)) 4 = z (k + 0) + 256 * z (k + 1) + 65536 * z (k + 2) + 16777216 * z (k + 3) := by simp [numN]; omega
    unfold dI
    rw [e]
    generalize hA : z (k + 0) + 256 * z (k + 1) + 65536 * z (k + 2) + 16777216 * z (k + 3) = A
    have q4 := eN_val A (by unfold U; omega) ((4 : Nat) : Int) 32 (by decide)
    simp only [show (2 : Nat) ^ (32 - 1) = 2147483648 from rfl, show (2 : Nat) ^ 32 = 4294967296 from rfl] at q4
    rw [q4]
    unfold wrap64 s4
    split <;> split <;> omega
  rw [e]
  refine rnum_four0 b off n cap (z (k + 0)) (z (k + 1)) (z (k + 2)) (z (k + 3)) w h0 h1 h2 h3 h hc (hcell 0 (by omega)) (hcell 1 (by omega)) (hcell 2 (by omega)) (hcell 3 (by omega)) _ (or_four _ _ _ _ h0 h1 h2 h3) ?_
  unfold wrap64 wrap32 s4
  split <;> omega
theorem dI_s1 (z : Nat → Nat) (k : Nat) (hz : ∀ j, z j < 256) : dI z k 1 = s1 (z k) := by
  have h := hz k
  have e : numN (fun j => z (k + j)) 1 = z k := by simp [numN]
  unfold dI
  rw [e]
  have q := eN_val (z k) (by unfold U; omega) ((1 : Nat) : Int) 8 (by decide)
  simp only [show (2 : Nat) ^ (8 - 1) = 128 from rfl, show (2 : Nat) ^ 8 = 256 from rfl] at q
  rw [q]
  unfold wrap64 s1
  split <;> split <;> omega
end Go.Proofs.YtkpnafgmjcnniaaDoor
