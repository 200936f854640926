/- The walk of CpuTells, every input. -/
import Derived.Test.YtkpnafgmjcnniaaDoorAl
import Derived.Test.YtkpnafgmjcnniaaDoorAr
import Derived.Test.YtkpnafgmjcnniaaDoorAs
import Derived.Test.YtkpnafgmjcnniaaDoorAu
import Derived.Test.YtkpnafgmjcnniaaDoorAx
import Derived.Test.YtkpnafgmjcnniaaDoorAy
import Derived.Test.YtkpnafgmjcnniaaDoorAy0
namespace Go.Proofs.YtkpnafgmjcnniaaDoor
open Go.RowKit
set_option linter.unusedVariables false
set_option linter.unusedSimpArgs false
theorem tells8_walk (c : Array Value) (n wd y cc k r b i s d : Int) (p : Bool) (m x : Int) (hF : CPUF c) (_hn : (Lit.int .i64 n).wf = true) (_hw : (Lit.int .i64 wd).wf = true) (hy : (Lit.int .u64 y).wf = true) (hcc : (Lit.int .u8 cc).wf = true)
    (_h0 : (Lit.int .u8 k).wf = true) (_h1 : (Lit.int .i64 r).wf = true) (_h2 : (Lit.int .i64 b).wf = true) (_h3 : (Lit.int .i64 i).wf = true) (_h4 : (Lit.int .i64 s).wf = true) (hd : (Lit.int .i64 d).wf = true) (_h7 : (Lit.int .i64 m).wf = true) (hx : (Lit.int .u64 x).wf = true) {w : World} (_W : World) (hm : Mk w) :
    Calls Tryd.prog 8 #[.agg c, .int .i64 n, .int .i64 wd, .int .u64 y, .int .u8 cc, ov k r b i s d p m, .int .u64 x] w fun e w' => e = .returned (.bool true) ∧ Below w.heap.size w w' := by
  have hc := hF.cpu
  have bx := Go.bounds_u64 hx
  have by' := Go.bounds_u64 hy
  have bc := Go.bounds_u8 hcc
  have bd := Go.bounds_i64 hd
  obtain ⟨X, rfl⟩ := Int.eq_ofNat_of_zero_le bx.1
  obtain ⟨Y, rfl⟩ := Int.eq_ofNat_of_zero_le by'.1
  obtain ⟨cN, rfl⟩ := Int.eq_ofNat_of_zero_le bc.1
  have hcN : cN < 256 := by omega
  have hY : Y < 18446744073709551616 := by omega
  obtain ⟨C, hC⟩ := hF.fla 272 (by omega) (by omega)
  obtain ⟨Z, hZ⟩ := hF.fla 273 (by omega) (by omega)
  obtain ⟨S, hS⟩ := hF.fla 274 (by omega) (by omega)
  obtain ⟨O, hO⟩ := hF.fla 275 (by omega) (by omega)
  obtain ⟨P, hP⟩ := hF.fla 276 (by omega) (by omega)
  have hi : n % 16 = (((n % 16).toNat : Nat) : Int) := by omega
  have hi16 : (n % 16).toNat < 16 := by omega
  have hD := hF.set (n % 16).toNat (stN (regN c (n % 16).toNat) Y wd) hi16 (stN_lt _ _ (hc.lt _) hY wd)
  obtain ⟨A, E, hA1, hA2⟩ : ∃ A E : Int, (∀ W, Mk W → Calls Tryd.prog 27 #[.agg c, ov k r b i s d p m, .int .u64 X] W fun e w' => e = .returned (.tuple #[.int .u64 A, .int .i64 E]) ∧ Below W.heap.size W w') ∧ (∀ W, Calls Tryd.prog 28 #[.agg c, ov k r b i s d p m, .int .u64 X] W fun e w' => e = .returned (.tuple #[.int .u64 A, .int .i64 E]) ∧ Below W.heap.size W w') := by
    by_cases hk : k = 2
    · subst hk
      have hR : ∀ W, Calls Tryd.prog 19 #[ov 2 r b i s d p m] W fun e w' => e = .returned (.bool (rB 2 r b i s d p m)) ∧ Below W.heap.size W w' := fun W => by
        rw [← rrB_eq 2 r b i s d p m (by omega) (by omega)]; exact rright_any 2 r b i s d p m W
      cases hr : rB 2 r b i s d p m
      · rw [hr] at hR
        exact ⟨0, 2, fun W hW => addr_bad r b i s d p m X c W hW hr, fun W => raddr_bad r b i s d p m X c hR W⟩
      · rw [hr] at hR
        exact ⟨_, 0, fun W hW => addr_all r b i s d p m X c (regN c) hc W hW hr, fun W => raddr_all r b i s d p m X c (regN c) hc hr hR W⟩
    · have hkb : (k != 2) = true := by simpa using hk
      exact ⟨0, 2, fun W _ => addr_no k r b i s d p m X c hkb W, fun W => raddr_no k r b i s d p m X c hkb W⟩
  exact tells8_core c _ _ C Z S O P _ _ _ _ _ _ k r b i s d p m X n wd Y cN A E _ _ w hm hF.size ⟨hC, hZ, hS, hO, hP⟩ (eq50 hD) (eq45 hF _ hi16)
    hA1 hA2 (fun W => get_any c (regN c) hc n wd W) (fun W => rget_any c (regN c) hc n wd W) (fun W => set_any c (regN c) hc n wd Y hY W) (fun W => rset_any c (regN c) hc n wd Y hY W)
    (fun W => vec_any c hF n _ hi hi16 W) (fun W => rvec_any c hF n _ hi hi16 W) (fun W => cond_any C Z S O P cN hcN W) (fun W => rcond_any C Z S O P cN hcN W)
    (fun W => packed_any C Z S O P W) (fun W => rpacked_all C Z S O P W) (fun W => unpacked_any _ W) (fun W => runpacked_any _ W)
end Go.Proofs.YtkpnafgmjcnniaaDoor
