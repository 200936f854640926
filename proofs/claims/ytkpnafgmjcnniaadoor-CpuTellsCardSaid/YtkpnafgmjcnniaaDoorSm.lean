/- Package operand's small functions. -/
import Derived.Test.YtkpnafgmjcnniaaDoorNu
import Derived.Below
import Derived.RegionTactic
import Derived.Deep.RegionHeld3
import Derived.Deep.DrawnRows
import Derived.BigQuiet
import Derived.Deep.QuietTactic
import Derived.Deep.WholeRow
import Derived.Deep.DeepCutAuto
import Derived.BigRegion
import Derived.ProofKit
import Derived.ArgAppend
import Derived.Laws.OwnMore
import Derived.Carry
namespace Go.Proofs.YtkpnafgmjcnniaaDoor
open Go.RowKit
set_option linter.unusedVariables false
set_option linter.unusedSimpArgs false
abbrev ov (k r b i s d : Int) (p : Bool) (m : Int) : Value := .agg #[.int .u8 k, .int .i64 r, .int .i64 b, .int .i64 i, .int .i64 s, .int .i64 d, .bool p, .int .i64 m]
abbrev ob (k r b i s d : Int) (p : Bool) (m : Int) : Obj := .cells #[.int .u8 k, .int .i64 r, .int .i64 b, .int .i64 i, .int .i64 s, .int .i64 d, .bool p, .int .i64 m] 23
theorem reg_any (r : Int) (w : World) :
    Calls Tryd.prog 23 #[.int .i64 r] w fun e w' => e = .returned (ov 1 r (-1) (-1) 0 0 false 0) ∧ Below w.heap.size w w' := by
  go_enter Tryd.func23, Tryd.ntmps23
  go_wp2
  refine bodyPost_ret (v := ov 1 r (-1) (-1) 0 0 false 0) (by simp [results, Tryd.results23, go_sem]) rfl ⟨rfl, by go_grown⟩
def mxI (b : Int) : Int := if b < -1 then -1 else b
theorem mem_any (b d : Int) (w : World) :
    Calls Tryd.prog 25 #[.int .i64 b, .int .i64 d] w fun e w' => e = .returned (ov 2 0 (mxI b) (-1) 1 d false 0) ∧ Below w.heap.size w w' := by
  go_enter Tryd.func25, Tryd.ntmps25
  go_wp2
  all_goals
    refine bodyPost_ret (v := ov 2 0 (mxI b) (-1) 1 d false 0) (by simp [results, Tryd.results25, go_sem, mxI]; try omega) rfl ⟨rfl, by go_grown⟩
def hiI (rex bit : Int) : Int := if bits .and .u8 rex bit != 0 then 8 else 0
theorem high_any (rex bit : Int) (w : World) :
    Calls Tryd.prog 43 #[.int .u8 rex, .int .u8 bit] w fun e w' => e = .returned (.int .i64 (hiI rex bit)) ∧ w = w' := by
  cases h : (bits .and .u8 rex bit != 0)
  · go_enter Tryd.func43, Tryd.ntmps43
    go_wp2
    go_ret
    exact ⟨by rw [hiI, h]; rfl, rfl⟩
  · go_enter Tryd.func43, Tryd.ntmps43
    go_wp2
    go_ret
    exact ⟨by rw [hiI, h]; rfl, rfl⟩
def scI (s : Int) : Int := if s = 2 then 64 else if s = 4 then 128 else if s = 8 then 192 else 0
theorem scale_any (s : Int) (w : World) :
    Calls Tryd.prog 49 #[.int .i64 s] w fun e w' => e = .returned (.int .u8 (scI s)) ∧ w = w' := by
  by_cases h2 : s = 2
  · subst h2
    go_enter Tryd.func49, Tryd.ntmps49
    go_wp2
    go_ret
    exact ⟨rfl, rfl⟩
  by_cases h4 : s = 4
  · subst h4
    go_enter Tryd.func49, Tryd.ntmps49
    go_wp2
    go_ret
    exact ⟨rfl, rfl⟩
  by_cases h8 : s = 8
  · subst h8
    go_enter Tryd.func49, Tryd.ntmps49
    go_wp2
    go_ret
    exact ⟨rfl, rfl⟩
  have e : scI s = 0 := by simp [scI, h2, h4, h8]
  have g2 : (s == 2) = false := by simpa using h2
  have g4 : (s == 4) = false := by simpa using h4
  have g8 : (s == 8) = false := by simpa using h8
  clear h2 h4 h8
  rw [e]
  clear e
  go_enter Tryd.func49, Tryd.ntmps49
  go_wp2
  go_ret
  exact ⟨rfl, rfl⟩
theorem Mk.below {w w' : World} (h : Mk w) (hb : Below w.heap.size w w') : Mk w' := fun i hi => by
  have h1 := h i hi
  have hlt : 0 < w.heap.size := by
    by_cases hh : 0 < w.heap.size
    · exact hh
    · exfalso
      have h0 : w.heap[0]? = none := Array.getElem?_eq_none (by omega)
      simp [World.cell?, h0] at h1
  exact (hb.cell (p := ⟨0, i, none⟩) hlt).trans h1
theorem Mk.alloc {w : World} (h : Mk w) (o : Obj) : Mk (w.alloc o) := h.below ((Below.refl _ _).alloc (Nat.le_refl _) o)
theorem Mk.drew {w : World} (h : Mk w) : Mk w.drew := h
def uN (n : Int) : Nat := (n % 18446744073709551616).toNat
theorem uN_val (n : Int) : IntKind.u64.wrap n = ((uN n : Nat) : Int) := by rw [IntKind.wrap_u64]; unfold uN; omega
theorem uN_U (n : Int) : U (uN n) := by unfold U uN; omega
def fB (n wd : Int) : Bool := ((eN (uN n) wd : Nat) : Int) == ((uN n : Nat) : Int)
theorem fits_any (n wd : Int) (w : World) (hm : Mk w) :
    Calls Tryd.prog 51 #[.int .i64 n, .int .i64 wd] w fun e w' => e = .returned (.bool (fB n wd)) ∧ w = w' := by
  have hu := uN_val n
  go_enter Tryd.func51, Tryd.ntmps51
  go_wp2_with fail
  go_at_call 68
  with_reducible refine (ext_any (uN n) (uN_U n) wd _ hm).mono ?_
  rintro e w1 ⟨rfl, rfl⟩
  go_wp2
  go_ret
  exact ⟨rfl, rfl⟩
def rpB (b i s : Int) (p : Bool) : Bool := if p then (b == -1 && i == -1 && s == 1) else if b < -1 ∨ b > 15 ∨ i < -1 ∨ i > 15 ∨ i = 4 then false else if s = 1 then true else if s = 2 ∨ s = 4 ∨ s = 8 then i != -1 else false
theorem rp_any (k r b i s d : Int) (p : Bool) (m : Int) (w : World) :
    Calls Tryd.prog 52 #[ov k r b i s d p m] w fun e w' => e = .returned (.bool (rpB b i s p)) ∧ Below w.heap.size w w' := by
  cases p
  all_goals
    go_enter Tryd.func52, Tryd.ntmps52
    go_wp2
    all_goals
      go_ret
      refine ⟨?_, by go_grown⟩
    all_goals refine congrArg Ending.returned (congrArg Value.bool ?_)
    all_goals try simp only [beq_iff_eq, beq_eq_false_iff_ne, ne_eq] at *
    all_goals (unfold rpB; simp only [Bool.false_eq_true, if_false, if_true]; try repeat' split) <;> first | contradiction | omega | (simp [*]; done) | (simp; omega) | (simp [*]; omega)
/-- An operand in a block of its own. -/
def O8 (W : World) (q : Nat) (k r b i s d : Int) (p : Bool) (m : Int) : Prop := W.heap[q]? = some (ob k r b i s d p m)
theorem O8.c {W : World} {q : Nat} {k r b i s d : Int} {p : Bool} {m : Int} (h : O8 W q k r b i s d p m) :
    W.cell? ⟨q, 0, none⟩ = some (.int .u8 k) ∧ W.cell? ⟨q, 1, none⟩ = some (.int .i64 r) ∧ W.cell? ⟨q, 2, none⟩ = some (.int .i64 b) ∧ W.cell? ⟨q, 3, none⟩ = some (.int .i64 i) ∧ W.cell? ⟨q, 4, none⟩ = some (.int .i64 s) ∧ W.cell? ⟨q, 5, none⟩ = some (.int .i64 d) ∧ W.cell? ⟨q, 6, none⟩ = some (.bool p) ∧ W.cell? ⟨q, 7, none⟩ = some (.int .i64 m) := by
  unfold O8 at h
  refine ⟨?_, ?_, ?_, ?_, ?_, ?_, ?_, ?_⟩ <;> simp [World.cell?, h]
theorem O8.f {W : World} {q : Nat} {k r b i s d : Int} {p : Bool} {m : Int} (h : O8 W q k r b i s d p m) :
    W.frozen? ⟨q, 0, none⟩ = false ∧ W.frozen? ⟨q, 1, none⟩ = false ∧ W.frozen? ⟨q, 2, none⟩ = false ∧ W.frozen? ⟨q, 3, none⟩ = false ∧ W.frozen? ⟨q, 4, none⟩ = false ∧ W.frozen? ⟨q, 5, none⟩ = false ∧ W.frozen? ⟨q, 6, none⟩ = false ∧ W.frozen? ⟨q, 7, none⟩ = false := by
  unfold O8 at h
  refine ⟨?_, ?_, ?_, ?_, ?_, ?_, ?_, ?_⟩ <;> simp [World.frozen?, h]
theorem O8.lt {W : World} {q : Nat} {k r b i s d : Int} {p : Bool} {m : Int} (h : O8 W q k r b i s d p m) : q < W.heap.size := (Array.getElem?_eq_some_iff.1 h).1
theorem O8.new (w : World) (k r b i s d : Int) (p : Bool) (m : Int) : O8 (w.alloc (ob k r b i s d p m)) w.heap.size k r b i s d p m := World.alloc_heap_new w _
theorem O8.keep {W W' : World} {q : Nat} {k r b i s d : Int} {p : Bool} {m : Int} (h : O8 W q k r b i s d p m) (hb : Below W.heap.size W W') : O8 W' q k r b i s d p m := (hb.block _ h.lt).trans h
def OS (w : World) (q : Nat) (k r b i s d : Int) (p : Bool) (m : Int) (W : World) : Prop := O8 W q k r b i s d p m ∧ Below w.heap.size w W
theorem OS.keep {w W W' : World} {q : Nat} {k r b i s d : Int} {p : Bool} {m : Int} (h : OS w q k r b i s d p m W) (hb : Below W.heap.size W W') : OS w q k r b i s d p m W' := ⟨h.1.keep hb, h.2.trans (hb.mono h.2.size)⟩
theorem OS.drew {w W : World} {q : Nat} {k r b i s d : Int} {p : Bool} {m : Int} (h : OS w q k r b i s d p m W) : OS w q k r b i s d p m W.drew := ⟨h.1, h.2.drew⟩
theorem OS.new (w : World) (k r b i s d : Int) (p : Bool) (m : Int) : OS w w.heap.size k r b i s d p m (w.alloc (ob k r b i s d p m)) := ⟨O8.new w k r b i s d p m, (Below.refl _ _).alloc (Nat.le_refl _) _⟩
end Go.Proofs.YtkpnafgmjcnniaaDoor
