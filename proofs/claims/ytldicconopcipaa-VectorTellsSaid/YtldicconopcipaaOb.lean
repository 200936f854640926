/- Blocks as arguments. -/
import Derived.Test.YtldicconopcipaaF
import Derived.Test.YtldicconopcipaaJ
import Derived.WalkKit
import Derived.ProofKit
import Derived.OpenShut
import Derived.ChangeSame
import Derived.RowKit3
namespace Go.Proofs.Ytldicconopcipaa
open Go.ChangeShapes Go.WideShapes Go.ChangeAt Go.RowKit
set_option linter.unusedVariables false
set_option linter.unusedSimpArgs false
theorem list16 {α : Type} (l : List α) (h : l.length = 16) : ∃ a0 a1 a2 a3 a4 a5 a6 a7 a8 a9 a10 a11 a12 a13 a14 a15, l = [a0, a1, a2, a3, a4, a5, a6, a7, a8, a9, a10, a11, a12, a13, a14, a15] := by
  match l, h with
  | [a0, a1, a2, a3, a4, a5, a6, a7, a8, a9, a10, a11, a12, a13, a14, a15], _ => exact ⟨a0, a1, a2, a3, a4, a5, a6, a7, a8, a9, a10, a11, a12, a13, a14, a15, rfl⟩
theorem cells22 : Try.prog.cellsOf 22 = 16 := by kernel_rfl
theorem cells5 : Try.prog.cellsOf 5 = 1 := by kernel_rfl
/-- A block as data. -/
def dA {H : Type} (f : Nat → Int) : DataW H := .agg ((List.range 16).map fun i => .lit (.int .u8 (f i)))
set_option maxRecDepth 10000 in
theorem open16 {H : Type} {enc : TypeId × Value → H} {w : World} {base : Nat} {spare : Nat → Bool} {held : Bool} {r : Reach} {b0 : Nat} {v : Value} {d : DataW H} {p : List MemPlace}
    (hv : Value.okWide Try.prog w r b0 22 v) (h : DataW.Trod enc Try.prog w base spare held 22 v d p) :
    ∃ f : Nat → Int, v = .agg (bA f) ∧ d = dA f ∧ p = [] ∧ (∀ i, i < 16 → (Lit.int .u8 (f i)).wf = true) := by
  obtain ⟨cs, rfl, hsz, _⟩ : ∃ cs, v = .agg cs ∧ cs.size = Try.prog.cellsOf 22 ∧ Row.okWide Try.prog w r b0 22 cs := by
    simpa [Value.okWide, Try.underlying22] using hv
  rw [cells22] at hsz
  obtain ⟨l⟩ := cs
  obtain ⟨c0, c1, c2, c3, c4, c5, c6, c7, c8, c9, c10, c11, c12, c13, c14, c15, rfl⟩ := list16 l hsz
  obtain ⟨fuel, hf⟩ := h
  obtain ⟨xs, m, _, hx, _, hlen, he⟩ := DataW.trod_array Try.underlying22 hf
  obtain ⟨y0, y1, y2, y3, y4, y5, y6, y7, y8, y9, y10, y11, y12, y13, y14, y15, rfl⟩ := list16 xs hlen
  simp only [cells5, Value.cells] at he
  have t0 := he 0 (by decide)
  simp at t0
  obtain ⟨x0, e0, rfl, w0⟩ := DataW.trod_int Try.underlying5 t0
  have t1 := he 1 (by decide)
  simp at t1
  obtain ⟨x1, e1, rfl, w1⟩ := DataW.trod_int Try.underlying5 t1
  have t2 := he 2 (by decide)
  simp at t2
  obtain ⟨x2, e2, rfl, w2⟩ := DataW.trod_int Try.underlying5 t2
  have t3 := he 3 (by decide)
  simp at t3
  obtain ⟨x3, e3, rfl, w3⟩ := DataW.trod_int Try.underlying5 t3
  have t4 := he 4 (by decide)
  simp at t4
  obtain ⟨x4, e4, rfl, w4⟩ := DataW.trod_int Try.underlying5 t4
  have t5 := he 5 (by decide)
  simp at t5
  obtain ⟨x5, e5, rfl, w5⟩ := DataW.trod_int Try.underlying5 t5
  have t6 := he 6 (by decide)
  simp at t6
  obtain ⟨x6, e6, rfl, w6⟩ := DataW.trod_int Try.underlying5 t6
  have t7 := he 7 (by decide)
  simp at t7
  obtain ⟨x7, e7, rfl, w7⟩ := DataW.trod_int Try.underlying5 t7
  have t8 := he 8 (by decide)
  simp at t8
  obtain ⟨x8, e8, rfl, w8⟩ := DataW.trod_int Try.underlying5 t8
  have t9 := he 9 (by decide)
  simp at t9
  obtain ⟨x9, e9, rfl, w9⟩ := DataW.trod_int Try.underlying5 t9
  have t10 := he 10 (by decide)
  simp at t10
  obtain ⟨x10, e10, rfl, w10⟩ := DataW.trod_int Try.underlying5 t10
  have t11 := he 11 (by decide)
  simp at t11
  obtain ⟨x11, e11, rfl, w11⟩ := DataW.trod_int Try.underlying5 t11
  have t12 := he 12 (by decide)
  simp at t12
  obtain ⟨x12, e12, rfl, w12⟩ := DataW.trod_int Try.underlying5 t12
  have t13 := he 13 (by decide)
  simp at t13
  obtain ⟨x13, e13, rfl, w13⟩ := DataW.trod_int Try.underlying5 t13
  have t14 := he 14 (by decide)
  simp at t14
  obtain ⟨x14, e14, rfl, w14⟩ := DataW.trod_int Try.underlying5 t14
  have t15 := he 15 (by decide)
  simp at t15
  obtain ⟨x15, e15, rfl, w15⟩ := DataW.trod_int Try.underlying5 t15
  simp at e0 e1 e2 e3 e4 e5 e6 e7 e8 e9 e10 e11 e12 e13 e14 e15
  subst e0 e1 e2 e3 e4 e5 e6 e7 e8 e9 e10 e11 e12 e13 e14 e15
  simp only [Prod.mk.injEq] at hx
  obtain ⟨rfl, rfl⟩ := hx
  refine ⟨fun i => [x0, x1, x2, x3, x4, x5, x6, x7, x8, x9, x10, x11, x12, x13, x14, x15].getD i 0, rfl, rfl, rfl, fun i hi => ?_⟩
  obtain rfl | rfl | rfl | rfl | rfl | rfl | rfl | rfl | rfl | rfl | rfl | rfl | rfl | rfl | rfl | rfl := (by omega : i = 0 ∨ i = 1 ∨ i = 2 ∨ i = 3 ∨ i = 4 ∨ i = 5 ∨ i = 6 ∨ i = 7 ∨ i = 8 ∨ i = 9 ∨ i = 10 ∨ i = 11 ∨ i = 12 ∨ i = 13 ∨ i = 14 ∨ i = 15)
  · exact w0
  · exact w1
  · exact w2
  · exact w3
  · exact w4
  · exact w5
  · exact w6
  · exact w7
  · exact w8
  · exact w9
  · exact w10
  · exact w11
  · exact w12
  · exact w13
  · exact w14
  · exact w15
theorem shut16 {H : Type} {enc : TypeId × Value → H} {w : World} {base : Nat} {spare : Nat → Bool} {held : Bool} {f : Nat → Int} (hw : ∀ i, i < 16 → (Lit.int .u8 (f i)).wf = true) :
    DataW.Trod enc Try.prog w base spare held 22 (.agg (bA f)) (dA f) [] := by
  have h0 := hw 0 (by decide)
  have h1 := hw 1 (by decide)
  have h2 := hw 2 (by decide)
  have h3 := hw 3 (by decide)
  have h4 := hw 4 (by decide)
  have h5 := hw 5 (by decide)
  have h6 := hw 6 (by decide)
  have h7 := hw 7 (by decide)
  have h8 := hw 8 (by decide)
  have h9 := hw 9 (by decide)
  have h10 := hw 10 (by decide)
  have h11 := hw 11 (by decide)
  have h12 := hw 12 (by decide)
  have h13 := hw 13 (by decide)
  have h14 := hw 14 (by decide)
  have h15 := hw 15 (by decide)
  exact ⟨2, by simp [DataW.trod, Value.cells, Try.underlying22, Try.underlying5, cells22, cells5, bA, dA, List.range_succ, h0, h1, h2, h3, h4, h5, h6, h7, h8, h9, h10, h11, h12, h13, h14, h15]⟩
def natF (f : Nat → Int) (i : Nat) : Nat := if i < 16 then (f i).toNat else 0
theorem natF_lt (f : Nat → Int) (wf : ∀ i, i < 16 → (Lit.int .u8 (f i)).wf = true) (j : Nat) : natF f j < 256 := by
  unfold natF
  split
  · have hb := Go.bounds_u8 (wf j (by assumption)); omega
  · decide
theorem natF_bA (f : Nat → Int) (wf : ∀ i, i < 16 → (Lit.int .u8 (f i)).wf = true) : bA f = bN (natF f) :=
  bA_congr fun i hi => by
    have hb := Go.bounds_u8 (wf i hi)
    unfold natF
    rw [if_pos hi]
    omega
theorem woN_U (f : Nat → Nat) (hf : ∀ j, f j < 256) (j : Nat) : woN f j < 18446744073709551616 := by
  have := numN_lt (fun i => f (8 * j + i)) (fun _ => hf _) 8
  simpa [woN] using this
theorem xor_m (A B : Nat → Nat) (hA : ∀ j, A j < 256) (hB : ∀ j, B j < 256) (W : World) :
    Calls Try.prog 11 #[.int .u8 36, .agg (bN A), .agg (bN B), .int .u8 0] W fun e W' => e = .returned (.agg (bN (fun i => A i ^^^ B i))) ∧ Below W.heap.size W W' := by
  have h5 := do_27 (bN A) (bN B) (bA (xF (fun i => (A i : Int)) (fun i => (B i : Int)))) (bA_size _) (bA_one _) (bA_size _) (bA_one _) (bA_size _) (bA_one _) 0 (fun W => xor_any _ _ 0 W) W
  have ex : bA (xF (fun i => (A i : Int)) (fun i => (B i : Int))) = bN (fun i => A i ^^^ B i) := bA_congr fun i _ => u8_xor_nat (A i) (B i) (hA i) (hB i)
  rwa [ex] at h5
theorem wf_bN (A : Nat → Nat) (hA : ∀ j, A j < 256) (i : Nat) : (Lit.int .u8 ((A i : Nat) : Int)).wf = true := by
  have := hA i
  simp [Lit.wf, IntKind.min, IntKind.max, IntKind.bits, IntKind.signed]
  omega
end Go.Proofs.Ytldicconopcipaa
