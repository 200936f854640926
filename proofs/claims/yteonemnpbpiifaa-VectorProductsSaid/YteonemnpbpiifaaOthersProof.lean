/- VectorOthers: the given statement, proved. For every deed, every three blocks and every number the Go function VectorOthers returns true: no condition. -/
import Derived.Test.YteonemnpbpiifaaRows
import Derived.Test.YteonemnpbpiifaaL
import Derived.Test.YteonemnpbpiifaaM
import Derived.WalkKit
import Derived.ProofKit
import Derived.OpenShut
import Derived.ChangeSame
import Derived.RowKit3
namespace Go.Proofs.Yteonemnpbpiifaa.vectorOthers
open Go.ChangeShapes Go.WideShapes Go.ChangeAt Go.RowKit
set_option linter.unusedVariables false
set_option linter.unusedSimpArgs false
theorem own : ownKnob Try.prog.godebug = none := by kernel_rfl
theorem list16 {α : Type} (l : List α) (h : l.length = 16) : ∃ a0 a1 a2 a3 a4 a5 a6 a7 a8 a9 a10 a11 a12 a13 a14 a15, l = [a0, a1, a2, a3, a4, a5, a6, a7, a8, a9, a10, a11, a12, a13, a14, a15] := by
  match l, h with
  | [a0, a1, a2, a3, a4, a5, a6, a7, a8, a9, a10, a11, a12, a13, a14, a15], _ => exact ⟨a0, a1, a2, a3, a4, a5, a6, a7, a8, a9, a10, a11, a12, a13, a14, a15, rfl⟩
theorem cells22 : Try.prog.cellsOf 22 = 16 := by kernel_rfl
theorem cells5 : Try.prog.cellsOf 5 = 1 := by kernel_rfl
/-- A block as data. -/
def dA {H : Type} (f : Nat → Int) : DataW H := .agg ((List.range 16).map fun i => .lit (.int .u8 (f i)))
set_option maxRecDepth 10000 in
theorem open16 {H : Type} {enc : TypeId × Value → H} {w : World} {base : Nat} {spare : Nat → Bool} {held : Bool} {r : Reach} {b0 : Nat} {v : Value} {d : DataW H} {p : List MemPlace}
    (hv : Value.okWide Try.prog w r b0 22 v) (h : DataW.Trod enc Try.prog w base spare held 22 v d p) :
    ∃ f : Nat → Int, v = .agg (bA f) ∧ d = dA f ∧ p = [] ∧ (∀ i, i < 16 → (Lit.int .u8 (f i)).wf = true) := by
  obtain ⟨cs, rfl, hsz, _⟩ : ∃ cs, v = .agg cs ∧ cs.size = Try.prog.cellsOf 22 ∧ Row.okWide Try.prog w r b0 22 cs := by
    simpa [Value.okWide, Try.underlying22] using hv
  rw [cells22] at hsz
  obtain ⟨l⟩ := cs
  obtain ⟨c0, c1, c2, c3, c4, c5, c6, c7, c8, c9, c10, c11, c12, c13, c14, c15, rfl⟩ := list16 l hsz
  obtain ⟨fuel, hf⟩ := h
  obtain ⟨xs, m, _, hx, _, hlen, he⟩ := DataW.trod_array Try.underlying22 hf
  obtain ⟨y0, y1, y2, y3, y4, y5, y6, y7, y8, y9, y10, y11, y12, y13, y14, y15, rfl⟩ := list16 xs hlen
  simp only [cells5, Value.cells] at he
  have t0 := he 0 (by decide)
  simp at t0
  obtain ⟨x0, e0, rfl, w0⟩ := DataW.trod_int Try.underlying5 t0
  have t1 := he 1 (by decide)
  simp at t1
  obtain ⟨x1, e1, rfl, w1⟩ := DataW.trod_int Try.underlying5 t1
  have t2 := he 2 (by decide)
  simp at t2
  obtain ⟨x2, e2, rfl, w2⟩ := DataW.trod_int Try.underlying5 t2
  have t3 := he 3 (by decide)
  simp at t3
  obtain ⟨x3, e3, rfl, w3⟩ := DataW.trod_int Try.underlying5 t3
  have t4 := he 4 (by decide)
  simp at t4
  obtain ⟨x4, e4, rfl, w4⟩ := DataW.trod_int Try.underlying5 t4
  have t5 := he 5 (by decide)
  simp at t5
  obtain ⟨x5, e5, rfl, w5⟩ := DataW.trod_int Try.underlying5 t5
  have t6 := he 6 (by decide)
  simp at t6
  obtain ⟨x6, e6, rfl, w6⟩ := DataW.trod_int Try.underlying5 t6
  have t7 := he 7 (by decide)
  simp at t7
  obtain ⟨x7, e7, rfl, w7⟩ := DataW.trod_int Try.underlying5 t7
  have t8 := he 8 (by decide)
  simp at t8
  obtain ⟨x8, e8, rfl, w8⟩ := DataW.trod_int Try.underlying5 t8
  have t9 := he 9 (by decide)
  simp at t9
  obtain ⟨x9, e9, rfl, w9⟩ := DataW.trod_int Try.underlying5 t9
  have t10 := he 10 (by decide)
  simp at t10
  obtain ⟨x10, e10, rfl, w10⟩ := DataW.trod_int Try.underlying5 t10
  have t11 := he 11 (by decide)
  simp at t11
  obtain ⟨x11, e11, rfl, w11⟩ := DataW.trod_int Try.underlying5 t11
  have t12 := he 12 (by decide)
  simp at t12
  obtain ⟨x12, e12, rfl, w12⟩ := DataW.trod_int Try.underlying5 t12
  have t13 := he 13 (by decide)
  simp at t13
  obtain ⟨x13, e13, rfl, w13⟩ := DataW.trod_int Try.underlying5 t13
  have t14 := he 14 (by decide)
  simp at t14
  obtain ⟨x14, e14, rfl, w14⟩ := DataW.trod_int Try.underlying5 t14
  have t15 := he 15 (by decide)
  simp at t15
  obtain ⟨x15, e15, rfl, w15⟩ := DataW.trod_int Try.underlying5 t15
  simp at e0 e1 e2 e3 e4 e5 e6 e7 e8 e9 e10 e11 e12 e13 e14 e15
  subst e0 e1 e2 e3 e4 e5 e6 e7 e8 e9 e10 e11 e12 e13 e14 e15
  simp only [Prod.mk.injEq] at hx
  obtain ⟨rfl, rfl⟩ := hx
  refine ⟨fun i => [x0, x1, x2, x3, x4, x5, x6, x7, x8, x9, x10, x11, x12, x13, x14, x15].getD i 0, rfl, rfl, rfl, fun i hi => ?_⟩
  obtain rfl | rfl | rfl | rfl | rfl | rfl | rfl | rfl | rfl | rfl | rfl | rfl | rfl | rfl | rfl | rfl := (by omega : i = 0 ∨ i = 1 ∨ i = 2 ∨ i = 3 ∨ i = 4 ∨ i = 5 ∨ i = 6 ∨ i = 7 ∨ i = 8 ∨ i = 9 ∨ i = 10 ∨ i = 11 ∨ i = 12 ∨ i = 13 ∨ i = 14 ∨ i = 15)
  · exact w0
  · exact w1
  · exact w2
  · exact w3
  · exact w4
  · exact w5
  · exact w6
  · exact w7
  · exact w8
  · exact w9
  · exact w10
  · exact w11
  · exact w12
  · exact w13
  · exact w14
  · exact w15
theorem shut16 {H : Type} {enc : TypeId × Value → H} {w : World} {base : Nat} {spare : Nat → Bool} {held : Bool} {f : Nat → Int} (hw : ∀ i, i < 16 → (Lit.int .u8 (f i)).wf = true) :
    DataW.Trod enc Try.prog w base spare held 22 (.agg (bA f)) (dA f) [] := by
  have h0 := hw 0 (by decide)
  have h1 := hw 1 (by decide)
  have h2 := hw 2 (by decide)
  have h3 := hw 3 (by decide)
  have h4 := hw 4 (by decide)
  have h5 := hw 5 (by decide)
  have h6 := hw 6 (by decide)
  have h7 := hw 7 (by decide)
  have h8 := hw 8 (by decide)
  have h9 := hw 9 (by decide)
  have h10 := hw 10 (by decide)
  have h11 := hw 11 (by decide)
  have h12 := hw 12 (by decide)
  have h13 := hw 13 (by decide)
  have h14 := hw 14 (by decide)
  have h15 := hw 15 (by decide)
  exact ⟨2, by simp [DataW.trod, Value.cells, Try.underlying22, Try.underlying5, cells22, cells5, bA, dA, List.range_succ, h0, h1, h2, h3, h4, h5, h6, h7, h8, h9, h10, h11, h12, h13, h14, h15]⟩
theorem walk (a0 : Int) (f g h : Nat → Int) (a4 : Int) (w0 : (Lit.int .u8 a0).wf = true) (wf : ∀ i, i < 16 → (Lit.int .u8 (f i)).wf = true) (wg : ∀ i, i < 16 → (Lit.int .u8 (g i)).wf = true) (wh : ∀ i, i < 16 → (Lit.int .u8 (h i)).wf = true) (w4 : (Lit.int .u8 a4).wf = true) (w : World) :
    Calls Try.prog 6 #[.int .u8 a0, .agg (bA f), .agg (bA g), .agg (bA h), .int .u8 a4] w fun e w' => e = .returned (.bool true) ∧ Below w.heap.size w w' := by
  have h1 := fun W => do_26 (bA f) (bA g) (bA g) (bA_size _) (bA_one _) (bA_size _) (bA_one _) (bA_size _) (bA_one _) a4 (fun W => mv_any (bA f) (bA g) (bA_size _) (bA_one _) (bA_size _) (bA_one _) a4 W) W
  have h2 := fun W => do_26 (bA h) (bA g) (bA g) (bA_size _) (bA_one _) (bA_size _) (bA_one _) (bA_size _) (bA_one _) a4 (fun W => mv_any (bA h) (bA g) (bA_size _) (bA_one _) (bA_size _) (bA_one _) a4 W) W
  have h3 := fun W => do_26 (bA f) (bA g) (bA g) (bA_size _) (bA_one _) (bA_size _) (bA_one _) (bA_size _) (bA_one _) 0 (fun W => mv_any (bA f) (bA g) (bA_size _) (bA_one _) (bA_size _) (bA_one _) 0 W) W
  by_cases hK : a0 < 35 ∨ 40 ≤ a0
  · exact others_o a0 a4 (bA f) (bA g) (bA h) (bA_size _) (bA_one _) (bA_size _) (bA_one _) (bA_size _) (bA_one _) ⟨hK, fun W => do_miss a0 (by omega) (bA f) (bA g) (bA_size _) (bA_one _) (bA_size _) (bA_one _) a4 W⟩ h1 h2 h3 wakes_any (eq22_bA f wf) (eq22_bA g wg) w
  · exact others_w a0 a4 (bA f) (bA g) (bA h) (bA_size _) (bA_one _) (bA_size _) (bA_one _) (bA_size _) (bA_one _) ⟨by omega, by omega⟩ h1 h2 h3 wakes_any (eq22_bA f wf) (eq22_bA g wg) w
set_option maxRecDepth 100000 in
theorem lifted (os : Os) (started : os.Started) (H : Type) (enc : TypeId × Value → H) :
    ReturnsInHanded {} Try.checked os 6 .any (Rows.vectorOthersSpec.pre6 enc Try.prog Try.f6 Rows.vectorOthersRow.domain false) (Rows.vectorOthersSpec.post enc Try.prog Try.f6 false true false false) := by
  refine returnsInHanded_of_change (C := Try.checked) own started (by kernel_rfl) Try.func6
    (ChangeSpec.witness6 (enc := enc) (C := Try.checked) false ⟨#[], #[.int .u8 0, .agg #[.int .u8 0, .int .u8 0, .int .u8 0, .int .u8 0, .int .u8 0, .int .u8 0, .int .u8 0, .int .u8 0, .int .u8 0, .int .u8 0, .int .u8 0, .int .u8 0, .int .u8 0, .int .u8 0, .int .u8 0, .int .u8 0], .agg #[.int .u8 0, .int .u8 0, .int .u8 0, .int .u8 0, .int .u8 0, .int .u8 0, .int .u8 0, .int .u8 0, .int .u8 0, .int .u8 0, .int .u8 0, .int .u8 0, .int .u8 0, .int .u8 0, .int .u8 0, .int .u8 0], .agg #[.int .u8 0, .int .u8 0, .int .u8 0, .int .u8 0, .int .u8 0, .int .u8 0, .int .u8 0, .int .u8 0, .int .u8 0, .int .u8 0, .int .u8 0, .int .u8 0, .int .u8 0, .int .u8 0, .int .u8 0, .int .u8 0], .int .u8 0], []⟩ 8 (by kernel_rfl) (by kernel_rfl) (by kernel_rfl) (by kernel_rfl)) ?_
  intro W base args ds gs before hval0 hW hcnd _
  have hval : ∀ (j : Nat) t v, Try.f6.params[j]? = some t → args[j]? = some v → Value.okWide Try.prog W .any base t v := hval0
  have hW' := hW
  obtain ⟨p, q, hA0, hV, rfl, hfz, hnd⟩ := hW
  have hA : DataW.TrodAll enc Try.prog W 0 (fun _ => true) true Try.f6.params.toList args.toList ds p := hA0
  rw [Try.params6] at hA hval
  obtain ⟨v0, vs0, d0, ds0, p0, q0, hargs, rfl, rfl, h0, r0⟩ := trodAll_cons hA
  obtain ⟨v1, vs1, d1, ds1, p1, q1, rfl, rfl, rfl, h1, r1⟩ := trodAll_cons r0
  obtain ⟨v2, vs2, d2, ds2, p2, q2, rfl, rfl, rfl, h2, r2⟩ := trodAll_cons r1
  obtain ⟨v3, vs3, d3, ds3, p3, q3, rfl, rfl, rfl, h3, r3⟩ := trodAll_cons r2
  obtain ⟨v4, vs4, d4, ds4, p4, q4, rfl, rfl, rfl, h4, r4⟩ := trodAll_cons r3
  obtain ⟨rfl, rfl, rfl⟩ := trodAll_nil r4
  obtain rfl : args = #[v0, v1, v2, v3, v4] := by cases args; simp_all
  obtain ⟨rfl, rfl⟩ := trodVars_none hV
  obtain ⟨a0, rfl, rfl, rfl, w0⟩ := open_int Try.underlying5 (hval 0 5 v0 rfl rfl) h0
  obtain ⟨f, rfl, rfl, rfl, wf⟩ := open16 (hval 1 22 v1 rfl rfl) h1
  obtain ⟨g, rfl, rfl, rfl, wg⟩ := open16 (hval 2 22 v2 rfl rfl) h2
  obtain ⟨h, rfl, rfl, rfl, wh⟩ := open16 (hval 3 22 v3 rfl rfl) h3
  obtain ⟨a4, rfl, rfl, rfl, w4⟩ := open_int Try.underlying5 (hval 4 5 v4 rfl rfl) h4
  clear hA0 hval0
  simp only [List.append_nil] at hW'
  refine (walk a0 f g h a4 w0 wf wg wh w4 W).mono fun e W' ⟨he, hg⟩ => ?_
  subst he
  exact ⟨_, rfl, _, _, _, [], _, [], hW', trodAll_mk1 (shut_bool Try.underlying4 _), (trodAll_cons_mk (shut_int Try.underlying5 w0) (trodAll_cons_mk (shut16 wf) (trodAll_cons_mk (shut16 wg) (trodAll_cons_mk (shut16 wh) (trodAll_cons_mk (shut_int Try.underlying5 w4) trodAll_mk0))))), rfl, hg.frame _, fun h => by cases h⟩
theorem over : Rows.vectorOthersRow.holds Try.pinned (OpenSpec.ofChange Rows.vectorOthersSpec) :=
  OpenClaim.holds_of_wide 6 Try.f6 rfl rfl rfl rfl rfl rfl rfl ⟨rfl, rfl, rfl, rfl, rfl⟩ rfl rfl rfl rfl rfl (by kernel_rfl) Try.func6 (by kernel_rfl)
    (of_decide_eq_true (by kernel_rfl)) (by unfold Func.isWrapper; first | (rw [if_pos (by decide +kernel)]; kernel_rfl) | (rw [if_neg (by decide +kernel)]; exact ⟨rfl, rfl⟩))
    (fun os started H enc _ => lifted os started H enc)
theorem proved : Rows.VectorOthersSaid := over
#print axioms proved
end Go.Proofs.Yteonemnpbpiifaa.vectorOthers
