/- The walk of CodesTells, every input. -/
import Derived.Test.YtaeehinlgmijgaaDoorTc
import Derived.Test.YtaeehinlgmijgaaDoorRc
namespace Go.Proofs.YtaeehinlgmijgaaDoor
open Go.RowKit
set_option linter.unusedVariables false
set_option linter.unusedSimpArgs false
theorem findR_congr {h h' : Fm → Bool} (e : ∀ f, f ∈ formsL → h f = h' f) : findR h = findR h' := by
  unfold findR
  rw [← List.head?_filter, ← List.head?_filter, List.filter_congr e]
theorem any_congr' {h h' : Fm → Bool} : ∀ (L : List Fm), (∀ f, f ∈ L → h f = h' f) → L.any h = L.any h'
  | [], _ => rfl
  | f :: L, e => by rw [List.any_cons, List.any_cons, e f List.mem_cons_self, any_congr' L (fun g hg => e g (List.mem_cons_of_mem _ hg))]
theorem code_eq (f : Fm) (o : Nat) (hf : f.o < 256) (ho : o < 256) : ((f.o : Int) == opz f o) = codeZ f o := by
  unfold opz codeZ
  cases f.plus
  · simp only [Bool.false_eq_true, if_false]
    rw [Bool.eq_iff_iff]
    simp only [beq_iff_eq]
    exact ⟨fun h => h.symm, fun h => h.symm⟩
  · simp only [if_true]
    have h1 := high5 ⟨o, ho⟩
    have h2 := high5 ⟨f.o, hf⟩
    simp only at h1 h2
    rw [opq_bits o f.o ho hf, h1, h2, Bool.eq_iff_iff]
    simp only [beq_iff_eq]
    omega
theorem rfits_eq (f : Fm) (p m o : Nat) (d : Int) (hf : f.o < 256) (ho : o < 256) : rfitsZ f p m o d = fitsZ f p m o d := by
  unfold rfitsZ fitsZ standsZ
  rw [code_eq f o hf ho, Bool.and_assoc, Bool.and_assoc]
theorem rdig_eq (f : Fm) (p m o : Nat) (hf : f.o < 256) (ho : o < 256) : rdig p m (fun f => codeZ f o) f = digZ p m o f := by
  unfold rdig digZ standsZ
  rw [code_eq f o hf ho]
  simp only [bne]
  cases (f.p : Int) == (p : Int) <;> cases (f.m : Int) == (m : Int) <;> cases codeZ f o <;> cases f.d == -1 <;> rfl
theorem opB_lt (f : Fm) (hf : f.o < 256) : ∀ x ∈ opB f, x < 256 := by
  unfold opB
  intro x hx
  split at hx
  · simp at hx; omega
  split at hx
  · simp at hx; omega
  split at hx
  · simp at hx; omega
  · simp at hx; omega
theorem tells_fm (f : Fm) (p m o : Nat) (d : Int) (hf : f.o < 256) (ho : o < 256) (w : World) (hG : GL w) :
    Calls Tryd.prog 3 #[.agg f.cs.toArray, .int .u8 (p : Nat), .int .u8 (m : Nat), .int .u8 (o : Nat), .int .i64 d] w fun e w' => e = .returned (.bool true) ∧ Below w.heap.size w w' := by
  refine tells_core f (findR (fun f => fitsZ f p m o d)).1 p m o d (fitsZ f p m o d) (findR (fun f => fitsZ f p m o d)).2 (formsL.any (digZ p m o)) (opB f) (Lib.hid fun w hG => find_any p m o d w hG) (Lib.hid ?_) (Lib.hid fun w => fits_any f p m o d w) (Lib.hid ?_) (Lib.hid fun w hG => digits_any p m o w hG) (Lib.hid ?_) (Lib.hid fun w => bytes_any f w) (Lib.hid fun w => rbytes_any f w) (Lib.hid (opB_lt f hf)) (Lib.hid (findR_z _)) w hG
  · rw [findR_congr (h' := fun f => rfitsZ f p m o d) (fun f hm => (rfits_eq f p m o d (good_o hm) ho).symm)]
    exact fun w => rfind_core p m o d (fun f => rfitsZ f p m o d) (Lib.hid fun f w => rfits_any f p m o d w) w
  · intro w
    rw [← rfits_eq f p m o d hf ho]
    exact rfits_any f p m o d w
  · rw [← any_congr' formsL (fun f hm => rdig_eq f p m o (good_o hm) ho)]
    exact fun w => rdigits_core p m o (fun f => codeZ f o) (Lib.hid fun f w => code_any f o w) w
theorem tells_walk (x0 : Int) (x1 : Int) (x2 : Int) (x3 : Bool) (x4 : Int) (x5 : Int) (x6 : Int) (x7 : Int) (x8 : Int) (x9 : Int) (x10 : Bool) (x11 : Bool) (x12 : Bool) (x13 : Bool) (p m o d : Int) (h0 : (Lit.int .u8 x0).wf = true) (h1 : (Lit.int .u8 x1).wf = true) (h2 : (Lit.int .u8 x2).wf = true) (h4 : (Lit.int .i64 x4).wf = true) (h5 : (Lit.int .u8 x5).wf = true) (h6 : (Lit.int .u8 x6).wf = true) (h7 : (Lit.int .i64 x7).wf = true) (h8 : (Lit.int .u8 x8).wf = true) (h9 : (Lit.int .i64 x9).wf = true) (hp : (Lit.int .u8 p).wf = true) (hm : (Lit.int .u8 m).wf = true) (ho : (Lit.int .u8 o).wf = true) (hd : (Lit.int .i64 d).wf = true) {w : World} (_W : World) (hG : GL w) :
    Calls Tryd.prog 3 #[(.agg #[.int .u8 x0, .int .u8 x1, .int .u8 x2, .bool x3, .int .i64 x4, .int .u8 x5, .int .u8 x6, .int .i64 x7, .int .u8 x8, .int .i64 x9, .bool x10, .bool x11, .bool x12, .bool x13]), .int .u8 p, .int .u8 m, .int .u8 o, .int .i64 d] w fun e w' => e = .returned (.bool true) ∧ Below w.heap.size w w' := by
  obtain ⟨p, rfl, hp1⟩ := nat_u8 hp
  obtain ⟨m, rfl, hm1⟩ := nat_u8 hm
  obtain ⟨o, rfl, ho1⟩ := nat_u8 ho
  obtain ⟨x0, rfl, b0⟩ := nat_u8 h0
  obtain ⟨x1, rfl, b1⟩ := nat_u8 h1
  obtain ⟨x2, rfl, b2⟩ := nat_u8 h2
  obtain ⟨x5, rfl, b5⟩ := nat_u8 h5
  obtain ⟨x6, rfl, b6⟩ := nat_u8 h6
  obtain ⟨x8, rfl, b8⟩ := nat_u8 h8
  exact tells_fm (x0, x1, x2, x3, x4, x5, x6, x7, x8, x9, x10, x11, x12, x13) p m o d b2 ho1 w hG
end Go.Proofs.YtaeehinlgmijgaaDoor
