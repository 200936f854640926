/- The law StridedWidens, of any slice of sets, any width. -/
import Derived.Test.YtmlgaaolofgdiaaDoorWl
import Derived.Test.YtmlgaaolofgdiaaDoorLaid
import Derived.Deep.Slices
import Derived.Deep.Fields
import Derived.Deep.Strs
import Derived.ChangeSame
namespace Go.Proofs.YtmlgaaolofgdiaaDoor
open Go.RowKit SM
set_option linter.unusedSimpArgs false
set_option linter.unusedVariables false
attribute [local go_sem ↓] Go.wp_at_zero Go.wp_at_succ
attribute [local go_sem ↓ high] eql_set neq_set
set_option maxRecDepth 100000 in
set_option maxHeartbeats 4000000 in
theorem wl_long (a : Option Addr) (n cap : Nat) (wd : Int) (hn : 300 < n) (w : World) (hm : Mk w) :
    Calls Tryd.prog 4 #[.slice a n cap, .int .i64 wd] w fun e w' => e = .returned (.bool true) ∧ Below w.heap.size w w' := by
  have HW := Lib.hid fun W (hb : Below w.heap.size w W) => wakes_any W (hm.own hb)
  clear hm
  go_enter Tryd.func4, Tryd.ntmps4
  go_wp2_with fail
  go_at_call 8
  refine (HW.out _ (Below.refl _ _)).mono ?_
  rintro e W9 ⟨rfl, hb9⟩
  go_wp2_with fail
  go_ret
  exact ⟨rfl, hb9⟩
set_option maxRecDepth 100000 in
set_option maxHeartbeats 4000000 in
theorem wl_zero (a : Option Addr) (cap : Nat) (wd : Int) (w : World) (hm : Mk w) :
    Calls Tryd.prog 4 #[.slice a 0 cap, .int .i64 wd] w fun e w' => e = .returned (.bool true) ∧ Below w.heap.size w w' := by
  have HW := Lib.hid fun W (hb : Below w.heap.size w W) => wakes_any W (hm.own hb)
  clear hm
  go_enter Tryd.func4, Tryd.ntmps4
  go_wp2_with fail
  go_at_call 14
  refine (rnone_any _).mono ?_
  rintro e W0 ⟨rfl, hb0⟩
  go_wp2
  have hgg := hb0.size
  have B0 := Lib.hid (hb0.trans (((Below.refl _ _).alloc (Nat.le_refl _) (Obj.cells #[Value.int IntKind.u64 0, Value.int IntKind.u64 1, Value.int IntKind.u64 0] 24)).mono hgg))
  clear hb0
  generalize W0.alloc (Obj.cells #[Value.int IntKind.u64 0, Value.int IntKind.u64 1, Value.int IntKind.u64 0] 24) = W1 at B0 ⊢
  go_loopw [6, 7] (fun mv iv W => iv = .int .i64 0 ∧ mv = .int .i64 0 ∧ Below w.heap.size w W) (fun _ iv _ => 0)
  case atStart => exact ⟨rfl, rfl, B0.out⟩
  case round =>
    clear B0
    obtain ⟨rfl, rfl, hB⟩ := hrel
    have HB := Lib.hid hB
    clear hB
    go_wp2_with fail
    go_at_call 8
    refine (HW.out _ HB.out).mono ?_
    rintro e W9 ⟨rfl, hb9⟩
    have hG := HB.out.trans (hb9.mono HB.out.size)
    clear hb9
    go_wp2_with fail
    go_ret
    exact ⟨rfl, hG⟩
section
open Go.ChangeShapes Go.WideShapes
/-- What the walk is told of the slice that came in. -/
def IsEls (w : World) (a : Option Addr) (len cap : Nat) (el : Nat → St) : Prop :=
  len = 0 ∨ ∃ eb eo, a = some ⟨eb, eo, none⟩ ∧ eb < w.heap.size ∧ Els w eb eo len el ∧ ∀ x, x < len → U (el x).s ∧ U (el x).l ∧ U (el x).h
theorem open_els {H : Type} {enc : TypeId × Value → H} {w : World} {base : Nat} {spare : Nat → Bool} {held : Bool} {a : Option Addr} {len cap : Nat} {d : DataW H} {p : List MemPlace}
    (h : DataW.Trod enc Tryd.prog w base spare held 34 (.slice a len cap) d p) : ∃ el, IsEls w a len cap el := by
  obtain ⟨fuel, hf⟩ := h
  rcases Go.Deep.open_slice Tryd.underlying34 hf with ⟨hcs, _⟩ | ⟨x, l, c, m, n, D, Pl, hcs, hb, hl, hm, hmm, hx, hi⟩
  · simp [Value.cells] at hcs
    exact ⟨fun _ => noneS, .inl hcs.2.1⟩
  · simp [Value.cells] at hcs
    obtain ⟨rfl, rfl, rfl⟩ := hcs
    by_cases h0 : len = 0
    · exact ⟨fun _ => noneS, .inl h0⟩
    · have hlm : len ≤ m := by rw [hmm]; split <;> omega
      have hC : Tryd.prog.cellsOf 24 = 3 := by kernel_rfl
      have key : ∀ i, i < len → ∃ s : St, (U s.s ∧ U s.l ∧ U s.h) ∧ w.cell? (x.add (i * 3)) = some (.int .u64 (s.s : Int)) ∧ w.cell? (x.add (i * 3 + 1)) = some (.int .u64 (s.l : Int)) ∧ w.cell? (x.add (i * 3 + 2)) = some (.int .u64 (s.h : Int)) := by
        intro i hil
        obtain ⟨cs', hc, ht⟩ := hi i (by omega)
        rw [hC] at hc
        obtain ⟨_, hcl, hat⟩ := World.cells?_some hc
        have a0 := hat 0 (by omega)
        have a1 := hat 1 (by omega)
        have a2 := hat 2 (by omega)
        simp only [Go.Deep.add_add, Nat.add_zero] at a0 a1 a2
        match cs', hcl with
        | [c0, c1, c2], _ =>
          obtain ⟨y0, y1, y2, k, _, _, t0, t1, t2⟩ := Go.Deep.trod_struct3 Tryd.underlying24 ht
          obtain ⟨n0, q0, _, w0⟩ := DataW.trod_int Tryd.underlying22 t0
          obtain ⟨n1, q1, _, w1⟩ := DataW.trod_int Tryd.underlying22 t1
          obtain ⟨n2, q2, _, w2⟩ := DataW.trod_int Tryd.underlying22 t2
          have l1 : Tryd.prog.cellsOf 22 = 1 := by kernel_rfl
          simp [l1] at q0 q1 q2
          subst q0 q1 q2
          obtain ⟨k0, rfl, u0⟩ := nat_of_wf w0
          obtain ⟨k1, rfl, u1⟩ := nat_of_wf w1
          obtain ⟨k2, rfl, u2⟩ := nat_of_wf w2
          exact ⟨⟨k0, k1, k2⟩, ⟨u0, u1, u2⟩, a0, a1, a2⟩
      obtain ⟨b, off, spot⟩ := x
      obtain ⟨s0, _, hc, _⟩ := key 0 (by omega)
      have hspot : spot = none := by simpa [Addr.add] using World.cell?_spot hc
      subst hspot
      have hadd : ∀ j, (⟨b, off, none⟩ : Addr).add j = ⟨b, off + j, none⟩ := by intro j; unfold Addr.add; split <;> simp_all
      have hblk : b < w.heap.size := by rw [hadd] at hc; exact lt_of_cell hc
      simp only [hadd] at key
      refine ⟨fun i => if hil : i < len then (key i hil).choose else noneS, .inr ⟨b, off, rfl, hblk, fun i hil => ?_, fun i hil => ?_⟩⟩
      · simp only [dif_pos hil]
        exact (key i hil).choose_spec.2
      · simp only [dif_pos hil]
        exact (key i hil).choose_spec.1
end
theorem wl_law (a : Option Addr) (len cap : Nat) (el : Nat → St) (wd : Int) {w : World} (h : IsEls w a len cap el) (_ : (Lit.int .i64 wd).wf = true) (hm : Mk w) :
    Calls Tryd.prog 4 #[.slice a len cap, .int .i64 wd] w fun e w' => e = .returned (.bool true) ∧ Below w.heap.size w w' := by
  rcases h with rfl | ⟨eb, eo, rfl, heb, hel, hu⟩
  · exact wl_zero a cap wd w hm
  · by_cases hn : len ≤ 300
    · exact wl_walk eb eo len cap wd el hu hn w heb hel hm
    · exact wl_long _ len cap wd (by omega) w hm
end Go.Proofs.YtmlgaaolofgdiaaDoor
