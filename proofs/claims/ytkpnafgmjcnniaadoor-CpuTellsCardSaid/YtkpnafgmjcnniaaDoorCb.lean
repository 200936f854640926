/- Package cpu: registers. -/
import Derived.Test.YtkpnafgmjcnniaaDoorSm
import Derived.Deep.WholeRow
import Derived.IntWalk
namespace Go.Proofs.YtkpnafgmjcnniaaDoor
open Go.RowKit
set_option linter.unusedVariables false
set_option linter.unusedSimpArgs false
theorem tmod_bd (r : Int) : -16 < r.tmod 16 ∧ r.tmod 16 < 16 := by
  rcases Int.le_total 0 r with h0 | h0
  · rw [Int.tmod_eq_emod_of_nonneg h0]; omega
  · have : r.tmod 16 = -((-r) % 16) := by rw [← Int.tmod_eq_emod_of_nonneg (by omega : 0 ≤ -r), Int.neg_tmod]; omega
    rw [this]; omega
theorem tmod16 (r : Int) : (wrap64 (r.tmod 16 + 16)).tmod 16 = r % 16 := by
  have hb := tmod_bd r
  have hw : wrap64 (r.tmod 16 + 16) = r.tmod 16 + 16 := by unfold wrap64; omega
  rw [hw]
  clear hb hw
  rcases Int.le_total 0 r with h0 | h0
  · rw [Int.tmod_eq_emod_of_nonneg h0, Int.tmod_eq_emod_of_nonneg (by omega)]; omega
  · have : r.tmod 16 = -((-r) % 16) := by rw [← Int.tmod_eq_emod_of_nonneg (by omega : 0 ≤ -r), Int.neg_tmod]; omega
    rw [this, Int.tmod_eq_emod_of_nonneg (by omega)]; omega
theorem rest_any (r : Int) (i : Nat) (hi : r % 16 = i) (w : World) :
    Calls Tryd.prog 55 #[.int .i64 r] w fun e w' => e = .returned (.int .i64 i) ∧ w = w' := by
  have H := Lib.hid ((tmod16 r).trans hi)
  clear hi
  go_enter Tryd.func55, Tryd.ntmps55
  go_wp2
  go_ret
  exact ⟨congrArg (fun x => Ending.returned (.int .i64 x)) H.out, rfl⟩
theorem place_any (r : Int) (i : Nat) (hi : r % 16 = i) (w : World) :
    Calls Tryd.prog 56 #[.int .i64 r] w fun e w' => e = .returned (.int .i64 i) ∧ w = w' := by
  have H := Lib.hid ((tmod16 r).trans hi)
  clear hi
  go_enter Tryd.func56, Tryd.ntmps56
  go_wp2
  go_ret
  exact ⟨congrArg (fun x => Ending.returned (.int .i64 x)) H.out, rfl⟩
def wdI (w : Int) : Int := if w = 1 ∨ w = 2 ∨ w = 4 then w else 8
theorem wide_any (wd : Int) (w : World) :
    Calls Tryd.prog 57 #[.int .i64 wd] w fun e w' => e = .returned (.int .i64 (wdI wd)) ∧ w = w' := by
  by_cases h : wd = 1 ∨ wd = 2 ∨ wd = 4
  · have e : wdI wd = wd := by unfold wdI; rw [if_pos h]
    rw [e]
    rcases h with rfl | rfl | rfl
    all_goals
      go_enter Tryd.func57, Tryd.ntmps57
      go_wp2
      go_ret
      exact ⟨rfl, rfl⟩
  · have e : wdI wd = 8 := by unfold wdI; rw [if_neg h]
    rw [e]
    have h1 : (wd == 1) = false := by simp; omega
    have h2 : (wd == 2) = false := by simp; omega
    have h4 : (wd == 4) = false := by simp; omega
    clear h e
    go_enter Tryd.func57, Tryd.ntmps57
    go_wp2
    go_ret
    exact ⟨rfl, rfl⟩
/-- A CPU's cells in a block. -/
def CB (W : World) (b : Nat) (c : Array Value) : Prop := W.heap[b]? = some (.cells c 50 (0, 0))
theorem CB.new (w : World) (c : Array Value) : CB (w.alloc (.cells c 50)) w.heap.size c := heap_alloc_last w _
theorem CB.lt {W : World} {b : Nat} {c : Array Value} (h : CB W b c) : b < W.heap.size := (Array.getElem?_eq_some_iff.1 h).1
theorem CB.keep {W W' : World} {b : Nat} {c : Array Value} (h : CB W b c) (hb : Below W.heap.size W W') : CB W' b c := (hb.block _ h.lt).trans h
theorem CB.cell {W : World} {b : Nat} {c : Array Value} (h : CB W b c) (i : Nat) : W.cell? ⟨b, i, none⟩ = c[i]? := by unfold CB at h; simp [World.cell?, h]
theorem CB.froz {W : World} {b : Nat} {c : Array Value} (h : CB W b c) (i : Nat) : W.frozen? ⟨b, i, none⟩ = false := by unfold CB at h; simp [World.frozen?, h]
/-- What a CPU's cells are: sixteen words; five flags; a word. -/
structure CPU (c : Array Value) (R : Nat → Nat) : Prop where
  size : c.size = 278
  one : c.all (·.oneCell') = true
  reg : ∀ i, i < 16 → c[i]? = some (.int .u64 (R i : Nat))
  lt : ∀ i, R i < 18446744073709551616
theorem and_low (a : Nat) (ha : a < 18446744073709551616) : bits .and .u64 (a : Int) 255 = (a : Int) % 256 ∧ bits .and .u64 (a : Int) 65535 = (a : Int) % 65536 ∧ bits .and .u64 (a : Int) 4294967295 = (a : Int) % 4294967296 := by
  have h1 := and_mask a ha 8 (by omega)
  have h2 := and_mask a ha 16 (by omega)
  have h3 := and_mask a ha 32 (by omega)
  simp only [Int.natCast_emod] at h1 h2 h3
  exact ⟨h1, h2, h3⟩
theorem wr16 (x : Int) (h : 0 ≤ x) : IntKind.u64.wrap (IntKind.u16.wrap x) = x % 65536 := by
  rw [IntKind.wrap_u64, IntKind.wrap_u16]; omega
theorem wr32 (x : Int) (h : 0 ≤ x) : IntKind.u64.wrap (IntKind.u32.wrap x) = x % 4294967296 := by
  rw [IntKind.wrap_u64, IntKind.wrap_u32]; omega
/-- A word cut to a width. -/
def gtN (x : Nat) (w : Int) : Nat := if w = 1 then x % 256 else if w = 2 then x % 65536 else if w = 4 then x % 4294967296 else x
set_option maxRecDepth 100000 in
theorem get_1 (c : Array Value) (R : Nat → Nat) (h : CPU c R) (r wd : Int) (i : Nat) (hi : r % 16 = i) (hi16 : i < 16) (h1 : (wd == 1) = true) (w : World) :
    Calls Tryd.prog 29 #[.agg c, .int .i64 r, .int .i64 wd] w fun e w' => e = .returned (.int .u64 ((R i : Nat) % 256)) ∧ Below w.heap.size w w' := by
  have hc := ((CB.new w c).cell i).trans (h.reg i hi16)
  have HB := Lib.hid ((Below.refl w.heap.size w).alloc (Nat.le_refl _) (.cells c 50))
  go_enter Tryd.func29, Tryd.ntmps29
  go_wp2_with (go_at_call 55; refine (rest_any r i hi _).mono ?_; rintro e w' ⟨rfl, rfl⟩)
  go_ret
  first
  | exact ⟨rfl, HB.out⟩
  | exact ⟨congrArg (fun x => Ending.returned (.int .u64 x)) (wr16 _ (Int.natCast_nonneg _)), HB.out⟩
  | exact ⟨congrArg (fun x => Ending.returned (.int .u64 x)) (wr32 _ (Int.natCast_nonneg _)), HB.out⟩
set_option maxRecDepth 100000 in
theorem get_2 (c : Array Value) (R : Nat → Nat) (h : CPU c R) (r wd : Int) (i : Nat) (hi : r % 16 = i) (hi16 : i < 16) (h1 : (wd == 1) = false) (h2 : (wd == 2) = true) (w : World) :
    Calls Tryd.prog 29 #[.agg c, .int .i64 r, .int .i64 wd] w fun e w' => e = .returned (.int .u64 ((R i : Nat) % 65536)) ∧ Below w.heap.size w w' := by
  have hc := ((CB.new w c).cell i).trans (h.reg i hi16)
  have HB := Lib.hid ((Below.refl w.heap.size w).alloc (Nat.le_refl _) (.cells c 50))
  go_enter Tryd.func29, Tryd.ntmps29
  go_wp2_with (go_at_call 55; refine (rest_any r i hi _).mono ?_; rintro e w' ⟨rfl, rfl⟩)
  go_ret
  first
  | exact ⟨rfl, HB.out⟩
  | exact ⟨congrArg (fun x => Ending.returned (.int .u64 x)) (wr16 _ (Int.natCast_nonneg _)), HB.out⟩
  | exact ⟨congrArg (fun x => Ending.returned (.int .u64 x)) (wr32 _ (Int.natCast_nonneg _)), HB.out⟩
set_option maxRecDepth 100000 in
theorem get_4 (c : Array Value) (R : Nat → Nat) (h : CPU c R) (r wd : Int) (i : Nat) (hi : r % 16 = i) (hi16 : i < 16) (h1 : (wd == 1) = false) (h2 : (wd == 2) = false) (h4 : (wd == 4) = true) (w : World) :
    Calls Tryd.prog 29 #[.agg c, .int .i64 r, .int .i64 wd] w fun e w' => e = .returned (.int .u64 ((R i : Nat) % 4294967296)) ∧ Below w.heap.size w w' := by
  have hc := ((CB.new w c).cell i).trans (h.reg i hi16)
  have HB := Lib.hid ((Below.refl w.heap.size w).alloc (Nat.le_refl _) (.cells c 50))
  go_enter Tryd.func29, Tryd.ntmps29
  go_wp2_with (go_at_call 55; refine (rest_any r i hi _).mono ?_; rintro e w' ⟨rfl, rfl⟩)
  go_ret
  first
  | exact ⟨rfl, HB.out⟩
  | exact ⟨congrArg (fun x => Ending.returned (.int .u64 x)) (wr16 _ (Int.natCast_nonneg _)), HB.out⟩
  | exact ⟨congrArg (fun x => Ending.returned (.int .u64 x)) (wr32 _ (Int.natCast_nonneg _)), HB.out⟩
set_option maxRecDepth 100000 in
theorem get_8 (c : Array Value) (R : Nat → Nat) (h : CPU c R) (r wd : Int) (i : Nat) (hi : r % 16 = i) (hi16 : i < 16) (h1 : (wd == 1) = false) (h2 : (wd == 2) = false) (h4 : (wd == 4) = false) (w : World) :
    Calls Tryd.prog 29 #[.agg c, .int .i64 r, .int .i64 wd] w fun e w' => e = .returned (.int .u64 ((R i : Nat))) ∧ Below w.heap.size w w' := by
  have hc := ((CB.new w c).cell i).trans (h.reg i hi16)
  have HB := Lib.hid ((Below.refl w.heap.size w).alloc (Nat.le_refl _) (.cells c 50))
  go_enter Tryd.func29, Tryd.ntmps29
  go_wp2_with (go_at_call 55; refine (rest_any r i hi _).mono ?_; rintro e w' ⟨rfl, rfl⟩)
  go_ret
  first
  | exact ⟨rfl, HB.out⟩
  | exact ⟨congrArg (fun x => Ending.returned (.int .u64 x)) (wr16 _ (Int.natCast_nonneg _)), HB.out⟩
  | exact ⟨congrArg (fun x => Ending.returned (.int .u64 x)) (wr32 _ (Int.natCast_nonneg _)), HB.out⟩
set_option maxRecDepth 100000 in
theorem rget_1 (c : Array Value) (R : Nat → Nat) (h : CPU c R) (r wd : Int) (i : Nat) (hi : r % 16 = i) (hi16 : i < 16) (h1 : (wd == 1) = true) (w : World) :
    Calls Tryd.prog 30 #[.agg c, .int .i64 r, .int .i64 wd] w fun e w' => e = .returned (.int .u64 ((R i : Nat) % 256)) ∧ Below w.heap.size w w' := by
  have hc := ((CB.new w c).cell i).trans (h.reg i hi16)
  have HB := Lib.hid ((Below.refl w.heap.size w).alloc (Nat.le_refl _) (.cells c 50))
  have HW : Hid (wdI wd = 1) := Lib.hid (by unfold wdI; simp at h1; simp [h1])
  have HA := Lib.hid (show bits .and .u64 ((R i : Nat) : Int) 255 = (R i : Nat) % 256 ∧ bits .and .u64 ((R i : Nat) : Int) 65535 = (R i : Nat) % 65536 ∧ bits .and .u64 ((R i : Nat) : Int) 4294967295 = (R i : Nat) % 4294967296 from and_low _ (h.lt i))
  go_enter Tryd.func30, Tryd.ntmps30
  go_wp2_with (first | (go_at_call 56; refine (place_any r i hi _).mono ?_; rintro e w' ⟨rfl, rfl⟩) | (go_at_call 57; refine (wide_any wd _).mono ?_; rw [HW.out]; rintro e w' ⟨rfl, rfl⟩))
  go_ret
  first
  | exact ⟨rfl, HB.out⟩
  | exact ⟨congrArg (fun x => Ending.returned (.int .u64 x)) HA.out.1, HB.out⟩
  | exact ⟨congrArg (fun x => Ending.returned (.int .u64 x)) HA.out.2.1, HB.out⟩
  | exact ⟨congrArg (fun x => Ending.returned (.int .u64 x)) HA.out.2.2, HB.out⟩
set_option maxRecDepth 100000 in
theorem rget_2 (c : Array Value) (R : Nat → Nat) (h : CPU c R) (r wd : Int) (i : Nat) (hi : r % 16 = i) (hi16 : i < 16) (h1 : (wd == 1) = false) (h2 : (wd == 2) = true) (w : World) :
    Calls Tryd.prog 30 #[.agg c, .int .i64 r, .int .i64 wd] w fun e w' => e = .returned (.int .u64 ((R i : Nat) % 65536)) ∧ Below w.heap.size w w' := by
  have hc := ((CB.new w c).cell i).trans (h.reg i hi16)
  have HB := Lib.hid ((Below.refl w.heap.size w).alloc (Nat.le_refl _) (.cells c 50))
  have HW : Hid (wdI wd = 2) := Lib.hid (by unfold wdI; simp at h2; simp [h2])
  have HA := Lib.hid (show bits .and .u64 ((R i : Nat) : Int) 255 = (R i : Nat) % 256 ∧ bits .and .u64 ((R i : Nat) : Int) 65535 = (R i : Nat) % 65536 ∧ bits .and .u64 ((R i : Nat) : Int) 4294967295 = (R i : Nat) % 4294967296 from and_low _ (h.lt i))
  go_enter Tryd.func30, Tryd.ntmps30
  go_wp2_with (first | (go_at_call 56; refine (place_any r i hi _).mono ?_; rintro e w' ⟨rfl, rfl⟩) | (go_at_call 57; refine (wide_any wd _).mono ?_; rw [HW.out]; rintro e w' ⟨rfl, rfl⟩))
  go_ret
  first
  | exact ⟨rfl, HB.out⟩
  | exact ⟨congrArg (fun x => Ending.returned (.int .u64 x)) HA.out.1, HB.out⟩
  | exact ⟨congrArg (fun x => Ending.returned (.int .u64 x)) HA.out.2.1, HB.out⟩
  | exact ⟨congrArg (fun x => Ending.returned (.int .u64 x)) HA.out.2.2, HB.out⟩
set_option maxRecDepth 100000 in
theorem rget_4 (c : Array Value) (R : Nat → Nat) (h : CPU c R) (r wd : Int) (i : Nat) (hi : r % 16 = i) (hi16 : i < 16) (h1 : (wd == 1) = false) (h2 : (wd == 2) = false) (h4 : (wd == 4) = true) (w : World) :
    Calls Tryd.prog 30 #[.agg c, .int .i64 r, .int .i64 wd] w fun e w' => e = .returned (.int .u64 ((R i : Nat) % 4294967296)) ∧ Below w.heap.size w w' := by
  have hc := ((CB.new w c).cell i).trans (h.reg i hi16)
  have HB := Lib.hid ((Below.refl w.heap.size w).alloc (Nat.le_refl _) (.cells c 50))
  have HW : Hid (wdI wd = 4) := Lib.hid (by unfold wdI; simp at h4; simp [h4])
  have HA := Lib.hid (show bits .and .u64 ((R i : Nat) : Int) 255 = (R i : Nat) % 256 ∧ bits .and .u64 ((R i : Nat) : Int) 65535 = (R i : Nat) % 65536 ∧ bits .and .u64 ((R i : Nat) : Int) 4294967295 = (R i : Nat) % 4294967296 from and_low _ (h.lt i))
  go_enter Tryd.func30, Tryd.ntmps30
  go_wp2_with (first | (go_at_call 56; refine (place_any r i hi _).mono ?_; rintro e w' ⟨rfl, rfl⟩) | (go_at_call 57; refine (wide_any wd _).mono ?_; rw [HW.out]; rintro e w' ⟨rfl, rfl⟩))
  go_ret
  first
  | exact ⟨rfl, HB.out⟩
  | exact ⟨congrArg (fun x => Ending.returned (.int .u64 x)) HA.out.1, HB.out⟩
  | exact ⟨congrArg (fun x => Ending.returned (.int .u64 x)) HA.out.2.1, HB.out⟩
  | exact ⟨congrArg (fun x => Ending.returned (.int .u64 x)) HA.out.2.2, HB.out⟩
set_option maxRecDepth 100000 in
theorem rget_8 (c : Array Value) (R : Nat → Nat) (h : CPU c R) (r wd : Int) (i : Nat) (hi : r % 16 = i) (hi16 : i < 16) (h1 : (wd == 1) = false) (h2 : (wd == 2) = false) (h4 : (wd == 4) = false) (w : World) :
    Calls Tryd.prog 30 #[.agg c, .int .i64 r, .int .i64 wd] w fun e w' => e = .returned (.int .u64 ((R i : Nat))) ∧ Below w.heap.size w w' := by
  have hc := ((CB.new w c).cell i).trans (h.reg i hi16)
  have HB := Lib.hid ((Below.refl w.heap.size w).alloc (Nat.le_refl _) (.cells c 50))
  have HW : Hid (wdI wd = 8) := Lib.hid (by unfold wdI; simp at h1 h2 h4; simp [h1, h2, h4])
  have HA := Lib.hid (show bits .and .u64 ((R i : Nat) : Int) 255 = (R i : Nat) % 256 ∧ bits .and .u64 ((R i : Nat) : Int) 65535 = (R i : Nat) % 65536 ∧ bits .and .u64 ((R i : Nat) : Int) 4294967295 = (R i : Nat) % 4294967296 from and_low _ (h.lt i))
  go_enter Tryd.func30, Tryd.ntmps30
  go_wp2_with (first | (go_at_call 56; refine (place_any r i hi _).mono ?_; rintro e w' ⟨rfl, rfl⟩) | (go_at_call 57; refine (wide_any wd _).mono ?_; rw [HW.out]; rintro e w' ⟨rfl, rfl⟩))
  go_ret
  first
  | exact ⟨rfl, HB.out⟩
  | exact ⟨congrArg (fun x => Ending.returned (.int .u64 x)) HA.out.1, HB.out⟩
  | exact ⟨congrArg (fun x => Ending.returned (.int .u64 x)) HA.out.2.1, HB.out⟩
  | exact ⟨congrArg (fun x => Ending.returned (.int .u64 x)) HA.out.2.2, HB.out⟩
theorem get_any (c : Array Value) (R : Nat → Nat) (h : CPU c R) (r wd : Int) (w : World) :
    Calls Tryd.prog 29 #[.agg c, .int .i64 r, .int .i64 wd] w fun e w' => e = .returned (.int .u64 (gtN (R (r % 16).toNat) wd : Nat)) ∧ Below w.heap.size w w' := by
  have hi : r % 16 = (((r % 16).toNat : Nat) : Int) := by omega
  have hi16 : (r % 16).toNat < 16 := by omega
  unfold gtN
  by_cases h1 : wd = 1
  · rw [if_pos h1]; exact get_1 c R h r wd _ hi hi16 (by simpa using h1) w
  · by_cases h2 : wd = 2
    · rw [if_neg h1, if_pos h2]; exact get_2 c R h r wd _ hi hi16 (by simpa using h1) (by simpa using h2) w
    · by_cases h4 : wd = 4
      · rw [if_neg h1, if_neg h2, if_pos h4]; exact get_4 c R h r wd _ hi hi16 (by simpa using h1) (by simpa using h2) (by simpa using h4) w
      · rw [if_neg h1, if_neg h2, if_neg h4]; exact get_8 c R h r wd _ hi hi16 (by simpa using h1) (by simpa using h2) (by simpa using h4) w
theorem rget_any (c : Array Value) (R : Nat → Nat) (h : CPU c R) (r wd : Int) (w : World) :
    Calls Tryd.prog 30 #[.agg c, .int .i64 r, .int .i64 wd] w fun e w' => e = .returned (.int .u64 (gtN (R (r % 16).toNat) wd : Nat)) ∧ Below w.heap.size w w' := by
  have hi : r % 16 = (((r % 16).toNat : Nat) : Int) := by omega
  have hi16 : (r % 16).toNat < 16 := by omega
  unfold gtN
  by_cases h1 : wd = 1
  · rw [if_pos h1]; exact rget_1 c R h r wd _ hi hi16 (by simpa using h1) w
  · by_cases h2 : wd = 2
    · rw [if_neg h1, if_pos h2]; exact rget_2 c R h r wd _ hi hi16 (by simpa using h1) (by simpa using h2) w
    · by_cases h4 : wd = 4
      · rw [if_neg h1, if_neg h2, if_pos h4]; exact rget_4 c R h r wd _ hi hi16 (by simpa using h1) (by simpa using h2) (by simpa using h4) w
      · rw [if_neg h1, if_neg h2, if_neg h4]; exact rget_8 c R h r wd _ hi hi16 (by simpa using h1) (by simpa using h2) (by simpa using h4) w
end Go.Proofs.YtkpnafgmjcnniaaDoor
