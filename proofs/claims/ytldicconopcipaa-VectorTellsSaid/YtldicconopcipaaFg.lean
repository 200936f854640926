/- A round and the last one, as functions, as deeds. -/
import Derived.Test.YtldicconopcipaaFe
import Derived.Test.YtldicconopcipaaFf
namespace Go.Proofs.Ytldicconopcipaa
open Go.RowKit
set_option linter.unusedVariables false
set_option linter.unusedSimpArgs false
/-- A round's bytes. -/
def roN (M : (Nat → Nat) → Nat → Nat) (f g : Nat → Nat) (j : Nat) : Nat := uK M (sB f) g 16 j
def B3 (w : World) (x y : Array Value) (W : World) : Prop := R16 W w.heap.size x ∧ R16 W (w.heap.size + 1) y ∧ R16 W (w.heap.size + 1 + 1) z16 ∧ Below w.heap.size w W
theorem B3.new (w : World) (x y : Array Value) (hx : x.size = 16) (hx1 : x.all (·.oneCell') = true) (hy : y.size = 16) (hy1 : y.all (·.oneCell') = true) : B3 w x y (((w.alloc (.cells x 22)).alloc (.cells y 22)).alloc (.cells #[.int .u8 0, .int .u8 0, .int .u8 0, .int .u8 0, .int .u8 0, .int .u8 0, .int .u8 0, .int .u8 0, .int .u8 0, .int .u8 0, .int .u8 0, .int .u8 0, .int .u8 0, .int .u8 0, .int .u8 0, .int .u8 0] 22)) := by
  have h1 := R16.new w x hx hx1
  have h2 := R16.new (w.alloc (.cells x 22)) y hy hy1
  have h3 := R16.newz ((w.alloc (.cells x 22)).alloc (.cells y 22))
  simp only [World.size_alloc] at h2 h3
  exact ⟨(h1.alloc _).alloc _, h2.alloc _, h3, (((Below.refl _ w).alloc (Nat.le_refl _) _).alloc (by simp) _).alloc (by simp; omega) _⟩
theorem B3.keep {w W W' : World} {x y : Array Value} (h : B3 w x y W) (hb : Below W.heap.size W W') : B3 w x y W' := ⟨h.1.keep hb, h.2.1.keep hb, h.2.2.1.keep hb, h.2.2.2.trans (hb.mono h.2.2.2.size)⟩
set_option maxRecDepth 100000 in
theorem fround_core (x y r : Array Value) (hx : x.size = 16) (hx1 : x.all (·.oneCell') = true) (hy : y.size = 16) (hy1 : y.all (·.oneCell') = true) (hr : r.size = 16) (hr1 : r.all (·.oneCell') = true)
    (hC : ∀ W, Calls Try.prog 41 #[.agg x, .agg y, .func (.func 42) #[] #[]] W fun e w' => e = .returned (.agg r) ∧ Below W.heap.size W w') (w : World) :
    Calls Try.prog 29 #[.agg x, .agg y] w fun e w' => e = .returned (.agg r) ∧ Below w.heap.size w w' := by
  have HS := Lib.hid (B3.new w x y hx hx1 hy hy1)
  have HC := Lib.hid hC
  clear hC
  go_enter Try.func29, Try.ntmps29
  go_upto_region 1 with fail
  generalize World.alloc (World.alloc (World.alloc _ _) _) _ = W1 at *
  refine wp_region_list ?_
  refine wpList_load22 rfl rfl rfl HS.out.1 ?_
  refine wpList_load22 rfl rfl rfl HS.out.2.1 ?_
  go_wp2_with fail
  go_at_call 41
  (with_reducible refine (HC.out _).mono ?_)
  rintro e w2 ⟨rfl, hb2⟩
  have HS2 := Lib.hid (HS.out.keep hb2)
  clear HS hb2
  go_wp2_with (refine wpList_store22 rfl rfl rfl rfl HS2.out.2.2.1 hr hr1 ?_)
  have h9 := Lib.hid (HS2.out.2.2.1.row hr hr1)
  have hB9 := Lib.hid (below_row (vs := r) HS2.out.2.2.2 (show w.heap.size ≤ w.heap.size + 1 + 1 by omega))
  generalize World.setRow _ _ _ = W3 at *
  go_wp2
  exact bodyPost_ret (v := .agg r) (results_cell_row rfl _ _ _ 22 _ (0, 0) _ rfl h9.out.1 Try.underlying22 rfl (by rw [h9.out.2.1]; exact info22)) rfl ⟨rfl, hB9.out⟩
set_option maxRecDepth 100000 in
theorem flast_core (x y r : Array Value) (hx : x.size = 16) (hx1 : x.all (·.oneCell') = true) (hy : y.size = 16) (hy1 : y.all (·.oneCell') = true) (hr : r.size = 16) (hr1 : r.all (·.oneCell') = true)
    (hC : ∀ W, Calls Try.prog 41 #[.agg x, .agg y, .func (.func 43) #[] #[]] W fun e w' => e = .returned (.agg r) ∧ Below W.heap.size W w') (w : World) :
    Calls Try.prog 31 #[.agg x, .agg y] w fun e w' => e = .returned (.agg r) ∧ Below w.heap.size w w' := by
  have HS := Lib.hid (B3.new w x y hx hx1 hy hy1)
  have HC := Lib.hid hC
  clear hC
  go_enter Try.func31, Try.ntmps31
  go_upto_region 1 with fail
  generalize World.alloc (World.alloc (World.alloc _ _) _) _ = W1 at *
  refine wp_region_list ?_
  refine wpList_load22 rfl rfl rfl HS.out.1 ?_
  refine wpList_load22 rfl rfl rfl HS.out.2.1 ?_
  go_wp2_with fail
  go_at_call 41
  (with_reducible refine (HC.out _).mono ?_)
  rintro e w2 ⟨rfl, hb2⟩
  have HS2 := Lib.hid (HS.out.keep hb2)
  clear HS hb2
  go_wp2_with (refine wpList_store22 rfl rfl rfl rfl HS2.out.2.2.1 hr hr1 ?_)
  have h9 := Lib.hid (HS2.out.2.2.1.row hr hr1)
  have hB9 := Lib.hid (below_row (vs := r) HS2.out.2.2.2 (show w.heap.size ≤ w.heap.size + 1 + 1 by omega))
  generalize World.setRow _ _ _ = W3 at *
  go_wp2
  exact bodyPost_ret (v := .agg r) (results_cell_row rfl _ _ _ 22 _ (0, 0) _ rfl h9.out.1 Try.underlying22 rfl (by rw [h9.out.2.1]; exact info22)) rfl ⟨rfl, hB9.out⟩
set_option maxRecDepth 100000 in
theorem way2_core (x y r : Array Value) (hx : x.size = 16) (hx1 : x.all (·.oneCell') = true) (hy : y.size = 16) (hy1 : y.all (·.oneCell') = true) (hr : r.size = 16) (hr1 : r.all (·.oneCell') = true) (i : Int)
    (hC : ∀ W, Calls Try.prog 29 #[.agg x, .agg y] W fun e w' => e = .returned (.agg r) ∧ Below W.heap.size W w') (w : World) :
    Calls Try.prog 28 #[.agg x, .agg y, .int .u8 i] w fun e w' => e = .returned (.agg r) ∧ Below w.heap.size w w' := by
  have HS := Lib.hid (B3.new w x y hx hx1 hy hy1)
  have HC := Lib.hid hC
  clear hC
  go_enter Try.func28, Try.ntmps28
  go_upto_region 1 with fail
  generalize World.alloc (World.alloc (World.alloc _ _) _) _ = W1 at *
  refine wp_region_list ?_
  refine wpList_load22 rfl rfl rfl HS.out.1 ?_
  refine wpList_load22 rfl rfl rfl HS.out.2.1 ?_
  go_wp2_with fail
  go_at_call 29
  (with_reducible refine (HC.out _).mono ?_)
  rintro e w2 ⟨rfl, hb2⟩
  have HS2 := Lib.hid (HS.out.keep hb2)
  clear HS hb2
  go_wp2_with (refine wpList_store22 rfl rfl rfl rfl HS2.out.2.2.1 hr hr1 ?_)
  have h9 := Lib.hid (HS2.out.2.2.1.row hr hr1)
  have hB9 := Lib.hid (below_row (vs := r) HS2.out.2.2.2 (show w.heap.size ≤ w.heap.size + 1 + 1 by omega))
  generalize World.setRow _ _ _ = W3 at *
  go_wp2
  exact bodyPost_ret (v := .agg r) (results_cell_row rfl _ _ _ 22 _ (0, 0) _ rfl h9.out.1 Try.underlying22 rfl (by rw [h9.out.2.1]; exact info22)) rfl ⟨rfl, hB9.out⟩
set_option maxRecDepth 100000 in
theorem way3_core (x y r : Array Value) (hx : x.size = 16) (hx1 : x.all (·.oneCell') = true) (hy : y.size = 16) (hy1 : y.all (·.oneCell') = true) (hr : r.size = 16) (hr1 : r.all (·.oneCell') = true) (i : Int)
    (hC : ∀ W, Calls Try.prog 31 #[.agg x, .agg y] W fun e w' => e = .returned (.agg r) ∧ Below W.heap.size W w') (w : World) :
    Calls Try.prog 30 #[.agg x, .agg y, .int .u8 i] w fun e w' => e = .returned (.agg r) ∧ Below w.heap.size w w' := by
  have HS := Lib.hid (B3.new w x y hx hx1 hy hy1)
  have HC := Lib.hid hC
  clear hC
  go_enter Try.func30, Try.ntmps30
  go_upto_region 1 with fail
  generalize World.alloc (World.alloc (World.alloc _ _) _) _ = W1 at *
  refine wp_region_list ?_
  refine wpList_load22 rfl rfl rfl HS.out.1 ?_
  refine wpList_load22 rfl rfl rfl HS.out.2.1 ?_
  go_wp2_with fail
  go_at_call 31
  (with_reducible refine (HC.out _).mono ?_)
  rintro e w2 ⟨rfl, hb2⟩
  have HS2 := Lib.hid (HS.out.keep hb2)
  clear HS hb2
  go_wp2_with (refine wpList_store22 rfl rfl rfl rfl HS2.out.2.2.1 hr hr1 ?_)
  have h9 := Lib.hid (HS2.out.2.2.1.row hr hr1)
  have hB9 := Lib.hid (below_row (vs := r) HS2.out.2.2.2 (show w.heap.size ≤ w.heap.size + 1 + 1 by omega))
  generalize World.setRow _ _ _ = W3 at *
  go_wp2
  exact bodyPost_ret (v := .agg r) (results_cell_row rfl _ _ _ 22 _ (0, 0) _ rfl h9.out.1 Try.underlying22 rfl (by rw [h9.out.2.1]; exact info22)) rfl ⟨rfl, hB9.out⟩
theorem enc_any (f g : Nat → Nat) (hf : ∀ j, f j < 256) (hg : ∀ j, g j < 256) (i : Int) (w : World) :
    Calls Try.prog 11 #[.int .u8 37, .agg (bN f), .agg (bN g), .int .u8 i] w fun e w' => e = .returned (.agg (bN (roN mixN f g))) ∧ Below w.heap.size w w' :=
  do_28 (bN f) (bN g) (bN (roN mixN f g)) (bA_size _) (bA_one _) (bA_size _) (bA_one _) (bA_size _) (bA_one _) i
    (fun W => way2_core (bN f) (bN g) _ (bA_size _) (bA_one _) (bA_size _) (bA_one _) (bA_size _) (bA_one _) i
      (fun W => fround_core (bN f) (bN g) _ (bA_size _) (bA_one _) (bA_size _) (bA_one _) (bA_size _) (bA_one _) (fun W => round42_any f g hf hg W) W) W) w
theorem last_any (f g : Nat → Nat) (hf : ∀ j, f j < 256) (hg : ∀ j, g j < 256) (i : Int) (w : World) :
    Calls Try.prog 11 #[.int .u8 38, .agg (bN f), .agg (bN g), .int .u8 i] w fun e w' => e = .returned (.agg (bN (roN idN f g))) ∧ Below w.heap.size w w' :=
  do_30 (bN f) (bN g) (bN (roN idN f g)) (bA_size _) (bA_one _) (bA_size _) (bA_one _) (bA_size _) (bA_one _) i
    (fun W => way3_core (bN f) (bN g) _ (bA_size _) (bA_one _) (bA_size _) (bA_one _) (bA_size _) (bA_one _) i
      (fun W => flast_core (bN f) (bN g) _ (bA_size _) (bA_one _) (bA_size _) (bA_one _) (bA_size _) (bA_one _) (fun W => round43_any f g hf hg W) W) W) w
theorem roN_lt (M : (Nat → Nat) → Nat → Nat) (hM : ∀ c, (∀ i, c i < 256) → ∀ i, M c i < 256) (f g : Nat → Nat) (hg : ∀ j, g j < 256) (j : Nat) : roN M f g j < 256 := by
  unfold roN uK
  split
  · exact xor_lt8 (hM _ (fun _ => sB_lt f _) _) (hg j)
  · exact sB_lt f j
/-- With noughts, and then the key: as with the key. -/
theorem roN_key (M : (Nat → Nat) → Nat → Nat) (f g : Nat → Nat) (j : Nat) (hj : j < 16) : roN M f (fun _ => 0) j ^^^ g j = roN M f g j := by
  unfold roN uK
  rw [if_pos hj, if_pos hj, Nat.xor_zero]
end Go.Proofs.Ytldicconopcipaa
