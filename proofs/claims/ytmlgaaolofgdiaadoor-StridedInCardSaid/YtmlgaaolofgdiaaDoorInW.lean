/- The law StridedIn, walked over what its calls answer. -/
import Derived.Test.YtmlgaaolofgdiaaDoorInB
import Derived.Deep.DeepCutAuto
import Derived.BigQuiet
namespace Go.Proofs.YtmlgaaolofgdiaaDoor
open Go.RowKit SM
set_option linter.unusedSimpArgs false
set_option linter.unusedVariables false
attribute [local go_sem ↓] Go.wp_at_zero Go.wp_at_succ
attribute [local go_sem ↓ high] eql_set neq_set
set_option maxRecDepth 100000 in
set_option maxHeartbeats 40000000 in
theorem in_walk (s l h t m k p q r i0 i1 i2 n n2 : Nat) (hn : n ≤ 200) (hn2 : n2 ≤ 200) (hB aB : Nat → Bool) (X Y Z V : Bool) (w : World)
    (HR1 : Hid (∀ W, Below w.heap.size w W → Calls Tryd.prog 6 #[sv s l h] W fun e w2 => e = .returned (.bool true) ∧ Below W.heap.size W w2))
    (HR2 : Hid (∀ W, Below w.heap.size w W → Calls Tryd.prog 6 #[sv t m k] W fun e w2 => e = .returned (.bool true) ∧ Below W.heap.size W w2))
    (HR3 : Hid (∀ W, Below w.heap.size w W → Calls Tryd.prog 6 #[sv p q r] W fun e w2 => e = .returned (.bool true) ∧ Below W.heap.size W w2))
    (HM1 : Hid (∀ W, Below w.heap.size w W → Calls Tryd.prog 7 #[sv s l h] W fun e w2 => e = .returned (.int .u64 (n : Nat)) ∧ Below W.heap.size W w2))
    (HM2 : Hid (∀ W, Below w.heap.size w W → Calls Tryd.prog 7 #[sv t m k] W fun e w2 => e = .returned (.int .u64 (n2 : Nat)) ∧ Below W.heap.size W w2))
    (HH : Hid (∀ x : Nat, x < n → ∀ W, Below w.heap.size w W → Calls Tryd.prog 9 #[sv t m k, .int .u64 ((l + x * s : Nat) : Int)] W fun e w2 => e = .returned (.bool (hB x)) ∧ Below W.heap.size W w2))
    (HSUM : Hid (∀ x : Nat, x < n → IntKind.u64.wrap ((l : Int) + IntKind.u64.wrap ((x : Int) * (s : Int))) = ((l + x * s : Nat) : Int)))
    (HA0 : Hid (aB 0 = true))
    (HAS : Hid (∀ x, aB (x + 1) = (aB x && hB x)))
    (HJ1 : Hid (∀ W, Below w.heap.size w W → Calls Tryd.prog 10 #[sv s l h, sv t m k] W fun e w2 => e = .returned (sv i0 i1 i2) ∧ Below W.heap.size W w2))
    (HJ2 : Hid (∀ W, Below w.heap.size w W → Calls Tryd.prog 10 #[sv t m k, sv s l h] W fun e w2 => e = .returned (sv i0 i1 i2) ∧ Below W.heap.size W w2))
    (HJ3 : Hid (∀ W, Below w.heap.size w W → Calls Tryd.prog 10 #[sv s l h, sv s l h] W fun e w2 => e = .returned (sv s l h) ∧ Below W.heap.size W w2))
    (HI1 : Hid (∀ W, Below w.heap.size w W → Calls Tryd.prog 11 #[sv s l h, sv t m k] W fun e w2 => e = .returned (.bool (aB n)) ∧ Below W.heap.size W w2))
    (HI2 : Hid (∀ W, Below w.heap.size w W → Calls Tryd.prog 11 #[sv s l h, sv i0 i1 i2] W fun e w2 => e = .returned (.bool true) ∧ Below W.heap.size W w2))
    (HI3 : Hid (∀ W, Below w.heap.size w W → Calls Tryd.prog 11 #[sv t m k, sv i0 i1 i2] W fun e w2 => e = .returned (.bool true) ∧ Below W.heap.size W w2))
    (HI4 : Hid (∀ W, Below w.heap.size w W → Calls Tryd.prog 11 #[sv s l h, sv p q r] W fun e w2 => e = .returned (.bool X) ∧ Below W.heap.size W w2))
    (HI5 : Hid (∀ W, Below w.heap.size w W → Calls Tryd.prog 11 #[sv t m k, sv p q r] W fun e w2 => e = .returned (.bool Y) ∧ Below W.heap.size W w2))
    (HI6 : Hid (∀ W, Below w.heap.size w W → Calls Tryd.prog 11 #[sv i0 i1 i2, sv p q r] W fun e w2 => e = .returned (.bool Z) ∧ Below W.heap.size W w2))
    (HXY : Hid (X = true → Y = true → Z = true))
    (HL : Hid (∀ W, Below w.heap.size w W → Calls Tryd.prog 12 #[sv s l h, .int .i64 300] W (GoodList s l n W)))
    (HM3 : Hid (∀ W, Below w.heap.size w W → Calls Tryd.prog 13 #[sv s l h] W fun e w2 => e = .returned (.int .u64 (n : Nat)) ∧ Below W.heap.size W w2))
    (HUP : Hid (∀ x, x + 1 < n → l + x * s < l + (x + 1) * s))
    (HI7 : Hid (∀ W, Below w.heap.size w W → Calls Tryd.prog 11 #[sv t m k, sv s l h] W fun e w2 => e = .returned (.bool V) ∧ Below W.heap.size W w2))
    (HE : Hid (aB n = true → V = true → eq3 s l h t m k = true))
    (HW : Hid (∀ W, Below w.heap.size w W → Calls Tryd.prog 8 #[] W fun e w2 => e = .returned (.bool true) ∧ Below W.heap.size W w2))
    :
    Calls Tryd.prog 3 #[sv s l h, sv t m k, sv p q r] w fun e w' => e = .returned (.bool true) ∧ Below w.heap.size w w' := by
  have k1 := ((Slot3.new w (.int .u64 (s : Int)) (.int .u64 (l : Int)) (.int .u64 (h : Int)) 24).alloc (sb t m k)).alloc (sb p q r)
  have k2 := (Slot3.new (w.alloc (sb s l h)) (.int .u64 (t : Int)) (.int .u64 (m : Int)) (.int .u64 (k : Int)) 24).alloc (sb p q r)
  have k3 := Slot3.new ((w.alloc (sb s l h)).alloc (sb t m k)) (.int .u64 (p : Int)) (.int .u64 (q : Int)) (.int .u64 (r : Int)) 24
  have hb0 : Below w.heap.size w (((w.alloc (sb s l h)).alloc (sb t m k)).alloc (sb p q r)) := (((Below.refl _ _).alloc (Nat.le_refl _) _).alloc (by simp) _).alloc (by simp; omega) _
  simp only [World.size_alloc] at k2 k3
  have HS := Lib.hid (mk3 k1 k2 k3 hb0)
  clear k1 k2 k3 hb0
  have hw1 : Hid (∀ n : Nat, n ≤ 200 → (n : Int) + 1 = ((n + 1 : Nat) : Int)) := Lib.hid fun _ _ => by omega
  go_enter Tryd.func3, Tryd.ntmps3
  obtain ⟨ka0, ka1, ka2, ka3, ka4, ka5, ka6, kb0, kb1, kb2, kb3, kb4, kb5, kb6, kc0, kc1, kc2, kc3, kc4, kc5, kc6, hg⟩ := HS.out
  go_wp2_with fail
  go_at_call 6
  refine (HR1.out _ hg).mono ?_
  rintro e W' ⟨rfl, hb1⟩
  replace HS := Lib.hid (keep3 hb1 HS.out (Nat.le_refl _))
  clear hb1 ka0 ka1 ka2 ka3 ka4 ka5 ka6 kb0 kb1 kb2 kb3 kb4 kb5 kb6 kc0 kc1 kc2 kc3 kc4 kc5 kc6 hg
  obtain ⟨ka0, ka1, ka2, ka3, ka4, ka5, ka6, kb0, kb1, kb2, kb3, kb4, kb5, kb6, kc0, kc1, kc2, kc3, kc4, kc5, kc6, hg⟩ := HS.out
  go_wp2_with fail
  go_at_call 6
  refine (HR2.out _ hg).mono ?_
  rintro e W' ⟨rfl, hb1⟩
  replace HS := Lib.hid (keep3 hb1 HS.out (Nat.le_refl _))
  clear hb1 ka0 ka1 ka2 ka3 ka4 ka5 ka6 kb0 kb1 kb2 kb3 kb4 kb5 kb6 kc0 kc1 kc2 kc3 kc4 kc5 kc6 hg
  obtain ⟨ka0, ka1, ka2, ka3, ka4, ka5, ka6, kb0, kb1, kb2, kb3, kb4, kb5, kb6, kc0, kc1, kc2, kc3, kc4, kc5, kc6, hg⟩ := HS.out
  go_wp2_with fail
  go_at_call 6
  refine (HR3.out _ hg).mono ?_
  rintro e W' ⟨rfl, hb1⟩
  replace HS := Lib.hid (keep3 hb1 HS.out (Nat.le_refl _))
  clear hb1 ka0 ka1 ka2 ka3 ka4 ka5 ka6 kb0 kb1 kb2 kb3 kb4 kb5 kb6 kc0 kc1 kc2 kc3 kc4 kc5 kc6 hg
  obtain ⟨ka0, ka1, ka2, ka3, ka4, ka5, ka6, kb0, kb1, kb2, kb3, kb4, kb5, kb6, kc0, kc1, kc2, kc3, kc4, kc5, kc6, hg⟩ := HS.out
  go_wp2_with fail
  go_at_call 7
  refine (HM1.out _ hg).mono ?_
  rintro e W' ⟨rfl, hb1⟩
  replace HS := Lib.hid (keep3 hb1 HS.out (Nat.le_refl _))
  clear hb1 ka0 ka1 ka2 ka3 ka4 ka5 ka6 kb0 kb1 kb2 kb3 kb4 kb5 kb6 kc0 kc1 kc2 kc3 kc4 kc5 kc6 hg
  obtain ⟨ka0, ka1, ka2, ka3, ka4, ka5, ka6, kb0, kb1, kb2, kb3, kb4, kb5, kb6, kc0, kc1, kc2, kc3, kc4, kc5, kc6, hg⟩ := HS.out
  go_wp2_with fail
  go_at_call 7
  refine (HM2.out _ hg).mono ?_
  rintro e W' ⟨rfl, hb1⟩
  replace HS := Lib.hid (keep3 hb1 HS.out (Nat.le_refl _))
  clear hb1 ka0 ka1 ka2 ka3 ka4 ka5 ka6 kb0 kb1 kb2 kb3 kb4 kb5 kb6 kc0 kc1 kc2 kc3 kc4 kc5 kc6 hg
  obtain ⟨ka0, ka1, ka2, ka3, ka4, ka5, ka6, kb0, kb1, kb2, kb3, kb4, kb5, kb6, kc0, kc1, kc2, kc3, kc4, kc5, kc6, hg⟩ := HS.out
  go_wp2_with fail
  go_at_call 7
  refine (HM1.out _ hg).mono ?_
  rintro e W' ⟨rfl, hb1⟩
  replace HS := Lib.hid (keep3 hb1 HS.out (Nat.le_refl _))
  clear hb1 ka0 ka1 ka2 ka3 ka4 ka5 ka6 kb0 kb1 kb2 kb3 kb4 kb5 kb6 kc0 kc1 kc2 kc3 kc4 kc5 kc6 hg
  obtain ⟨ka0, ka1, ka2, ka3, ka4, ka5, ka6, kb0, kb1, kb2, kb3, kb4, kb5, kb6, kc0, kc1, kc2, kc3, kc4, kc5, kc6, hg⟩ := HS.out
  go_wp2
  clear ka0 ka1 ka2 ka3 ka4 ka5 ka6 kb0 kb1 kb2 kb3 kb4 kb5 kb6 kc0 kc1 kc2 kc3 kc4 kc5 kc6 hg
  go_loopw [7, 9] (fun a i W => ∃ x : Nat, x ≤ n ∧ i = .int .u64 (x : Int) ∧ a = .bool (aB x) ∧ W.cell? ⟨w.heap.size, 0, none⟩ = some (.int .u64 (s : Int)) ∧ W.cell? ⟨w.heap.size, 1, none⟩ = some (.int .u64 (l : Int)) ∧ W.cell? ⟨w.heap.size, 2, none⟩ = some (.int .u64 (h : Int)) ∧ W.frozen? ⟨w.heap.size, 0, none⟩ = false ∧ W.frozen? ⟨w.heap.size, 1, none⟩ = false ∧ W.frozen? ⟨w.heap.size, 2, none⟩ = false ∧ w.heap.size < W.heap.size ∧ W.cell? ⟨w.heap.size + 1, 0, none⟩ = some (.int .u64 (t : Int)) ∧ W.cell? ⟨w.heap.size + 1, 1, none⟩ = some (.int .u64 (m : Int)) ∧ W.cell? ⟨w.heap.size + 1, 2, none⟩ = some (.int .u64 (k : Int)) ∧ W.frozen? ⟨w.heap.size + 1, 0, none⟩ = false ∧ W.frozen? ⟨w.heap.size + 1, 1, none⟩ = false ∧ W.frozen? ⟨w.heap.size + 1, 2, none⟩ = false ∧ w.heap.size + 1 < W.heap.size ∧ W.cell? ⟨w.heap.size + 1 + 1, 0, none⟩ = some (.int .u64 (p : Int)) ∧ W.cell? ⟨w.heap.size + 1 + 1, 1, none⟩ = some (.int .u64 (q : Int)) ∧ W.cell? ⟨w.heap.size + 1 + 1, 2, none⟩ = some (.int .u64 (r : Int)) ∧ W.frozen? ⟨w.heap.size + 1 + 1, 0, none⟩ = false ∧ W.frozen? ⟨w.heap.size + 1 + 1, 1, none⟩ = false ∧ W.frozen? ⟨w.heap.size + 1 + 1, 2, none⟩ = false ∧ w.heap.size + 1 + 1 < W.heap.size ∧ Below w.heap.size w W) (fun _ i _ => n - (intOf i).toNat)
  case atStart => exact ⟨0, Nat.zero_le _, rfl, by rw [HA0.out], HS.out⟩
  case round =>
    obtain ⟨x, hx, rfl, rfl, hS⟩ := hrel
    clear HS
    have HS := Lib.hid hS
    clear hS
    obtain ⟨ka0, ka1, ka2, ka3, ka4, ka5, ka6, kb0, kb1, kb2, kb3, kb4, kb5, kb6, kc0, kc1, kc2, kc3, kc4, kc5, kc6, hg⟩ := HS.out
    by_cases hlt : x < n
    · have e1 := HSUM.out x hlt
      have e2 := HAS.out x
      have HE2 := Lib.hid e2
      clear e2
      cases hax : aB x
      · rw [hax] at HE2
        have HAX := Lib.hid hax
        clear hax
        go_wp2
        go_roundw
        case rel => exact ⟨x + 1, by omega, by go_num, by rw [HE2.out]; rfl, HS.out⟩
        case measure => simp [intOf]; omega
      · rw [hax] at HE2
        have HAX := Lib.hid hax
        clear hax
        go_wp2_with fail
        go_at_call 9
        refine (HH.out x hlt _ hg).mono ?_
        rintro e W' ⟨rfl, hb1⟩
        replace HS := Lib.hid (keep3 hb1 HS.out (Nat.le_refl _))
        clear hb1
        go_wp2
        go_roundw
        case rel => exact ⟨x + 1, by omega, by go_num, by rw [HE2.out]; rfl, HS.out⟩
        case measure => simp [intOf]; omega
    · obtain rfl : n = x := by omega
      go_wp2_with fail
      go_at_call 10
      refine (HJ1.out _ hg).mono ?_
      rintro e W' ⟨rfl, hb1⟩
      replace HS := Lib.hid (keep3 hb1 HS.out (Nat.le_refl _))
      clear hb1 ka0 ka1 ka2 ka3 ka4 ka5 ka6 kb0 kb1 kb2 kb3 kb4 kb5 kb6 kc0 kc1 kc2 kc3 kc4 kc5 kc6 hg
      go_upto_region 10 with fail
      replace HS := Lib.hid (new4 (z0 := .int .u64 (i0 : Int)) (z1 := .int .u64 (i1 : Int)) (z2 := .int .u64 (i2 : Int)) (Nat.le_refl _) HS.out)
      generalize W'.heap.size = g at HS ⊢
      have q1 := eq3_self i0 i1 i2
      have q2 := eq3_self s l h
      refine wp_region_noPanic ?_
      refine wp_region_held_drew (S := fun W => W.cell? ⟨w.heap.size, 0, none⟩ = some (.int .u64 (s : Int)) ∧ W.cell? ⟨w.heap.size, 1, none⟩ = some (.int .u64 (l : Int)) ∧ W.cell? ⟨w.heap.size, 2, none⟩ = some (.int .u64 (h : Int)) ∧ W.frozen? ⟨w.heap.size, 0, none⟩ = false ∧ W.frozen? ⟨w.heap.size, 1, none⟩ = false ∧ W.frozen? ⟨w.heap.size, 2, none⟩ = false ∧ w.heap.size < W.heap.size ∧ W.cell? ⟨w.heap.size + 1, 0, none⟩ = some (.int .u64 (t : Int)) ∧ W.cell? ⟨w.heap.size + 1, 1, none⟩ = some (.int .u64 (m : Int)) ∧ W.cell? ⟨w.heap.size + 1, 2, none⟩ = some (.int .u64 (k : Int)) ∧ W.frozen? ⟨w.heap.size + 1, 0, none⟩ = false ∧ W.frozen? ⟨w.heap.size + 1, 1, none⟩ = false ∧ W.frozen? ⟨w.heap.size + 1, 2, none⟩ = false ∧ w.heap.size + 1 < W.heap.size ∧ W.cell? ⟨w.heap.size + 1 + 1, 0, none⟩ = some (.int .u64 (p : Int)) ∧ W.cell? ⟨w.heap.size + 1 + 1, 1, none⟩ = some (.int .u64 (q : Int)) ∧ W.cell? ⟨w.heap.size + 1 + 1, 2, none⟩ = some (.int .u64 (r : Int)) ∧ W.frozen? ⟨w.heap.size + 1 + 1, 0, none⟩ = false ∧ W.frozen? ⟨w.heap.size + 1 + 1, 1, none⟩ = false ∧ W.frozen? ⟨w.heap.size + 1 + 1, 2, none⟩ = false ∧ w.heap.size + 1 + 1 < W.heap.size ∧ W.cell? ⟨g, 0, none⟩ = some (.int .u64 (i0 : Int)) ∧ W.cell? ⟨g, 1, none⟩ = some (.int .u64 (i1 : Int)) ∧ W.cell? ⟨g, 2, none⟩ = some (.int .u64 (i2 : Int)) ∧ W.frozen? ⟨g, 0, none⟩ = false ∧ W.frozen? ⟨g, 1, none⟩ = false ∧ W.frozen? ⟨g, 2, none⟩ = false ∧ g < W.heap.size ∧ Below w.heap.size w W) (by kernel_rfl) ?_ (fun hHeld => ?_)
      · (first | (with_reducible assumption) | (with_reducible exact drew4 HS.out) | (with_reducible exact keep4 (by assumption) (by assumption) (Nat.le_refl _)) | fail)
      refine wpAnyH_take (i := 0) (v := ?_) rfl (by kernel_rfl) (by kernel_rfl) (by kernel_rfl) (fun _ _ _ h => h) (Or.inl ⟨by kernel_rfl, ?_⟩) (by assumption) ?_
      rotate_left
      · intro w hSw
        go_simp
        try with_reducible rfl
      simp only [Act.put, List.setIfInBounds_toArray, List.set_cons_zero, List.set_cons_succ, List.getElem_toArray, List.getElem_cons_succ, List.getElem_cons_zero]
      refine wpAnyH_take (i := 1) (v := ?_) rfl (by kernel_rfl) (by kernel_rfl) (by kernel_rfl) (fun _ _ _ h => h) (Or.inl ⟨by kernel_rfl, ?_⟩) (by assumption) ?_
      rotate_left
      · intro w hSw
        go_simp
        try with_reducible rfl
      simp only [Act.put, List.setIfInBounds_toArray, List.set_cons_zero, List.set_cons_succ, List.getElem_toArray, List.getElem_cons_succ, List.getElem_cons_zero]
      refine wpAnyH_take (i := 3) (v := ?_) rfl (by kernel_rfl) (by kernel_rfl) (by kernel_rfl) (fun _ _ _ h => h) (Or.inl ⟨by kernel_rfl, ?_⟩) (by assumption) ?_
      rotate_left
      · intro w hSw
        go_simp
        try with_reducible rfl
      simp only [Act.put, List.setIfInBounds_toArray, List.set_cons_zero, List.set_cons_succ, List.getElem_toArray, List.getElem_cons_succ, List.getElem_cons_zero]
      refine wpAnyH_ready (rs := [2]) (by kernel_rfl) (by simp) ?_
      refine AllReadyH.cons rfl (fun K hK => ?_) AllReadyH.nil
      rw [if_pos (by kernel_rfl)]; go_simp; go_at_call 11; (with_reducible refine (HI1.out _ hHeld.2.2.2.2.2.2.2.2.2.2.2.2.2.2.2.2.2.2.2.2.2.2.2.2.2.2.2.2).mono ?_); rintro e w1 ⟨rfl, hb1⟩
      refine hK.out _ _ ?_ (fun hHeld => ?_)
      · (first | (with_reducible assumption) | (with_reducible exact drew4 HS.out) | (with_reducible exact keep4 (by assumption) (by assumption) (Nat.le_refl _)) | fail)
      clear hK K
      try simp only [Act.put, List.setIfInBounds_toArray, List.set_cons_zero, List.set_cons_succ, List.getElem_toArray, List.getElem_cons_succ, List.getElem_cons_zero]
      refine wpAnyH_take (i := 4) (v := ?_) rfl (by kernel_rfl) (by kernel_rfl) (by kernel_rfl) (fun _ _ _ h => h) (Or.inl ⟨by kernel_rfl, ?_⟩) (by assumption) ?_
      rotate_left
      · intro w hSw
        go_simp
        try with_reducible rfl
      simp only [Act.put, List.setIfInBounds_toArray, List.set_cons_zero, List.set_cons_succ, List.getElem_toArray, List.getElem_cons_succ, List.getElem_cons_zero]
      refine wpAnyH_take (i := 5) (v := ?_) rfl (by kernel_rfl) (by kernel_rfl) (by kernel_rfl) (fun _ _ _ h => h) (Or.inl ⟨by kernel_rfl, ?_⟩) (by assumption) ?_
      rotate_left
      · intro w hSw
        go_simp
        try with_reducible rfl
      simp only [Act.put, List.setIfInBounds_toArray, List.set_cons_zero, List.set_cons_succ, List.getElem_toArray, List.getElem_cons_succ, List.getElem_cons_zero]
      refine wpAnyH_take (i := 6) (v := ?_) rfl (by kernel_rfl) (by kernel_rfl) (by kernel_rfl) (fun _ _ _ h => h) (Or.inl ⟨by kernel_rfl, ?_⟩) (by assumption) ?_
      rotate_left
      · intro w hSw
        go_simp
        try with_reducible rfl
      simp only [Act.put, List.setIfInBounds_toArray, List.set_cons_zero, List.set_cons_succ, List.getElem_toArray, List.getElem_cons_succ, List.getElem_cons_zero]
      refine wpAnyH_take (i := 7) (v := ?_) rfl (by kernel_rfl) (by kernel_rfl) (by kernel_rfl) (fun _ _ _ h => h) (Or.inl ⟨by kernel_rfl, ?_⟩) (by assumption) ?_
      rotate_left
      · intro w hSw
        go_simp
        try with_reducible rfl
      simp only [Act.put, List.setIfInBounds_toArray, List.set_cons_zero, List.set_cons_succ, List.getElem_toArray, List.getElem_cons_succ, List.getElem_cons_zero]
      refine wpAnyH_ready (rs := [8]) (by kernel_rfl) (by simp) ?_
      refine AllReadyH.cons rfl (fun K hK => ?_) AllReadyH.nil
      rw [if_pos (by kernel_rfl)]; go_simp; go_at_call 11; (with_reducible refine (HI2.out _ hHeld.2.2.2.2.2.2.2.2.2.2.2.2.2.2.2.2.2.2.2.2.2.2.2.2.2.2.2.2).mono ?_); rintro e w1 ⟨rfl, hb1⟩
      refine hK.out _ _ ?_ (fun hHeld => ?_)
      · (first | (with_reducible assumption) | (with_reducible exact drew4 HS.out) | (with_reducible exact keep4 (by assumption) (by assumption) (Nat.le_refl _)) | fail)
      clear hK K
      try simp only [Act.put, List.setIfInBounds_toArray, List.set_cons_zero, List.set_cons_succ, List.getElem_toArray, List.getElem_cons_succ, List.getElem_cons_zero]
      refine wpAnyH_take (i := 9) (v := ?_) rfl (by kernel_rfl) (by kernel_rfl) (by kernel_rfl) (fun _ _ _ h => h) (Or.inl ⟨by kernel_rfl, ?_⟩) (by assumption) ?_
      rotate_left
      · intro w hSw
        go_simp
        try with_reducible rfl
      simp only [Act.put, List.setIfInBounds_toArray, List.set_cons_zero, List.set_cons_succ, List.getElem_toArray, List.getElem_cons_succ, List.getElem_cons_zero]
      refine wpAnyH_take (i := 10) (v := ?_) rfl (by kernel_rfl) (by kernel_rfl) (by kernel_rfl) (fun _ _ _ h => h) (Or.inl ⟨by kernel_rfl, ?_⟩) (by assumption) ?_
      rotate_left
      · intro w hSw
        go_simp
        try with_reducible rfl
      simp only [Act.put, List.setIfInBounds_toArray, List.set_cons_zero, List.set_cons_succ, List.getElem_toArray, List.getElem_cons_succ, List.getElem_cons_zero]
      refine wpAnyH_take (i := 11) (v := ?_) rfl (by kernel_rfl) (by kernel_rfl) (by kernel_rfl) (fun _ _ _ h => h) (Or.inl ⟨by kernel_rfl, ?_⟩) (by assumption) ?_
      rotate_left
      · intro w hSw
        go_simp
        try with_reducible rfl
      simp only [Act.put, List.setIfInBounds_toArray, List.set_cons_zero, List.set_cons_succ, List.getElem_toArray, List.getElem_cons_succ, List.getElem_cons_zero]
      refine wpAnyH_take (i := 12) (v := ?_) rfl (by kernel_rfl) (by kernel_rfl) (by kernel_rfl) (fun _ _ _ h => h) (Or.inl ⟨by kernel_rfl, ?_⟩) (by assumption) ?_
      rotate_left
      · intro w hSw
        go_simp
        try with_reducible rfl
      simp only [Act.put, List.setIfInBounds_toArray, List.set_cons_zero, List.set_cons_succ, List.getElem_toArray, List.getElem_cons_succ, List.getElem_cons_zero]
      refine wpAnyH_take (i := 13) (v := ?_) rfl (by kernel_rfl) (by kernel_rfl) (by kernel_rfl) (fun _ _ _ h => h) (Or.inl ⟨by kernel_rfl, ?_⟩) (by assumption) ?_
      rotate_left
      · intro w hSw
        go_simp
        try with_reducible rfl
      simp only [Act.put, List.setIfInBounds_toArray, List.set_cons_zero, List.set_cons_succ, List.getElem_toArray, List.getElem_cons_succ, List.getElem_cons_zero]
      refine wpAnyH_ready (rs := [14]) (by kernel_rfl) (by simp) ?_
      refine AllReadyH.cons rfl (fun K hK => ?_) AllReadyH.nil
      rw [if_pos (by kernel_rfl)]; go_simp; go_at_call 11; (with_reducible refine (HI3.out _ hHeld.2.2.2.2.2.2.2.2.2.2.2.2.2.2.2.2.2.2.2.2.2.2.2.2.2.2.2.2).mono ?_); rintro e w1 ⟨rfl, hb1⟩
      refine hK.out _ _ ?_ (fun hHeld => ?_)
      · (first | (with_reducible assumption) | (with_reducible exact drew4 HS.out) | (with_reducible exact keep4 (by assumption) (by assumption) (Nat.le_refl _)) | fail)
      clear hK K
      try simp only [Act.put, List.setIfInBounds_toArray, List.set_cons_zero, List.set_cons_succ, List.getElem_toArray, List.getElem_cons_succ, List.getElem_cons_zero]
      refine wpAnyH_take (i := 15) (v := ?_) rfl (by kernel_rfl) (by kernel_rfl) (by kernel_rfl) (fun _ _ _ h => h) (Or.inl ⟨by kernel_rfl, ?_⟩) (by assumption) ?_
      rotate_left
      · intro w hSw
        go_simp
        try with_reducible rfl
      simp only [Act.put, List.setIfInBounds_toArray, List.set_cons_zero, List.set_cons_succ, List.getElem_toArray, List.getElem_cons_succ, List.getElem_cons_zero]
      refine wpAnyH_take (i := 16) (v := ?_) rfl (by kernel_rfl) (by kernel_rfl) (by kernel_rfl) (fun _ _ _ h => h) (Or.inl ⟨by kernel_rfl, ?_⟩) (by assumption) ?_
      rotate_left
      · intro w hSw
        go_simp
        try with_reducible rfl
      simp only [Act.put, List.setIfInBounds_toArray, List.set_cons_zero, List.set_cons_succ, List.getElem_toArray, List.getElem_cons_succ, List.getElem_cons_zero]
      refine wpAnyH_take (i := 17) (v := ?_) rfl (by kernel_rfl) (by kernel_rfl) (by kernel_rfl) (fun _ _ _ h => h) (Or.inl ⟨by kernel_rfl, ?_⟩) (by assumption) ?_
      rotate_left
      · intro w hSw
        go_simp
        try with_reducible rfl
      simp only [Act.put, List.setIfInBounds_toArray, List.set_cons_zero, List.set_cons_succ, List.getElem_toArray, List.getElem_cons_succ, List.getElem_cons_zero]
      refine wpAnyH_take (i := 18) (v := ?_) rfl (by kernel_rfl) (by kernel_rfl) (by kernel_rfl) (fun _ _ _ h => h) (Or.inl ⟨by kernel_rfl, ?_⟩) (by assumption) ?_
      rotate_left
      · intro w hSw
        go_simp
        try with_reducible rfl
      simp only [Act.put, List.setIfInBounds_toArray, List.set_cons_zero, List.set_cons_succ, List.getElem_toArray, List.getElem_cons_succ, List.getElem_cons_zero]
      refine wpAnyH_take (i := 19) (v := ?_) rfl (by kernel_rfl) (by kernel_rfl) (by kernel_rfl) (fun _ _ _ h => h) (Or.inl ⟨by kernel_rfl, ?_⟩) (by assumption) ?_
      rotate_left
      · intro w hSw
        go_simp
        try with_reducible rfl
      simp only [Act.put, List.setIfInBounds_toArray, List.set_cons_zero, List.set_cons_succ, List.getElem_toArray, List.getElem_cons_succ, List.getElem_cons_zero]
      refine wpAnyH_take (i := 20) (v := ?_) rfl (by kernel_rfl) (by kernel_rfl) (by kernel_rfl) (fun _ _ _ h => h) (Or.inl ⟨by kernel_rfl, ?_⟩) (by assumption) ?_
      rotate_left
      · intro w hSw
        go_simp
        try with_reducible rfl
      simp only [Act.put, List.setIfInBounds_toArray, List.set_cons_zero, List.set_cons_succ, List.getElem_toArray, List.getElem_cons_succ, List.getElem_cons_zero]
      refine wpAnyH_ready (rs := [21]) (by kernel_rfl) (by simp) ?_
      refine AllReadyH.cons rfl (fun K hK => ?_) AllReadyH.nil
      rw [if_pos (by kernel_rfl)]; go_simp; go_at_call 10; (with_reducible refine (HJ2.out _ hHeld.2.2.2.2.2.2.2.2.2.2.2.2.2.2.2.2.2.2.2.2.2.2.2.2.2.2.2.2).mono ?_); rintro e w1 ⟨rfl, hb1⟩
      refine hK.out _ _ ?_ (fun hHeld => ?_)
      · (first | (with_reducible assumption) | (with_reducible exact drew4 HS.out) | (with_reducible exact keep4 (by assumption) (by assumption) (Nat.le_refl _)) | fail)
      clear hK K
      try simp only [Act.put, List.setIfInBounds_toArray, List.set_cons_zero, List.set_cons_succ, List.getElem_toArray, List.getElem_cons_succ, List.getElem_cons_zero]
      refine wpAnyH_take (i := 22) (v := ?_) rfl (by kernel_rfl) (by kernel_rfl) (by kernel_rfl) (fun _ _ _ h => h) (Or.inl ⟨by kernel_rfl, ?_⟩) (by assumption) ?_
      rotate_left
      · intro w hSw
        go_simp
        try with_reducible rfl
      simp only [Act.put, List.setIfInBounds_toArray, List.set_cons_zero, List.set_cons_succ, List.getElem_toArray, List.getElem_cons_succ, List.getElem_cons_zero]
      refine wpAnyH_take (i := 23) (v := ?_) rfl (by kernel_rfl) (by kernel_rfl) (by kernel_rfl) (fun _ _ _ h => h) (Or.inl ⟨by kernel_rfl, ?_⟩) (by assumption) ?_
      rotate_left
      · intro w hSw
        go_simp
        try with_reducible rfl
      simp only [Act.put, List.setIfInBounds_toArray, List.set_cons_zero, List.set_cons_succ, List.getElem_toArray, List.getElem_cons_succ, List.getElem_cons_zero]
      refine wpAnyH_take (i := 24) (v := ?_) rfl (by kernel_rfl) (by kernel_rfl) (by kernel_rfl) (fun _ _ _ h => h) (Or.inl ⟨by kernel_rfl, ?_⟩) (by assumption) ?_
      rotate_left
      · intro w hSw
        go_simp
        try with_reducible rfl
      simp only [Act.put, List.setIfInBounds_toArray, List.set_cons_zero, List.set_cons_succ, List.getElem_toArray, List.getElem_cons_succ, List.getElem_cons_zero]
      refine wpAnyH_take (i := 25) (v := ?_) rfl (by kernel_rfl) (by kernel_rfl) (by kernel_rfl) (fun _ _ _ h => h) (Or.inl ⟨by kernel_rfl, ?_⟩) (by assumption) ?_
      rotate_left
      · intro w hSw
        go_simp
        try with_reducible rfl
      simp only [Act.put, List.setIfInBounds_toArray, List.set_cons_zero, List.set_cons_succ, List.getElem_toArray, List.getElem_cons_succ, List.getElem_cons_zero]
      refine wpAnyH_take (i := 26) (v := ?_) rfl (by kernel_rfl) (by kernel_rfl) (by kernel_rfl) (fun _ _ _ h => h) (Or.inl ⟨by kernel_rfl, ?_⟩) (by assumption) ?_
      rotate_left
      · intro w hSw
        go_simp
        try with_reducible rfl
      simp only [Act.put, List.setIfInBounds_toArray, List.set_cons_zero, List.set_cons_succ, List.getElem_toArray, List.getElem_cons_succ, List.getElem_cons_zero]
      refine wpAnyH_take (i := 28) (v := ?_) rfl (by kernel_rfl) (by kernel_rfl) (by kernel_rfl) (fun _ _ _ h => h) (Or.inl ⟨by kernel_rfl, ?_⟩) (by assumption) ?_
      rotate_left
      · intro w hSw
        go_simp
        try with_reducible rfl
      simp only [Act.put, List.setIfInBounds_toArray, List.set_cons_zero, List.set_cons_succ, List.getElem_toArray, List.getElem_cons_succ, List.getElem_cons_zero]
      refine wpAnyH_ready (rs := [27]) (by kernel_rfl) (by simp) ?_
      refine AllReadyH.cons rfl (fun K hK => ?_) AllReadyH.nil
      rw [if_pos (by kernel_rfl)]; go_simp; go_at_call 10; (with_reducible refine (HJ3.out _ hHeld.2.2.2.2.2.2.2.2.2.2.2.2.2.2.2.2.2.2.2.2.2.2.2.2.2.2.2.2).mono ?_); rintro e w1 ⟨rfl, hb1⟩
      refine hK.out _ _ ?_ (fun hHeld => ?_)
      · (first | (with_reducible assumption) | (with_reducible exact drew4 HS.out) | (with_reducible exact keep4 (by assumption) (by assumption) (Nat.le_refl _)) | fail)
      clear hK K
      try simp only [Act.put, List.setIfInBounds_toArray, List.set_cons_zero, List.set_cons_succ, List.getElem_toArray, List.getElem_cons_succ, List.getElem_cons_zero]
      refine wpAnyH_take (i := 29) (v := ?_) rfl (by kernel_rfl) (by kernel_rfl) (by kernel_rfl) (fun _ _ _ h => h) (Or.inl ⟨by kernel_rfl, ?_⟩) (by assumption) ?_
      rotate_left
      · intro w hSw
        go_simp
        try with_reducible rfl
      simp only [Act.put, List.setIfInBounds_toArray, List.set_cons_zero, List.set_cons_succ, List.getElem_toArray, List.getElem_cons_succ, List.getElem_cons_zero]
      refine wpAnyH_take (i := 30) (v := ?_) rfl (by kernel_rfl) (by kernel_rfl) (by kernel_rfl) (fun _ _ _ h => h) (Or.inl ⟨by kernel_rfl, ?_⟩) (by assumption) ?_
      rotate_left
      · intro w hSw
        go_simp
        try with_reducible rfl
      simp only [Act.put, List.setIfInBounds_toArray, List.set_cons_zero, List.set_cons_succ, List.getElem_toArray, List.getElem_cons_succ, List.getElem_cons_zero]
      refine wpAnyH_done (by kernel_rfl) ?_ _
      refine NoPanic.normal ?_
      have hS := hHeld
      refine anyW (P := fun W => W.cell? ⟨w.heap.size, 0, none⟩ = some (.int .u64 (s : Int)) ∧ W.cell? ⟨w.heap.size, 1, none⟩ = some (.int .u64 (l : Int)) ∧ W.cell? ⟨w.heap.size, 2, none⟩ = some (.int .u64 (h : Int)) ∧ W.frozen? ⟨w.heap.size, 0, none⟩ = false ∧ W.frozen? ⟨w.heap.size, 1, none⟩ = false ∧ W.frozen? ⟨w.heap.size, 2, none⟩ = false ∧ w.heap.size < W.heap.size ∧ W.cell? ⟨w.heap.size + 1, 0, none⟩ = some (.int .u64 (t : Int)) ∧ W.cell? ⟨w.heap.size + 1, 1, none⟩ = some (.int .u64 (m : Int)) ∧ W.cell? ⟨w.heap.size + 1, 2, none⟩ = some (.int .u64 (k : Int)) ∧ W.frozen? ⟨w.heap.size + 1, 0, none⟩ = false ∧ W.frozen? ⟨w.heap.size + 1, 1, none⟩ = false ∧ W.frozen? ⟨w.heap.size + 1, 2, none⟩ = false ∧ w.heap.size + 1 < W.heap.size ∧ W.cell? ⟨w.heap.size + 1 + 1, 0, none⟩ = some (.int .u64 (p : Int)) ∧ W.cell? ⟨w.heap.size + 1 + 1, 1, none⟩ = some (.int .u64 (q : Int)) ∧ W.cell? ⟨w.heap.size + 1 + 1, 2, none⟩ = some (.int .u64 (r : Int)) ∧ W.frozen? ⟨w.heap.size + 1 + 1, 0, none⟩ = false ∧ W.frozen? ⟨w.heap.size + 1 + 1, 1, none⟩ = false ∧ W.frozen? ⟨w.heap.size + 1 + 1, 2, none⟩ = false ∧ w.heap.size + 1 + 1 < W.heap.size ∧ W.cell? ⟨g, 0, none⟩ = some (.int .u64 (i0 : Int)) ∧ W.cell? ⟨g, 1, none⟩ = some (.int .u64 (i1 : Int)) ∧ W.cell? ⟨g, 2, none⟩ = some (.int .u64 (i2 : Int)) ∧ W.frozen? ⟨g, 0, none⟩ = false ∧ W.frozen? ⟨g, 1, none⟩ = false ∧ W.frozen? ⟨g, 2, none⟩ = false ∧ g < W.heap.size ∧ Below w.heap.size w W) (Q := fun W => Exit.then _ _ _ _ W) hS ?_
      clear hS HS hHeld
      intro W hS
      have HS := Lib.hid hS
      obtain ⟨ka0, ka1, ka2, ka3, ka4, ka5, ka6, kb0, kb1, kb2, kb3, kb4, kb5, kb6, kc0, kc1, kc2, kc3, kc4, kc5, kc6, kd0, kd1, kd2, kd3, kd4, kd5, kd6, hg⟩ := hS
      clear q1 q2
      go_upto_region 12 with fail
      go_cut [103] (fun c W => c = .bool false ∧ W.cell? ⟨w.heap.size, 0, none⟩ = some (.int .u64 (s : Int)) ∧ W.cell? ⟨w.heap.size, 1, none⟩ = some (.int .u64 (l : Int)) ∧ W.cell? ⟨w.heap.size, 2, none⟩ = some (.int .u64 (h : Int)) ∧ W.frozen? ⟨w.heap.size, 0, none⟩ = false ∧ W.frozen? ⟨w.heap.size, 1, none⟩ = false ∧ W.frozen? ⟨w.heap.size, 2, none⟩ = false ∧ w.heap.size < W.heap.size ∧ W.cell? ⟨w.heap.size + 1, 0, none⟩ = some (.int .u64 (t : Int)) ∧ W.cell? ⟨w.heap.size + 1, 1, none⟩ = some (.int .u64 (m : Int)) ∧ W.cell? ⟨w.heap.size + 1, 2, none⟩ = some (.int .u64 (k : Int)) ∧ W.frozen? ⟨w.heap.size + 1, 0, none⟩ = false ∧ W.frozen? ⟨w.heap.size + 1, 1, none⟩ = false ∧ W.frozen? ⟨w.heap.size + 1, 2, none⟩ = false ∧ w.heap.size + 1 < W.heap.size ∧ W.cell? ⟨w.heap.size + 1 + 1, 0, none⟩ = some (.int .u64 (p : Int)) ∧ W.cell? ⟨w.heap.size + 1 + 1, 1, none⟩ = some (.int .u64 (q : Int)) ∧ W.cell? ⟨w.heap.size + 1 + 1, 2, none⟩ = some (.int .u64 (r : Int)) ∧ W.frozen? ⟨w.heap.size + 1 + 1, 0, none⟩ = false ∧ W.frozen? ⟨w.heap.size + 1 + 1, 1, none⟩ = false ∧ W.frozen? ⟨w.heap.size + 1 + 1, 2, none⟩ = false ∧ w.heap.size + 1 + 1 < W.heap.size ∧ W.cell? ⟨g, 0, none⟩ = some (.int .u64 (i0 : Int)) ∧ W.cell? ⟨g, 1, none⟩ = some (.int .u64 (i1 : Int)) ∧ W.cell? ⟨g, 2, none⟩ = some (.int .u64 (i2 : Int)) ∧ W.frozen? ⟨g, 0, none⟩ = false ∧ W.frozen? ⟨g, 1, none⟩ = false ∧ W.frozen? ⟨g, 2, none⟩ = false ∧ g < W.heap.size ∧ Below w.heap.size w W)
      case first =>
        cases X
        · go_wp2_with fail
          go_at_call 11
          refine (HI4.out _ hg).mono ?_
          rintro e W' ⟨rfl, hb1⟩
          replace HS := Lib.hid (keep4 hb1 HS.out (Nat.le_refl _))
          clear hb1 ka0 ka1 ka2 ka3 ka4 ka5 ka6 kb0 kb1 kb2 kb3 kb4 kb5 kb6 kc0 kc1 kc2 kc3 kc4 kc5 kc6 kd0 kd1 kd2 kd3 kd4 kd5 kd6 hg
          obtain ⟨ka0, ka1, ka2, ka3, ka4, ka5, ka6, kb0, kb1, kb2, kb3, kb4, kb5, kb6, kc0, kc1, kc2, kc3, kc4, kc5, kc6, kd0, kd1, kd2, kd3, kd4, kd5, kd6, hg⟩ := HS.out
          go_wp2_with fail
          go_meet
          exact ⟨rfl, HS.out⟩
        · cases Y
          · go_wp2_with fail
            go_at_call 11
            refine (HI4.out _ hg).mono ?_
            rintro e W' ⟨rfl, hb1⟩
            replace HS := Lib.hid (keep4 hb1 HS.out (Nat.le_refl _))
            clear hb1 ka0 ka1 ka2 ka3 ka4 ka5 ka6 kb0 kb1 kb2 kb3 kb4 kb5 kb6 kc0 kc1 kc2 kc3 kc4 kc5 kc6 kd0 kd1 kd2 kd3 kd4 kd5 kd6 hg
            obtain ⟨ka0, ka1, ka2, ka3, ka4, ka5, ka6, kb0, kb1, kb2, kb3, kb4, kb5, kb6, kc0, kc1, kc2, kc3, kc4, kc5, kc6, kd0, kd1, kd2, kd3, kd4, kd5, kd6, hg⟩ := HS.out
            go_wp2_with fail
            go_at_call 11
            refine (HI5.out _ hg).mono ?_
            rintro e W' ⟨rfl, hb1⟩
            replace HS := Lib.hid (keep4 hb1 HS.out (Nat.le_refl _))
            clear hb1 ka0 ka1 ka2 ka3 ka4 ka5 ka6 kb0 kb1 kb2 kb3 kb4 kb5 kb6 kc0 kc1 kc2 kc3 kc4 kc5 kc6 kd0 kd1 kd2 kd3 kd4 kd5 kd6 hg
            obtain ⟨ka0, ka1, ka2, ka3, ka4, ka5, ka6, kb0, kb1, kb2, kb3, kb4, kb5, kb6, kc0, kc1, kc2, kc3, kc4, kc5, kc6, kd0, kd1, kd2, kd3, kd4, kd5, kd6, hg⟩ := HS.out
            go_wp2_with fail
            go_meet
            exact ⟨rfl, HS.out⟩
          · have hZ := HXY.out rfl rfl
            subst hZ
            go_wp2_with fail
            go_at_call 11
            refine (HI4.out _ hg).mono ?_
            rintro e W' ⟨rfl, hb1⟩
            replace HS := Lib.hid (keep4 hb1 HS.out (Nat.le_refl _))
            clear hb1 ka0 ka1 ka2 ka3 ka4 ka5 ka6 kb0 kb1 kb2 kb3 kb4 kb5 kb6 kc0 kc1 kc2 kc3 kc4 kc5 kc6 kd0 kd1 kd2 kd3 kd4 kd5 kd6 hg
            obtain ⟨ka0, ka1, ka2, ka3, ka4, ka5, ka6, kb0, kb1, kb2, kb3, kb4, kb5, kb6, kc0, kc1, kc2, kc3, kc4, kc5, kc6, kd0, kd1, kd2, kd3, kd4, kd5, kd6, hg⟩ := HS.out
            go_wp2_with fail
            go_at_call 11
            refine (HI5.out _ hg).mono ?_
            rintro e W' ⟨rfl, hb1⟩
            replace HS := Lib.hid (keep4 hb1 HS.out (Nat.le_refl _))
            clear hb1 ka0 ka1 ka2 ka3 ka4 ka5 ka6 kb0 kb1 kb2 kb3 kb4 kb5 kb6 kc0 kc1 kc2 kc3 kc4 kc5 kc6 kd0 kd1 kd2 kd3 kd4 kd5 kd6 hg
            obtain ⟨ka0, ka1, ka2, ka3, ka4, ka5, ka6, kb0, kb1, kb2, kb3, kb4, kb5, kb6, kc0, kc1, kc2, kc3, kc4, kc5, kc6, kd0, kd1, kd2, kd3, kd4, kd5, kd6, hg⟩ := HS.out
            go_wp2_with fail
            go_at_call 11
            refine (HI6.out _ hg).mono ?_
            rintro e W' ⟨rfl, hb1⟩
            replace HS := Lib.hid (keep4 hb1 HS.out (Nat.le_refl _))
            clear hb1 ka0 ka1 ka2 ka3 ka4 ka5 ka6 kb0 kb1 kb2 kb3 kb4 kb5 kb6 kc0 kc1 kc2 kc3 kc4 kc5 kc6 kd0 kd1 kd2 kd3 kd4 kd5 kd6 hg
            obtain ⟨ka0, ka1, ka2, ka3, ka4, ka5, ka6, kb0, kb1, kb2, kb3, kb4, kb5, kb6, kc0, kc1, kc2, kc3, kc4, kc5, kc6, kd0, kd1, kd2, kd3, kd4, kd5, kd6, hg⟩ := HS.out
            go_wp2_with fail
            go_meet
            exact ⟨rfl, HS.out⟩
      case rest =>
        obtain ⟨rfl, hS⟩ := hcut
        clear HS ka0 ka1 ka2 ka3 ka4 ka5 ka6 kb0 kb1 kb2 kb3 kb4 kb5 kb6 kc0 kc1 kc2 kc3 kc4 kc5 kc6 kd0 kd1 kd2 kd3 kd4 kd5 kd6 hg
        have HS := Lib.hid hS
        clear hS
        obtain ⟨ka0, ka1, ka2, ka3, ka4, ka5, ka6, kb0, kb1, kb2, kb3, kb4, kb5, kb6, kc0, kc1, kc2, kc3, kc4, kc5, kc6, kd0, kd1, kd2, kd3, kd4, kd5, kd6, hg⟩ := HS.out
        rcases Nat.eq_zero_or_pos n with hn0 | hn0
        · go_wp2_with fail
          go_at_call 12
          refine (HL.out _ hg).mono ?_
          rintro e W' (⟨_, ⟨a0, cap0, rfl⟩, hb1⟩ | ⟨hh, _⟩)
          rotate_left
          · omega
          replace HS := Lib.hid (keep4 hb1 HS.out (Nat.le_refl _))
          clear hb1 ka0 ka1 ka2 ka3 ka4 ka5 ka6 kb0 kb1 kb2 kb3 kb4 kb5 kb6 kc0 kc1 kc2 kc3 kc4 kc5 kc6 kd0 kd1 kd2 kd3 kd4 kd5 kd6 hg
          obtain ⟨ka0, ka1, ka2, ka3, ka4, ka5, ka6, kb0, kb1, kb2, kb3, kb4, kb5, kb6, kc0, kc1, kc2, kc3, kc4, kc5, kc6, kd0, kd1, kd2, kd3, kd4, kd5, kd6, hg⟩ := HS.out
          subst hn0
          go_wp2_with fail
          go_at_call 13
          refine (HM3.out _ hg).mono ?_
          rintro e W' ⟨rfl, hb1⟩
          replace HS := Lib.hid (keep4 hb1 HS.out (Nat.le_refl _))
          clear hb1 ka0 ka1 ka2 ka3 ka4 ka5 ka6 kb0 kb1 kb2 kb3 kb4 kb5 kb6 kc0 kc1 kc2 kc3 kc4 kc5 kc6 kd0 kd1 kd2 kd3 kd4 kd5 kd6 hg
          obtain ⟨ka0, ka1, ka2, ka3, ka4, ka5, ka6, kb0, kb1, kb2, kb3, kb4, kb5, kb6, kc0, kc1, kc2, kc3, kc4, kc5, kc6, kd0, kd1, kd2, kd3, kd4, kd5, kd6, hg⟩ := HS.out
          go_wp2
          clear ka0 ka1 ka2 ka3 ka4 ka5 ka6 kb0 kb1 kb2 kb3 kb4 kb5 kb6 kc0 kc1 kc2 kc3 kc4 kc5 kc6 kd0 kd1 kd2 kd3 kd4 kd5 kd6 hg
          go_loopw [12] (fun i W => i = .int .i64 1 ∧ W.cell? ⟨w.heap.size, 0, none⟩ = some (.int .u64 (s : Int)) ∧ W.cell? ⟨w.heap.size, 1, none⟩ = some (.int .u64 (l : Int)) ∧ W.cell? ⟨w.heap.size, 2, none⟩ = some (.int .u64 (h : Int)) ∧ W.frozen? ⟨w.heap.size, 0, none⟩ = false ∧ W.frozen? ⟨w.heap.size, 1, none⟩ = false ∧ W.frozen? ⟨w.heap.size, 2, none⟩ = false ∧ w.heap.size < W.heap.size ∧ W.cell? ⟨w.heap.size + 1, 0, none⟩ = some (.int .u64 (t : Int)) ∧ W.cell? ⟨w.heap.size + 1, 1, none⟩ = some (.int .u64 (m : Int)) ∧ W.cell? ⟨w.heap.size + 1, 2, none⟩ = some (.int .u64 (k : Int)) ∧ W.frozen? ⟨w.heap.size + 1, 0, none⟩ = false ∧ W.frozen? ⟨w.heap.size + 1, 1, none⟩ = false ∧ W.frozen? ⟨w.heap.size + 1, 2, none⟩ = false ∧ w.heap.size + 1 < W.heap.size ∧ W.cell? ⟨w.heap.size + 1 + 1, 0, none⟩ = some (.int .u64 (p : Int)) ∧ W.cell? ⟨w.heap.size + 1 + 1, 1, none⟩ = some (.int .u64 (q : Int)) ∧ W.cell? ⟨w.heap.size + 1 + 1, 2, none⟩ = some (.int .u64 (r : Int)) ∧ W.frozen? ⟨w.heap.size + 1 + 1, 0, none⟩ = false ∧ W.frozen? ⟨w.heap.size + 1 + 1, 1, none⟩ = false ∧ W.frozen? ⟨w.heap.size + 1 + 1, 2, none⟩ = false ∧ w.heap.size + 1 + 1 < W.heap.size ∧ W.cell? ⟨g, 0, none⟩ = some (.int .u64 (i0 : Int)) ∧ W.cell? ⟨g, 1, none⟩ = some (.int .u64 (i1 : Int)) ∧ W.cell? ⟨g, 2, none⟩ = some (.int .u64 (i2 : Int)) ∧ W.frozen? ⟨g, 0, none⟩ = false ∧ W.frozen? ⟨g, 1, none⟩ = false ∧ W.frozen? ⟨g, 2, none⟩ = false ∧ g < W.heap.size ∧ Below w.heap.size w W) (fun _ _ => 0)
          case atStart => exact ⟨rfl, HS.out⟩
          case round =>
            obtain ⟨rfl, hS⟩ := hrel
            clear HS
            have HS := Lib.hid hS
            clear hS
            obtain ⟨ka0, ka1, ka2, ka3, ka4, ka5, ka6, kb0, kb1, kb2, kb3, kb4, kb5, kb6, kc0, kc1, kc2, kc3, kc4, kc5, kc6, kd0, kd1, kd2, kd3, kd4, kd5, kd6, hg⟩ := HS.out
            cases haB : aB 0
            · rw [haB] at HI1 HE
              clear haB
              go_wp2_with fail
              go_at_call 11
              refine (HI1.out _ hg).mono ?_
              rintro e W' ⟨rfl, hb1⟩
              replace HS := Lib.hid (keep4 hb1 HS.out (Nat.le_refl _))
              clear hb1 ka0 ka1 ka2 ka3 ka4 ka5 ka6 kb0 kb1 kb2 kb3 kb4 kb5 kb6 kc0 kc1 kc2 kc3 kc4 kc5 kc6 kd0 kd1 kd2 kd3 kd4 kd5 kd6 hg
              obtain ⟨ka0, ka1, ka2, ka3, ka4, ka5, ka6, kb0, kb1, kb2, kb3, kb4, kb5, kb6, kc0, kc1, kc2, kc3, kc4, kc5, kc6, kd0, kd1, kd2, kd3, kd4, kd5, kd6, hg⟩ := HS.out
              have hG := hg
              go_wp2_with fail
              go_at_call 8
              refine (HW.out _ hg).mono ?_
              rintro e W' ⟨rfl, hb1⟩
              replace hG := hG.trans (hb1.mono hG.size)
              clear hb1
              go_wp2
              go_ret
              exact ⟨rfl, hG⟩
            · rw [haB] at HI1 HE
              clear haB
              cases V
              · go_wp2_with fail
                go_at_call 11
                refine (HI1.out _ hg).mono ?_
                rintro e W' ⟨rfl, hb1⟩
                replace HS := Lib.hid (keep4 hb1 HS.out (Nat.le_refl _))
                clear hb1 ka0 ka1 ka2 ka3 ka4 ka5 ka6 kb0 kb1 kb2 kb3 kb4 kb5 kb6 kc0 kc1 kc2 kc3 kc4 kc5 kc6 kd0 kd1 kd2 kd3 kd4 kd5 kd6 hg
                obtain ⟨ka0, ka1, ka2, ka3, ka4, ka5, ka6, kb0, kb1, kb2, kb3, kb4, kb5, kb6, kc0, kc1, kc2, kc3, kc4, kc5, kc6, kd0, kd1, kd2, kd3, kd4, kd5, kd6, hg⟩ := HS.out
                go_wp2_with fail
                go_at_call 11
                refine (HI7.out _ hg).mono ?_
                rintro e W' ⟨rfl, hb1⟩
                replace HS := Lib.hid (keep4 hb1 HS.out (Nat.le_refl _))
                clear hb1 ka0 ka1 ka2 ka3 ka4 ka5 ka6 kb0 kb1 kb2 kb3 kb4 kb5 kb6 kc0 kc1 kc2 kc3 kc4 kc5 kc6 kd0 kd1 kd2 kd3 kd4 kd5 kd6 hg
                obtain ⟨ka0, ka1, ka2, ka3, ka4, ka5, ka6, kb0, kb1, kb2, kb3, kb4, kb5, kb6, kc0, kc1, kc2, kc3, kc4, kc5, kc6, kd0, kd1, kd2, kd3, kd4, kd5, kd6, hg⟩ := HS.out
                have hG := hg
                go_wp2_with fail
                go_at_call 8
                refine (HW.out _ hg).mono ?_
                rintro e W' ⟨rfl, hb1⟩
                replace hG := hG.trans (hb1.mono hG.size)
                clear hb1
                go_wp2
                go_ret
                exact ⟨rfl, hG⟩
              · have hE := HE.out rfl rfl
                go_wp2_with fail
                go_at_call 11
                refine (HI1.out _ hg).mono ?_
                rintro e W' ⟨rfl, hb1⟩
                replace HS := Lib.hid (keep4 hb1 HS.out (Nat.le_refl _))
                clear hb1 ka0 ka1 ka2 ka3 ka4 ka5 ka6 kb0 kb1 kb2 kb3 kb4 kb5 kb6 kc0 kc1 kc2 kc3 kc4 kc5 kc6 kd0 kd1 kd2 kd3 kd4 kd5 kd6 hg
                obtain ⟨ka0, ka1, ka2, ka3, ka4, ka5, ka6, kb0, kb1, kb2, kb3, kb4, kb5, kb6, kc0, kc1, kc2, kc3, kc4, kc5, kc6, kd0, kd1, kd2, kd3, kd4, kd5, kd6, hg⟩ := HS.out
                go_wp2_with fail
                go_at_call 11
                refine (HI7.out _ hg).mono ?_
                rintro e W' ⟨rfl, hb1⟩
                replace HS := Lib.hid (keep4 hb1 HS.out (Nat.le_refl _))
                clear hb1 ka0 ka1 ka2 ka3 ka4 ka5 ka6 kb0 kb1 kb2 kb3 kb4 kb5 kb6 kc0 kc1 kc2 kc3 kc4 kc5 kc6 kd0 kd1 kd2 kd3 kd4 kd5 kd6 hg
                obtain ⟨ka0, ka1, ka2, ka3, ka4, ka5, ka6, kb0, kb1, kb2, kb3, kb4, kb5, kb6, kc0, kc1, kc2, kc3, kc4, kc5, kc6, kd0, kd1, kd2, kd3, kd4, kd5, kd6, hg⟩ := HS.out
                have hG := hg
                go_wp2_with fail
                go_at_call 8
                refine (HW.out _ hg).mono ?_
                rintro e W' ⟨rfl, hb1⟩
                replace hG := hG.trans (hb1.mono hG.size)
                clear hb1
                go_wp2
                go_ret
                exact ⟨rfl, hG⟩
        · go_wp2_with fail
          go_at_call 12
          refine (HL.out _ hg).mono ?_
          rintro e W' (⟨hh, _⟩ | ⟨_, gl, cap, rfl, hcap, hcl, hgl, hb1⟩)
          · omega
          have HCL := Lib.hid hcl
          replace HS := Lib.hid (keep4 hb1 HS.out (Nat.le_refl _))
          clear hb1 hcl ka0 ka1 ka2 ka3 ka4 ka5 ka6 kb0 kb1 kb2 kb3 kb4 kb5 kb6 kc0 kc1 kc2 kc3 kc4 kc5 kc6 kd0 kd1 kd2 kd3 kd4 kd5 kd6 hg
          obtain ⟨ka0, ka1, ka2, ka3, ka4, ka5, ka6, kb0, kb1, kb2, kb3, kb4, kb5, kb6, kc0, kc1, kc2, kc3, kc4, kc5, kc6, kd0, kd1, kd2, kd3, kd4, kd5, kd6, hg⟩ := HS.out
          go_wp2_with fail
          go_at_call 13
          refine (HM3.out _ hg).mono ?_
          rintro e W2 ⟨rfl, hb2⟩
          have HB2 := Lib.hid hb2
          obtain ⟨ma0, ma1, ma2, ma3, ma4, ma5, ma6, mb0, mb1, mb2, mb3, mb4, mb5, mb6, mc0, mc1, mc2, mc3, mc4, mc5, mc6, md0, md1, md2, md3, md4, md5, md6, mg⟩ := (keep4 hb2 HS.out (Nat.le_refl _))
          go_wp2
          clear ka0 ka1 ka2 ka3 ka4 ka5 ka6 kb0 kb1 kb2 kb3 kb4 kb5 kb6 kc0 kc1 kc2 kc3 kc4 kc5 kc6 kd0 kd1 kd2 kd3 kd4 kd5 kd6 hg ma0 ma1 ma2 ma3 ma4 ma5 ma6 mb0 mb1 mb2 mb3 mb4 mb5 mb6 mc0 mc1 mc2 mc3 mc4 mc5 mc6 md0 md1 md2 md3 md4 md5 md6 mg
          go_loopw [12] (fun i W => ∃ x : Nat, x + 1 ≤ n ∧ i = .int .i64 ((x + 1 : Nat) : Int) ∧ Below W'.heap.size W' W) (fun i _ => n - (intOf i).toNat)
          case atStart => exact ⟨0, hn0, rfl, HB2.out⟩
          case round =>
            clear hb2 HB2
            obtain ⟨x, hx, rfl, hB⟩ := hrel
            have hz := hB.size
            have HB := Lib.hid hB
            have c0 := (hB.cell (p := ⟨gl, x, none⟩) hgl).trans (HCL.out x (by omega))
            by_cases hlt : x + 1 < n
            · have c1 := (hB.cell (p := ⟨gl, x + 1, none⟩) hgl).trans (HCL.out (x + 1) hlt)
              have hup := HUP.out x hlt
              generalize l + x * s = v0 at c0 hup
              generalize l + (x + 1) * s = v1 at c1 hup
              have hq : decide (v1 ≤ v0) = false := by simp; omega
              clear hB
              go_wp2
              go_quiet (fail)
              go_wp2
              go_roundw
              case rel => exact ⟨x + 1, by omega, by go_num, HB.out.trans ⟨rfl, rfl, rfl, Nat.le_refl _, fun _ _ => rfl⟩⟩
              case measure => simp [intOf]; omega
            · have HS2 := Lib.hid (keep4 HB.out HS.out (Nat.le_refl _))
              clear HS c0 HB hB
              have HS := Lib.hid HS2.out
              clear HS2
              obtain ⟨ka0, ka1, ka2, ka3, ka4, ka5, ka6, kb0, kb1, kb2, kb3, kb4, kb5, kb6, kc0, kc1, kc2, kc3, kc4, kc5, kc6, kd0, kd1, kd2, kd3, kd4, kd5, kd6, hg⟩ := HS.out
              cases haB : aB n
              · rw [haB] at HI1 HE
                clear haB
                go_wp2_with fail
                go_at_call 11
                refine (HI1.out _ hg).mono ?_
                rintro e W' ⟨rfl, hb1⟩
                replace HS := Lib.hid (keep4 hb1 HS.out (Nat.le_refl _))
                clear hb1 ka0 ka1 ka2 ka3 ka4 ka5 ka6 kb0 kb1 kb2 kb3 kb4 kb5 kb6 kc0 kc1 kc2 kc3 kc4 kc5 kc6 kd0 kd1 kd2 kd3 kd4 kd5 kd6 hg
                obtain ⟨ka0, ka1, ka2, ka3, ka4, ka5, ka6, kb0, kb1, kb2, kb3, kb4, kb5, kb6, kc0, kc1, kc2, kc3, kc4, kc5, kc6, kd0, kd1, kd2, kd3, kd4, kd5, kd6, hg⟩ := HS.out
                have hG := hg
                go_wp2_with fail
                go_at_call 8
                refine (HW.out _ hg).mono ?_
                rintro e W' ⟨rfl, hb1⟩
                replace hG := hG.trans (hb1.mono hG.size)
                clear hb1
                go_wp2
                go_ret
                exact ⟨rfl, hG⟩
              · rw [haB] at HI1 HE
                clear haB
                cases V
                · go_wp2_with fail
                  go_at_call 11
                  refine (HI1.out _ hg).mono ?_
                  rintro e W' ⟨rfl, hb1⟩
                  replace HS := Lib.hid (keep4 hb1 HS.out (Nat.le_refl _))
                  clear hb1 ka0 ka1 ka2 ka3 ka4 ka5 ka6 kb0 kb1 kb2 kb3 kb4 kb5 kb6 kc0 kc1 kc2 kc3 kc4 kc5 kc6 kd0 kd1 kd2 kd3 kd4 kd5 kd6 hg
                  obtain ⟨ka0, ka1, ka2, ka3, ka4, ka5, ka6, kb0, kb1, kb2, kb3, kb4, kb5, kb6, kc0, kc1, kc2, kc3, kc4, kc5, kc6, kd0, kd1, kd2, kd3, kd4, kd5, kd6, hg⟩ := HS.out
                  go_wp2_with fail
                  go_at_call 11
                  refine (HI7.out _ hg).mono ?_
                  rintro e W' ⟨rfl, hb1⟩
                  replace HS := Lib.hid (keep4 hb1 HS.out (Nat.le_refl _))
                  clear hb1 ka0 ka1 ka2 ka3 ka4 ka5 ka6 kb0 kb1 kb2 kb3 kb4 kb5 kb6 kc0 kc1 kc2 kc3 kc4 kc5 kc6 kd0 kd1 kd2 kd3 kd4 kd5 kd6 hg
                  obtain ⟨ka0, ka1, ka2, ka3, ka4, ka5, ka6, kb0, kb1, kb2, kb3, kb4, kb5, kb6, kc0, kc1, kc2, kc3, kc4, kc5, kc6, kd0, kd1, kd2, kd3, kd4, kd5, kd6, hg⟩ := HS.out
                  have hG := hg
                  go_wp2_with fail
                  go_at_call 8
                  refine (HW.out _ hg).mono ?_
                  rintro e W' ⟨rfl, hb1⟩
                  replace hG := hG.trans (hb1.mono hG.size)
                  clear hb1
                  go_wp2
                  go_ret
                  exact ⟨rfl, hG⟩
                · have hE := HE.out rfl rfl
                  go_wp2_with fail
                  go_at_call 11
                  refine (HI1.out _ hg).mono ?_
                  rintro e W' ⟨rfl, hb1⟩
                  replace HS := Lib.hid (keep4 hb1 HS.out (Nat.le_refl _))
                  clear hb1 ka0 ka1 ka2 ka3 ka4 ka5 ka6 kb0 kb1 kb2 kb3 kb4 kb5 kb6 kc0 kc1 kc2 kc3 kc4 kc5 kc6 kd0 kd1 kd2 kd3 kd4 kd5 kd6 hg
                  obtain ⟨ka0, ka1, ka2, ka3, ka4, ka5, ka6, kb0, kb1, kb2, kb3, kb4, kb5, kb6, kc0, kc1, kc2, kc3, kc4, kc5, kc6, kd0, kd1, kd2, kd3, kd4, kd5, kd6, hg⟩ := HS.out
                  go_wp2_with fail
                  go_at_call 11
                  refine (HI7.out _ hg).mono ?_
                  rintro e W' ⟨rfl, hb1⟩
                  replace HS := Lib.hid (keep4 hb1 HS.out (Nat.le_refl _))
                  clear hb1 ka0 ka1 ka2 ka3 ka4 ka5 ka6 kb0 kb1 kb2 kb3 kb4 kb5 kb6 kc0 kc1 kc2 kc3 kc4 kc5 kc6 kd0 kd1 kd2 kd3 kd4 kd5 kd6 hg
                  obtain ⟨ka0, ka1, ka2, ka3, ka4, ka5, ka6, kb0, kb1, kb2, kb3, kb4, kb5, kb6, kc0, kc1, kc2, kc3, kc4, kc5, kc6, kd0, kd1, kd2, kd3, kd4, kd5, kd6, hg⟩ := HS.out
                  have hG := hg
                  go_wp2_with fail
                  go_at_call 8
                  refine (HW.out _ hg).mono ?_
                  rintro e W' ⟨rfl, hb1⟩
                  replace hG := hG.trans (hb1.mono hG.size)
                  clear hb1
                  go_wp2
                  go_ret
                  exact ⟨rfl, hG⟩
end Go.Proofs.YtmlgaaolofgdiaaDoor
