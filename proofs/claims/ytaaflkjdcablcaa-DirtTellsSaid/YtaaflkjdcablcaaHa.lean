/- DirtHas' long walk. -/
import Derived.Test.YtaaflkjdcablcaaZ
namespace Go.Proofs.Ytaaflkjdcablcaa
open Go.RowKit Go.Shelf
set_option linter.unusedVariables false
set_option linter.unusedSimpArgs false
attribute [local go_sem] Oper.semAt_some
theorem r26b (W : World) (a : Option Addr) (k cap : Nat) (ns : List Rg) (x : Nat) (t : Bool) (ht : hasL ns x = t) (hk : ns.length = k) (hk2 : k ≤ 1000000) (h : RD W a ns) : Calls Try.prog 26 #[.slice a k cap, .int .u64 (x : Nat)] W fun e w' => e = .returned (.bool t) ∧ Below W.heap.size W w' :=
  (r26 W a k cap ns x t ht hk hk2 h).mono fun e w' h => ⟨h.1, by rw [h.2]; exact Below.refl _ _⟩
theorem meets_hit {zs : List Rg} {lo hi x : Nat} (h : hasL zs x = true) (h1 : decide (lo ≤ x) = true) (h2 : decide (x ≤ hi) = true) : meetsL zs lo hi = true := by
  have h1 := of_decide_eq_true h1
  have h2 := of_decide_eq_true h2
  unfold hasL at h
  unfold meetsL
  rw [List.any_eq_true] at h
  obtain ⟨r, hr, hx⟩ := h
  rw [Bool.and_eq_true, List.any_eq_true]
  refine ⟨decide_eq_true (by omega), r, hr, ?_⟩
  unfold inR at hx
  unfold meetP
  simp only [Bool.and_eq_true, decide_eq_true_eq] at hx ⊢
  omega
/-- A row that a call told: what it has at x. -/
def GR (W : World) (a : Option Addr) (k : Nat) (ns : List Rg) (x : Nat) (t : Bool) : Prop := ns.length = k ∧ RD W a ns ∧ k ≤ 1000000 ∧ OkL ns ∧ rightL ns = true ∧ hasL ns x = t
theorem GR.keep {W W' : World} {a : Option Addr} {k : Nat} {ns : List Rg} {x : Nat} {t : Bool} (h : GR W a k ns x t) (hb : Below W.heap.size W W') : GR W' a k ns x t := ⟨h.1, h.2.1.keep hb, h.2.2⟩
theorem row_gr {w w' : World} {x : Nat} {t : Bool} {e : Ending} (h : RowIs w (fun ns => hasL ns x = t) e w') : ∃ a k cap ns, e = .returned (.slice a k cap) ∧ GR w' a k ns x t ∧ Below w.heap.size w w' := by
  obtain ⟨a, k, cap, ns, h0, h1, h2, h3, h4, h5, h6, h7⟩ := row_rd h
  exact ⟨a, k, cap, ns, h0, ⟨h1, h2, h3, h4, h5, h6⟩, h7⟩
set_option maxRecDepth 100000 in
set_option maxHeartbeats 8000000 in
theorem has_small (a : Option Addr) (n cap : Nat) (zs : List Rg) (hz : OkL zs) (hzn : zs.length = n) (hn : n ≤ 60) (hc : a = none → cap = 0) (a2 : Option Addr) (n2 cap2 : Nat) (z2 : List Rg) (hz2 : OkL z2) (hzn2 : z2.length = n2) (hn2 : n2 ≤ 60) (hc2 : a2 = none → cap2 = 0) (lo hi x : Nat) (hlu : U lo) (hhu : U hi) (w : World) (hR : RD w a zs) (hR2 : RD w a2 z2) :
    Calls Try.prog 4 #[.slice a n cap, .slice a2 n2 cap2, .agg #[.int .u64 (lo : Nat), .int .u64 (hi : Nat)], .int .u64 (x : Nat)] w fun e w' => e = .returned (.bool true) ∧ Below w.heap.size w w' := by
  have hb0 := (Below.refl w.heap.size w).alloc (Nat.le_refl _) (.cells #[.int .u64 (lo : Nat), .int .u64 (hi : Nat)] 25)
  have HS := Lib.hid (show LW w a a2 zs z2 w.heap.size lo hi _ from ⟨hR.keep hb0, hR2.keep hb0, RB.new w lo hi, hb0⟩)
  have HP := Lib.hid (And.intro (And.intro hz hz2) (And.intro (And.intro hzn hzn2) (And.intro (And.intro hc hc2) (And.intro hlu hhu))))
  clear hb0 hz hz2 hzn hzn2 hc hc2 hlu hhu hR hR2
  obtain ⟨t, ht⟩ : ∃ t, hasL zs x = t := ⟨_, rfl⟩
  obtain ⟨t2, ht2⟩ : ∃ t2, hasL z2 x = t2 := ⟨_, rfl⟩
  obtain ⟨p, hp⟩ : ∃ p, decide (lo ≤ x) = p := ⟨_, rfl⟩
  obtain ⟨q, hq⟩ : ∃ q, decide (x ≤ hi) = q := ⟨_, rfl⟩
  have HT := Lib.hid (And.intro ht ht2)
  have HQ := Lib.hid (And.intro hp hq)
  clear ht ht2
  generalize hB : w.heap.size = B at HS ⊢
  go_enter Try.func4, Try.ntmps4
  go_upto_region 1 with fail
  generalize World.alloc w _ = W1 at HS ⊢
  have hn3 := hn
  have hn4 := hn2
  go_upto_region 3 with fail
  refine wp_region_noPanic ?_
  refine wp_region_held_drew (S := fun W : World => LW w a a2 zs z2 B lo hi W) (by kernel_rfl) ?_ (fun hHeld => ?_)
  · exact HS.out.drew
  generalize World.drew _ = W2 at hHeld ⊢
  refine wpAnyH_take (i := 0) (v := ?_) rfl (by kernel_rfl) (by kernel_rfl) (by kernel_rfl) (fun _ _ _ h => h) (Or.inl ⟨by kernel_rfl, ?_⟩) (by assumption) ?_
  rotate_left
  · intro wv hSw
    go_simp
    try with_reducible rfl
  simp only [Act.put, List.setIfInBounds_toArray, List.set_cons_zero, List.set_cons_succ, List.getElem_toArray, List.getElem_cons_succ, List.getElem_cons_zero]
  refine wpAnyH_take (i := 1) (v := ?_) rfl (by kernel_rfl) (by kernel_rfl) (by kernel_rfl) (fun _ _ _ h => h) (Or.inl ⟨by kernel_rfl, ?_⟩) (by assumption) ?_
  rotate_left
  · intro wv hSw
    go_simp
    try with_reducible rfl
  simp only [Act.put, List.setIfInBounds_toArray, List.set_cons_zero, List.set_cons_succ, List.getElem_toArray, List.getElem_cons_succ, List.getElem_cons_zero]
  refine wpAnyH_take (i := 3) (v := ?_) rfl (by kernel_rfl) (by kernel_rfl) (by kernel_rfl) (fun _ _ _ h => h) (Or.inl ⟨by kernel_rfl, ?_⟩) (by assumption) ?_
  rotate_left
  · intro wv hSw
    go_simp
    try with_reducible rfl
  simp only [Act.put, List.setIfInBounds_toArray, List.set_cons_zero, List.set_cons_succ, List.getElem_toArray, List.getElem_cons_succ, List.getElem_cons_zero]
  refine wpAnyH_take (i := 4) (v := ?_) rfl (by kernel_rfl) (by kernel_rfl) (by kernel_rfl) (fun _ _ _ h => h) (Or.inl ⟨by kernel_rfl, ?_⟩) (by assumption) ?_
  rotate_left
  · intro wv hSw
    go_simp
    try with_reducible rfl
  simp only [Act.put, List.setIfInBounds_toArray, List.set_cons_zero, List.set_cons_succ, List.getElem_toArray, List.getElem_cons_succ, List.getElem_cons_zero]
  refine wpAnyH_take (i := 6) (v := ?_) rfl (by kernel_rfl) (by kernel_rfl) (by kernel_rfl) (fun _ _ _ h => h) (Or.inl ⟨by kernel_rfl, ?_⟩) (by assumption) ?_
  rotate_left
  · intro wv hSw
    go_simp
    try with_reducible rfl
  simp only [Act.put, List.setIfInBounds_toArray, List.set_cons_zero, List.set_cons_succ, List.getElem_toArray, List.getElem_cons_succ, List.getElem_cons_zero]
  refine wpAnyH_take (i := 7) (v := ?_) rfl (by kernel_rfl) (by kernel_rfl) (by kernel_rfl) (fun _ _ _ h => h) (Or.inl ⟨by kernel_rfl, ?_⟩) (by assumption) ?_
  rotate_left
  · intro wv hSw
    obtain ⟨c0, c1⟩ := hSw.2.2.1.c
    go_simp
    try with_reducible rfl
  simp only [Act.put, List.setIfInBounds_toArray, List.set_cons_zero, List.set_cons_succ, List.getElem_toArray, List.getElem_cons_succ, List.getElem_cons_zero]
  refine wpAnyH_take (i := 8) (v := ?_) rfl (by kernel_rfl) (by kernel_rfl) (by kernel_rfl) (fun _ _ _ h => h) (Or.inl ⟨by kernel_rfl, ?_⟩) (by assumption) ?_
  rotate_left
  · intro wv hSw
    go_simp
    try with_reducible rfl
  simp only [Act.put, List.setIfInBounds_toArray, List.set_cons_zero, List.set_cons_succ, List.getElem_toArray, List.getElem_cons_succ, List.getElem_cons_zero]
  refine wpAnyH_take (i := 9) (v := ?_) rfl (by kernel_rfl) (by kernel_rfl) (by kernel_rfl) (fun _ _ _ h => h) (Or.inl ⟨by kernel_rfl, ?_⟩) (by assumption) ?_
  rotate_left
  · intro wv hSw
    go_simp
    try with_reducible rfl
  simp only [Act.put, List.setIfInBounds_toArray, List.set_cons_zero, List.set_cons_succ, List.getElem_toArray, List.getElem_cons_succ, List.getElem_cons_zero]
  refine wpAnyH_ready (rs := [2]) (by kernel_rfl) (by simp) ?_
  refine AllReadyH.cons rfl (fun K hK => ?_) AllReadyH.nil
  go_simp
  go_at_call 26
  refine (r26b _ _ _ _ zs x t HT.out.1 HP.out.2.1.1 (by omega) hHeld.1).mono ?_
  first | (rintro e W9x rfl hb) | (rintro e W9x ⟨rfl, hb⟩)
  refine hK.out _ _ (hHeld.keep hb) (fun hHeld2 => ?_)
  clear hK K hHeld hb
  have hHeld := hHeld2
  clear hHeld2
  try simp only [Act.put, List.setIfInBounds_toArray, List.set_cons_zero, List.set_cons_succ, List.getElem_toArray, List.getElem_cons_succ, List.getElem_cons_zero]
  refine wpAnyH_ready (rs := [5]) (by kernel_rfl) (by simp) ?_
  refine AllReadyH.cons rfl (fun K hK => ?_) AllReadyH.nil
  go_simp
  go_at_call 26
  refine (r26b _ _ _ _ z2 x t2 HT.out.2 HP.out.2.1.2 (by omega) hHeld.2.1).mono ?_
  first | (rintro e W9x rfl hb) | (rintro e W9x ⟨rfl, hb⟩)
  refine hK.out _ _ (hHeld.keep hb) (fun hHeld2 => ?_)
  clear hK K hHeld hb
  have hHeld := hHeld2
  clear hHeld2
  try simp only [Act.put, List.setIfInBounds_toArray, List.set_cons_zero, List.set_cons_succ, List.getElem_toArray, List.getElem_cons_succ, List.getElem_cons_zero]
  cases p
  · refine wpAnyH_take (i := 10) (v := ?_) rfl (by kernel_rfl) (by kernel_rfl) (by kernel_rfl) (fun _ _ _ h => h) (Or.inl ⟨by kernel_rfl, ?_⟩) (by assumption) ?_
    rotate_left
    · intro wv hSw
      go_simp
      try with_reducible rfl
    simp only [Act.put, List.setIfInBounds_toArray, List.set_cons_zero, List.set_cons_succ, List.getElem_toArray, List.getElem_cons_succ, List.getElem_cons_zero]
    refine wpAnyH_take (i := 11) (v := undef) rfl (by kernel_rfl) (by kernel_rfl) (by kernel_rfl) (fun _ _ _ h => h) (Or.inr ⟨by kernel_rfl, rfl⟩) (by assumption) ?_
    simp only [Act.put, List.setIfInBounds_toArray, List.set_cons_zero, List.set_cons_succ, List.getElem_toArray, List.getElem_cons_succ, List.getElem_cons_zero]
    refine wpAnyH_take (i := 12) (v := undef) rfl (by kernel_rfl) (by kernel_rfl) (by kernel_rfl) (fun _ _ _ h => h) (Or.inr ⟨by kernel_rfl, rfl⟩) (by assumption) ?_
    simp only [Act.put, List.setIfInBounds_toArray, List.set_cons_zero, List.set_cons_succ, List.getElem_toArray, List.getElem_cons_succ, List.getElem_cons_zero]
    refine wpAnyH_take (i := 13) (v := undef) rfl (by kernel_rfl) (by kernel_rfl) (by kernel_rfl) (fun _ _ _ h => h) (Or.inr ⟨by kernel_rfl, rfl⟩) (by assumption) ?_
    simp only [Act.put, List.setIfInBounds_toArray, List.set_cons_zero, List.set_cons_succ, List.getElem_toArray, List.getElem_cons_succ, List.getElem_cons_zero]
    refine wpAnyH_take (i := 14) (v := undef) rfl (by kernel_rfl) (by kernel_rfl) (by kernel_rfl) (fun _ _ _ h => h) (Or.inr ⟨by kernel_rfl, rfl⟩) (by assumption) ?_
    simp only [Act.put, List.setIfInBounds_toArray, List.set_cons_zero, List.set_cons_succ, List.getElem_toArray, List.getElem_cons_succ, List.getElem_cons_zero]
    refine wpAnyH_take (i := 15) (v := ?_) rfl (by kernel_rfl) (by kernel_rfl) (by kernel_rfl) (fun _ _ _ h => h) (Or.inl ⟨by kernel_rfl, ?_⟩) (by assumption) ?_
    rotate_left
    · intro wv hSw
      go_simp
      try with_reducible rfl
    simp only [Act.put, List.setIfInBounds_toArray, List.set_cons_zero, List.set_cons_succ, List.getElem_toArray, List.getElem_cons_succ, List.getElem_cons_zero]
    refine wpAnyH_take (i := 16) (v := ?_) rfl (by kernel_rfl) (by kernel_rfl) (by kernel_rfl) (fun _ _ _ h => h) (Or.inl ⟨by kernel_rfl, ?_⟩) (by assumption) ?_
    rotate_left
    · intro wv hSw
      go_simp
      try with_reducible rfl
    simp only [Act.put, List.setIfInBounds_toArray, List.set_cons_zero, List.set_cons_succ, List.getElem_toArray, List.getElem_cons_succ, List.getElem_cons_zero]
    refine wpAnyH_take (i := 17) (v := ?_) rfl (by kernel_rfl) (by kernel_rfl) (by kernel_rfl) (fun _ _ _ h => h) (Or.inl ⟨by kernel_rfl, ?_⟩) (by assumption) ?_
    rotate_left
    · intro wv hSw
      go_simp
      try with_reducible rfl
    simp only [Act.put, List.setIfInBounds_toArray, List.set_cons_zero, List.set_cons_succ, List.getElem_toArray, List.getElem_cons_succ, List.getElem_cons_zero]
    refine wpAnyH_take (i := 18) (v := ?_) rfl (by kernel_rfl) (by kernel_rfl) (by kernel_rfl) (fun _ _ _ h => h) (Or.inl ⟨by kernel_rfl, ?_⟩) (by assumption) ?_
    rotate_left
    · intro wv hSw
      go_simp
      try with_reducible rfl
    simp only [Act.put, List.setIfInBounds_toArray, List.set_cons_zero, List.set_cons_succ, List.getElem_toArray, List.getElem_cons_succ, List.getElem_cons_zero]
    refine wpAnyH_done (by kernel_rfl) ?_ _
    refine NoPanic.normal ?_
    have HS4 := Lib.hid hHeld
    clear hHeld HS
    go_upto_region 4 with fail
    refine wp_region_noPanic ?_
    refine wp_region_held_drew (S := fun W : World => LW w a a2 zs z2 B lo hi W) (by kernel_rfl) ?_ (fun hHeld => ?_)
    · exact HS4.out.drew
    clear HS4
    generalize World.drew _ = W5 at hHeld ⊢
    refine wpAnyH_take (i := 0) (v := ?_) rfl (by kernel_rfl) (by kernel_rfl) (by kernel_rfl) (fun _ _ _ h => h) (Or.inl ⟨by kernel_rfl, ?_⟩) (by assumption) ?_
    rotate_left
    · intro wv hSw
      go_simp
      try with_reducible rfl
    simp only [Act.put, List.setIfInBounds_toArray, List.set_cons_zero, List.set_cons_succ, List.getElem_toArray, List.getElem_cons_succ, List.getElem_cons_zero]
    refine wpAnyH_take (i := 2) (v := ?_) rfl (by kernel_rfl) (by kernel_rfl) (by kernel_rfl) (fun _ _ _ h => h) (Or.inl ⟨by kernel_rfl, ?_⟩) (by assumption) ?_
    rotate_left
    · intro wv hSw
      go_simp
      try with_reducible rfl
    simp only [Act.put, List.setIfInBounds_toArray, List.set_cons_zero, List.set_cons_succ, List.getElem_toArray, List.getElem_cons_succ, List.getElem_cons_zero]
    refine wpAnyH_take (i := 3) (v := ?_) rfl (by kernel_rfl) (by kernel_rfl) (by kernel_rfl) (fun _ _ _ h => h) (Or.inl ⟨by kernel_rfl, ?_⟩) (by assumption) ?_
    rotate_left
    · intro wv hSw
      go_simp
      try with_reducible rfl
    simp only [Act.put, List.setIfInBounds_toArray, List.set_cons_zero, List.set_cons_succ, List.getElem_toArray, List.getElem_cons_succ, List.getElem_cons_zero]
    refine wpAnyH_take (i := 5) (v := ?_) rfl (by kernel_rfl) (by kernel_rfl) (by kernel_rfl) (fun _ _ _ h => h) (Or.inl ⟨by kernel_rfl, ?_⟩) (by assumption) ?_
    rotate_left
    · intro wv hSw
      go_simp
      try with_reducible rfl
    simp only [Act.put, List.setIfInBounds_toArray, List.set_cons_zero, List.set_cons_succ, List.getElem_toArray, List.getElem_cons_succ, List.getElem_cons_zero]
    refine wpAnyH_take (i := 6) (v := ?_) rfl (by kernel_rfl) (by kernel_rfl) (by kernel_rfl) (fun _ _ _ h => h) (Or.inl ⟨by kernel_rfl, ?_⟩) (by assumption) ?_
    rotate_left
    · intro wv hSw
      go_simp
      try with_reducible rfl
    simp only [Act.put, List.setIfInBounds_toArray, List.set_cons_zero, List.set_cons_succ, List.getElem_toArray, List.getElem_cons_succ, List.getElem_cons_zero]
    refine wpAnyH_take (i := 8) (v := ?_) rfl (by kernel_rfl) (by kernel_rfl) (by kernel_rfl) (fun _ _ _ h => h) (Or.inl ⟨by kernel_rfl, ?_⟩) (by assumption) ?_
    rotate_left
    · intro wv hSw
      go_simp
      try with_reducible rfl
    simp only [Act.put, List.setIfInBounds_toArray, List.set_cons_zero, List.set_cons_succ, List.getElem_toArray, List.getElem_cons_succ, List.getElem_cons_zero]
    refine wpAnyH_take (i := 9) (v := ?_) rfl (by kernel_rfl) (by kernel_rfl) (by kernel_rfl) (fun _ _ _ h => h) (Or.inl ⟨by kernel_rfl, ?_⟩) (by assumption) ?_
    rotate_left
    · intro wv hSw
      obtain ⟨c0, c1⟩ := hSw.2.2.1.c
      go_simp
      try with_reducible rfl
    simp only [Act.put, List.setIfInBounds_toArray, List.set_cons_zero, List.set_cons_succ, List.getElem_toArray, List.getElem_cons_succ, List.getElem_cons_zero]
    refine wpAnyH_ready (rs := [1]) (by kernel_rfl) (by simp) ?_
    refine AllReadyH.cons rfl (fun K hK => ?_) AllReadyH.nil
    go_simp
    go_at_call 11
    refine (r11 _ _ _ _ zs x t HT.out.1 HP.out.2.1.1 hn HP.out.1.1 hHeld.1).mono ?_
    intro e W9x hrow
    obtain ⟨a3, k3, cap3, ns3, rfl, hg, hb⟩ := row_gr hrow
    clear hrow
    have G3 := Lib.hid hg
    clear hg
    refine hK.out _ _ (hHeld.keep hb) (fun hHeld2 => ?_)
    clear hK K hHeld hb
    have hHeld := hHeld2
    clear hHeld2
    try simp only [Act.put, List.setIfInBounds_toArray, List.set_cons_zero, List.set_cons_succ, List.getElem_toArray, List.getElem_cons_succ, List.getElem_cons_zero]
    refine wpAnyH_ready (rs := [4]) (by kernel_rfl) (by simp) ?_
    refine AllReadyH.cons rfl (fun K hK => ?_) AllReadyH.nil
    go_simp
    go_at_call 13
    refine (r13 13 (Or.inl rfl) _ _ _ _ zs _ _ _ z2 x t t2 HT.out.1 HT.out.2 HP.out.2.1.1 hn HP.out.1.1 hHeld.1 HP.out.2.2.1.1 HP.out.2.1.2 hn2 HP.out.1.2 hHeld.2.1 HP.out.2.2.1.2).mono ?_
    intro e W9x hrow
    obtain ⟨a4, k4, cap4, ns4, rfl, hg, hb⟩ := row_gr hrow
    clear hrow
    have G4 := Lib.hid hg
    clear hg
    replace G3 := Lib.hid (G3.out.keep hb)
    refine hK.out _ _ (hHeld.keep hb) (fun hHeld2 => ?_)
    clear hK K hHeld hb
    have hHeld := hHeld2
    clear hHeld2
    try simp only [Act.put, List.setIfInBounds_toArray, List.set_cons_zero, List.set_cons_succ, List.getElem_toArray, List.getElem_cons_succ, List.getElem_cons_zero]
    refine wpAnyH_ready (rs := [7]) (by kernel_rfl) (by simp) ?_
    refine AllReadyH.cons rfl (fun K hK => ?_) AllReadyH.nil
    go_simp
    go_at_call 17
    refine (r13 17 (Or.inr rfl) _ _ _ _ zs _ _ _ z2 x t t2 HT.out.1 HT.out.2 HP.out.2.1.1 hn HP.out.1.1 hHeld.1 HP.out.2.2.1.1 HP.out.2.1.2 hn2 HP.out.1.2 hHeld.2.1 HP.out.2.2.1.2).mono ?_
    intro e W9x hrow
    obtain ⟨a5, k5, cap5, ns5, rfl, hg, hb⟩ := row_gr hrow
    clear hrow
    have G5 := Lib.hid hg
    clear hg
    replace G3 := Lib.hid (G3.out.keep hb)
    replace G4 := Lib.hid (G4.out.keep hb)
    refine hK.out _ _ (hHeld.keep hb) (fun hHeld2 => ?_)
    clear hK K hHeld hb
    have hHeld := hHeld2
    clear hHeld2
    try simp only [Act.put, List.setIfInBounds_toArray, List.set_cons_zero, List.set_cons_succ, List.getElem_toArray, List.getElem_cons_succ, List.getElem_cons_zero]
    refine wpAnyH_ready (rs := [10]) (by kernel_rfl) (by simp) ?_
    refine AllReadyH.cons rfl (fun K hK => ?_) AllReadyH.nil
    go_simp
    go_at_call 15
    refine (r15 _ _ _ _ zs x t lo hi HP.out.2.2.2.1 HP.out.2.2.2.2 _ (by rw [HQ.out.1, HQ.out.2]) HT.out.1 HP.out.2.1.1 hn HP.out.1.1 hHeld.1).mono ?_
    intro e W9x hrow
    obtain ⟨a6, k6, cap6, ns6, rfl, hg, hb⟩ := row_gr hrow
    clear hrow
    have G6 := Lib.hid hg
    clear hg
    replace G3 := Lib.hid (G3.out.keep hb)
    replace G4 := Lib.hid (G4.out.keep hb)
    replace G5 := Lib.hid (G5.out.keep hb)
    refine hK.out _ _ (hHeld.keep hb) (fun hHeld2 => ?_)
    clear hK K hHeld hb
    have hHeld := hHeld2
    clear hHeld2
    try simp only [Act.put, List.setIfInBounds_toArray, List.set_cons_zero, List.set_cons_succ, List.getElem_toArray, List.getElem_cons_succ, List.getElem_cons_zero]
    refine wpAnyH_take (i := 11) (v := ?_) rfl (by kernel_rfl) (by kernel_rfl) (by kernel_rfl) (fun _ _ _ h => h) (Or.inl ⟨by kernel_rfl, ?_⟩) (by assumption) ?_
    rotate_left
    · intro wv hSw
      go_simp
      try with_reducible rfl
    simp only [Act.put, List.setIfInBounds_toArray, List.set_cons_zero, List.set_cons_succ, List.getElem_toArray, List.getElem_cons_succ, List.getElem_cons_zero]
    refine wpAnyH_take (i := 12) (v := ?_) rfl (by kernel_rfl) (by kernel_rfl) (by kernel_rfl) (fun _ _ _ h => h) (Or.inl ⟨by kernel_rfl, ?_⟩) (by assumption) ?_
    rotate_left
    · intro wv hSw
      go_simp
      try with_reducible rfl
    simp only [Act.put, List.setIfInBounds_toArray, List.set_cons_zero, List.set_cons_succ, List.getElem_toArray, List.getElem_cons_succ, List.getElem_cons_zero]
    refine wpAnyH_take (i := 13) (v := ?_) rfl (by kernel_rfl) (by kernel_rfl) (by kernel_rfl) (fun _ _ _ h => h) (Or.inl ⟨by kernel_rfl, ?_⟩) (by assumption) ?_
    rotate_left
    · intro wv hSw
      go_simp
      try with_reducible rfl
    simp only [Act.put, List.setIfInBounds_toArray, List.set_cons_zero, List.set_cons_succ, List.getElem_toArray, List.getElem_cons_succ, List.getElem_cons_zero]
    refine wpAnyH_take (i := 14) (v := ?_) rfl (by kernel_rfl) (by kernel_rfl) (by kernel_rfl) (fun _ _ _ h => h) (Or.inl ⟨by kernel_rfl, ?_⟩) (by assumption) ?_
    rotate_left
    · intro wv hSw
      go_simp
      try with_reducible rfl
    simp only [Act.put, List.setIfInBounds_toArray, List.set_cons_zero, List.set_cons_succ, List.getElem_toArray, List.getElem_cons_succ, List.getElem_cons_zero]
    refine wpAnyH_done (by kernel_rfl) ?_ _
    refine NoPanic.normal ?_
    have HS5 := Lib.hid hHeld
    clear hHeld
    go_wp2_with (first | (go_at_call 8; refine (r8 _ _ _ _ ns3 G3.out.1 G3.out.2.2.1 G3.out.2.2.2.1 G3.out.2.2.2.2.1 G3.out.2.1).mono ?_) | fail)
    first | (rintro e W9y rfl hb) | (rintro e W9y ⟨rfl, hb⟩)
    replace HS5 := Lib.hid (HS5.out.keep hb)
    replace G3 := Lib.hid (G3.out.keep hb)
    replace G4 := Lib.hid (G4.out.keep hb)
    replace G5 := Lib.hid (G5.out.keep hb)
    replace G6 := Lib.hid (G6.out.keep hb)
    clear hb
    go_wp2_with (first | (go_at_call 8; refine (r8 _ _ _ _ ns4 G4.out.1 G4.out.2.2.1 G4.out.2.2.2.1 G4.out.2.2.2.2.1 G4.out.2.1).mono ?_) | fail)
    first | (rintro e W9y rfl hb) | (rintro e W9y ⟨rfl, hb⟩)
    replace HS5 := Lib.hid (HS5.out.keep hb)
    replace G3 := Lib.hid (G3.out.keep hb)
    replace G4 := Lib.hid (G4.out.keep hb)
    replace G5 := Lib.hid (G5.out.keep hb)
    replace G6 := Lib.hid (G6.out.keep hb)
    clear hb
    go_wp2_with (first | (go_at_call 8; refine (r8 _ _ _ _ ns5 G5.out.1 G5.out.2.2.1 G5.out.2.2.2.1 G5.out.2.2.2.2.1 G5.out.2.1).mono ?_) | fail)
    first | (rintro e W9y rfl hb) | (rintro e W9y ⟨rfl, hb⟩)
    replace HS5 := Lib.hid (HS5.out.keep hb)
    replace G3 := Lib.hid (G3.out.keep hb)
    replace G4 := Lib.hid (G4.out.keep hb)
    replace G5 := Lib.hid (G5.out.keep hb)
    replace G6 := Lib.hid (G6.out.keep hb)
    clear hb
    go_wp2_with (first | (go_at_call 8; refine (r8 _ _ _ _ ns6 G6.out.1 G6.out.2.2.1 G6.out.2.2.2.1 G6.out.2.2.2.2.1 G6.out.2.1).mono ?_) | fail)
    first | (rintro e W9y rfl hb) | (rintro e W9y ⟨rfl, hb⟩)
    replace HS5 := Lib.hid (HS5.out.keep hb)
    replace G3 := Lib.hid (G3.out.keep hb)
    replace G4 := Lib.hid (G4.out.keep hb)
    replace G5 := Lib.hid (G5.out.keep hb)
    replace G6 := Lib.hid (G6.out.keep hb)
    clear hb
    go_wp2_with (first | (go_at_call 23; refine (r23 _ _ _ _ zs x t HT.out.1 HP.out.2.1.1 (by omega) HS5.out.1).mono ?_) | fail)
    first | (rintro e W9y rfl hb) | (rintro e W9y ⟨rfl, hb⟩)
    replace HS5 := Lib.hid (HS5.out.keep hb)
    replace G3 := Lib.hid (G3.out.keep hb)
    replace G4 := Lib.hid (G4.out.keep hb)
    replace G5 := Lib.hid (G5.out.keep hb)
    replace G6 := Lib.hid (G6.out.keep hb)
    clear hb
    go_upto_region 7 with fail
    cases t
    · cases t2
      · cases q
        · go_wp2_with (first | (go_at_call 26; refine (r26b _ _ _ _ ns3 x false G3.out.2.2.2.2.2 G3.out.1 G3.out.2.2.1 G3.out.2.1).mono ?_) | fail)
          first | (rintro e W9y rfl hb) | (rintro e W9y ⟨rfl, hb⟩)
          replace HS5 := Lib.hid (HS5.out.keep hb)
          replace G3 := Lib.hid (G3.out.keep hb)
          replace G4 := Lib.hid (G4.out.keep hb)
          replace G5 := Lib.hid (G5.out.keep hb)
          replace G6 := Lib.hid (G6.out.keep hb)
          clear hb
          go_wp2_with (first | (go_at_call 26; refine (r26b _ _ _ _ ns4 x false G4.out.2.2.2.2.2 G4.out.1 G4.out.2.2.1 G4.out.2.1).mono ?_) | fail)
          first | (rintro e W9y rfl hb) | (rintro e W9y ⟨rfl, hb⟩)
          replace HS5 := Lib.hid (HS5.out.keep hb)
          replace G3 := Lib.hid (G3.out.keep hb)
          replace G4 := Lib.hid (G4.out.keep hb)
          replace G5 := Lib.hid (G5.out.keep hb)
          replace G6 := Lib.hid (G6.out.keep hb)
          clear hb
          go_wp2_with (first | (go_at_call 26; refine (r26b _ _ _ _ ns5 x false G5.out.2.2.2.2.2 G5.out.1 G5.out.2.2.1 G5.out.2.1).mono ?_) | fail)
          first | (rintro e W9y rfl hb) | (rintro e W9y ⟨rfl, hb⟩)
          replace HS5 := Lib.hid (HS5.out.keep hb)
          replace G3 := Lib.hid (G3.out.keep hb)
          replace G4 := Lib.hid (G4.out.keep hb)
          replace G5 := Lib.hid (G5.out.keep hb)
          replace G6 := Lib.hid (G6.out.keep hb)
          clear hb
          go_wp2_with (first | (go_at_call 26; refine (r26b _ _ _ _ ns6 x false G6.out.2.2.2.2.2 G6.out.1 G6.out.2.2.1 G6.out.2.1).mono ?_) | fail)
          first | (rintro e W9y rfl hb) | (rintro e W9y ⟨rfl, hb⟩)
          replace HS5 := Lib.hid (HS5.out.keep hb)
          replace G3 := Lib.hid (G3.out.keep hb)
          replace G4 := Lib.hid (G4.out.keep hb)
          replace G5 := Lib.hid (G5.out.keep hb)
          replace G6 := Lib.hid (G6.out.keep hb)
          clear hb
          go_wp2_with (first | (go_at_call 7; refine (wakes_any _).mono ?_) | fail)
          first | (rintro e W9y rfl hb) | (rintro e W9y ⟨rfl, hb⟩)
          replace HS5 := Lib.hid (HS5.out.keep hb)
          replace G3 := Lib.hid (G3.out.keep hb)
          replace G4 := Lib.hid (G4.out.keep hb)
          replace G5 := Lib.hid (G5.out.keep hb)
          replace G6 := Lib.hid (G6.out.keep hb)
          clear hb
          go_wp2_with fail
          go_ret
          exact ⟨rfl, by have := HS5.out.2.2.2; rwa [hB] at this⟩
        · go_wp2_with (first | (go_at_call 26; refine (r26b _ _ _ _ ns3 x false G3.out.2.2.2.2.2 G3.out.1 G3.out.2.2.1 G3.out.2.1).mono ?_) | fail)
          first | (rintro e W9y rfl hb) | (rintro e W9y ⟨rfl, hb⟩)
          replace HS5 := Lib.hid (HS5.out.keep hb)
          replace G3 := Lib.hid (G3.out.keep hb)
          replace G4 := Lib.hid (G4.out.keep hb)
          replace G5 := Lib.hid (G5.out.keep hb)
          replace G6 := Lib.hid (G6.out.keep hb)
          clear hb
          go_wp2_with (first | (go_at_call 26; refine (r26b _ _ _ _ ns4 x false G4.out.2.2.2.2.2 G4.out.1 G4.out.2.2.1 G4.out.2.1).mono ?_) | fail)
          first | (rintro e W9y rfl hb) | (rintro e W9y ⟨rfl, hb⟩)
          replace HS5 := Lib.hid (HS5.out.keep hb)
          replace G3 := Lib.hid (G3.out.keep hb)
          replace G4 := Lib.hid (G4.out.keep hb)
          replace G5 := Lib.hid (G5.out.keep hb)
          replace G6 := Lib.hid (G6.out.keep hb)
          clear hb
          go_wp2_with (first | (go_at_call 26; refine (r26b _ _ _ _ ns5 x false G5.out.2.2.2.2.2 G5.out.1 G5.out.2.2.1 G5.out.2.1).mono ?_) | fail)
          first | (rintro e W9y rfl hb) | (rintro e W9y ⟨rfl, hb⟩)
          replace HS5 := Lib.hid (HS5.out.keep hb)
          replace G3 := Lib.hid (G3.out.keep hb)
          replace G4 := Lib.hid (G4.out.keep hb)
          replace G5 := Lib.hid (G5.out.keep hb)
          replace G6 := Lib.hid (G6.out.keep hb)
          clear hb
          go_wp2_with (first | (go_at_call 26; refine (r26b _ _ _ _ ns6 x false G6.out.2.2.2.2.2 G6.out.1 G6.out.2.2.1 G6.out.2.1).mono ?_) | fail)
          first | (rintro e W9y rfl hb) | (rintro e W9y ⟨rfl, hb⟩)
          replace HS5 := Lib.hid (HS5.out.keep hb)
          replace G3 := Lib.hid (G3.out.keep hb)
          replace G4 := Lib.hid (G4.out.keep hb)
          replace G5 := Lib.hid (G5.out.keep hb)
          replace G6 := Lib.hid (G6.out.keep hb)
          clear hb
          go_wp2_with (first | (go_at_call 7; refine (wakes_any _).mono ?_) | fail)
          first | (rintro e W9y rfl hb) | (rintro e W9y ⟨rfl, hb⟩)
          replace HS5 := Lib.hid (HS5.out.keep hb)
          replace G3 := Lib.hid (G3.out.keep hb)
          replace G4 := Lib.hid (G4.out.keep hb)
          replace G5 := Lib.hid (G5.out.keep hb)
          replace G6 := Lib.hid (G6.out.keep hb)
          clear hb
          go_wp2_with fail
          go_ret
          exact ⟨rfl, by have := HS5.out.2.2.2; rwa [hB] at this⟩
      · cases q
        · go_wp2_with (first | (go_at_call 26; refine (r26b _ _ _ _ ns3 x false G3.out.2.2.2.2.2 G3.out.1 G3.out.2.2.1 G3.out.2.1).mono ?_) | fail)
          first | (rintro e W9y rfl hb) | (rintro e W9y ⟨rfl, hb⟩)
          replace HS5 := Lib.hid (HS5.out.keep hb)
          replace G3 := Lib.hid (G3.out.keep hb)
          replace G4 := Lib.hid (G4.out.keep hb)
          replace G5 := Lib.hid (G5.out.keep hb)
          replace G6 := Lib.hid (G6.out.keep hb)
          clear hb
          go_wp2_with (first | (go_at_call 26; refine (r26b _ _ _ _ ns4 x true G4.out.2.2.2.2.2 G4.out.1 G4.out.2.2.1 G4.out.2.1).mono ?_) | fail)
          first | (rintro e W9y rfl hb) | (rintro e W9y ⟨rfl, hb⟩)
          replace HS5 := Lib.hid (HS5.out.keep hb)
          replace G3 := Lib.hid (G3.out.keep hb)
          replace G4 := Lib.hid (G4.out.keep hb)
          replace G5 := Lib.hid (G5.out.keep hb)
          replace G6 := Lib.hid (G6.out.keep hb)
          clear hb
          go_wp2_with (first | (go_at_call 26; refine (r26b _ _ _ _ ns5 x true G5.out.2.2.2.2.2 G5.out.1 G5.out.2.2.1 G5.out.2.1).mono ?_) | fail)
          first | (rintro e W9y rfl hb) | (rintro e W9y ⟨rfl, hb⟩)
          replace HS5 := Lib.hid (HS5.out.keep hb)
          replace G3 := Lib.hid (G3.out.keep hb)
          replace G4 := Lib.hid (G4.out.keep hb)
          replace G5 := Lib.hid (G5.out.keep hb)
          replace G6 := Lib.hid (G6.out.keep hb)
          clear hb
          go_wp2_with (first | (go_at_call 26; refine (r26b _ _ _ _ ns6 x false G6.out.2.2.2.2.2 G6.out.1 G6.out.2.2.1 G6.out.2.1).mono ?_) | fail)
          first | (rintro e W9y rfl hb) | (rintro e W9y ⟨rfl, hb⟩)
          replace HS5 := Lib.hid (HS5.out.keep hb)
          replace G3 := Lib.hid (G3.out.keep hb)
          replace G4 := Lib.hid (G4.out.keep hb)
          replace G5 := Lib.hid (G5.out.keep hb)
          replace G6 := Lib.hid (G6.out.keep hb)
          clear hb
          go_wp2_with (first | (go_at_call 7; refine (wakes_any _).mono ?_) | fail)
          first | (rintro e W9y rfl hb) | (rintro e W9y ⟨rfl, hb⟩)
          replace HS5 := Lib.hid (HS5.out.keep hb)
          replace G3 := Lib.hid (G3.out.keep hb)
          replace G4 := Lib.hid (G4.out.keep hb)
          replace G5 := Lib.hid (G5.out.keep hb)
          replace G6 := Lib.hid (G6.out.keep hb)
          clear hb
          go_wp2_with fail
          go_ret
          exact ⟨rfl, by have := HS5.out.2.2.2; rwa [hB] at this⟩
        · go_wp2_with (first | (go_at_call 26; refine (r26b _ _ _ _ ns3 x false G3.out.2.2.2.2.2 G3.out.1 G3.out.2.2.1 G3.out.2.1).mono ?_) | fail)
          first | (rintro e W9y rfl hb) | (rintro e W9y ⟨rfl, hb⟩)
          replace HS5 := Lib.hid (HS5.out.keep hb)
          replace G3 := Lib.hid (G3.out.keep hb)
          replace G4 := Lib.hid (G4.out.keep hb)
          replace G5 := Lib.hid (G5.out.keep hb)
          replace G6 := Lib.hid (G6.out.keep hb)
          clear hb
          go_wp2_with (first | (go_at_call 26; refine (r26b _ _ _ _ ns4 x true G4.out.2.2.2.2.2 G4.out.1 G4.out.2.2.1 G4.out.2.1).mono ?_) | fail)
          first | (rintro e W9y rfl hb) | (rintro e W9y ⟨rfl, hb⟩)
          replace HS5 := Lib.hid (HS5.out.keep hb)
          replace G3 := Lib.hid (G3.out.keep hb)
          replace G4 := Lib.hid (G4.out.keep hb)
          replace G5 := Lib.hid (G5.out.keep hb)
          replace G6 := Lib.hid (G6.out.keep hb)
          clear hb
          go_wp2_with (first | (go_at_call 26; refine (r26b _ _ _ _ ns5 x true G5.out.2.2.2.2.2 G5.out.1 G5.out.2.2.1 G5.out.2.1).mono ?_) | fail)
          first | (rintro e W9y rfl hb) | (rintro e W9y ⟨rfl, hb⟩)
          replace HS5 := Lib.hid (HS5.out.keep hb)
          replace G3 := Lib.hid (G3.out.keep hb)
          replace G4 := Lib.hid (G4.out.keep hb)
          replace G5 := Lib.hid (G5.out.keep hb)
          replace G6 := Lib.hid (G6.out.keep hb)
          clear hb
          go_wp2_with (first | (go_at_call 26; refine (r26b _ _ _ _ ns6 x false G6.out.2.2.2.2.2 G6.out.1 G6.out.2.2.1 G6.out.2.1).mono ?_) | fail)
          first | (rintro e W9y rfl hb) | (rintro e W9y ⟨rfl, hb⟩)
          replace HS5 := Lib.hid (HS5.out.keep hb)
          replace G3 := Lib.hid (G3.out.keep hb)
          replace G4 := Lib.hid (G4.out.keep hb)
          replace G5 := Lib.hid (G5.out.keep hb)
          replace G6 := Lib.hid (G6.out.keep hb)
          clear hb
          go_wp2_with (first | (go_at_call 7; refine (wakes_any _).mono ?_) | fail)
          first | (rintro e W9y rfl hb) | (rintro e W9y ⟨rfl, hb⟩)
          replace HS5 := Lib.hid (HS5.out.keep hb)
          replace G3 := Lib.hid (G3.out.keep hb)
          replace G4 := Lib.hid (G4.out.keep hb)
          replace G5 := Lib.hid (G5.out.keep hb)
          replace G6 := Lib.hid (G6.out.keep hb)
          clear hb
          go_wp2_with fail
          go_ret
          exact ⟨rfl, by have := HS5.out.2.2.2; rwa [hB] at this⟩
    · cases t2
      · cases q
        · go_wp2_with (first | (go_at_call 26; refine (r26b _ _ _ _ ns3 x true G3.out.2.2.2.2.2 G3.out.1 G3.out.2.2.1 G3.out.2.1).mono ?_) | fail)
          first | (rintro e W9y rfl hb) | (rintro e W9y ⟨rfl, hb⟩)
          replace HS5 := Lib.hid (HS5.out.keep hb)
          replace G3 := Lib.hid (G3.out.keep hb)
          replace G4 := Lib.hid (G4.out.keep hb)
          replace G5 := Lib.hid (G5.out.keep hb)
          replace G6 := Lib.hid (G6.out.keep hb)
          clear hb
          go_wp2_with (first | (go_at_call 26; refine (r26b _ _ _ _ ns4 x true G4.out.2.2.2.2.2 G4.out.1 G4.out.2.2.1 G4.out.2.1).mono ?_) | fail)
          first | (rintro e W9y rfl hb) | (rintro e W9y ⟨rfl, hb⟩)
          replace HS5 := Lib.hid (HS5.out.keep hb)
          replace G3 := Lib.hid (G3.out.keep hb)
          replace G4 := Lib.hid (G4.out.keep hb)
          replace G5 := Lib.hid (G5.out.keep hb)
          replace G6 := Lib.hid (G6.out.keep hb)
          clear hb
          go_wp2_with (first | (go_at_call 26; refine (r26b _ _ _ _ ns5 x true G5.out.2.2.2.2.2 G5.out.1 G5.out.2.2.1 G5.out.2.1).mono ?_) | fail)
          first | (rintro e W9y rfl hb) | (rintro e W9y ⟨rfl, hb⟩)
          replace HS5 := Lib.hid (HS5.out.keep hb)
          replace G3 := Lib.hid (G3.out.keep hb)
          replace G4 := Lib.hid (G4.out.keep hb)
          replace G5 := Lib.hid (G5.out.keep hb)
          replace G6 := Lib.hid (G6.out.keep hb)
          clear hb
          go_wp2_with (first | (go_at_call 26; refine (r26b _ _ _ _ ns6 x true G6.out.2.2.2.2.2 G6.out.1 G6.out.2.2.1 G6.out.2.1).mono ?_) | fail)
          first | (rintro e W9y rfl hb) | (rintro e W9y ⟨rfl, hb⟩)
          replace HS5 := Lib.hid (HS5.out.keep hb)
          replace G3 := Lib.hid (G3.out.keep hb)
          replace G4 := Lib.hid (G4.out.keep hb)
          replace G5 := Lib.hid (G5.out.keep hb)
          replace G6 := Lib.hid (G6.out.keep hb)
          clear hb
          go_wp2_with (first | (go_at_call 7; refine (wakes_any _).mono ?_) | fail)
          first | (rintro e W9y rfl hb) | (rintro e W9y ⟨rfl, hb⟩)
          replace HS5 := Lib.hid (HS5.out.keep hb)
          replace G3 := Lib.hid (G3.out.keep hb)
          replace G4 := Lib.hid (G4.out.keep hb)
          replace G5 := Lib.hid (G5.out.keep hb)
          replace G6 := Lib.hid (G6.out.keep hb)
          clear hb
          go_wp2_with fail
          go_ret
          exact ⟨rfl, by have := HS5.out.2.2.2; rwa [hB] at this⟩
        · go_wp2_with (first | (go_at_call 26; refine (r26b _ _ _ _ ns3 x true G3.out.2.2.2.2.2 G3.out.1 G3.out.2.2.1 G3.out.2.1).mono ?_) | fail)
          first | (rintro e W9y rfl hb) | (rintro e W9y ⟨rfl, hb⟩)
          replace HS5 := Lib.hid (HS5.out.keep hb)
          replace G3 := Lib.hid (G3.out.keep hb)
          replace G4 := Lib.hid (G4.out.keep hb)
          replace G5 := Lib.hid (G5.out.keep hb)
          replace G6 := Lib.hid (G6.out.keep hb)
          clear hb
          go_wp2_with (first | (go_at_call 26; refine (r26b _ _ _ _ ns4 x true G4.out.2.2.2.2.2 G4.out.1 G4.out.2.2.1 G4.out.2.1).mono ?_) | fail)
          first | (rintro e W9y rfl hb) | (rintro e W9y ⟨rfl, hb⟩)
          replace HS5 := Lib.hid (HS5.out.keep hb)
          replace G3 := Lib.hid (G3.out.keep hb)
          replace G4 := Lib.hid (G4.out.keep hb)
          replace G5 := Lib.hid (G5.out.keep hb)
          replace G6 := Lib.hid (G6.out.keep hb)
          clear hb
          go_wp2_with (first | (go_at_call 26; refine (r26b _ _ _ _ ns5 x true G5.out.2.2.2.2.2 G5.out.1 G5.out.2.2.1 G5.out.2.1).mono ?_) | fail)
          first | (rintro e W9y rfl hb) | (rintro e W9y ⟨rfl, hb⟩)
          replace HS5 := Lib.hid (HS5.out.keep hb)
          replace G3 := Lib.hid (G3.out.keep hb)
          replace G4 := Lib.hid (G4.out.keep hb)
          replace G5 := Lib.hid (G5.out.keep hb)
          replace G6 := Lib.hid (G6.out.keep hb)
          clear hb
          go_wp2_with (first | (go_at_call 26; refine (r26b _ _ _ _ ns6 x true G6.out.2.2.2.2.2 G6.out.1 G6.out.2.2.1 G6.out.2.1).mono ?_) | fail)
          first | (rintro e W9y rfl hb) | (rintro e W9y ⟨rfl, hb⟩)
          replace HS5 := Lib.hid (HS5.out.keep hb)
          replace G3 := Lib.hid (G3.out.keep hb)
          replace G4 := Lib.hid (G4.out.keep hb)
          replace G5 := Lib.hid (G5.out.keep hb)
          replace G6 := Lib.hid (G6.out.keep hb)
          clear hb
          go_wp2_with (first | (go_at_call 7; refine (wakes_any _).mono ?_) | fail)
          first | (rintro e W9y rfl hb) | (rintro e W9y ⟨rfl, hb⟩)
          replace HS5 := Lib.hid (HS5.out.keep hb)
          replace G3 := Lib.hid (G3.out.keep hb)
          replace G4 := Lib.hid (G4.out.keep hb)
          replace G5 := Lib.hid (G5.out.keep hb)
          replace G6 := Lib.hid (G6.out.keep hb)
          clear hb
          go_wp2_with fail
          go_ret
          exact ⟨rfl, by have := HS5.out.2.2.2; rwa [hB] at this⟩
      · cases q
        · go_wp2_with (first | (go_at_call 26; refine (r26b _ _ _ _ ns3 x true G3.out.2.2.2.2.2 G3.out.1 G3.out.2.2.1 G3.out.2.1).mono ?_) | fail)
          first | (rintro e W9y rfl hb) | (rintro e W9y ⟨rfl, hb⟩)
          replace HS5 := Lib.hid (HS5.out.keep hb)
          replace G3 := Lib.hid (G3.out.keep hb)
          replace G4 := Lib.hid (G4.out.keep hb)
          replace G5 := Lib.hid (G5.out.keep hb)
          replace G6 := Lib.hid (G6.out.keep hb)
          clear hb
          go_wp2_with (first | (go_at_call 26; refine (r26b _ _ _ _ ns4 x true G4.out.2.2.2.2.2 G4.out.1 G4.out.2.2.1 G4.out.2.1).mono ?_) | fail)
          first | (rintro e W9y rfl hb) | (rintro e W9y ⟨rfl, hb⟩)
          replace HS5 := Lib.hid (HS5.out.keep hb)
          replace G3 := Lib.hid (G3.out.keep hb)
          replace G4 := Lib.hid (G4.out.keep hb)
          replace G5 := Lib.hid (G5.out.keep hb)
          replace G6 := Lib.hid (G6.out.keep hb)
          clear hb
          go_wp2_with (first | (go_at_call 26; refine (r26b _ _ _ _ ns5 x true G5.out.2.2.2.2.2 G5.out.1 G5.out.2.2.1 G5.out.2.1).mono ?_) | fail)
          first | (rintro e W9y rfl hb) | (rintro e W9y ⟨rfl, hb⟩)
          replace HS5 := Lib.hid (HS5.out.keep hb)
          replace G3 := Lib.hid (G3.out.keep hb)
          replace G4 := Lib.hid (G4.out.keep hb)
          replace G5 := Lib.hid (G5.out.keep hb)
          replace G6 := Lib.hid (G6.out.keep hb)
          clear hb
          go_wp2_with (first | (go_at_call 26; refine (r26b _ _ _ _ ns6 x true G6.out.2.2.2.2.2 G6.out.1 G6.out.2.2.1 G6.out.2.1).mono ?_) | fail)
          first | (rintro e W9y rfl hb) | (rintro e W9y ⟨rfl, hb⟩)
          replace HS5 := Lib.hid (HS5.out.keep hb)
          replace G3 := Lib.hid (G3.out.keep hb)
          replace G4 := Lib.hid (G4.out.keep hb)
          replace G5 := Lib.hid (G5.out.keep hb)
          replace G6 := Lib.hid (G6.out.keep hb)
          clear hb
          go_wp2_with (first | (go_at_call 7; refine (wakes_any _).mono ?_) | fail)
          first | (rintro e W9y rfl hb) | (rintro e W9y ⟨rfl, hb⟩)
          replace HS5 := Lib.hid (HS5.out.keep hb)
          replace G3 := Lib.hid (G3.out.keep hb)
          replace G4 := Lib.hid (G4.out.keep hb)
          replace G5 := Lib.hid (G5.out.keep hb)
          replace G6 := Lib.hid (G6.out.keep hb)
          clear hb
          go_wp2_with fail
          go_ret
          exact ⟨rfl, by have := HS5.out.2.2.2; rwa [hB] at this⟩
        · go_wp2_with (first | (go_at_call 26; refine (r26b _ _ _ _ ns3 x true G3.out.2.2.2.2.2 G3.out.1 G3.out.2.2.1 G3.out.2.1).mono ?_) | fail)
          first | (rintro e W9y rfl hb) | (rintro e W9y ⟨rfl, hb⟩)
          replace HS5 := Lib.hid (HS5.out.keep hb)
          replace G3 := Lib.hid (G3.out.keep hb)
          replace G4 := Lib.hid (G4.out.keep hb)
          replace G5 := Lib.hid (G5.out.keep hb)
          replace G6 := Lib.hid (G6.out.keep hb)
          clear hb
          go_wp2_with (first | (go_at_call 26; refine (r26b _ _ _ _ ns4 x true G4.out.2.2.2.2.2 G4.out.1 G4.out.2.2.1 G4.out.2.1).mono ?_) | fail)
          first | (rintro e W9y rfl hb) | (rintro e W9y ⟨rfl, hb⟩)
          replace HS5 := Lib.hid (HS5.out.keep hb)
          replace G3 := Lib.hid (G3.out.keep hb)
          replace G4 := Lib.hid (G4.out.keep hb)
          replace G5 := Lib.hid (G5.out.keep hb)
          replace G6 := Lib.hid (G6.out.keep hb)
          clear hb
          go_wp2_with (first | (go_at_call 26; refine (r26b _ _ _ _ ns5 x true G5.out.2.2.2.2.2 G5.out.1 G5.out.2.2.1 G5.out.2.1).mono ?_) | fail)
          first | (rintro e W9y rfl hb) | (rintro e W9y ⟨rfl, hb⟩)
          replace HS5 := Lib.hid (HS5.out.keep hb)
          replace G3 := Lib.hid (G3.out.keep hb)
          replace G4 := Lib.hid (G4.out.keep hb)
          replace G5 := Lib.hid (G5.out.keep hb)
          replace G6 := Lib.hid (G6.out.keep hb)
          clear hb
          go_wp2_with (first | (go_at_call 26; refine (r26b _ _ _ _ ns6 x true G6.out.2.2.2.2.2 G6.out.1 G6.out.2.2.1 G6.out.2.1).mono ?_) | fail)
          first | (rintro e W9y rfl hb) | (rintro e W9y ⟨rfl, hb⟩)
          replace HS5 := Lib.hid (HS5.out.keep hb)
          replace G3 := Lib.hid (G3.out.keep hb)
          replace G4 := Lib.hid (G4.out.keep hb)
          replace G5 := Lib.hid (G5.out.keep hb)
          replace G6 := Lib.hid (G6.out.keep hb)
          clear hb
          go_wp2_with (first | (go_at_call 7; refine (wakes_any _).mono ?_) | fail)
          first | (rintro e W9y rfl hb) | (rintro e W9y ⟨rfl, hb⟩)
          replace HS5 := Lib.hid (HS5.out.keep hb)
          replace G3 := Lib.hid (G3.out.keep hb)
          replace G4 := Lib.hid (G4.out.keep hb)
          replace G5 := Lib.hid (G5.out.keep hb)
          replace G6 := Lib.hid (G6.out.keep hb)
          clear hb
          go_wp2_with fail
          go_ret
          exact ⟨rfl, by have := HS5.out.2.2.2; rwa [hB] at this⟩
  · refine wpAnyH_take (i := 10) (v := ?_) rfl (by kernel_rfl) (by kernel_rfl) (by kernel_rfl) (fun _ _ _ h => h) (Or.inl ⟨by kernel_rfl, ?_⟩) (by assumption) ?_
    rotate_left
    · intro wv hSw
      go_simp
      try with_reducible rfl
    simp only [Act.put, List.setIfInBounds_toArray, List.set_cons_zero, List.set_cons_succ, List.getElem_toArray, List.getElem_cons_succ, List.getElem_cons_zero]
    refine wpAnyH_take (i := 11) (v := ?_) rfl (by kernel_rfl) (by kernel_rfl) (by kernel_rfl) (fun _ _ _ h => h) (Or.inl ⟨by kernel_rfl, ?_⟩) (by assumption) ?_
    rotate_left
    · intro wv hSw
      go_simp
      try with_reducible rfl
    simp only [Act.put, List.setIfInBounds_toArray, List.set_cons_zero, List.set_cons_succ, List.getElem_toArray, List.getElem_cons_succ, List.getElem_cons_zero]
    refine wpAnyH_take (i := 12) (v := ?_) rfl (by kernel_rfl) (by kernel_rfl) (by kernel_rfl) (fun _ _ _ h => h) (Or.inl ⟨by kernel_rfl, ?_⟩) (by assumption) ?_
    rotate_left
    · intro wv hSw
      go_simp
      try with_reducible rfl
    simp only [Act.put, List.setIfInBounds_toArray, List.set_cons_zero, List.set_cons_succ, List.getElem_toArray, List.getElem_cons_succ, List.getElem_cons_zero]
    refine wpAnyH_take (i := 13) (v := ?_) rfl (by kernel_rfl) (by kernel_rfl) (by kernel_rfl) (fun _ _ _ h => h) (Or.inl ⟨by kernel_rfl, ?_⟩) (by assumption) ?_
    rotate_left
    · intro wv hSw
      obtain ⟨c0, c1⟩ := hSw.2.2.1.c
      go_simp
      try with_reducible rfl
    simp only [Act.put, List.setIfInBounds_toArray, List.set_cons_zero, List.set_cons_succ, List.getElem_toArray, List.getElem_cons_succ, List.getElem_cons_zero]
    refine wpAnyH_take (i := 14) (v := ?_) rfl (by kernel_rfl) (by kernel_rfl) (by kernel_rfl) (fun _ _ _ h => h) (Or.inl ⟨by kernel_rfl, ?_⟩) (by assumption) ?_
    rotate_left
    · intro wv hSw
      go_simp
      try with_reducible rfl
    simp only [Act.put, List.setIfInBounds_toArray, List.set_cons_zero, List.set_cons_succ, List.getElem_toArray, List.getElem_cons_succ, List.getElem_cons_zero]
    refine wpAnyH_take (i := 15) (v := ?_) rfl (by kernel_rfl) (by kernel_rfl) (by kernel_rfl) (fun _ _ _ h => h) (Or.inl ⟨by kernel_rfl, ?_⟩) (by assumption) ?_
    rotate_left
    · intro wv hSw
      go_simp
      try with_reducible rfl
    simp only [Act.put, List.setIfInBounds_toArray, List.set_cons_zero, List.set_cons_succ, List.getElem_toArray, List.getElem_cons_succ, List.getElem_cons_zero]
    refine wpAnyH_take (i := 16) (v := ?_) rfl (by kernel_rfl) (by kernel_rfl) (by kernel_rfl) (fun _ _ _ h => h) (Or.inl ⟨by kernel_rfl, ?_⟩) (by assumption) ?_
    rotate_left
    · intro wv hSw
      go_simp
      try with_reducible rfl
    simp only [Act.put, List.setIfInBounds_toArray, List.set_cons_zero, List.set_cons_succ, List.getElem_toArray, List.getElem_cons_succ, List.getElem_cons_zero]
    refine wpAnyH_take (i := 17) (v := ?_) rfl (by kernel_rfl) (by kernel_rfl) (by kernel_rfl) (fun _ _ _ h => h) (Or.inl ⟨by kernel_rfl, ?_⟩) (by assumption) ?_
    rotate_left
    · intro wv hSw
      go_simp
      try with_reducible rfl
    simp only [Act.put, List.setIfInBounds_toArray, List.set_cons_zero, List.set_cons_succ, List.getElem_toArray, List.getElem_cons_succ, List.getElem_cons_zero]
    refine wpAnyH_take (i := 18) (v := ?_) rfl (by kernel_rfl) (by kernel_rfl) (by kernel_rfl) (fun _ _ _ h => h) (Or.inl ⟨by kernel_rfl, ?_⟩) (by assumption) ?_
    rotate_left
    · intro wv hSw
      go_simp
      try with_reducible rfl
    simp only [Act.put, List.setIfInBounds_toArray, List.set_cons_zero, List.set_cons_succ, List.getElem_toArray, List.getElem_cons_succ, List.getElem_cons_zero]
    refine wpAnyH_done (by kernel_rfl) ?_ _
    refine NoPanic.normal ?_
    have HS4 := Lib.hid hHeld
    clear hHeld HS
    go_upto_region 4 with fail
    refine wp_region_noPanic ?_
    refine wp_region_held_drew (S := fun W : World => LW w a a2 zs z2 B lo hi W) (by kernel_rfl) ?_ (fun hHeld => ?_)
    · exact HS4.out.drew
    clear HS4
    generalize World.drew _ = W5 at hHeld ⊢
    refine wpAnyH_take (i := 0) (v := ?_) rfl (by kernel_rfl) (by kernel_rfl) (by kernel_rfl) (fun _ _ _ h => h) (Or.inl ⟨by kernel_rfl, ?_⟩) (by assumption) ?_
    rotate_left
    · intro wv hSw
      go_simp
      try with_reducible rfl
    simp only [Act.put, List.setIfInBounds_toArray, List.set_cons_zero, List.set_cons_succ, List.getElem_toArray, List.getElem_cons_succ, List.getElem_cons_zero]
    refine wpAnyH_take (i := 2) (v := ?_) rfl (by kernel_rfl) (by kernel_rfl) (by kernel_rfl) (fun _ _ _ h => h) (Or.inl ⟨by kernel_rfl, ?_⟩) (by assumption) ?_
    rotate_left
    · intro wv hSw
      go_simp
      try with_reducible rfl
    simp only [Act.put, List.setIfInBounds_toArray, List.set_cons_zero, List.set_cons_succ, List.getElem_toArray, List.getElem_cons_succ, List.getElem_cons_zero]
    refine wpAnyH_take (i := 3) (v := ?_) rfl (by kernel_rfl) (by kernel_rfl) (by kernel_rfl) (fun _ _ _ h => h) (Or.inl ⟨by kernel_rfl, ?_⟩) (by assumption) ?_
    rotate_left
    · intro wv hSw
      go_simp
      try with_reducible rfl
    simp only [Act.put, List.setIfInBounds_toArray, List.set_cons_zero, List.set_cons_succ, List.getElem_toArray, List.getElem_cons_succ, List.getElem_cons_zero]
    refine wpAnyH_take (i := 5) (v := ?_) rfl (by kernel_rfl) (by kernel_rfl) (by kernel_rfl) (fun _ _ _ h => h) (Or.inl ⟨by kernel_rfl, ?_⟩) (by assumption) ?_
    rotate_left
    · intro wv hSw
      go_simp
      try with_reducible rfl
    simp only [Act.put, List.setIfInBounds_toArray, List.set_cons_zero, List.set_cons_succ, List.getElem_toArray, List.getElem_cons_succ, List.getElem_cons_zero]
    refine wpAnyH_take (i := 6) (v := ?_) rfl (by kernel_rfl) (by kernel_rfl) (by kernel_rfl) (fun _ _ _ h => h) (Or.inl ⟨by kernel_rfl, ?_⟩) (by assumption) ?_
    rotate_left
    · intro wv hSw
      go_simp
      try with_reducible rfl
    simp only [Act.put, List.setIfInBounds_toArray, List.set_cons_zero, List.set_cons_succ, List.getElem_toArray, List.getElem_cons_succ, List.getElem_cons_zero]
    refine wpAnyH_take (i := 8) (v := ?_) rfl (by kernel_rfl) (by kernel_rfl) (by kernel_rfl) (fun _ _ _ h => h) (Or.inl ⟨by kernel_rfl, ?_⟩) (by assumption) ?_
    rotate_left
    · intro wv hSw
      go_simp
      try with_reducible rfl
    simp only [Act.put, List.setIfInBounds_toArray, List.set_cons_zero, List.set_cons_succ, List.getElem_toArray, List.getElem_cons_succ, List.getElem_cons_zero]
    refine wpAnyH_take (i := 9) (v := ?_) rfl (by kernel_rfl) (by kernel_rfl) (by kernel_rfl) (fun _ _ _ h => h) (Or.inl ⟨by kernel_rfl, ?_⟩) (by assumption) ?_
    rotate_left
    · intro wv hSw
      obtain ⟨c0, c1⟩ := hSw.2.2.1.c
      go_simp
      try with_reducible rfl
    simp only [Act.put, List.setIfInBounds_toArray, List.set_cons_zero, List.set_cons_succ, List.getElem_toArray, List.getElem_cons_succ, List.getElem_cons_zero]
    refine wpAnyH_ready (rs := [1]) (by kernel_rfl) (by simp) ?_
    refine AllReadyH.cons rfl (fun K hK => ?_) AllReadyH.nil
    go_simp
    go_at_call 11
    refine (r11 _ _ _ _ zs x t HT.out.1 HP.out.2.1.1 hn HP.out.1.1 hHeld.1).mono ?_
    intro e W9x hrow
    obtain ⟨a3, k3, cap3, ns3, rfl, hg, hb⟩ := row_gr hrow
    clear hrow
    have G3 := Lib.hid hg
    clear hg
    refine hK.out _ _ (hHeld.keep hb) (fun hHeld2 => ?_)
    clear hK K hHeld hb
    have hHeld := hHeld2
    clear hHeld2
    try simp only [Act.put, List.setIfInBounds_toArray, List.set_cons_zero, List.set_cons_succ, List.getElem_toArray, List.getElem_cons_succ, List.getElem_cons_zero]
    refine wpAnyH_ready (rs := [4]) (by kernel_rfl) (by simp) ?_
    refine AllReadyH.cons rfl (fun K hK => ?_) AllReadyH.nil
    go_simp
    go_at_call 13
    refine (r13 13 (Or.inl rfl) _ _ _ _ zs _ _ _ z2 x t t2 HT.out.1 HT.out.2 HP.out.2.1.1 hn HP.out.1.1 hHeld.1 HP.out.2.2.1.1 HP.out.2.1.2 hn2 HP.out.1.2 hHeld.2.1 HP.out.2.2.1.2).mono ?_
    intro e W9x hrow
    obtain ⟨a4, k4, cap4, ns4, rfl, hg, hb⟩ := row_gr hrow
    clear hrow
    have G4 := Lib.hid hg
    clear hg
    replace G3 := Lib.hid (G3.out.keep hb)
    refine hK.out _ _ (hHeld.keep hb) (fun hHeld2 => ?_)
    clear hK K hHeld hb
    have hHeld := hHeld2
    clear hHeld2
    try simp only [Act.put, List.setIfInBounds_toArray, List.set_cons_zero, List.set_cons_succ, List.getElem_toArray, List.getElem_cons_succ, List.getElem_cons_zero]
    refine wpAnyH_ready (rs := [7]) (by kernel_rfl) (by simp) ?_
    refine AllReadyH.cons rfl (fun K hK => ?_) AllReadyH.nil
    go_simp
    go_at_call 17
    refine (r13 17 (Or.inr rfl) _ _ _ _ zs _ _ _ z2 x t t2 HT.out.1 HT.out.2 HP.out.2.1.1 hn HP.out.1.1 hHeld.1 HP.out.2.2.1.1 HP.out.2.1.2 hn2 HP.out.1.2 hHeld.2.1 HP.out.2.2.1.2).mono ?_
    intro e W9x hrow
    obtain ⟨a5, k5, cap5, ns5, rfl, hg, hb⟩ := row_gr hrow
    clear hrow
    have G5 := Lib.hid hg
    clear hg
    replace G3 := Lib.hid (G3.out.keep hb)
    replace G4 := Lib.hid (G4.out.keep hb)
    refine hK.out _ _ (hHeld.keep hb) (fun hHeld2 => ?_)
    clear hK K hHeld hb
    have hHeld := hHeld2
    clear hHeld2
    try simp only [Act.put, List.setIfInBounds_toArray, List.set_cons_zero, List.set_cons_succ, List.getElem_toArray, List.getElem_cons_succ, List.getElem_cons_zero]
    refine wpAnyH_ready (rs := [10]) (by kernel_rfl) (by simp) ?_
    refine AllReadyH.cons rfl (fun K hK => ?_) AllReadyH.nil
    go_simp
    go_at_call 15
    refine (r15 _ _ _ _ zs x t lo hi HP.out.2.2.2.1 HP.out.2.2.2.2 _ (by rw [HQ.out.1, HQ.out.2]) HT.out.1 HP.out.2.1.1 hn HP.out.1.1 hHeld.1).mono ?_
    intro e W9x hrow
    obtain ⟨a6, k6, cap6, ns6, rfl, hg, hb⟩ := row_gr hrow
    clear hrow
    have G6 := Lib.hid hg
    clear hg
    replace G3 := Lib.hid (G3.out.keep hb)
    replace G4 := Lib.hid (G4.out.keep hb)
    replace G5 := Lib.hid (G5.out.keep hb)
    refine hK.out _ _ (hHeld.keep hb) (fun hHeld2 => ?_)
    clear hK K hHeld hb
    have hHeld := hHeld2
    clear hHeld2
    try simp only [Act.put, List.setIfInBounds_toArray, List.set_cons_zero, List.set_cons_succ, List.getElem_toArray, List.getElem_cons_succ, List.getElem_cons_zero]
    refine wpAnyH_take (i := 11) (v := ?_) rfl (by kernel_rfl) (by kernel_rfl) (by kernel_rfl) (fun _ _ _ h => h) (Or.inl ⟨by kernel_rfl, ?_⟩) (by assumption) ?_
    rotate_left
    · intro wv hSw
      go_simp
      try with_reducible rfl
    simp only [Act.put, List.setIfInBounds_toArray, List.set_cons_zero, List.set_cons_succ, List.getElem_toArray, List.getElem_cons_succ, List.getElem_cons_zero]
    refine wpAnyH_take (i := 12) (v := ?_) rfl (by kernel_rfl) (by kernel_rfl) (by kernel_rfl) (fun _ _ _ h => h) (Or.inl ⟨by kernel_rfl, ?_⟩) (by assumption) ?_
    rotate_left
    · intro wv hSw
      go_simp
      try with_reducible rfl
    simp only [Act.put, List.setIfInBounds_toArray, List.set_cons_zero, List.set_cons_succ, List.getElem_toArray, List.getElem_cons_succ, List.getElem_cons_zero]
    refine wpAnyH_take (i := 13) (v := ?_) rfl (by kernel_rfl) (by kernel_rfl) (by kernel_rfl) (fun _ _ _ h => h) (Or.inl ⟨by kernel_rfl, ?_⟩) (by assumption) ?_
    rotate_left
    · intro wv hSw
      go_simp
      try with_reducible rfl
    simp only [Act.put, List.setIfInBounds_toArray, List.set_cons_zero, List.set_cons_succ, List.getElem_toArray, List.getElem_cons_succ, List.getElem_cons_zero]
    refine wpAnyH_take (i := 14) (v := ?_) rfl (by kernel_rfl) (by kernel_rfl) (by kernel_rfl) (fun _ _ _ h => h) (Or.inl ⟨by kernel_rfl, ?_⟩) (by assumption) ?_
    rotate_left
    · intro wv hSw
      go_simp
      try with_reducible rfl
    simp only [Act.put, List.setIfInBounds_toArray, List.set_cons_zero, List.set_cons_succ, List.getElem_toArray, List.getElem_cons_succ, List.getElem_cons_zero]
    refine wpAnyH_done (by kernel_rfl) ?_ _
    refine NoPanic.normal ?_
    have HS5 := Lib.hid hHeld
    clear hHeld
    go_wp2_with (first | (go_at_call 8; refine (r8 _ _ _ _ ns3 G3.out.1 G3.out.2.2.1 G3.out.2.2.2.1 G3.out.2.2.2.2.1 G3.out.2.1).mono ?_) | fail)
    first | (rintro e W9y rfl hb) | (rintro e W9y ⟨rfl, hb⟩)
    replace HS5 := Lib.hid (HS5.out.keep hb)
    replace G3 := Lib.hid (G3.out.keep hb)
    replace G4 := Lib.hid (G4.out.keep hb)
    replace G5 := Lib.hid (G5.out.keep hb)
    replace G6 := Lib.hid (G6.out.keep hb)
    clear hb
    go_wp2_with (first | (go_at_call 8; refine (r8 _ _ _ _ ns4 G4.out.1 G4.out.2.2.1 G4.out.2.2.2.1 G4.out.2.2.2.2.1 G4.out.2.1).mono ?_) | fail)
    first | (rintro e W9y rfl hb) | (rintro e W9y ⟨rfl, hb⟩)
    replace HS5 := Lib.hid (HS5.out.keep hb)
    replace G3 := Lib.hid (G3.out.keep hb)
    replace G4 := Lib.hid (G4.out.keep hb)
    replace G5 := Lib.hid (G5.out.keep hb)
    replace G6 := Lib.hid (G6.out.keep hb)
    clear hb
    go_wp2_with (first | (go_at_call 8; refine (r8 _ _ _ _ ns5 G5.out.1 G5.out.2.2.1 G5.out.2.2.2.1 G5.out.2.2.2.2.1 G5.out.2.1).mono ?_) | fail)
    first | (rintro e W9y rfl hb) | (rintro e W9y ⟨rfl, hb⟩)
    replace HS5 := Lib.hid (HS5.out.keep hb)
    replace G3 := Lib.hid (G3.out.keep hb)
    replace G4 := Lib.hid (G4.out.keep hb)
    replace G5 := Lib.hid (G5.out.keep hb)
    replace G6 := Lib.hid (G6.out.keep hb)
    clear hb
    go_wp2_with (first | (go_at_call 8; refine (r8 _ _ _ _ ns6 G6.out.1 G6.out.2.2.1 G6.out.2.2.2.1 G6.out.2.2.2.2.1 G6.out.2.1).mono ?_) | fail)
    first | (rintro e W9y rfl hb) | (rintro e W9y ⟨rfl, hb⟩)
    replace HS5 := Lib.hid (HS5.out.keep hb)
    replace G3 := Lib.hid (G3.out.keep hb)
    replace G4 := Lib.hid (G4.out.keep hb)
    replace G5 := Lib.hid (G5.out.keep hb)
    replace G6 := Lib.hid (G6.out.keep hb)
    clear hb
    go_wp2_with (first | (go_at_call 23; refine (r23 _ _ _ _ zs x t HT.out.1 HP.out.2.1.1 (by omega) HS5.out.1).mono ?_) | fail)
    first | (rintro e W9y rfl hb) | (rintro e W9y ⟨rfl, hb⟩)
    replace HS5 := Lib.hid (HS5.out.keep hb)
    replace G3 := Lib.hid (G3.out.keep hb)
    replace G4 := Lib.hid (G4.out.keep hb)
    replace G5 := Lib.hid (G5.out.keep hb)
    replace G6 := Lib.hid (G6.out.keep hb)
    clear hb
    go_upto_region 7 with fail
    cases t
    · cases t2
      · cases q
        · go_wp2_with (first | (go_at_call 26; refine (r26b _ _ _ _ ns3 x false G3.out.2.2.2.2.2 G3.out.1 G3.out.2.2.1 G3.out.2.1).mono ?_) | fail)
          first | (rintro e W9y rfl hb) | (rintro e W9y ⟨rfl, hb⟩)
          replace HS5 := Lib.hid (HS5.out.keep hb)
          replace G3 := Lib.hid (G3.out.keep hb)
          replace G4 := Lib.hid (G4.out.keep hb)
          replace G5 := Lib.hid (G5.out.keep hb)
          replace G6 := Lib.hid (G6.out.keep hb)
          clear hb
          go_wp2_with (first | (go_at_call 26; refine (r26b _ _ _ _ ns4 x false G4.out.2.2.2.2.2 G4.out.1 G4.out.2.2.1 G4.out.2.1).mono ?_) | fail)
          first | (rintro e W9y rfl hb) | (rintro e W9y ⟨rfl, hb⟩)
          replace HS5 := Lib.hid (HS5.out.keep hb)
          replace G3 := Lib.hid (G3.out.keep hb)
          replace G4 := Lib.hid (G4.out.keep hb)
          replace G5 := Lib.hid (G5.out.keep hb)
          replace G6 := Lib.hid (G6.out.keep hb)
          clear hb
          go_wp2_with (first | (go_at_call 26; refine (r26b _ _ _ _ ns5 x false G5.out.2.2.2.2.2 G5.out.1 G5.out.2.2.1 G5.out.2.1).mono ?_) | fail)
          first | (rintro e W9y rfl hb) | (rintro e W9y ⟨rfl, hb⟩)
          replace HS5 := Lib.hid (HS5.out.keep hb)
          replace G3 := Lib.hid (G3.out.keep hb)
          replace G4 := Lib.hid (G4.out.keep hb)
          replace G5 := Lib.hid (G5.out.keep hb)
          replace G6 := Lib.hid (G6.out.keep hb)
          clear hb
          go_wp2_with (first | (go_at_call 26; refine (r26b _ _ _ _ ns6 x false G6.out.2.2.2.2.2 G6.out.1 G6.out.2.2.1 G6.out.2.1).mono ?_) | fail)
          first | (rintro e W9y rfl hb) | (rintro e W9y ⟨rfl, hb⟩)
          replace HS5 := Lib.hid (HS5.out.keep hb)
          replace G3 := Lib.hid (G3.out.keep hb)
          replace G4 := Lib.hid (G4.out.keep hb)
          replace G5 := Lib.hid (G5.out.keep hb)
          replace G6 := Lib.hid (G6.out.keep hb)
          clear hb
          go_wp2_with (first | (go_at_call 7; refine (wakes_any _).mono ?_) | fail)
          first | (rintro e W9y rfl hb) | (rintro e W9y ⟨rfl, hb⟩)
          replace HS5 := Lib.hid (HS5.out.keep hb)
          replace G3 := Lib.hid (G3.out.keep hb)
          replace G4 := Lib.hid (G4.out.keep hb)
          replace G5 := Lib.hid (G5.out.keep hb)
          replace G6 := Lib.hid (G6.out.keep hb)
          clear hb
          go_wp2_with fail
          go_ret
          exact ⟨rfl, by have := HS5.out.2.2.2; rwa [hB] at this⟩
        · go_wp2_with (first | (go_at_call 26; refine (r26b _ _ _ _ ns3 x false G3.out.2.2.2.2.2 G3.out.1 G3.out.2.2.1 G3.out.2.1).mono ?_) | fail)
          first | (rintro e W9y rfl hb) | (rintro e W9y ⟨rfl, hb⟩)
          replace HS5 := Lib.hid (HS5.out.keep hb)
          replace G3 := Lib.hid (G3.out.keep hb)
          replace G4 := Lib.hid (G4.out.keep hb)
          replace G5 := Lib.hid (G5.out.keep hb)
          replace G6 := Lib.hid (G6.out.keep hb)
          clear hb
          go_wp2_with (first | (go_at_call 26; refine (r26b _ _ _ _ ns4 x false G4.out.2.2.2.2.2 G4.out.1 G4.out.2.2.1 G4.out.2.1).mono ?_) | fail)
          first | (rintro e W9y rfl hb) | (rintro e W9y ⟨rfl, hb⟩)
          replace HS5 := Lib.hid (HS5.out.keep hb)
          replace G3 := Lib.hid (G3.out.keep hb)
          replace G4 := Lib.hid (G4.out.keep hb)
          replace G5 := Lib.hid (G5.out.keep hb)
          replace G6 := Lib.hid (G6.out.keep hb)
          clear hb
          go_wp2_with (first | (go_at_call 26; refine (r26b _ _ _ _ ns5 x false G5.out.2.2.2.2.2 G5.out.1 G5.out.2.2.1 G5.out.2.1).mono ?_) | fail)
          first | (rintro e W9y rfl hb) | (rintro e W9y ⟨rfl, hb⟩)
          replace HS5 := Lib.hid (HS5.out.keep hb)
          replace G3 := Lib.hid (G3.out.keep hb)
          replace G4 := Lib.hid (G4.out.keep hb)
          replace G5 := Lib.hid (G5.out.keep hb)
          replace G6 := Lib.hid (G6.out.keep hb)
          clear hb
          go_wp2_with (first | (go_at_call 26; refine (r26b _ _ _ _ ns6 x false G6.out.2.2.2.2.2 G6.out.1 G6.out.2.2.1 G6.out.2.1).mono ?_) | fail)
          first | (rintro e W9y rfl hb) | (rintro e W9y ⟨rfl, hb⟩)
          replace HS5 := Lib.hid (HS5.out.keep hb)
          replace G3 := Lib.hid (G3.out.keep hb)
          replace G4 := Lib.hid (G4.out.keep hb)
          replace G5 := Lib.hid (G5.out.keep hb)
          replace G6 := Lib.hid (G6.out.keep hb)
          clear hb
          go_wp2_with (first | (go_at_call 7; refine (wakes_any _).mono ?_) | fail)
          first | (rintro e W9y rfl hb) | (rintro e W9y ⟨rfl, hb⟩)
          replace HS5 := Lib.hid (HS5.out.keep hb)
          replace G3 := Lib.hid (G3.out.keep hb)
          replace G4 := Lib.hid (G4.out.keep hb)
          replace G5 := Lib.hid (G5.out.keep hb)
          replace G6 := Lib.hid (G6.out.keep hb)
          clear hb
          go_wp2_with fail
          go_ret
          exact ⟨rfl, by have := HS5.out.2.2.2; rwa [hB] at this⟩
      · cases q
        · go_wp2_with (first | (go_at_call 26; refine (r26b _ _ _ _ ns3 x false G3.out.2.2.2.2.2 G3.out.1 G3.out.2.2.1 G3.out.2.1).mono ?_) | fail)
          first | (rintro e W9y rfl hb) | (rintro e W9y ⟨rfl, hb⟩)
          replace HS5 := Lib.hid (HS5.out.keep hb)
          replace G3 := Lib.hid (G3.out.keep hb)
          replace G4 := Lib.hid (G4.out.keep hb)
          replace G5 := Lib.hid (G5.out.keep hb)
          replace G6 := Lib.hid (G6.out.keep hb)
          clear hb
          go_wp2_with (first | (go_at_call 26; refine (r26b _ _ _ _ ns4 x true G4.out.2.2.2.2.2 G4.out.1 G4.out.2.2.1 G4.out.2.1).mono ?_) | fail)
          first | (rintro e W9y rfl hb) | (rintro e W9y ⟨rfl, hb⟩)
          replace HS5 := Lib.hid (HS5.out.keep hb)
          replace G3 := Lib.hid (G3.out.keep hb)
          replace G4 := Lib.hid (G4.out.keep hb)
          replace G5 := Lib.hid (G5.out.keep hb)
          replace G6 := Lib.hid (G6.out.keep hb)
          clear hb
          go_wp2_with (first | (go_at_call 26; refine (r26b _ _ _ _ ns5 x true G5.out.2.2.2.2.2 G5.out.1 G5.out.2.2.1 G5.out.2.1).mono ?_) | fail)
          first | (rintro e W9y rfl hb) | (rintro e W9y ⟨rfl, hb⟩)
          replace HS5 := Lib.hid (HS5.out.keep hb)
          replace G3 := Lib.hid (G3.out.keep hb)
          replace G4 := Lib.hid (G4.out.keep hb)
          replace G5 := Lib.hid (G5.out.keep hb)
          replace G6 := Lib.hid (G6.out.keep hb)
          clear hb
          go_wp2_with (first | (go_at_call 26; refine (r26b _ _ _ _ ns6 x false G6.out.2.2.2.2.2 G6.out.1 G6.out.2.2.1 G6.out.2.1).mono ?_) | fail)
          first | (rintro e W9y rfl hb) | (rintro e W9y ⟨rfl, hb⟩)
          replace HS5 := Lib.hid (HS5.out.keep hb)
          replace G3 := Lib.hid (G3.out.keep hb)
          replace G4 := Lib.hid (G4.out.keep hb)
          replace G5 := Lib.hid (G5.out.keep hb)
          replace G6 := Lib.hid (G6.out.keep hb)
          clear hb
          go_wp2_with (first | (go_at_call 7; refine (wakes_any _).mono ?_) | fail)
          first | (rintro e W9y rfl hb) | (rintro e W9y ⟨rfl, hb⟩)
          replace HS5 := Lib.hid (HS5.out.keep hb)
          replace G3 := Lib.hid (G3.out.keep hb)
          replace G4 := Lib.hid (G4.out.keep hb)
          replace G5 := Lib.hid (G5.out.keep hb)
          replace G6 := Lib.hid (G6.out.keep hb)
          clear hb
          go_wp2_with fail
          go_ret
          exact ⟨rfl, by have := HS5.out.2.2.2; rwa [hB] at this⟩
        · go_wp2_with (first | (go_at_call 26; refine (r26b _ _ _ _ ns3 x false G3.out.2.2.2.2.2 G3.out.1 G3.out.2.2.1 G3.out.2.1).mono ?_) | fail)
          first | (rintro e W9y rfl hb) | (rintro e W9y ⟨rfl, hb⟩)
          replace HS5 := Lib.hid (HS5.out.keep hb)
          replace G3 := Lib.hid (G3.out.keep hb)
          replace G4 := Lib.hid (G4.out.keep hb)
          replace G5 := Lib.hid (G5.out.keep hb)
          replace G6 := Lib.hid (G6.out.keep hb)
          clear hb
          go_wp2_with (first | (go_at_call 26; refine (r26b _ _ _ _ ns4 x true G4.out.2.2.2.2.2 G4.out.1 G4.out.2.2.1 G4.out.2.1).mono ?_) | fail)
          first | (rintro e W9y rfl hb) | (rintro e W9y ⟨rfl, hb⟩)
          replace HS5 := Lib.hid (HS5.out.keep hb)
          replace G3 := Lib.hid (G3.out.keep hb)
          replace G4 := Lib.hid (G4.out.keep hb)
          replace G5 := Lib.hid (G5.out.keep hb)
          replace G6 := Lib.hid (G6.out.keep hb)
          clear hb
          go_wp2_with (first | (go_at_call 26; refine (r26b _ _ _ _ ns5 x true G5.out.2.2.2.2.2 G5.out.1 G5.out.2.2.1 G5.out.2.1).mono ?_) | fail)
          first | (rintro e W9y rfl hb) | (rintro e W9y ⟨rfl, hb⟩)
          replace HS5 := Lib.hid (HS5.out.keep hb)
          replace G3 := Lib.hid (G3.out.keep hb)
          replace G4 := Lib.hid (G4.out.keep hb)
          replace G5 := Lib.hid (G5.out.keep hb)
          replace G6 := Lib.hid (G6.out.keep hb)
          clear hb
          go_wp2_with (first | (go_at_call 26; refine (r26b _ _ _ _ ns6 x false G6.out.2.2.2.2.2 G6.out.1 G6.out.2.2.1 G6.out.2.1).mono ?_) | fail)
          first | (rintro e W9y rfl hb) | (rintro e W9y ⟨rfl, hb⟩)
          replace HS5 := Lib.hid (HS5.out.keep hb)
          replace G3 := Lib.hid (G3.out.keep hb)
          replace G4 := Lib.hid (G4.out.keep hb)
          replace G5 := Lib.hid (G5.out.keep hb)
          replace G6 := Lib.hid (G6.out.keep hb)
          clear hb
          go_wp2_with (first | (go_at_call 7; refine (wakes_any _).mono ?_) | fail)
          first | (rintro e W9y rfl hb) | (rintro e W9y ⟨rfl, hb⟩)
          replace HS5 := Lib.hid (HS5.out.keep hb)
          replace G3 := Lib.hid (G3.out.keep hb)
          replace G4 := Lib.hid (G4.out.keep hb)
          replace G5 := Lib.hid (G5.out.keep hb)
          replace G6 := Lib.hid (G6.out.keep hb)
          clear hb
          go_wp2_with fail
          go_ret
          exact ⟨rfl, by have := HS5.out.2.2.2; rwa [hB] at this⟩
    · cases t2
      · cases q
        · go_wp2_with (first | (go_at_call 26; refine (r26b _ _ _ _ ns3 x true G3.out.2.2.2.2.2 G3.out.1 G3.out.2.2.1 G3.out.2.1).mono ?_) | fail)
          first | (rintro e W9y rfl hb) | (rintro e W9y ⟨rfl, hb⟩)
          replace HS5 := Lib.hid (HS5.out.keep hb)
          replace G3 := Lib.hid (G3.out.keep hb)
          replace G4 := Lib.hid (G4.out.keep hb)
          replace G5 := Lib.hid (G5.out.keep hb)
          replace G6 := Lib.hid (G6.out.keep hb)
          clear hb
          go_wp2_with (first | (go_at_call 26; refine (r26b _ _ _ _ ns4 x true G4.out.2.2.2.2.2 G4.out.1 G4.out.2.2.1 G4.out.2.1).mono ?_) | fail)
          first | (rintro e W9y rfl hb) | (rintro e W9y ⟨rfl, hb⟩)
          replace HS5 := Lib.hid (HS5.out.keep hb)
          replace G3 := Lib.hid (G3.out.keep hb)
          replace G4 := Lib.hid (G4.out.keep hb)
          replace G5 := Lib.hid (G5.out.keep hb)
          replace G6 := Lib.hid (G6.out.keep hb)
          clear hb
          go_wp2_with (first | (go_at_call 26; refine (r26b _ _ _ _ ns5 x true G5.out.2.2.2.2.2 G5.out.1 G5.out.2.2.1 G5.out.2.1).mono ?_) | fail)
          first | (rintro e W9y rfl hb) | (rintro e W9y ⟨rfl, hb⟩)
          replace HS5 := Lib.hid (HS5.out.keep hb)
          replace G3 := Lib.hid (G3.out.keep hb)
          replace G4 := Lib.hid (G4.out.keep hb)
          replace G5 := Lib.hid (G5.out.keep hb)
          replace G6 := Lib.hid (G6.out.keep hb)
          clear hb
          go_wp2_with (first | (go_at_call 26; refine (r26b _ _ _ _ ns6 x true G6.out.2.2.2.2.2 G6.out.1 G6.out.2.2.1 G6.out.2.1).mono ?_) | fail)
          first | (rintro e W9y rfl hb) | (rintro e W9y ⟨rfl, hb⟩)
          replace HS5 := Lib.hid (HS5.out.keep hb)
          replace G3 := Lib.hid (G3.out.keep hb)
          replace G4 := Lib.hid (G4.out.keep hb)
          replace G5 := Lib.hid (G5.out.keep hb)
          replace G6 := Lib.hid (G6.out.keep hb)
          clear hb
          go_wp2_with (first | (go_at_call 7; refine (wakes_any _).mono ?_) | fail)
          first | (rintro e W9y rfl hb) | (rintro e W9y ⟨rfl, hb⟩)
          replace HS5 := Lib.hid (HS5.out.keep hb)
          replace G3 := Lib.hid (G3.out.keep hb)
          replace G4 := Lib.hid (G4.out.keep hb)
          replace G5 := Lib.hid (G5.out.keep hb)
          replace G6 := Lib.hid (G6.out.keep hb)
          clear hb
          go_wp2_with fail
          go_ret
          exact ⟨rfl, by have := HS5.out.2.2.2; rwa [hB] at this⟩
        · go_wp2_with (first | (go_at_call 26; refine (r26b _ _ _ _ ns3 x true G3.out.2.2.2.2.2 G3.out.1 G3.out.2.2.1 G3.out.2.1).mono ?_) | fail)
          first | (rintro e W9y rfl hb) | (rintro e W9y ⟨rfl, hb⟩)
          replace HS5 := Lib.hid (HS5.out.keep hb)
          replace G3 := Lib.hid (G3.out.keep hb)
          replace G4 := Lib.hid (G4.out.keep hb)
          replace G5 := Lib.hid (G5.out.keep hb)
          replace G6 := Lib.hid (G6.out.keep hb)
          clear hb
          go_wp2_with (first | (go_at_call 26; refine (r26b _ _ _ _ ns4 x true G4.out.2.2.2.2.2 G4.out.1 G4.out.2.2.1 G4.out.2.1).mono ?_) | fail)
          first | (rintro e W9y rfl hb) | (rintro e W9y ⟨rfl, hb⟩)
          replace HS5 := Lib.hid (HS5.out.keep hb)
          replace G3 := Lib.hid (G3.out.keep hb)
          replace G4 := Lib.hid (G4.out.keep hb)
          replace G5 := Lib.hid (G5.out.keep hb)
          replace G6 := Lib.hid (G6.out.keep hb)
          clear hb
          go_wp2_with (first | (go_at_call 26; refine (r26b _ _ _ _ ns5 x true G5.out.2.2.2.2.2 G5.out.1 G5.out.2.2.1 G5.out.2.1).mono ?_) | fail)
          first | (rintro e W9y rfl hb) | (rintro e W9y ⟨rfl, hb⟩)
          replace HS5 := Lib.hid (HS5.out.keep hb)
          replace G3 := Lib.hid (G3.out.keep hb)
          replace G4 := Lib.hid (G4.out.keep hb)
          replace G5 := Lib.hid (G5.out.keep hb)
          replace G6 := Lib.hid (G6.out.keep hb)
          clear hb
          go_wp2_with (first | (go_at_call 26; refine (r26b _ _ _ _ ns6 x false G6.out.2.2.2.2.2 G6.out.1 G6.out.2.2.1 G6.out.2.1).mono ?_) | fail)
          first | (rintro e W9y rfl hb) | (rintro e W9y ⟨rfl, hb⟩)
          replace HS5 := Lib.hid (HS5.out.keep hb)
          replace G3 := Lib.hid (G3.out.keep hb)
          replace G4 := Lib.hid (G4.out.keep hb)
          replace G5 := Lib.hid (G5.out.keep hb)
          replace G6 := Lib.hid (G6.out.keep hb)
          clear hb
          obtain ⟨d0, d1⟩ := HS5.out.2.2.1.c
          go_wp2_with (first | (go_at_call 19; refine (r19 _ _ _ _ zs lo hi (meets_hit HT.out.1 HQ.out.1 HQ.out.2) HP.out.2.1.1 (by omega) HS5.out.1).mono ?_) | fail)
          first | (rintro e W9y rfl hb) | (rintro e W9y ⟨rfl, hb⟩)
          replace HS5 := Lib.hid (HS5.out.keep hb)
          replace G3 := Lib.hid (G3.out.keep hb)
          replace G4 := Lib.hid (G4.out.keep hb)
          replace G5 := Lib.hid (G5.out.keep hb)
          replace G6 := Lib.hid (G6.out.keep hb)
          clear hb d0 d1
          go_wp2_with (first | (go_at_call 7; refine (wakes_any _).mono ?_) | fail)
          first | (rintro e W9y rfl hb) | (rintro e W9y ⟨rfl, hb⟩)
          replace HS5 := Lib.hid (HS5.out.keep hb)
          replace G3 := Lib.hid (G3.out.keep hb)
          replace G4 := Lib.hid (G4.out.keep hb)
          replace G5 := Lib.hid (G5.out.keep hb)
          replace G6 := Lib.hid (G6.out.keep hb)
          clear hb
          go_wp2_with fail
          go_ret
          exact ⟨rfl, by have := HS5.out.2.2.2; rwa [hB] at this⟩
      · cases q
        · go_wp2_with (first | (go_at_call 26; refine (r26b _ _ _ _ ns3 x true G3.out.2.2.2.2.2 G3.out.1 G3.out.2.2.1 G3.out.2.1).mono ?_) | fail)
          first | (rintro e W9y rfl hb) | (rintro e W9y ⟨rfl, hb⟩)
          replace HS5 := Lib.hid (HS5.out.keep hb)
          replace G3 := Lib.hid (G3.out.keep hb)
          replace G4 := Lib.hid (G4.out.keep hb)
          replace G5 := Lib.hid (G5.out.keep hb)
          replace G6 := Lib.hid (G6.out.keep hb)
          clear hb
          go_wp2_with (first | (go_at_call 26; refine (r26b _ _ _ _ ns4 x true G4.out.2.2.2.2.2 G4.out.1 G4.out.2.2.1 G4.out.2.1).mono ?_) | fail)
          first | (rintro e W9y rfl hb) | (rintro e W9y ⟨rfl, hb⟩)
          replace HS5 := Lib.hid (HS5.out.keep hb)
          replace G3 := Lib.hid (G3.out.keep hb)
          replace G4 := Lib.hid (G4.out.keep hb)
          replace G5 := Lib.hid (G5.out.keep hb)
          replace G6 := Lib.hid (G6.out.keep hb)
          clear hb
          go_wp2_with (first | (go_at_call 26; refine (r26b _ _ _ _ ns5 x true G5.out.2.2.2.2.2 G5.out.1 G5.out.2.2.1 G5.out.2.1).mono ?_) | fail)
          first | (rintro e W9y rfl hb) | (rintro e W9y ⟨rfl, hb⟩)
          replace HS5 := Lib.hid (HS5.out.keep hb)
          replace G3 := Lib.hid (G3.out.keep hb)
          replace G4 := Lib.hid (G4.out.keep hb)
          replace G5 := Lib.hid (G5.out.keep hb)
          replace G6 := Lib.hid (G6.out.keep hb)
          clear hb
          go_wp2_with (first | (go_at_call 26; refine (r26b _ _ _ _ ns6 x true G6.out.2.2.2.2.2 G6.out.1 G6.out.2.2.1 G6.out.2.1).mono ?_) | fail)
          first | (rintro e W9y rfl hb) | (rintro e W9y ⟨rfl, hb⟩)
          replace HS5 := Lib.hid (HS5.out.keep hb)
          replace G3 := Lib.hid (G3.out.keep hb)
          replace G4 := Lib.hid (G4.out.keep hb)
          replace G5 := Lib.hid (G5.out.keep hb)
          replace G6 := Lib.hid (G6.out.keep hb)
          clear hb
          go_wp2_with (first | (go_at_call 7; refine (wakes_any _).mono ?_) | fail)
          first | (rintro e W9y rfl hb) | (rintro e W9y ⟨rfl, hb⟩)
          replace HS5 := Lib.hid (HS5.out.keep hb)
          replace G3 := Lib.hid (G3.out.keep hb)
          replace G4 := Lib.hid (G4.out.keep hb)
          replace G5 := Lib.hid (G5.out.keep hb)
          replace G6 := Lib.hid (G6.out.keep hb)
          clear hb
          go_wp2_with fail
          go_ret
          exact ⟨rfl, by have := HS5.out.2.2.2; rwa [hB] at this⟩
        · go_wp2_with (first | (go_at_call 26; refine (r26b _ _ _ _ ns3 x true G3.out.2.2.2.2.2 G3.out.1 G3.out.2.2.1 G3.out.2.1).mono ?_) | fail)
          first | (rintro e W9y rfl hb) | (rintro e W9y ⟨rfl, hb⟩)
          replace HS5 := Lib.hid (HS5.out.keep hb)
          replace G3 := Lib.hid (G3.out.keep hb)
          replace G4 := Lib.hid (G4.out.keep hb)
          replace G5 := Lib.hid (G5.out.keep hb)
          replace G6 := Lib.hid (G6.out.keep hb)
          clear hb
          go_wp2_with (first | (go_at_call 26; refine (r26b _ _ _ _ ns4 x true G4.out.2.2.2.2.2 G4.out.1 G4.out.2.2.1 G4.out.2.1).mono ?_) | fail)
          first | (rintro e W9y rfl hb) | (rintro e W9y ⟨rfl, hb⟩)
          replace HS5 := Lib.hid (HS5.out.keep hb)
          replace G3 := Lib.hid (G3.out.keep hb)
          replace G4 := Lib.hid (G4.out.keep hb)
          replace G5 := Lib.hid (G5.out.keep hb)
          replace G6 := Lib.hid (G6.out.keep hb)
          clear hb
          go_wp2_with (first | (go_at_call 26; refine (r26b _ _ _ _ ns5 x true G5.out.2.2.2.2.2 G5.out.1 G5.out.2.2.1 G5.out.2.1).mono ?_) | fail)
          first | (rintro e W9y rfl hb) | (rintro e W9y ⟨rfl, hb⟩)
          replace HS5 := Lib.hid (HS5.out.keep hb)
          replace G3 := Lib.hid (G3.out.keep hb)
          replace G4 := Lib.hid (G4.out.keep hb)
          replace G5 := Lib.hid (G5.out.keep hb)
          replace G6 := Lib.hid (G6.out.keep hb)
          clear hb
          go_wp2_with (first | (go_at_call 26; refine (r26b _ _ _ _ ns6 x false G6.out.2.2.2.2.2 G6.out.1 G6.out.2.2.1 G6.out.2.1).mono ?_) | fail)
          first | (rintro e W9y rfl hb) | (rintro e W9y ⟨rfl, hb⟩)
          replace HS5 := Lib.hid (HS5.out.keep hb)
          replace G3 := Lib.hid (G3.out.keep hb)
          replace G4 := Lib.hid (G4.out.keep hb)
          replace G5 := Lib.hid (G5.out.keep hb)
          replace G6 := Lib.hid (G6.out.keep hb)
          clear hb
          obtain ⟨d0, d1⟩ := HS5.out.2.2.1.c
          go_wp2_with (first | (go_at_call 19; refine (r19 _ _ _ _ zs lo hi (meets_hit HT.out.1 HQ.out.1 HQ.out.2) HP.out.2.1.1 (by omega) HS5.out.1).mono ?_) | fail)
          first | (rintro e W9y rfl hb) | (rintro e W9y ⟨rfl, hb⟩)
          replace HS5 := Lib.hid (HS5.out.keep hb)
          replace G3 := Lib.hid (G3.out.keep hb)
          replace G4 := Lib.hid (G4.out.keep hb)
          replace G5 := Lib.hid (G5.out.keep hb)
          replace G6 := Lib.hid (G6.out.keep hb)
          clear hb d0 d1
          go_wp2_with (first | (go_at_call 7; refine (wakes_any _).mono ?_) | fail)
          first | (rintro e W9y rfl hb) | (rintro e W9y ⟨rfl, hb⟩)
          replace HS5 := Lib.hid (HS5.out.keep hb)
          replace G3 := Lib.hid (G3.out.keep hb)
          replace G4 := Lib.hid (G4.out.keep hb)
          replace G5 := Lib.hid (G5.out.keep hb)
          replace G6 := Lib.hid (G6.out.keep hb)
          clear hb
          go_wp2_with fail
          go_ret
          exact ⟨rfl, by have := HS5.out.2.2.2; rwa [hB] at this⟩
end Go.Proofs.Ytaaflkjdcablcaa
