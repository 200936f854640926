/- DirtBack's walk. -/
import Derived.Test.YtaaflkjdcablcaaBk
namespace Go.Proofs.Ytaaflkjdcablcaa
open Go.RowKit Go.Shelf
set_option linter.unusedVariables false
set_option linter.unusedSimpArgs false
attribute [local go_sem] Oper.semAt_some
/-- What the walk keeps: the row, the range. -/
def LB (w : World) (a : Option Addr) (k cap : Nat) (zs : List Rg) (b lo hi : Nat) (W : World) : Prop := RW W a k cap zs ∧ RB W b lo hi ∧ Below w.heap.size w W
theorem LB.keep {w W W' : World} {a : Option Addr} {k cap : Nat} {zs : List Rg} {b lo hi : Nat} (h : LB w a k cap zs b lo hi W) (hb : Below W.heap.size W W') : LB w a k cap zs b lo hi W' := ⟨h.1.keep hb, h.2.1.keep hb, h.2.2.trans (hb.mono h.2.2.size)⟩
theorem LB.drew {w W : World} {a : Option Addr} {k cap : Nat} {zs : List Rg} {b lo hi : Nat} (h : LB w a k cap zs b lo hi W) : LB w a k cap zs b lo hi W.drew := ⟨h.1, h.2.1, h.2.2.drew⟩
theorem LB.c {w W : World} {a : Option Addr} {k cap : Nat} {zs : List Rg} {b lo hi : Nat} (h : LB w a k cap zs b lo hi W) : W.cell? ⟨b, 0, none⟩ = some (.int .u64 (lo : Nat)) ∧ W.cell? ⟨b, 1, none⟩ = some (.int .u64 (hi : Nat)) := h.2.1.c
theorem add_none {zs ns ms : List Rg} {lo hi : Nat} (h : ¬ lo ≤ hi) (hn : rightL ns = true) (hm : rightL ms = true) (h1 : ∀ x, hasL ns x = hasL zs x) (h2 : ∀ x, hasL ms x = (hasL zs x || hasL [(lo, hi)] x)) : decide (ms = ns) = true := same_of hm hn fun x => by
  rw [h1, h2, hasL_one]
  show (hasL zs x || (decide (lo ≤ x) && decide (x ≤ hi))) = hasL zs x
  rw [not_in h, Bool.or_false]
theorem sub_none {zs ns ss : List Rg} {lo hi : Nat} (h : ¬ lo ≤ hi) (hn : rightL ns = true) (hs : rightL ss = true) (h1 : ∀ x, hasL ns x = hasL zs x) (h2 : ∀ x, hasL ss x = (hasL zs x && !(decide (lo ≤ x) && decide (x ≤ hi)))) : decide (ss = ns) = true := by
  rw [meets_sub hn hs h1 h2, meets_not h]; rfl
theorem add_both {zs ss ms ks : List Rg} {lo hi : Nat} (hm : rightL ms = true) (hk : rightL ks = true) (h0 : ∀ x, hasL ss x = (hasL zs x && !(decide (lo ≤ x) && decide (x ≤ hi)))) (h1 : ∀ x, hasL ms x = (hasL ss x || hasL [(lo, hi)] x)) (h2 : ∀ x, hasL ks x = (hasL zs x || hasL [(lo, hi)] x)) : decide (ms = ks) = true := same_of hm hk fun x => by
  rw [h1, h2, h0, hasL_one]
  show (hasL zs x && !(decide (lo ≤ x) && decide (x ≤ hi)) || (decide (lo ≤ x) && decide (x ≤ hi))) = (hasL zs x || (decide (lo ≤ x) && decide (x ≤ hi)))
  cases hasL zs x <;> cases (decide (lo ≤ x) && decide (x ≤ hi)) <;> rfl
set_option maxRecDepth 100000 in
set_option maxHeartbeats 16000000 in
theorem back_small (a : Option Addr) (n cap : Nat) (zs : List Rg) (hn : n ≤ 60) (lo hi : Nat) (hlu : U lo) (hhu : U hi) (w : World) (hR : RW w a n cap zs) :
    Calls Try.prog 6 #[.slice a n cap, .agg #[.int .u64 (lo : Nat), .int .u64 (hi : Nat)]] w fun e w' => e = .returned (.bool true) ∧ Below w.heap.size w w' := by
  have hb0 := (Below.refl w.heap.size w).alloc (Nat.le_refl _) (.cells #[.int .u64 (lo : Nat), .int .u64 (hi : Nat)] 25)
  have HS := Lib.hid (show LB w a n cap zs w.heap.size lo hi _ from ⟨hR.keep hb0, RB.new w lo hi, hb0⟩)
  have HP := Lib.hid (And.intro hn (And.intro hlu hhu))
  clear hb0 hlu hhu hR
  generalize hB : w.heap.size = B at HS ⊢
  go_enter Try.func6, Try.ntmps6
  go_upto_region 1 with fail
  generalize World.alloc w _ = W1 at HS ⊢
  go_upto_region 3 with fail
  refine wp_region_noPanic ?_
  refine wp_region_held_drew (S := fun W : World => LB w a n cap zs B lo hi W) (by kernel_rfl) ?_ (fun hHeld => ?_)
  · exact HS.out.drew
  clear HS
  generalize World.drew _ = W2 at hHeld ⊢
  refine wpAnyH_take (i := 0) (v := ?_) rfl (by kernel_rfl) (by kernel_rfl) (by kernel_rfl) (fun _ _ _ h => h) (Or.inl ⟨by kernel_rfl, ?_⟩) (by assumption) ?_
  rotate_left
  · intro wv hSw
    go_simp
    try with_reducible rfl
  simp only [Act.put, List.setIfInBounds_toArray, List.set_cons_zero, List.set_cons_succ, List.getElem_toArray, List.getElem_cons_succ, List.getElem_cons_zero]
  refine wpAnyH_take (i := 2) (v := ?_) rfl (by kernel_rfl) (by kernel_rfl) (by kernel_rfl) (fun _ _ _ h => h) (Or.inl ⟨by kernel_rfl, ?_⟩) (by assumption) ?_
  rotate_left
  · intro wv hSw
    go_simp
    try with_reducible rfl
  simp only [Act.put, List.setIfInBounds_toArray, List.set_cons_zero, List.set_cons_succ, List.getElem_toArray, List.getElem_cons_succ, List.getElem_cons_zero]
  refine wpAnyH_take (i := 3) (v := ?_) rfl (by kernel_rfl) (by kernel_rfl) (by kernel_rfl) (fun _ _ _ h => h) (Or.inl ⟨by kernel_rfl, ?_⟩) (by assumption) ?_
  rotate_left
  · intro wv hSw
    obtain ⟨c0, c1⟩ := hSw.2.1.c
    go_simp
    try with_reducible rfl
  simp only [Act.put, List.setIfInBounds_toArray, List.set_cons_zero, List.set_cons_succ, List.getElem_toArray, List.getElem_cons_succ, List.getElem_cons_zero]
  refine wpAnyH_ready (rs := [1]) (by kernel_rfl) (by simp) ?_
  refine AllReadyH.cons rfl (fun K hK => ?_) AllReadyH.nil
  go_simp
  go_at_call 11
  refine (q11 _ _ _ _ zs hHeld.1).mono ?_
  rintro e W21 ⟨a3, k3, cap3, ns3, rfl, hg, hk, hr, hp, hb⟩
  have G3 := Lib.hid hg
  have P3 := Lib.hid (And.intro hk (And.intro hr hp))
  clear hg hk hr hp
  refine hK.out _ _ (hHeld.keep hb) (fun hHeld2 => ?_)
  clear hK K hHeld hb
  have hHeld := hHeld2
  clear hHeld2
  try simp only [Act.put, List.setIfInBounds_toArray, List.set_cons_zero, List.set_cons_succ, List.getElem_toArray, List.getElem_cons_succ, List.getElem_cons_zero]
  refine wpAnyH_ready (rs := [4]) (by kernel_rfl) (by simp) ?_
  refine AllReadyH.cons rfl (fun K hK => ?_) AllReadyH.nil
  go_simp
  go_at_call 15
  refine (q15 _ _ _ _ zs lo hi HP.out.2.1 HP.out.2.2 (by omega) hHeld.1).mono ?_
  rintro e W22 ⟨a4, k4, cap4, ns4, rfl, hg, hk, hr, hp, hb⟩
  have G4 := Lib.hid hg
  have P4 := Lib.hid (And.intro hk (And.intro hr hp))
  clear hg hk hr hp
  replace G3 := Lib.hid (G3.out.keep hb)
  refine hK.out _ _ (hHeld.keep hb) (fun hHeld2 => ?_)
  clear hK K hHeld hb
  have hHeld := hHeld2
  clear hHeld2
  try simp only [Act.put, List.setIfInBounds_toArray, List.set_cons_zero, List.set_cons_succ, List.getElem_toArray, List.getElem_cons_succ, List.getElem_cons_zero]
  refine wpAnyH_take (i := 5) (v := ?_) rfl (by kernel_rfl) (by kernel_rfl) (by kernel_rfl) (fun _ _ _ h => h) (Or.inl ⟨by kernel_rfl, ?_⟩) (by assumption) ?_
  rotate_left
  · intro wv hSw
    go_simp
    try with_reducible rfl
  simp only [Act.put, List.setIfInBounds_toArray, List.set_cons_zero, List.set_cons_succ, List.getElem_toArray, List.getElem_cons_succ, List.getElem_cons_zero]
  refine wpAnyH_take (i := 6) (v := ?_) rfl (by kernel_rfl) (by kernel_rfl) (by kernel_rfl) (fun _ _ _ h => h) (Or.inl ⟨by kernel_rfl, ?_⟩) (by assumption) ?_
  rotate_left
  · intro wv hSw
    go_simp
    try with_reducible rfl
  simp only [Act.put, List.setIfInBounds_toArray, List.set_cons_zero, List.set_cons_succ, List.getElem_toArray, List.getElem_cons_succ, List.getElem_cons_zero]
  refine wpAnyH_done (by kernel_rfl) ?_ _
  refine NoPanic.normal ?_
  have HS := Lib.hid hHeld
  clear hHeld
  obtain ⟨d0, d1⟩ := HS.out.2.1.c
  have hk4 : k4 ≤ 120 := by have := P4.out.1; omega
  by_cases hle : lo ≤ hi
  · obtain ⟨m, hm⟩ : ∃ m, meetsL zs lo hi = m := ⟨_, rfl⟩
    have HM := Lib.hid hm
    clear hm
    have hle' : ¬ hi < lo := by omega
    go_upto_region 6 with fail
    refine wp_region_noPanic ?_
    refine wp_region_held_drew (S := fun W : World => LB w a n cap zs B lo hi W) (by kernel_rfl) ?_ (fun hHeld => ?_)
    · exact HS.out.drew
    clear HS d0 d1
    have G3 := Lib.hid G3.out.drew
    have G4 := Lib.hid G4.out.drew
    generalize World.drew _ = W40 at *
    refine wpAnyH_take (i := 0) (v := ?_) rfl (by kernel_rfl) (by kernel_rfl) (by kernel_rfl) (fun _ _ _ h => h) (Or.inl ⟨by kernel_rfl, ?_⟩) (by assumption) ?_
    rotate_left
    · intro wv hSw
      go_simp
      try with_reducible rfl
    simp only [Act.put, List.setIfInBounds_toArray, List.set_cons_zero, List.set_cons_succ, List.getElem_toArray, List.getElem_cons_succ, List.getElem_cons_zero]
    refine wpAnyH_take (i := 1) (v := ?_) rfl (by kernel_rfl) (by kernel_rfl) (by kernel_rfl) (fun _ _ _ h => h) (Or.inl ⟨by kernel_rfl, ?_⟩) (by assumption) ?_
    rotate_left
    · intro wv hSw
      obtain ⟨c0, c1⟩ := hSw.2.1.c
      go_simp
      try with_reducible rfl
    simp only [Act.put, List.setIfInBounds_toArray, List.set_cons_zero, List.set_cons_succ, List.getElem_toArray, List.getElem_cons_succ, List.getElem_cons_zero]
    refine wpAnyH_take (i := 4) (v := ?_) rfl (by kernel_rfl) (by kernel_rfl) (by kernel_rfl) (fun _ _ _ h => h) (Or.inl ⟨by kernel_rfl, ?_⟩) (by assumption) ?_
    rotate_left
    · intro wv hSw
      go_simp
      try with_reducible rfl
    simp only [Act.put, List.setIfInBounds_toArray, List.set_cons_zero, List.set_cons_succ, List.getElem_toArray, List.getElem_cons_succ, List.getElem_cons_zero]
    refine wpAnyH_take (i := 5) (v := ?_) rfl (by kernel_rfl) (by kernel_rfl) (by kernel_rfl) (fun _ _ _ h => h) (Or.inl ⟨by kernel_rfl, ?_⟩) (by assumption) ?_
    rotate_left
    · intro wv hSw
      obtain ⟨c0, c1⟩ := hSw.2.1.c
      go_simp
      try with_reducible rfl
    simp only [Act.put, List.setIfInBounds_toArray, List.set_cons_zero, List.set_cons_succ, List.getElem_toArray, List.getElem_cons_succ, List.getElem_cons_zero]
    refine wpAnyH_ready (rs := [2, 6]) (by kernel_rfl) (by simp) ?_
    refine AllReadyH.cons rfl (fun K hK => ?_) (AllReadyH.cons rfl (fun K hK => ?_) AllReadyH.nil)
    · go_simp
      have hba := (Below.refl W40.heap.size W40).alloc (Nat.le_refl _) (.cells #[.int .u64 (lo : Nat), .int .u64 (hi : Nat)] 25)
      have G5 := Lib.hid (rw1 (RB.new W40 lo hi) HP.out.2.1 HP.out.2.2)
      replace G3 := Lib.hid (G3.out.keep hba)
      replace G4 := Lib.hid (G4.out.keep hba)
      refine hK.out _ _ (hHeld.keep hba) (fun hHeld2 => ?_)
      clear hK K hHeld hba
      have hHeld := hHeld2
      clear hHeld2
      try simp only [Act.put, List.setIfInBounds_toArray, List.set_cons_zero, List.set_cons_succ, List.getElem_toArray, List.getElem_cons_succ, List.getElem_cons_zero]
      generalize W40.heap.size = b5 at *
      generalize World.alloc W40 _ = W41 at *
      refine wpAnyH_ready (rs := [3, 6]) (by kernel_rfl) (by simp) ?_
      refine AllReadyH.cons rfl (fun K hK => ?_) (AllReadyH.cons rfl (fun K hK => ?_) AllReadyH.nil)
      · go_simp
        go_at_call 13
        refine (q13 13 (Or.inl rfl) _ _ _ _ ns4 _ _ _ [(lo, hi)] G4.out G5.out (by omega)).mono ?_
        rintro e W42 ⟨a7, k7, cap7, ns7, rfl, hg, hk, hr, hp, hb⟩
        have G7 := Lib.hid hg
        have P7 := Lib.hid (And.intro hk (And.intro hr hp))
        clear hg hk hr hp
        replace G3 := Lib.hid (G3.out.keep hb)
        replace G4 := Lib.hid (G4.out.keep hb)
        replace G5 := Lib.hid (G5.out.keep hb)
        refine hK.out _ _ (hHeld.keep hb) (fun hHeld2 => ?_)
        clear hK K hHeld hb
        have hHeld := hHeld2
        clear hHeld2
        try simp only [Act.put, List.setIfInBounds_toArray, List.set_cons_zero, List.set_cons_succ, List.getElem_toArray, List.getElem_cons_succ, List.getElem_cons_zero]
        refine wpAnyH_ready (rs := [6]) (by kernel_rfl) (by simp) ?_
        refine AllReadyH.cons rfl (fun K hK => ?_) AllReadyH.nil
        go_simp
        have hba := (Below.refl W42.heap.size W42).alloc (Nat.le_refl _) (.cells #[.int .u64 (lo : Nat), .int .u64 (hi : Nat)] 25)
        have G6 := Lib.hid (rw1 (RB.new W42 lo hi) HP.out.2.1 HP.out.2.2)
        replace G3 := Lib.hid (G3.out.keep hba)
        replace G4 := Lib.hid (G4.out.keep hba)
        replace G5 := Lib.hid (G5.out.keep hba)
        replace G7 := Lib.hid (G7.out.keep hba)
        refine hK.out _ _ (hHeld.keep hba) (fun hHeld2 => ?_)
        clear hK K hHeld hba
        have hHeld := hHeld2
        clear hHeld2
        try simp only [Act.put, List.setIfInBounds_toArray, List.set_cons_zero, List.set_cons_succ, List.getElem_toArray, List.getElem_cons_succ, List.getElem_cons_zero]
        generalize W42.heap.size = b6 at *
        generalize World.alloc W42 _ = W43 at *
        refine wpAnyH_ready (rs := [7]) (by kernel_rfl) (by simp) ?_
        refine AllReadyH.cons rfl (fun K hK => ?_) AllReadyH.nil
        go_simp
        go_at_call 13
        refine (q13 13 (Or.inl rfl) _ _ _ _ zs _ _ _ [(lo, hi)] hHeld.1 G6.out (by omega)).mono ?_
        rintro e W44 ⟨a8, k8, cap8, ns8, rfl, hg, hk, hr, hp, hb⟩
        have G8 := Lib.hid hg
        have P8 := Lib.hid (And.intro hk (And.intro hr hp))
        clear hg hk hr hp
        replace G3 := Lib.hid (G3.out.keep hb)
        replace G4 := Lib.hid (G4.out.keep hb)
        replace G5 := Lib.hid (G5.out.keep hb)
        replace G7 := Lib.hid (G7.out.keep hb)
        replace G6 := Lib.hid (G6.out.keep hb)
        refine hK.out _ _ (hHeld.keep hb) (fun hHeld2 => ?_)
        clear hK K hHeld hb
        have hHeld := hHeld2
        clear hHeld2
        try simp only [Act.put, List.setIfInBounds_toArray, List.set_cons_zero, List.set_cons_succ, List.getElem_toArray, List.getElem_cons_succ, List.getElem_cons_zero]
        refine wpAnyH_ready (rs := [8]) (by kernel_rfl) (by simp) ?_
        refine AllReadyH.cons rfl (fun K hK => ?_) AllReadyH.nil
        go_simp
        go_at_call 10
        refine (q10 _ _ _ _ ns7 _ _ _ ns8 true (add_both P7.out.2.1 P8.out.2.1 P4.out.2.2 P7.out.2.2 P8.out.2.2) G7.out G8.out).mono ?_
        rintro e W45 ⟨rfl, hb⟩
        replace G3 := Lib.hid (G3.out.keep hb)
        replace G4 := Lib.hid (G4.out.keep hb)
        replace G5 := Lib.hid (G5.out.keep hb)
        replace G7 := Lib.hid (G7.out.keep hb)
        replace G6 := Lib.hid (G6.out.keep hb)
        replace G8 := Lib.hid (G8.out.keep hb)
        refine hK.out _ _ (hHeld.keep hb) (fun hHeld2 => ?_)
        clear hK K hHeld hb
        have hHeld := hHeld2
        clear hHeld2
        try simp only [Act.put, List.setIfInBounds_toArray, List.set_cons_zero, List.set_cons_succ, List.getElem_toArray, List.getElem_cons_succ, List.getElem_cons_zero]
        refine wpAnyH_take (i := 9) (v := ?_) rfl (by kernel_rfl) (by kernel_rfl) (by kernel_rfl) (fun _ _ _ h => h) (Or.inl ⟨by kernel_rfl, ?_⟩) (by assumption) ?_
        rotate_left
        · intro wv hSw
          go_simp
          try with_reducible rfl
        simp only [Act.put, List.setIfInBounds_toArray, List.set_cons_zero, List.set_cons_succ, List.getElem_toArray, List.getElem_cons_succ, List.getElem_cons_zero]
        refine wpAnyH_take (i := 10) (v := ?_) rfl (by kernel_rfl) (by kernel_rfl) (by kernel_rfl) (fun _ _ _ h => h) (Or.inl ⟨by kernel_rfl, ?_⟩) (by assumption) ?_
        rotate_left
        · intro wv hSw
          go_simp
          try with_reducible rfl
        simp only [Act.put, List.setIfInBounds_toArray, List.set_cons_zero, List.set_cons_succ, List.getElem_toArray, List.getElem_cons_succ, List.getElem_cons_zero]
        refine wpAnyH_take (i := 11) (v := ?_) rfl (by kernel_rfl) (by kernel_rfl) (by kernel_rfl) (fun _ _ _ h => h) (Or.inl ⟨by kernel_rfl, ?_⟩) (by assumption) ?_
        rotate_left
        · intro wv hSw
          obtain ⟨c0, c1⟩ := hSw.2.1.c
          go_simp
          try with_reducible rfl
        simp only [Act.put, List.setIfInBounds_toArray, List.set_cons_zero, List.set_cons_succ, List.getElem_toArray, List.getElem_cons_succ, List.getElem_cons_zero]
        refine wpAnyH_take (i := 13) (v := ?_) rfl (by kernel_rfl) (by kernel_rfl) (by kernel_rfl) (fun _ _ _ h => h) (Or.inl ⟨by kernel_rfl, ?_⟩) (by assumption) ?_
        rotate_left
        · intro wv hSw
          go_simp
          try with_reducible rfl
        simp only [Act.put, List.setIfInBounds_toArray, List.set_cons_zero, List.set_cons_succ, List.getElem_toArray, List.getElem_cons_succ, List.getElem_cons_zero]
        refine wpAnyH_take (i := 14) (v := ?_) rfl (by kernel_rfl) (by kernel_rfl) (by kernel_rfl) (fun _ _ _ h => h) (Or.inl ⟨by kernel_rfl, ?_⟩) (by assumption) ?_
        rotate_left
        · intro wv hSw
          go_simp
          try with_reducible rfl
        simp only [Act.put, List.setIfInBounds_toArray, List.set_cons_zero, List.set_cons_succ, List.getElem_toArray, List.getElem_cons_succ, List.getElem_cons_zero]
        refine wpAnyH_ready (rs := [12]) (by kernel_rfl) (by simp) ?_
        refine AllReadyH.cons rfl (fun K hK => ?_) AllReadyH.nil
        go_simp
        go_at_call 19
        refine (q19 _ _ _ _ zs lo hi m HM.out hHeld.1).mono ?_
        rintro e W46 ⟨rfl, hb⟩
        replace G3 := Lib.hid (G3.out.keep hb)
        replace G4 := Lib.hid (G4.out.keep hb)
        replace G5 := Lib.hid (G5.out.keep hb)
        replace G7 := Lib.hid (G7.out.keep hb)
        replace G6 := Lib.hid (G6.out.keep hb)
        replace G8 := Lib.hid (G8.out.keep hb)
        refine hK.out _ _ (hHeld.keep hb) (fun hHeld2 => ?_)
        clear hK K hHeld hb
        have hHeld := hHeld2
        clear hHeld2
        try simp only [Act.put, List.setIfInBounds_toArray, List.set_cons_zero, List.set_cons_succ, List.getElem_toArray, List.getElem_cons_succ, List.getElem_cons_zero]
        refine wpAnyH_ready (rs := [15]) (by kernel_rfl) (by simp) ?_
        refine AllReadyH.cons rfl (fun K hK => ?_) AllReadyH.nil
        go_simp
        go_at_call 10
        refine (q10 _ _ _ _ ns4 _ _ _ ns3 (!m) (by rw [← HM.out]; exact meets_sub P3.out.2.1 P4.out.2.1 P3.out.2.2 P4.out.2.2) G4.out G3.out).mono ?_
        rintro e W47 ⟨rfl, hb⟩
        replace G3 := Lib.hid (G3.out.keep hb)
        replace G4 := Lib.hid (G4.out.keep hb)
        replace G5 := Lib.hid (G5.out.keep hb)
        replace G7 := Lib.hid (G7.out.keep hb)
        replace G6 := Lib.hid (G6.out.keep hb)
        replace G8 := Lib.hid (G8.out.keep hb)
        refine hK.out _ _ (hHeld.keep hb) (fun hHeld2 => ?_)
        clear hK K hHeld hb
        have hHeld := hHeld2
        clear hHeld2
        try simp only [Act.put, List.setIfInBounds_toArray, List.set_cons_zero, List.set_cons_succ, List.getElem_toArray, List.getElem_cons_succ, List.getElem_cons_zero]
        refine wpAnyH_take (i := 16) (v := ?_) rfl (by kernel_rfl) (by kernel_rfl) (by kernel_rfl) (fun _ _ _ h => h) (Or.inl ⟨by kernel_rfl, ?_⟩) (by assumption) ?_
        rotate_left
        · intro wv hSw
          go_simp
          try with_reducible rfl
        simp only [Act.put, List.setIfInBounds_toArray, List.set_cons_zero, List.set_cons_succ, List.getElem_toArray, List.getElem_cons_succ, List.getElem_cons_zero]
        refine wpAnyH_take (i := 17) (v := ?_) rfl (by kernel_rfl) (by kernel_rfl) (by kernel_rfl) (fun _ _ _ h => h) (Or.inl ⟨by kernel_rfl, ?_⟩) (by assumption) ?_
        rotate_left
        · intro wv hSw
          go_simp
          try with_reducible rfl
        simp only [Act.put, List.setIfInBounds_toArray, List.set_cons_zero, List.set_cons_succ, List.getElem_toArray, List.getElem_cons_succ, List.getElem_cons_zero]
        refine wpAnyH_take (i := 18) (v := ?_) rfl (by kernel_rfl) (by kernel_rfl) (by kernel_rfl) (fun _ _ _ h => h) (Or.inl ⟨by kernel_rfl, ?_⟩) (by assumption) ?_
        rotate_left
        · intro wv hSw
          go_simp
          try with_reducible rfl
        simp only [Act.put, List.setIfInBounds_toArray, List.set_cons_zero, List.set_cons_succ, List.getElem_toArray, List.getElem_cons_succ, List.getElem_cons_zero]
        refine wpAnyH_take (i := 19) (v := ?_) rfl (by kernel_rfl) (by kernel_rfl) (by kernel_rfl) (fun _ _ _ h => h) (Or.inl ⟨by kernel_rfl, ?_⟩) (by assumption) ?_
        rotate_left
        · intro wv hSw
          go_simp
          try with_reducible rfl
        simp only [Act.put, List.setIfInBounds_toArray, List.set_cons_zero, List.set_cons_succ, List.getElem_toArray, List.getElem_cons_succ, List.getElem_cons_zero]
        refine wpAnyH_take (i := 20) (v := ?_) rfl (by kernel_rfl) (by kernel_rfl) (by kernel_rfl) (fun _ _ _ h => h) (Or.inl ⟨by kernel_rfl, ?_⟩) (by assumption) ?_
        rotate_left
        · intro wv hSw
          go_simp
          try with_reducible rfl
        simp only [Act.put, List.setIfInBounds_toArray, List.set_cons_zero, List.set_cons_succ, List.getElem_toArray, List.getElem_cons_succ, List.getElem_cons_zero]
        refine wpAnyH_take (i := 21) (v := ?_) rfl (by kernel_rfl) (by kernel_rfl) (by kernel_rfl) (fun _ _ _ h => h) (Or.inl ⟨by kernel_rfl, ?_⟩) (by assumption) ?_
        rotate_left
        · intro wv hSw
          obtain ⟨c0, c1⟩ := hSw.2.1.c
          go_simp
          try with_reducible rfl
        simp only [Act.put, List.setIfInBounds_toArray, List.set_cons_zero, List.set_cons_succ, List.getElem_toArray, List.getElem_cons_succ, List.getElem_cons_zero]
        refine wpAnyH_ready (rs := [22]) (by kernel_rfl) (by simp) ?_
        refine AllReadyH.cons rfl (fun K hK => ?_) AllReadyH.nil
        go_simp
        go_at_call 19
        refine (q19 _ _ _ _ ns4 lo hi false (meets_gone P4.out.2.2) G4.out).mono ?_
        rintro e W48 ⟨rfl, hb⟩
        replace G3 := Lib.hid (G3.out.keep hb)
        replace G4 := Lib.hid (G4.out.keep hb)
        replace G5 := Lib.hid (G5.out.keep hb)
        replace G7 := Lib.hid (G7.out.keep hb)
        replace G6 := Lib.hid (G6.out.keep hb)
        replace G8 := Lib.hid (G8.out.keep hb)
        refine hK.out _ _ (hHeld.keep hb) (fun hHeld2 => ?_)
        clear hK K hHeld hb
        have hHeld := hHeld2
        clear hHeld2
        try simp only [Act.put, List.setIfInBounds_toArray, List.set_cons_zero, List.set_cons_succ, List.getElem_toArray, List.getElem_cons_succ, List.getElem_cons_zero]
        refine wpAnyH_take (i := 23) (v := ?_) rfl (by kernel_rfl) (by kernel_rfl) (by kernel_rfl) (fun _ _ _ h => h) (Or.inl ⟨by kernel_rfl, ?_⟩) (by assumption) ?_
        rotate_left
        · intro wv hSw
          go_simp
          try with_reducible rfl
        simp only [Act.put, List.setIfInBounds_toArray, List.set_cons_zero, List.set_cons_succ, List.getElem_toArray, List.getElem_cons_succ, List.getElem_cons_zero]
        refine wpAnyH_take (i := 24) (v := ?_) rfl (by kernel_rfl) (by kernel_rfl) (by kernel_rfl) (fun _ _ _ h => h) (Or.inl ⟨by kernel_rfl, ?_⟩) (by assumption) ?_
        rotate_left
        · intro wv hSw
          go_simp
          try with_reducible rfl
        simp only [Act.put, List.setIfInBounds_toArray, List.set_cons_zero, List.set_cons_succ, List.getElem_toArray, List.getElem_cons_succ, List.getElem_cons_zero]
        refine wpAnyH_take (i := 25) (v := ?_) rfl (by kernel_rfl) (by kernel_rfl) (by kernel_rfl) (fun _ _ _ h => h) (Or.inl ⟨by kernel_rfl, ?_⟩) (by assumption) ?_
        rotate_left
        · intro wv hSw
          go_simp
          try with_reducible rfl
        simp only [Act.put, List.setIfInBounds_toArray, List.set_cons_zero, List.set_cons_succ, List.getElem_toArray, List.getElem_cons_succ, List.getElem_cons_zero]
        refine wpAnyH_take (i := 26) (v := ?_) rfl (by kernel_rfl) (by kernel_rfl) (by kernel_rfl) (fun _ _ _ h => h) (Or.inl ⟨by kernel_rfl, ?_⟩) (by assumption) ?_
        rotate_left
        · intro wv hSw
          go_simp
          try with_reducible rfl
        simp only [Act.put, List.setIfInBounds_toArray, List.set_cons_zero, List.set_cons_succ, List.getElem_toArray, List.getElem_cons_succ, List.getElem_cons_zero]
        refine wpAnyH_take (i := 27) (v := ?_) rfl (by kernel_rfl) (by kernel_rfl) (by kernel_rfl) (fun _ _ _ h => h) (Or.inl ⟨by kernel_rfl, ?_⟩) (by assumption) ?_
        rotate_left
        · intro wv hSw
          go_simp
          try with_reducible rfl
        simp only [Act.put, List.setIfInBounds_toArray, List.set_cons_zero, List.set_cons_succ, List.getElem_toArray, List.getElem_cons_succ, List.getElem_cons_zero]
        refine wpAnyH_ready (rs := [28]) (by kernel_rfl) (by simp) ?_
        refine AllReadyH.cons rfl (fun K hK => ?_) AllReadyH.nil
        go_simp
        go_at_call 21
        refine (q21 _ _ _ _ ns4 _ _ _ zs true (sub_in P4.out.2.2) G4.out hHeld.1).mono ?_
        rintro e W49 ⟨rfl, hb⟩
        replace G3 := Lib.hid (G3.out.keep hb)
        replace G4 := Lib.hid (G4.out.keep hb)
        replace G5 := Lib.hid (G5.out.keep hb)
        replace G7 := Lib.hid (G7.out.keep hb)
        replace G6 := Lib.hid (G6.out.keep hb)
        replace G8 := Lib.hid (G8.out.keep hb)
        refine hK.out _ _ (hHeld.keep hb) (fun hHeld2 => ?_)
        clear hK K hHeld hb
        have hHeld := hHeld2
        clear hHeld2
        try simp only [Act.put, List.setIfInBounds_toArray, List.set_cons_zero, List.set_cons_succ, List.getElem_toArray, List.getElem_cons_succ, List.getElem_cons_zero]
        refine wpAnyH_take (i := 29) (v := ?_) rfl (by kernel_rfl) (by kernel_rfl) (by kernel_rfl) (fun _ _ _ h => h) (Or.inl ⟨by kernel_rfl, ?_⟩) (by assumption) ?_
        rotate_left
        · intro wv hSw
          go_simp
          try with_reducible rfl
        simp only [Act.put, List.setIfInBounds_toArray, List.set_cons_zero, List.set_cons_succ, List.getElem_toArray, List.getElem_cons_succ, List.getElem_cons_zero]
        refine wpAnyH_take (i := 30) (v := ?_) rfl (by kernel_rfl) (by kernel_rfl) (by kernel_rfl) (fun _ _ _ h => h) (Or.inl ⟨by kernel_rfl, ?_⟩) (by assumption) ?_
        rotate_left
        · intro wv hSw
          go_simp
          try with_reducible rfl
        simp only [Act.put, List.setIfInBounds_toArray, List.set_cons_zero, List.set_cons_succ, List.getElem_toArray, List.getElem_cons_succ, List.getElem_cons_zero]
        refine wpAnyH_ready (rs := [31]) (by kernel_rfl) (by simp) ?_
        refine AllReadyH.cons rfl (fun K hK => ?_) AllReadyH.nil
        go_simp
        go_at_call 7
        refine (wakes_any _).mono ?_
        rintro e W50 ⟨rfl, hb⟩
        replace G3 := Lib.hid (G3.out.keep hb)
        replace G4 := Lib.hid (G4.out.keep hb)
        replace G5 := Lib.hid (G5.out.keep hb)
        replace G7 := Lib.hid (G7.out.keep hb)
        replace G6 := Lib.hid (G6.out.keep hb)
        replace G8 := Lib.hid (G8.out.keep hb)
        refine hK.out _ _ (hHeld.keep hb) (fun hHeld2 => ?_)
        clear hK K hHeld hb
        have hHeld := hHeld2
        clear hHeld2
        try simp only [Act.put, List.setIfInBounds_toArray, List.set_cons_zero, List.set_cons_succ, List.getElem_toArray, List.getElem_cons_succ, List.getElem_cons_zero]
        refine wpAnyH_take (i := 32) (v := ?_) rfl (by kernel_rfl) (by kernel_rfl) (by kernel_rfl) (fun _ _ _ h => h) (Or.inl ⟨by kernel_rfl, ?_⟩) (by assumption) ?_
        rotate_left
        · intro wv hSw
          go_simp
          try with_reducible rfl
        simp only [Act.put, List.setIfInBounds_toArray, List.set_cons_zero, List.set_cons_succ, List.getElem_toArray, List.getElem_cons_succ, List.getElem_cons_zero]
        refine wpAnyH_take (i := 33) (v := ?_) rfl (by kernel_rfl) (by kernel_rfl) (by kernel_rfl) (fun _ _ _ h => h) (Or.inl ⟨by kernel_rfl, ?_⟩) (by assumption) ?_
        rotate_left
        · intro wv hSw
          go_simp
          try with_reducible rfl
        simp only [Act.put, List.setIfInBounds_toArray, List.set_cons_zero, List.set_cons_succ, List.getElem_toArray, List.getElem_cons_succ, List.getElem_cons_zero]
        refine wpAnyH_done (by kernel_rfl) ?_ _
        refine NoPanic.normal ?_
        have HS := Lib.hid hHeld
        clear hHeld
        go_wp2_with fail
        go_ret
        exact ⟨rfl, by have := HS.out.2.2; rwa [hB] at this⟩
      · go_simp
        have hba := (Below.refl W41.heap.size W41).alloc (Nat.le_refl _) (.cells #[.int .u64 (lo : Nat), .int .u64 (hi : Nat)] 25)
        have G6 := Lib.hid (rw1 (RB.new W41 lo hi) HP.out.2.1 HP.out.2.2)
        replace G3 := Lib.hid (G3.out.keep hba)
        replace G4 := Lib.hid (G4.out.keep hba)
        replace G5 := Lib.hid (G5.out.keep hba)
        refine hK.out _ _ (hHeld.keep hba) (fun hHeld2 => ?_)
        clear hK K hHeld hba
        have hHeld := hHeld2
        clear hHeld2
        try simp only [Act.put, List.setIfInBounds_toArray, List.set_cons_zero, List.set_cons_succ, List.getElem_toArray, List.getElem_cons_succ, List.getElem_cons_zero]
        generalize W41.heap.size = b6 at *
        generalize World.alloc W41 _ = W42 at *
        refine wpAnyH_ready (rs := [3]) (by kernel_rfl) (by simp) ?_
        refine AllReadyH.cons rfl (fun K hK => ?_) AllReadyH.nil
        go_simp
        go_at_call 13
        refine (q13 13 (Or.inl rfl) _ _ _ _ ns4 _ _ _ [(lo, hi)] G4.out G5.out (by omega)).mono ?_
        rintro e W43 ⟨a7, k7, cap7, ns7, rfl, hg, hk, hr, hp, hb⟩
        have G7 := Lib.hid hg
        have P7 := Lib.hid (And.intro hk (And.intro hr hp))
        clear hg hk hr hp
        replace G3 := Lib.hid (G3.out.keep hb)
        replace G4 := Lib.hid (G4.out.keep hb)
        replace G5 := Lib.hid (G5.out.keep hb)
        replace G6 := Lib.hid (G6.out.keep hb)
        refine hK.out _ _ (hHeld.keep hb) (fun hHeld2 => ?_)
        clear hK K hHeld hb
        have hHeld := hHeld2
        clear hHeld2
        try simp only [Act.put, List.setIfInBounds_toArray, List.set_cons_zero, List.set_cons_succ, List.getElem_toArray, List.getElem_cons_succ, List.getElem_cons_zero]
        refine wpAnyH_ready (rs := [7]) (by kernel_rfl) (by simp) ?_
        refine AllReadyH.cons rfl (fun K hK => ?_) AllReadyH.nil
        go_simp
        go_at_call 13
        refine (q13 13 (Or.inl rfl) _ _ _ _ zs _ _ _ [(lo, hi)] hHeld.1 G6.out (by omega)).mono ?_
        rintro e W44 ⟨a8, k8, cap8, ns8, rfl, hg, hk, hr, hp, hb⟩
        have G8 := Lib.hid hg
        have P8 := Lib.hid (And.intro hk (And.intro hr hp))
        clear hg hk hr hp
        replace G3 := Lib.hid (G3.out.keep hb)
        replace G4 := Lib.hid (G4.out.keep hb)
        replace G5 := Lib.hid (G5.out.keep hb)
        replace G6 := Lib.hid (G6.out.keep hb)
        replace G7 := Lib.hid (G7.out.keep hb)
        refine hK.out _ _ (hHeld.keep hb) (fun hHeld2 => ?_)
        clear hK K hHeld hb
        have hHeld := hHeld2
        clear hHeld2
        try simp only [Act.put, List.setIfInBounds_toArray, List.set_cons_zero, List.set_cons_succ, List.getElem_toArray, List.getElem_cons_succ, List.getElem_cons_zero]
        refine wpAnyH_ready (rs := [8]) (by kernel_rfl) (by simp) ?_
        refine AllReadyH.cons rfl (fun K hK => ?_) AllReadyH.nil
        go_simp
        go_at_call 10
        refine (q10 _ _ _ _ ns7 _ _ _ ns8 true (add_both P7.out.2.1 P8.out.2.1 P4.out.2.2 P7.out.2.2 P8.out.2.2) G7.out G8.out).mono ?_
        rintro e W45 ⟨rfl, hb⟩
        replace G3 := Lib.hid (G3.out.keep hb)
        replace G4 := Lib.hid (G4.out.keep hb)
        replace G5 := Lib.hid (G5.out.keep hb)
        replace G6 := Lib.hid (G6.out.keep hb)
        replace G7 := Lib.hid (G7.out.keep hb)
        replace G8 := Lib.hid (G8.out.keep hb)
        refine hK.out _ _ (hHeld.keep hb) (fun hHeld2 => ?_)
        clear hK K hHeld hb
        have hHeld := hHeld2
        clear hHeld2
        try simp only [Act.put, List.setIfInBounds_toArray, List.set_cons_zero, List.set_cons_succ, List.getElem_toArray, List.getElem_cons_succ, List.getElem_cons_zero]
        refine wpAnyH_take (i := 9) (v := ?_) rfl (by kernel_rfl) (by kernel_rfl) (by kernel_rfl) (fun _ _ _ h => h) (Or.inl ⟨by kernel_rfl, ?_⟩) (by assumption) ?_
        rotate_left
        · intro wv hSw
          go_simp
          try with_reducible rfl
        simp only [Act.put, List.setIfInBounds_toArray, List.set_cons_zero, List.set_cons_succ, List.getElem_toArray, List.getElem_cons_succ, List.getElem_cons_zero]
        refine wpAnyH_take (i := 10) (v := ?_) rfl (by kernel_rfl) (by kernel_rfl) (by kernel_rfl) (fun _ _ _ h => h) (Or.inl ⟨by kernel_rfl, ?_⟩) (by assumption) ?_
        rotate_left
        · intro wv hSw
          go_simp
          try with_reducible rfl
        simp only [Act.put, List.setIfInBounds_toArray, List.set_cons_zero, List.set_cons_succ, List.getElem_toArray, List.getElem_cons_succ, List.getElem_cons_zero]
        refine wpAnyH_take (i := 11) (v := ?_) rfl (by kernel_rfl) (by kernel_rfl) (by kernel_rfl) (fun _ _ _ h => h) (Or.inl ⟨by kernel_rfl, ?_⟩) (by assumption) ?_
        rotate_left
        · intro wv hSw
          obtain ⟨c0, c1⟩ := hSw.2.1.c
          go_simp
          try with_reducible rfl
        simp only [Act.put, List.setIfInBounds_toArray, List.set_cons_zero, List.set_cons_succ, List.getElem_toArray, List.getElem_cons_succ, List.getElem_cons_zero]
        refine wpAnyH_take (i := 13) (v := ?_) rfl (by kernel_rfl) (by kernel_rfl) (by kernel_rfl) (fun _ _ _ h => h) (Or.inl ⟨by kernel_rfl, ?_⟩) (by assumption) ?_
        rotate_left
        · intro wv hSw
          go_simp
          try with_reducible rfl
        simp only [Act.put, List.setIfInBounds_toArray, List.set_cons_zero, List.set_cons_succ, List.getElem_toArray, List.getElem_cons_succ, List.getElem_cons_zero]
        refine wpAnyH_take (i := 14) (v := ?_) rfl (by kernel_rfl) (by kernel_rfl) (by kernel_rfl) (fun _ _ _ h => h) (Or.inl ⟨by kernel_rfl, ?_⟩) (by assumption) ?_
        rotate_left
        · intro wv hSw
          go_simp
          try with_reducible rfl
        simp only [Act.put, List.setIfInBounds_toArray, List.set_cons_zero, List.set_cons_succ, List.getElem_toArray, List.getElem_cons_succ, List.getElem_cons_zero]
        refine wpAnyH_ready (rs := [12]) (by kernel_rfl) (by simp) ?_
        refine AllReadyH.cons rfl (fun K hK => ?_) AllReadyH.nil
        go_simp
        go_at_call 19
        refine (q19 _ _ _ _ zs lo hi m HM.out hHeld.1).mono ?_
        rintro e W46 ⟨rfl, hb⟩
        replace G3 := Lib.hid (G3.out.keep hb)
        replace G4 := Lib.hid (G4.out.keep hb)
        replace G5 := Lib.hid (G5.out.keep hb)
        replace G6 := Lib.hid (G6.out.keep hb)
        replace G7 := Lib.hid (G7.out.keep hb)
        replace G8 := Lib.hid (G8.out.keep hb)
        refine hK.out _ _ (hHeld.keep hb) (fun hHeld2 => ?_)
        clear hK K hHeld hb
        have hHeld := hHeld2
        clear hHeld2
        try simp only [Act.put, List.setIfInBounds_toArray, List.set_cons_zero, List.set_cons_succ, List.getElem_toArray, List.getElem_cons_succ, List.getElem_cons_zero]
        refine wpAnyH_ready (rs := [15]) (by kernel_rfl) (by simp) ?_
        refine AllReadyH.cons rfl (fun K hK => ?_) AllReadyH.nil
        go_simp
        go_at_call 10
        refine (q10 _ _ _ _ ns4 _ _ _ ns3 (!m) (by rw [← HM.out]; exact meets_sub P3.out.2.1 P4.out.2.1 P3.out.2.2 P4.out.2.2) G4.out G3.out).mono ?_
        rintro e W47 ⟨rfl, hb⟩
        replace G3 := Lib.hid (G3.out.keep hb)
        replace G4 := Lib.hid (G4.out.keep hb)
        replace G5 := Lib.hid (G5.out.keep hb)
        replace G6 := Lib.hid (G6.out.keep hb)
        replace G7 := Lib.hid (G7.out.keep hb)
        replace G8 := Lib.hid (G8.out.keep hb)
        refine hK.out _ _ (hHeld.keep hb) (fun hHeld2 => ?_)
        clear hK K hHeld hb
        have hHeld := hHeld2
        clear hHeld2
        try simp only [Act.put, List.setIfInBounds_toArray, List.set_cons_zero, List.set_cons_succ, List.getElem_toArray, List.getElem_cons_succ, List.getElem_cons_zero]
        refine wpAnyH_take (i := 16) (v := ?_) rfl (by kernel_rfl) (by kernel_rfl) (by kernel_rfl) (fun _ _ _ h => h) (Or.inl ⟨by kernel_rfl, ?_⟩) (by assumption) ?_
        rotate_left
        · intro wv hSw
          go_simp
          try with_reducible rfl
        simp only [Act.put, List.setIfInBounds_toArray, List.set_cons_zero, List.set_cons_succ, List.getElem_toArray, List.getElem_cons_succ, List.getElem_cons_zero]
        refine wpAnyH_take (i := 17) (v := ?_) rfl (by kernel_rfl) (by kernel_rfl) (by kernel_rfl) (fun _ _ _ h => h) (Or.inl ⟨by kernel_rfl, ?_⟩) (by assumption) ?_
        rotate_left
        · intro wv hSw
          go_simp
          try with_reducible rfl
        simp only [Act.put, List.setIfInBounds_toArray, List.set_cons_zero, List.set_cons_succ, List.getElem_toArray, List.getElem_cons_succ, List.getElem_cons_zero]
        refine wpAnyH_take (i := 18) (v := ?_) rfl (by kernel_rfl) (by kernel_rfl) (by kernel_rfl) (fun _ _ _ h => h) (Or.inl ⟨by kernel_rfl, ?_⟩) (by assumption) ?_
        rotate_left
        · intro wv hSw
          go_simp
          try with_reducible rfl
        simp only [Act.put, List.setIfInBounds_toArray, List.set_cons_zero, List.set_cons_succ, List.getElem_toArray, List.getElem_cons_succ, List.getElem_cons_zero]
        refine wpAnyH_take (i := 19) (v := ?_) rfl (by kernel_rfl) (by kernel_rfl) (by kernel_rfl) (fun _ _ _ h => h) (Or.inl ⟨by kernel_rfl, ?_⟩) (by assumption) ?_
        rotate_left
        · intro wv hSw
          go_simp
          try with_reducible rfl
        simp only [Act.put, List.setIfInBounds_toArray, List.set_cons_zero, List.set_cons_succ, List.getElem_toArray, List.getElem_cons_succ, List.getElem_cons_zero]
        refine wpAnyH_take (i := 20) (v := ?_) rfl (by kernel_rfl) (by kernel_rfl) (by kernel_rfl) (fun _ _ _ h => h) (Or.inl ⟨by kernel_rfl, ?_⟩) (by assumption) ?_
        rotate_left
        · intro wv hSw
          go_simp
          try with_reducible rfl
        simp only [Act.put, List.setIfInBounds_toArray, List.set_cons_zero, List.set_cons_succ, List.getElem_toArray, List.getElem_cons_succ, List.getElem_cons_zero]
        refine wpAnyH_take (i := 21) (v := ?_) rfl (by kernel_rfl) (by kernel_rfl) (by kernel_rfl) (fun _ _ _ h => h) (Or.inl ⟨by kernel_rfl, ?_⟩) (by assumption) ?_
        rotate_left
        · intro wv hSw
          obtain ⟨c0, c1⟩ := hSw.2.1.c
          go_simp
          try with_reducible rfl
        simp only [Act.put, List.setIfInBounds_toArray, List.set_cons_zero, List.set_cons_succ, List.getElem_toArray, List.getElem_cons_succ, List.getElem_cons_zero]
        refine wpAnyH_ready (rs := [22]) (by kernel_rfl) (by simp) ?_
        refine AllReadyH.cons rfl (fun K hK => ?_) AllReadyH.nil
        go_simp
        go_at_call 19
        refine (q19 _ _ _ _ ns4 lo hi false (meets_gone P4.out.2.2) G4.out).mono ?_
        rintro e W48 ⟨rfl, hb⟩
        replace G3 := Lib.hid (G3.out.keep hb)
        replace G4 := Lib.hid (G4.out.keep hb)
        replace G5 := Lib.hid (G5.out.keep hb)
        replace G6 := Lib.hid (G6.out.keep hb)
        replace G7 := Lib.hid (G7.out.keep hb)
        replace G8 := Lib.hid (G8.out.keep hb)
        refine hK.out _ _ (hHeld.keep hb) (fun hHeld2 => ?_)
        clear hK K hHeld hb
        have hHeld := hHeld2
        clear hHeld2
        try simp only [Act.put, List.setIfInBounds_toArray, List.set_cons_zero, List.set_cons_succ, List.getElem_toArray, List.getElem_cons_succ, List.getElem_cons_zero]
        refine wpAnyH_take (i := 23) (v := ?_) rfl (by kernel_rfl) (by kernel_rfl) (by kernel_rfl) (fun _ _ _ h => h) (Or.inl ⟨by kernel_rfl, ?_⟩) (by assumption) ?_
        rotate_left
        · intro wv hSw
          go_simp
          try with_reducible rfl
        simp only [Act.put, List.setIfInBounds_toArray, List.set_cons_zero, List.set_cons_succ, List.getElem_toArray, List.getElem_cons_succ, List.getElem_cons_zero]
        refine wpAnyH_take (i := 24) (v := ?_) rfl (by kernel_rfl) (by kernel_rfl) (by kernel_rfl) (fun _ _ _ h => h) (Or.inl ⟨by kernel_rfl, ?_⟩) (by assumption) ?_
        rotate_left
        · intro wv hSw
          go_simp
          try with_reducible rfl
        simp only [Act.put, List.setIfInBounds_toArray, List.set_cons_zero, List.set_cons_succ, List.getElem_toArray, List.getElem_cons_succ, List.getElem_cons_zero]
        refine wpAnyH_take (i := 25) (v := ?_) rfl (by kernel_rfl) (by kernel_rfl) (by kernel_rfl) (fun _ _ _ h => h) (Or.inl ⟨by kernel_rfl, ?_⟩) (by assumption) ?_
        rotate_left
        · intro wv hSw
          go_simp
          try with_reducible rfl
        simp only [Act.put, List.setIfInBounds_toArray, List.set_cons_zero, List.set_cons_succ, List.getElem_toArray, List.getElem_cons_succ, List.getElem_cons_zero]
        refine wpAnyH_take (i := 26) (v := ?_) rfl (by kernel_rfl) (by kernel_rfl) (by kernel_rfl) (fun _ _ _ h => h) (Or.inl ⟨by kernel_rfl, ?_⟩) (by assumption) ?_
        rotate_left
        · intro wv hSw
          go_simp
          try with_reducible rfl
        simp only [Act.put, List.setIfInBounds_toArray, List.set_cons_zero, List.set_cons_succ, List.getElem_toArray, List.getElem_cons_succ, List.getElem_cons_zero]
        refine wpAnyH_take (i := 27) (v := ?_) rfl (by kernel_rfl) (by kernel_rfl) (by kernel_rfl) (fun _ _ _ h => h) (Or.inl ⟨by kernel_rfl, ?_⟩) (by assumption) ?_
        rotate_left
        · intro wv hSw
          go_simp
          try with_reducible rfl
        simp only [Act.put, List.setIfInBounds_toArray, List.set_cons_zero, List.set_cons_succ, List.getElem_toArray, List.getElem_cons_succ, List.getElem_cons_zero]
        refine wpAnyH_ready (rs := [28]) (by kernel_rfl) (by simp) ?_
        refine AllReadyH.cons rfl (fun K hK => ?_) AllReadyH.nil
        go_simp
        go_at_call 21
        refine (q21 _ _ _ _ ns4 _ _ _ zs true (sub_in P4.out.2.2) G4.out hHeld.1).mono ?_
        rintro e W49 ⟨rfl, hb⟩
        replace G3 := Lib.hid (G3.out.keep hb)
        replace G4 := Lib.hid (G4.out.keep hb)
        replace G5 := Lib.hid (G5.out.keep hb)
        replace G6 := Lib.hid (G6.out.keep hb)
        replace G7 := Lib.hid (G7.out.keep hb)
        replace G8 := Lib.hid (G8.out.keep hb)
        refine hK.out _ _ (hHeld.keep hb) (fun hHeld2 => ?_)
        clear hK K hHeld hb
        have hHeld := hHeld2
        clear hHeld2
        try simp only [Act.put, List.setIfInBounds_toArray, List.set_cons_zero, List.set_cons_succ, List.getElem_toArray, List.getElem_cons_succ, List.getElem_cons_zero]
        refine wpAnyH_take (i := 29) (v := ?_) rfl (by kernel_rfl) (by kernel_rfl) (by kernel_rfl) (fun _ _ _ h => h) (Or.inl ⟨by kernel_rfl, ?_⟩) (by assumption) ?_
        rotate_left
        · intro wv hSw
          go_simp
          try with_reducible rfl
        simp only [Act.put, List.setIfInBounds_toArray, List.set_cons_zero, List.set_cons_succ, List.getElem_toArray, List.getElem_cons_succ, List.getElem_cons_zero]
        refine wpAnyH_take (i := 30) (v := ?_) rfl (by kernel_rfl) (by kernel_rfl) (by kernel_rfl) (fun _ _ _ h => h) (Or.inl ⟨by kernel_rfl, ?_⟩) (by assumption) ?_
        rotate_left
        · intro wv hSw
          go_simp
          try with_reducible rfl
        simp only [Act.put, List.setIfInBounds_toArray, List.set_cons_zero, List.set_cons_succ, List.getElem_toArray, List.getElem_cons_succ, List.getElem_cons_zero]
        refine wpAnyH_ready (rs := [31]) (by kernel_rfl) (by simp) ?_
        refine AllReadyH.cons rfl (fun K hK => ?_) AllReadyH.nil
        go_simp
        go_at_call 7
        refine (wakes_any _).mono ?_
        rintro e W50 ⟨rfl, hb⟩
        replace G3 := Lib.hid (G3.out.keep hb)
        replace G4 := Lib.hid (G4.out.keep hb)
        replace G5 := Lib.hid (G5.out.keep hb)
        replace G6 := Lib.hid (G6.out.keep hb)
        replace G7 := Lib.hid (G7.out.keep hb)
        replace G8 := Lib.hid (G8.out.keep hb)
        refine hK.out _ _ (hHeld.keep hb) (fun hHeld2 => ?_)
        clear hK K hHeld hb
        have hHeld := hHeld2
        clear hHeld2
        try simp only [Act.put, List.setIfInBounds_toArray, List.set_cons_zero, List.set_cons_succ, List.getElem_toArray, List.getElem_cons_succ, List.getElem_cons_zero]
        refine wpAnyH_take (i := 32) (v := ?_) rfl (by kernel_rfl) (by kernel_rfl) (by kernel_rfl) (fun _ _ _ h => h) (Or.inl ⟨by kernel_rfl, ?_⟩) (by assumption) ?_
        rotate_left
        · intro wv hSw
          go_simp
          try with_reducible rfl
        simp only [Act.put, List.setIfInBounds_toArray, List.set_cons_zero, List.set_cons_succ, List.getElem_toArray, List.getElem_cons_succ, List.getElem_cons_zero]
        refine wpAnyH_take (i := 33) (v := ?_) rfl (by kernel_rfl) (by kernel_rfl) (by kernel_rfl) (fun _ _ _ h => h) (Or.inl ⟨by kernel_rfl, ?_⟩) (by assumption) ?_
        rotate_left
        · intro wv hSw
          go_simp
          try with_reducible rfl
        simp only [Act.put, List.setIfInBounds_toArray, List.set_cons_zero, List.set_cons_succ, List.getElem_toArray, List.getElem_cons_succ, List.getElem_cons_zero]
        refine wpAnyH_done (by kernel_rfl) ?_ _
        refine NoPanic.normal ?_
        have HS := Lib.hid hHeld
        clear hHeld
        go_wp2_with fail
        go_ret
        exact ⟨rfl, by have := HS.out.2.2; rwa [hB] at this⟩
    · go_simp
      have hba := (Below.refl W40.heap.size W40).alloc (Nat.le_refl _) (.cells #[.int .u64 (lo : Nat), .int .u64 (hi : Nat)] 25)
      have G6 := Lib.hid (rw1 (RB.new W40 lo hi) HP.out.2.1 HP.out.2.2)
      replace G3 := Lib.hid (G3.out.keep hba)
      replace G4 := Lib.hid (G4.out.keep hba)
      refine hK.out _ _ (hHeld.keep hba) (fun hHeld2 => ?_)
      clear hK K hHeld hba
      have hHeld := hHeld2
      clear hHeld2
      try simp only [Act.put, List.setIfInBounds_toArray, List.set_cons_zero, List.set_cons_succ, List.getElem_toArray, List.getElem_cons_succ, List.getElem_cons_zero]
      generalize W40.heap.size = b6 at *
      generalize World.alloc W40 _ = W41 at *
      refine wpAnyH_ready (rs := [2]) (by kernel_rfl) (by simp) ?_
      refine AllReadyH.cons rfl (fun K hK => ?_) AllReadyH.nil
      go_simp
      have hba := (Below.refl W41.heap.size W41).alloc (Nat.le_refl _) (.cells #[.int .u64 (lo : Nat), .int .u64 (hi : Nat)] 25)
      have G5 := Lib.hid (rw1 (RB.new W41 lo hi) HP.out.2.1 HP.out.2.2)
      replace G3 := Lib.hid (G3.out.keep hba)
      replace G4 := Lib.hid (G4.out.keep hba)
      replace G6 := Lib.hid (G6.out.keep hba)
      refine hK.out _ _ (hHeld.keep hba) (fun hHeld2 => ?_)
      clear hK K hHeld hba
      have hHeld := hHeld2
      clear hHeld2
      try simp only [Act.put, List.setIfInBounds_toArray, List.set_cons_zero, List.set_cons_succ, List.getElem_toArray, List.getElem_cons_succ, List.getElem_cons_zero]
      generalize W41.heap.size = b5 at *
      generalize World.alloc W41 _ = W42 at *
      refine wpAnyH_ready (rs := [3]) (by kernel_rfl) (by simp) ?_
      refine AllReadyH.cons rfl (fun K hK => ?_) AllReadyH.nil
      go_simp
      go_at_call 13
      refine (q13 13 (Or.inl rfl) _ _ _ _ ns4 _ _ _ [(lo, hi)] G4.out G5.out (by omega)).mono ?_
      rintro e W43 ⟨a7, k7, cap7, ns7, rfl, hg, hk, hr, hp, hb⟩
      have G7 := Lib.hid hg
      have P7 := Lib.hid (And.intro hk (And.intro hr hp))
      clear hg hk hr hp
      replace G3 := Lib.hid (G3.out.keep hb)
      replace G4 := Lib.hid (G4.out.keep hb)
      replace G6 := Lib.hid (G6.out.keep hb)
      replace G5 := Lib.hid (G5.out.keep hb)
      refine hK.out _ _ (hHeld.keep hb) (fun hHeld2 => ?_)
      clear hK K hHeld hb
      have hHeld := hHeld2
      clear hHeld2
      try simp only [Act.put, List.setIfInBounds_toArray, List.set_cons_zero, List.set_cons_succ, List.getElem_toArray, List.getElem_cons_succ, List.getElem_cons_zero]
      refine wpAnyH_ready (rs := [7]) (by kernel_rfl) (by simp) ?_
      refine AllReadyH.cons rfl (fun K hK => ?_) AllReadyH.nil
      go_simp
      go_at_call 13
      refine (q13 13 (Or.inl rfl) _ _ _ _ zs _ _ _ [(lo, hi)] hHeld.1 G6.out (by omega)).mono ?_
      rintro e W44 ⟨a8, k8, cap8, ns8, rfl, hg, hk, hr, hp, hb⟩
      have G8 := Lib.hid hg
      have P8 := Lib.hid (And.intro hk (And.intro hr hp))
      clear hg hk hr hp
      replace G3 := Lib.hid (G3.out.keep hb)
      replace G4 := Lib.hid (G4.out.keep hb)
      replace G6 := Lib.hid (G6.out.keep hb)
      replace G5 := Lib.hid (G5.out.keep hb)
      replace G7 := Lib.hid (G7.out.keep hb)
      refine hK.out _ _ (hHeld.keep hb) (fun hHeld2 => ?_)
      clear hK K hHeld hb
      have hHeld := hHeld2
      clear hHeld2
      try simp only [Act.put, List.setIfInBounds_toArray, List.set_cons_zero, List.set_cons_succ, List.getElem_toArray, List.getElem_cons_succ, List.getElem_cons_zero]
      refine wpAnyH_ready (rs := [8]) (by kernel_rfl) (by simp) ?_
      refine AllReadyH.cons rfl (fun K hK => ?_) AllReadyH.nil
      go_simp
      go_at_call 10
      refine (q10 _ _ _ _ ns7 _ _ _ ns8 true (add_both P7.out.2.1 P8.out.2.1 P4.out.2.2 P7.out.2.2 P8.out.2.2) G7.out G8.out).mono ?_
      rintro e W45 ⟨rfl, hb⟩
      replace G3 := Lib.hid (G3.out.keep hb)
      replace G4 := Lib.hid (G4.out.keep hb)
      replace G6 := Lib.hid (G6.out.keep hb)
      replace G5 := Lib.hid (G5.out.keep hb)
      replace G7 := Lib.hid (G7.out.keep hb)
      replace G8 := Lib.hid (G8.out.keep hb)
      refine hK.out _ _ (hHeld.keep hb) (fun hHeld2 => ?_)
      clear hK K hHeld hb
      have hHeld := hHeld2
      clear hHeld2
      try simp only [Act.put, List.setIfInBounds_toArray, List.set_cons_zero, List.set_cons_succ, List.getElem_toArray, List.getElem_cons_succ, List.getElem_cons_zero]
      refine wpAnyH_take (i := 9) (v := ?_) rfl (by kernel_rfl) (by kernel_rfl) (by kernel_rfl) (fun _ _ _ h => h) (Or.inl ⟨by kernel_rfl, ?_⟩) (by assumption) ?_
      rotate_left
      · intro wv hSw
        go_simp
        try with_reducible rfl
      simp only [Act.put, List.setIfInBounds_toArray, List.set_cons_zero, List.set_cons_succ, List.getElem_toArray, List.getElem_cons_succ, List.getElem_cons_zero]
      refine wpAnyH_take (i := 10) (v := ?_) rfl (by kernel_rfl) (by kernel_rfl) (by kernel_rfl) (fun _ _ _ h => h) (Or.inl ⟨by kernel_rfl, ?_⟩) (by assumption) ?_
      rotate_left
      · intro wv hSw
        go_simp
        try with_reducible rfl
      simp only [Act.put, List.setIfInBounds_toArray, List.set_cons_zero, List.set_cons_succ, List.getElem_toArray, List.getElem_cons_succ, List.getElem_cons_zero]
      refine wpAnyH_take (i := 11) (v := ?_) rfl (by kernel_rfl) (by kernel_rfl) (by kernel_rfl) (fun _ _ _ h => h) (Or.inl ⟨by kernel_rfl, ?_⟩) (by assumption) ?_
      rotate_left
      · intro wv hSw
        obtain ⟨c0, c1⟩ := hSw.2.1.c
        go_simp
        try with_reducible rfl
      simp only [Act.put, List.setIfInBounds_toArray, List.set_cons_zero, List.set_cons_succ, List.getElem_toArray, List.getElem_cons_succ, List.getElem_cons_zero]
      refine wpAnyH_take (i := 13) (v := ?_) rfl (by kernel_rfl) (by kernel_rfl) (by kernel_rfl) (fun _ _ _ h => h) (Or.inl ⟨by kernel_rfl, ?_⟩) (by assumption) ?_
      rotate_left
      · intro wv hSw
        go_simp
        try with_reducible rfl
      simp only [Act.put, List.setIfInBounds_toArray, List.set_cons_zero, List.set_cons_succ, List.getElem_toArray, List.getElem_cons_succ, List.getElem_cons_zero]
      refine wpAnyH_take (i := 14) (v := ?_) rfl (by kernel_rfl) (by kernel_rfl) (by kernel_rfl) (fun _ _ _ h => h) (Or.inl ⟨by kernel_rfl, ?_⟩) (by assumption) ?_
      rotate_left
      · intro wv hSw
        go_simp
        try with_reducible rfl
      simp only [Act.put, List.setIfInBounds_toArray, List.set_cons_zero, List.set_cons_succ, List.getElem_toArray, List.getElem_cons_succ, List.getElem_cons_zero]
      refine wpAnyH_ready (rs := [12]) (by kernel_rfl) (by simp) ?_
      refine AllReadyH.cons rfl (fun K hK => ?_) AllReadyH.nil
      go_simp
      go_at_call 19
      refine (q19 _ _ _ _ zs lo hi m HM.out hHeld.1).mono ?_
      rintro e W46 ⟨rfl, hb⟩
      replace G3 := Lib.hid (G3.out.keep hb)
      replace G4 := Lib.hid (G4.out.keep hb)
      replace G6 := Lib.hid (G6.out.keep hb)
      replace G5 := Lib.hid (G5.out.keep hb)
      replace G7 := Lib.hid (G7.out.keep hb)
      replace G8 := Lib.hid (G8.out.keep hb)
      refine hK.out _ _ (hHeld.keep hb) (fun hHeld2 => ?_)
      clear hK K hHeld hb
      have hHeld := hHeld2
      clear hHeld2
      try simp only [Act.put, List.setIfInBounds_toArray, List.set_cons_zero, List.set_cons_succ, List.getElem_toArray, List.getElem_cons_succ, List.getElem_cons_zero]
      refine wpAnyH_ready (rs := [15]) (by kernel_rfl) (by simp) ?_
      refine AllReadyH.cons rfl (fun K hK => ?_) AllReadyH.nil
      go_simp
      go_at_call 10
      refine (q10 _ _ _ _ ns4 _ _ _ ns3 (!m) (by rw [← HM.out]; exact meets_sub P3.out.2.1 P4.out.2.1 P3.out.2.2 P4.out.2.2) G4.out G3.out).mono ?_
      rintro e W47 ⟨rfl, hb⟩
      replace G3 := Lib.hid (G3.out.keep hb)
      replace G4 := Lib.hid (G4.out.keep hb)
      replace G6 := Lib.hid (G6.out.keep hb)
      replace G5 := Lib.hid (G5.out.keep hb)
      replace G7 := Lib.hid (G7.out.keep hb)
      replace G8 := Lib.hid (G8.out.keep hb)
      refine hK.out _ _ (hHeld.keep hb) (fun hHeld2 => ?_)
      clear hK K hHeld hb
      have hHeld := hHeld2
      clear hHeld2
      try simp only [Act.put, List.setIfInBounds_toArray, List.set_cons_zero, List.set_cons_succ, List.getElem_toArray, List.getElem_cons_succ, List.getElem_cons_zero]
      refine wpAnyH_take (i := 16) (v := ?_) rfl (by kernel_rfl) (by kernel_rfl) (by kernel_rfl) (fun _ _ _ h => h) (Or.inl ⟨by kernel_rfl, ?_⟩) (by assumption) ?_
      rotate_left
      · intro wv hSw
        go_simp
        try with_reducible rfl
      simp only [Act.put, List.setIfInBounds_toArray, List.set_cons_zero, List.set_cons_succ, List.getElem_toArray, List.getElem_cons_succ, List.getElem_cons_zero]
      refine wpAnyH_take (i := 17) (v := ?_) rfl (by kernel_rfl) (by kernel_rfl) (by kernel_rfl) (fun _ _ _ h => h) (Or.inl ⟨by kernel_rfl, ?_⟩) (by assumption) ?_
      rotate_left
      · intro wv hSw
        go_simp
        try with_reducible rfl
      simp only [Act.put, List.setIfInBounds_toArray, List.set_cons_zero, List.set_cons_succ, List.getElem_toArray, List.getElem_cons_succ, List.getElem_cons_zero]
      refine wpAnyH_take (i := 18) (v := ?_) rfl (by kernel_rfl) (by kernel_rfl) (by kernel_rfl) (fun _ _ _ h => h) (Or.inl ⟨by kernel_rfl, ?_⟩) (by assumption) ?_
      rotate_left
      · intro wv hSw
        go_simp
        try with_reducible rfl
      simp only [Act.put, List.setIfInBounds_toArray, List.set_cons_zero, List.set_cons_succ, List.getElem_toArray, List.getElem_cons_succ, List.getElem_cons_zero]
      refine wpAnyH_take (i := 19) (v := ?_) rfl (by kernel_rfl) (by kernel_rfl) (by kernel_rfl) (fun _ _ _ h => h) (Or.inl ⟨by kernel_rfl, ?_⟩) (by assumption) ?_
      rotate_left
      · intro wv hSw
        go_simp
        try with_reducible rfl
      simp only [Act.put, List.setIfInBounds_toArray, List.set_cons_zero, List.set_cons_succ, List.getElem_toArray, List.getElem_cons_succ, List.getElem_cons_zero]
      refine wpAnyH_take (i := 20) (v := ?_) rfl (by kernel_rfl) (by kernel_rfl) (by kernel_rfl) (fun _ _ _ h => h) (Or.inl ⟨by kernel_rfl, ?_⟩) (by assumption) ?_
      rotate_left
      · intro wv hSw
        go_simp
        try with_reducible rfl
      simp only [Act.put, List.setIfInBounds_toArray, List.set_cons_zero, List.set_cons_succ, List.getElem_toArray, List.getElem_cons_succ, List.getElem_cons_zero]
      refine wpAnyH_take (i := 21) (v := ?_) rfl (by kernel_rfl) (by kernel_rfl) (by kernel_rfl) (fun _ _ _ h => h) (Or.inl ⟨by kernel_rfl, ?_⟩) (by assumption) ?_
      rotate_left
      · intro wv hSw
        obtain ⟨c0, c1⟩ := hSw.2.1.c
        go_simp
        try with_reducible rfl
      simp only [Act.put, List.setIfInBounds_toArray, List.set_cons_zero, List.set_cons_succ, List.getElem_toArray, List.getElem_cons_succ, List.getElem_cons_zero]
      refine wpAnyH_ready (rs := [22]) (by kernel_rfl) (by simp) ?_
      refine AllReadyH.cons rfl (fun K hK => ?_) AllReadyH.nil
      go_simp
      go_at_call 19
      refine (q19 _ _ _ _ ns4 lo hi false (meets_gone P4.out.2.2) G4.out).mono ?_
      rintro e W48 ⟨rfl, hb⟩
      replace G3 := Lib.hid (G3.out.keep hb)
      replace G4 := Lib.hid (G4.out.keep hb)
      replace G6 := Lib.hid (G6.out.keep hb)
      replace G5 := Lib.hid (G5.out.keep hb)
      replace G7 := Lib.hid (G7.out.keep hb)
      replace G8 := Lib.hid (G8.out.keep hb)
      refine hK.out _ _ (hHeld.keep hb) (fun hHeld2 => ?_)
      clear hK K hHeld hb
      have hHeld := hHeld2
      clear hHeld2
      try simp only [Act.put, List.setIfInBounds_toArray, List.set_cons_zero, List.set_cons_succ, List.getElem_toArray, List.getElem_cons_succ, List.getElem_cons_zero]
      refine wpAnyH_take (i := 23) (v := ?_) rfl (by kernel_rfl) (by kernel_rfl) (by kernel_rfl) (fun _ _ _ h => h) (Or.inl ⟨by kernel_rfl, ?_⟩) (by assumption) ?_
      rotate_left
      · intro wv hSw
        go_simp
        try with_reducible rfl
      simp only [Act.put, List.setIfInBounds_toArray, List.set_cons_zero, List.set_cons_succ, List.getElem_toArray, List.getElem_cons_succ, List.getElem_cons_zero]
      refine wpAnyH_take (i := 24) (v := ?_) rfl (by kernel_rfl) (by kernel_rfl) (by kernel_rfl) (fun _ _ _ h => h) (Or.inl ⟨by kernel_rfl, ?_⟩) (by assumption) ?_
      rotate_left
      · intro wv hSw
        go_simp
        try with_reducible rfl
      simp only [Act.put, List.setIfInBounds_toArray, List.set_cons_zero, List.set_cons_succ, List.getElem_toArray, List.getElem_cons_succ, List.getElem_cons_zero]
      refine wpAnyH_take (i := 25) (v := ?_) rfl (by kernel_rfl) (by kernel_rfl) (by kernel_rfl) (fun _ _ _ h => h) (Or.inl ⟨by kernel_rfl, ?_⟩) (by assumption) ?_
      rotate_left
      · intro wv hSw
        go_simp
        try with_reducible rfl
      simp only [Act.put, List.setIfInBounds_toArray, List.set_cons_zero, List.set_cons_succ, List.getElem_toArray, List.getElem_cons_succ, List.getElem_cons_zero]
      refine wpAnyH_take (i := 26) (v := ?_) rfl (by kernel_rfl) (by kernel_rfl) (by kernel_rfl) (fun _ _ _ h => h) (Or.inl ⟨by kernel_rfl, ?_⟩) (by assumption) ?_
      rotate_left
      · intro wv hSw
        go_simp
        try with_reducible rfl
      simp only [Act.put, List.setIfInBounds_toArray, List.set_cons_zero, List.set_cons_succ, List.getElem_toArray, List.getElem_cons_succ, List.getElem_cons_zero]
      refine wpAnyH_take (i := 27) (v := ?_) rfl (by kernel_rfl) (by kernel_rfl) (by kernel_rfl) (fun _ _ _ h => h) (Or.inl ⟨by kernel_rfl, ?_⟩) (by assumption) ?_
      rotate_left
      · intro wv hSw
        go_simp
        try with_reducible rfl
      simp only [Act.put, List.setIfInBounds_toArray, List.set_cons_zero, List.set_cons_succ, List.getElem_toArray, List.getElem_cons_succ, List.getElem_cons_zero]
      refine wpAnyH_ready (rs := [28]) (by kernel_rfl) (by simp) ?_
      refine AllReadyH.cons rfl (fun K hK => ?_) AllReadyH.nil
      go_simp
      go_at_call 21
      refine (q21 _ _ _ _ ns4 _ _ _ zs true (sub_in P4.out.2.2) G4.out hHeld.1).mono ?_
      rintro e W49 ⟨rfl, hb⟩
      replace G3 := Lib.hid (G3.out.keep hb)
      replace G4 := Lib.hid (G4.out.keep hb)
      replace G6 := Lib.hid (G6.out.keep hb)
      replace G5 := Lib.hid (G5.out.keep hb)
      replace G7 := Lib.hid (G7.out.keep hb)
      replace G8 := Lib.hid (G8.out.keep hb)
      refine hK.out _ _ (hHeld.keep hb) (fun hHeld2 => ?_)
      clear hK K hHeld hb
      have hHeld := hHeld2
      clear hHeld2
      try simp only [Act.put, List.setIfInBounds_toArray, List.set_cons_zero, List.set_cons_succ, List.getElem_toArray, List.getElem_cons_succ, List.getElem_cons_zero]
      refine wpAnyH_take (i := 29) (v := ?_) rfl (by kernel_rfl) (by kernel_rfl) (by kernel_rfl) (fun _ _ _ h => h) (Or.inl ⟨by kernel_rfl, ?_⟩) (by assumption) ?_
      rotate_left
      · intro wv hSw
        go_simp
        try with_reducible rfl
      simp only [Act.put, List.setIfInBounds_toArray, List.set_cons_zero, List.set_cons_succ, List.getElem_toArray, List.getElem_cons_succ, List.getElem_cons_zero]
      refine wpAnyH_take (i := 30) (v := ?_) rfl (by kernel_rfl) (by kernel_rfl) (by kernel_rfl) (fun _ _ _ h => h) (Or.inl ⟨by kernel_rfl, ?_⟩) (by assumption) ?_
      rotate_left
      · intro wv hSw
        go_simp
        try with_reducible rfl
      simp only [Act.put, List.setIfInBounds_toArray, List.set_cons_zero, List.set_cons_succ, List.getElem_toArray, List.getElem_cons_succ, List.getElem_cons_zero]
      refine wpAnyH_ready (rs := [31]) (by kernel_rfl) (by simp) ?_
      refine AllReadyH.cons rfl (fun K hK => ?_) AllReadyH.nil
      go_simp
      go_at_call 7
      refine (wakes_any _).mono ?_
      rintro e W50 ⟨rfl, hb⟩
      replace G3 := Lib.hid (G3.out.keep hb)
      replace G4 := Lib.hid (G4.out.keep hb)
      replace G6 := Lib.hid (G6.out.keep hb)
      replace G5 := Lib.hid (G5.out.keep hb)
      replace G7 := Lib.hid (G7.out.keep hb)
      replace G8 := Lib.hid (G8.out.keep hb)
      refine hK.out _ _ (hHeld.keep hb) (fun hHeld2 => ?_)
      clear hK K hHeld hb
      have hHeld := hHeld2
      clear hHeld2
      try simp only [Act.put, List.setIfInBounds_toArray, List.set_cons_zero, List.set_cons_succ, List.getElem_toArray, List.getElem_cons_succ, List.getElem_cons_zero]
      refine wpAnyH_take (i := 32) (v := ?_) rfl (by kernel_rfl) (by kernel_rfl) (by kernel_rfl) (fun _ _ _ h => h) (Or.inl ⟨by kernel_rfl, ?_⟩) (by assumption) ?_
      rotate_left
      · intro wv hSw
        go_simp
        try with_reducible rfl
      simp only [Act.put, List.setIfInBounds_toArray, List.set_cons_zero, List.set_cons_succ, List.getElem_toArray, List.getElem_cons_succ, List.getElem_cons_zero]
      refine wpAnyH_take (i := 33) (v := ?_) rfl (by kernel_rfl) (by kernel_rfl) (by kernel_rfl) (fun _ _ _ h => h) (Or.inl ⟨by kernel_rfl, ?_⟩) (by assumption) ?_
      rotate_left
      · intro wv hSw
        go_simp
        try with_reducible rfl
      simp only [Act.put, List.setIfInBounds_toArray, List.set_cons_zero, List.set_cons_succ, List.getElem_toArray, List.getElem_cons_succ, List.getElem_cons_zero]
      refine wpAnyH_done (by kernel_rfl) ?_ _
      refine NoPanic.normal ?_
      have HS := Lib.hid hHeld
      clear hHeld
      go_wp2_with fail
      go_ret
      exact ⟨rfl, by have := HS.out.2.2; rwa [hB] at this⟩
  · have hgt : hi < lo := by omega
    go_upto_region 5 with fail
    clear d0 d1
    obtain ⟨d0, d1⟩ := HS.out.2.1.c
    go_wp2_with (first | (go_at_call 10; refine (q10 _ _ _ _ ns4 _ _ _ ns3 true (sub_none hle P3.out.2.1 P4.out.2.1 P3.out.2.2 P4.out.2.2) G4.out G3.out).mono ?_) | fail)
    rintro e W61 ⟨rfl, hb⟩
    replace HS := Lib.hid (HS.out.keep hb)
    replace G3 := Lib.hid (G3.out.keep hb)
    replace G4 := Lib.hid (G4.out.keep hb)
    clear hb d0 d1
    obtain ⟨d0, d1⟩ := HS.out.2.1.c
    go_wp2_with (first | (go_at_call 19; refine (q19 _ _ _ _ zs lo hi false (meets_not hle) HS.out.1).mono ?_) | fail)
    rintro e W62 ⟨rfl, hb⟩
    replace HS := Lib.hid (HS.out.keep hb)
    replace G3 := Lib.hid (G3.out.keep hb)
    replace G4 := Lib.hid (G4.out.keep hb)
    clear hb d0 d1
    obtain ⟨d0, d1⟩ := HS.out.2.1.c
    have hba := (Below.refl W62.heap.size W62).alloc (Nat.le_refl _) (.cells #[.int .u64 (lo : Nat), .int .u64 (hi : Nat)] 25)
    have G5 := Lib.hid (rw1 (RB.new W62 lo hi) HP.out.2.1 HP.out.2.2)
    replace HS := Lib.hid (HS.out.keep hba)
    replace G3 := Lib.hid (G3.out.keep hba)
    replace G4 := Lib.hid (G4.out.keep hba)
    clear hba
    go_wp2_with (first | (go_at_call 13; refine (q13 13 (Or.inl rfl) _ _ _ _ zs _ _ _ [(lo, hi)] HS.out.1 G5.out (by omega)).mono ?_) | fail)
    rintro e W63 ⟨a6, k6, cap6, ns6, rfl, hg, hk, hr, hp, hb⟩
    have G6 := Lib.hid hg
    have P6 := Lib.hid (And.intro hk (And.intro hr hp))
    clear hg hk hr hp
    replace HS := Lib.hid (HS.out.keep hb)
    replace G3 := Lib.hid (G3.out.keep hb)
    replace G4 := Lib.hid (G4.out.keep hb)
    replace G5 := Lib.hid (G5.out.keep hb)
    clear hb
    clear d0 d1
    obtain ⟨d0, d1⟩ := HS.out.2.1.c
    go_wp2_with (first | (go_at_call 10; refine (q10 _ _ _ _ ns6 _ _ _ ns3 true (add_none hle P3.out.2.1 P6.out.2.1 P3.out.2.2 P6.out.2.2) G6.out G3.out).mono ?_) | fail)
    rintro e W64 ⟨rfl, hb⟩
    replace HS := Lib.hid (HS.out.keep hb)
    replace G3 := Lib.hid (G3.out.keep hb)
    replace G4 := Lib.hid (G4.out.keep hb)
    replace G5 := Lib.hid (G5.out.keep hb)
    replace G6 := Lib.hid (G6.out.keep hb)
    clear hb d0 d1
    obtain ⟨d0, d1⟩ := HS.out.2.1.c
    go_wp2_with (first | (go_at_call 7; refine (wakes_any _).mono ?_) | fail)
    rintro e W65 ⟨rfl, hb⟩
    replace HS := Lib.hid (HS.out.keep hb)
    replace G3 := Lib.hid (G3.out.keep hb)
    replace G4 := Lib.hid (G4.out.keep hb)
    replace G5 := Lib.hid (G5.out.keep hb)
    replace G6 := Lib.hid (G6.out.keep hb)
    clear hb d0 d1
    go_wp2_with fail
    go_ret
    exact ⟨rfl, by have := HS.out.2.2; rwa [hB] at this⟩
end Go.Proofs.Ytaaflkjdcablcaa
