/- header.kinds. -/
import Derived.Test.YtnaggdhophncaaaDoorHd
namespace Go.Proofs.YtnaggdhophncaaaDoor
open Go.RowKit Go.Shelf
set_option linter.unusedVariables false
set_option linter.unusedSimpArgs false
attribute [local go_sem] Oper.semAt_some
/-- Is it as the table asks? -/
def mustOk (z : Nat → Nat) (k : Nat) : Bool := (!(mU k == 0) && numZ z (mU k) 2 == 0) || numZ z (mA k) (mS k) == mW k
def mustsB (z : Nat → Nat) : Bool := (List.range 10).all (mustOk z)
def kindsB (z : Nat → Nat) : Bool := mustsB z && (decide (numZ z 56 2 ≤ 16) && decide (numZ z 60 2 ≤ 32))
def errK (z : Nat → Nat) : Nat := if kindsB z then 0 else 32
theorem all_succ (f : Nat → Bool) (k : Nat) : (List.range (k + 1)).all f = ((List.range k).all f && f k) := by rw [List.range_succ, List.all_append]; simp
theorem not_must {z : Nat → Nat} {k : Nat} (hk : k < 10) (h : mustOk z k = false) : errK z = 32 := by
  have : mustsB z = false := by
    unfold mustsB
    rw [Bool.eq_false_iff]
    intro e
    have := List.all_eq_true.1 e k (List.mem_range.2 hk)
    rw [h] at this
    cases this
  unfold errK kindsB
  rw [this]
  rfl
theorem mu_u (k : Nat) (hk : k < 10) : mU k + 2 ≤ 64 := by
  obtain rfl | rfl | rfl | rfl | rfl | rfl | rfl | rfl | rfl | rfl : k = 0 ∨ k = 1 ∨ k = 2 ∨ k = 3 ∨ k = 4 ∨ k = 5 ∨ k = 6 ∨ k = 7 ∨ k = 8 ∨ k = 9 := by omega
  all_goals decide
theorem hnumz (ad : Option Addr) (len cap : Nat) (z : Nat → Nat) (hz : ∀ j, z j < 256) (o s : Nat) (h1 : 1 ≤ s) (h8 : s ≤ 8) (ho : o + s ≤ len) (hl : len ≤ cap) (hm : cap ≤ 9223372036854775807) (w : World) (h : BS w ad len z) :
    Calls Tryd.prog 26 #[.slice ad len cap, .int .i64 (o : Nat), .int .i64 (s : Nat)] w fun e w' => e = .returned (.int .u64 (numZ z o s : Nat)) ∧ w' = w := hnum_any ad len cap z hz o s h1 h8 ho hl hm w h
/-- One of the table's numbers in its box, the bytes, the tables. -/
def KS (w : World) (D a s x u : Nat) (ad : Option Addr) (len : Nat) (z : Nat → Nat) (W : World) : Prop :=
  W.cell? ⟨D, 0, none⟩ = some (.int .i64 (a : Nat)) ∧ W.cell? ⟨D, 1, none⟩ = some (.int .i64 (s : Nat)) ∧ W.cell? ⟨D, 2, none⟩ = some (.int .u64 (x : Nat)) ∧ W.cell? ⟨D, 3, none⟩ = some (.int .i64 (u : Nat)) ∧ BS W ad len z ∧ Below w.heap.size w W
theorem KS.drew {w W : World} {D a s x u : Nat} {ad : Option Addr} {len : Nat} {z : Nat → Nat} (h : KS w D a s x u ad len z W) : KS w D a s x u ad len z W.drew := ⟨h.1, h.2.1, h.2.2.1, h.2.2.2.1, h.2.2.2.2.1, h.2.2.2.2.2.drew⟩
def KB (w : World) (ad : Option Addr) (len : Nat) (z : Nat → Nat) (W : World) : Prop := BS W ad len z ∧ Below w.heap.size w W
theorem KB.new {w W : World} {ad : Option Addr} {len : Nat} {z : Nat → Nat} (h : KB w ad len z W) (a s x u : Nat) : KS w W.heap.size a s x u ad len z (W.alloc (.cells #[.int .i64 (a : Nat), .int .i64 (s : Nat), .int .u64 (x : Nat), .int .i64 (u : Nat)] 60)) := by
  have hb : Below W.heap.size W (W.alloc (.cells #[.int .i64 (a : Nat), .int .i64 (s : Nat), .int .u64 (x : Nat), .int .i64 (u : Nat)] 60)) := (Below.refl _ _).alloc (Nat.le_refl _) _
  have hn := heap_alloc_last W (.cells #[.int .i64 (a : Nat), .int .i64 (s : Nat), .int .u64 (x : Nat), .int .i64 (u : Nat)] 60)
  exact ⟨cell_at hn rfl, cell_at hn rfl, cell_at hn rfl, cell_at hn rfl, h.1.keep hb, h.2.trans (hb.mono h.2.size)⟩
set_option maxRecDepth 100000 in
set_option maxHeartbeats 8000000 in
theorem kinds_any (ad : Option Addr) (len cap : Nat) (z : Nat → Nat) (hz : ∀ j, z j < 256) (hn : 64 ≤ len) (hl : len ≤ cap) (hm : cap ≤ 9223372036854775807) (w : World) (h : BS w ad len z) (hG : GM w) :
    Calls Tryd.prog 25 #[.slice ad len cap] w fun e W' => e = .returned (.int .i64 (errK z : Nat)) ∧ Below w.heap.size w W' := by
  have HK0 : Hid (KB w ad len z w) := Lib.hid ⟨h, Below.refl _ _⟩
  have HGG := Lib.hid hG.1.2
  have HNN := Lib.hid (fun o s h1 h8 ho W h => hnumz ad len cap z hz o s h1 h8 ho hl hm W h)
  clear h hG
  go_enter Tryd.func25, Tryd.ntmps25
  go_wp2_with (first | (refine wpList_load_mid rfl 61 _ rfl 1 0 rfl muL _ HGG.out Tryd.underlying61 rfl info61 ?_) | fail)
  go_loopw [6] (fun i W => ∃ k : Nat, k ≤ 10 ∧ i = .int .i64 k ∧ Hid ((List.range k).all (mustOk z) = true) ∧ Hid (KB w ad len z W)) (fun i _ => 10 - (intOf i).toNat)
  case atStart => exact ⟨0, by omega, rfl, Lib.hid rfl, HK0⟩
  case round =>
    clear HK0
    obtain ⟨k, hk, rfl, HA, HK⟩ := hrel
    by_cases hlt : k < 10
    · have hix := fun W => mu_at k hlt W
      obtain ⟨f1, f2, f3⟩ := mu_fit k hlt
      have f4 := mu_u k hlt
      have HM := Lib.hid (all_succ (mustOk z) k)
      have HO := Lib.hid (show mustOk z k = ((!(mU k == 0) && numZ z (mU k) 2 == 0) || numZ z (mA k) (mS k) == mW k) from rfl)
      have HNO := Lib.hid (fun e => not_must (z := z) (k := k) hlt e)
      have HS := Lib.hid (HK.out.new (mA k) (mS k) (mW k) (mU k))
      have HN1 := Lib.hid (fun W h => HNN.out (mA k) (mS k) f1 f2 (by omega) W h)
      have HN2 := Lib.hid (fun W h => HNN.out (mU k) 2 (by decide) (by decide) (by omega) W h)
      clear HK
      generalize hn1 : numZ z (mA k) (mS k) = n1 at *
      generalize hn2 : numZ z (mU k) 2 = n2 at *
      clear hn1 hn2
      generalize mA k = a at *
      generalize mS k = s at *
      generalize mW k = x at *
      generalize mU k = u at *
      generalize muL = mul at *
      go_upto_region 4 with fail
      generalize wr.heap.size = D at *
      generalize World.alloc wr _ = W at HS ⊢
      obtain ⟨c0, c1, c2, c3, hbs, hbl⟩ := HS.out
      by_cases hu : u = 0
      · subst hu
        have hmo : mustOk z k = (n1 == x) := by rw [HO.out]; simp
        have HMO := Lib.hid hmo
        clear hmo HN2 HO
        go_upto_region 5 with fail
        refine wp_region_noPanic ?_
        refine wp_region_held_drew (S := fun W : World => KS w D a s x 0 ad len z W) (by kernel_rfl) ?_ (fun hHeld => ?_)
        · exact HS.out.drew
        have HS2 := Lib.hid HS.out.drew
        clear HS c0 c1 c2 c3 hbs hbl
        generalize World.drew _ = W2 at hHeld HS2 ⊢
        refine wpAnyH_take (i := 0) (v := ?_) rfl (by kernel_rfl) (by kernel_rfl) (by kernel_rfl) (fun _ _ _ h => h) (Or.inl ⟨by kernel_rfl, ?_⟩) (by assumption) ?_
        rotate_left
        · intro wv hSw
          obtain ⟨c0, c1, c2, c3, c4⟩ := hSw; go_simp
          try with_reducible rfl
        simp only [Act.put, List.setIfInBounds_toArray, List.set_cons_zero, List.set_cons_succ, List.getElem_toArray, List.getElem_cons_succ, List.getElem_cons_zero]
        refine wpAnyH_take (i := 1) (v := ?_) rfl (by kernel_rfl) (by kernel_rfl) (by kernel_rfl) (fun _ _ _ h => h) (Or.inl ⟨by kernel_rfl, ?_⟩) (by assumption) ?_
        rotate_left
        · intro wv hSw
          obtain ⟨c0, c1, c2, c3, c4⟩ := hSw; go_simp
          try with_reducible rfl
        simp only [Act.put, List.setIfInBounds_toArray, List.set_cons_zero, List.set_cons_succ, List.getElem_toArray, List.getElem_cons_succ, List.getElem_cons_zero]
        refine wpAnyH_take (i := 2) (v := ?_) rfl (by kernel_rfl) (by kernel_rfl) (by kernel_rfl) (fun _ _ _ h => h) (Or.inl ⟨by kernel_rfl, ?_⟩) (by assumption) ?_
        rotate_left
        · intro wv hSw
          obtain ⟨c0, c1, c2, c3, c4⟩ := hSw; go_simp
          try with_reducible rfl
        simp only [Act.put, List.setIfInBounds_toArray, List.set_cons_zero, List.set_cons_succ, List.getElem_toArray, List.getElem_cons_succ, List.getElem_cons_zero]
        refine wpAnyH_take (i := 3) (v := ?_) rfl (by kernel_rfl) (by kernel_rfl) (by kernel_rfl) (fun _ _ _ h => h) (Or.inl ⟨by kernel_rfl, ?_⟩) (by assumption) ?_
        rotate_left
        · intro wv hSw
          obtain ⟨c0, c1, c2, c3, c4⟩ := hSw; go_simp
          try with_reducible rfl
        simp only [Act.put, List.setIfInBounds_toArray, List.set_cons_zero, List.set_cons_succ, List.getElem_toArray, List.getElem_cons_succ, List.getElem_cons_zero]
        refine wpAnyH_take (i := 4) (v := ?_) rfl (by kernel_rfl) (by kernel_rfl) (by kernel_rfl) (fun _ _ _ h => h) (Or.inl ⟨by kernel_rfl, ?_⟩) (by assumption) ?_
        rotate_left
        · intro wv hSw
          obtain ⟨c0, c1, c2, c3, c4⟩ := hSw; go_simp
          try with_reducible rfl
        simp only [Act.put, List.setIfInBounds_toArray, List.set_cons_zero, List.set_cons_succ, List.getElem_toArray, List.getElem_cons_succ, List.getElem_cons_zero]
        refine wpAnyH_take (i := 6) (v := ?_) rfl (by kernel_rfl) (by kernel_rfl) (by kernel_rfl) (fun _ _ _ h => h) (Or.inl ⟨by kernel_rfl, ?_⟩) (by assumption) ?_
        rotate_left
        · intro wv hSw
          obtain ⟨c0, c1, c2, c3, c4⟩ := hSw; go_simp
          try with_reducible rfl
        simp only [Act.put, List.setIfInBounds_toArray, List.set_cons_zero, List.set_cons_succ, List.getElem_toArray, List.getElem_cons_succ, List.getElem_cons_zero]
        refine wpAnyH_take (i := 7) (v := ?_) rfl (by kernel_rfl) (by kernel_rfl) (by kernel_rfl) (fun _ _ _ h => h) (Or.inl ⟨by kernel_rfl, ?_⟩) (by assumption) ?_
        rotate_left
        · intro wv hSw
          obtain ⟨c0, c1, c2, c3, c4⟩ := hSw; go_simp
          try with_reducible rfl
        simp only [Act.put, List.setIfInBounds_toArray, List.set_cons_zero, List.set_cons_succ, List.getElem_toArray, List.getElem_cons_succ, List.getElem_cons_zero]
        refine wpAnyH_ready (rs := [5]) (by kernel_rfl) (by simp) ?_
        refine AllReadyH.cons rfl (fun K hK => ?_) AllReadyH.nil
        go_simp
        go_at_call 26
        refine (HN1.out _ HS2.out.2.2.2.2.1).mono ?_
        rintro e W4 ⟨rfl, rfl⟩
        refine hK.out _ _ HS2.out (fun hHeld2 => ?_)
        clear hK K hHeld
        have hHeld := hHeld2
        clear hHeld2
        try simp only [Act.put, List.setIfInBounds_toArray, List.set_cons_zero, List.set_cons_succ, List.getElem_toArray, List.getElem_cons_succ, List.getElem_cons_zero]
        refine wpAnyH_take (i := 8) (v := ?_) rfl (by kernel_rfl) (by kernel_rfl) (by kernel_rfl) (fun _ _ _ h => h) (Or.inl ⟨by kernel_rfl, ?_⟩) (by assumption) ?_
        rotate_left
        · intro wv hSw
          go_simp
          try with_reducible rfl
        simp only [Act.put, List.setIfInBounds_toArray, List.set_cons_zero, List.set_cons_succ, List.getElem_toArray, List.getElem_cons_succ, List.getElem_cons_zero]
        refine wpAnyH_done (by kernel_rfl) ?_ _
        refine NoPanic.normal ?_
        by_cases hx : n1 = x
        · subst hx
          go_wp2_with fail
          go_roundw
          case rel => exact ⟨k + 1, by omega, by go_num, Lib.hid (by rw [HM.out, HA.out, HMO.out]; simp), Lib.hid HS2.out.2.2.2.2⟩
          case measure => simp [intOf]; omega
        · have hx' : ((n1 : Int) == (x : Int)) = false := by simp; omega
          have HE := Lib.hid (HNO.out (by rw [HMO.out]; simp [hx]))
          go_wp2_with fail
          go_ret
          exact ⟨by rw [HE.out]; rfl, HS2.out.2.2.2.2.2⟩
      · have hu' : ((u : Int) == 0) = false := by simp [hu]
        by_cases hz2 : n2 = 0
        · subst hz2
          have hmo : mustOk z k = true := by rw [HO.out]; simp [hu]
          have HMO := Lib.hid hmo
          clear hmo HN1 HO
          go_wp2_with fail
          go_at_call 26
          refine (HN2.out _ hbs).mono ?_
          rintro e W9 ⟨rfl, rfl⟩
          go_wp2_with fail
          go_roundw
          case rel => exact ⟨k + 1, by omega, by go_num, Lib.hid (by rw [HM.out, HA.out, HMO.out]; rfl), Lib.hid HS.out.2.2.2.2⟩
          case measure => simp [intOf]; omega
        · have hmo : mustOk z k = (n1 == x) := by rw [HO.out]; simp [hz2]
          have HMO := Lib.hid hmo
          have hz' : ((n2 : Int) == 0) = false := by simp [hz2]
          clear hmo HO
          go_wp2_with fail
          go_at_call 26
          refine (HN2.out _ hbs).mono ?_
          rintro e W9 ⟨rfl, rfl⟩
          go_upto_region 5 with fail
          refine wp_region_noPanic ?_
          refine wp_region_held_drew (S := fun W : World => KS w D a s x u ad len z W) (by kernel_rfl) ?_ (fun hHeld => ?_)
          · exact HS.out.drew
          have HS2 := Lib.hid HS.out.drew
          clear HS c0 c1 c2 c3 hbs hbl
          generalize World.drew _ = W2 at hHeld HS2 ⊢
          refine wpAnyH_take (i := 0) (v := ?_) rfl (by kernel_rfl) (by kernel_rfl) (by kernel_rfl) (fun _ _ _ h => h) (Or.inl ⟨by kernel_rfl, ?_⟩) (by assumption) ?_
          rotate_left
          · intro wv hSw
            obtain ⟨c0, c1, c2, c3, c4⟩ := hSw; go_simp
            try with_reducible rfl
          simp only [Act.put, List.setIfInBounds_toArray, List.set_cons_zero, List.set_cons_succ, List.getElem_toArray, List.getElem_cons_succ, List.getElem_cons_zero]
          refine wpAnyH_take (i := 1) (v := ?_) rfl (by kernel_rfl) (by kernel_rfl) (by kernel_rfl) (fun _ _ _ h => h) (Or.inl ⟨by kernel_rfl, ?_⟩) (by assumption) ?_
          rotate_left
          · intro wv hSw
            obtain ⟨c0, c1, c2, c3, c4⟩ := hSw; go_simp
            try with_reducible rfl
          simp only [Act.put, List.setIfInBounds_toArray, List.set_cons_zero, List.set_cons_succ, List.getElem_toArray, List.getElem_cons_succ, List.getElem_cons_zero]
          refine wpAnyH_take (i := 2) (v := ?_) rfl (by kernel_rfl) (by kernel_rfl) (by kernel_rfl) (fun _ _ _ h => h) (Or.inl ⟨by kernel_rfl, ?_⟩) (by assumption) ?_
          rotate_left
          · intro wv hSw
            obtain ⟨c0, c1, c2, c3, c4⟩ := hSw; go_simp
            try with_reducible rfl
          simp only [Act.put, List.setIfInBounds_toArray, List.set_cons_zero, List.set_cons_succ, List.getElem_toArray, List.getElem_cons_succ, List.getElem_cons_zero]
          refine wpAnyH_take (i := 3) (v := ?_) rfl (by kernel_rfl) (by kernel_rfl) (by kernel_rfl) (fun _ _ _ h => h) (Or.inl ⟨by kernel_rfl, ?_⟩) (by assumption) ?_
          rotate_left
          · intro wv hSw
            obtain ⟨c0, c1, c2, c3, c4⟩ := hSw; go_simp
            try with_reducible rfl
          simp only [Act.put, List.setIfInBounds_toArray, List.set_cons_zero, List.set_cons_succ, List.getElem_toArray, List.getElem_cons_succ, List.getElem_cons_zero]
          refine wpAnyH_take (i := 4) (v := ?_) rfl (by kernel_rfl) (by kernel_rfl) (by kernel_rfl) (fun _ _ _ h => h) (Or.inl ⟨by kernel_rfl, ?_⟩) (by assumption) ?_
          rotate_left
          · intro wv hSw
            obtain ⟨c0, c1, c2, c3, c4⟩ := hSw; go_simp
            try with_reducible rfl
          simp only [Act.put, List.setIfInBounds_toArray, List.set_cons_zero, List.set_cons_succ, List.getElem_toArray, List.getElem_cons_succ, List.getElem_cons_zero]
          refine wpAnyH_take (i := 6) (v := ?_) rfl (by kernel_rfl) (by kernel_rfl) (by kernel_rfl) (fun _ _ _ h => h) (Or.inl ⟨by kernel_rfl, ?_⟩) (by assumption) ?_
          rotate_left
          · intro wv hSw
            obtain ⟨c0, c1, c2, c3, c4⟩ := hSw; go_simp
            try with_reducible rfl
          simp only [Act.put, List.setIfInBounds_toArray, List.set_cons_zero, List.set_cons_succ, List.getElem_toArray, List.getElem_cons_succ, List.getElem_cons_zero]
          refine wpAnyH_take (i := 7) (v := ?_) rfl (by kernel_rfl) (by kernel_rfl) (by kernel_rfl) (fun _ _ _ h => h) (Or.inl ⟨by kernel_rfl, ?_⟩) (by assumption) ?_
          rotate_left
          · intro wv hSw
            obtain ⟨c0, c1, c2, c3, c4⟩ := hSw; go_simp
            try with_reducible rfl
          simp only [Act.put, List.setIfInBounds_toArray, List.set_cons_zero, List.set_cons_succ, List.getElem_toArray, List.getElem_cons_succ, List.getElem_cons_zero]
          refine wpAnyH_ready (rs := [5]) (by kernel_rfl) (by simp) ?_
          refine AllReadyH.cons rfl (fun K hK => ?_) AllReadyH.nil
          go_simp
          go_at_call 26
          refine (HN1.out _ HS2.out.2.2.2.2.1).mono ?_
          rintro e W4 ⟨rfl, rfl⟩
          refine hK.out _ _ HS2.out (fun hHeld2 => ?_)
          clear hK K hHeld
          have hHeld := hHeld2
          clear hHeld2
          try simp only [Act.put, List.setIfInBounds_toArray, List.set_cons_zero, List.set_cons_succ, List.getElem_toArray, List.getElem_cons_succ, List.getElem_cons_zero]
          refine wpAnyH_take (i := 8) (v := ?_) rfl (by kernel_rfl) (by kernel_rfl) (by kernel_rfl) (fun _ _ _ h => h) (Or.inl ⟨by kernel_rfl, ?_⟩) (by assumption) ?_
          rotate_left
          · intro wv hSw
            go_simp
            try with_reducible rfl
          simp only [Act.put, List.setIfInBounds_toArray, List.set_cons_zero, List.set_cons_succ, List.getElem_toArray, List.getElem_cons_succ, List.getElem_cons_zero]
          refine wpAnyH_done (by kernel_rfl) ?_ _
          refine NoPanic.normal ?_
          by_cases hx : n1 = x
          · subst hx
            go_wp2_with fail
            go_roundw
            case rel => exact ⟨k + 1, by omega, by go_num, Lib.hid (by rw [HM.out, HA.out, HMO.out]; simp), Lib.hid HS2.out.2.2.2.2⟩
            case measure => simp [intOf]; omega
          · have hx' : ((n1 : Int) == (x : Int)) = false := by simp; omega
            have HE := Lib.hid (HNO.out (by rw [HMO.out]; simp [hx]))
            go_wp2_with fail
            go_ret
            exact ⟨by rw [HE.out]; rfl, HS2.out.2.2.2.2.2⟩
    · obtain rfl : k = 10 := by omega
      generalize muL = mul at *
      have HAA : Hid (mustsB z = true) := Lib.hid HA.out
      clear HA
      have HN1 := Lib.hid (fun W h => HNN.out 56 2 (by decide) (by decide) (by omega) W h)
      have HN2 := Lib.hid (fun W h => HNN.out 60 2 (by decide) (by decide) (by omega) W h)
      have HE : Hid (errK z = if decide (numZ z 56 2 ≤ 16) && decide (numZ z 60 2 ≤ 32) then 0 else 32) := Lib.hid (by unfold errK kindsB; rw [HAA.out]; simp)
      generalize numZ z 56 2 = n1 at *
      generalize numZ z 60 2 = n2 at *
      by_cases h1 : n1 ≤ 16
      · have hd1 : decide (16 < (n1 : Int)) = false := decide_eq_false (by omega)
        by_cases h2 : n2 ≤ 32
        · have hd2 : decide (32 < (n2 : Int)) = false := decide_eq_false (by omega)
          have HEE : Hid (errK z = 0) := Lib.hid (by rw [HE.out]; simp [h1, h2])
          clear HE
          go_wp2_with fail
          go_at_call 26
          refine (HN1.out _ HK.out.1).mono ?_
          rintro e W9 ⟨rfl, rfl⟩
          go_wp2_with fail
          go_at_call 26
          refine (HN2.out _ HK.out.1).mono ?_
          rintro e W9 ⟨rfl, rfl⟩
          go_wp2_with fail
          go_ret
          exact ⟨by rw [HEE.out]; rfl, HK.out.2⟩
        · have hd2 : decide (32 < (n2 : Int)) = true := decide_eq_true (by omega)
          have HEE : Hid (errK z = 32) := Lib.hid (by rw [HE.out]; simp [h1, h2])
          clear HE
          go_wp2_with fail
          go_at_call 26
          refine (HN1.out _ HK.out.1).mono ?_
          rintro e W9 ⟨rfl, rfl⟩
          go_wp2_with fail
          go_at_call 26
          refine (HN2.out _ HK.out.1).mono ?_
          rintro e W9 ⟨rfl, rfl⟩
          go_wp2_with fail
          go_ret
          exact ⟨by rw [HEE.out]; rfl, HK.out.2⟩
      · have hd1 : decide (16 < (n1 : Int)) = true := decide_eq_true (by omega)
        have HEE : Hid (errK z = 32) := Lib.hid (by rw [HE.out]; simp [h1])
        clear HE
        go_wp2_with fail
        go_at_call 26
        refine (HN1.out _ HK.out.1).mono ?_
        rintro e W9 ⟨rfl, rfl⟩
        go_wp2_with fail
        go_ret
        exact ⟨by rw [HEE.out]; rfl, HK.out.2⟩
end Go.Proofs.YtnaggdhophncaaaDoor
