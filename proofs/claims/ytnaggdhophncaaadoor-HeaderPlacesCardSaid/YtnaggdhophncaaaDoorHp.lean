/- HeaderPlaces' walk. -/
import Derived.Test.YtnaggdhophncaaaDoorAm
namespace Go.Proofs.YtnaggdhophncaaaDoor
open Go.RowKit Go.Shelf
set_option linter.unusedVariables false
set_option linter.unusedSimpArgs false
attribute [local go_sem] Oper.semAt_some
def zP (one two : Nat) : Nat → Nat := tailF (headF 0 one two 1 1) 64
theorem zP_num (one two : Nat) (h1 : U one) (h2 : U two) : numZ (zP one two) 24 8 = 0 ∧ numZ (zP one two) 32 8 = one ∧ numZ (zP one two) 40 8 = two ∧ numZ (zP one two) 56 2 = 1 ∧ numZ (zP one two) 60 2 = 1 := by
  have hc : ∀ o s, o + s ≤ 64 → numZ (zP one two) o s = numZ (headF 0 one two 1 1) o s := fun o s ho => numZ_congr fun j _ hj => tailF_in _ _ j (by omega)
  unfold U at h1 h2
  exact ⟨(hc 24 8 (by decide)).trans ((head_en ..).trans (by decide)), (hc 32 8 (by decide)).trans ((head_so ..).trans (Nat.mod_eq_of_lt (by omega))), (hc 40 8 (by decide)).trans ((head_sc ..).trans (Nat.mod_eq_of_lt (by omega))),
    (hc 56 2 (by decide)).trans ((head_ns ..).trans (by decide)), (hc 60 2 (by decide)).trans ((head_nc ..).trans (by decide))⟩
theorem zP_place (one two n : Nat) (h1 : U one) (h2 : U two) : placeB (zP one two) n = ((decide (one ≤ n) && decide (56 ≤ n - one)) && (decide (two ≤ n) && decide (64 ≤ n - two))) := by
  obtain ⟨_, e2, e3, e4, e5⟩ := zP_num one two h1 h2
  unfold placeB withB
  rw [e2, e3, e4, e5]
  simp
theorem zP_read (one two n : Nat) (h1 : U one) (h2 : U two) (hn : 64 ≤ n) (hm : n ≤ 6000) : readE (zP one two) n = if placeB (zP one two) n then 0 else 33 := by
  have hl : ∀ j, j < 64 → zP one two j = headF 0 one two 1 1 j := fun j hj => tailF_in _ _ j hj
  have hk : kindsB (zP one two) = true := by
    rw [like_kinds hl, head_kinds]
    decide
  unfold readE
  rw [if_neg (by omega), if_neg (by omega), like_mag hl, head_mag, hk]
  cases placeB (zP one two) n <;> rfl
theorem p_bad {one two n cap : Nat} (h1 : U one) (h2 : U two) (hn : 64 ≤ n) (hm : n ≤ 6000) (hc : n ≤ cap) (hc2 : cap ≤ 9223372036854775807) {ad : Option Addr} {w : World} (h : BS w ad n (zP one two)) (hG : GM w) (hp : placeB (zP one two) n = false) :
    Calls Tryd.prog 10 #[.slice ad n cap] w fun e W' => e = .returned (.tuple #[.agg #[.int .u64 0, .int .u64 0, .int .u64 0, .slice none 0 0, .slice none 0 0], .int .i64 33]) ∧ Below w.heap.size w W' :=
  read_bad (E := 33) (z := zP one two) (fun j => tailF_lt (headF_lt 0 one two 1 1) 64 j : ∀ j, zP one two j < 256) hc hc2 h hG (by rw [zP_read one two n h1 h2 hn hm, hp]; rfl) (by decide)
theorem p_good {one two n cap : Nat} (h1 : U one) (h2 : U two) (hn : 64 ≤ n) (hm : n ≤ 6000) (hc : n ≤ cap) (hc2 : cap ≤ 9223372036854775807) {ad : Option Addr} {w : World} (h : BS w ad n (zP one two)) (hG : GM w) (hp : placeB (zP one two) n = true) :
    Calls Tryd.prog 10 #[.slice ad n cap] w fun e W' => ∃ a1 p1 a2 p2, e = .returned (.tuple #[.agg #[.int .u64 0, .int .u64 (one : Nat), .int .u64 (two : Nat), .slice a1 1 p1, .slice a2 1 p2], .int .i64 0]) ∧ Below w.heap.size w W' :=
  (read_good (z := zP one two) (fun j => tailF_lt (headF_lt 0 one two 1 1) 64 j : ∀ j, zP one two j < 256) hc hc2 h hG (by rw [zP_read one two n h1 h2 hn hm, hp]; rfl) (zP_num one two h1 h2).1 (zP_num one two h1 h2).2.1 (zP_num one two h1 h2).2.2.1 (zP_num one two h1 h2).2.2.2.1 (zP_num one two h1 h2).2.2.2.2).mono
    fun e W' ⟨a1, p1, a2, p2, h1, _, _, h4⟩ => ⟨a1, p1, a2, p2, h1, h4⟩
set_option maxRecDepth 100000 in
set_option maxHeartbeats 8000000 in
theorem places6_walk (s0 s1 s2 s3 s4 s5 s6 c0 c1 c2 c3 c4 : Nat) (one two : Nat) (size : Int) (hone : U one) (htwo : U two) (w : World) (hG : GM w) :
    Calls Tryd.prog 6 #[.agg #[.int .u32 (s0 : Nat), .int .u32 (s1 : Nat), .int .u64 (s2 : Nat), .int .u64 (s3 : Nat), .int .u64 (s4 : Nat), .int .u64 (s5 : Nat), .int .u64 (s6 : Nat)], .agg #[.int .u32 (c0 : Nat), .int .u64 (c1 : Nat), .int .u64 (c2 : Nat), .int .u32 (c3 : Nat), .int .u64 (c4 : Nat)], .int .u64 (one : Nat), .int .u64 (two : Nat), .int .i64 size] w fun e W' => e = .returned (.bool true) ∧ Below w.heap.size w W' := by
  have HG : Hid (WG w w) := Lib.hid ⟨hG, Below.refl _ _⟩
  have HU := Lib.hid (And.intro hone htwo)
  clear hG
  by_cases hs1 : size < 64
  · have hd1 : decide (size < 64) = true := decide_eq_true hs1
    go_enter Tryd.func6, Tryd.ntmps6
    go_wp2_with (first | (go_at_call 9; refine (wakes_any _ ((HG.out.alloc _).alloc _).1).mono ?_) | fail)
    first | (rintro e W3 rfl hb) | (rintro e W3 ⟨rfl, hb⟩)
    have HE := Lib.hid (((HG.out.alloc _).alloc _).2.trans (hb.mono (by first | omega | (simp only [World.size_alloc]; omega))))
    go_wp2_with fail
    go_ret
    exact ⟨rfl, HE.out⟩
  by_cases hs2 : 6000 < size
  · have hd1 : decide (size < 64) = false := decide_eq_false hs1
    have hd2 : decide (6000 < size) = true := decide_eq_true hs2
    go_enter Tryd.func6, Tryd.ntmps6
    go_wp2_with (first | (go_at_call 9; refine (wakes_any _ ((HG.out.alloc _).alloc _).1).mono ?_) | fail)
    first | (rintro e W3 rfl hb) | (rintro e W3 ⟨rfl, hb⟩)
    have HE := Lib.hid (((HG.out.alloc _).alloc _).2.trans (hb.mono (by first | omega | (simp only [World.size_alloc]; omega))))
    go_wp2_with fail
    go_ret
    exact ⟨rfl, HE.out⟩
  obtain ⟨n, rfl⟩ : ∃ n : Nat, size = (n : Int) := ⟨size.toNat, by omega⟩
  have hn1 : 64 ≤ n := by omega
  have hn2 : n ≤ 6000 := by omega
  have hd1 : decide ((n : Int) < 64) = false := decide_eq_false hs1
  have hd2 : decide (6000 < (n : Int)) = false := decide_eq_false hs2
  clear hs1 hs2
  go_enter Tryd.func6, Tryd.ntmps6
  go_upto_region 4 with fail
  have HK := Lib.hid (((((HG.out.alloc (.cells #[.int .u32 (s0 : Nat), .int .u32 (s1 : Nat), .int .u64 (s2 : Nat), .int .u64 (s3 : Nat), .int .u64 (s4 : Nat), .int .u64 (s5 : Nat), .int .u64 (s6 : Nat)] 30)).alloc (.cells #[.int .u32 (c0 : Nat), .int .u64 (c1 : Nat), .int .u64 (c2 : Nat), .int .u32 (c3 : Nat), .int .u64 (c4 : Nat)] 32)).alloc (.cells #[.int .u32 (s0 : Nat), .int .u32 (s1 : Nat), .int .u64 (s2 : Nat), .int .u64 (s3 : Nat), .int .u64 (s4 : Nat), .int .u64 (s5 : Nat), .int .u64 (s6 : Nat)] 30)).alloc (.cells #[.int .u32 (c0 : Nat), .int .u64 (c1 : Nat), .int .u64 (c2 : Nat), .int .u32 (c3 : Nat), .int .u64 (c4 : Nat)] 32)).box #[.int .u64 0, .int .u64 (one : Nat), .int .u64 (two : Nat), .slice (some ⟨w.heap.size + 1 + 1, 0, none⟩) 1 1, .slice (some ⟨w.heap.size + 1 + 1 + 1, 0, none⟩) 1 1])
  simp only [World.size_alloc] at HK
  clear HG
  generalize World.alloc (World.alloc _ _) _ = W4 at HK ⊢
  generalize w.heap.size + 1 + 1 + 1 + 1 = B at HK ⊢
  have r0 := cell_at (i := 0) (v := .int .u64 0) HK.out.1 rfl
  have r1 := cell_at (i := 1) (v := .int .u64 (one : Nat)) HK.out.1 rfl
  have r2 := cell_at (i := 2) (v := .int .u64 (two : Nat)) HK.out.1 rfl
  have r3 := cell_at (i := 3) (v := .slice (some ⟨w.heap.size + 1 + 1, 0, none⟩) 1 1) HK.out.1 rfl
  have r4 := cell_at (i := 4) (v := .slice (some ⟨w.heap.size + 1 + 1 + 1, 0, none⟩) 1 1) HK.out.1 rfl
  go_wp2_with (first | (go_at_call 14; refine (head_any 0 one two 1 1 (some ⟨w.heap.size + 1 + 1, 0, none⟩) (some ⟨w.heap.size + 1 + 1 + 1, 0, none⟩) 1 1 (by decide) (by decide) _ HK.out.2.1).mono ?_) | fail)
  rintro e W5 ⟨rfl, hr, hb⟩
  replace HK := Lib.hid (WG.keep HK.out.2 hb)
  clear hb r0 r1 r2 r3 r4
  generalize W4.heap.size + 1 = g at hr ⊢
  have HR := Lib.hid hr
  clear hr
  have hwm : IntKind.i64.wrap ((n : Int) - 64) = (n : Int) - 64 := IntWalk.i64_in _ (by omega)
  obtain ⟨m, hm⟩ : ∃ m, 64 + m = n := ⟨n - 64, by omega⟩
  have HM := Lib.hid hm
  have HKM := Lib.hid (show (n : Int) - 64 = (m : Nat) by omega)
  have HL6 := Lib.hid (show m ≤ 100000 by omega)
  clear hm
  go_wp2_with (first | (refine wpList_appmake rfl rfl rfl rfl HKM.out HR.out (by decide) HL6.out ?_) | fail)
  intro g2 cap2 W6 hc1 hc2 hbs hb
  replace HK := Lib.hid (HK.out.keep hb)
  rw [HM.out] at hc1 hbs ⊢
  have HBS : Hid (BS W6 (some ⟨g2, 0, none⟩) n (zP one two)) := Lib.hid hbs
  have HC := Lib.hid (And.intro hc1 hc2)
  have HN := Lib.hid (And.intro hn1 hn2)
  clear hb hbs hc1 hc2 HR HM HKM HL6 hwm hd1 hd2
  go_upto_region 5 with fail
  have HNW := Lib.hid (show IntKind.u64.wrap (n : Int) = (n : Int) from IntWalk.u64_in _ (by omega))
  have HP := Lib.hid (zP_place one two n HU.out.1 HU.out.2)
  by_cases h0 : one ≤ n
  rotate_left
  · have hp : placeB (zP one two) n = false := by rw [HP.out, decide_eq_false h0]; simp
    have HPP := Lib.hid hp
    have d0 : decide (one ≤ n) = false := decide_eq_false (by omega)
    have nw := HNW.out
    clear hp h0 HP HNW
    go_wp2_with (first | (go_at_call 10; refine (p_bad HU.out.1 HU.out.2 HN.out.1 HN.out.2 HC.out.1 HC.out.2 HBS.out HK.out.1 HPP.out).mono ?_) | fail)
    rintro e W7 ⟨rfl, hb⟩
    replace HK := Lib.hid (HK.out.keep hb)
    clear hb HBS
    go_upto_region 6 with fail
    have HKK := Lib.hid (HK.out.box #[.int .u64 0, .int .u64 0, .int .u64 0, .slice none 0 0, .slice none 0 0])
    clear HK
    generalize W7.heap.size = D at HKK ⊢
    generalize World.alloc W7 _ = W8 at HKK ⊢
    go_wp2_with (first | (go_at_call 9; refine (wakes_any _ HKK.out.2.1).mono ?_) | fail)
    first | (rintro e W9 rfl hb) | (rintro e W9 ⟨rfl, hb⟩)
    have HE := Lib.hid (HKK.out.keep hb).2.2
    go_wp2_with fail
    go_ret
    exact ⟨rfl, HE.out⟩
  by_cases h1 : 56 ≤ n - one
  rotate_left
  · have hp : placeB (zP one two) n = false := by rw [HP.out, decide_eq_false h1]; simp
    have HPP := Lib.hid hp
    have d0 : decide (one ≤ n) = true := decide_eq_true (by omega)
    have d1 : decide ((56 : Int) ≤ (n : Int) - (one : Int)) = false := decide_eq_false (by omega)
    have x1 : IntKind.u64.wrap ((n : Int) - (one : Int)) = (n : Int) - (one : Int) := IntWalk.u64_in _ (by have := HU.out.1; unfold U at this; omega)
    have nw := HNW.out
    clear hp h0 h1 HP HNW
    go_wp2_with (first | (go_at_call 10; refine (p_bad HU.out.1 HU.out.2 HN.out.1 HN.out.2 HC.out.1 HC.out.2 HBS.out HK.out.1 HPP.out).mono ?_) | fail)
    rintro e W7 ⟨rfl, hb⟩
    replace HK := Lib.hid (HK.out.keep hb)
    clear hb HBS
    go_upto_region 6 with fail
    have HKK := Lib.hid (HK.out.box #[.int .u64 0, .int .u64 0, .int .u64 0, .slice none 0 0, .slice none 0 0])
    clear HK
    generalize W7.heap.size = D at HKK ⊢
    generalize World.alloc W7 _ = W8 at HKK ⊢
    go_wp2_with (first | (go_at_call 9; refine (wakes_any _ HKK.out.2.1).mono ?_) | fail)
    first | (rintro e W9 rfl hb) | (rintro e W9 ⟨rfl, hb⟩)
    have HE := Lib.hid (HKK.out.keep hb).2.2
    go_wp2_with fail
    go_ret
    exact ⟨rfl, HE.out⟩
  by_cases h2 : two ≤ n
  rotate_left
  · have hp : placeB (zP one two) n = false := by rw [HP.out, decide_eq_false h2]; simp
    have HPP := Lib.hid hp
    have d0 : decide (one ≤ n) = true := decide_eq_true (by omega)
    have d1 : decide ((56 : Int) ≤ (n : Int) - (one : Int)) = true := decide_eq_true (by omega)
    have d2 : decide (two ≤ n) = false := decide_eq_false (by omega)
    have x1 : IntKind.u64.wrap ((n : Int) - (one : Int)) = (n : Int) - (one : Int) := IntWalk.u64_in _ (by have := HU.out.1; unfold U at this; omega)
    have nw := HNW.out
    clear hp h0 h1 h2 HP HNW
    go_wp2_with (first | (go_at_call 10; refine (p_bad HU.out.1 HU.out.2 HN.out.1 HN.out.2 HC.out.1 HC.out.2 HBS.out HK.out.1 HPP.out).mono ?_) | fail)
    rintro e W7 ⟨rfl, hb⟩
    replace HK := Lib.hid (HK.out.keep hb)
    clear hb HBS
    go_upto_region 6 with fail
    have HKK := Lib.hid (HK.out.box #[.int .u64 0, .int .u64 0, .int .u64 0, .slice none 0 0, .slice none 0 0])
    clear HK
    generalize W7.heap.size = D at HKK ⊢
    generalize World.alloc W7 _ = W8 at HKK ⊢
    go_wp2_with (first | (go_at_call 9; refine (wakes_any _ HKK.out.2.1).mono ?_) | fail)
    first | (rintro e W9 rfl hb) | (rintro e W9 ⟨rfl, hb⟩)
    have HE := Lib.hid (HKK.out.keep hb).2.2
    go_wp2_with fail
    go_ret
    exact ⟨rfl, HE.out⟩
  by_cases h3 : 64 ≤ n - two
  rotate_left
  · have hp : placeB (zP one two) n = false := by rw [HP.out, decide_eq_false h3]; simp
    have HPP := Lib.hid hp
    have d0 : decide (one ≤ n) = true := decide_eq_true (by omega)
    have d1 : decide ((56 : Int) ≤ (n : Int) - (one : Int)) = true := decide_eq_true (by omega)
    have d2 : decide (two ≤ n) = true := decide_eq_true (by omega)
    have d3 : decide ((64 : Int) ≤ (n : Int) - (two : Int)) = false := decide_eq_false (by omega)
    have x1 : IntKind.u64.wrap ((n : Int) - (one : Int)) = (n : Int) - (one : Int) := IntWalk.u64_in _ (by have := HU.out.1; unfold U at this; omega)
    have x3 : IntKind.u64.wrap ((n : Int) - (two : Int)) = (n : Int) - (two : Int) := IntWalk.u64_in _ (by have := HU.out.2; unfold U at this; omega)
    have nw := HNW.out
    clear hp h0 h1 h2 h3 HP HNW
    go_wp2_with (first | (go_at_call 10; refine (p_bad HU.out.1 HU.out.2 HN.out.1 HN.out.2 HC.out.1 HC.out.2 HBS.out HK.out.1 HPP.out).mono ?_) | fail)
    rintro e W7 ⟨rfl, hb⟩
    replace HK := Lib.hid (HK.out.keep hb)
    clear hb HBS
    go_upto_region 6 with fail
    have HKK := Lib.hid (HK.out.box #[.int .u64 0, .int .u64 0, .int .u64 0, .slice none 0 0, .slice none 0 0])
    clear HK
    generalize W7.heap.size = D at HKK ⊢
    generalize World.alloc W7 _ = W8 at HKK ⊢
    go_wp2_with (first | (go_at_call 9; refine (wakes_any _ HKK.out.2.1).mono ?_) | fail)
    first | (rintro e W9 rfl hb) | (rintro e W9 ⟨rfl, hb⟩)
    have HE := Lib.hid (HKK.out.keep hb).2.2
    go_wp2_with fail
    go_ret
    exact ⟨rfl, HE.out⟩
  have hp : placeB (zP one two) n = true := by rw [HP.out, decide_eq_true h0, decide_eq_true h1, decide_eq_true h2, decide_eq_true h3]; rfl
  have HPP := Lib.hid hp
  have d0 : decide (one ≤ n) = true := decide_eq_true (by omega)
  have d1 : decide ((56 : Int) ≤ (n : Int) - (one : Int)) = true := decide_eq_true (by omega)
  have d2 : decide (two ≤ n) = true := decide_eq_true (by omega)
  have d3 : decide ((64 : Int) ≤ (n : Int) - (two : Int)) = true := decide_eq_true (by omega)
  have x1 : IntKind.u64.wrap ((n : Int) - (one : Int)) = (n : Int) - (one : Int) := IntWalk.u64_in _ (by have := HU.out.1; unfold U at this; omega)
  have x3 : IntKind.u64.wrap ((n : Int) - (two : Int)) = (n : Int) - (two : Int) := IntWalk.u64_in _ (by have := HU.out.2; unfold U at this; omega)
  have nw := HNW.out
  clear hp h0 h1 h2 h3 HP HNW
  go_wp2_with (first | (go_at_call 10; refine (p_good HU.out.1 HU.out.2 HN.out.1 HN.out.2 HC.out.1 HC.out.2 HBS.out HK.out.1 HPP.out).mono ?_) | fail)
  rintro e W7 ⟨a1, p1, a2, p2, rfl, hb⟩
  replace HK := Lib.hid (HK.out.keep hb)
  clear hb HBS
  go_upto_region 6 with fail
  have HKK := Lib.hid (HK.out.box #[.int .u64 0, .int .u64 (one : Nat), .int .u64 (two : Nat), .slice a1 1 p1, .slice a2 1 p2])
  clear HK
  generalize W7.heap.size = D at HKK ⊢
  generalize World.alloc W7 _ = W8 at HKK ⊢
  have y1 := cell_at (i := 1) (v := .int .u64 (one : Nat)) HKK.out.1 rfl
  have y2 := cell_at (i := 2) (v := .int .u64 (two : Nat)) HKK.out.1 rfl
  have y3 := cell_at (i := 3) (v := .slice a1 1 p1) HKK.out.1 rfl
  have y4 := cell_at (i := 4) (v := .slice a2 1 p2) HKK.out.1 rfl
  go_wp2_with (first | (go_at_call 9; refine (wakes_any _ HKK.out.2.1).mono ?_) | fail)
  first | (rintro e W9 rfl hb) | (rintro e W9 ⟨rfl, hb⟩)
  have HE := Lib.hid (HKK.out.keep hb).2.2
  go_wp2_with fail
  go_ret
  exact ⟨rfl, HE.out⟩
end Go.Proofs.YtnaggdhophncaaaDoor
