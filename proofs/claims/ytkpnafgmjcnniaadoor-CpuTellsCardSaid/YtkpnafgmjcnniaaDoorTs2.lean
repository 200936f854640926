/- operand.Take: its walks. -/
import Derived.Test.YtkpnafgmjcnniaaDoorTk
import Derived.WalkMore
import Derived.Deep.LoopGhost
import Derived.IntWalk
namespace Go.Proofs.YtkpnafgmjcnniaaDoor
open Go.RowKit
set_option linter.unusedVariables false
set_option linter.unusedSimpArgs false
set_option maxRecDepth 100000 in
set_option maxHeartbeats 4000000 in
theorem take_s0ok (sp : Option Addr) (n cap : Nat) (z : Nat → Nat) (rex X lo g1 g4 q : Int) (w : World) (hz : ∀ j, z j < 256) (hm : Mk w) (hb : BS w sp n z) (hl : n ≤ 1000) (hcap : n ≤ cap) (hn : 0 < n)
    (e1 : IntKind.u8.wrap (dI z 0 1) = X) (e2 : X / 64 = 0) (e3 : bits .and .u8 X 7 = lo) (e4 : bits .and .u8 (X / 8) 7 = q) (b0 : 0 ≤ lo) (b1 : lo ≤ 7) (b2 : 0 ≤ q) (b3 : q ≤ 7) (b4 : 0 ≤ g1) (b5 : g1 ≤ 8) (b6 : 0 ≤ g4) (b7 : g4 ≤ 8)
    (h1 : ∀ W, Calls Tryd.prog 43 #[.int .u8 rex, .int .u8 1] W fun e w' => e = .returned (.int .i64 g1) ∧ W = w') (h4 : ∀ W, Calls Tryd.prog 43 #[.int .u8 rex, .int .u8 4] W fun e w' => e = .returned (.int .i64 g4) ∧ W = w') (n4 : (lo == 4) = true) (X2 sb si ss : Int) (wd : Nat) (hw8 : wd ≤ 8) (hx1 : 1 + 1 ≤ n) (x1 : IntKind.u8.wrap (dI z 1 1) = X2) (hx : 1 + 1 + wd ≤ n) (hS2 : ∀ W, Calls Tryd.prog 44 #[ov 2 0 (-1) (-1) 1 0 false 0, .int .u8 X2, .int .u8 rex, .int .i64 0, .int .u8 0] W fun e w' => e = .returned (.tuple #[ov 2 0 sb si ss 0 false 0, .int .i64 wd]) ∧ Below W.heap.size W w') :
    Calls Tryd.prog 13 #[.slice sp n cap, .int .u8 rex] w fun e w' => e = .returned (.tuple #[.int .i64 (q + g4), ov 2 0 sb si ss (dI z (1 + 1) wd) false 0, .int .i64 (1 + 1 + wd : Nat), .int .i64 0]) ∧ Below w.heap.size w w' := by
  have HS := Lib.hid (TS.start w sp n cap z hb hm)
  have HT : Hid (∀ W, TS w sp n cap z 0 W → Calls Tryd.prog 67 #[.int .i64 1, .pointer (some ⟨w.heap.size + 1, 0, none⟩), .pointer (some ⟨w.heap.size + 1 + 1, 0, none⟩)] W fun e w' => e = .returned (.tuple #[.int .i64 (dI z 0 1), .bool true]) ∧ w' = (W.setCell ⟨w.heap.size + 1 + 1, 0, none⟩ (.int .i64 ((0 + 1 : Nat) : Int))) ∧ TS w sp n cap z (0 + 1) (W.setCell ⟨w.heap.size + 1 + 1, 0, none⟩ (.int .i64 ((0 + 1 : Nat) : Int)))) :=
    Lib.hid (fun W h => tk_ok h hz 1 hl hcap (by decide) hn (by omega))
  have HT2 : Hid (∀ W, TS w sp n cap z 1 W → Calls Tryd.prog 67 #[.int .i64 1, .pointer (some ⟨w.heap.size + 1, 0, none⟩), .pointer (some ⟨w.heap.size + 1 + 1, 0, none⟩)] W fun e w' => e = .returned (.tuple #[.int .i64 (dI z 1 1), .bool true]) ∧ w' = (W.setCell ⟨w.heap.size + 1 + 1, 0, none⟩ (.int .i64 ((1 + 1 : Nat) : Int))) ∧ TS w sp n cap z (1 + 1) (W.setCell ⟨w.heap.size + 1 + 1, 0, none⟩ (.int .i64 ((1 + 1 : Nat) : Int)))) :=
    Lib.hid (fun W h => tk_ok h hz 1 hl hcap (by decide) hn (by omega))
  have HT3 : Hid (∀ W, TS w sp n cap z (1 + 1) W → Calls Tryd.prog 67 #[.int .i64 wd, .pointer (some ⟨w.heap.size + 1, 0, none⟩), .pointer (some ⟨w.heap.size + 1 + 1, 0, none⟩)] W fun e w' => e = .returned (.tuple #[.int .i64 (dI z (1 + 1) wd), .bool true]) ∧ w' = (W.setCell ⟨w.heap.size + 1 + 1, 0, none⟩ (.int .i64 (((1 + 1) + wd : Nat) : Int))) ∧ TS w sp n cap z ((1 + 1) + wd) (W.setCell ⟨w.heap.size + 1 + 1, 0, none⟩ (.int .i64 (((1 + 1) + wd : Nat) : Int)))) :=
    Lib.hid (fun W h => tk_ok h hz wd hl hcap hw8 hn (by omega))
  have HS2 := Lib.hid hS2
  clear hS2
  have H1 := Lib.hid h1
  have H4 := Lib.hid h4
  clear hm h1 h4 hz hb
  generalize dI z 0 1 = F1 at *
  generalize dI z 1 1 = F2 at *
  generalize dI z (1 + 1) wd = F3 at *
  go_enter Tryd.func13, Tryd.ntmps13
  go_wp2_with fail
  go_step3
  go_wp2_with fail
  go_at_call 42
  with_reducible refine (taker_any _ _ _ _).mono ?_
  rintro e w1 ⟨rfl, hw1⟩
  try simp only [World.size_alloc] at hw1
  subst hw1
  try simp only [World.size_alloc]
  generalize World.alloc (World.alloc (World.alloc _ _) _) _ = W1 at *
  obtain ⟨c0, c1, c2, c3, c4, c5, c6, c7⟩ := HS.out.1.c
  obtain ⟨f0, f1, f2, f3, f4, f5, f6, f7⟩ := HS.out.1.f
  have hB := HS.out.2.2.2.2.2
  go_wp2_with fail
  go_at_call 67
  with_reducible refine (HT.out _ HS.out).mono ?_
  rintro e w1 ⟨rfl, hw1, hT1⟩
  subst hw1
  have HT1 := Lib.hid hT1
  clear hT1 hB c0 c1 c2 c3 c4 c5 c6 c7 f0 f1 f2 f3 f4 f5 f6 f7
  generalize World.setCell _ _ _ = W2 at *
  go_wp2_with fail
  go_step3
  go_wp2_with fail
  go_at_call 25
  with_reducible refine (mem_none _).mono ?_
  rintro e w3 ⟨rfl, hb3⟩
  have HT3q := Lib.hid (HT1.out.below hb3)
  have HO := Lib.hid (TO.new HT3q.out 2 0 (-1) (-1) 1 0 false 0)
  clear hb3 HT1
  go_upto_region 6 with fail
  generalize World.alloc _ _ = W4 at *
  generalize w3.heap.size = qo at *
  obtain ⟨c0, c1, c2, c3, c4, c5, c6, c7⟩ := HO.out.1.1.c
  obtain ⟨f0, f1, f2, f3, f4, f5, f6, f7⟩ := HO.out.1.1.f
  obtain ⟨d0, d1, d2, d3, d4, d5, d6, d7⟩ := HO.out.2.1.c
  obtain ⟨r0, r1, r2, r3, r4, r5, r6, r7⟩ := HO.out.2.1.f
  have n1 : ¬ w.heap.size = qo := by have := HO.out.2.2; omega
  have n2 : ¬ qo = w.heap.size := by have := HO.out.2.2; omega
  have hix := idx0
  go_wp2_with fail
  go_at_call 67
  have hT5 := HO.out.1
  with_reducible refine (HT2.out _ hT5).mono ?_
  rintro e w6 ⟨rfl, hw6, hT6⟩
  subst hw6
  have HO3 := Lib.hid (HO.out.take _ hT6)
  clear c0 c1 c2 c3 c4 c5 c6 c7 f0 f1 f2 f3 f4 f5 f6 f7 d0 d1 d2 d3 d4 d5 d6 d7 r0 r1 r2 r3 r4 r5 r6 r7 n1 n2
  clear HO hT5 hT6
  have HO := HO3
  clear HO3
  generalize World.setCell _ _ _ = W6 at *
  obtain ⟨c0, c1, c2, c3, c4, c5, c6, c7⟩ := HO.out.1.1.c
  obtain ⟨f0, f1, f2, f3, f4, f5, f6, f7⟩ := HO.out.1.1.f
  obtain ⟨d0, d1, d2, d3, d4, d5, d6, d7⟩ := HO.out.2.1.c
  obtain ⟨r0, r1, r2, r3, r4, r5, r6, r7⟩ := HO.out.2.1.f
  have n1 : ¬ w.heap.size = qo := by have := HO.out.2.2; omega
  have n2 : ¬ qo = w.heap.size := by have := HO.out.2.2; omega
  go_wp2_with fail
  go_at_call 44
  with_reducible refine (HS2.out _).mono ?_
  rintro e w7 ⟨rfl, hb7⟩
  have HO7 := Lib.hid (HO.out.below hb7)
  clear c0 c1 c2 c3 c4 c5 c6 c7 f0 f1 f2 f3 f4 f5 f6 f7 d0 d1 d2 d3 d4 d5 d6 d7 r0 r1 r2 r3 r4 r5 r6 r7 n1 n2
  clear HO hb7
  have HO := HO7
  clear HO7
  obtain ⟨c0, c1, c2, c3, c4, c5, c6, c7⟩ := HO.out.1.1.c
  obtain ⟨f0, f1, f2, f3, f4, f5, f6, f7⟩ := HO.out.1.1.f
  obtain ⟨d0, d1, d2, d3, d4, d5, d6, d7⟩ := HO.out.2.1.c
  obtain ⟨r0, r1, r2, r3, r4, r5, r6, r7⟩ := HO.out.2.1.f
  have n1 : ¬ w.heap.size = qo := by have := HO.out.2.2; omega
  have n2 : ¬ qo = w.heap.size := by have := HO.out.2.2; omega
  go_wp2_with fail
  go_at_call 67
  have HO8 : Hid (TO w sp n cap z (1 + 1) qo 2 0 sb si ss 0 false 0 _) := Lib.hid (HO.out.put 2 0 sb si ss 0 false 0)
  try unfold put8 at HO8
  clear c0 c1 c2 c3 c4 c5 c6 c7 f0 f1 f2 f3 f4 f5 f6 f7 d0 d1 d2 d3 d4 d5 d6 d7 r0 r1 r2 r3 r4 r5 r6 r7 n1 n2
  clear HO
  have HO := HO8
  clear HO8
  generalize World.setCell (World.setCell (World.setCell (World.setCell (World.setCell (World.setCell (World.setCell (World.setCell _ _ _) _ _) _ _) _ _) _ _) _ _) _ _) _ _ = W8 at *
  have hT8 := HO.out.1
  with_reducible refine (HT3.out _ hT8).mono ?_
  rintro e w9 ⟨rfl, hw9, hT9⟩
  subst hw9
  have HO9 := Lib.hid (HO.out.take _ hT9)
  clear HO hT8 hT9
  have HO := HO9
  clear HO9
  generalize World.setCell _ _ _ = W9 at *
  obtain ⟨c0, c1, c2, c3, c4, c5, c6, c7⟩ := HO.out.1.1.c
  obtain ⟨f0, f1, f2, f3, f4, f5, f6, f7⟩ := HO.out.1.1.f
  obtain ⟨d0, d1, d2, d3, d4, d5, d6, d7⟩ := HO.out.2.1.c
  obtain ⟨r0, r1, r2, r3, r4, r5, r6, r7⟩ := HO.out.2.1.f
  have n1 : ¬ w.heap.size = qo := by have := HO.out.2.2; omega
  have n2 : ¬ qo = w.heap.size := by have := HO.out.2.2; omega
  go_wp2_with fail
  have HF : Hid (FS w (1 + 1 + wd : Nat) 2 0 sb si ss F3 false 0 _) := Lib.hid ((HO.out.set5 F3).1.fin 2 0 sb si ss F3 false 0)
  try unfold put8 at HF
  clear c0 c1 c2 c3 c4 c5 c6 c7 f0 f1 f2 f3 f4 f5 f6 f7 d0 d1 d2 d3 d4 d5 d6 d7 r0 r1 r2 r3 r4 r5 r6 r7 n1 n2
  clear HO
  generalize World.setCell (World.setCell (World.setCell (World.setCell (World.setCell (World.setCell (World.setCell (World.setCell _ _ _) _ _) _ _) _ _) _ _) _ _) _ _) _ _ = W10 at *
  have wq : IntKind.i64.wrap q = q := IntWalk.i64_in _ (by omega)
  have wg : IntKind.i64.wrap (q + g4) = q + g4 := IntWalk.i64_in _ (by omega)
  refine wp_region_noPanic ?_
  refine wp_region_held_drew (S := fun W => FS w (1 + 1 + wd : Nat) 2 0 sb si ss F3 false 0 W) (by kernel_rfl) ?_ (fun hHeld => ?_)
  · exact HF.out.drew
  generalize World.drew _ = v0 at hHeld ⊢
  clear HF
  refine wpAnyH_take (i := 0) (v := ?_) rfl (by kernel_rfl) (by kernel_rfl) (by kernel_rfl) (fun _ _ _ h => h) (Or.inl ⟨by kernel_rfl, ?_⟩) (by assumption) ?_
  rotate_left
  · intro w hSw
    go_simp
    try with_reducible rfl
  simp only [Act.put, List.setIfInBounds_toArray, List.set_cons_zero, List.set_cons_succ, List.getElem_toArray, List.getElem_cons_succ, List.getElem_cons_zero]
  refine wpAnyH_take (i := 1) (v := ?_) rfl (by kernel_rfl) (by kernel_rfl) (by kernel_rfl) (fun _ _ _ h => h) (Or.inl ⟨by kernel_rfl, ?_⟩) (by assumption) ?_
  rotate_left
  · intro w hSw
    go_simp
    try with_reducible rfl
  simp only [Act.put, List.setIfInBounds_toArray, List.set_cons_zero, List.set_cons_succ, List.getElem_toArray, List.getElem_cons_succ, List.getElem_cons_zero]
  refine wpAnyH_take (i := 2) (v := ?_) rfl (by kernel_rfl) (by kernel_rfl) (by kernel_rfl) (fun _ _ _ h => h) (Or.inl ⟨by kernel_rfl, ?_⟩) (by assumption) ?_
  rotate_left
  · intro w hSw
    go_simp
    try with_reducible rfl
  simp only [Act.put, List.setIfInBounds_toArray, List.set_cons_zero, List.set_cons_succ, List.getElem_toArray, List.getElem_cons_succ, List.getElem_cons_zero]
  refine wpAnyH_take (i := 3) (v := ?_) rfl (by kernel_rfl) (by kernel_rfl) (by kernel_rfl) (fun _ _ _ h => h) (Or.inl ⟨by kernel_rfl, ?_⟩) (by assumption) ?_
  rotate_left
  · intro w hSw
    go_simp
    try with_reducible rfl
  simp only [Act.put, List.setIfInBounds_toArray, List.set_cons_zero, List.set_cons_succ, List.getElem_toArray, List.getElem_cons_succ, List.getElem_cons_zero]
  refine wpAnyH_take (i := 4) (v := ?_) rfl (by kernel_rfl) (by kernel_rfl) (by kernel_rfl) (fun _ _ _ h => h) (Or.inl ⟨by kernel_rfl, ?_⟩) (by assumption) ?_
  rotate_left
  · intro w hSw
    go_simp
    try with_reducible rfl
  simp only [Act.put, List.setIfInBounds_toArray, List.set_cons_zero, List.set_cons_succ, List.getElem_toArray, List.getElem_cons_succ, List.getElem_cons_zero]
  refine wpAnyH_take (i := 5) (v := ?_) rfl (by kernel_rfl) (by kernel_rfl) (by kernel_rfl) (fun _ _ _ h => h) (Or.inl ⟨by kernel_rfl, ?_⟩) (by assumption) ?_
  rotate_left
  · intro w hSw
    go_simp
    try with_reducible rfl
  simp only [Act.put, List.setIfInBounds_toArray, List.set_cons_zero, List.set_cons_succ, List.getElem_toArray, List.getElem_cons_succ, List.getElem_cons_zero]
  refine wpAnyH_take (i := 8) (v := ?_) rfl (by kernel_rfl) (by kernel_rfl) (by kernel_rfl) (fun _ _ _ h => h) (Or.inl ⟨by kernel_rfl, ?_⟩) (by assumption) ?_
  rotate_left
  · intro w hSw
    obtain ⟨c0, c1, c2, c3, c4, c5, c6, c7⟩ := hSw.1.c
    go_simp
    try with_reducible rfl
  simp only [Act.put, List.setIfInBounds_toArray, List.set_cons_zero, List.set_cons_succ, List.getElem_toArray, List.getElem_cons_succ, List.getElem_cons_zero]
  refine wpAnyH_take (i := 9) (v := ?_) rfl (by kernel_rfl) (by kernel_rfl) (by kernel_rfl) (fun _ _ _ h => h) (Or.inl ⟨by kernel_rfl, ?_⟩) (by assumption) ?_
  rotate_left
  · intro w hSw
    go_simp
    try with_reducible rfl
  simp only [Act.put, List.setIfInBounds_toArray, List.set_cons_zero, List.set_cons_succ, List.getElem_toArray, List.getElem_cons_succ, List.getElem_cons_zero]
  refine wpAnyH_ready (rs := [6]) (by kernel_rfl) (by simp) ?_
  refine AllReadyH.cons rfl (fun K hK => ?_) AllReadyH.nil
  go_simp; go_at_call 43; (with_reducible refine (H4.out _).mono ?_); rintro e w9 ⟨rfl, rfl⟩
  refine hK.out _ _ hHeld (fun hHeld2 => ?_)
  clear hK K hHeld
  have hHeld := hHeld2
  clear hHeld2
  try simp only [Act.put, List.setIfInBounds_toArray, List.set_cons_zero, List.set_cons_succ, List.getElem_toArray, List.getElem_cons_succ, List.getElem_cons_zero]
  refine wpAnyH_take (i := 7) (v := ?_) rfl (by kernel_rfl) (by kernel_rfl) (by kernel_rfl) (fun _ _ _ h => h) (Or.inl ⟨by kernel_rfl, ?_⟩) (by assumption) ?_
  rotate_left
  · intro w hSw
    go_simp
    try with_reducible rfl
  simp only [Act.put, List.setIfInBounds_toArray, List.set_cons_zero, List.set_cons_succ, List.getElem_toArray, List.getElem_cons_succ, List.getElem_cons_zero]
  refine wpAnyH_ready (rs := [10]) (by kernel_rfl) (by simp) ?_
  refine AllReadyH.cons rfl (fun K hK => ?_) AllReadyH.nil
  have cq := hHeld.2.1.cell
  go_simp; go_at_call 70; (with_reducible refine (many_any _ _ _ cq).mono ?_); rintro e w9 ⟨rfl, rfl⟩; clear cq
  refine hK.out _ _ hHeld (fun hHeld2 => ?_)
  clear hK K hHeld
  have hHeld := hHeld2
  clear hHeld2
  try simp only [Act.put, List.setIfInBounds_toArray, List.set_cons_zero, List.set_cons_succ, List.getElem_toArray, List.getElem_cons_succ, List.getElem_cons_zero]
  refine wpAnyH_take (i := 11) (v := ?_) rfl (by kernel_rfl) (by kernel_rfl) (by kernel_rfl) (fun _ _ _ h => h) (Or.inl ⟨by kernel_rfl, ?_⟩) (by assumption) ?_
  rotate_left
  · intro w hSw
    go_simp
    try with_reducible rfl
  simp only [Act.put, List.setIfInBounds_toArray, List.set_cons_zero, List.set_cons_succ, List.getElem_toArray, List.getElem_cons_succ, List.getElem_cons_zero]
  refine wpAnyH_ready (rs := [12]) (by kernel_rfl) (by simp) ?_
  refine AllReadyH.cons rfl (fun K hK => ?_) AllReadyH.nil
  obtain ⟨c0, c1, c2, c3, c4, c5, c6, c7⟩ := hHeld.1.c
  obtain ⟨f0, f1, f2, f3, f4, f5, f6, f7⟩ := hHeld.1.f
  go_simp
  have h9 := Lib.hid hHeld.put
  refine hK.out _ _ h9.out (fun hHeld2 => ?_)
  clear hK K hHeld c0 c1 c2 c3 c4 c5 c6 c7 f0 f1 f2 f3 f4 f5 f6 f7
  have hHeld := hHeld2
  clear hHeld2 h9
  try simp only [Act.put, List.setIfInBounds_toArray, List.set_cons_zero, List.set_cons_succ, List.getElem_toArray, List.getElem_cons_succ, List.getElem_cons_zero]
  refine wpAnyH_take (i := 13) (v := ?_) rfl (by kernel_rfl) (by kernel_rfl) (by kernel_rfl) (fun _ _ _ h => h) (Or.inl ⟨by kernel_rfl, ?_⟩) (by assumption) ?_
  rotate_left
  · intro w hSw
    go_simp
    try with_reducible rfl
  simp only [Act.put, List.setIfInBounds_toArray, List.set_cons_zero, List.set_cons_succ, List.getElem_toArray, List.getElem_cons_succ, List.getElem_cons_zero]
  refine wpAnyH_take (i := 14) (v := ?_) rfl (by kernel_rfl) (by kernel_rfl) (by kernel_rfl) (fun _ _ _ h => h) (Or.inl ⟨by kernel_rfl, ?_⟩) (by assumption) ?_
  rotate_left
  · intro w hSw
    go_simp
    try with_reducible rfl
  simp only [Act.put, List.setIfInBounds_toArray, List.set_cons_zero, List.set_cons_succ, List.getElem_toArray, List.getElem_cons_succ, List.getElem_cons_zero]
  refine wpAnyH_done (by kernel_rfl) ?_ _
  refine NoPanic.normal ?_
  try unfold put8 at hHeld
  generalize World.setCell (World.setCell (World.setCell (World.setCell (World.setCell (World.setCell (World.setCell (World.setCell _ _ _) _ _) _ _) _ _) _ _) _ _) _ _) _ _ = W9 at *
  obtain ⟨c0, c1, c2, c3, c4, c5, c6, c7⟩ := hHeld.1.c
  have hB9 := hHeld.2.2
  go_wp2_with fail
  rw [Exit.noGoto_ret]
  exact bodyPost_ret (v := .tuple #[.int .i64 (q + g4), ov 2 0 sb si ss F3 false 0, .int .i64 (1 + 1 + wd : Nat), .int .i64 0]) (by simp [results, Tryd.results13, go_sem, *]) rfl ⟨rfl, hB9⟩
set_option maxRecDepth 100000 in
set_option maxHeartbeats 4000000 in
theorem take_s0no (sp : Option Addr) (n cap : Nat) (z : Nat → Nat) (rex X lo g1 g4 q : Int) (w : World) (hz : ∀ j, z j < 256) (hm : Mk w) (hb : BS w sp n z) (hl : n ≤ 1000) (hcap : n ≤ cap) (hn : 0 < n)
    (e1 : IntKind.u8.wrap (dI z 0 1) = X) (e2 : X / 64 = 0) (e3 : bits .and .u8 X 7 = lo) (e4 : bits .and .u8 (X / 8) 7 = q) (b0 : 0 ≤ lo) (b1 : lo ≤ 7) (b2 : 0 ≤ q) (b3 : q ≤ 7) (b4 : 0 ≤ g1) (b5 : g1 ≤ 8) (b6 : 0 ≤ g4) (b7 : g4 ≤ 8)
    (h1 : ∀ W, Calls Tryd.prog 43 #[.int .u8 rex, .int .u8 1] W fun e w' => e = .returned (.int .i64 g1) ∧ W = w') (h4 : ∀ W, Calls Tryd.prog 43 #[.int .u8 rex, .int .u8 4] W fun e w' => e = .returned (.int .i64 g4) ∧ W = w') (n4 : (lo == 4) = true) (X2 sb si ss : Int) (wd : Nat) (hw8 : wd ≤ 8) (hx1 : 1 + 1 ≤ n) (x1 : IntKind.u8.wrap (dI z 1 1) = X2) (hx : n - (1 + 1) < wd) (hS2 : ∀ W, Calls Tryd.prog 44 #[ov 2 0 (-1) (-1) 1 0 false 0, .int .u8 X2, .int .u8 rex, .int .i64 0, .int .u8 0] W fun e w' => e = .returned (.tuple #[ov 2 0 sb si ss 0 false 0, .int .i64 wd]) ∧ Below W.heap.size W w') :
    Calls Tryd.prog 13 #[.slice sp n cap, .int .u8 rex] w fun e w' => e = .returned (.tuple #[.int .i64 (0), ov 0 0 0 0 0 0 false 0, .int .i64 0, .int .i64 80]) ∧ Below w.heap.size w w' := by
  have HS := Lib.hid (TS.start w sp n cap z hb hm)
  have HT : Hid (∀ W, TS w sp n cap z 0 W → Calls Tryd.prog 67 #[.int .i64 1, .pointer (some ⟨w.heap.size + 1, 0, none⟩), .pointer (some ⟨w.heap.size + 1 + 1, 0, none⟩)] W fun e w' => e = .returned (.tuple #[.int .i64 (dI z 0 1), .bool true]) ∧ w' = (W.setCell ⟨w.heap.size + 1 + 1, 0, none⟩ (.int .i64 ((0 + 1 : Nat) : Int))) ∧ TS w sp n cap z (0 + 1) (W.setCell ⟨w.heap.size + 1 + 1, 0, none⟩ (.int .i64 ((0 + 1 : Nat) : Int)))) :=
    Lib.hid (fun W h => tk_ok h hz 1 hl hcap (by decide) hn (by omega))
  have HT2 : Hid (∀ W, TS w sp n cap z 1 W → Calls Tryd.prog 67 #[.int .i64 1, .pointer (some ⟨w.heap.size + 1, 0, none⟩), .pointer (some ⟨w.heap.size + 1 + 1, 0, none⟩)] W fun e w' => e = .returned (.tuple #[.int .i64 (dI z 1 1), .bool true]) ∧ w' = (W.setCell ⟨w.heap.size + 1 + 1, 0, none⟩ (.int .i64 ((1 + 1 : Nat) : Int))) ∧ TS w sp n cap z (1 + 1) (W.setCell ⟨w.heap.size + 1 + 1, 0, none⟩ (.int .i64 ((1 + 1 : Nat) : Int)))) :=
    Lib.hid (fun W h => tk_ok h hz 1 hl hcap (by decide) hn (by omega))
  have HT3 : Hid (∀ W, TS w sp n cap z (1 + 1) W → Calls Tryd.prog 67 #[.int .i64 wd, .pointer (some ⟨w.heap.size + 1, 0, none⟩), .pointer (some ⟨w.heap.size + 1 + 1, 0, none⟩)] W fun e w' => e = .returned (.tuple #[.int .i64 0, .bool false]) ∧ W = w') :=
    Lib.hid (fun W h => tk_no h wd hl (by omega) hw8 (by omega))
  have HS2 := Lib.hid hS2
  clear hS2
  have H1 := Lib.hid h1
  have H4 := Lib.hid h4
  clear hm h1 h4 hz hb
  generalize dI z 0 1 = F1 at *
  generalize dI z 1 1 = F2 at *
  generalize dI z (1 + 1) wd = F3 at *
  go_enter Tryd.func13, Tryd.ntmps13
  go_wp2_with fail
  go_step3
  go_wp2_with fail
  go_at_call 42
  with_reducible refine (taker_any _ _ _ _).mono ?_
  rintro e w1 ⟨rfl, hw1⟩
  try simp only [World.size_alloc] at hw1
  subst hw1
  try simp only [World.size_alloc]
  generalize World.alloc (World.alloc (World.alloc _ _) _) _ = W1 at *
  obtain ⟨c0, c1, c2, c3, c4, c5, c6, c7⟩ := HS.out.1.c
  obtain ⟨f0, f1, f2, f3, f4, f5, f6, f7⟩ := HS.out.1.f
  have hB := HS.out.2.2.2.2.2
  go_wp2_with fail
  go_at_call 67
  with_reducible refine (HT.out _ HS.out).mono ?_
  rintro e w1 ⟨rfl, hw1, hT1⟩
  subst hw1
  have HT1 := Lib.hid hT1
  clear hT1 hB c0 c1 c2 c3 c4 c5 c6 c7 f0 f1 f2 f3 f4 f5 f6 f7
  generalize World.setCell _ _ _ = W2 at *
  go_wp2_with fail
  go_step3
  go_wp2_with fail
  go_at_call 25
  with_reducible refine (mem_none _).mono ?_
  rintro e w3 ⟨rfl, hb3⟩
  have HT3q := Lib.hid (HT1.out.below hb3)
  have HO := Lib.hid (TO.new HT3q.out 2 0 (-1) (-1) 1 0 false 0)
  clear hb3 HT1
  go_upto_region 6 with fail
  generalize World.alloc _ _ = W4 at *
  generalize w3.heap.size = qo at *
  obtain ⟨c0, c1, c2, c3, c4, c5, c6, c7⟩ := HO.out.1.1.c
  obtain ⟨f0, f1, f2, f3, f4, f5, f6, f7⟩ := HO.out.1.1.f
  obtain ⟨d0, d1, d2, d3, d4, d5, d6, d7⟩ := HO.out.2.1.c
  obtain ⟨r0, r1, r2, r3, r4, r5, r6, r7⟩ := HO.out.2.1.f
  have n1 : ¬ w.heap.size = qo := by have := HO.out.2.2; omega
  have n2 : ¬ qo = w.heap.size := by have := HO.out.2.2; omega
  have hix := idx0
  go_wp2_with fail
  go_at_call 67
  have hT5 := HO.out.1
  with_reducible refine (HT2.out _ hT5).mono ?_
  rintro e w6 ⟨rfl, hw6, hT6⟩
  subst hw6
  have HO3 := Lib.hid (HO.out.take _ hT6)
  clear c0 c1 c2 c3 c4 c5 c6 c7 f0 f1 f2 f3 f4 f5 f6 f7 d0 d1 d2 d3 d4 d5 d6 d7 r0 r1 r2 r3 r4 r5 r6 r7 n1 n2
  clear HO hT5 hT6
  have HO := HO3
  clear HO3
  generalize World.setCell _ _ _ = W6 at *
  obtain ⟨c0, c1, c2, c3, c4, c5, c6, c7⟩ := HO.out.1.1.c
  obtain ⟨f0, f1, f2, f3, f4, f5, f6, f7⟩ := HO.out.1.1.f
  obtain ⟨d0, d1, d2, d3, d4, d5, d6, d7⟩ := HO.out.2.1.c
  obtain ⟨r0, r1, r2, r3, r4, r5, r6, r7⟩ := HO.out.2.1.f
  have n1 : ¬ w.heap.size = qo := by have := HO.out.2.2; omega
  have n2 : ¬ qo = w.heap.size := by have := HO.out.2.2; omega
  go_wp2_with fail
  go_at_call 44
  with_reducible refine (HS2.out _).mono ?_
  rintro e w7 ⟨rfl, hb7⟩
  have HO7 := Lib.hid (HO.out.below hb7)
  clear c0 c1 c2 c3 c4 c5 c6 c7 f0 f1 f2 f3 f4 f5 f6 f7 d0 d1 d2 d3 d4 d5 d6 d7 r0 r1 r2 r3 r4 r5 r6 r7 n1 n2
  clear HO hb7
  have HO := HO7
  clear HO7
  obtain ⟨c0, c1, c2, c3, c4, c5, c6, c7⟩ := HO.out.1.1.c
  obtain ⟨f0, f1, f2, f3, f4, f5, f6, f7⟩ := HO.out.1.1.f
  obtain ⟨d0, d1, d2, d3, d4, d5, d6, d7⟩ := HO.out.2.1.c
  obtain ⟨r0, r1, r2, r3, r4, r5, r6, r7⟩ := HO.out.2.1.f
  have n1 : ¬ w.heap.size = qo := by have := HO.out.2.2; omega
  have n2 : ¬ qo = w.heap.size := by have := HO.out.2.2; omega
  go_wp2_with fail
  go_at_call 67
  have HO8 : Hid (TO w sp n cap z (1 + 1) qo 2 0 sb si ss 0 false 0 _) := Lib.hid (HO.out.put 2 0 sb si ss 0 false 0)
  try unfold put8 at HO8
  clear c0 c1 c2 c3 c4 c5 c6 c7 f0 f1 f2 f3 f4 f5 f6 f7 d0 d1 d2 d3 d4 d5 d6 d7 r0 r1 r2 r3 r4 r5 r6 r7 n1 n2
  clear HO
  have HO := HO8
  clear HO8
  generalize World.setCell (World.setCell (World.setCell (World.setCell (World.setCell (World.setCell (World.setCell (World.setCell _ _ _) _ _) _ _) _ _) _ _) _ _) _ _) _ _ = W8 at *
  have hT8 := HO.out.1
  with_reducible refine (HT3.out _ hT8).mono ?_
  rintro e w9 ⟨rfl, rfl⟩
  obtain ⟨c0, c1, c2, c3, c4, c5, c6, c7⟩ := HO.out.1.1.c
  obtain ⟨f0, f1, f2, f3, f4, f5, f6, f7⟩ := HO.out.1.1.f
  obtain ⟨d0, d1, d2, d3, d4, d5, d6, d7⟩ := HO.out.2.1.c
  obtain ⟨r0, r1, r2, r3, r4, r5, r6, r7⟩ := HO.out.2.1.f
  have n1 : ¬ w.heap.size = qo := by have := HO.out.2.2; omega
  have n2 : ¬ qo = w.heap.size := by have := HO.out.2.2; omega
  have hB := HO.out.1.2.2.2.2.2
  have hqo := HO.out.2.2
  go_wp2_with fail
  rw [Exit.noGoto_ret]
  exact bodyPost_ret (v := .tuple #[.int .i64 0, ov 0 0 0 0 0 0 false 0, .int .i64 0, .int .i64 80]) (by simp [results, Tryd.results13, go_sem, *]) rfl ⟨rfl, by go_grown⟩
end Go.Proofs.YtkpnafgmjcnniaaDoor
