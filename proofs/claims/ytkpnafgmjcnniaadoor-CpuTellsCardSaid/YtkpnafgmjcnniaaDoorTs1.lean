/- operand.Take: its walks. -/
import Derived.Test.YtkpnafgmjcnniaaDoorTk
import Derived.WalkMore
import Derived.Deep.LoopGhost
import Derived.IntWalk
namespace Go.Proofs.YtkpnafgmjcnniaaDoor
open Go.RowKit
set_option linter.unusedVariables false
set_option linter.unusedSimpArgs false
set_option maxRecDepth 100000 in
set_option maxHeartbeats 4000000 in
theorem take_s0none (sp : Option Addr) (n cap : Nat) (z : Nat → Nat) (rex X lo g1 g4 q : Int) (w : World) (hz : ∀ j, z j < 256) (hm : Mk w) (hb : BS w sp n z) (hl : n ≤ 1000) (hcap : n ≤ cap) (hn : 0 < n)
    (e1 : IntKind.u8.wrap (dI z 0 1) = X) (e2 : X / 64 = 0) (e3 : bits .and .u8 X 7 = lo) (e4 : bits .and .u8 (X / 8) 7 = q) (b0 : 0 ≤ lo) (b1 : lo ≤ 7) (b2 : 0 ≤ q) (b3 : q ≤ 7) (b4 : 0 ≤ g1) (b5 : g1 ≤ 8) (b6 : 0 ≤ g4) (b7 : g4 ≤ 8)
    (h1 : ∀ W, Calls Tryd.prog 43 #[.int .u8 rex, .int .u8 1] W fun e w' => e = .returned (.int .i64 g1) ∧ W = w') (h4 : ∀ W, Calls Tryd.prog 43 #[.int .u8 rex, .int .u8 4] W fun e w' => e = .returned (.int .i64 g4) ∧ W = w') (n4 : (lo == 4) = true) (hx : n - 1 < 1) :
    Calls Tryd.prog 13 #[.slice sp n cap, .int .u8 rex] w fun e w' => e = .returned (.tuple #[.int .i64 (0), ov 0 0 0 0 0 0 false 0, .int .i64 0, .int .i64 80]) ∧ Below w.heap.size w w' := by
  have HS := Lib.hid (TS.start w sp n cap z hb hm)
  have HT : Hid (∀ W, TS w sp n cap z 0 W → Calls Tryd.prog 67 #[.int .i64 1, .pointer (some ⟨w.heap.size + 1, 0, none⟩), .pointer (some ⟨w.heap.size + 1 + 1, 0, none⟩)] W fun e w' => e = .returned (.tuple #[.int .i64 (dI z 0 1), .bool true]) ∧ w' = (W.setCell ⟨w.heap.size + 1 + 1, 0, none⟩ (.int .i64 ((0 + 1 : Nat) : Int))) ∧ TS w sp n cap z (0 + 1) (W.setCell ⟨w.heap.size + 1 + 1, 0, none⟩ (.int .i64 ((0 + 1 : Nat) : Int)))) :=
    Lib.hid (fun W h => tk_ok h hz 1 hl hcap (by decide) hn (by omega))
  have HT2 : Hid (∀ W, TS w sp n cap z 1 W → Calls Tryd.prog 67 #[.int .i64 1, .pointer (some ⟨w.heap.size + 1, 0, none⟩), .pointer (some ⟨w.heap.size + 1 + 1, 0, none⟩)] W fun e w' => e = .returned (.tuple #[.int .i64 0, .bool false]) ∧ W = w') :=
    Lib.hid (fun W h => tk_no h 1 hl (by omega) (by decide) (by omega))
  have H1 := Lib.hid h1
  have H4 := Lib.hid h4
  clear hm h1 h4 hz hb
  generalize dI z 0 1 = F1 at *
  go_enter Tryd.func13, Tryd.ntmps13
  go_wp2_with fail
  go_step3
  go_wp2_with fail
  go_at_call 42
  with_reducible refine (taker_any _ _ _ _).mono ?_
  rintro e w1 ⟨rfl, hw1⟩
  try simp only [World.size_alloc] at hw1
  subst hw1
  try simp only [World.size_alloc]
  generalize World.alloc (World.alloc (World.alloc _ _) _) _ = W1 at *
  obtain ⟨c0, c1, c2, c3, c4, c5, c6, c7⟩ := HS.out.1.c
  obtain ⟨f0, f1, f2, f3, f4, f5, f6, f7⟩ := HS.out.1.f
  have hB := HS.out.2.2.2.2.2
  go_wp2_with fail
  go_at_call 67
  with_reducible refine (HT.out _ HS.out).mono ?_
  rintro e w1 ⟨rfl, hw1, hT1⟩
  subst hw1
  have HT1 := Lib.hid hT1
  clear hT1 hB c0 c1 c2 c3 c4 c5 c6 c7 f0 f1 f2 f3 f4 f5 f6 f7
  generalize World.setCell _ _ _ = W2 at *
  go_wp2_with fail
  go_step3
  go_wp2_with fail
  go_at_call 25
  with_reducible refine (mem_none _).mono ?_
  rintro e w3 ⟨rfl, hb3⟩
  have HT3q := Lib.hid (HT1.out.below hb3)
  have HO := Lib.hid (TO.new HT3q.out 2 0 (-1) (-1) 1 0 false 0)
  clear hb3 HT1
  go_upto_region 6 with fail
  generalize World.alloc _ _ = W4 at *
  generalize w3.heap.size = qo at *
  obtain ⟨c0, c1, c2, c3, c4, c5, c6, c7⟩ := HO.out.1.1.c
  obtain ⟨f0, f1, f2, f3, f4, f5, f6, f7⟩ := HO.out.1.1.f
  obtain ⟨d0, d1, d2, d3, d4, d5, d6, d7⟩ := HO.out.2.1.c
  obtain ⟨r0, r1, r2, r3, r4, r5, r6, r7⟩ := HO.out.2.1.f
  have n1 : ¬ w.heap.size = qo := by have := HO.out.2.2; omega
  have n2 : ¬ qo = w.heap.size := by have := HO.out.2.2; omega
  have hix := idx0
  go_wp2_with fail
  go_at_call 67
  have hT5 := HO.out.1
  with_reducible refine (HT2.out _ hT5).mono ?_
  rintro e w6 ⟨rfl, rfl⟩
  have hB := HO.out.1.2.2.2.2.2
  have hqo := HO.out.2.2
  go_wp2_with fail
  rw [Exit.noGoto_ret]
  exact bodyPost_ret (v := .tuple #[.int .i64 0, ov 0 0 0 0 0 0 false 0, .int .i64 0, .int .i64 80]) (by simp [results, Tryd.results13, go_sem, *]) rfl ⟨rfl, by go_grown⟩
set_option maxRecDepth 100000 in
set_option maxHeartbeats 4000000 in
theorem take_s1none (sp : Option Addr) (n cap : Nat) (z : Nat → Nat) (rex X lo g1 g4 q : Int) (w : World) (hz : ∀ j, z j < 256) (hm : Mk w) (hb : BS w sp n z) (hl : n ≤ 1000) (hcap : n ≤ cap) (hn : 0 < n)
    (e1 : IntKind.u8.wrap (dI z 0 1) = X) (e2 : X / 64 = 1) (e3 : bits .and .u8 X 7 = lo) (e4 : bits .and .u8 (X / 8) 7 = q) (b0 : 0 ≤ lo) (b1 : lo ≤ 7) (b2 : 0 ≤ q) (b3 : q ≤ 7) (b4 : 0 ≤ g1) (b5 : g1 ≤ 8) (b6 : 0 ≤ g4) (b7 : g4 ≤ 8)
    (h1 : ∀ W, Calls Tryd.prog 43 #[.int .u8 rex, .int .u8 1] W fun e w' => e = .returned (.int .i64 g1) ∧ W = w') (h4 : ∀ W, Calls Tryd.prog 43 #[.int .u8 rex, .int .u8 4] W fun e w' => e = .returned (.int .i64 g4) ∧ W = w') (n4 : (lo == 4) = true) (hx : n - 1 < 1) :
    Calls Tryd.prog 13 #[.slice sp n cap, .int .u8 rex] w fun e w' => e = .returned (.tuple #[.int .i64 (0), ov 0 0 0 0 0 0 false 0, .int .i64 0, .int .i64 80]) ∧ Below w.heap.size w w' := by
  have HS := Lib.hid (TS.start w sp n cap z hb hm)
  have HT : Hid (∀ W, TS w sp n cap z 0 W → Calls Tryd.prog 67 #[.int .i64 1, .pointer (some ⟨w.heap.size + 1, 0, none⟩), .pointer (some ⟨w.heap.size + 1 + 1, 0, none⟩)] W fun e w' => e = .returned (.tuple #[.int .i64 (dI z 0 1), .bool true]) ∧ w' = (W.setCell ⟨w.heap.size + 1 + 1, 0, none⟩ (.int .i64 ((0 + 1 : Nat) : Int))) ∧ TS w sp n cap z (0 + 1) (W.setCell ⟨w.heap.size + 1 + 1, 0, none⟩ (.int .i64 ((0 + 1 : Nat) : Int)))) :=
    Lib.hid (fun W h => tk_ok h hz 1 hl hcap (by decide) hn (by omega))
  have HT2 : Hid (∀ W, TS w sp n cap z 1 W → Calls Tryd.prog 67 #[.int .i64 1, .pointer (some ⟨w.heap.size + 1, 0, none⟩), .pointer (some ⟨w.heap.size + 1 + 1, 0, none⟩)] W fun e w' => e = .returned (.tuple #[.int .i64 0, .bool false]) ∧ W = w') :=
    Lib.hid (fun W h => tk_no h 1 hl (by omega) (by decide) (by omega))
  have H1 := Lib.hid h1
  have H4 := Lib.hid h4
  clear hm h1 h4 hz hb
  generalize dI z 0 1 = F1 at *
  go_enter Tryd.func13, Tryd.ntmps13
  go_wp2_with fail
  go_step3
  go_wp2_with fail
  go_at_call 42
  with_reducible refine (taker_any _ _ _ _).mono ?_
  rintro e w1 ⟨rfl, hw1⟩
  try simp only [World.size_alloc] at hw1
  subst hw1
  try simp only [World.size_alloc]
  generalize World.alloc (World.alloc (World.alloc _ _) _) _ = W1 at *
  obtain ⟨c0, c1, c2, c3, c4, c5, c6, c7⟩ := HS.out.1.c
  obtain ⟨f0, f1, f2, f3, f4, f5, f6, f7⟩ := HS.out.1.f
  have hB := HS.out.2.2.2.2.2
  go_wp2_with fail
  go_at_call 67
  with_reducible refine (HT.out _ HS.out).mono ?_
  rintro e w1 ⟨rfl, hw1, hT1⟩
  subst hw1
  have HT1 := Lib.hid hT1
  clear hT1 hB c0 c1 c2 c3 c4 c5 c6 c7 f0 f1 f2 f3 f4 f5 f6 f7
  generalize World.setCell _ _ _ = W2 at *
  go_wp2_with fail
  go_step3
  go_wp2_with fail
  go_at_call 25
  with_reducible refine (mem_none _).mono ?_
  rintro e w3 ⟨rfl, hb3⟩
  have HT3q := Lib.hid (HT1.out.below hb3)
  have HO := Lib.hid (TO.new HT3q.out 2 0 (-1) (-1) 1 0 false 0)
  clear hb3 HT1
  go_upto_region 6 with fail
  generalize World.alloc _ _ = W4 at *
  generalize w3.heap.size = qo at *
  obtain ⟨c0, c1, c2, c3, c4, c5, c6, c7⟩ := HO.out.1.1.c
  obtain ⟨f0, f1, f2, f3, f4, f5, f6, f7⟩ := HO.out.1.1.f
  obtain ⟨d0, d1, d2, d3, d4, d5, d6, d7⟩ := HO.out.2.1.c
  obtain ⟨r0, r1, r2, r3, r4, r5, r6, r7⟩ := HO.out.2.1.f
  have n1 : ¬ w.heap.size = qo := by have := HO.out.2.2; omega
  have n2 : ¬ qo = w.heap.size := by have := HO.out.2.2; omega
  have hix := idx1
  go_wp2_with fail
  go_at_call 67
  have hT5 := HO.out.1
  with_reducible refine (HT2.out _ hT5).mono ?_
  rintro e w6 ⟨rfl, rfl⟩
  have hB := HO.out.1.2.2.2.2.2
  have hqo := HO.out.2.2
  go_wp2_with fail
  rw [Exit.noGoto_ret]
  exact bodyPost_ret (v := .tuple #[.int .i64 0, ov 0 0 0 0 0 0 false 0, .int .i64 0, .int .i64 80]) (by simp [results, Tryd.results13, go_sem, *]) rfl ⟨rfl, by go_grown⟩
set_option maxRecDepth 100000 in
set_option maxHeartbeats 4000000 in
theorem take_s2none (sp : Option Addr) (n cap : Nat) (z : Nat → Nat) (rex X lo g1 g4 q : Int) (w : World) (hz : ∀ j, z j < 256) (hm : Mk w) (hb : BS w sp n z) (hl : n ≤ 1000) (hcap : n ≤ cap) (hn : 0 < n)
    (e1 : IntKind.u8.wrap (dI z 0 1) = X) (e2 : X / 64 = 2) (e3 : bits .and .u8 X 7 = lo) (e4 : bits .and .u8 (X / 8) 7 = q) (b0 : 0 ≤ lo) (b1 : lo ≤ 7) (b2 : 0 ≤ q) (b3 : q ≤ 7) (b4 : 0 ≤ g1) (b5 : g1 ≤ 8) (b6 : 0 ≤ g4) (b7 : g4 ≤ 8)
    (h1 : ∀ W, Calls Tryd.prog 43 #[.int .u8 rex, .int .u8 1] W fun e w' => e = .returned (.int .i64 g1) ∧ W = w') (h4 : ∀ W, Calls Tryd.prog 43 #[.int .u8 rex, .int .u8 4] W fun e w' => e = .returned (.int .i64 g4) ∧ W = w') (n4 : (lo == 4) = true) (hx : n - 1 < 1) :
    Calls Tryd.prog 13 #[.slice sp n cap, .int .u8 rex] w fun e w' => e = .returned (.tuple #[.int .i64 (0), ov 0 0 0 0 0 0 false 0, .int .i64 0, .int .i64 80]) ∧ Below w.heap.size w w' := by
  have HS := Lib.hid (TS.start w sp n cap z hb hm)
  have HT : Hid (∀ W, TS w sp n cap z 0 W → Calls Tryd.prog 67 #[.int .i64 1, .pointer (some ⟨w.heap.size + 1, 0, none⟩), .pointer (some ⟨w.heap.size + 1 + 1, 0, none⟩)] W fun e w' => e = .returned (.tuple #[.int .i64 (dI z 0 1), .bool true]) ∧ w' = (W.setCell ⟨w.heap.size + 1 + 1, 0, none⟩ (.int .i64 ((0 + 1 : Nat) : Int))) ∧ TS w sp n cap z (0 + 1) (W.setCell ⟨w.heap.size + 1 + 1, 0, none⟩ (.int .i64 ((0 + 1 : Nat) : Int)))) :=
    Lib.hid (fun W h => tk_ok h hz 1 hl hcap (by decide) hn (by omega))
  have HT2 : Hid (∀ W, TS w sp n cap z 1 W → Calls Tryd.prog 67 #[.int .i64 1, .pointer (some ⟨w.heap.size + 1, 0, none⟩), .pointer (some ⟨w.heap.size + 1 + 1, 0, none⟩)] W fun e w' => e = .returned (.tuple #[.int .i64 0, .bool false]) ∧ W = w') :=
    Lib.hid (fun W h => tk_no h 1 hl (by omega) (by decide) (by omega))
  have H1 := Lib.hid h1
  have H4 := Lib.hid h4
  clear hm h1 h4 hz hb
  generalize dI z 0 1 = F1 at *
  go_enter Tryd.func13, Tryd.ntmps13
  go_wp2_with fail
  go_step3
  go_wp2_with fail
  go_at_call 42
  with_reducible refine (taker_any _ _ _ _).mono ?_
  rintro e w1 ⟨rfl, hw1⟩
  try simp only [World.size_alloc] at hw1
  subst hw1
  try simp only [World.size_alloc]
  generalize World.alloc (World.alloc (World.alloc _ _) _) _ = W1 at *
  obtain ⟨c0, c1, c2, c3, c4, c5, c6, c7⟩ := HS.out.1.c
  obtain ⟨f0, f1, f2, f3, f4, f5, f6, f7⟩ := HS.out.1.f
  have hB := HS.out.2.2.2.2.2
  go_wp2_with fail
  go_at_call 67
  with_reducible refine (HT.out _ HS.out).mono ?_
  rintro e w1 ⟨rfl, hw1, hT1⟩
  subst hw1
  have HT1 := Lib.hid hT1
  clear hT1 hB c0 c1 c2 c3 c4 c5 c6 c7 f0 f1 f2 f3 f4 f5 f6 f7
  generalize World.setCell _ _ _ = W2 at *
  go_wp2_with fail
  go_step3
  go_wp2_with fail
  go_at_call 25
  with_reducible refine (mem_none _).mono ?_
  rintro e w3 ⟨rfl, hb3⟩
  have HT3q := Lib.hid (HT1.out.below hb3)
  have HO := Lib.hid (TO.new HT3q.out 2 0 (-1) (-1) 1 0 false 0)
  clear hb3 HT1
  go_upto_region 6 with fail
  generalize World.alloc _ _ = W4 at *
  generalize w3.heap.size = qo at *
  obtain ⟨c0, c1, c2, c3, c4, c5, c6, c7⟩ := HO.out.1.1.c
  obtain ⟨f0, f1, f2, f3, f4, f5, f6, f7⟩ := HO.out.1.1.f
  obtain ⟨d0, d1, d2, d3, d4, d5, d6, d7⟩ := HO.out.2.1.c
  obtain ⟨r0, r1, r2, r3, r4, r5, r6, r7⟩ := HO.out.2.1.f
  have n1 : ¬ w.heap.size = qo := by have := HO.out.2.2; omega
  have n2 : ¬ qo = w.heap.size := by have := HO.out.2.2; omega
  have hix := idx2
  go_wp2_with fail
  go_at_call 67
  have hT5 := HO.out.1
  with_reducible refine (HT2.out _ hT5).mono ?_
  rintro e w6 ⟨rfl, rfl⟩
  have hB := HO.out.1.2.2.2.2.2
  have hqo := HO.out.2.2
  go_wp2_with fail
  rw [Exit.noGoto_ret]
  exact bodyPost_ret (v := .tuple #[.int .i64 0, ov 0 0 0 0 0 0 false 0, .int .i64 0, .int .i64 80]) (by simp [results, Tryd.results13, go_sem, *]) rfl ⟨rfl, by go_grown⟩
end Go.Proofs.YtkpnafgmjcnniaaDoor
