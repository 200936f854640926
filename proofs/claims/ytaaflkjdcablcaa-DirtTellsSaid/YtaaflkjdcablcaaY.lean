/- wakes. -/
import Derived.Test.YtaaflkjdcablcaaX
namespace Go.Proofs.Ytaaflkjdcablcaa
open Go.RowKit Go.Shelf
set_option linter.unusedVariables false
set_option linter.unusedSimpArgs false
attribute [local go_sem] Oper.semAt_some
theorem u (k : Nat) (h : k < 100 := by omega) : U k := by unfold U; omega
theorem w13 (W : World) (b c : Nat) (h1 : RB W b 1 3) (h2 : RB W c 4 6) : Calls Try.prog 13 #[.slice (some ⟨b, 0, none⟩) 1 1, .slice (some ⟨c, 0, none⟩) 1 1] W fun e w' => ∃ v, e = .returned v ∧ SR W [(1, 6)] v w' :=
  (add_any (some ⟨b, 0, none⟩) 1 [(1, 3)] (ok1 (u 1) (u 3)) (by decide) (fun h => by cases h) (some ⟨c, 0, none⟩) 1 [(4, 6)] (ok1 (u 4) (u 6)) (by decide) (fun h => by cases h) W (rd1 h1) (rd1 h2)).mono fun e w' ⟨v, ns, h3, h4, h5⟩ => ⟨v, h3, by rw [← add_is h5]; exact h4⟩
theorem w15 (W : World) (b : Nat) (h1 : RB W b 1 9) : Calls Try.prog 15 #[.slice (some ⟨b, 0, none⟩) 1 1, .agg #[.int .u64 3, .int .u64 4]] W fun e w' => ∃ v, e = .returned v ∧ SR W [(1, 2), (5, 9)] v w' :=
  (sub_any (some ⟨b, 0, none⟩) 1 [(1, 9)] (ok1 (u 1) (u 9)) (by decide) 3 4 (u 3) W (rd1 h1)).mono fun e w' ⟨v, ns, h3, h4, h5, h6⟩ => ⟨v, h3, by rw [← sub_is h5 h6]; exact h4⟩
theorem ok2 : OkL [(1, 2), (5, 9)] := OkL.app (p := [(1, 2)]) (q := [(5, 9)]) (ok1 (u 1) (u 2)) (ok1 (u 5) (u 9))
theorem ws1 (W : World) (a : Option Addr) (cap b : Nat) (h : RD W a [(1, 6)]) (h1 : RB W b 1 6) : Calls Try.prog 10 #[.slice a 1 cap, .slice (some ⟨b, 0, none⟩) 1 1] W fun e w' => e = .returned (.bool true) ∧ Below W.heap.size W w' :=
  same_any a cap [(1, 6)] (ok1 (u 1) (u 6)) (by decide) (some ⟨b, 0, none⟩) 1 [(1, 6)] (ok1 (u 1) (u 6)) W h (rd1 h1)
theorem ws2 (W : World) (a : Option Addr) (cap b : Nat) (h : RD W a [(1, 2), (5, 9)]) (h1 : RD W (some ⟨b, 0, none⟩) [(1, 2), (5, 9)]) : Calls Try.prog 10 #[.slice a 2 cap, .slice (some ⟨b, 0, none⟩) 2 2] W fun e w' => e = .returned (.bool true) ∧ Below W.heap.size W w' :=
  same_any a cap [(1, 2), (5, 9)] ok2 (by decide) (some ⟨b, 0, none⟩) 2 [(1, 2), (5, 9)] ok2 W h h1
theorem w8a (W : World) (a : Option Addr) (cap : Nat) (h : RD W a [(1, 6)]) : Calls Try.prog 8 #[.slice a 1 cap] W fun e w' => e = .returned (.bool true) ∧ Below W.heap.size W w' := by
  have := rightl_any a cap [(1, 6)] (by decide) (ok1 (u 1) (u 6)) W h
  rwa [show rightL [(1, 6)] = true by decide +kernel] at this
theorem w8b (W : World) (b : Nat) (h : RB W b 2 1) : Calls Try.prog 8 #[.slice (some ⟨b, 0, none⟩) 1 1] W fun e w' => e = .returned (.bool false) ∧ Below W.heap.size W w' := by
  have := rightl_any (some ⟨b, 0, none⟩) 1 [(2, 1)] (by decide) (ok1 (u 2) (u 1)) W (rd1 h)
  rwa [show rightL [(2, 1)] = false by decide +kernel] at this
theorem wh5 (W : World) (a : Option Addr) (cap : Nat) (h : RD W a [(1, 2), (5, 9)]) : Calls Try.prog 23 #[.slice a 2 cap, .int .u64 5] W fun e w' => e = .returned (.bool true) ∧ Below W.heap.size W w' := by
  have := has_any a cap [(1, 2), (5, 9)] (by decide) 5 W h
  rwa [show hasL [(1, 2), (5, 9)] 5 = true by decide +kernel] at this
theorem wh4 (W : World) (a : Option Addr) (cap : Nat) (h : RD W a [(1, 2), (5, 9)]) : Calls Try.prog 23 #[.slice a 2 cap, .int .u64 4] W fun e w' => e = .returned (.bool false) ∧ Below W.heap.size W w' := by
  have := has_any a cap [(1, 2), (5, 9)] (by decide) 4 W h
  rwa [show hasL [(1, 2), (5, 9)] 4 = false by decide +kernel] at this
def KW (w : World) (a1 a2 : Option Addr) (W : World) : Prop := RD W a1 [(1, 6)] ∧ RD W a2 [(1, 2), (5, 9)] ∧ Below w.heap.size w W
theorem KW.keep {w W W' : World} {a1 a2 : Option Addr} (h : KW w a1 a2 W) (hb : Below W.heap.size W W') : KW w a1 a2 W' := ⟨h.1.keep hb, h.2.1.keep hb, h.2.2.trans (hb.mono h.2.2.size)⟩
theorem KW.alloc {w W : World} {a1 a2 : Option Addr} (h : KW w a1 a2 W) (o : Obj) : KW w a1 a2 (W.alloc o) := h.keep ((Below.refl _ _).alloc (Nat.le_refl _) o)
set_option maxRecDepth 100000 in
set_option maxHeartbeats 8000000 in
theorem wakes_any (w : World) : Calls Try.prog 7 #[] w fun e w' => e = .returned (.bool true) ∧ Below w.heap.size w w' := by
  have h13 : Calls Try.prog 13 #[.slice (some ⟨w.heap.size, 0, none⟩) 1 1, .slice (some ⟨w.heap.size + 1, 0, none⟩) 1 1] ((w.alloc (.cells #[.int .u64 1, .int .u64 3] 25)).alloc (.cells #[.int .u64 4, .int .u64 6] 25)) fun e w' => ∃ v, e = .returned v ∧ SR ((w.alloc (.cells #[.int .u64 1, .int .u64 3] 25)).alloc (.cells #[.int .u64 4, .int .u64 6] 25)) [(1, 6)] v w' :=
    w13 _ _ _ ((RB.new w 1 3).keep ((Below.refl _ _).alloc (Nat.le_refl _) _)) (by have h := RB.new (w.alloc (.cells #[.int .u64 1, .int .u64 3] 25)) 4 6; simp only [World.size_alloc] at h; exact h)
  have H13 := Lib.hid h13
  clear h13
  go_enter Try.func7, Try.ntmps7
  go_wp2_with (first | (go_at_call 13; refine H13.out.mono ?_) | fail)
  rintro e W1 ⟨v1, rfl, hS⟩
  obtain ⟨a1, cap1, rfl, hr⟩ := hS.rd
  have HA : Hid (RD W1 a1 [(1, 6)] ∧ Below w.heap.size w W1) := Lib.hid ⟨hr, ((((Below.refl _ w).alloc (Nat.le_refl _) _).alloc (by simp only [World.size_alloc]; omega) _)).trans (hS.2.mono (by simp only [World.size_alloc]; omega))⟩
  clear hr hS H13
  have h15 : Calls Try.prog 15 #[.slice (some ⟨W1.heap.size, 0, none⟩) 1 1, .agg #[.int .u64 3, .int .u64 4]] (W1.alloc (.cells #[.int .u64 1, .int .u64 9] 25)) fun e w' => ∃ v, e = .returned v ∧ SR (W1.alloc (.cells #[.int .u64 1, .int .u64 9] 25)) [(1, 2), (5, 9)] v w' := w15 _ _ (RB.new W1 1 9)
  have H15 := Lib.hid h15
  clear h15
  go_wp2_with (first | (go_at_call 15; refine H15.out.mono ?_) | fail)
  rintro e W2 ⟨v2, rfl, hS⟩
  obtain ⟨a2, cap2, rfl, hr⟩ := hS.rd
  have HK : Hid (KW w a1 a2 W2) := Lib.hid ⟨(HA.out.1.keep ((Below.refl _ _).alloc (Nat.le_refl _) _)).keep hS.2, hr, (HA.out.2.alloc HA.out.2.size _).trans (hS.2.mono (by have := HA.out.2.size; simp only [World.size_alloc]; omega))⟩
  clear hr hS H15 HA
  simp only [List.length_cons, List.length_nil, Nat.zero_add, Nat.reduceAdd]
  go_wp2_with (first | (go_at_call 10; refine (ws1 _ a1 cap1 _ (HK.out.alloc _).1 (RB.new _ 1 6)).mono ?_) | fail)
  first | (rintro e W3 rfl hb) | (rintro e W3 ⟨rfl, hb⟩)
  replace HK := Lib.hid ((HK.out.alloc _).keep hb)
  clear hb
  go_wp2_with (first | (go_at_call 10; refine (ws2 _ a2 cap2 _ (HK.out.alloc _).2.1 (rd2 _ 1 2 5 9)).mono ?_) | fail)
  first | (rintro e W4 rfl hb) | (rintro e W4 ⟨rfl, hb⟩)
  replace HK := Lib.hid ((HK.out.alloc _).keep hb)
  clear hb
  go_wp2_with (first | (go_at_call 8; refine (w8a _ a1 cap1 HK.out.1).mono ?_) | fail)
  first | (rintro e W5 rfl hb) | (rintro e W5 ⟨rfl, hb⟩)
  replace HK := Lib.hid (HK.out.keep hb)
  clear hb
  go_wp2_with (first | (go_at_call 8; refine (w8b _ _ (RB.new _ 2 1)).mono ?_) | fail)
  first | (rintro e W6 rfl hb) | (rintro e W6 ⟨rfl, hb⟩)
  replace HK := Lib.hid ((HK.out.alloc _).keep hb)
  clear hb
  go_wp2_with (first | (go_at_call 23; refine (wh5 _ a2 cap2 HK.out.2.1).mono ?_) | fail)
  first | (rintro e W7 rfl hb) | (rintro e W7 ⟨rfl, hb⟩)
  replace HK := Lib.hid (HK.out.keep hb)
  clear hb
  go_wp2_with (first | (go_at_call 23; refine (wh4 _ a2 cap2 HK.out.2.1).mono ?_) | fail)
  first | (rintro e W8 rfl hb) | (rintro e W8 ⟨rfl, hb⟩)
  replace HK := Lib.hid (HK.out.keep hb)
  clear hb
  go_wp2_with fail
  go_ret
  exact ⟨rfl, HK.out.2.2⟩
end Go.Proofs.Ytaaflkjdcablcaa
