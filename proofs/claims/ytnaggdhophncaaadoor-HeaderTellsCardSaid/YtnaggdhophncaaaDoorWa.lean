/- What every law asks at its end. -/
import Derived.Test.YtnaggdhophncaaaDoorHm
namespace Go.Proofs.YtnaggdhophncaaaDoor
open Go.RowKit Go.Shelf
set_option linter.unusedVariables false
set_option linter.unusedSimpArgs false
attribute [local go_sem] Oper.semAt_some
theorem read_bad {ad : Option Addr} {len cap : Nat} {z : Nat → Nat} {E : Nat} (hz : ∀ j, z j < 256) (hl : len ≤ cap) (hm : cap ≤ 9223372036854775807) {w : World} (h : BS w ad len z) (hG : GM w) (hE : readE z len = E) (h0 : E ≠ 0) :
    Calls Tryd.prog 10 #[.slice ad len cap] w fun e W' => e = .returned (.tuple #[.agg #[.int .u64 0, .int .u64 0, .int .u64 0, .slice none 0 0, .slice none 0 0], .int .i64 (E : Nat)]) ∧ Below w.heap.size w W' :=
  (read_any ad len cap z hz hl hm w h hG).mono fun e W' hh => by
    rcases hh with ⟨h1, h2, h3⟩ | ⟨h1, _⟩
    · rw [hE] at h2; exact ⟨h2, h3⟩
    · exact absurd (hE.symm.trans h1) h0
theorem read_good {ad : Option Addr} {len cap : Nat} {z : Nat → Nat} (hz : ∀ j, z j < 256) (hl : len ≤ cap) (hm : cap ≤ 9223372036854775807) {w : World} (h : BS w ad len z) (hG : GM w) (hE : readE z len = 0) {en so sc ns nc : Nat}
    (e1 : numZ z 24 8 = en) (e2 : numZ z 32 8 = so) (e3 : numZ z 40 8 = sc) (e4 : numZ z 56 2 = ns) (e5 : numZ z 60 2 = nc) :
    Calls Tryd.prog 10 #[.slice ad len cap] w fun e W' => ∃ a1 p1 a2 p2, e = .returned (.tuple #[.agg #[.int .u64 (en : Nat), .int .u64 (so : Nat), .int .u64 (sc : Nat), .slice a1 ns p1, .slice a2 nc p2], .int .i64 0]) ∧
      W'.ownsRow w.heap.size 30 7 (.slice a1 ns p1) ns (rowsL segC z so 56 ns) ∧ W'.ownsRow w.heap.size 32 5 (.slice a2 nc p2) nc (rowsL secC z sc 64 nc) ∧ Below w.heap.size w W' :=
  (read_any ad len cap z hz hl hm w h hG).mono fun e W' hh => by
    rcases hh with ⟨h1, _⟩ | ⟨_, v1, v2, h2, h3, h4, h5⟩
    · exact absurd hE h1
    · rw [e1, e2, e3] at h2
      rw [e2, e4] at h3
      rw [e3, e5] at h4
      obtain ⟨a1, p1, rfl⟩ := owns_slice h3
      obtain ⟨a2, p2, rfl⟩ := owns_slice h4
      exact ⟨a1, p1, a2, p2, h2, h3, h4, h5⟩
theorem readE_of {z : Nat → Nat} {len : Nat} (h1 : ¬ 131072 < len) (h2 : ¬ len < 64) (h3 : magZ z = true) (h4 : kindsB z = true) (h5 : placeB z len = true) : readE z len = 0 := by
  unfold readE
  rw [if_neg h1, if_neg h2, h3, h4, h5]
  rfl
theorem bs_nil (w : World) (z : Nat → Nat) : BS w none 0 z := fun h => absurd h (by decide)
theorem w_nil (w : World) (hG : GM w) : Calls Tryd.prog 10 #[.slice none 0 0] w fun e W' => e = .returned (.tuple #[.agg #[.int .u64 0, .int .u64 0, .int .u64 0, .slice none 0 0, .slice none 0 0], .int .i64 30]) ∧ Below w.heap.size w W' :=
  read_bad (E := 30) (z := fun _ => 0) (fun _ => by decide) (Nat.le_refl _) (by decide) (bs_nil w _) hG (by unfold readE; rfl) (by decide)
theorem w_64 (w : World) (hG : GM w) (g : Nat) (h : BR w g 64 (fun _ => 0)) : Calls Tryd.prog 10 #[.slice (some ⟨g, 0, none⟩) 64 64] w fun e W' => e = .returned (.tuple #[.agg #[.int .u64 0, .int .u64 0, .int .u64 0, .slice none 0 0, .slice none 0 0], .int .i64 31]) ∧ Below w.heap.size w W' :=
  read_bad (E := 31) (fun _ => by decide) (Nat.le_refl _) (by decide) h.bs hG (by unfold readE; rfl) (by decide)
theorem w_7 (w : World) (hG : GM w) (g : Nat) (h : BR w g 64 (headF 7 0 0 0 0)) : Calls Tryd.prog 10 #[.slice (some ⟨g, 0, none⟩) 64 64] w fun e W' => ∃ a1 p1 a2 p2, e = .returned (.tuple #[.agg #[.int .u64 7, .int .u64 0, .int .u64 0, .slice a1 0 p1, .slice a2 0 p2], .int .i64 0]) ∧ Below w.heap.size w W' :=
  (read_good (headF_lt 7 0 0 0 0) (Nat.le_refl _) (by decide) h.bs hG (readE_of (by decide) (by decide) (head_mag ..) (by rw [head_kinds]; decide) (by unfold placeB; rw [head_ns, head_nc]; decide))
    ((head_en ..).trans (by decide)) ((head_so ..).trans (by decide)) ((head_sc ..).trans (by decide)) ((head_ns ..).trans (by decide)) ((head_nc ..).trans (by decide))).mono
    fun e W' ⟨a1, p1, a2, p2, h1, _, _, h4⟩ => ⟨a1, p1, a2, p2, h1, h4⟩
/-- The header that was read, in its box; the tables. -/
def WK (w : World) (b : Nat) (cs : Array Value) (W : World) : Prop := W.heap[b]? = some (.cells cs 27 (0, 0)) ∧ GM W ∧ Below w.heap.size w W
theorem WK.keep {w W W' : World} {b : Nat} {cs : Array Value} (h : WK w b cs W) (hb : Below W.heap.size W W') : WK w b cs W' := ⟨(hb.block b (Array.getElem?_eq_some_iff.1 h.1).1).trans h.1, h.2.1.below hb, h.2.2.trans (hb.mono h.2.2.size)⟩
theorem WK.alloc {w W : World} {b : Nat} {cs : Array Value} (h : WK w b cs W) (o : Obj) : WK w b cs (W.alloc o) := h.keep ((Below.refl _ _).alloc (Nat.le_refl _) o)
def WG (w W : World) : Prop := GM W ∧ Below w.heap.size w W
theorem WG.keep {w W W' : World} (h : WG w W) (hb : Below W.heap.size W W') : WG w W' := ⟨h.1.below hb, h.2.trans (hb.mono h.2.size)⟩
theorem WG.alloc {w W : World} (h : WG w W) (o : Obj) : WG w (W.alloc o) := h.keep ((Below.refl _ _).alloc (Nat.le_refl _) o)
theorem WG.box {w W : World} (h : WG w W) (cs : Array Value) : WK w W.heap.size cs (W.alloc (.cells cs 27)) := ⟨heap_alloc_last W _, (h.alloc _).1, (h.alloc _).2⟩
set_option maxRecDepth 100000 in
set_option maxHeartbeats 8000000 in
theorem wakes_any (w : World) (hG : GM w) : Calls Tryd.prog 9 #[] w fun e W' => e = .returned (.bool true) ∧ Below w.heap.size w W' := by
  have HG : Hid (WG w w) := Lib.hid ⟨hG, Below.refl _ _⟩
  clear hG
  go_enter Tryd.func9, Tryd.ntmps9
  go_wp2_with (first | (go_at_call 10; refine (w_nil _ HG.out.1).mono ?_) | fail)
  rintro e W1 ⟨rfl, hb⟩
  replace HG := Lib.hid (HG.out.keep hb)
  clear hb
  go_upto_region 2 with fail
  replace HG := Lib.hid (HG.out.alloc (.cells #[.int .u64 0, .int .u64 0, .int .u64 0, .slice none 0 0, .slice none 0 0] 27))
  generalize World.alloc W1 _ = W2 at HG ⊢
  go_wp2_with (first | (go_at_call 14; refine (head_any 7 0 0 0 0 none none 0 0 (by decide) (by decide) _ HG.out.1).mono ?_) | fail)
  rintro e W3 ⟨rfl, hr, hb⟩
  replace HG := Lib.hid (HG.out.keep hb)
  clear hb
  generalize W2.heap.size + 1 = g at hr ⊢
  have HR := Lib.hid hr
  clear hr
  go_wp2_with (first | (go_at_call 10; refine (w_7 _ HG.out.1 g HR.out).mono ?_) | fail)
  rintro e W4 ⟨a1, p1, a2, p2, rfl, hb⟩
  replace HG := Lib.hid (HG.out.keep hb)
  clear hb HR
  go_upto_region 3 with fail
  have HK := Lib.hid (HG.out.box #[.int .u64 7, .int .u64 0, .int .u64 0, .slice a1 0 p1, .slice a2 0 p2])
  clear HG
  generalize W4.heap.size = b at HK ⊢
  generalize World.alloc W4 _ = W5 at HK ⊢
  have hmk : (Instr.makeSlice 22 (.int .i64 64) (.int .i64 64)).run Tryd.prog W5 = .ok (.slice (some ⟨W5.heap.size, 0, none⟩) 64 64) (W5.alloc (.cells (rowB (fun _ => 0) 64).toArray 5)) := by
    have := make_n 64 (by decide) W5
    rwa [made_row] at this
  go_wp2_with (first | (go_at_call 10; refine (w_64 _ (HK.out.alloc (.cells (rowB (fun _ => 0) 64).toArray 5)).2.1 _ (heap_alloc_last W5 _)).mono ?_) | fail)
  rintro e W6 ⟨rfl, hb⟩
  replace HK := Lib.hid ((HK.out.alloc (.cells (rowB (fun _ => 0) 64).toArray 5)).keep hb)
  clear hb hmk
  go_upto_region 4 with fail
  replace HK := Lib.hid (HK.out.alloc (.cells #[.int .u64 0, .int .u64 0, .int .u64 0, .slice none 0 0, .slice none 0 0] 27))
  generalize World.alloc W6 _ = W7 at HK ⊢
  have c0 := cell_at (i := 0) (v := .int .u64 7) HK.out.1 rfl
  have c3 := cell_at (i := 3) (v := .slice a1 0 p1) HK.out.1 rfl
  have c4 := cell_at (i := 4) (v := .slice a2 0 p2) HK.out.1 rfl
  go_wp2_with (first | (go_at_call 16; refine (seg_any 0 0 0 0 0 0 0 (by unfold V32; decide) (by unfold V32; decide) _).mono ?_) | fail)
  rintro e W8 ⟨rfl, _, hb⟩
  replace HK := Lib.hid (HK.out.keep hb)
  clear hb c0 c3 c4
  go_wp2_with (first | (go_at_call 18; refine (sec_any 0 0 0 0 0 (by unfold V32; decide) (by unfold V32; decide) _).mono ?_) | fail)
  rintro e W9 ⟨rfl, _, hb⟩
  replace HK := Lib.hid (HK.out.keep hb)
  clear hb
  go_wp2_with fail
  go_ret
  exact ⟨rfl, HK.out.2.2⟩
end Go.Proofs.YtnaggdhophncaaaDoor
