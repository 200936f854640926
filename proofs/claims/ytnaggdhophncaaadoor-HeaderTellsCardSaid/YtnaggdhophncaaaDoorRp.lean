/- The reference's put. -/
import Derived.Test.YtnaggdhophncaaaDoorPu
namespace Go.Proofs.YtnaggdhophncaaaDoor
open Go.RowKit Go.Shelf
set_option linter.unusedVariables false
set_option linter.unusedSimpArgs false
attribute [local go_sem] Oper.semAt_some
set_option maxRecDepth 100000 in
set_option maxHeartbeats 4000000 in
theorem rput_any (base : Nat) (v : Value) (n : Nat) (xs : List Value) (x s : Nat) (h1 : 1 ≤ s) (h8 : s ≤ 8) (hn : n ≤ 1000000) (W : World) (hb : base ≤ W.heap.size) (h : W.ownsRow base 5 1 v n xs) :
    Calls Tryd.prog 32 #[v, .int .u64 (x : Nat), .int .i64 (s : Nat)] W fun e W' => ∃ v', e = .returned v' ∧ W'.ownsRow base 5 1 v' (n + s) (xs ++ bsV x s) ∧ W.grownBy W' v.ownBlock := by
  obtain ⟨i0, hi, hz0, hz1, hz2⟩ := info_parts info5
  have HI0 := Lib.hid (And.intro hi (And.intro hz0 (And.intro hz1 hz2)))
  have HR := Lib.hid (rbytes_any x (s : Int) W)
  rw [hN_s s h1 h8] at HR
  have HH := Lib.hid h
  clear hi hz0 hz1 hz2 h
  go_enter Tryd.func32, Tryd.ntmps32
  go_wp2_with fail
  go_at_call 37
  refine HR.out.mono ?_
  rintro e W1 ⟨v1, rfl, ho, hb1⟩
  have hrow : W1.ownsRow base 5 1 v n xs := HH.out.kept ⟨hb1.os, hb1.tape, hb1.output, hb1.size, fun k hk _ => hb1.block k hk⟩ (row := none) (by
    rcases HH.out.2 with ⟨rfl, _⟩ | ⟨g, cap, cur, rfl, _⟩
    · exact .inl rfl
    · exact .inr (by simp [Value.ownBlock]))
  obtain ⟨g, cap, rfl⟩ : ∃ g cap, v1 = .slice (some ⟨g, 0, none⟩) s cap := by
    rcases ho.2 with ⟨_, h0⟩ | ⟨g, cap, cur, hv, _⟩
    · omega
    · exact ⟨g, cap, hv⟩
  have HC := Lib.hid (And.intro (ho.cells (g := g) rfl) (And.intro hrow hb1))
  clear ho hrow hb1
  go_wp2_with (first | (at_builtin; refine wpList_append_own _ rfl _ _ 22 rfl base 5 i0 (.int .u8 0) 1 1 Tryd.underlying22 HI0.out.1 HI0.out.2.1 HI0.out.2.2.1 HI0.out.2.2.2 rfl (by decide) v n xs rfl HC.out.2.1 ⟨g, 0, none⟩ s cap (bsV x s) rfl (by rw [bsV_len]; omega) HC.out.1 (ones_by x s) (by unfold maxLen; omega) (by omega) (by have := HC.out.2.2.size; omega) ?_) | fail)
  intro v5 W5 hown hgr _
  have HF : Hid (W5.ownsRow base 5 1 v5 (n + s) (xs ++ bsV x s) ∧ W.grownBy W5 v.ownBlock) := Lib.hid ⟨hown, World.grownBy.trans ⟨HC.out.2.2.os, HC.out.2.2.tape, HC.out.2.2.output, HC.out.2.2.size, fun k hk _ => HC.out.2.2.block k hk⟩ hgr⟩
  clear hown hgr
  go_wp2_with fail
  go_ret
  exact ⟨_, rfl, HF.out⟩
end Go.Proofs.YtnaggdhophncaaaDoor
