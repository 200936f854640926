/- The walk of BitsSigned. -/
import Derived.Test.YtjnojonbaoecmaaDoorSigns1
import Derived.Test.YtjnojonbaoecmaaDoorSigns0
namespace Go.Proofs.YtjnojonbaoecmaaDoor
open Go.RowKit
theorem three_way {p q p' : Prop} {b : Bool} [Decidable p] [Decidable q] [Decidable (p ∨ q)] (hp' : p → p') (h : b = decide (p ∨ q)) : (p' ∧ b = true) ∨ (decide p = false ∧ q ∧ b = true) ∨ (decide p = false ∧ decide q = false ∧ b = false) := by
  by_cases hp : p
  · exact .inl ⟨hp' hp, by simp [h, hp]⟩
  · by_cases hq : q
    · exact .inr (.inl ⟨by simp [hp], hq, by simp [h, hq]⟩)
    · exact .inr (.inr ⟨by simp [hp], by simp [hq], by simp [h, hp, hq]⟩)
theorem cN_both (a : Nat) (wd : Int) (h1 : ¬ wd < 1) (h2 : ¬ 4 < wd) : 0 ≤ ((cN a wd : Nat) : Int) ∧ ((cN a wd : Nat) : Int) ≤ 4294967295 := by
  have := cN_bd a wd h1 h2; omega
theorem law_signed (a b : Nat) (ha : U a) (hb : U b) (wd : Int) (cy : Bool) (w : World) (hm : Mk w) (h1 : ¬ wd < 1) (h2 : ¬ 4 < wd) :
    Calls Tryd.prog 5 #[.int .u64 a, .int .u64 b, .int .i64 wd, .bool cy] w fun e w' => e = .returned (.bool true) ∧ Below w.heap.size w w' := by
  cases cy
  · exact signed_core0 a b wd (eN a wd) (eN b wd) (cN a wd) (cN b wd) (addR a b false wd) (subR a b false wd) (sgI a wd) (sgI b wd) (cN a wd) (cN b wd) 0 (topI wd) (addO a b false wd) (addV a b false wd) (subO a b false wd) (subV a b false wd)
      (fun W hW => ext_any a ha wd W hW) (fun W hW => ext_any b hb wd W hW) (fun W hW => cut_any a ha wd W hW) (fun W hW => cut_any b hb wd W hW) (fun W hW => add_any a b ha hb false wd W hW) (fun W hW => sub_any a b ha hb false wd W hW)
      rfl (ext_signed a ha wd h1 h2) (ext_signed b hb wd h1 h2) (cut_val a wd h1 h2) (cut_val b wd h1 h2) (top_val wd h1 h2) (sg_bd a wd h1 h2) (sg_bd b wd h1 h2) (cN_both a wd h1 h2) (cN_both b wd h1 h2) (top_bd wd h1 h2)
      (three_way (fun h => by omega) (addV_val a b false wd h1 h2)) (addO_top a b false wd h1 h2) (three_way (fun h => by omega) (subV_val a b false wd h1 h2)) (subO_top a b false wd) w hm h1 h2
  · exact signed_core1 a b wd (eN a wd) (eN b wd) (cN a wd) (cN b wd) (addR a b true wd) (subR a b true wd) (sgI a wd) (sgI b wd) (cN a wd) (cN b wd) 1 (topI wd) (addO a b true wd) (addV a b true wd) (subO a b true wd) (subV a b true wd)
      (fun W hW => ext_any a ha wd W hW) (fun W hW => ext_any b hb wd W hW) (fun W hW => cut_any a ha wd W hW) (fun W hW => cut_any b hb wd W hW) (fun W hW => add_any a b ha hb true wd W hW) (fun W hW => sub_any a b ha hb true wd W hW)
      rfl (ext_signed a ha wd h1 h2) (ext_signed b hb wd h1 h2) (cut_val a wd h1 h2) (cut_val b wd h1 h2) (top_val wd h1 h2) (sg_bd a wd h1 h2) (sg_bd b wd h1 h2) (cN_both a wd h1 h2) (cN_both b wd h1 h2) (top_bd wd h1 h2)
      (three_way (fun h => by omega) (addV_val a b true wd h1 h2)) (addO_top a b true wd h1 h2) (three_way (fun h => by omega) (subV_val a b true wd h1 h2)) (subO_top a b true wd) w hm h1 h2
set_option maxHeartbeats 400000 in
theorem law_signed_out (a b : Nat) (wd : Int) (c : Bool) (w : World) (hm : Mk w) (hn : wd < 1 ∨ (¬ wd < 1 ∧ 4 < wd)) :
    Calls Tryd.prog 5 #[.int .u64 a, .int .u64 b, .int .i64 wd, .bool c] w fun e w' => e = .returned (.bool true) ∧ Below w.heap.size w w' := by
  rcases hn with hn | ⟨hn, hn2⟩
  all_goals
    go_enter Tryd.func5, Tryd.ntmps5
    go_wp2_with (go_at_call 8; ((with_reducible refine (wakes_any _ hm).mono ?_); rintro e w' ⟨rfl, hbw⟩))
    go_ret
    exact ⟨rfl, by assumption⟩
theorem walkIn_signed (a0 a1 a2 : Int) (a3 : Bool) (w0 : (Lit.int .u64 a0).wf = true) (w1 : (Lit.int .u64 a1).wf = true) (_ : (Lit.int .i64 a2).wf = true) (w : World) (hm : Mk w) : Calls Tryd.prog 5 #[.int .u64 a0, .int .u64 a1, .int .i64 a2, .bool a3] w fun e w' => e = .returned (.bool true) ∧ Below w.heap.size w w' := by
  obtain ⟨k, rfl, hk⟩ := nat_of_wf w0
  obtain ⟨j, rfl, hj⟩ := nat_of_wf w1
  by_cases h : a2 < 1
  · exact law_signed_out k j a2 a3 w hm (.inl h)
  · by_cases h2 : 4 < a2
    · exact law_signed_out k j a2 a3 w hm (.inr ⟨h, h2⟩)
    · exact law_signed k j hk hj a2 a3 w hm h h2
end Go.Proofs.YtjnojonbaoecmaaDoor
