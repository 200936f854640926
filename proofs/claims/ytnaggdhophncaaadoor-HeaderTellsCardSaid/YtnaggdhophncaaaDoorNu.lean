/- header.number, within. -/
import Derived.Test.YtnaggdhophncaaaDoorSe
namespace Go.Proofs.YtnaggdhophncaaaDoor
open Go.RowKit Go.Shelf
set_option linter.unusedVariables false
set_option linter.unusedSimpArgs false
attribute [local go_sem] Oper.semAt_some
/-- Bytes that can be read. -/
def BS (w : World) (ad : Option Addr) (len : Nat) (z : Nat → Nat) : Prop := 0 < len → ∃ b off, ad = some ⟨b, off, none⟩ ∧ ∀ j, j < len → w.cell? ⟨b, off + j, none⟩ = some (.int .u8 (z j : Nat))
theorem cell_lt' {W : World} {p : Addr} {v : Value} (h : W.cell? p = some v) : p.block < W.heap.size := by
  unfold World.cell? at h
  by_cases hl : p.block < W.heap.size
  · exact hl
  · rw [Array.getElem?_eq_none (by omega)] at h
    simp at h
theorem cell_keep {W W' : World} {p : Addr} {v : Value} (h : W.cell? p = some v) (hb : Below W.heap.size W W') : W'.cell? p = some v := by
  have hl := cell_lt' h
  have e := hb.block p.block hl
  unfold World.cell? at h ⊢
  rw [e]
  exact h
theorem BS.keep {W W' : World} {ad : Option Addr} {len : Nat} {z : Nat → Nat} (h : BS W ad len z) (hb : Below W.heap.size W W') : BS W' ad len z := fun hl => by
  obtain ⟨b, off, ha, hc⟩ := h hl
  exact ⟨b, off, ha, fun j hj => cell_keep (hc j hj) hb⟩
theorem BR.bs {W : World} {g n : Nat} {f : Nat → Nat} (h : BR W g n f) : BS W (some ⟨g, 0, none⟩) n f := fun _ => ⟨g, 0, rfl, fun j hj => by rw [Nat.zero_add]; exact h.c j hj⟩
set_option maxRecDepth 100000 in
set_option maxHeartbeats 2000000 in
theorem hnum_any (ad : Option Addr) (len cap : Nat) (z : Nat → Nat) (hz : ∀ j, z j < 256) (o s : Nat) (h1 : 1 ≤ s) (h8 : s ≤ 8) (ho : o + s ≤ len) (hl : len ≤ cap) (hm : cap ≤ 9223372036854775807) (w : World) (h : BS w ad len z) :
    Calls Tryd.prog 26 #[.slice ad len cap, .int .i64 (o : Nat), .int .i64 (s : Nat)] w fun e w' => e = .returned (.int .u64 (numN (fun j => z (o + j)) s : Nat)) ∧ w' = w := by
  obtain ⟨b, off, rfl, hc⟩ := h (by omega)
  have HN := Lib.hid (number_any b (off + o) s (cap - o) (fun j => z (o + j)) (fun j => hz _) w (fun j hj => by rw [Nat.add_assoc]; exact hc (o + j) (by omega)) (by omega))
  rw [Nat.min_eq_left h8] at HN
  have hw : IntKind.i64.wrap ((o : Int) + (s : Int)) = (o : Int) + (s : Int) := IntWalk.i64_in _ (by omega)
  have ht : ((o : Int) + (s : Int)).toNat = o + s := by omega
  have hi0 : 0 ≤ (o : Int) + (s : Int) := by omega
  have hi1 : (o : Int) + (s : Int) ≤ (cap : Int) := by omega
  have hne : ¬ cap = o := by omega
  clear h hc
  go_enter Tryd.func26, Tryd.ntmps26
  go_wp2_with (first | (go_at_call 34; refine HN.out.mono ?_) | fail)
  rintro e W1 ⟨rfl, rfl⟩
  go_wp2_with fail
  go_ret
  exact ⟨rfl, rfl⟩
/-- Do so many things of a size stand within so many bytes? -/
def withB (len at_ many size : Nat) : Bool := many == 0 || (decide (at_ ≤ len) && decide (many * size ≤ len - at_))
set_option maxHeartbeats 2000000 in
theorem within_any (ad : Option Addr) (len cap at_ many size : Nat) (hl : len < 9223372036854775808) (hm : many < 65536) (hs : size < 65536) (w : World) :
    Calls Tryd.prog 27 #[.slice ad len cap, .int .u64 (at_ : Nat), .int .i64 (many : Nat), .int .i64 (size : Nat)] w fun e w' => e = .returned (.bool (withB len at_ many size)) ∧ w' = w := by
  have hmul : many * size ≤ 65535 * 65535 := Nat.mul_le_mul (by omega) (by omega)
  have w1 : IntKind.u64.wrap (len : Int) = (len : Int) := IntWalk.u64_in _ (by omega)
  have w2 : IntKind.u64.wrap (many : Int) = (many : Int) := IntWalk.u64_in _ (by omega)
  have w3 : IntKind.u64.wrap (size : Int) = (size : Int) := IntWalk.u64_in _ (by omega)
  have w4 : IntKind.u64.wrap ((many : Int) * (size : Int)) = (many : Int) * (size : Int) := by
    rw [show (many : Int) * (size : Int) = ((many * size : Nat) : Int) by simp]
    exact IntWalk.u64_in _ (by omega)
  by_cases h0 : many = 0
  · have HE : Hid (withB len at_ many size = true) := Lib.hid (by unfold withB; simp [h0])
    have hd : ((many : Int) == 0) = true := by simp [h0]
    clear w4 hmul
    go_enter Tryd.func27, Tryd.ntmps27
    go_wp2_with fail
    go_ret
    exact ⟨by rw [HE.out]; rfl, rfl⟩
  · have hd : ((many : Int) == 0) = false := by simp [h0]
    by_cases h1 : at_ ≤ len
    · have w5 : IntKind.u64.wrap ((len : Int) - (at_ : Int)) = ((len - at_ : Nat) : Int) := by
        rw [IntWalk.u64_in _ (by omega)]; omega
      have hx : decide ((many : Int) * (size : Int) ≤ ((len - at_ : Nat) : Int)) = decide (many * size ≤ len - at_) := by
        rw [show (many : Int) * (size : Int) = ((many * size : Nat) : Int) by simp]
        exact decide_eq_decide.2 Int.ofNat_le
      have HX := Lib.hid hx
      have HE : Hid (withB len at_ many size = decide (many * size ≤ len - at_)) := Lib.hid (by unfold withB; simp [h0, h1])
      clear hx hmul
      go_enter Tryd.func27, Tryd.ntmps27
      go_wp2_with fail
      go_ret
      exact ⟨by rw [HE.out, ← HX.out]; rfl, rfl⟩
    · have HE : Hid (withB len at_ many size = false) := Lib.hid (by unfold withB; simp [h0, h1])
      clear hmul
      go_enter Tryd.func27, Tryd.ntmps27
      go_wp2_with fail
      go_ret
      exact ⟨by rw [HE.out]; rfl, rfl⟩
end Go.Proofs.YtnaggdhophncaaaDoor
