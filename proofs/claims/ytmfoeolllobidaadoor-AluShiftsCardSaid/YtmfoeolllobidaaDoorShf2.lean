/- api.Flags as an argument: opened and shut; AluShifts, whole. -/
import Derived.Test.YtmfoeolllobidaaDoorShw
import Derived.Test.YtmfoeolllobidaaDoorShm
import Derived.Test.YtmfoeolllobidaaDoorLaid
import Derived.Lib.SmallJoins
namespace Go.Proofs.YtmfoeolllobidaaDoor
open Go.RowKit Go.ChangeShapes Go.WideShapes Go.Joins
set_option linter.unusedVariables false
theorem array5 {α : Type} {cs : Array α} (h : cs.size = 5) : ∃ c0 c1 c2 c3 c4, cs = #[c0, c1, c2, c3, c4] := by
  obtain ⟨l⟩ := cs
  match l, h with
  | [c0, c1, c2, c3, c4], _ => exact ⟨c0, c1, c2, c3, c4, rfl⟩
theorem list5 {α : Type} {l : List α} (h : l.length = 5) : ∃ c0 c1 c2 c3 c4, l = [c0, c1, c2, c3, c4] := by
  match l, h with
  | [c0, c1, c2, c3, c4], _ => exact ⟨c0, c1, c2, c3, c4, rfl⟩
theorem open_fl {H : Type} {enc : TypeId × Value → H} {w : World} {base : Nat} {spare : Nat → Bool} {held : Bool} {r : Reach} {b0 : Nat} {v : Value} {d : DataW H} {p : List MemPlace}
    (hv : Value.okWide Tryd.prog w r b0 24 v) (h : DataW.Trod enc Tryd.prog w base spare held 24 v d p) :
    ∃ c z s o q : Bool, v = fl c z s o q ∧ d = .agg [.lit (.bool c), .lit (.bool z), .lit (.bool s), .lit (.bool o), .lit (.bool q)] ∧ p = [] := by
  obtain ⟨cs, rfl, hsz⟩ := okWide_struct Tryd.underlying24 hv
  obtain ⟨c0, c1, c2, c3, c4, rfl⟩ := array5 (hsz.trans (by kernel_rfl))
  obtain ⟨fuel, hf⟩ := h
  obtain ⟨xs, n, _, hx, hl, hlen, hf⟩ := DataW.trod_struct Tryd.underlying24 hf
  obtain ⟨y0, y1, y2, y3, y4, rfl⟩ := list5 (hlen.trans (by rfl))
  have hC : Tryd.prog.cellsOf 4 = 1 := by kernel_rfl
  have t0 := hf 0 _ rfl
  have t1 := hf 1 _ rfl
  have t2 := hf 2 _ rfl
  have t3 := hf 3 _ rfl
  have t4 := hf 4 _ rfl
  simp [hC, Value.cells] at t0 t1 t2 t3 t4
  obtain ⟨x0, e0, rfl⟩ := DataW.trod_bool Tryd.underlying4 t0
  obtain ⟨x1, e1, rfl⟩ := DataW.trod_bool Tryd.underlying4 t1
  obtain ⟨x2, e2, rfl⟩ := DataW.trod_bool Tryd.underlying4 t2
  obtain ⟨x3, e3, rfl⟩ := DataW.trod_bool Tryd.underlying4 t3
  obtain ⟨x4, e4, rfl⟩ := DataW.trod_bool Tryd.underlying4 t4
  simp at e0 e1 e2 e3 e4
  subst e0 e1 e2 e3 e4
  simp at hx
  exact ⟨x0, x1, x2, x3, x4, rfl, hx.1, hx.2⟩
theorem shut_fl {H : Type} {enc : TypeId × Value → H} {w : World} {base : Nat} {spare : Nat → Bool} {held : Bool} {c z s o q : Bool} :
    DataW.Trod enc Tryd.prog w base spare held 24 (fl c z s o q) (.agg [.lit (.bool c), .lit (.bool z), .lit (.bool s), .lit (.bool o), .lit (.bool q)]) [] := by
  have hC : Tryd.prog.cellsOf 4 = 1 := by kernel_rfl
  have hC5 : Tryd.prog.cellsOf 24 = 5 := by kernel_rfl
  have := trod_struct_mk (enc := enc) (w := w) (base := base) (spare := spare) (held := held) (n := 1) (cs := [.bool c, .bool z, .bool s, .bool o, .bool q]) (xs := [(.lit (.bool c), []), (.lit (.bool z), []), (.lit (.bool s), []), (.lit (.bool o), []), (.lit (.bool q), [])]) Tryd.underlying24 (by simp [hC5]) (by simp [hC, DataW.trod, Tryd.underlying4])
  exact ⟨_, by simpa [Value.cells, fl] using this⟩
theorem law_ash4 (a n m : Nat) (ha : U a) (hlt : n + m < 32) (c z s o p : Bool) (w : World) (hm : Mk w) :
    Calls Tryd.prog 6 #[.bool false, .int .u64 a, .int .u8 n, .int .u8 m, fl c z s o p] w fun e w' => e = .returned (.bool true) ∧ Below w.heap.size w w' := by
  have h8 : (hI 4 == 8) = false := by decide
  have hK : 8 * hN 4 = 32 := by decide
  have hp : 2 ^ n < 18446744073709551616 := Nat.lt_of_lt_of_le (Nat.pow_lt_pow_right (by decide : 1 < 2) (show n < 64 by omega)) (by decide)
  have hpU : U (2 ^ n) := hp
  have hD := fun W hW => adiv_any 0 a (2 ^ n) (by unfold U; decide) ha hpU 4 (by rw [show cN 0 4 = 0 from Nat.zero_mod _, cN_id _ _ (Nat.pow_lt_pow_right (by decide) (by omega))]; exact Nat.two_pow_pos _) W hW
  rw [div_shr a n 4 (by omega)] at hD
  have hMu := fun W hW => amul_any a (2 ^ n) ha hpU 4 W hW
  rw [low_shl a n 4 (by omega)] at hMu
  have hB := fun W hW => shift_any4 4 (by omega) 4 (shR 3 (cN a 4) n 4) (shR_U _ _ _ _) n n (by omega) (by omega) c z s o p h8 W hW
  rw [there_back] at hB
  have h2 := fun (k : Nat) (hk : k < 5) W hW => shift_any4 k hk 4 (shR k (cN a 4) n 4) (shR_U _ _ _ _) m m (by omega) (by omega) c z s o p h8 W hW
  have e2 : ∀ k, shR k (cN (shR k (cN a 4) n 4) 4) m 4 = shR k (cN a 4) (n + m) 4 := fun k => shR_add _ _ _ _ _
  simp only [e2] at h2
  exact ash_core4 a n m (n + m) _ _ _ _ _ _ (2 ^ n) (fun k => shR k (cN a 4) n 4) (fun k => shR k (cN a 4) (n + m) 4) c z s o p
    (fun k => fC k (cN a 4) n 4 c) (fun k => fZ k (cN a 4) n 4 z) (fun k => fS k (cN a 4) n 4 s) (fun k => fO k (cN a 4) n 4 o) (fun k => fP k (cN a 4) n 4 p)
    (fun k => fC k (cN (shR k (cN a 4) n 4) 4) m 4 c) (fun k => fZ k (cN (shR k (cN a 4) n 4) 4) m 4 z) (fun k => fS k (cN (shR k (cN a 4) n 4) 4) m 4 s) (fun k => fO k (cN (shR k (cN a 4) n 4) 4) m 4 o) (fun k => fP k (cN (shR k (cN a 4) n 4) 4) m 4 p)
    (fun k => fC k (cN a 4) (n + m) 4 c) (fun k => fZ k (cN a 4) (n + m) 4 z) (fun k => fS k (cN a 4) (n + m) 4 s) (fun k => fO k (cN a 4) (n + m) 4 o) (fun k => fP k (cN a 4) (n + m) 4 p)
    _ _ _ _ _ _ _ _ _ _ _ _ _ _ _ _ _ _ _ _ _ _ _ _ _
    (fun k hk W hW => shift_any4 k hk 4 a ha n n (by omega) (by omega) c z s o p h8 W hW) h2
    (fun k hk W hW => shift_any4 k hk 4 a ha (n + m) (n + m) (by omega) (by omega) c z s o p h8 W hW)
    (fun W hW => shift_any4 0 (by omega) 4 a ha n n (by omega) (by omega) c z s o p h8 W hW)
    (fun W hW => shift_any4 1 (by omega) 4 a ha n n (by omega) (by omega) c z s o p h8 W hW)
    hMu hD (fun W hW => shift_any4 3 (by omega) 4 a ha n n (by omega) (by omega) c z s o p h8 W hW) hB (fun W => rcut_any a ha 4 W)
    (by rw [show ∀ q : Int, IntKind.u8.wrap q = q % 256 from fun q => by simp [IntKind.wrap, IntKind.bits, IntKind.signed]]; omega) (by simp [wrap64]; omega) (by rw [show ((2 : Int) ^ n) = ((2 ^ n : Nat) : Int) from by simp]; exact wrapU _ hp) (by omega)
    (fun h1 h0 k hk => flags_add k a n m 4 h1 c z s) w hm
theorem law_ash8 (a n m : Nat) (ha : U a) (hlt : n + m < 64) (c z s o p : Bool) (w : World) (hm : Mk w) :
    Calls Tryd.prog 6 #[.bool true, .int .u64 a, .int .u8 n, .int .u8 m, fl c z s o p] w fun e w' => e = .returned (.bool true) ∧ Below w.heap.size w w' := by
  have h8 : (hI 8 == 8) = true := by decide
  have hK : 8 * hN 8 = 64 := by decide
  have hp : 2 ^ n < 18446744073709551616 := Nat.lt_of_lt_of_le (Nat.pow_lt_pow_right (by decide : 1 < 2) (show n < 64 by omega)) (by decide)
  have hpU : U (2 ^ n) := hp
  have hD := fun W hW => adiv_any 0 a (2 ^ n) (by unfold U; decide) ha hpU 8 (by rw [show cN 0 8 = 0 from Nat.zero_mod _, cN_id _ _ (Nat.pow_lt_pow_right (by decide) (by omega))]; exact Nat.two_pow_pos _) W hW
  rw [div_shr a n 8 (by omega)] at hD
  have hMu := fun W hW => amul_any a (2 ^ n) ha hpU 8 W hW
  rw [low_shl a n 8 (by omega)] at hMu
  have hB := fun W hW => shift_any8 4 (by omega) 8 (shR 3 (cN a 8) n 8) (shR_U _ _ _ _) n n (by omega) (by omega) c z s o p h8 W hW
  rw [there_back] at hB
  have h2 := fun (k : Nat) (hk : k < 5) W hW => shift_any8 k hk 8 (shR k (cN a 8) n 8) (shR_U _ _ _ _) m m (by omega) (by omega) c z s o p h8 W hW
  have e2 : ∀ k, shR k (cN (shR k (cN a 8) n 8) 8) m 8 = shR k (cN a 8) (n + m) 8 := fun k => shR_add _ _ _ _ _
  simp only [e2] at h2
  exact ash_core8 a n m (n + m) _ _ _ _ _ _ (2 ^ n) (fun k => shR k (cN a 8) n 8) (fun k => shR k (cN a 8) (n + m) 8) c z s o p
    (fun k => fC k (cN a 8) n 8 c) (fun k => fZ k (cN a 8) n 8 z) (fun k => fS k (cN a 8) n 8 s) (fun k => fO k (cN a 8) n 8 o) (fun k => fP k (cN a 8) n 8 p)
    (fun k => fC k (cN (shR k (cN a 8) n 8) 8) m 8 c) (fun k => fZ k (cN (shR k (cN a 8) n 8) 8) m 8 z) (fun k => fS k (cN (shR k (cN a 8) n 8) 8) m 8 s) (fun k => fO k (cN (shR k (cN a 8) n 8) 8) m 8 o) (fun k => fP k (cN (shR k (cN a 8) n 8) 8) m 8 p)
    (fun k => fC k (cN a 8) (n + m) 8 c) (fun k => fZ k (cN a 8) (n + m) 8 z) (fun k => fS k (cN a 8) (n + m) 8 s) (fun k => fO k (cN a 8) (n + m) 8 o) (fun k => fP k (cN a 8) (n + m) 8 p)
    _ _ _ _ _ _ _ _ _ _ _ _ _ _ _ _ _ _ _ _ _ _ _ _ _
    (fun k hk W hW => shift_any8 k hk 8 a ha n n (by omega) (by omega) c z s o p h8 W hW) h2
    (fun k hk W hW => shift_any8 k hk 8 a ha (n + m) (n + m) (by omega) (by omega) c z s o p h8 W hW)
    (fun W hW => shift_any8 0 (by omega) 8 a ha n n (by omega) (by omega) c z s o p h8 W hW)
    (fun W hW => shift_any8 1 (by omega) 8 a ha n n (by omega) (by omega) c z s o p h8 W hW)
    hMu hD (fun W hW => shift_any8 3 (by omega) 8 a ha n n (by omega) (by omega) c z s o p h8 W hW) hB (fun W => rcut_any a ha 8 W)
    (by rw [show ∀ q : Int, IntKind.u8.wrap q = q % 256 from fun q => by simp [IntKind.wrap, IntKind.bits, IntKind.signed]]; omega) (by simp [wrap64]; omega) (by rw [show ((2 : Int) ^ n) = ((2 ^ n : Nat) : Int) from by simp]; exact wrapU _ hp) (by omega)
    (fun h1 h0 k hk => flags_add k a n m 8 h1 c z s) w hm
set_option maxRecDepth 100000 in
set_option maxHeartbeats 1000000 in
theorem law_ash_out4 (a n m : Nat) (hn : n < 256) (hm8 : m < 256) (hlt : ¬ n + m < 32) (c z s o p : Bool) (w : World) (hm : Mk w) :
    Calls Tryd.prog 6 #[.bool false, .int .u64 a, .int .u8 n, .int .u8 m, fl c z s o p] w fun e w' => e = .returned (.bool true) ∧ Below w.heap.size w w' := by
  have hq : wrap64 (wrap64 (n : Int) + wrap64 (m : Int)) = ((n + m : Nat) : Int) := by simp [wrap64]; omega
  have hge : (n + m) - 1 + 1 = n + m ∧ 32 - 1 < n + m := by omega
  clear hlt hn hm8
  generalize n + m = q at hq hge
  obtain ⟨_, hge⟩ := hge
  have HM0 := Lib.hid hm
  clear hm
  go_enter Tryd.func6, Tryd.ntmps6
  go_wp2_with (go_at_call 28; ((with_reducible refine (wakes_any _ (HM0.out.alloc _)).mono ?_); rintro e w8 ⟨rfl, hb8⟩))
  go_ret
  exact ⟨rfl, ((Below.refl _ _).alloc (Nat.le_refl _) _).trans (hb8.mono (by simp))⟩
set_option maxRecDepth 100000 in
set_option maxHeartbeats 1000000 in
theorem law_ash_out8 (a n m : Nat) (hn : n < 256) (hm8 : m < 256) (hlt : ¬ n + m < 64) (c z s o p : Bool) (w : World) (hm : Mk w) :
    Calls Tryd.prog 6 #[.bool true, .int .u64 a, .int .u8 n, .int .u8 m, fl c z s o p] w fun e w' => e = .returned (.bool true) ∧ Below w.heap.size w w' := by
  have hq : wrap64 (wrap64 (n : Int) + wrap64 (m : Int)) = ((n + m : Nat) : Int) := by simp [wrap64]; omega
  have hge : (n + m) - 1 + 1 = n + m ∧ 64 - 1 < n + m := by omega
  clear hlt hn hm8
  generalize n + m = q at hq hge
  obtain ⟨_, hge⟩ := hge
  have HM0 := Lib.hid hm
  clear hm
  go_enter Tryd.func6, Tryd.ntmps6
  go_wp2_with (go_at_call 28; ((with_reducible refine (wakes_any _ (HM0.out.alloc _)).mono ?_); rintro e w8 ⟨rfl, hb8⟩))
  go_ret
  exact ⟨rfl, ((Below.refl _ _).alloc (Nat.le_refl _) _).trans (hb8.mono (by simp))⟩
theorem nat_of_u8 {a : Int} (h : (Lit.int .u8 a).wf = true) : ∃ k : Nat, a = k ∧ k < 256 := by
  have hb := Go.bounds_u8 h
  obtain ⟨k, rfl⟩ := Int.eq_ofNat_of_zero_le hb.1
  exact ⟨k, rfl, by omega⟩
theorem walkIn_ash (b : Bool) (a0 a1 a2 : Int) (c z s o p : Bool) (w0 : (Lit.int .u64 a0).wf = true) (w1 : (Lit.int .u8 a1).wf = true) (w2 : (Lit.int .u8 a2).wf = true) (w : World) (hm : Mk w) : Calls Tryd.prog 6 #[.bool b, .int .u64 a0, .int .u8 a1, .int .u8 a2, fl c z s o p] w fun e w' => e = .returned (.bool true) ∧ Below w.heap.size w w' := by
  obtain ⟨a, rfl, ha⟩ := nat_of_wf w0
  obtain ⟨n, rfl, hn⟩ := nat_of_u8 w1
  obtain ⟨m, rfl, hm8⟩ := nat_of_u8 w2
  cases b
  · by_cases h : n + m < 32
    · exact law_ash4 a n m ha h c z s o p w hm
    · exact law_ash_out4 a n m hn hm8 h c z s o p w hm
  · by_cases h : n + m < 64
    · exact law_ash8 a n m ha h c z s o p w hm
    · exact law_ash_out8 a n m hn hm8 h c z s o p w hm
end Go.Proofs.YtmfoeolllobidaaDoor
