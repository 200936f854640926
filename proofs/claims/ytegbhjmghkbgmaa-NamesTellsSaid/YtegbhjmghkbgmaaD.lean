/- names.piece, names.named. -/
import Derived.Test.YtegbhjmghkbgmaaC
namespace Go.Proofs.Ytegbhjmghkbgmaa
open Go.RowKit Go.Shelf
set_option linter.unusedVariables false
set_option linter.unusedSimpArgs false
attribute [local go_sem] Oper.semAt_some
/-- Bytes that can be read, nil or not. -/
def BZ (w : World) (a : Option Addr) (n c : Nat) (z : Nat → Nat) : Prop := ((a = none ∧ n = 0 ∧ c = 0) ∨ ∃ b off, a = some ⟨b, off, none⟩ ∧ ∀ j, j < n → w.cell? ⟨b, off + j, none⟩ = some (.int .u8 (z j : Nat))) ∧ n ≤ c ∧ c ≤ 9223372036854775807
theorem BZ.keep {w W : World} {a : Option Addr} {n c : Nat} {z : Nat → Nat} (h : BZ w a n c z) (hb : Below w.heap.size w W) : BZ W a n c z := by
  refine ⟨?_, h.2⟩
  rcases h.1 with h | ⟨b, off, ha, hc⟩
  · exact .inl h
  · exact .inr ⟨b, off, ha, fun j hj => cell_keep (hc j hj) hb⟩
theorem BZ.bs {w : World} {a : Option Addr} {n c : Nat} {z : Nat → Nat} (h : BZ w a n c z) : BS w a n z := fun hn => by
  rcases h.1 with ⟨_, h0, _⟩ | ⟨b, off, ha, hc⟩
  · omega
  · exact ⟨b, off, ha, hc⟩
/-- Does a section stand all within so many bytes? -/
def pieceB (s : Sc) (n : Nat) : Bool := decide (s.2.1 ≤ n) && decide (s.2.2.1 ≤ n - s.2.1)
/-- What piece tells. -/
def PieceOf (s : Sc) (n : Nat) (z : Nat → Nat) (w : World) (e : Ending) (W' : World) : Prop :=
  (pieceB s n = true → ∃ a' c', e = .returned (.tuple #[.slice a' s.2.2.1 c', .bool true]) ∧ BZ W' a' s.2.2.1 c' (shZ z s.2.1)) ∧ (pieceB s n = false → e = .returned (.tuple #[.slice none 0 0, .bool false])) ∧ Below w.heap.size w W'
set_option maxRecDepth 100000 in
set_option maxHeartbeats 4000000 in
theorem piece_any (a : Option Addr) (n c : Nat) (z : Nat → Nat) (s : Sc) (hs : s.ok) (w : World) (h : BZ w a n c z) : Calls Try.prog 22 #[.slice a n c, .agg #[.int .u32 (s.1 : Nat), .int .u64 (s.2.1 : Nat), .int .u64 (s.2.2.1 : Nat), .int .u32 (s.2.2.2.1 : Nat), .int .u64 (s.2.2.2.2 : Nat)]] w (PieceOf s n z w) := by
  have hcap := h.2
  have HB := Lib.hid (fun W hb => BZ.keep (W := W) h hb)
  have HS := Lib.hid (And.intro (heap_alloc_last w (.cells #[.int .u32 (s.1 : Nat), .int .u64 (s.2.1 : Nat), .int .u64 (s.2.2.1 : Nat), .int .u32 (s.2.2.2.1 : Nat), .int .u64 (s.2.2.2.2 : Nat)] 54)) ((Below.refl _ w).alloc (Nat.le_refl _) (.cells #[.int .u32 (s.1 : Nat), .int .u64 (s.2.1 : Nat), .int .u64 (s.2.2.1 : Nat), .int .u32 (s.2.2.2.1 : Nat), .int .u64 (s.2.2.2.2 : Nat)] 54)))
  have ho : s.2.1 < 18446744073709551616 := hs.2.1
  have hz : s.2.2.1 < 18446744073709551616 := hs.2.2.1
  have HP : Hid (pieceB s n = (decide (s.2.1 ≤ n) && decide (s.2.2.1 ≤ n - s.2.1))) := Lib.hid rfl
  have HPO : Hid (∀ e W', (pieceB s n = true → ∃ a' c', e = .returned (.tuple #[.slice a' s.2.2.1 c', .bool true]) ∧ BZ W' a' s.2.2.1 c' (shZ z s.2.1)) → (pieceB s n = false → e = .returned (.tuple #[.slice none 0 0, .bool false])) → Below w.heap.size w W' → PieceOf s n z w e W') := Lib.hid (fun e W' h1 h2 h3 => ⟨h1, h2, h3⟩)
  have u0 : IntKind.u64.wrap (n : Int) = (n : Int) := IntWalk.u64_in _ (by omega)
  generalize pieceB s n = pb at *
  obtain ⟨k, o, sz, l, ea⟩ := s
  dsimp only at *
  clear hs
  by_cases h1 : o ≤ n
  rotate_left
  · have hp : pb = false := by rw [HP.out, decide_eq_false h1]; rfl
    have d1 : decide (n < o) = true := decide_eq_true (by omega)
    subst hp
    clear HP h h1
    go_enter Try.func22, Try.ntmps22
    go_upto_region 1 with fail
    have HS2 := HS
    generalize World.alloc w _ = W1 at HS2 ⊢
    have c1 := cell_at (i := 1) (v := .int .u64 (o : Nat)) HS2.out.1 rfl
    have c2 := cell_at (i := 2) (v := .int .u64 (sz : Nat)) HS2.out.1 rfl
    go_wp2_with fail
    go_returns
    exact HPO.out _ _ (fun h => by cases h) (fun _ => rfl) HS2.out.2
  have d1 : decide (n < o) = false := decide_eq_false (by omega)
  have u1 : IntKind.u64.wrap ((n : Int) - (o : Int)) = (n : Int) - (o : Int) := IntWalk.u64_in _ (by omega)
  by_cases h2 : sz ≤ n - o
  rotate_left
  · have hp : pb = false := by rw [HP.out, decide_eq_false h2]; simp
    have d2 : decide ((n : Int) - (o : Int) < (sz : Int)) = true := decide_eq_true (by omega)
    subst hp
    clear HP h
    go_enter Try.func22, Try.ntmps22
    go_upto_region 1 with fail
    have HS2 := HS
    generalize World.alloc w _ = W1 at HS2 ⊢
    have c1 := cell_at (i := 1) (v := .int .u64 (o : Nat)) HS2.out.1 rfl
    have c2 := cell_at (i := 2) (v := .int .u64 (sz : Nat)) HS2.out.1 rfl
    go_wp2_with fail
    go_returns
    exact HPO.out _ _ (fun h => by cases h) (fun _ => rfl) HS2.out.2
  have hp : pb = true := by rw [HP.out, decide_eq_true h1, decide_eq_true h2]; rfl
  have d2 : decide ((n : Int) - (o : Int) < (sz : Int)) = false := decide_eq_false (by omega)
  have u2 : IntKind.u64.wrap ((o : Int) + (sz : Int)) = (o : Int) + (sz : Int) := IntWalk.u64_in _ (by omega)
  have ht : ((o : Int) + (sz : Int)).toNat = o + sz := by omega
  have hi1 : (o : Int) ≤ (o : Int) + (sz : Int) := by omega
  have hi2 : (o : Int) + (sz : Int) ≤ (c : Int) := by omega
  subst hp
  clear HP
  rcases h.1 with ⟨rfl, rfl, rfl⟩ | ⟨b, off, rfl, hc⟩
  · have e1 : o = 0 := by omega
    have e2 : sz = 0 := by omega
    subst e1
    subst e2
    clear h hi1 hi2 ht u0 u1 u2 d1 d2
    go_enter Try.func22, Try.ntmps22
    go_upto_region 1 with fail
    have HS2 := HS
    generalize World.alloc w _ = W1 at HS2 ⊢
    have c1 := cell_at (i := 1) (v := .int .u64 0) HS2.out.1 rfl
    have c2 := cell_at (i := 2) (v := .int .u64 0) HS2.out.1 rfl
    go_wp2_with fail
    go_returns
    exact HPO.out _ _ (fun _ => ⟨none, 0, rfl, .inl ⟨rfl, rfl, rfl⟩, Nat.le_refl _, by decide⟩) (fun h => by cases h) HS2.out.2
  · by_cases hne : c = o
    · have e2 : sz = 0 := by omega
      have e3 : o = n := by omega
      subst e2
      clear h hc
      subst e3
      go_enter Try.func22, Try.ntmps22
      go_upto_region 1 with fail
      have HS2 := HS
      generalize World.alloc w _ = W1 at HS2 ⊢
      have c1 := cell_at (i := 1) (v := .int .u64 (o : Nat)) HS2.out.1 rfl
      have c2 := cell_at (i := 2) (v := .int .u64 0) HS2.out.1 rfl
      go_wp2_with fail
      go_returns
      exact HPO.out _ _ (fun _ => ⟨some ⟨b, off, none⟩, 0, rfl, .inr ⟨b, off, rfl, fun j hj => absurd hj (by omega)⟩, Nat.le_refl _, by decide⟩) (fun h => by cases h) HS2.out.2
    · clear h
      go_enter Try.func22, Try.ntmps22
      go_upto_region 1 with fail
      have HS2 := HS
      generalize World.alloc w _ = W1 at HS2 ⊢
      have c1 := cell_at (i := 1) (v := .int .u64 (o : Nat)) HS2.out.1 rfl
      have c2 := cell_at (i := 2) (v := .int .u64 (sz : Nat)) HS2.out.1 rfl
      go_wp2_with fail
      go_returns
      exact HPO.out _ _ (fun _ => ⟨some ⟨b, off + o, none⟩, c - o, rfl, .inr ⟨b, off + o, rfl, fun j hj => by
        have := cell_keep (hc (o + j) (by omega)) HS2.out.2
        rwa [← Nat.add_assoc] at this⟩, by omega, by omega⟩) (fun h => by cases h) HS2.out.2
def stN (n : Nat) (z : Nat → Nat) : ByteArray := ⟨((List.range n).map fun j => UInt8.ofNat (z j)).toArray⟩
theorem st_run (W : World) (b off cap n : Nat) (z : Nat → Nat) (hz : ∀ j, z j < 256) (hc : ∀ j, j < n → W.cell? ⟨b, off + j, none⟩ = some (.int .u8 (z j : Nat))) : (convert 27 9 (.slice (some ⟨b, off, none⟩) n cap)).run Try.prog W = .ok (.string (stN n z)) W := by
  have h := run_convert_bytes_back (P := Try.prog) W 27 9 5 ⟨b, off, none⟩ cap ((List.range n).map fun j => UInt8.ofNat (z j)) Try.underlying27 Try.underlying5 Try.underlying9 (fun j hj => by
    have hj3 : j < n := by simpa using hj
    rw [Addr.add_lit, hc j hj3]
    have : (UInt8.ofNat (z j)).toNat = z j := by have := hz j; simp; omega
    simp [this])
  simp only [List.length_map, List.length_range] at h
  exact h
/-- What named tells. -/
def NamedOf (z : Nat → Nat) (n at_ : Nat) (e : Ending) : Prop :=
  (n ≤ at_ → e = .returned (.tuple #[.string ⟨#[]⟩, .bool false])) ∧ (at_ < n → idxI (shZ z at_) (n - at_) = -1 → e = .returned (.tuple #[.string ⟨#[]⟩, .bool false])) ∧
  ∀ i : Nat, at_ < n → idxI (shZ z at_) (n - at_) = (i : Int) → e = .returned (.tuple #[.string (stN i (shZ z at_)), .bool true])
set_option maxRecDepth 100000 in
set_option maxHeartbeats 4000000 in
theorem named_any (a : Option Addr) (n c : Nat) (z : Nat → Nat) (hz : ∀ j, z j < 256) (at_ : Nat) (hat : at_ < 18446744073709551616) (w : World) (h : BZ w a n c z) : Calls Try.prog 25 #[.slice a n c, .int .u64 (at_ : Nat)] w fun e W' => NamedOf z n at_ e ∧ W' = w := by
  have hcap := h.2
  have u0 : IntKind.u64.wrap (n : Int) = (n : Int) := IntWalk.u64_in _ (by omega)
  have HN := Lib.hid (fun e h1 h2 h3 => (show NamedOf z n at_ e from And.intro h1 (And.intro h2 h3)))
  by_cases h1 : n ≤ at_
  · have d1 : decide (n ≤ at_) = true := decide_eq_true h1
    go_enter Try.func25, Try.ntmps25
    go_wp2_with fail
    go_returns
    exact ⟨HN.out _ (fun _ => rfl) (fun h => absurd h (by omega)) (fun i h => absurd h (by omega)), rfl⟩
  have d1 : decide (n ≤ at_) = false := decide_eq_false h1
  obtain ⟨b, off, rfl, hc⟩ := h.bs (by omega)
  have hne : ¬ c = at_ := by omega
  have hi1 : (at_ : Int) ≤ (n : Int) := by omega
  have HI := Lib.hid (index_any (some ⟨b, off + at_, none⟩) (n - at_) (c - at_) (shZ z at_) w (bs_part h.bs at_) (by omega))
  have hsp := idx_spec (z := shZ z at_) (fun j => hz _) (n - at_)
  generalize hI : idxI (shZ z at_) (n - at_) = I at HI hsp
  have HII := Lib.hid hI
  clear hI h
  rcases hsp with ⟨rfl, _⟩ | ⟨i, rfl, hi, _⟩
  · go_enter Try.func25, Try.ntmps25
    go_wp2_with (first | (go_at_call 37; refine HI.out.mono ?_) | fail)
    rintro e W1 ⟨rfl, rfl⟩
    go_wp2_with fail
    go_returns
    exact ⟨HN.out _ (fun h => absurd h h1) (fun _ _ => rfl) (fun i _ h => by rw [HII.out] at h; omega), rfl⟩
  · have hst := st_run w b (off + at_) (c - at_) i (shZ z at_) (fun j => hz _) (fun j hj => by
      have := hc (at_ + j) (by omega)
      rwa [← Nat.add_assoc] at this)
    have u1 : IntKind.u64.wrap (i : Int) = (i : Int) := IntWalk.u64_in _ (by omega)
    have u2 : IntKind.u64.wrap ((at_ : Int) + (i : Int)) = (at_ : Int) + (i : Int) := IntWalk.u64_in _ (by omega)
    have ht : ((at_ : Int) + (i : Int)).toNat = at_ + i := by omega
    have hi2 : (at_ : Int) ≤ (at_ : Int) + (i : Int) := by omega
    have hi3 : (at_ : Int) + (i : Int) ≤ (c : Int) := by omega
    clear hc
    go_enter Try.func25, Try.ntmps25
    go_wp2_with (first | (go_at_call 37; refine HI.out.mono ?_) | fail)
    rintro e W1 ⟨rfl, rfl⟩
    go_wp2_with fail
    go_returns
    exact ⟨HN.out _ (fun h => absurd h h1) (fun _ h => by rw [HII.out] at h; omega) (fun k _ h => by
      rw [HII.out] at h
      obtain rfl : i = k := by omega
      rfl), rfl⟩
end Go.Proofs.Ytegbhjmghkbgmaa
