/- bytes.IndexByte at the byte 0; piece. -/
import Derived.Laws.StandIn
import Derived.Lib.BytesEntry
import Derived.Test.YtegbhjmghkbgmaaB
namespace Go.Proofs.Ytegbhjmghkbgmaa
open Go.RowKit Go.Shelf
set_option linter.unusedVariables false
set_option linter.unusedSimpArgs false
attribute [local go_sem] Oper.semAt_some
def shZ (z : Nat → Nat) (o : Nat) : Nat → Nat := fun j => z (o + j)
abbrev Sc := Nat × Nat × Nat × Nat × Nat
def Sc.cs (s : Sc) : List Value := [.int .u32 (s.1 : Nat), .int .u64 (s.2.1 : Nat), .int .u64 (s.2.2.1 : Nat), .int .u32 (s.2.2.2.1 : Nat), .int .u64 (s.2.2.2.2 : Nat)]
def Sc.v (s : Sc) : Value := .agg #[.int .u32 (s.1 : Nat), .int .u64 (s.2.1 : Nat), .int .u64 (s.2.2.1 : Nat), .int .u32 (s.2.2.2.1 : Nat), .int .u64 (s.2.2.2.2 : Nat)]
def Sc.ok (s : Sc) : Prop := V32 s.1 ∧ U s.2.1 ∧ U s.2.2.1 ∧ V32 s.2.2.2.1 ∧ U s.2.2.2.2
theorem Sc_len (s : Sc) : s.cs.length = 5 := rfl
theorem Sc_at {W : World} {ad : Option Addr} {zs : List Sc} (h : RX W ad (zs.flatMap Sc.cs)) {k : Nat} {s : Sc} (hk : zs[k]? = some s) : ∃ b off, ad = some ⟨b, off, none⟩ ∧ W.cell? ⟨b, off + k * 5, none⟩ = some (.int .u32 (s.1 : Nat)) ∧ W.cell? ⟨b, off + k * 5 + 1, none⟩ = some (.int .u64 (s.2.1 : Nat)) ∧ W.cell? ⟨b, off + k * 5 + 2, none⟩ = some (.int .u64 (s.2.2.1 : Nat)) ∧ W.cell? ⟨b, off + k * 5 + 3, none⟩ = some (.int .u32 (s.2.2.2.1 : Nat)) ∧ W.cell? ⟨b, off + k * 5 + 4, none⟩ = some (.int .u64 (s.2.2.2.2 : Nat)) := by
  have hl := (List.getElem?_eq_some_iff.1 hk).1
  obtain ⟨b, off, ha, hc⟩ := h (by rw [flat_len Sc_len]; omega)
  have e : ∀ i, i < 5 → ∀ u, s.cs[i]? = some u → W.cell? ⟨b, off + k * 5 + i, none⟩ = some u := fun i hi u hu => by
    rw [Nat.add_assoc]
    exact hc _ _ ((flat_at Sc_len zs k i s hk hi).trans hu)
  exact ⟨b, off, ha, e 0 (by decide) _ rfl, e 1 (by decide) _ rfl, e 2 (by decide) _ rfl, e 3 (by decide) _ rfl, e 4 (by decide) _ rfl⟩

theorem bs_part {W : World} {b off len : Nat} {z : Nat → Nat} (h : BS W (some ⟨b, off, none⟩) len z) (o : Nat) : BS W (some ⟨b, off + o, none⟩) (len - o) (shZ z o) := fun hl => by
  obtain ⟨b2, off2, he, hc⟩ := h (by omega)
  cases he
  exact ⟨b, off + o, rfl, fun j hj => by have := hc (o + j) (by omega); rwa [← Nat.add_assoc] at this⟩
def zsI (z : Nat → Nat) (n : Nat) : List Int := (List.range n).map fun j => (z j : Int)
/-- Where the first of so many bytes is that is 0; -1: nowhere. -/
def idxI (z : Nat → Nat) (n : Nat) : Int := Lib.indexByte (Lib.bytesOf (zsI z n)) 0
theorem index_spec (l : List UInt8) (c : UInt8) : (Lib.indexByte l c = -1 ∧ ∀ j : Nat, l[j]? ≠ some c) ∨ ∃ i : Nat, Lib.indexByte l c = (i : Int) ∧ l[i]? = some c ∧ ∀ j, j < i → l[j]? ≠ some c := by
  induction l with
  | nil => exact .inl ⟨rfl, fun j => by simp⟩
  | cons b l ih =>
    unfold Lib.indexByte
    by_cases h : b = c
    · subst h
      exact .inr ⟨0, by simp, by simp, fun j hj => absurd hj (by omega)⟩
    · have hb : (b == c) = false := by simpa using h
      rw [hb]
      rcases ih with ⟨e, h1⟩ | ⟨i, e, h1, h2⟩
      · left
        rw [e]
        refine ⟨by simp, fun j => ?_⟩
        cases j with
        | zero => simpa using h
        | succ j => simpa using h1 j
      · right
        rw [e]
        have hne : ((i : Int) == -1) = false := by
          rw [beq_eq_false_iff_ne]
          omega
        refine ⟨i + 1, ?_, by simpa using h1, fun j hj => ?_⟩
        · simp [hne]
        · cases j with
          | zero => simpa using h
          | succ j => simpa using h2 j (by omega)
theorem bytes_at (z : Nat → Nat) (hz : ∀ j, z j < 256) (n j : Nat) : (Lib.bytesOf (zsI z n))[j]? = some 0 ↔ j < n ∧ z j = 0 := by
  unfold Lib.bytesOf zsI
  by_cases hj : j < n
  · have := hz j
    simp [hj]
    constructor
    · intro h
      have := congrArg UInt8.toNat h
      simp at this
      omega
    · intro h
      rw [h]
      rfl
  · simp [hj]
theorem idx_spec {z : Nat → Nat} (hz : ∀ j, z j < 256) (n : Nat) : (idxI z n = -1 ∧ ∀ j, j < n → z j ≠ 0) ∨ ∃ i : Nat, idxI z n = (i : Int) ∧ i < n ∧ z i = 0 ∧ ∀ j, j < i → z j ≠ 0 := by
  rcases index_spec (Lib.bytesOf (zsI z n)) 0 with ⟨e, h⟩ | ⟨i, e, h1, h2⟩
  · exact .inl ⟨e, fun j hj h0 => h j ((bytes_at z hz n j).2 ⟨hj, h0⟩)⟩
  · obtain ⟨h3, h4⟩ := (bytes_at z hz n i).1 h1
    exact .inr ⟨i, e, h3, h4, fun j hj h0 => h2 j hj ((bytes_at z hz n j).2 ⟨by omega, h0⟩)⟩
set_option maxRecDepth 100000 in
set_option maxHeartbeats 1000000 in
theorem index_any (a : Option Addr) (n c : Nat) (z : Nat → Nat) (w : World) (h : BS w a n z) (hn : 0 < n) : Calls Try.prog 37 #[.slice a n c, .int .u8 0] w fun e w' => e = .returned (.int .i64 (idxI z n)) ∧ w' = w := by
  obtain ⟨b, off, rfl, hc⟩ := h hn
  have hrun := Lib.run_indexByteSlice (P := Try.prog) w b off n c (zsI z n) (by simp [zsI]) (fun i hi => by rw [hc i hi]; simp [zsI, List.getD, hi]) 0
  go_enter Try.func37, Try.ntmps37
  go_wp2
  rw [run_callFunc_extern Try.func42 (by kernel_rfl) (by kernel_rfl) (by kernel_rfl) (e := Extern.BytealgIndexByte.indexByte) (by kernel_rfl), hrun]
  simp only [Result.andThen]
  rw [Oper.upon_value]
  go_wp2
  go_ret
  exact ⟨rfl, rfl⟩
end Go.Proofs.Ytegbhjmghkbgmaa
