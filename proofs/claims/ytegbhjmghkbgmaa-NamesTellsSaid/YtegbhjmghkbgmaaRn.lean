/- names.Read, whole. -/
import Derived.Test.YtegbhjmghkbgmaaRl
namespace Go.Proofs.Ytegbhjmghkbgmaa
open Go.RowKit Go.Shelf
set_option linter.unusedVariables false
set_option linter.unusedSimpArgs false
attribute [local go_sem] Oper.semAt_some
/-- What Read tells: the symbols, and the error. -/
def readZ (z : Nat → Nat) (bn : Nat) (cs : List Sc) : List Sy × Int :=
  if 32 < cs.length then ([], 2) else match symI cs with
  | none => ([], 0)
  | some i => match cs[i]? with
    | none => ([], 0)
    | some t => if kindsS t cs = true then (match cs[t.2.2.2.1]? with
        | none => ([], 0)
        | some s => if (pieceB t bn && pieceB s bn) = true then (match symsZ (shZ z t.2.1) (shZ z s.2.1) s.2.2.1 (List.range (rowsM t.2.2.1)) with
            | none => ([], 33)
            | some l => (l, 0)) else ([], 33)) else ([], 32)
theorem sy_nil {w W : World} (hb : Below w.heap.size w W) : SY w [] (.slice none 0 0) W := SY.nil w W hb
theorem read_any (ab : Option Addr) (bn bc : Nat) (z : Nat → Nat) (hzz : ∀ j, z j < 256) (v0 v1 v2 v3 : Value) (a : Option Addr) (p : Nat) (cs : List Sc) (hok : ∀ s, s ∈ cs → s.ok) (hn2 : cs.length ≤ 9223372036854775807) (w : World) (hbz : BZ w ab bn bc z) (h : RX w a (cs.flatMap Sc.cs)) :
    Calls Try.prog 10 #[.slice ab bn bc, .agg #[v0, v1, v2, v3, .slice a cs.length p]] w fun e W' => ∃ v, e = .returned (.tuple #[v, .int .i64 (readZ z bn cs).2]) ∧ SY w (readZ z bn cs).1 v W' := by
  unfold readZ
  by_cases hn : 32 < cs.length
  · rw [if_pos hn]
    exact (read_many _ v0 v1 v2 v3 a cs.length p hn hn2 w).mono fun e W' h => ⟨_, h.1, sy_nil h.2⟩
  rw [if_neg hn]
  cases hi : symI cs with
  | none => exact (read_none _ v0 v1 v2 v3 a p cs (by omega) hi w h).mono fun e W' h => ⟨_, h.1, sy_nil h.2⟩
  | some i =>
    dsimp only
    cases hs : cs[i]? with
    | none =>
      have hl : i < cs.length := by
        unfold symI at hi
        exact (List.findIdx?_eq_some_iff_getElem.1 hi).1
      rw [List.getElem?_eq_none_iff] at hs
      omega
    | some s =>
      dsimp only
      by_cases hk : kindsS s cs = true
      rotate_left
      · rw [if_neg hk]
        exact (read_kind _ v0 v1 v2 v3 a p cs hok (by omega) i hi s hs (by simpa using hk) w h).mono fun e W' h => ⟨_, h.1, sy_nil h.2⟩
      rw [if_pos hk]
      cases hx : cs[s.2.2.2.1]? with
      | none =>
        rw [List.getElem?_eq_none_iff] at hx
        unfold kindsS at hk
        simp only [Bool.and_eq_true, decide_eq_true_eq] at hk
        omega
      | some x =>
        dsimp only
        by_cases hp : (pieceB s bn && pieceB x bn) = true
        rotate_left
        · rw [if_neg hp]
          exact (read_place ab bn bc z v0 v1 v2 v3 a p cs hok (by omega) i hi s hs hk x hx (by simpa using hp) w hbz h).mono fun e W' h => ⟨_, h.1, sy_nil h.2⟩
        rw [if_pos hp]
        have hp' := Bool.and_eq_true_iff.1 hp
        refine (read_loop ab bn bc z v0 v1 v2 v3 a p cs hok (by omega) i hi s hs hk x hx hzz hp'.1 hp'.2 w hbz h).mono fun e W' h => ?_
        obtain ⟨L, v, er, he, hS, h | h⟩ := h
        · obtain ⟨h1, h2⟩ := h
          rw [h1]
          subst h2
          exact ⟨v, he, hS⟩
        · obtain ⟨h1, h2, h3⟩ := h
          rw [h1]
          subst h2
          subst h3
          exact ⟨v, he, hS⟩
end Go.Proofs.Ytegbhjmghkbgmaa
