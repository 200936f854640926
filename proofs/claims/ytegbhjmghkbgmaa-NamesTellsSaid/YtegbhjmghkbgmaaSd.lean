/- slices.rotate. -/
import Derived.Test.YtegbhjmghkbgmaaSc
namespace Go.Proofs.Ytegbhjmghkbgmaa
open Go.RowKit Go.Shelf
set_option linter.unusedVariables false
set_option linter.unusedSimpArgs false
attribute [local go_sem] Oper.semAt_some
section
variable (P X Z Y S : List Sy)
theorem five1 (j : Nat) (h : j < P.length) : (P ++ (X ++ (Z ++ (Y ++ S))))[j]? = P[j]? := List.getElem?_append_left h
theorem five2 (k : Nat) (h : k < X.length) : (P ++ (X ++ (Z ++ (Y ++ S))))[P.length + k]? = X[k]? := by
  rw [List.getElem?_append_right (Nat.le_add_right _ _), Nat.add_sub_cancel_left, List.getElem?_append_left h]
theorem five3 (k : Nat) (h : k < Z.length) : (P ++ (X ++ (Z ++ (Y ++ S))))[P.length + (X.length + k)]? = Z[k]? := by
  rw [List.getElem?_append_right (Nat.le_add_right _ _), Nat.add_sub_cancel_left, List.getElem?_append_right (Nat.le_add_right _ _), Nat.add_sub_cancel_left, List.getElem?_append_left h]
theorem five4 (k : Nat) (h : k < Y.length) : (P ++ (X ++ (Z ++ (Y ++ S))))[P.length + (X.length + (Z.length + k))]? = Y[k]? := by
  rw [List.getElem?_append_right (Nat.le_add_right _ _), Nat.add_sub_cancel_left, List.getElem?_append_right (Nat.le_add_right _ _), Nat.add_sub_cancel_left, List.getElem?_append_right (Nat.le_add_right _ _), Nat.add_sub_cancel_left, List.getElem?_append_left h]
theorem five5 (k : Nat) : (P ++ (X ++ (Z ++ (Y ++ S))))[P.length + (X.length + (Z.length + (Y.length + k)))]? = S[k]? := by
  rw [List.getElem?_append_right (Nat.le_add_right _ _), Nat.add_sub_cancel_left, List.getElem?_append_right (Nat.le_add_right _ _), Nat.add_sub_cancel_left, List.getElem?_append_right (Nat.le_add_right _ _), Nat.add_sub_cancel_left, List.getElem?_append_right (Nat.le_add_right _ _), Nat.add_sub_cancel_left]
end
theorem swOf_list {P X Z Y S L' : List Sy} {n : Nat} (hx : X.length = n) (hy : Y.length = n) (h : SwOf (P ++ (X ++ (Z ++ (Y ++ S)))) L' P.length (P.length + n + Z.length) n) : L' = P ++ (Y ++ (Z ++ (X ++ S))) := by
  obtain ⟨hl, hj⟩ := h
  apply List.ext_getElem?
  intro j
  rw [hj j]
  by_cases h1 : j < P.length
  · rw [if_neg (by omega), if_neg (by omega), five1 _ _ _ _ _ j h1, five1 _ _ _ _ _ j h1]
  · obtain ⟨k, rfl⟩ : ∃ k, j = P.length + k := ⟨j - P.length, by omega⟩
    by_cases h2 : k < n
    · rw [if_pos (by omega), five2 P Y Z X S k (by omega), show P.length + k + (P.length + n + Z.length) - P.length = P.length + (X.length + (Z.length + k)) by omega, five4 P X Z Y S k (by omega)]
    · obtain ⟨k, rfl⟩ : ∃ i, k = n + i := ⟨k - n, by omega⟩
      rw [if_neg (by omega)]
      by_cases h3 : k < Z.length
      · rw [if_neg (by omega)]
        have a1 := five3 P Y Z X S k h3
        have a2 := five3 P X Z Y S k h3
        rw [hy] at a1
        rw [hx] at a2
        rw [a1, a2]
      · obtain ⟨k, rfl⟩ : ∃ i, k = Z.length + i := ⟨k - Z.length, by omega⟩
        by_cases h4 : k < n
        · rw [if_pos (by omega), show P.length + (n + (Z.length + k)) + P.length - (P.length + n + Z.length) = P.length + k by omega, five2 P X Z Y S k (by omega)]
          have a1 := five4 P Y Z X S k (by omega)
          rw [hy] at a1
          rw [a1]
        · obtain ⟨k, rfl⟩ : ∃ i, k = n + i := ⟨k - n, by omega⟩
          rw [if_neg (by omega)]
          have a1 := five5 P Y Z X S k
          have a2 := five5 P X Z Y S k
          rw [hy, hx] at a1
          rw [hx, hy] at a2
          rw [a1, a2]
/-- What rotate's loop has: the pieces that are still to change places, and the rest in place. -/
def RoI (T L : List Sy) (m i j : Nat) : Prop := ∃ P X Y S, L = P ++ (X ++ (Y ++ S)) ∧ T = P ++ (Y ++ (X ++ S)) ∧ P.length + i = m ∧ X.length = i ∧ Y.length = j
theorem RoI.gt {T L L' : List Sy} {m i j : Nat} (h : RoI T L m i j) (hij : j < i) (hs : SwOf L L' (m - i) m j) : RoI T L' m (i - j) j := by
  obtain ⟨P, X, Y, S, rfl, hT, h1, h2, h3⟩ := h
  have hX : X = X.take j ++ X.drop j := (List.take_append_drop j X).symm
  have e : P ++ (X ++ (Y ++ S)) = P ++ (X.take j ++ (X.drop j ++ (Y ++ S))) := by
    conv => lhs; rw [hX]
    rw [List.append_assoc]
  rw [e] at hs
  have hs2 : SwOf (P ++ (X.take j ++ (X.drop j ++ (Y ++ S)))) L' P.length (P.length + j + (X.drop j).length) j := by
    rw [List.length_drop, show P.length + j + (X.length - j) = m by omega]
    rwa [show m - i = P.length by omega] at hs
  have hL := swOf_list (by rw [List.length_take]; omega) h3 hs2
  refine ⟨P ++ Y, X.drop j, X.take j, S, by rw [hL]; simp, ?_, by rw [List.length_append]; omega, by rw [List.length_drop]; omega, by rw [List.length_take]; omega⟩
  rw [hT]
  try simp only [List.append_assoc]
  rw [← List.append_assoc (List.take j X), List.take_append_drop]
theorem RoI.lt {T L L' : List Sy} {m i j : Nat} (h : RoI T L m i j) (hij : i < j) (hs : SwOf L L' (m - i) (m + j - i) i) : RoI T L' m i (j - i) := by
  obtain ⟨P, X, Y, S, rfl, hT, h1, h2, h3⟩ := h
  have hY : Y = Y.take (j - i) ++ Y.drop (j - i) := (List.take_append_drop _ Y).symm
  have e : P ++ (X ++ (Y ++ S)) = P ++ (X ++ (Y.take (j - i) ++ (Y.drop (j - i) ++ S))) := by
    conv => lhs; rw [hY]
    rw [List.append_assoc]
  rw [e] at hs
  have hs2 : SwOf (P ++ (X ++ (Y.take (j - i) ++ (Y.drop (j - i) ++ S)))) L' P.length (P.length + i + (Y.take (j - i)).length) i := by
    rw [List.length_take, Nat.min_eq_left (by omega), show P.length + i + (j - i) = m + j - i by omega]
    rwa [show m - i = P.length by omega] at hs
  have hL := swOf_list h2 (by rw [List.length_drop]; omega) hs2
  refine ⟨P, Y.drop (j - i), Y.take (j - i), X ++ S, by rw [hL], ?_, by omega, by rw [List.length_drop]; omega, by rw [List.length_take]; omega⟩
  rw [hT]
  try simp only [List.append_assoc]
  rw [← List.append_assoc (List.take (j - i) Y), List.take_append_drop]
theorem RoI.eq {T L L' : List Sy} {m i : Nat} (h : RoI T L m i i) (hs : SwOf L L' (m - i) m i) : L' = T := by
  obtain ⟨P, X, Y, S, rfl, hT, h1, h2, h3⟩ := h
  have hs2 : SwOf (P ++ (X ++ ([] ++ (Y ++ S)))) L' P.length (P.length + i + ([] : List Sy).length) i := by
    rw [List.nil_append, List.length_nil, Nat.add_zero, h1]
    rwa [show m - i = P.length by omega] at hs
  have hL := swOf_list h2 h3 hs2
  rw [hL, hT, List.nil_append]
theorem RoI.len {T L : List Sy} {m i j : Nat} (h : RoI T L m i j) : m + j ≤ L.length ∧ i ≤ m := by
  obtain ⟨P, X, Y, S, rfl, hT, h1, h2, h3⟩ := h
  simp only [List.length_append]
  omega
set_option maxRecDepth 100000 in
set_option maxHeartbeats 4000000 in
theorem rotate_any (g cap a m b : Nat) (L T : List Sy) (R : List Value) (fv : Value) (ham : a < m) (hmb : m < b) (hN : L.length ≤ 1000000) (hT : RoI T L m (m - a) (b - m)) (w : World) (h : QY w g L R) :
    Calls Try.prog 45 #[.slice (some ⟨g, 0, none⟩) L.length cap, .int .i64 (a : Nat), .int .i64 (m : Nat), .int .i64 (b : Nat), fv] w fun e W' => e = .returned (.tuple #[]) ∧ QY W' g T R ∧ w.grownBy W' (some g) := by
  have HS0 := Lib.hid (show ∃ L', RoI T L' m (m - a) (b - m) ∧ L'.length = L.length ∧ QY w g L' R ∧ w.grownBy w (some g) from ⟨L, hT, rfl, h, rfl, rfl, rfl, Nat.le_refl _, fun _ _ _ => rfl⟩)
  have hlen := hT.len
  clear h hT
  generalize L.length = N at *
  obtain ⟨i0, hi0⟩ : ∃ i0, m - a = i0 := ⟨_, rfl⟩
  obtain ⟨j0, hj0⟩ : ∃ j0, b - m = j0 := ⟨_, rfl⟩
  rw [hi0, hj0] at HS0
  have e1 : (m : Int) - (a : Int) = (i0 : Int) := by omega
  have e2 : (b : Int) - (m : Int) = (j0 : Int) := by omega
  have u1 : IntKind.i64.wrap (i0 : Int) = (i0 : Int) := IntWalk.i64_in _ (by omega)
  have u2 : IntKind.i64.wrap (j0 : Int) = (j0 : Int) := IntWalk.i64_in _ (by omega)
  have HB := Lib.hid (And.intro ham (And.intro hmb (And.intro hN (And.intro hi0 (And.intro hj0 hlen)))))
  clear ham hmb hlen hi0 hj0
  go_enter Try.func45, Try.ntmps45
  go_wp2_with fail
  go_loopw [10, 11] (fun u v wr => ∃ i j : Nat, 0 < i ∧ 0 < j ∧ i ≤ i0 ∧ j ≤ j0 ∧ u = .int .i64 i ∧ v = .int .i64 j ∧ Hid (∃ L', RoI T L' m i j ∧ L'.length = N ∧ QY wr g L' R ∧ w.grownBy wr (some g))) (fun u v _ => (intOf u).toNat + (intOf v).toNat)
  case atStart => exact ⟨i0, j0, by have := HB.out; omega, by have := HB.out; omega, Nat.le_refl _, Nat.le_refl _, rfl, rfl, HS0⟩
  case round =>
    clear HS0 u1 u2 e1 e2
    obtain ⟨i, j, hi, hj, hii, hjj, rfl, rfl, HS⟩ := hrel
    obtain ⟨L', hro, hl', hq, hgr⟩ := HS.out
    have hrl := hro.len
    rw [hl'] at hrl
    obtain ⟨mi, hmi⟩ : ∃ mi, m - i = mi := ⟨_, rfl⟩
    have e1 : (m : Int) - (i : Int) = (mi : Int) := by omega
    have u1 : IntKind.i64.wrap (mi : Int) = (mi : Int) := IntWalk.i64_in _ (by omega)
    have HSW := Lib.hid (fun (x y n : Nat) (hxy : x + n ≤ y) (hyn : y + n ≤ N) => (show Calls Try.prog 46 #[.slice (some ⟨g, 0, none⟩) N cap, .int .i64 (x : Nat), .int .i64 (y : Nat), .int .i64 (n : Nat), fv] wr fun e W' => e = .returned (.tuple #[]) ∧ ∃ L2, SwOf L' L2 x y n ∧ QY W' g L2 R ∧ wr.grownBy W' (some g) from by
      have h5 := swap_any g cap x y n L' R fv hxy (by rw [hl']; exact hyn) (by rw [hl']; have := HB.out; omega) wr hq
      rw [hl'] at h5
      exact h5))
    have HR := Lib.hid (And.intro hro (And.intro hl' hgr))
    have hNb : N ≤ 1000000 := HB.out.2.2.1
    clear HS hro hl' hq hgr
    rcases Nat.lt_trichotomy i j with hij | hij | hij
    · have dn : ((i : Int) == (j : Int)) = false := by
        rw [beq_eq_false_iff_ne]
        omega
      have hne : ¬ (i : Int) = (j : Int) := by omega
      have d1 : decide ((j : Int) < (i : Int)) = false := decide_eq_false (by omega)
      obtain ⟨mj, hmj⟩ : ∃ mj, m + j = mj := ⟨_, rfl⟩
      obtain ⟨mk, hmk⟩ : ∃ mk, mj - i = mk := ⟨_, rfl⟩
      obtain ⟨ji, hji⟩ : ∃ ji, j - i = ji := ⟨_, rfl⟩
      have e3 : (m : Int) + (j : Int) = (mj : Int) := by omega
      have e4 : (mj : Int) - (i : Int) = (mk : Int) := by omega
      have e5 : (j : Int) - (i : Int) = (ji : Int) := by omega
      have u3 : IntKind.i64.wrap (mj : Int) = (mj : Int) := IntWalk.i64_in _ (by omega)
      have u4 : IntKind.i64.wrap (mk : Int) = (mk : Int) := IntWalk.i64_in _ (by omega)
      have u5 : IntKind.i64.wrap (ji : Int) = (ji : Int) := IntWalk.i64_in _ (by omega)
      have HC := Lib.hid (HSW.out mi mk i (by omega) (by omega))
      have HA := Lib.hid (And.intro hij (And.intro hi (And.intro hj (And.intro hii (And.intro hjj (And.intro hmi (And.intro hmj (And.intro hmk hji))))))))
      clear HSW hi hj hii hjj hmi hmj hmk hji hij hrl
      go_wp2_with (first | (go_at_call 46; refine HC.out.mono ?_) | fail)
      first | (rintro e W2 ⟨rfl, L2, h1, h2, h3⟩) | (rintro e W2 rfl L2 h1 h2 h3) | (rintro e W2 rfl ⟨L2, h1, h2, h3⟩)
      have HF : Hid (∃ L', RoI T L' m i ji ∧ L'.length = N ∧ QY W2 g L' R ∧ w.grownBy W2 (some g)) := Lib.hid ⟨L2, by
        have e := HA.out
        rw [← e.2.2.2.2.2.2.2.2]
        exact HR.out.1.lt e.1 (by rw [e.2.2.2.2.2.1, e.2.2.2.2.2.2.1, e.2.2.2.2.2.2.2.1]; exact h1), h1.1.trans HR.out.2.1, h2, HR.out.2.2.trans h3⟩
      clear h1 h2 h3 HC
      go_wp2_with fail
      go_roundw
      case rel => exact ⟨i, ji, by have := HA.out; omega, by have := HA.out; omega, by have := HA.out; omega, by have := HA.out; omega, rfl, by first | done | rfl | go_num, HF⟩
      case measure => have := HA.out; simp [intOf]; omega
    · subst hij
      have HC := Lib.hid (HSW.out mi m i (by omega) (by omega))
      have HA := Lib.hid hmi
      clear HSW hi hj hii hjj hmi hrl
      go_wp2_with (first | (go_at_call 46; refine HC.out.mono ?_) | fail)
      first | (rintro e W2 ⟨rfl, L2, h1, h2, h3⟩) | (rintro e W2 rfl L2 h1 h2 h3) | (rintro e W2 rfl ⟨L2, h1, h2, h3⟩)
      have hTT := HR.out.1.eq (by rw [HA.out]; exact h1)
      rw [hTT] at h2
      have HF := Lib.hid (And.intro h2 (HR.out.2.2.trans h3))
      clear h1 h2 h3 hTT HC
      go_wp2_with fail
      go_end0
      exact ⟨rfl, HF.out⟩
    · have dn : ((i : Int) == (j : Int)) = false := by
        rw [beq_eq_false_iff_ne]
        omega
      have hne : ¬ (i : Int) = (j : Int) := by omega
      have d1 : decide ((j : Int) < (i : Int)) = true := decide_eq_true (by omega)
      obtain ⟨ij, hji⟩ : ∃ ij, i - j = ij := ⟨_, rfl⟩
      have e5 : (i : Int) - (j : Int) = (ij : Int) := by omega
      have u5 : IntKind.i64.wrap (ij : Int) = (ij : Int) := IntWalk.i64_in _ (by omega)
      have HC := Lib.hid (HSW.out mi m j (by omega) (by omega))
      have HA := Lib.hid (And.intro hij (And.intro hi (And.intro hj (And.intro hii (And.intro hjj (And.intro hmi hji))))))
      clear HSW hi hj hii hjj hmi hji hij hrl
      go_wp2_with (first | (go_at_call 46; refine HC.out.mono ?_) | fail)
      first | (rintro e W2 ⟨rfl, L2, h1, h2, h3⟩) | (rintro e W2 rfl L2 h1 h2 h3) | (rintro e W2 rfl ⟨L2, h1, h2, h3⟩)
      have HF : Hid (∃ L', RoI T L' m ij j ∧ L'.length = N ∧ QY W2 g L' R ∧ w.grownBy W2 (some g)) := Lib.hid ⟨L2, by
        have e := HA.out
        rw [← e.2.2.2.2.2.2]
        exact HR.out.1.gt e.1 (by rw [e.2.2.2.2.2.1]; exact h1), h1.1.trans HR.out.2.1, h2, HR.out.2.2.trans h3⟩
      clear h1 h2 h3 HC
      go_wp2_with fail
      go_roundw
      case rel => exact ⟨ij, j, by have := HA.out; omega, by have := HA.out; omega, by have := HA.out; omega, by have := HA.out; omega, by first | done | rfl | go_num, rfl, HF⟩
      case measure => have := HA.out; simp [intOf]; omega
end Go.Proofs.Ytegbhjmghkbgmaa
