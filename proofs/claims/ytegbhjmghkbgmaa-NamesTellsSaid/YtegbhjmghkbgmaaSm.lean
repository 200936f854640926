/- slices.stable: its walk. -/
import Derived.Test.YtegbhjmghkbgmaaSk
import Derived.Test.YtegbhjmghkbgmaaSl
namespace Go.Proofs.Ytegbhjmghkbgmaa
open Go.RowKit Go.Shelf
set_option linter.unusedVariables false
set_option linter.unusedSimpArgs false
attribute [local go_sem] Oper.semAt_some
set_option maxRecDepth 100000 in
set_option maxHeartbeats 8000000 in
theorem stable_any (g cap : Nat) (L : List Sy) (R : List Value) (hN : L.length ≤ 100000) (w : World) (h : QY w g L R) :
    Calls Try.prog 39 #[.slice (some ⟨g, 0, none⟩) L.length cap, .int .i64 (L.length : Nat), .func (.func 31) #[] #[]] w fun e W' => e = .returned (.tuple #[]) ∧ ∃ L', (Up L' ∧ SameK L L') ∧ QY W' g L' R ∧ w.grownBy W' (some g) := by
  obtain ⟨n, hn⟩ : ∃ n, L.length = n := ⟨_, rfl⟩
  have HS0 := Lib.hid (show ∃ Lc, P1 L Lc 20 n 0 ∧ QY w g Lc R ∧ w.grownBy w (some g) from ⟨L, P1.start hn, h, rfl, rfl, rfl, Nat.le_refl _, fun _ _ _ => rfl⟩)
  have HIN := Lib.hid (fun (a b : Nat) (Lc : List Sy) (W : World) (hl : Lc.length = n) (hab : a ≤ b) (hb : b ≤ n) (hq : QY W g Lc R) => (show Calls Try.prog 43 #[.slice (some ⟨g, 0, none⟩) n cap, .int .i64 (a : Nat), .int .i64 (b : Nat), .func (.func 31) #[] #[]] W fun e W' => e = .returned (.tuple #[]) ∧ ∃ L', Srt Lc L' a b ∧ QY W' g L' R ∧ W.grownBy W' (some g) from by
    have h5 := insert_any g cap a b Lc R hab (by omega) (by omega) W hq
    rw [hl] at h5
    exact h5))
  have HME := Lib.hid (fun (a m b : Nat) (Lc : List Sy) (W : World) (hl : Lc.length = n) (ham : a < m) (hmb : m < b) (hb : b ≤ n) (u1 : Up (cut Lc a m)) (u2 : Up (cut Lc m b)) (hq : QY W g Lc R) => (show Calls Try.prog 44 #[.slice (some ⟨g, 0, none⟩) n cap, .int .i64 (a : Nat), .int .i64 (m : Nat), .int .i64 (b : Nat), .func (.func 31) #[] #[]] W fun e W' => e = .returned (.tuple #[]) ∧ ∃ L', Srt Lc L' a b ∧ QY W' g L' R ∧ W.grownBy W' (some g) from by
    have h5 := merge_any g cap R (b - a) a m b Lc W (Nat.le_refl _) ham hmb (by omega) (by omega) u1 u2 hq
    rw [hl] at h5
    exact h5))
  rw [hn] at hN ⊢
  clear hn h
  go_enter Try.func39, Try.ntmps39
  go_wp2_with fail
  go_loopw [7, 8] (fun u v wr => ∃ a b : Nat, u = .int .i64 a ∧ v = .int .i64 b ∧ a + 20 = b ∧ a ≤ n ∧ Hid (∃ Lc, P1 L Lc 20 n a ∧ QY wr g Lc R ∧ w.grownBy wr (some g))) (fun u _ _ => n + 21 - (intOf u).toNat)
  case atStart => exact ⟨0, 20, rfl, rfl, rfl, Nat.zero_le _, HS0⟩
  case round =>
    clear HS0
    obtain ⟨a, b, rfl, rfl, hab, han, HS⟩ := hrel
    obtain ⟨Lc, hp, hq, hg⟩ := HS.out
    clear HS
    by_cases hbn : b ≤ n
    · have hbn' : (b : Int) ≤ (n : Int) := by omega
      obtain ⟨b2, hb2⟩ : ∃ b2, b + 20 = b2 := ⟨_, rfl⟩
      have e1 : (b : Int) + 20 = (b2 : Int) := by omega
      have u1 : IntKind.i64.wrap (b2 : Int) = (b2 : Int) := IntWalk.i64_in _ (by omega)
      have HC := Lib.hid (HIN.out a b Lc wr hp.len (by omega) hbn hq)
      have HP := Lib.hid (And.intro hp hg)
      have HA := Lib.hid (And.intro hab (And.intro hb2 (And.intro hbn han)))
      clear hp hq hg hab hb2 han
      go_wp2_with (first | (go_at_call 43; refine HC.out.mono ?_) | fail)
      first | (rintro e W2 rfl L2 q1 q2 q3) | (rintro e W2 rfl ⟨L2, q1, q2, q3⟩) | (rintro e W2 ⟨rfl, L2, q1, q2, q3⟩)
      have HN := Lib.hid (show ∃ Lc, P1 L Lc 20 n b ∧ QY W2 g Lc R ∧ w.grownBy W2 (some g) from ⟨L2, by
        have e := HA.out.1
        subst e
        exact HP.out.1.step (by decide) HA.out.2.2.1 q1, q2, HP.out.2.trans q3⟩)
      clear q1 q2 q3 HC HP
      go_wp2_with fail
      go_roundw
      case rel => exact ⟨b, b2, rfl, by first | done | rfl | go_num, HA.out.2.1, hbn, HN⟩
      case measure => have := HA.out; simp [intOf]; omega
    · have hbn' : ¬ (b : Int) ≤ (n : Int) := by omega
      have HC := Lib.hid (HIN.out a n Lc wr hp.len han (Nat.le_refl _) hq)
      have HP := Lib.hid (And.intro hp hg)
      have HA := Lib.hid (And.intro hab (And.intro hbn han))
      clear hp hq hg hab han
      go_wp2_with (first | (go_at_call 43; refine HC.out.mono ?_) | fail)
      first | (rintro e W2 rfl L2 q1 q2 q3) | (rintro e W2 rfl ⟨L2, q1, q2, q3⟩) | (rintro e W2 ⟨rfl, L2, q1, q2, q3⟩)
      have HN := Lib.hid (show ∃ Lb, All L Lb 20 n ∧ QY W2 g Lb R ∧ w.grownBy W2 (some g) from ⟨L2, HP.out.1.last (by decide) (by have := HA.out; omega) q1, q2, HP.out.2.trans q3⟩)
      clear q1 q2 q3 HC HP HA hbn hbn'
      go_wp2_with fail
      go_loopw [6] (fun u wr => ∃ d : Nat, u = .int .i64 d ∧ 20 ≤ d ∧ d < 200001 ∧ Hid (∃ Lb, All L Lb d n ∧ QY wr g Lb R ∧ w.grownBy wr (some g))) (fun u _ => n + 1 - (intOf u).toNat)
      case atStart => exact ⟨20, rfl, Nat.le_refl _, by decide, HN⟩
      case round =>
        clear HN
        obtain ⟨d, rfl, hd, hd2, HS⟩ := hrel
        obtain ⟨Lb, hall, hqb, hgb⟩ := HS.out
        by_cases hdn : d < n
        rotate_left
        · have hdn' : ¬ (d : Int) < (n : Int) := by omega
          have HF := Lib.hid (And.intro (hall.whole (Nat.not_lt.1 hdn)) (And.intro hqb hgb))
          clear HS hall hqb hgb
          go_wp2_with fail
          go_end0
          exact ⟨rfl, Lb, HF.out⟩
        · have hdn' : (d : Int) < (n : Int) := by omega
          obtain ⟨dd, hdd⟩ : ∃ dd, 2 * d = dd := ⟨_, rfl⟩
          have e0 : 2 * (d : Int) = (dd : Int) := by omega
          have e0' : (d : Int) * 2 = (dd : Int) := by omega
          have u0 : IntKind.i64.wrap (dd : Int) = (dd : Int) := IntWalk.i64_in _ (by omega)
          have hddb : dd < 500000 := by omega
          have HJ0 := Lib.hid (show ∃ Lc, P2 L Lb Lc d n 0 ∧ QY wr g Lc R ∧ w.grownBy wr (some g) from ⟨Lb, P2.start hall, hqb, hgb⟩)
          have HD := Lib.hid (And.intro hd (And.intro hd2 (And.intro hdn hdd)))
          clear HS hall hqb hgb
          go_wp2_with fail
          go_loopw [7, 8] (fun u v wr2 => ∃ a b : Nat, u = .int .i64 a ∧ v = .int .i64 b ∧ a + dd = b ∧ a ≤ n ∧ Hid (∃ Lc, P2 L Lb Lc d n a ∧ QY wr2 g Lc R ∧ w.grownBy wr2 (some g))) (fun u _ _ => n + 1 - (intOf u).toNat)
          case atStart => exact ⟨0, dd, rfl, by first | done | rfl | go_num, by omega, Nat.zero_le _, HJ0⟩
          case round =>
            clear HJ0
            obtain ⟨a, b, rfl, rfl, hab, han, HS⟩ := hrel
            obtain ⟨Lc, hp, hq, hg⟩ := HS.out
            clear HS
            obtain ⟨m, hm⟩ : ∃ m, a + d = m := ⟨_, rfl⟩
            have em : (a : Int) + (d : Int) = (m : Int) := by omega
            have um : IntKind.i64.wrap (m : Int) = (m : Int) := IntWalk.i64_in _ (by omega)
            have bm : m < 1000000 := by omega
            by_cases hbn : b ≤ n
            · have hbn' : (b : Int) ≤ (n : Int) := by omega
              obtain ⟨b2, hb2⟩ : ∃ b2, b + dd = b2 := ⟨_, rfl⟩
              have e1 : (b : Int) + (dd : Int) = (b2 : Int) := by omega
              have u1 : IntKind.i64.wrap (b2 : Int) = (b2 : Int) := IntWalk.i64_in _ (by omega)
              have bb2 : b2 < 1000000 := by omega
              have h2 := hp.two (by omega)
              have hmin : min (a + 2 * d) n = b := by omega
              rw [hmin, hm] at h2
              have HC := Lib.hid (HME.out a m b Lc wr hp.len (by omega) (by omega) hbn h2.1 h2.2.1 hq)
              have HP := Lib.hid (And.intro hp hg)
              have HA := Lib.hid (And.intro hab (And.intro hb2 (And.intro hmin (And.intro hm han))))
              clear hp hq hg hab hb2 han h2 hmin hm
              go_wp2_with (first | (go_at_call 44; refine HC.out.mono ?_) | fail)
              first | (rintro e W2 rfl L2 q1 q2 q3) | (rintro e W2 rfl ⟨L2, q1, q2, q3⟩) | (rintro e W2 ⟨rfl, L2, q1, q2, q3⟩)
              have HN := Lib.hid (show ∃ Lc, P2 L Lb Lc d n b ∧ QY W2 g Lc R ∧ w.grownBy W2 (some g) from ⟨L2, by
                have e := HA.out
                have f := HD.out
                have h9 := HP.out.1.step (by omega) (by omega) e.2.2.1 q1
                rw [show a + 2 * d = b by omega] at h9
                exact h9, q2, HP.out.2.trans q3⟩)
              clear q1 q2 q3 HC HP
              go_wp2_with fail
              go_roundw
              case rel => exact ⟨b, b2, rfl, by first | done | rfl | go_num, HA.out.2.1, hbn, HN⟩
              case measure => have := HA.out; have := HD.out; simp [intOf]; omega
            · have hbn' : ¬ (b : Int) ≤ (n : Int) := by omega
              by_cases hmn : m < n
              · have hmn' : (m : Int) < (n : Int) := by omega
                have h2 := hp.two (by omega)
                have hmin : min (a + 2 * d) n = n := by omega
                rw [hmin, hm] at h2
                have HC := Lib.hid (HME.out a m n Lc wr hp.len (by omega) hmn (Nat.le_refl _) h2.1 h2.2.1 hq)
                have HP := Lib.hid (And.intro hp hg)
                have HA := Lib.hid (And.intro hab (And.intro hbn (And.intro hmin (And.intro hm han))))
                clear hp hq hg hab han h2 hmin hm
                go_wp2_with (first | (go_at_call 44; refine HC.out.mono ?_) | fail)
                first | (rintro e W2 rfl L2 q1 q2 q3) | (rintro e W2 rfl ⟨L2, q1, q2, q3⟩) | (rintro e W2 ⟨rfl, L2, q1, q2, q3⟩)
                have HN := Lib.hid (show ∃ Lb, All L Lb dd n ∧ QY W2 g Lb R ∧ w.grownBy W2 (some g) from ⟨L2, by
                  have e := HA.out
                  have f := HD.out
                  have h9 := (HP.out.1.step (by omega) (by omega) e.2.2.1 q1).done (by omega) (by omega)
                  rw [f.2.2.2] at h9
                  exact h9, q2, HP.out.2.trans q3⟩)
                clear q1 q2 q3 HC HP
                go_wp2_with fail
                go_roundw
                case rel => exact ⟨dd, by first | done | rfl | go_num, by have := HD.out; omega, by have := HD.out; omega, HN⟩
                case measure => have := HD.out; simp [intOf]; omega
              · have hmn' : ¬ (m : Int) < (n : Int) := by omega
                have HN := Lib.hid (show ∃ Lb, All L Lb dd n ∧ QY wr g Lb R ∧ w.grownBy wr (some g) from ⟨Lc, by
                  have f := HD.out
                  have h9 := hp.done (by omega) (by omega)
                  rw [f.2.2.2] at h9
                  exact h9, hq, hg⟩)
                clear hp hq hg
                go_wp2_with fail
                go_roundw
                case rel => exact ⟨dd, by first | done | rfl | go_num, by have := HD.out; omega, by have := HD.out; omega, HN⟩
                case measure => have := HD.out; simp [intOf]; omega
end Go.Proofs.Ytegbhjmghkbgmaa
