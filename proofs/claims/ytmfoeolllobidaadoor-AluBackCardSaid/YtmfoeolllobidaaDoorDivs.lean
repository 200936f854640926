/- The contract of math/bits.Div64: its walk. -/
import Derived.Test.YtmfoeolllobidaaDoorDiv
import Derived.BigQuiet
namespace Go.Proofs.YtmfoeolllobidaaDoor
open Go.RowKit
set_option maxRecDepth 100000 in
set_option maxHeartbeats 8000000 in
theorem div_core (hi lo y s : Nat) (Y Y1 Y0 V T T1 T0 Q R QY D1 XA XB XC U1 Q2 R2 QY2 D0 ZA ZB ZC ZD ZE quo rem : Nat) (hs : s ≤ 63) (hz : ∀ w, Calls Tryd.prog 74 #[.int .u64 y] w fun e w' => e = .returned (.int .i64 (s : Nat)) ∧ w = w') (c1 : ((y : Int) == 0) = false) (c2 : ¬ ((y : Int) ≤ (hi : Int))) (c3 : ((hi : Int) == 0) = false) (c4 : ¬ ((Y1 : Int) = 0))
    (e1 : IntKind.u64.wrap ((y : Int) * 2 ^ s) = Y) (e2 : (Y : Int) / 4294967296 = Y1) (e3 : bits BinOp.and IntKind.u64 (Y : Int) 4294967295 = Y0) (e4 : bits BinOp.or IntKind.u64 (IntKind.u64.wrap ((hi : Int) * 2 ^ s)) ((lo : Int) / 2 ^ (64 - s)) = V)
    (e5 : IntKind.u64.wrap ((lo : Int) * 2 ^ s) = T) (e6 : (T : Int) / 4294967296 = T1) (e7 : bits BinOp.and IntKind.u64 (T : Int) 4294967295 = T0) (e8 : IntKind.u64.wrap ((V : Int) / Y1) = Q) (e9 : IntKind.u64.wrap ((Q : Int) * Y1) = QY) (eR : IntKind.u64.wrap ((V : Int) - QY) = R)
    (x1 : IntKind.u64.wrap ((V : Int) * 4294967296) = XA) (x2 : IntKind.u64.wrap ((XA : Int) + T1) = XB) (x3 : IntKind.u64.wrap ((D1 : Int) * Y) = XC) (x4 : IntKind.u64.wrap ((XB : Int) - XC) = U1) (x5 : IntKind.u64.wrap ((U1 : Int) / Y1) = Q2) (x6 : IntKind.u64.wrap ((Q2 : Int) * Y1) = QY2) (x7 : IntKind.u64.wrap ((U1 : Int) - QY2) = R2)
    (z1 : IntKind.u64.wrap ((D1 : Int) * 4294967296) = ZA) (z2 : IntKind.u64.wrap ((ZA : Int) + D0) = quo) (z3 : IntKind.u64.wrap ((U1 : Int) * 4294967296) = ZB) (z4 : IntKind.u64.wrap ((ZB : Int) + T0) = ZC) (z5 : IntKind.u64.wrap ((D0 : Int) * Y) = ZD) (z6 : IntKind.u64.wrap ((ZC : Int) - ZD) = ZE) (z7 : (ZE : Int) / 2 ^ s = rem)
    (P1 P2 : Nat → Nat → Prop) (g1 : P1 Q R) (g2 : P2 Q2 R2)
    (s1 : ∀ n m, P1 n m → ∃ n' m' p u v : Nat, IntKind.u64.wrap ((n : Int) - 1) = (n' : Int) ∧ IntKind.u64.wrap ((m : Int) + (Y1 : Int)) = (m' : Int) ∧ IntKind.u64.wrap ((n : Int) * (Y0 : Int)) = (p : Int) ∧ IntKind.u64.wrap (4294967296 * (m : Int)) = (u : Int) ∧ IntKind.u64.wrap ((u : Int) + (T1 : Int)) = (v : Int) ∧
      ((decide ((4294967296 : Int) ≤ (n : Int)) = true ∧ decide ((4294967296 : Int) ≤ (m' : Int)) = true ∧ n' = D1) ∨
       (decide ((4294967296 : Int) ≤ (n : Int)) = true ∧ decide ((4294967296 : Int) ≤ (m' : Int)) = false ∧ n' < n ∧ P1 n' m') ∨
       (decide ((4294967296 : Int) ≤ (n : Int)) = false ∧ v < p ∧ decide ((4294967296 : Int) ≤ (m' : Int)) = true ∧ n' = D1) ∨
       (decide ((4294967296 : Int) ≤ (n : Int)) = false ∧ v < p ∧ decide ((4294967296 : Int) ≤ (m' : Int)) = false ∧ n' < n ∧ P1 n' m') ∨
       (decide ((4294967296 : Int) ≤ (n : Int)) = false ∧ ¬ v < p ∧ n = D1)))
    (s2 : ∀ n m, P2 n m → ∃ n' m' p u v : Nat, IntKind.u64.wrap ((n : Int) - 1) = (n' : Int) ∧ IntKind.u64.wrap ((m : Int) + (Y1 : Int)) = (m' : Int) ∧ IntKind.u64.wrap ((n : Int) * (Y0 : Int)) = (p : Int) ∧ IntKind.u64.wrap (4294967296 * (m : Int)) = (u : Int) ∧ IntKind.u64.wrap ((u : Int) + (T0 : Int)) = (v : Int) ∧
      ((decide ((4294967296 : Int) ≤ (n : Int)) = true ∧ decide ((4294967296 : Int) ≤ (m' : Int)) = true ∧ n' = D0) ∨
       (decide ((4294967296 : Int) ≤ (n : Int)) = true ∧ decide ((4294967296 : Int) ≤ (m' : Int)) = false ∧ n' < n ∧ P2 n' m') ∨
       (decide ((4294967296 : Int) ≤ (n : Int)) = false ∧ v < p ∧ decide ((4294967296 : Int) ≤ (m' : Int)) = true ∧ n' = D0) ∨
       (decide ((4294967296 : Int) ≤ (n : Int)) = false ∧ v < p ∧ decide ((4294967296 : Int) ≤ (m' : Int)) = false ∧ n' < n ∧ P2 n' m') ∨
       (decide ((4294967296 : Int) ≤ (n : Int)) = false ∧ ¬ v < p ∧ n = D0)))
    (w : World) :
    Calls Tryd.prog 48 #[.int .u64 hi, .int .u64 lo, .int .u64 y] w fun e w' => e = .returned (.tuple #[.int .u64 quo, .int .u64 rem]) ∧ w = w' := by
  have H := Lib.hid hz
  have S1 := Lib.hid s1
  have S2 := Lib.hid s2
  have G2 := Lib.hid g2
  have X := Lib.hid (And.intro x1 (And.intro x2 (And.intro x3 (And.intro x4 (And.intro x5 (And.intro x6 x7))))))
  have Z := Lib.hid (And.intro z1 (And.intro z2 (And.intro z3 (And.intro z4 (And.intro z5 (And.intro z6 z7))))))
  clear hz s1 s2 g2 x1 x2 x3 x4 x5 x6 x7 z1 z2 z3 z4 z5 z6 z7
  go_enter Tryd.func48, Tryd.ntmps48
  go_wp2_with (go_at_call 74; refine (H.out _).mono ?_; rintro e w' ⟨rfl, rfl⟩)
  clear e1 e2 e3 e4 e5 e6 e7 e8 e9 eR c1 c2 c3
  go_loop [15, 16] (fun q r => ∃ n m : Nat, q = .int .u64 (n : Nat) ∧ r = .int .u64 (m : Nat) ∧ P1 n m) (fun q _ => (intOf q).toNat)
  case atStart => exact ⟨Q, R, rfl, rfl, g1⟩
  case round =>
    obtain ⟨n, m, rfl, rfl, hG⟩ := hrel
    obtain ⟨n', m', p, u, v, q1, q2, q3, q4, q5, hw⟩ := S1.out n m hG
    rcases hw with ⟨a, b, rfl⟩ | ⟨a, b, hd, hG'⟩ | ⟨a, b, c, rfl⟩ | ⟨a, b, c, hd, hG'⟩ | ⟨a, b, rfl⟩
    case inr.inl =>
      go_wp2_with fail
      go_round
      case rel => exact ⟨n', m', rfl, rfl, hG'⟩
      case measure => simp [intOf]; omega
    case inr.inr.inr.inl =>
      go_wp2_with fail
      go_round
      case rel => exact ⟨n', m', rfl, rfl, hG'⟩
      case measure => simp [intOf]; omega
    all_goals
      obtain ⟨x1, x2, x3, x4, x5, x6, x7⟩ := X.out
      go_wp2_with fail
      clear q1 q2 q3 q4 q5 x1 x2 x3 x4 x5 x6 x7
      go_loop [16, 18] (fun r q => ∃ n m : Nat, q = .int .u64 (n : Nat) ∧ r = .int .u64 (m : Nat) ∧ P2 n m) (fun _ q => (intOf q).toNat)
      case atStart => exact ⟨Q2, R2, rfl, rfl, G2.out⟩
      case round =>
        obtain ⟨k, j, rfl, rfl, hG2⟩ := hrel
        obtain ⟨k', j', p2, u2, v2, r1, r2, r3, r4, r5, hw2⟩ := S2.out k j hG2
        rcases hw2 with ⟨aa, bb, rfl⟩ | ⟨aa, bb, hd2, hG2'⟩ | ⟨aa, bb, cc, rfl⟩ | ⟨aa, bb, cc, hd2, hG2'⟩ | ⟨aa, bb, rfl⟩
        case inr.inl =>
          go_wp2_with fail
          go_round
          case rel => exact ⟨k', j', rfl, rfl, hG2'⟩
          case measure => simp [intOf]; omega
        case inr.inr.inr.inl =>
          go_wp2_with fail
          go_round
          case rel => exact ⟨k', j', rfl, rfl, hG2'⟩
          case measure => simp [intOf]; omega
        all_goals
          obtain ⟨z1, z2, z3, z4, z5, z6, z7⟩ := Z.out
          go_wp2_with fail
          go_ret2
          exact ⟨rfl, rfl⟩
end Go.Proofs.YtmfoeolllobidaaDoor
