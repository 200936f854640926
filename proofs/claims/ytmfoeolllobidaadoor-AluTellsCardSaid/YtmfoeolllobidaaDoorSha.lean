/- alu.Shift, of all deeds at once. -/
import Derived.Test.YtmfoeolllobidaaDoorShz
import Derived.Test.YtmfoeolllobidaaDoorSh5
namespace Go.Proofs.YtmfoeolllobidaaDoor
open Go.RowKit Go.Shelf
set_option linter.unusedSimpArgs false
set_option linter.unusedVariables false
/-- One bit, by the deed 16 + d. -/
def stp (d : Nat) (wd : Int) (r : Nat) : Nat × Bool :=
  match d with
  | 0 => (shlN r wd, sB r wd)
  | 1 => (shrN r, lB r)
  | 2 => (sarN r wd, lB r)
  | 3 => (turnN r (tN 1 wd) wd, sB r wd)
  | _ => (turnN r (tN (-1) wd) wd, lB r)
def shR (d a k : Nat) (wd : Int) : Nat := (it (stp d wd) a k).1
def flC (d a : Nat) (wd : Int) (R : Nat × Bool) : Bool := match d with | 0 => R.2 | 1 => R.2 | 2 => R.2 | 3 => lB R.1 | _ => sB R.1 wd
def flO (d a : Nat) (wd : Int) (R : Nat × Bool) : Bool := match d with | 0 => sB R.1 wd != R.2 | 1 => sB a wd | 2 => false | 3 => sB R.1 wd != lB R.1 | _ => sB R.1 wd != sB (shlN R.1 wd) wd
def flT (d : Nat) (x y : Bool) : Bool := match d with | 0 => x | 1 => x | 2 => x | _ => y
def fC (d a k : Nat) (wd : Int) (c : Bool) : Bool := if k = 0 then c else flC d a wd (it (stp d wd) a k)
def fZ (d a k : Nat) (wd : Int) (z : Bool) : Bool := if k = 0 then z else flT d (zB (it (stp d wd) a k).1 wd) z
def fS (d a k : Nat) (wd : Int) (s : Bool) : Bool := if k = 0 then s else flT d (sB (it (stp d wd) a k).1 wd) s
def fO (d a k : Nat) (wd : Int) (o : Bool) : Bool := if k = 0 then o else flO d a wd (it (stp d wd) a k)
def fP (d a k : Nat) (wd : Int) (p : Bool) : Bool := if k = 0 then p else flT d (pB (it (stp d wd) a k).1) p
theorem shift_any4 (d : Nat) (hd : d < 5) (wd : Int) (x : Nat) (hx : U x) (m k : Nat) (hm8 : m < 256) (hk : k = m % 32) (c z s o p : Bool) (h8 : (hI wd == 8) = false) (w : World) (hm : Mk w) :
    Calls Tryd.prog 20 #[.int .u8 ((16 + d : Nat) : Int), .int .i64 wd, .int .u64 x, .int .u8 (m : Int), fl c z s o p] w fun e w' => e = .returned (.tuple #[.int .u64 (shR d (cN x wd) k wd : Nat), fl (fC d (cN x wd) k wd c) (fZ d (cN x wd) k wd z) (fS d (cN x wd) k wd s) (fO d (cN x wd) k wd o) (fP d (cN x wd) k wd p)]) ∧ Below w.heap.size w w' := by
  rcases Nat.eq_zero_or_pos k with h0 | hp
  · subst h0
    have e : ∀ d, shR d (cN x wd) 0 wd = cN x wd := fun _ => rfl
    rw [e]
    simp only [fC, fZ, fS, fO, fP, if_true]
    obtain rfl | rfl | rfl | rfl | rfl : d = 0 ∨ d = 1 ∨ d = 2 ∨ d = 3 ∨ d = 4 := by omega
    · exact shift_z4 16 62 63 false wd x _ hx rfl m (by omega) c z s o p h8 (fun W => (shiftsAt_16 _ _ _).mono fun e w' ⟨b, h1, h2, h3⟩ => ⟨b, _, _, h1, h2, h3.bb⟩) w hm
    · exact shift_z4 17 64 65 false wd x _ hx rfl m (by omega) c z s o p h8 (fun W => (shiftsAt_17 _ _ _).mono fun e w' ⟨b, h1, h2, h3⟩ => ⟨b, _, _, h1, h2, h3.bb⟩) w hm
    · exact shift_z4 18 66 67 false wd x _ hx rfl m (by omega) c z s o p h8 (fun W => (shiftsAt_18 _ _ _).mono fun e w' ⟨b, h1, h2, h3⟩ => ⟨b, _, _, h1, h2, h3.bb⟩) w hm
    · exact shift_z4 19 68 70 true wd x _ hx rfl m (by omega) c z s o p h8 (fun W => (shiftsAt_19 _ _ _).mono fun e w' ⟨b, h1, h2, h3⟩ => ⟨b, _, _, h1, h2, h3.bb⟩) w hm
    · exact shift_z4 20 71 72 true wd x _ hx rfl m (by omega) c z s o p h8 (fun W => (shiftsAt_20 _ _ _).mono fun e w' ⟨b, h1, h2, h3⟩ => ⟨b, _, _, h1, h2, h3.bb⟩) w hm
  · have hk0 : k ≠ 0 := by omega
    simp only [fC, fZ, fS, fO, fP, if_neg hk0]
    obtain rfl | rfl | rfl | rfl | rfl : d = 0 ∨ d = 1 ∨ d = 2 ∨ d = 3 ∨ d = 4 := by omega
    · exact shift_shl4 wd x hx m k hm8 hk hp c z s o p h8 w hm
    · exact shift_shr4 wd x hx m k hm8 hk hp c z s o p h8 w hm
    · exact shift_sar4 wd x hx m k hm8 hk hp c z s o p h8 w hm
    · exact shift_rol4 wd x hx m k hm8 hk hp c z s o p h8 w hm
    · exact shift_ror4 wd x hx m k hm8 hk hp c z s o p h8 w hm
theorem shift_any8 (d : Nat) (hd : d < 5) (wd : Int) (x : Nat) (hx : U x) (m k : Nat) (hm8 : m < 256) (hk : k = m % 64) (c z s o p : Bool) (h8 : (hI wd == 8) = true) (w : World) (hm : Mk w) :
    Calls Tryd.prog 20 #[.int .u8 ((16 + d : Nat) : Int), .int .i64 wd, .int .u64 x, .int .u8 (m : Int), fl c z s o p] w fun e w' => e = .returned (.tuple #[.int .u64 (shR d (cN x wd) k wd : Nat), fl (fC d (cN x wd) k wd c) (fZ d (cN x wd) k wd z) (fS d (cN x wd) k wd s) (fO d (cN x wd) k wd o) (fP d (cN x wd) k wd p)]) ∧ Below w.heap.size w w' := by
  rcases Nat.eq_zero_or_pos k with h0 | hp
  · subst h0
    have e : ∀ d, shR d (cN x wd) 0 wd = cN x wd := fun _ => rfl
    rw [e]
    simp only [fC, fZ, fS, fO, fP, if_true]
    obtain rfl | rfl | rfl | rfl | rfl : d = 0 ∨ d = 1 ∨ d = 2 ∨ d = 3 ∨ d = 4 := by omega
    · exact shift_z8 16 62 63 false wd x _ hx rfl m (by omega) c z s o p h8 (fun W => (shiftsAt_16 _ _ _).mono fun e w' ⟨b, h1, h2, h3⟩ => ⟨b, _, _, h1, h2, h3.bb⟩) w hm
    · exact shift_z8 17 64 65 false wd x _ hx rfl m (by omega) c z s o p h8 (fun W => (shiftsAt_17 _ _ _).mono fun e w' ⟨b, h1, h2, h3⟩ => ⟨b, _, _, h1, h2, h3.bb⟩) w hm
    · exact shift_z8 18 66 67 false wd x _ hx rfl m (by omega) c z s o p h8 (fun W => (shiftsAt_18 _ _ _).mono fun e w' ⟨b, h1, h2, h3⟩ => ⟨b, _, _, h1, h2, h3.bb⟩) w hm
    · exact shift_z8 19 68 70 true wd x _ hx rfl m (by omega) c z s o p h8 (fun W => (shiftsAt_19 _ _ _).mono fun e w' ⟨b, h1, h2, h3⟩ => ⟨b, _, _, h1, h2, h3.bb⟩) w hm
    · exact shift_z8 20 71 72 true wd x _ hx rfl m (by omega) c z s o p h8 (fun W => (shiftsAt_20 _ _ _).mono fun e w' ⟨b, h1, h2, h3⟩ => ⟨b, _, _, h1, h2, h3.bb⟩) w hm
  · have hk0 : k ≠ 0 := by omega
    simp only [fC, fZ, fS, fO, fP, if_neg hk0]
    obtain rfl | rfl | rfl | rfl | rfl : d = 0 ∨ d = 1 ∨ d = 2 ∨ d = 3 ∨ d = 4 := by omega
    · exact shift_shl8 wd x hx m k hm8 hk hp c z s o p h8 w hm
    · exact shift_shr8 wd x hx m k hm8 hk hp c z s o p h8 w hm
    · exact shift_sar8 wd x hx m k hm8 hk hp c z s o p h8 w hm
    · exact shift_rol8 wd x hx m k hm8 hk hp c z s o p h8 w hm
    · exact shift_ror8 wd x hx m k hm8 hk hp c z s o p h8 w hm
end Go.Proofs.YtmfoeolllobidaaDoor
