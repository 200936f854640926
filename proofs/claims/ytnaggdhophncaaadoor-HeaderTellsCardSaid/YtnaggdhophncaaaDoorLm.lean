/- What is read of an object that was laid; the law's same and great. -/
import Derived.Laws.BytesArg
import Derived.Test.YtnaggdhophncaaaDoorLd
namespace Go.Proofs.YtnaggdhophncaaaDoor
open Go.RowKit Go.Shelf
set_option linter.unusedVariables false
set_option linter.unusedSimpArgs false
attribute [local go_sem] Oper.semAt_some
theorem hd_nums {y : Nat → Nat} {en so sc n m : Nat} (hy : ∀ j, j < 64 → y j = headF en so sc n m j) (h1 : U en) (h2 : U so) (h3 : U sc) (h4 : n < 65536) (h5 : m < 65536) :
    numZ y 24 8 = en ∧ numZ y 32 8 = so ∧ numZ y 40 8 = sc ∧ numZ y 56 2 = n ∧ numZ y 60 2 = m := by
  have hc : ∀ o s, o + s ≤ 64 → numZ y o s = numZ (headF en so sc n m) o s := fun o s ho => numZ_congr fun j _ hj => hy j (by omega)
  unfold U at h1 h2 h3
  exact ⟨(hc 24 8 (by decide)).trans ((head_en ..).trans (Nat.mod_eq_of_lt (by omega))), (hc 32 8 (by decide)).trans ((head_so ..).trans (Nat.mod_eq_of_lt (by omega))), (hc 40 8 (by decide)).trans ((head_sc ..).trans (Nat.mod_eq_of_lt (by omega))),
    (hc 56 2 (by decide)).trans ((head_ns ..).trans (Nat.mod_eq_of_lt (by omega))), (hc 60 2 (by decide)).trans ((head_nc ..).trans (Nat.mod_eq_of_lt (by omega)))⟩
theorem hd_kinds {y : Nat → Nat} {en so sc n m : Nat} (hy : ∀ j, j < 64 → y j = headF en so sc n m j) (h4 : n < 65536) (h5 : m < 65536) : kindsB y = (decide (n ≤ 16) && decide (m ≤ 32)) := by
  rw [like_kinds hy, head_kinds, Nat.mod_eq_of_lt (by omega), Nat.mod_eq_of_lt (by omega)]
theorem readE_short {y : Nat → Nat} {len : Nat} (h : len < 64) : readE y len = 30 := by
  unfold readE
  rw [if_neg (by omega), if_pos h]
theorem readE_kind {y : Nat → Nat} {len : Nat} (h1 : len ≤ 131072) (h2 : 64 ≤ len) (h3 : magZ y = true) (h4 : kindsB y = false) : readE y len = 32 := by
  unfold readE
  rw [if_neg (by omega), if_neg (by omega), h3, h4]
  rfl
theorem readE_mag {y : Nat → Nat} {len : Nat} (h1 : len ≤ 131072) (h2 : 64 ≤ len) (h3 : magZ y = false) : readE y len = 31 := by
  unfold readE
  rw [if_neg (by omega), if_neg (by omega), h3]
  rfl
theorem readE_place {y : Nat → Nat} {len : Nat} (h1 : len ≤ 131072) (h2 : 64 ≤ len) (h3 : magZ y = true) (h4 : kindsB y = true) (h5 : placeB y len = false) : readE y len = 33 := by
  unfold readE
  rw [if_neg (by omega), if_neg (by omega), h3, h4, h5]
  rfl
theorem place_of {y : Nat → Nat} {n m len : Nat} (e2 : numZ y 32 8 = 64) (e3 : numZ y 40 8 = 64 + 56 * n) (e4 : numZ y 56 2 = n) (e5 : numZ y 60 2 = m) : placeB y len = (withB len 64 n 56 && withB len (64 + 56 * n) m 64) := by
  unfold placeB
  rw [e2, e3, e4, e5]
theorem place_yes {n m len : Nat} (h : 64 + 56 * n + 64 * m ≤ len) : (withB len 64 n 56 && withB len (64 + 56 * n) m 64) = true := by
  unfold withB
  simp
  omega
theorem place_no {n m len : Nat} (h : len < 64 + 56 * n + 64 * m) (h2 : 64 ≤ len) : (withB len 64 n 56 && withB len (64 + 56 * n) m 64) = false := by
  rw [Bool.eq_false_iff]
  intro e
  unfold withB at e
  simp at e
  omega
theorem seg_cells {y : Nat → Nat} {s : Sg} (h : s.ok) (hy : ∀ j, j < 56 → y j = s.f j) : segC y = s.cs := by
  obtain ⟨h0, h1, h2, h3, h4, h5, h6⟩ := h
  exact seg_read s.1 s.2.1 s.2.2.1 s.2.2.2.1 s.2.2.2.2.1 s.2.2.2.2.2.1 s.2.2.2.2.2.2 h0 h1 h2 h3 h4 h5 h6 hy
theorem seg_rows {y : Nat → Nat} {L : List Sg} {o : Nat} (hL : ∀ s ∈ L, s.ok) (hy : ∀ k s, L[k]? = some s → ∀ j, j < 56 → y (o + k * 56 + j) = s.f j) : rowsL segC y o 56 L.length = L.flatMap Sg.cs := by
  have key : ∀ k, k ≤ L.length → rowsL segC y o 56 k = (L.take k).flatMap Sg.cs := by
    intro k
    induction k with
    | zero => intro _; simp [rowsL]
    | succ k ih =>
      intro hk
      have hs : L[k]? = some (L[k]'(by omega)) := List.getElem?_eq_getElem (by omega)
      rw [rowsL_succ, ih (by omega), List.take_add_one, hs, List.flatMap_append, seg_cells (y := shZ y (o + k * 56)) (hL _ (List.getElem_mem _)) (fun j hj => hy k _ hs j hj)]
      simp
  rw [key L.length (Nat.le_refl _), List.take_length]
theorem sec_cells {y : Nat → Nat} {s : Sc} (h : s.ok) (hy : ∀ j, j < 64 → y j = s.f j) : secC y = s.cs := by
  obtain ⟨h0, h1, h2, h3, h4⟩ := h
  exact sec_read s.1 s.2.1 s.2.2.1 s.2.2.2.1 s.2.2.2.2 h0 h1 h2 h3 h4 hy
theorem sec_rows {y : Nat → Nat} {L : List Sc} {o : Nat} (hL : ∀ s ∈ L, s.ok) (hy : ∀ k s, L[k]? = some s → ∀ j, j < 64 → y (o + k * 64 + j) = s.f j) : rowsL secC y o 64 L.length = L.flatMap Sc.cs := by
  have key : ∀ k, k ≤ L.length → rowsL secC y o 64 k = (L.take k).flatMap Sc.cs := by
    intro k
    induction k with
    | zero => intro _; simp [rowsL]
    | succ k ih =>
      intro hk
      have hs : L[k]? = some (L[k]'(by omega)) := List.getElem?_eq_getElem (by omega)
      rw [rowsL_succ, ih (by omega), List.take_add_one, hs, List.flatMap_append, sec_cells (y := shZ y (o + k * 64)) (hL _ (List.getElem_mem _)) (fun j hj => hy k _ hs j hj)]
      simp
  rw [key L.length (Nat.le_refl _), List.take_length]
section
variable {en : Nat} {zs : List Sg} {cs : List Sc} {rz : Nat → Nat}
theorem laid_nums (h1 : U en) (h4 : zs.length < 1000) (h5 : cs.length < 1000) : numZ (laidZ en zs cs rz) 24 8 = en ∧ numZ (laidZ en zs cs rz) 32 8 = 64 ∧ numZ (laidZ en zs cs rz) 40 8 = 64 + 56 * zs.length ∧ numZ (laidZ en zs cs rz) 56 2 = zs.length ∧ numZ (laidZ en zs cs rz) 60 2 = cs.length :=
  hd_nums (fun j hj => laid_head j hj) h1 (by unfold U; omega) (by unfold U; omega) (by omega) (by omega)
theorem laid_srows (hz : ∀ s ∈ zs, s.ok) : rowsL segC (laidZ en zs cs rz) 64 56 zs.length = zs.flatMap Sg.cs :=
  seg_rows hz fun k s hk j hj => by rw [show 64 + k * 56 + j = 64 + 56 * k + j by omega]; exact laid_seg hk hj
theorem laid_crows (hc : ∀ s ∈ cs, s.ok) : rowsL secC (laidZ en zs cs rz) (64 + 56 * zs.length) 64 cs.length = cs.flatMap Sc.cs :=
  sec_rows hc fun k s hk j hj => by rw [show 64 + 56 * zs.length + k * 64 + j = 64 + 56 * zs.length + 64 * k + j by omega]; exact laid_sec hk hj
theorem laid_mag : magZ (laidZ en zs cs rz) = true := (like_mag fun j hj => laid_head j hj).trans (head_mag ..)
theorem laid_kinds (h4 : zs.length < 1000) (h5 : cs.length < 1000) : kindsB (laidZ en zs cs rz) = (decide (zs.length ≤ 16) && decide (cs.length ≤ 32)) := hd_kinds (fun j hj => laid_head j hj) (by omega) (by omega)
end
def stN (n : Nat) (z : Nat → Nat) : ByteArray := ⟨((List.range n).map fun j => UInt8.ofNat (z j)).toArray⟩
theorem st_run (W : World) (b off cap n : Nat) (z : Nat → Nat) (hz : ∀ j, z j < 256) (hc : ∀ j, j < n → W.cell? ⟨b, off + j, none⟩ = some (.int .u8 (z j : Nat))) : (convert 22 9 (.slice (some ⟨b, off, none⟩) n cap)).run Tryd.prog W = .ok (.string (stN n z)) W := by
  have h := run_convert_bytes_back (P := Tryd.prog) W 22 9 5 ⟨b, off, none⟩ cap ((List.range n).map fun j => UInt8.ofNat (z j)) Tryd.underlying22 Tryd.underlying5 Tryd.underlying9 (fun j hj => by
    have hj3 : j < n := by simpa using hj
    rw [Addr.add_lit, hc j hj3]
    have : (UInt8.ofNat (z j)).toNat = z j := by have := hz j; simp; omega
    simp [this])
  simp only [List.length_map, List.length_range] at h
  exact h
set_option maxHeartbeats 1000000 in
theorem same_any (a1 a2 : Option Addr) (cap cap2 n : Nat) (z : Nat → Nat) (hz : ∀ j, z j < 256) (hn : 0 < n) (w : World) (h1 : BS w a1 n z) (h2 : BS w a2 n z) :
    Calls Tryd.prog 13 #[.slice a1 n cap, .slice a2 n cap2] w fun e w' => e = .returned (.bool true) ∧ Below w.heap.size w w' := by
  obtain ⟨b, off, rfl, c1⟩ := h1 hn
  obtain ⟨b2, off2, rfl, c2⟩ := h2 hn
  have e1 := st_run w b off cap n z hz c1
  have e2 := st_run w b2 off2 cap2 n z hz c2
  clear h1 h2 c1 c2
  generalize stN n z = s at *
  go_enter Tryd.func13, Tryd.ntmps13
  go_wp2_with fail
  go_ret
  exact ⟨by simp, Below.refl _ _⟩
set_option maxRecDepth 100000 in
set_option maxHeartbeats 1000000 in
theorem great_any (en so sc n m : Nat) (a1 a2 : Option Addr) (p1 p2 : Nat) (ar : Option Addr) (nr cr : Nat) (w : World) :
    Calls Tryd.prog 8 #[.agg #[.int .u64 (en : Nat), .int .u64 (so : Nat), .int .u64 (sc : Nat), .slice a1 n p1, .slice a2 m p2], .slice ar nr cr] w fun e w' => e = .returned (.bool (decide (40 < n) || (decide (80 < m) || decide (6000 < nr)))) ∧ Below w.heap.size w w' := by
  have HS := Lib.hid (BX.new (w := w) #[.int .u64 (en : Nat), .int .u64 (so : Nat), .int .u64 (sc : Nat), .slice a1 n p1, .slice a2 m p2])
  by_cases h1 : 40 < n
  · have d1 : decide ((40 : Int) < (n : Int)) = true := decide_eq_true (by omega)
    have HE := Lib.hid (show (decide (40 < n) || (decide (80 < m) || decide (6000 < nr))) = true by simp [h1])
    clear h1
    go_enter Tryd.func8, Tryd.ntmps8
    go_upto_region 1 with fail
    generalize World.alloc w _ = W1 at HS ⊢
    have c3 := cell_at (i := 3) (v := .slice a1 n p1) HS.out.1 rfl
    have c4 := cell_at (i := 4) (v := .slice a2 m p2) HS.out.1 rfl
    go_wp2_with fail
    go_ret
    exact ⟨by rw [HE.out]; rfl, HS.out.2⟩
  · have d1 : decide ((40 : Int) < (n : Int)) = false := decide_eq_false (by omega)
    by_cases h2 : 80 < m
    · have d2 : decide ((80 : Int) < (m : Int)) = true := decide_eq_true (by omega)
      have HE := Lib.hid (show (decide (40 < n) || (decide (80 < m) || decide (6000 < nr))) = true by simp [h2])
      clear h1 h2
      go_enter Tryd.func8, Tryd.ntmps8
      go_upto_region 1 with fail
      generalize World.alloc w _ = W1 at HS ⊢
      have c3 := cell_at (i := 3) (v := .slice a1 n p1) HS.out.1 rfl
      have c4 := cell_at (i := 4) (v := .slice a2 m p2) HS.out.1 rfl
      go_wp2_with fail
      go_ret
      exact ⟨by rw [HE.out]; rfl, HS.out.2⟩
    · have d2 : decide ((80 : Int) < (m : Int)) = false := decide_eq_false (by omega)
      by_cases h3 : 6000 < nr
      · have d3 : decide ((6000 : Int) < (nr : Int)) = true := decide_eq_true (by omega)
        have HE := Lib.hid (show (decide (40 < n) || (decide (80 < m) || decide (6000 < nr))) = true by simp [h3])
        clear h1 h2 h3
        go_enter Tryd.func8, Tryd.ntmps8
        go_upto_region 1 with fail
        generalize World.alloc w _ = W1 at HS ⊢
        have c3 := cell_at (i := 3) (v := .slice a1 n p1) HS.out.1 rfl
        have c4 := cell_at (i := 4) (v := .slice a2 m p2) HS.out.1 rfl
        go_wp2_with fail
        go_ret
        exact ⟨by rw [HE.out]; rfl, HS.out.2⟩
      · have d3 : decide ((6000 : Int) < (nr : Int)) = false := decide_eq_false (by omega)
        have HE := Lib.hid (show (decide (40 < n) || (decide (80 < m) || decide (6000 < nr))) = false by simp; omega)
        clear h1 h2 h3
        go_enter Tryd.func8, Tryd.ntmps8
        go_upto_region 1 with fail
        generalize World.alloc w _ = W1 at HS ⊢
        have c3 := cell_at (i := 3) (v := .slice a1 n p1) HS.out.1 rfl
        have c4 := cell_at (i := 4) (v := .slice a2 m p2) HS.out.1 rfl
        go_wp2_with fail
        go_ret
        exact ⟨by rw [HE.out]; rfl, HS.out.2⟩
end Go.Proofs.YtnaggdhophncaaaDoor
