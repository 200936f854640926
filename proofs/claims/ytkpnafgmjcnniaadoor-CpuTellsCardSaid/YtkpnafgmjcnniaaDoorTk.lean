/- operand.Take: what lies where it goes. -/
import Derived.Test.YtkpnafgmjcnniaaDoorTa
import Derived.Test.YtkpnafgmjcnniaaDoorSe
namespace Go.Proofs.YtkpnafgmjcnniaaDoor
open Go.RowKit
set_option linter.unusedVariables false
set_option linter.unusedSimpArgs false
/-- One value in a block of its own. -/
def Bx (W : World) (q : Nat) (T : TypeId) (v : Value) : Prop := W.heap[q]? = some (.cells #[v] T (0, 0))
theorem Bx.lt {W : World} {q : Nat} {T : TypeId} {v : Value} (h : Bx W q T v) : q < W.heap.size := (Array.getElem?_eq_some_iff.1 h).1
theorem Bx.new (w : World) (T : TypeId) (v : Value) : Bx (w.alloc (.cells #[v] T)) w.heap.size T v := World.alloc_heap_new w _
theorem Bx.keep {W W' : World} {q : Nat} {T : TypeId} {v : Value} (h : Bx W q T v) (hb : Below W.heap.size W W') : Bx W' q T v := (hb.block _ h.lt).trans h
theorem Bx.cell {W : World} {q : Nat} {T : TypeId} {v : Value} (h : Bx W q T v) : W.cell? ⟨q, 0, none⟩ = some v := by unfold Bx at h; simp [World.cell?, h]
theorem Bx.froz {W : World} {q : Nat} {T : TypeId} {v : Value} (h : Bx W q T v) : W.frozen? ⟨q, 0, none⟩ = false := by unfold Bx at h; simp [World.frozen?, h]
theorem hset {W : World} {b p i : Nat} {v : Value} (h : b ≠ p) : (W.setCell ⟨p, i, none⟩ v).heap[b]? = W.heap[b]? := Below.heap_setCell W ⟨p, i, none⟩ v b h
theorem cset {W : World} {p i : Nat} {cs : Array Value} {t : TypeId} {v : Value} (h : W.heap[p]? = some (.cells cs t (0, 0))) : (W.setCell ⟨p, i, none⟩ v).heap[p]? = some (.cells (cs.setIfInBounds i v) t (0, 0)) := by
  obtain ⟨hlt, hk⟩ := Array.getElem?_eq_some_iff.1 h
  show (W.heap.modify p _)[p]? = _
  rw [Array.getElem?_eq_getElem (by rw [Array.size_modify]; exact hlt), Array.getElem_modify_self, hk]
  rfl
theorem O8.far {W : World} {q a j : Nat} {u : Value} {k r b i s d : Int} {p : Bool} {m : Int} (h : O8 W q k r b i s d p m) (hn : q ≠ a) : O8 (W.setCell ⟨a, j, none⟩ u) q k r b i s d p m := (hset hn).trans h
theorem Bx.far {W : World} {q a j : Nat} {u : Value} {T : TypeId} {v : Value} (h : Bx W q T v) (hn : q ≠ a) : Bx (W.setCell ⟨a, j, none⟩ u) q T v := (hset hn).trans h
theorem Bx.set {W : World} {q : Nat} {u : Value} {T : TypeId} {v : Value} (h : Bx W q T v) : Bx (W.setCell ⟨q, 0, none⟩ u) q T u := cset h
/-- The slice's bytes. -/
def BS (W : World) (sp : Option Addr) (n : Nat) (z : Nat → Nat) : Prop := 0 < n → ∃ b off, sp = some ⟨b, off, none⟩ ∧ ∀ j, j < n → W.cell? ⟨b, off + j, none⟩ = some (.int .u8 (z j : Nat))
theorem BS.below {sp : Option Addr} {n : Nat} {z : Nat → Nat} {W W' : World} (h : BS W sp n z) (hb : Below W.heap.size W W') : BS W' sp n z := fun hl => by
  obtain ⟨b, off, e, hc⟩ := h hl
  refine ⟨b, off, e, fun j hj => ?_⟩
  have h1 := hc j hj
  have hlt : b < W.heap.size := by
    by_cases hh : b < W.heap.size
    · exact hh
    · exfalso
      have h0 : W.heap[b]? = none := Array.getElem?_eq_none (by omega)
      simp [World.cell?, h0] at h1
  exact (hb.cell (p := ⟨b, off + j, none⟩) hlt).trans h1
/-- What lies there: the result, the slice, how many bytes were taken. -/
def TS (w : World) (sp : Option Addr) (n cap : Nat) (z : Nat → Nat) (k : Nat) (W : World) : Prop :=
  O8 W w.heap.size 0 0 0 0 0 0 false 0 ∧ Bx W (w.heap.size + 1) 24 (.slice sp n cap) ∧ Bx W (w.heap.size + 1 + 1) 3 (.int .i64 (k : Int)) ∧ BS w sp n z ∧ Mk w ∧ Below w.heap.size w W
theorem TS.below {w W W' : World} {sp : Option Addr} {n cap k : Nat} {z : Nat → Nat} (h : TS w sp n cap z k W) (hb : Below W.heap.size W W') : TS w sp n cap z k W' :=
  ⟨h.1.keep hb, h.2.1.keep hb, h.2.2.1.keep hb, h.2.2.2.1, h.2.2.2.2.1, h.2.2.2.2.2.trans (hb.mono h.2.2.2.2.2.size)⟩
theorem TS.drew {w W : World} {sp : Option Addr} {n cap k : Nat} {z : Nat → Nat} (h : TS w sp n cap z k W) : TS w sp n cap z k W.drew := ⟨h.1, h.2.1, h.2.2.1, h.2.2.2.1, h.2.2.2.2.1, h.2.2.2.2.2.drew⟩
theorem TS.start (w : World) (sp : Option Addr) (n cap : Nat) (z : Nat → Nat) (hb : BS w sp n z) (hm : Mk w) : TS w sp n cap z 0 (((w.alloc (ob 0 0 0 0 0 0 false 0)).alloc (.cells #[.slice sp n cap] 24)).alloc (.cells #[.int .i64 0] 3)) := by
  have h1 : Below w.heap.size w (w.alloc (ob 0 0 0 0 0 0 false 0)) := (Below.refl _ _).alloc (Nat.le_refl _) _
  have h2 := h1.alloc (by simp) (.cells #[.slice sp n cap] 24)
  have h3 := h2.alloc (by simp; omega) (.cells #[.int .i64 0] 3)
  have o1 := (O8.new w 0 0 0 0 0 0 false 0).keep ((Below.refl _ (w.alloc (ob 0 0 0 0 0 0 false 0))).alloc (Nat.le_refl _) (.cells #[.slice sp n cap] 24))
  have o2 := o1.keep ((Below.refl _ _).alloc (Nat.le_refl _) (.cells #[.int .i64 0] 3))
  have b1 := (Bx.new (w.alloc (ob 0 0 0 0 0 0 false 0)) 24 (.slice sp n cap)).keep ((Below.refl _ _).alloc (Nat.le_refl _) (.cells #[.int .i64 0] 3))
  have b2 := Bx.new ((w.alloc (ob 0 0 0 0 0 0 false 0)).alloc (.cells #[.slice sp n cap] 24)) 3 (.int .i64 0)
  simp only [World.size_alloc] at b1 b2
  exact ⟨o2, b1, b2, hb, hm, h3⟩
theorem TS.bytes {w W : World} {sp : Option Addr} {n cap k : Nat} {z : Nat → Nat} (h : TS w sp n cap z k W) : BS W sp n z := h.2.2.2.1.below h.2.2.2.2.2
theorem TS.put {w W : World} {sp : Option Addr} {n cap k : Nat} {z : Nat → Nat} (h : TS w sp n cap z k W) (k' : Nat) : TS w sp n cap z k' (W.setCell ⟨w.heap.size + 1 + 1, 0, none⟩ (.int .i64 (k' : Int))) :=
  ⟨h.1.far (by omega), h.2.1.far (by omega), h.2.2.1.set, h.2.2.2.1, h.2.2.2.2.1, h.2.2.2.2.2.setCell (p := ⟨w.heap.size + 1 + 1, 0, none⟩) (by dsimp only; omega) _⟩
def dI (z : Nat → Nat) (k wd : Nat) : Int := wrap64 ((eN (numN (fun j => z (k + j)) wd) wd : Nat) : Int)
theorem tk_no {w W : World} {sp : Option Addr} {n cap k : Nat} {z : Nat → Nat} (h : TS w sp n cap z k W) (wd : Nat) (hl : n ≤ 1000) (hk : k ≤ n) (hw : wd ≤ 8) (hx : n - k < wd) :
    Calls Tryd.prog 67 #[.int .i64 wd, .pointer (some ⟨w.heap.size + 1, 0, none⟩), .pointer (some ⟨w.heap.size + 1 + 1, 0, none⟩)] W fun e w' => e = .returned (.tuple #[.int .i64 0, .bool false]) ∧ W = w' :=
  take_no _ _ sp n cap k wd W hl hk hw hx h.2.1.cell h.2.2.1.cell
theorem tk_ok {w W : World} {sp : Option Addr} {n cap k : Nat} {z : Nat → Nat} (h : TS w sp n cap z k W) (hz : ∀ j, z j < 256) (wd : Nat) (hl : n ≤ 1000) (hcap : n ≤ cap) (hw : wd ≤ 8) (hn : 0 < n) (hx : k + wd ≤ n) :
    Calls Tryd.prog 67 #[.int .i64 wd, .pointer (some ⟨w.heap.size + 1, 0, none⟩), .pointer (some ⟨w.heap.size + 1 + 1, 0, none⟩)] W fun e w' => e = .returned (.tuple #[.int .i64 (dI z k wd), .bool true]) ∧ w' = W.setCell ⟨w.heap.size + 1 + 1, 0, none⟩ (.int .i64 ((k + wd : Nat) : Int)) ∧ TS w sp n cap z (k + wd) (W.setCell ⟨w.heap.size + 1 + 1, 0, none⟩ (.int .i64 ((k + wd : Nat) : Int))) := by
  obtain ⟨b, off, rfl, hc⟩ := h.bytes hn
  obtain ⟨b', off', e', hc'⟩ := h.2.2.2.1 hn
  cases e'
  have hlt : b < w.heap.size := by
    have h1 := hc' 0 hn
    by_cases hh : b < w.heap.size
    · exact hh
    · exfalso
      have h0 : w.heap[b]? = none := Array.getElem?_eq_none (by omega)
      simp [World.cell?, h0] at h1
  refine (take_ok (w.heap.size + 1) (w.heap.size + 1 + 1) b off n cap k wd z hz W (h.2.2.2.2.1.below h.2.2.2.2.2) hl hcap hw hx hc h.2.1.cell h.2.2.1.cell h.2.2.1.froz (by omega) (by omega) (by omega)).mono ?_
  rintro e w' ⟨rfl, rfl⟩
  have e1 : ((k : Int) + wd) = ((k + wd : Nat) : Int) := by simp
  rw [e1]
  exact ⟨rfl, rfl, h.put _⟩
/-- Eight cells stored, one behind the other. -/
def put8 (W : World) (q : Nat) (k r b i s d : Int) (p : Bool) (m : Int) : World :=
  (((((((W.setCell ⟨q, 0, none⟩ (.int .u8 k)).setCell ⟨q, 1, none⟩ (.int .i64 r)).setCell ⟨q, 2, none⟩ (.int .i64 b)).setCell ⟨q, 3, none⟩ (.int .i64 i)).setCell ⟨q, 4, none⟩ (.int .i64 s)).setCell ⟨q, 5, none⟩ (.int .i64 d)).setCell ⟨q, 6, none⟩ (.bool p)).setCell ⟨q, 7, none⟩ (.int .i64 m)
theorem O8.put {W : World} {q : Nat} {k r b i s d : Int} {p : Bool} {m : Int} (h : O8 W q k r b i s d p m) (k' r' b' i' s' d' : Int) (p' : Bool) (m' : Int) : O8 (put8 W q k' r' b' i' s' d' p' m') q k' r' b' i' s' d' p' m' :=
  (cset (i := 7) (v := .int .i64 m') (cset (i := 6) (v := .bool p') (cset (i := 5) (v := .int .i64 d') (cset (i := 4) (v := .int .i64 s') (cset (i := 3) (v := .int .i64 i') (cset (i := 2) (v := .int .i64 b') (cset (i := 1) (v := .int .i64 r') (cset (i := 0) (v := .int .u8 k') h)))))))).trans (by simp [ob])
theorem O8.far8 {W : World} {q a : Nat} {k r b i s d : Int} {p : Bool} {m : Int} (h : O8 W q k r b i s d p m) (hn : q ≠ a) (k' r' b' i' s' d' : Int) (p' : Bool) (m' : Int) : O8 (put8 W a k' r' b' i' s' d' p' m') q k r b i s d p m :=
  (((((((h.far hn).far hn).far hn).far hn).far hn).far hn).far hn).far hn
theorem Bx.far8 {W : World} {q a : Nat} {T : TypeId} {v : Value} (h : Bx W q T v) (hn : q ≠ a) (k' r' b' i' s' d' : Int) (p' : Bool) (m' : Int) : Bx (put8 W a k' r' b' i' s' d' p' m') q T v :=
  (((((((h.far hn).far hn).far hn).far hn).far hn).far hn).far hn).far hn
theorem below_put8 {w W : World} {n a : Nat} (h : Below n w W) (hp : n ≤ a) (k' r' b' i' s' d' : Int) (p' : Bool) (m' : Int) : Below n w (put8 W a k' r' b' i' s' d' p' m') :=
  (((((((h.setCell (p := ⟨a, 0, none⟩) hp _).setCell (p := ⟨a, 1, none⟩) hp _).setCell (p := ⟨a, 2, none⟩) hp _).setCell (p := ⟨a, 3, none⟩) hp _).setCell (p := ⟨a, 4, none⟩) hp _).setCell (p := ⟨a, 5, none⟩) hp _).setCell (p := ⟨a, 6, none⟩) hp _).setCell (p := ⟨a, 7, none⟩) hp _
/-- What lies there at the end. -/
def FS (w : World) (kk : Nat) (k r b i s d : Int) (p : Bool) (m : Int) (W : World) : Prop := O8 W w.heap.size k r b i s d p m ∧ Bx W (w.heap.size + 1 + 1) 3 (.int .i64 (kk : Int)) ∧ Below w.heap.size w W
theorem FS.drew {w W : World} {kk : Nat} {k r b i s d : Int} {p : Bool} {m : Int} (h : FS w kk k r b i s d p m W) : FS w kk k r b i s d p m W.drew := ⟨h.1, h.2.1, h.2.2.drew⟩
theorem FS.put {w W : World} {kk : Nat} {k r b i s d : Int} {p : Bool} {m : Int} (h : FS w kk k r b i s d p m W) : FS w kk k r b i s d p m (put8 W w.heap.size k r b i s d p m) := ⟨h.1.put _ _ _ _ _ _ _ _, h.2.1.far8 (by omega) _ _ _ _ _ _ _ _, below_put8 h.2.2 (Nat.le_refl _) _ _ _ _ _ _ _ _⟩
theorem TS.fin {w W : World} {sp : Option Addr} {n cap k : Nat} {z : Nat → Nat} (h : TS w sp n cap z k W) (k' r' b' i' s' d' : Int) (p' : Bool) (m' : Int) : FS w k k' r' b' i' s' d' p' m' (put8 W w.heap.size k' r' b' i' s' d' p' m') :=
  ⟨h.1.put _ _ _ _ _ _ _ _, h.2.2.1.far8 (by omega) _ _ _ _ _ _ _ _, below_put8 h.2.2.2.2.2 (Nat.le_refl _) _ _ _ _ _ _ _ _⟩
theorem mem_none (w : World) :
    Calls Tryd.prog 25 #[.int .i64 (-1), .int .i64 0] w fun e w' => e = .returned (ov 2 0 (-1) (-1) 1 0 false 0) ∧ Below w.heap.size w w' := mem_any (-1) 0 w
theorem TS.farO {w W : World} {sp : Option Addr} {n cap k : Nat} {z : Nat → Nat} (h : TS w sp n cap z k W) {qo : Nat} (hq : w.heap.size + 1 + 1 < qo) (i : Nat) (v : Value) : TS w sp n cap z k (W.setCell ⟨qo, i, none⟩ v) :=
  ⟨h.1.far (by omega), h.2.1.far (by omega), h.2.2.1.far (by omega), h.2.2.2.1, h.2.2.2.2.1, h.2.2.2.2.2.setCell (p := ⟨qo, i, none⟩) (by dsimp only; omega) _⟩
/-- The result, the slice, how many bytes were taken; and an operand in a block behind them. -/
def TO (w : World) (sp : Option Addr) (n cap : Nat) (z : Nat → Nat) (kk qo : Nat) (k r b i s d : Int) (p : Bool) (m : Int) (W : World) : Prop := TS w sp n cap z kk W ∧ O8 W qo k r b i s d p m ∧ w.heap.size + 1 + 1 < qo
theorem TO.new {w W : World} {sp : Option Addr} {n cap kk : Nat} {z : Nat → Nat} (h : TS w sp n cap z kk W) (k r b i s d : Int) (p : Bool) (m : Int) : TO w sp n cap z kk W.heap.size k r b i s d p m (W.alloc (ob k r b i s d p m)) :=
  ⟨h.below ((Below.refl _ _).alloc (Nat.le_refl _) _), O8.new W k r b i s d p m, h.2.2.1.lt⟩
theorem TO.set2 {w W : World} {sp : Option Addr} {n cap kk qo : Nat} {z : Nat → Nat} {k r b i s d : Int} {p : Bool} {m : Int} (h : TO w sp n cap z kk qo k r b i s d p m W) (b' : Int) : TO w sp n cap z kk qo k r b' i s d p m (W.setCell ⟨qo, 2, none⟩ (.int .i64 b')) :=
  ⟨h.1.farO h.2.2 _ _, (cset (i := 2) (v := .int .i64 b') h.2.1).trans (by simp [ob]), h.2.2⟩
theorem TO.set5 {w W : World} {sp : Option Addr} {n cap kk qo : Nat} {z : Nat → Nat} {k r b i s d : Int} {p : Bool} {m : Int} (h : TO w sp n cap z kk qo k r b i s d p m W) (d' : Int) : TO w sp n cap z kk qo k r b i s d' p m (W.setCell ⟨qo, 5, none⟩ (.int .i64 d')) :=
  ⟨h.1.farO h.2.2 _ _, (cset (i := 5) (v := .int .i64 d') h.2.1).trans (by simp [ob]), h.2.2⟩
theorem TO.set6 {w W : World} {sp : Option Addr} {n cap kk qo : Nat} {z : Nat → Nat} {k r b i s d : Int} {p : Bool} {m : Int} (h : TO w sp n cap z kk qo k r b i s d p m W) (p' : Bool) : TO w sp n cap z kk qo k r b i s d p' m (W.setCell ⟨qo, 6, none⟩ (.bool p')) :=
  ⟨h.1.farO h.2.2 _ _, (cset (i := 6) (v := .bool p') h.2.1).trans (by simp [ob]), h.2.2⟩
theorem TO.take {w W : World} {sp : Option Addr} {n cap kk kk' qo : Nat} {z : Nat → Nat} {k r b i s d : Int} {p : Bool} {m : Int} (h : TO w sp n cap z kk qo k r b i s d p m W) (v : Value) (hT : TS w sp n cap z kk' (W.setCell ⟨w.heap.size + 1 + 1, 0, none⟩ v)) : TO w sp n cap z kk' qo k r b i s d p m (W.setCell ⟨w.heap.size + 1 + 1, 0, none⟩ v) :=
  ⟨hT, h.2.1.far (by have := h.2.2; omega), h.2.2⟩
theorem TO.put {w W : World} {sp : Option Addr} {n cap kk qo : Nat} {z : Nat → Nat} {k r b i s d : Int} {p : Bool} {m : Int} (h : TO w sp n cap z kk qo k r b i s d p m W) (k' r' b' i' s' d' : Int) (p' : Bool) (m' : Int) : TO w sp n cap z kk qo k' r' b' i' s' d' p' m' (put8 W qo k' r' b' i' s' d' p' m') :=
  have hq := h.2.2
  ⟨⟨h.1.1.far8 (by omega) _ _ _ _ _ _ _ _, h.1.2.1.far8 (by omega) _ _ _ _ _ _ _ _, h.1.2.2.1.far8 (by omega) _ _ _ _ _ _ _ _, h.1.2.2.2.1, h.1.2.2.2.2.1, below_put8 h.1.2.2.2.2.2 (by omega) _ _ _ _ _ _ _ _⟩, h.2.1.put _ _ _ _ _ _ _ _, h.2.2⟩
theorem TO.below {w W W' : World} {sp : Option Addr} {n cap kk qo : Nat} {z : Nat → Nat} {k r b i s d : Int} {p : Bool} {m : Int} (h : TO w sp n cap z kk qo k r b i s d p m W) (hb : Below W.heap.size W W') : TO w sp n cap z kk qo k r b i s d p m W' := ⟨h.1.below hb, h.2.1.keep hb, h.2.2⟩
theorem idx0 (W : World) : (Instr.index 68 (Value.agg #[.int .i64 0, .int .i64 1, .int .i64 4]) (.int .u8 0)).run Tryd.prog W = .ok (.int .i64 0) W := by
  have hu : Tryd.prog.underlying 68 = some (.array 3 3) := by kernel_rfl
  simp [Instr.index, run_underlying hu, go_sem, Result.andThen]
theorem idx1 (W : World) : (Instr.index 68 (Value.agg #[.int .i64 0, .int .i64 1, .int .i64 4]) (.int .u8 1)).run Tryd.prog W = .ok (.int .i64 1) W := by
  have hu : Tryd.prog.underlying 68 = some (.array 3 3) := by kernel_rfl
  simp [Instr.index, run_underlying hu, go_sem, Result.andThen]
theorem idx2 (W : World) : (Instr.index 68 (Value.agg #[.int .i64 0, .int .i64 1, .int .i64 4]) (.int .u8 2)).run Tryd.prog W = .ok (.int .i64 4) W := by
  have hu : Tryd.prog.underlying 68 = some (.array 3 3) := by kernel_rfl
  simp [Instr.index, run_underlying hu, go_sem, Result.andThen]
end Go.Proofs.YtkpnafgmjcnniaaDoor
