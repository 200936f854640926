/- codes.Digits. -/
import Derived.Test.YtaeehinlgmijgaaDoorDg
namespace Go.Proofs.YtaeehinlgmijgaaDoor
open Go.RowKit Go.Shelf
set_option linter.unusedVariables false
set_option linter.unusedSimpArgs false
attribute [local go_sem] Oper.semAt_some
def digZ (p m o : Nat) (f : Fm) : Bool := f.d != -1 && standsZ f p m o
/-- What Digits' loop keeps. -/
def DI (w : World) (p m o : Nat) (r : Bool) (W : World) : Prop :=
  (((W.heap[w.heap.size]? = some (.cells #[.int .u8 (p : Nat)] 5 (0, 0)) ∧ W.heap[w.heap.size + 1]? = some (.cells #[.int .u8 (m : Nat)] 5 (0, 0))) ∧ W.heap[w.heap.size + 1 + 1]? = some (.cells #[.int .u8 (o : Nat)] 5 (0, 0))) ∧
    W.heap[w.heap.size + 1 + 1 + 1]? = some (.cells #[.bool r] 4 (0, 0))) ∧ Below w.heap.size w W
theorem DI.own (w : World) (p m o : Nat) (r : Bool) (B : Nat) (hB : w.heap.size ≤ B) : OwnFrom B (fun (_ : List Fm) => DI w p m o r) :=
  OwnFrom.and (OwnFrom.and (OwnFrom.and (OwnFrom.and (ownFrom_block B _ (fun _ => #[.int .u8 (p : Nat)]) 5) (ownFrom_block B _ (fun _ => #[.int .u8 (m : Nat)]) 5)) (ownFrom_block B _ (fun _ => #[.int .u8 (o : Nat)]) 5)) (ownFrom_block B _ (fun _ => #[.bool r]) 4)) (ownFrom_below (Nat.le_refl _) hB)
theorem DI.keep {w W W' : World} {p m o : Nat} {r : Bool} (h : DI w p m o r W) (hb : Below W.heap.size W W') : DI w p m o r W' := by
  obtain ⟨⟨⟨⟨h1, h2⟩, h3⟩, h4⟩, hB⟩ := h
  have l1 := (Array.getElem?_eq_some_iff.1 h1).1
  have l2 := (Array.getElem?_eq_some_iff.1 h2).1
  have l3 := (Array.getElem?_eq_some_iff.1 h3).1
  have l4 := (Array.getElem?_eq_some_iff.1 h4).1
  exact ⟨⟨⟨⟨(hb.block _ l1).trans h1, (hb.block _ l2).trans h2⟩, (hb.block _ l3).trans h3⟩, (hb.block _ l4).trans h4⟩, hB.trans (hb.mono (by omega))⟩
theorem DI.set {w W : World} {p m o : Nat} {r : Bool} (r' : Bool) (h : DI w p m o r W) : DI w p m o r' (W.setCell ⟨w.heap.size + 1 + 1 + 1, 0, none⟩ (.bool r')) := by
  obtain ⟨⟨⟨⟨h1, h2⟩, h3⟩, h4⟩, hB⟩ := h
  have hs : ∀ k, k ≠ w.heap.size + 1 + 1 + 1 → (W.setCell ⟨w.heap.size + 1 + 1 + 1, 0, none⟩ (.bool r')).heap[k]? = W.heap[k]? := fun k hk => Below.heap_setCell W _ _ k hk
  exact ⟨⟨⟨⟨(hs _ (by omega)).trans h1, (hs _ (by omega)).trans h2⟩, (hs _ (by omega)).trans h3⟩, Boxed.set (t := 4) _ h4⟩, hB.setCell (p := ⟨w.heap.size + 1 + 1 + 1, 0, none⟩) (by dsimp only; omega) _⟩
theorem DI.c {w W : World} {p m o : Nat} {r : Bool} (h : DI w p m o r W) : W.cell? ⟨w.heap.size, 0, none⟩ = some (.int .u8 (p : Nat)) ∧ W.cell? ⟨w.heap.size + 1, 0, none⟩ = some (.int .u8 (m : Nat)) ∧ W.cell? ⟨w.heap.size + 1 + 1, 0, none⟩ = some (.int .u8 (o : Nat)) ∧ W.cell? ⟨w.heap.size + 1 + 1 + 1, 0, none⟩ = some (.bool r) := by
  obtain ⟨⟨⟨⟨h1, h2⟩, h3⟩, h4⟩, hB⟩ := h
  exact ⟨by simp [World.cell?, h1], by simp [World.cell?, h2], by simp [World.cell?, h3], by simp [World.cell?, h4]⟩
theorem DI.f {w W : World} {p m o : Nat} {r : Bool} (h : DI w p m o r W) : W.frozen? ⟨w.heap.size + 1 + 1 + 1, 0, none⟩ = false := by
  obtain ⟨⟨⟨⟨h1, h2⟩, h3⟩, h4⟩, hB⟩ := h
  simp [World.frozen?, h4]
theorem DI.new (w : World) (p m o : Nat) : DI w p m o false ((((w.alloc (.cells #[.int .u8 (p : Nat)] 5)).alloc (.cells #[.int .u8 (m : Nat)] 5)).alloc (.cells #[.int .u8 (o : Nat)] 5)).alloc (.cells #[.bool false] 4)) := by
  have h0 := heap_alloc_last w (.cells #[.int .u8 (p : Nat)] 5)
  have h1 := heap_alloc_last (w.alloc (.cells #[.int .u8 (p : Nat)] 5)) (.cells #[.int .u8 (m : Nat)] 5)
  have h2 := heap_alloc_last ((w.alloc (.cells #[.int .u8 (p : Nat)] 5)).alloc (.cells #[.int .u8 (m : Nat)] 5)) (.cells #[.int .u8 (o : Nat)] 5)
  have h3 := heap_alloc_last (((w.alloc (.cells #[.int .u8 (p : Nat)] 5)).alloc (.cells #[.int .u8 (m : Nat)] 5)).alloc (.cells #[.int .u8 (o : Nat)] 5)) (.cells #[.bool false] 4)
  simp only [World.size_alloc] at h1 h2 h3
  refine ⟨⟨⟨⟨?_, ?_⟩, ?_⟩, h3⟩, ((((Below.refl _ _).alloc (Nat.le_refl _) _).alloc (by simp) _).alloc (by simp; omega) _).alloc (by simp; omega) _⟩
  · exact (((((Below.refl (w.heap.size + 1) _).alloc (by simp) _).alloc (by simp) _).alloc (by simp; try omega) _).block _ (by omega)).trans h0
  · exact ((((Below.refl (w.heap.size + 1 + 1) _).alloc (by simp) _).alloc (by simp) _).block _ (by omega)).trans h1
  · exact (((Below.refl (w.heap.size + 1 + 1 + 1) _).alloc (by simp) _).block _ (by omega)).trans h2
theorem putObj_other {W : World} {D k : Nat} {o : Obj} (h : k ≠ D) : (W.putObj D o).heap[k]? = W.heap[k]? := by
  unfold World.putObj
  simp [Array.getElem?_setIfInBounds, Array.getElem?_modify, Ne.symm h, h]
theorem res14 {W : World} {b : Nat} {v : Bool} {tm : Array Value} (hp : tm.getD 6 undef = .pointer (some ⟨b, 0, none⟩)) (h : W.cell? ⟨b, 0, none⟩ = some (.bool v)) : (results Tryd.f14 tm).run Tryd.prog W = .ok (.bool v) W := by
  have hp' : tm[6]?.getD undef = .pointer (some ⟨b, 0, none⟩) := by simpa using hp
  simp [results, show Tryd.f14.results = #[.cell 6 4] from rfl, hp', asAddr]
  go_simp
def DT (w : World) (p m o : Nat) (x : Fm) (b1 : Nat) : Act := { tmps := #[.int .u8 (p : Nat), .int .u8 (m : Nat), .int .u8 (o : Nat), .pointer (some ⟨w.heap.size, 0, none⟩), .pointer (some ⟨w.heap.size + 1, 0, none⟩), .pointer (some ⟨w.heap.size + 1 + 1, 0, none⟩), .pointer (some ⟨w.heap.size + 1 + 1 + 1, 0, none⟩), .pointer (some ⟨b1, 0, none⟩), .func (.func 28) #[] #[], x.v, undef, undef, undef, undef, undef, undef, undef, undef, undef, undef], defers := [] }
set_option maxRecDepth 100000 in
set_option maxHeartbeats 4000000 in
theorem digits_in (F : Fence) (HF : Hid (F = Fence.wide)) (n : Nat) (hn : 5 ≤ n) (p m o : Nat) (w : World) (hG : GL w) :
    CallsIn F n Tryd.prog 14 #[.int .u8 (p : Nat), .int .u8 (m : Nat), .int .u8 (o : Nat)] w fun e W' => e = .returned (.bool (formsL.any (digZ p m o))) ∧ Below w.heap.size w W' := by
  have h1 : 1 ≤ n := by omega
  have hro : F.round = none := by rw [HF.out]; rfl
  have h14 : F.fn 14 := by rw [HF.out]; trivial
  have h20 : F.fn 20 := by rw [HF.out]; trivial
  have h25 : F.fn 25 := by rw [HF.out]; trivial
  have h28 : F.fn 28 := by rw [HF.out]; trivial
  have HI := Lib.hid (DI.new w p m o)
  have HL := Lib.hid hG.lt
  have HG := Lib.hid hG
  have HS := fun (x : Fm) (W : World) => Lib.hid (stands_any x p m o W)
  clear hG
  refine callsIn_of_wp_marks Tryd.func14 rfl h14 ?_ hro
  simp only [Tryd.ntmps14, List.size_toArray, List.length_cons, List.length_nil, Nat.reduceAdd, Nat.reduceSub, Array.replicate_succ, Array.replicate_zero, List.push_toArray, List.append_toArray, List.nil_append, List.cons_append]
  gi_wp2_with (gi_at_call 20; refine (each_in F HF _ _).mono ?_; rintro e w' ⟨rfl, rfl⟩)
  have HG0 : Hid (GL ((((w.alloc (.cells #[.int .u8 (p : Nat)] 5)).alloc (.cells #[.int .u8 (m : Nat)] 5)).alloc (.cells #[.int .u8 (o : Nat)] 5)).alloc (.cells #[.bool false] 4))) := Lib.hid (HG.out.below HI.out.2)
  have HZ : Hid ((((((w.alloc (.cells #[.int .u8 (p : Nat)] 5)).alloc (.cells #[.int .u8 (m : Nat)] 5)).alloc (.cells #[.int .u8 (o : Nat)] 5)).alloc (.cells #[.bool false] 4))).heap.size = w.heap.size + 1 + 1 + 1 + 1) := Lib.hid (by simp)
  generalize World.alloc (World.alloc (World.alloc (World.alloc _ _) _) _) _ = W0 at *
  refine wpIn_rangeFunc_ownH hro h1 (gf := 28) (lb := #[]) rfl h28 (enters_of Tryd.func28 (by kernel_rfl) rfl)
    (each_stops F HF (n - 1) (by omega) hro W0 HG0.out) kpC_t (fun W l o o' => kpC_b (w := W0) W l o o') (Below.refl _ _) (fun _ => rfl)
    (fun pre W => DI w p m o false W ∧ pre.any (digZ p m o) = false) (fun c pre W => (c = .ret ∧ pre.any (digZ p m o) = true) ∧ DI w p m o true W)
    (fun s A B row hs hg hr => ⟨DI.own w p m o false _ (by have := HZ.out; omega) s A B row hs.1 hg hr, hs.2⟩)
    (fun c s A B row hs hg hr => ⟨hs.1, DI.own w p m o true _ (by have := HZ.out; omega) s A B row hs.2 hg hr⟩)
    ⟨HI.out, rfl⟩
    (fun x a' W => ∃ b1, W0.heap.size ≤ b1 ∧ FB W b1 x ∧ a' = DT w p m o x b1)
    (fun x a' _ X Y row hs hg hr => by
      obtain ⟨b1, h1, h2, h3⟩ := hs
      exact ⟨b1, h1, ownFrom_block _ b1 (fun (_ : Unit) => x.cs.toArray) 23 () X Y row h2 hg hr, h3⟩) ?assign ?body ?done ?stop
  case assign =>
    rintro l pre x W K ⟨hI, ha⟩ hK
    have hs := hI.2.size
    have hfb := heap_alloc_last W (.cells zf.cs.toArray 23)
    have HFB : Hid (FB (W.alloc (.cells zf.cs.toArray 23)) W.heap.size zf) := Lib.hid hfb
    clear hfb
    have hsz : W0.heap.size ≤ W.heap.size := by have := (Array.getElem?_eq_some_iff.1 hI.1.2).1; have := HZ.out; omega
    gi_wp2_with (refine wpListIn_store23 (u := zf) (f := x) rfl rfl rfl rfl HFB.out ?_)
    have hbl : Below W.heap.size W ((W.alloc (.cells zf.cs.toArray 23)).setRow W.heap.size x.cs.toArray) := below_row ((Below.refl _ W).alloc (Nat.le_refl _) _) (Nat.le_refl _)
    exact hK _ _ (below_keeps hbl _) (kpC_below hbl) ⟨hI.keep hbl, ha⟩ ⟨W.heap.size, hsz, HFB.out.row, rfl⟩
  case body =>
    rintro l pre x a' W hl ⟨r, hr⟩ ⟨hI, ha⟩ ⟨b1, hb1, hF, rfl⟩ hlt
    have h1' : 1 ≤ n - 1 - 1 := by omega
    have hsz : W0.heap.size = w.heap.size + 1 + 1 + 1 + 1 := HZ.out
    have c4 : W.cell? ⟨b1, 4, none⟩ = some (.int .i64 x.d) := hF.at 4 _ rfl
    have HFB := Lib.hid hF
    have HD := Lib.hid hI
    have HA := Lib.hid ha
    have HX : Hid (digZ p m o x = (x.d != -1 && standsZ x p m o)) := Lib.hid rfl
    have hC := CallsIn.inRound l (inW (n := n - 1 - 1 - 1) HF (HS x W).out)
    obtain ⟨e1, e2, e3, e4⟩ := hI.c
    clear hF hI ha hr hl HG HG0 HI HS hlt
    generalize x.d = dd at *
    generalize standsZ x p m o = s at *
    unfold DT
    cases hd : (dd != -1)
    rotate_left
    · gi_wp2_with (first | (refine wpListIn_load23 (f := x) rfl rfl rfl HFB.out ?_) | fail)
      refine hC.mono ?_
      rintro e W2 ⟨rfl, hb2⟩
      have HD2 := Lib.hid (HD.out.keep hb2)
      have HK2 : Hid (KpC W0.heap.size W W2) := Lib.hid (kpC_below hb2)
      have HQ2 : Hid (KeepsFrom W0.heap.size W W2) := Lib.hid (below_keeps hb2 _)
      clear e1 e2 e3 e4 c4 hC hb2
      have hx : digZ p m o x = s := by rw [HX.out, hd]; rfl
      have HY : Hid (digZ p m o x = s) := Lib.hid hx
      clear hx HX
      obtain ⟨e1, e2, e3, e4⟩ := HD2.out.c
      have f4 := HD2.out.f
      cases s
      · gi_wp2
        exact ⟨HQ2.out, HK2.out, HD2.out, by rw [List.any_append, HA.out]; simp [HY.out]⟩
      · gi_wp2
        exact ⟨HQ2.out.trans ((KeepsOthers.setCell _ _ _).from _), ⟨rfl, by rw [List.any_append]; simp [HY.out]⟩, HD2.out.set true⟩
    · gi_wp2
      exact ⟨KeepsFrom.refl _ _, kpC_refl _ _, HD.out, by rw [List.any_append, HA.out]; simp [HX.out, hd]⟩
  case done =>
    rintro D ys W hD rfl ⟨hI, ha⟩ hK
    obtain ⟨e1, e2, e3, e4⟩ := hI.c
    have f4 := hI.f
    have HD := Lib.hid hI
    have HA := Lib.hid ha
    clear hI ha e1 e2 e3
    have hsz : W0.heap.size = w.heap.size + 1 + 1 + 1 + 1 := HZ.out
    gi_wp2
    have HT := Lib.hid (HD.out.set false)
    have HKD : Hid ((W.setCell ⟨w.heap.size + 1 + 1 + 1, 0, none⟩ (.bool false)).heap[D]? = some (.deferred (some []))) := Lib.hid ((Below.heap_setCell W ⟨w.heap.size + 1 + 1 + 1, 0, none⟩ _ D (by dsimp only; omega)).trans hK)
    have hcl := (World.cell?_of_block (a := ⟨w.heap.size + 1 + 1 + 1, 0, none⟩) (putObj_other (W := (W.setCell ⟨w.heap.size + 1 + 1 + 1, 0, none⟩ (.bool false))) (D := D) (o := .deferred none) (by dsimp only; omega))).trans HT.out.c.2.2.2
    refine ⟨by simp, .inl ⟨_, _, rfl, run_takeDeferred HKD.out, ?_⟩⟩
    refine ⟨_, res14 (v := false) rfl hcl, by rw [HA.out], HT.out.2.trans (belowK_b (w := w) (Nat.le_refl _) _ D _ _ (by omega) HKD.out rfl rfl)⟩
  case stop =>
    rintro D c pre W hD hS ⟨⟨rfl, ha⟩, hI⟩ hK
    obtain ⟨e1, e2, e3, e4⟩ := hI.c
    have HD := Lib.hid hI
    have HA := Lib.hid ha
    have HS := Lib.hid hS
    clear hI ha e1 e2 e3 hS
    have hsz : W0.heap.size = w.heap.size + 1 + 1 + 1 + 1 := HZ.out
    gi_wp2
    have hcl := (World.cell?_of_block (a := ⟨w.heap.size + 1 + 1 + 1, 0, none⟩) (putObj_other (W := W) (D := D) (o := .deferred none) (by dsimp only; omega))).trans HD.out.c.2.2.2
    refine ⟨by simp, .inl ⟨_, _, rfl, run_takeDeferred hK, ?_⟩⟩
    refine ⟨_, res14 (v := true) rfl hcl, ?_, HD.out.2.trans (belowK_b (w := w) (Nat.le_refl _) _ D _ _ (by omega) hK rfl rfl)⟩
    obtain ⟨q, hq⟩ := HS.out
    rw [← hq, List.any_append, HA.out]; rfl
theorem digits_any (p m o : Nat) (w : World) (hG : GL w) :
    Calls Tryd.prog 14 #[.int .u8 (p : Nat), .int .u8 (m : Nat), .int .u8 (o : Nat)] w fun e W' => e = .returned (.bool (formsL.any (digZ p m o))) ∧ Below w.heap.size w W' :=
  callsIn_wide.1 (digits_in Fence.wide (Lib.hid rfl) 5 (Nat.le_refl _) p m o w hG)
end Go.Proofs.YtaeehinlgmijgaaDoor
