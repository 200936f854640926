/- names.Find. -/
import Derived.Test.YtegbhjmghkbgmaaJ
namespace Go.Proofs.Ytegbhjmghkbgmaa
open Go.RowKit Go.Shelf
set_option linter.unusedVariables false
set_option linter.unusedSimpArgs false
attribute [local go_sem] Oper.semAt_some
/-- A symbol: name, address, size, is it a function. -/
abbrev Sy := ByteArray × Nat × Nat × Bool
def Sy.cs (s : Sy) : List Value := [.string s.1, .int .u64 (s.2.1 : Nat), .int .u64 (s.2.2.1 : Nat), .bool s.2.2.2]
def Sy.v (s : Sy) : Value := .agg #[.string s.1, .int .u64 (s.2.1 : Nat), .int .u64 (s.2.2.1 : Nat), .bool s.2.2.2]
def zsy : Sy := (⟨#[]⟩, 0, 0, false)
theorem Sy_len (s : Sy) : s.cs.length = 4 := rfl
theorem Sy_at {W : World} {ad : Option Addr} {zs : List Sy} (h : RX W ad (zs.flatMap Sy.cs)) {k : Nat} {s : Sy} (hk : zs[k]? = some s) : ∃ b off, ad = some ⟨b, off, none⟩ ∧ W.cell? ⟨b, off + k * 4, none⟩ = some (.string s.1) ∧ W.cell? ⟨b, off + k * 4 + 1, none⟩ = some (.int .u64 (s.2.1 : Nat)) ∧ W.cell? ⟨b, off + k * 4 + 2, none⟩ = some (.int .u64 (s.2.2.1 : Nat)) ∧ W.cell? ⟨b, off + k * 4 + 3, none⟩ = some (.bool s.2.2.2) := by
  have hl := (List.getElem?_eq_some_iff.1 hk).1
  obtain ⟨b, off, ha, hc⟩ := h (by rw [flat_len Sy_len]; omega)
  have e : ∀ i, i < 4 → ∀ u, s.cs[i]? = some u → W.cell? ⟨b, off + k * 4 + i, none⟩ = some u := fun i hi u hu => by
    rw [Nat.add_assoc]
    exact hc _ _ ((flat_at Sy_len zs k i s hk hi).trans hu)
  exact ⟨b, off, ha, e 0 (by decide) _ rfl, e 1 (by decide) _ rfl, e 2 (by decide) _ rfl, e 3 (by decide) _ rfl⟩
/-- A symbol in a block of its own. -/
def YB (W : World) (b : Nat) (s : Sy) : Prop := W.heap[b]? = some (.cells s.cs.toArray 42 (0, 0))
theorem YB.keep {W W' : World} {b : Nat} {s : Sy} (h : YB W b s) (hb : Below W.heap.size W W') : YB W' b s := (hb.block b (Array.getElem?_eq_some_iff.1 h).1).trans h
theorem YB.c {W : World} {b : Nat} {s : Sy} (h : YB W b s) : W.cell? ⟨b, 0, none⟩ = some (.string s.1) ∧ W.cell? ⟨b, 1, none⟩ = some (.int .u64 (s.2.1 : Nat)) ∧ W.cell? ⟨b, 2, none⟩ = some (.int .u64 (s.2.2.1 : Nat)) ∧ W.cell? ⟨b, 3, none⟩ = some (.bool s.2.2.2) :=
  ⟨cell_at h rfl, cell_at h rfl, cell_at h rfl, cell_at h rfl⟩
theorem info42 : (Try.prog.info? 42).map (·.size) = some 4 := by kernel_rfl
theorem store42_run {W : World} {b : Nat} {u f : Sy} (h : YB W b u) : (storeVar 42 ⟨b, 0, none⟩ f.v).run Try.prog W = .ok () (W.setRow b f.cs.toArray) :=
  run_storeVar_row _ _ 42 42 u.cs.toArray f.cs.toArray h info42 rfl (by simp [Sy.cs, Value.oneCell'])
theorem wpList_store42 {ops : Array Oper} {Q : Exit → Act → World → Prop} {o : Oper} {rest : List Oper} {a : Act} {W : World} {x y : Operand} {b : Nat} {u f : Sy}
    (ho : o.op = .store 42 x y) (hg : o.guard = none) (hx : a.eval x = .pointer (some ⟨b, 0, none⟩)) (hy : a.eval y = f.v) (h : YB W b u)
    (hn : wpList Try.prog ops Q rest (a.put o.dst undef) (W.setRow b f.cs.toArray)) : wpList Try.prog ops Q (o :: rest) a W := by
  refine wpList_plain hg fun K hK => ?_
  have e : (execOp a.eval o).run Try.prog W = .ok .skip (W.setRow b f.cs.toArray) := by
    unfold execOp
    rw [ho]
    simp only [hx, hy, Instr.storeAt, Instr.sureAddr, Sem.run_bind, Sem.run_pure, Result.andThen, store42_run h]
  unfold Oper.wp
  rw [e, Oper.upon_skip]
  exact hK _ _ hn
theorem YB.put {W : World} {b : Nat} {u : Sy} (h : YB W b u) (f : Sy) : YB (W.setRow b f.cs.toArray) b f := setRow_heap W b _ f.cs.toArray 42 (0, 0) h
theorem YB.new (W : World) : YB (W.alloc (.cells zsy.cs.toArray 42)) W.heap.size zsy := heap_alloc_last W _
/-- What Find tells. -/
def findS (l : List Sy) (nm : ByteArray) : Option Sy := l.find? fun s => s.2.2.2 && (s.1.toList == nm.toList)
def findV (l : List Sy) (nm : ByteArray) : Value := match findS l nm with | some s => .tuple #[s.v, .int .i64 0] | none => .tuple #[zsy.v, .int .i64 40]
theorem find_at {l : List Sy} {nm : ByteArray} {k : Nat} {s : Sy} (hk : l[k]? = some s) (hs : (s.2.2.2 && (s.1.toList == nm.toList)) = true) (hb : ∀ j, j < k → ∀ x, l[j]? = some x → (x.2.2.2 && (x.1.toList == nm.toList)) = false) : findS l nm = some s := by
  unfold findS
  rw [List.find?_eq_some_iff_getElem]
  obtain ⟨hl, e⟩ := List.getElem?_eq_some_iff.1 hk
  exact ⟨hs, k, hl, e, fun j hj => by
    have h1 := hb j hj _ (List.getElem?_eq_getElem (by omega))
    simp only [h1]
    rfl⟩
theorem find_no {l : List Sy} {nm : ByteArray} (hb : ∀ j, j < l.length → ∀ x, l[j]? = some x → (x.2.2.2 && (x.1.toList == nm.toList)) = false) : findS l nm = none := by
  unfold findS
  rw [List.find?_eq_none]
  intro x hx
  obtain ⟨j, hj⟩ := List.getElem?_of_mem hx
  have := hb j (List.getElem?_eq_some_iff.1 hj).1 x hj
  simpa using this
theorem load42_run {W : World} {b : Nat} {f : Sy} (h : YB W b f) : (loadVar 42 ⟨b, 0, none⟩).run Try.prog W = .ok f.v W :=
  run_loadVar_row _ _ 42 42 f.cs.toArray (0, 0) _ h Try.underlying42 rfl info42
theorem res14 {W : World} {b : Nat} {f : Sy} {r : Int} {tm : Array Value} (hp : tm.getD 4 undef = .pointer (some ⟨b, 0, none⟩)) (hr : tm.getD 5 undef = .int .i64 r) (h : YB W b f) : (results Try.f14 tm).run Try.prog W = .ok (.tuple #[f.v, .int .i64 r]) W := by
  rw [results_cell_tmp (fn := Try.f14) (p := 4) (u := 5) (ty := 42) rfl, hp, hr]
  simp [asAddr, load42_run h, Result.andThen]
set_option maxRecDepth 100000 in
set_option maxHeartbeats 4000000 in
theorem find_any (a : Option Addr) (p : Nat) (l : List Sy) (nm : ByteArray) (hn : l.length ≤ 1000000) (w : World) (h : RX w a (l.flatMap Sy.cs)) : Calls Try.prog 14 #[.slice a l.length p, .string nm] w fun e W' => e = .returned (findV l nm) ∧ Below w.heap.size w W' := by
  have HX := Lib.hid (fun W (hb : Below w.heap.size w W) => h.keep hb)
  have HY0 : Hid (YB (w.alloc (.cells #[.string ⟨#[]⟩, .int .u64 0, .int .u64 0, .bool false] 42)) w.heap.size zsy) := Lib.hid (YB.new w)
  have HB0 := Lib.hid ((Below.refl w.heap.size w).alloc (Nat.le_refl _) (.cells #[.string ⟨#[]⟩, .int .u64 0, .int .u64 0, .bool false] 42))
  obtain ⟨n, hn1⟩ : ∃ n, l.length = n := ⟨_, rfl⟩
  rw [hn1] at hn ⊢
  have HL := Lib.hid hn1
  clear h hn1
  go_enter Try.func14, Try.ntmps14
  go_upto_region 1 with fail
  generalize World.alloc w _ = W1 at HY0 HB0 ⊢
  go_wp2_with fail
  go_loopw [10] (fun i W => ∃ k : Nat, k ≤ n ∧ i = .int .i64 k ∧ Hid (∀ j, j < k → ∀ x, l[j]? = some x → (x.2.2.2 && (x.1.toList == nm.toList)) = false) ∧ Hid (YB W w.heap.size zsy ∧ Below w.heap.size w W)) (fun i _ => n - (intOf i).toNat)
  case atStart => exact ⟨0, by omega, rfl, Lib.hid (fun j hj => absurd hj (by omega)), Lib.hid ⟨HY0.out, HB0.out⟩⟩
  case round =>
    clear HY0 HB0
    obtain ⟨k, hk, rfl, HA, HB⟩ := hrel
    by_cases hlt : k < n
    · obtain ⟨s, hs⟩ : ∃ s, l[k]? = some s := ⟨l[k]'(by have := HL.out; omega), List.getElem?_eq_getElem _⟩
      have HK1 := Lib.hid hs
      clear hs
      obtain ⟨x1, o1, ha1, f0, f1, f2, f3⟩ := Sy_at (HX.out wr HB.out.2) HK1.out
      subst ha1
      obtain ⟨x, y, z, fn⟩ := s
      have HN : Hid (YB (wr.alloc (.cells #[.string x, .int .u64 (y : Nat), .int .u64 (z : Nat), .bool fn] 42)) wr.heap.size (x, y, z, fn) ∧ YB (wr.alloc (.cells #[.string x, .int .u64 (y : Nat), .int .u64 (z : Nat), .bool fn] 42)) w.heap.size zsy ∧ Below w.heap.size w (wr.alloc (.cells #[.string x, .int .u64 (y : Nat), .int .u64 (z : Nat), .bool fn] 42))) := Lib.hid ⟨heap_alloc_last wr _, HB.out.1.keep ((Below.refl _ _).alloc (Nat.le_refl _) _), HB.out.2.alloc HB.out.2.size _⟩
      dsimp only at f0 f1 f2 f3
      go_upto_region 4 with fail
      generalize World.alloc wr _ = W2 at HN ⊢
      clear f0 f1 f2 f3 HB
      generalize wr.heap.size = b2 at HN ⊢
      obtain ⟨c0, c1, c2, c3⟩ := HN.out.1.c
      dsimp only at c0 c1 c2 c3
      by_cases hf : (fn && (x.toList == nm.toList)) = true
      · have HE := Lib.hid (show findV l nm = .tuple #[Sy.v (x, y, z, fn), .int .i64 0] by unfold findV; rw [find_at HK1.out hf HA.out])
        have e1 : fn = true := by cases fn <;> simp_all
        have d1 : (x.toList == nm.toList) = true := (Bool.and_eq_true_iff.1 hf).2
        subst e1
        clear hf
        go_wp2_with (first | (refine wpList_store42 (u := zsy) (f := (x, y, z, true)) rfl rfl rfl rfl HN.out.2.1 ?_) | fail)
        exact bodyPost_ret (res14 rfl rfl (HN.out.2.1.put (x, y, z, true))) rfl ⟨by rw [HE.out], below_row' HN.out.2.2 (Nat.le_refl _)⟩
      · have HF : Hid ((fn && (x.toList == nm.toList)) = false) := Lib.hid (by simpa using hf)
        clear hf
        cases fn
        · go_wp2_with fail
          go_roundw
          case rel => exact ⟨k + 1, by omega, by go_num, Lib.hid (fun j hj s hs => by
            by_cases e : j = k
            · subst e
              have := Option.some.inj (HK1.out.symm.trans hs)
              rw [← this]
              exact HF.out
            · exact HA.out j (by omega) s hs), Lib.hid HN.out.2⟩
          case measure => simp [intOf]; omega
        · have d1 : (x.toList == nm.toList) = false := by simpa using HF.out
          go_wp2_with fail
          go_roundw
          case rel => exact ⟨k + 1, by omega, by go_num, Lib.hid (fun j hj s hs => by
            by_cases e : j = k
            · subst e
              have := Option.some.inj (HK1.out.symm.trans hs)
              rw [← this]
              exact HF.out
            · exact HA.out j (by omega) s hs), Lib.hid HN.out.2⟩
          case measure => simp [intOf]; omega
    · obtain rfl : n = k := by omega
      have HE := Lib.hid (show findV l nm = .tuple #[zsy.v, .int .i64 40] by unfold findV; rw [find_no (fun j hj => HA.out j (by have := HL.out; omega))])
      go_wp2_with (first | (refine wpList_store42 (u := zsy) (f := zsy) rfl rfl rfl rfl HB.out.1 ?_) | fail)
      exact bodyPost_ret (res14 rfl rfl (HB.out.1.put zsy)) rfl ⟨by rw [HE.out], below_row' HB.out.2 (Nat.le_refl _)⟩
end Go.Proofs.Ytegbhjmghkbgmaa
