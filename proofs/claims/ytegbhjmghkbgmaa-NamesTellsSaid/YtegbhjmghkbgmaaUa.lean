/- The reference's Same and Find. -/
import Derived.Test.YtegbhjmghkbgmaaSo
namespace Go.Proofs.Ytegbhjmghkbgmaa
open Go.RowKit Go.Shelf
set_option linter.unusedVariables false
set_option linter.unusedSimpArgs false
attribute [local go_sem] Oper.semAt_some
set_option maxRecDepth 100000 in
set_option maxHeartbeats 4000000 in
theorem rsame_any (a a' : Option Addr) (p p' : Nat) (l l' : List Sy) (hn : l.length ≤ 1000000) (hn' : l'.length ≤ 1000000) (w : World) (h : RX w a (l.flatMap Sy.cs)) (h' : RX w a' (l'.flatMap Sy.cs)) : Calls Try.prog 12 #[.slice a l.length p, .slice a' l'.length p'] w fun e W' => e = .returned (.bool (decide (l = l'))) ∧ Below w.heap.size w W' := by
  have HX := Lib.hid (fun W (hb : Below w.heap.size w W) => And.intro (h.keep hb) (h'.keep hb))
  have HS0 := Lib.hid (Below.refl w.heap.size w)
  obtain ⟨n, hn1⟩ : ∃ n, l.length = n := ⟨_, rfl⟩
  obtain ⟨n', hn1'⟩ : ∃ n', l'.length = n' := ⟨_, rfl⟩
  rw [hn1] at hn
  rw [hn1'] at hn'
  rw [hn1, hn1']
  have HL := Lib.hid (And.intro hn1 hn1')
  clear h h' hn1 hn1'
  by_cases hnn : n = n'
  rotate_left
  · have hne : ¬ (n : Int) = (n' : Int) := by omega
    have hD : decide (l = l') = false := decide_eq_false (fun e => hnn (by have := HL.out; rw [e] at this; omega))
    rw [hD]
    go_enter Try.func12, Try.ntmps12
    go_wp2_with fail
    go_ret
    exact ⟨rfl, HS0.out⟩
  subst hnn
  go_enter Try.func12, Try.ntmps12
  go_wp2_with fail
  go_loopw [5] (fun i W => ∃ k : Nat, k ≤ n ∧ i = .int .i64 k ∧ Hid (l.take k = l'.take k) ∧ Hid (Below w.heap.size w W)) (fun i _ => n - (intOf i).toNat)
  case atStart => exact ⟨0, by omega, rfl, Lib.hid rfl, HS0⟩
  case round =>
    clear HS0
    obtain ⟨k, hk, rfl, HT, HS⟩ := hrel
    by_cases hlt : k < n
    · obtain ⟨s, hs⟩ : ∃ s, l[k]? = some s := ⟨l[k]'(by have := HL.out; omega), List.getElem?_eq_getElem _⟩
      obtain ⟨s', hs'⟩ : ∃ s, l'[k]? = some s := ⟨l'[k]'(by have := HL.out; omega), List.getElem?_eq_getElem _⟩
      have HK1 := Lib.hid (And.intro hs hs')
      clear hs hs'
      obtain ⟨x1, o1, ha1, f0, f1, f2, f3⟩ := Sy_at (HX.out wr HS.out).1 HK1.out.1
      obtain ⟨x1', o1', ha1', f0', f1', f2', f3'⟩ := Sy_at (HX.out wr HS.out).2 HK1.out.2
      subst ha1 ha1'
      obtain ⟨x, y, z, fn⟩ := s
      obtain ⟨x', y', z', fn'⟩ := s'
      dsimp only at f0 f1 f2 f3 f0' f1' f2' f3'
      go_wp2_with fail
      have HS2 : Hid (∀ q, Below w.heap.size w (wr.drewN q)) := Lib.hid (fun q => below_drewN HS.out q)
      clear HS
      have mixed := mixedT
      have g24 := neqY x y z fn x' y' z' fn'
      go_quiet_o (fail)
      go_wp2_with fail
      · rename_i hcd
        have he : ¬ (x = x' ∧ y = y' ∧ z = z' ∧ fn = fn') := by
          rintro ⟨rfl, rfl, rfl, rfl⟩
          simp at hcd
        have hD : decide (l = l') = false := decide_eq_false (fun e => he (by
          have e1 := HK1.out.1
          rw [e, HK1.out.2] at e1
          simp only [Option.some.injEq, Prod.mk.injEq] at e1
          exact ⟨e1.1.symm, e1.2.1.symm, e1.2.2.1.symm, e1.2.2.2.symm⟩))
        clear f0 f1 f2 f3 f0' f1' f2' f3' hcd
        go_ret
        exact ⟨by rw [hD]; rfl, HS2.out nq⟩
      · rename_i hcd
        have he : x = x' ∧ y = y' ∧ z = z' ∧ fn = fn' := by simpa using hcd
        have HT2 : Hid (l.take (k + 1) = l'.take (k + 1)) := Lib.hid (by
          rw [List.take_add_one, List.take_add_one, HT.out, HK1.out.1, HK1.out.2]
          obtain ⟨rfl, rfl, rfl, rfl⟩ := he
          rfl)
        clear f0 f1 f2 f3 f0' f1' f2' f3' hcd he
        go_roundw
        case rel => exact ⟨k + 1, by omega, by go_num, HT2, Lib.hid (HS2.out nq)⟩
        case measure => simp [intOf]; omega
    · obtain rfl : n = k := by omega
      have hD : decide (l = l') = true := decide_eq_true (by
        have e := HT.out
        have h1 := HL.out
        rw [← h1.1, List.take_length, h1.1, ← h1.2, List.take_length] at e
        exact e)
      go_wp2_with fail
      go_ret
      exact ⟨by rw [hD]; rfl, HS.out⟩
theorem res15 {W : World} {b : Nat} {f : Sy} {r : Int} {tm : Array Value} (hp : tm.getD 4 undef = .pointer (some ⟨b, 0, none⟩)) (hr : tm.getD 5 undef = .int .i64 r) (h : YB W b f) : (results Try.f15 tm).run Try.prog W = .ok (.tuple #[f.v, .int .i64 r]) W := by
  rw [results_cell_tmp (fn := Try.f15) (p := 4) (u := 5) (ty := 42) rfl, hp, hr]
  simp [asAddr, load42_run h, Result.andThen]
set_option maxRecDepth 100000 in
set_option maxHeartbeats 4000000 in
theorem rfind_any (a : Option Addr) (p : Nat) (l : List Sy) (nm : ByteArray) (hn : l.length ≤ 1000000) (w : World) (h : RX w a (l.flatMap Sy.cs)) : Calls Try.prog 15 #[.slice a l.length p, .string nm] w fun e W' => e = .returned (findV l nm) ∧ Below w.heap.size w W' := by
  have HX := Lib.hid (fun W (hb : Below w.heap.size w W) => h.keep hb)
  have HY0 : Hid (YB (w.alloc (.cells #[.string ⟨#[]⟩, .int .u64 0, .int .u64 0, .bool false] 42)) w.heap.size zsy) := Lib.hid (YB.new w)
  have HB0 := Lib.hid ((Below.refl w.heap.size w).alloc (Nat.le_refl _) (.cells #[.string ⟨#[]⟩, .int .u64 0, .int .u64 0, .bool false] 42))
  obtain ⟨n, hn1⟩ : ∃ n, l.length = n := ⟨_, rfl⟩
  rw [hn1] at hn ⊢
  have HL := Lib.hid hn1
  clear h hn1
  go_enter Try.func15, Try.ntmps15
  go_upto_region 1 with fail
  generalize World.alloc w _ = W1 at HY0 HB0 ⊢
  go_wp2_with fail
  go_loopw [6] (fun i W => ∃ k : Nat, k ≤ n ∧ i = .int .i64 k ∧ Hid (∀ j, j < k → ∀ x, l[j]? = some x → (x.2.2.2 && (x.1.toList == nm.toList)) = false) ∧ Hid (YB W w.heap.size zsy ∧ Below w.heap.size w W)) (fun i _ => n - (intOf i).toNat)
  case atStart => exact ⟨0, by omega, rfl, Lib.hid (fun j hj => absurd hj (by omega)), Lib.hid ⟨HY0.out, HB0.out⟩⟩
  case round =>
    clear HY0 HB0
    obtain ⟨k, hk, rfl, HA, HB⟩ := hrel
    by_cases hlt : k < n
    · obtain ⟨s, hs⟩ : ∃ s, l[k]? = some s := ⟨l[k]'(by have := HL.out; omega), List.getElem?_eq_getElem _⟩
      have HK1 := Lib.hid hs
      clear hs
      obtain ⟨x1, o1, ha1, f0, f1, f2, f3⟩ := Sy_at (HX.out wr HB.out.2) HK1.out
      subst ha1
      obtain ⟨x, y, z, fn⟩ := s
      dsimp only at f0 f1 f2 f3
      by_cases hf : (fn && (x.toList == nm.toList)) = true
      · have HE := Lib.hid (show findV l nm = .tuple #[Sy.v (x, y, z, fn), .int .i64 0] by unfold findV; rw [find_at HK1.out hf HA.out])
        have e1 : fn = true := by cases fn <;> simp_all
        have d1 : (x.toList == nm.toList) = true := (Bool.and_eq_true_iff.1 hf).2
        subst e1
        clear hf
        go_wp2_with (first | (refine wpList_store42 (u := zsy) (f := (x, y, z, true)) rfl rfl rfl rfl HB.out.1 ?_) | fail)
        exact bodyPost_ret (res15 rfl rfl (HB.out.1.put (x, y, z, true))) rfl ⟨by rw [HE.out], below_row' HB.out.2 (Nat.le_refl _)⟩
      · have HF : Hid ((fn && (x.toList == nm.toList)) = false) := Lib.hid (by simpa using hf)
        clear hf
        cases fn
        · go_wp2_with fail
          go_roundw
          case rel => exact ⟨k + 1, by omega, by go_num, Lib.hid (fun j hj s hs => by
            by_cases e : j = k
            · subst e
              have := Option.some.inj (HK1.out.symm.trans hs)
              rw [← this]
              exact HF.out
            · exact HA.out j (by omega) s hs), HB⟩
          case measure => simp [intOf]; omega
        · have d1 : (x.toList == nm.toList) = false := by simpa using HF.out
          go_wp2_with fail
          go_roundw
          case rel => exact ⟨k + 1, by omega, by go_num, Lib.hid (fun j hj s hs => by
            by_cases e : j = k
            · subst e
              have := Option.some.inj (HK1.out.symm.trans hs)
              rw [← this]
              exact HF.out
            · exact HA.out j (by omega) s hs), HB⟩
          case measure => simp [intOf]; omega
    · obtain rfl : n = k := by omega
      have HE := Lib.hid (show findV l nm = .tuple #[zsy.v, .int .i64 40] by unfold findV; rw [find_no (fun j hj => HA.out j (by have := HL.out; omega))])
      go_wp2_with (first | (refine wpList_store42 (u := zsy) (f := zsy) rfl rfl rfl rfl HB.out.1 ?_) | fail)
      exact bodyPost_ret (res15 rfl rfl (HB.out.1.put zsy)) rfl ⟨by rw [HE.out], below_row' HB.out.2 (Nat.le_refl _)⟩
end Go.Proofs.Ytegbhjmghkbgmaa
