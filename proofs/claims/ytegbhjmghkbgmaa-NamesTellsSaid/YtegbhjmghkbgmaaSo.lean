/- slices.Equal over symbols; names.Same. -/
import Derived.Test.YtegbhjmghkbgmaaM
import Derived.Shelf.RegionOpenPlain
import Derived.Laws.StructEq
namespace Go.Proofs.Ytegbhjmghkbgmaa
open Go.RowKit Go.Shelf
set_option linter.unusedVariables false
set_option linter.unusedSimpArgs false
attribute [local go_sem] Oper.semAt_some
theorem below_drewN {B : Nat} {w W : World} (h : Below B w W) : ∀ q, Below B w (W.drewN q) := by
  intro q
  exact ⟨h.os, h.tape, h.output, h.size, h.block⟩
theorem ba_inj {x y : ByteArray} (h : x.toList = y.toList) : x = y := by
  have e := beq_toListBytes x y
  rw [h, beq_self_eq_true] at e
  obtain ⟨⟨a⟩⟩ := x
  obtain ⟨⟨b⟩⟩ := y
  have e2 : ((⟨a⟩ : Array UInt8) == ⟨b⟩) = true := e
  have e3 := eq_of_beq e2
  rw [e3]
theorem mixedT : Try.prog.follows Departure.mixedOrders = true := by kernel_rfl
theorem neqY (x : ByteArray) (y z : Nat) (f : Bool) (x' : ByteArray) (y' z' : Nat) (f' : Bool) (w : World) : Sem.run Try.prog (binOp .neq 42 (.agg #[.string x, .int .u64 (y : Nat), .int .u64 (z : Nat), .bool f]) (.agg #[.string x', .int .u64 (y' : Nat), .int .u64 (z' : Nat), .bool f'])) w = .ok (.bool (!decide (((x, y, z, f) : Sy) = (x', y', z', f')))) w := by
  rw [run_neq_struct, run_equalIn_agg _ _ _ _ _ (by kernel_rfl) (by kernel_rfl)]
  go_simp
  have e1 : x.toList = x'.toList ↔ x = x' := ⟨fun h => by
    exact ba_inj h, fun h => by rw [h]⟩
  have e2 : (y : Int) = (y' : Int) ↔ y = y' := by omega
  have e3 : (z : Int) = (z' : Int) ↔ z = z' := by omega
  simp only [e1, e2, e3]
  by_cases h1 : x = x' <;> by_cases h2 : y = y' <;> by_cases h3 : z = z' <;> by_cases h4 : f = f' <;> simp [h1, h2, h3, h4]
set_option maxRecDepth 100000 in
set_option maxHeartbeats 4000000 in
theorem eqY_any (a a' : Option Addr) (p p' : Nat) (l l' : List Sy) (hn : l.length ≤ 1000000) (hn' : l'.length ≤ 1000000) (w : World) (h : RX w a (l.flatMap Sy.cs)) (h' : RX w a' (l'.flatMap Sy.cs)) : Calls Try.prog 29 #[.slice a l.length p, .slice a' l'.length p'] w fun e W' => e = .returned (.bool (decide (l = l'))) ∧ Below w.heap.size w W' := by
  have HX := Lib.hid (fun W (hb : Below w.heap.size w W) => And.intro (h.keep hb) (h'.keep hb))
  have HS0 := Lib.hid (Below.refl w.heap.size w)
  obtain ⟨n, hn1⟩ : ∃ n, l.length = n := ⟨_, rfl⟩
  obtain ⟨n', hn1'⟩ : ∃ n', l'.length = n' := ⟨_, rfl⟩
  rw [hn1] at hn
  rw [hn1'] at hn'
  rw [hn1, hn1']
  have HL := Lib.hid (And.intro hn1 hn1')
  clear h h' hn1 hn1'
  by_cases hnn : n = n'
  rotate_left
  · have hne : ¬ (n : Int) = (n' : Int) := by omega
    have hD : decide (l = l') = false := decide_eq_false (fun e => hnn (by have := HL.out; rw [e] at this; omega))
    rw [hD]
    go_enter Try.func29, Try.ntmps29
    go_wp2_with fail
    go_ret
    exact ⟨rfl, HS0.out⟩
  subst hnn
  go_enter Try.func29, Try.ntmps29
  go_wp2_with fail
  go_loopw [5, 13] (fun u i W => ∃ k : Nat, k ≤ n ∧ i = .int .i64 k ∧ Hid (l.take k = l'.take k) ∧ Hid (Below w.heap.size w W)) (fun _ i _ => n - (intOf i).toNat)
  case atStart => exact ⟨0, by omega, rfl, Lib.hid rfl, HS0⟩
  case round =>
    clear HS0
    obtain ⟨k, hk, rfl, HT, HS⟩ := hrel
    by_cases hlt : k < n
    · obtain ⟨s, hs⟩ : ∃ s, l[k]? = some s := ⟨l[k]'(by have := HL.out; omega), List.getElem?_eq_getElem _⟩
      obtain ⟨s', hs'⟩ : ∃ s, l'[k]? = some s := ⟨l'[k]'(by have := HL.out; omega), List.getElem?_eq_getElem _⟩
      have HK1 := Lib.hid (And.intro hs hs')
      clear hs hs'
      obtain ⟨x1, o1, ha1, f0, f1, f2, f3⟩ := Sy_at (HX.out wr HS.out).1 HK1.out.1
      obtain ⟨x1', o1', ha1', f0', f1', f2', f3'⟩ := Sy_at (HX.out wr HS.out).2 HK1.out.2
      subst ha1 ha1'
      obtain ⟨x, y, z, fn⟩ := s
      obtain ⟨x', y', z', fn'⟩ := s'
      dsimp only at f0 f1 f2 f3 f0' f1' f2' f3'
      go_wp2_with fail
      have HS2 : Hid (∀ q, Below w.heap.size w (wr.drewN q)) := Lib.hid (fun q => below_drewN HS.out q)
      clear HS
      have mixed := mixedT
      have g24 := neqY x y z fn x' y' z' fn'
      go_quiet_o (fail)
      go_wp2_with fail
      · rename_i hcd
        have he : ¬ (x = x' ∧ y = y' ∧ z = z' ∧ fn = fn') := by
          rintro ⟨rfl, rfl, rfl, rfl⟩
          simp at hcd
        have hD : decide (l = l') = false := decide_eq_false (fun e => he (by
          have e1 := HK1.out.1
          rw [e, HK1.out.2] at e1
          simp only [Option.some.injEq, Prod.mk.injEq] at e1
          exact ⟨e1.1.symm, e1.2.1.symm, e1.2.2.1.symm, e1.2.2.2.symm⟩))
        clear f0 f1 f2 f3 f0' f1' f2' f3' hcd
        go_ret
        exact ⟨by rw [hD]; rfl, HS2.out nq⟩
      · rename_i hcd
        have he : x = x' ∧ y = y' ∧ z = z' ∧ fn = fn' := by simpa using hcd
        have HT2 : Hid (l.take (k + 1) = l'.take (k + 1)) := Lib.hid (by
          rw [List.take_add_one, List.take_add_one, HT.out, HK1.out.1, HK1.out.2]
          obtain ⟨rfl, rfl, rfl, rfl⟩ := he
          rfl)
        clear f0 f1 f2 f3 f0' f1' f2' f3' hcd he
        go_roundw
        case rel => exact ⟨k + 1, by omega, by go_num, HT2, Lib.hid (HS2.out nq)⟩
        case measure => simp [intOf]; omega
    · obtain rfl : n = k := by omega
      have hD : decide (l = l') = true := decide_eq_true (by
        have e := HT.out
        have h1 := HL.out
        rw [← h1.1, List.take_length, h1.1, ← h1.2, List.take_length] at e
        exact e)
      go_wp2_with fail
      go_ret
      exact ⟨by rw [hD]; rfl, HS.out⟩
set_option maxRecDepth 100000 in
theorem same_any (a a' : Option Addr) (p p' : Nat) (l l' : List Sy) (hn : l.length ≤ 1000000) (hn' : l'.length ≤ 1000000) (w : World) (h : RX w a (l.flatMap Sy.cs)) (h' : RX w a' (l'.flatMap Sy.cs)) : Calls Try.prog 13 #[.slice a l.length p, .slice a' l'.length p'] w fun e W' => e = .returned (.bool (decide (l = l'))) ∧ Below w.heap.size w W' := by
  have HI := Lib.hid (fun W (hb : Below w.heap.size w W) => (eqY_any a a' p p' l l' hn hn' W (h.keep hb) (h'.keep hb)).mono (fun e W' hp => And.intro hp.1 (hb.trans (hp.2.mono hb.size))))
  have HS0 := Lib.hid (Below.refl w.heap.size w)
  generalize l.length = n at HI ⊢
  generalize l'.length = n' at HI ⊢
  clear h h' hn hn'
  go_enter Try.func13, Try.ntmps13
  go_wp2_with (first | (go_at_call 29; refine (HI.out _ HS0.out).mono ?_) | fail)
  first | (rintro e W1 rfl hb) | (rintro e W1 ⟨rfl, hb⟩)
  have HB := Lib.hid hb
  clear hb
  go_wp2_with fail
  go_ret
  exact ⟨rfl, HB.out⟩
end Go.Proofs.Ytegbhjmghkbgmaa
