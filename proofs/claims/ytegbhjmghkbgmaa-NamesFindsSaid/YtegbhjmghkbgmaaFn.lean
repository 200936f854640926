/- The searching law. -/
import Derived.Test.YtegbhjmghkbgmaaSp
import Derived.Test.YtegbhjmghkbgmaaWk
import Derived.Deep.DeepBigQuietO
namespace Go.Proofs.Ytegbhjmghkbgmaa
open Go.RowKit Go.Shelf
set_option linter.unusedVariables false
set_option linter.unusedSimpArgs false
attribute [local go_sem] Oper.semAt_some
theorem found (l : List Sy) (nm : ByteArray) : ∃ (s : Sy) (ev : Int), findV l nm = .tuple #[s.v, .int .i64 ev] ∧ ((findS l nm = some s ∧ ev = 0) ∨ (findS l nm = none ∧ ev = 40 ∧ s = zsy)) := by
  unfold findV
  cases h : findS l nm with
  | some s => exact ⟨s, 0, rfl, .inl ⟨rfl, rfl⟩⟩
  | none => exact ⟨zsy, 40, rfl, .inr ⟨rfl, rfl, rfl⟩⟩
set_option maxRecDepth 100000 in
set_option maxHeartbeats 4000000 in
theorem finds_law (a : Option Addr) (cap : Nat) (l : List Sy) (nm : ByteArray) (hn : l.length ≤ 9223372036854775807) (w : World) (h : RX w a (l.flatMap Sy.cs)) : Calls Try.prog 5 #[.slice a l.length cap, .string nm] w fun e W' => e = .returned (.bool true) ∧ Below w.heap.size w W' := by
  have HX := Lib.hid (fun W (hb : Below w.heap.size w W) => h.keep hb)
  have HB0 := Lib.hid (Below.refl w.heap.size w)
  have HWK := Lib.hid (fun W => wakes_any W)
  by_cases hbig : 100 < l.length
  · obtain ⟨n, hn1⟩ : ∃ n, l.length = n := ⟨_, rfl⟩
    rw [hn1] at hn hbig ⊢
    clear h hn1
    have hb1 : (100 : Int) < (n : Int) := by omega
    go_enter Try.func5, Try.ntmps5
    go_wp2_with (first | (go_at_call 8; refine (HWK.out _).mono ?_) | fail)
    first | (rintro e W1 rfl hb) | (rintro e W1 ⟨rfl, hb⟩)
    have HB := Lib.hid hb
    clear hb
    go_wp2_with fail
    go_ret
    exact ⟨rfl, HB.out⟩
  · have hl : l.length ≤ 1000000 := by omega
    have HF := Lib.hid (fun W (hb : Below w.heap.size w W) => find_any a cap l nm hl W (h.keep hb))
    obtain ⟨n, hn1⟩ : ∃ n, l.length = n := ⟨_, rfl⟩
    have HL := Lib.hid hn1
    rw [hn1] at hbig HF ⊢
    clear h hn1 hl hn
    have hb1 : ¬ (100 : Int) < (n : Int) := by omega
    go_enter Try.func5, Try.ntmps5
    go_wp2_with (first | (go_at_call 14; refine (HF.out _ HB0.out).mono ?_) | fail)
    obtain ⟨s, ev, hv, hcase⟩ := found l nm
    have HV := Lib.hid hcase
    clear hcase
    rw [hv]
    first | (rintro e W1 rfl hb) | (rintro e W1 ⟨rfl, hb⟩)
    have HB1 := Lib.hid hb
    clear hb hv HF
    obtain ⟨s1, s2, s3, s4⟩ := s
    unfold Sy.v
    dsimp only
    have HN : Hid (YB (W1.alloc (.cells #[.string s1, .int .u64 (s2 : Nat), .int .u64 (s3 : Nat), .bool s4] 42)) W1.heap.size (s1, s2, s3, s4) ∧ Below w.heap.size w (W1.alloc (.cells #[.string s1, .int .u64 (s2 : Nat), .int .u64 (s3 : Nat), .bool s4] 42))) := Lib.hid ⟨heap_alloc_last W1 _, HB1.out.alloc HB1.out.size _⟩
    go_wp2_with fail
    generalize World.alloc W1 _ = W2 at HN ⊢
    generalize W1.heap.size = b2 at HN ⊢
    go_loopw [7, 8] (fun u v W => ∃ (k : Nat) (fd : Bool), k ≤ n ∧ u = .bool fd ∧ v = .int .i64 k ∧ Hid ((fd = false → ∀ j, j < k → ∀ x, l[j]? = some x → (x.2.2.2 && (x.1.toList == nm.toList)) = false) ∧ (fd = true → findS l nm = some (s1, s2, s3, s4))) ∧ Hid (YB W b2 (s1, s2, s3, s4) ∧ Below w.heap.size w W)) (fun _ v _ => n - (intOf v).toNat)
    case atStart => exact ⟨0, false, by omega, rfl, rfl, Lib.hid ⟨fun _ j hj => absurd hj (by omega), fun e => by cases e⟩, HN⟩
    case round =>
      clear HN
      obtain ⟨k, fd, hk, rfl, rfl, HA, HS⟩ := hrel
      by_cases hgo : fd = false ∧ k < n
      · obtain ⟨rfl, hlt⟩ := hgo
        obtain ⟨t, ht⟩ : ∃ t, l[k]? = some t := ⟨l[k]'(by have := HL.out; omega), List.getElem?_eq_getElem _⟩
        have HK1 := Lib.hid ht
        clear ht
        obtain ⟨x1, o1, ha1, f0, f1, f2, f3⟩ := Sy_at (HX.out wr HS.out.2) HK1.out
        subst ha1
        obtain ⟨x, y, z, fn⟩ := t
        dsimp only at f0 f1 f2 f3
        by_cases hf : (fn && (x.toList == nm.toList)) = true
        · have HE : Hid (findS l nm = some (x, y, z, fn)) := Lib.hid (find_at HK1.out hf (HA.out.1 rfl))
          have e1 : fn = true := by cases fn <;> simp_all
          have d1 : (x.toList == nm.toList) = true := (Bool.and_eq_true_iff.1 hf).2
          obtain ⟨ex, ev0⟩ : ((s1, s2, s3, s4) : Sy) = (x, y, z, fn) ∧ ev = 0 := by
            rcases HV.out with ⟨h1, h2⟩ | ⟨h1, h2, _⟩
            · rw [HE.out] at h1
              exact ⟨(Option.some.inj h1).symm, h2⟩
            · rw [HE.out] at h1; cases h1
          cases ex
          subst e1 ev0
          have HS2 : Hid (∀ q, YB (wr.drewN q) b2 (s1, s2, s3, true) ∧ Below w.heap.size w (wr.drewN q)) := Lib.hid (fun q => ⟨HS.out.1, below_drewN HS.out.2 q⟩)
          obtain ⟨c0, c1, c2, c3⟩ := HS.out.1.c
          dsimp only at c0 c1 c2 c3
          have HA2 : Hid ((true = false → ∀ j, j < k + 1 → ∀ x, l[j]? = some x → (x.2.2.2 && (x.1.toList == nm.toList)) = false) ∧ (true = true → findS l nm = some (s1, s2, s3, true))) := Lib.hid ⟨fun e => (by cases e), fun _ => HE.out⟩
          clear hf HA HS HV HE
          have mixed := mixedT
          have g24 := neqY s1 s2 s3 true s1 s2 s3 true
          go_wp2_with fail
          go_quiet_o (fail)
          go_wp2_with fail
          go_roundw
          case rel => exact ⟨k + 1, true, by omega, rfl, by go_num, Lib.hid ⟨HA2.out.1, fun _ => HA2.out.2 (by trivial)⟩, Lib.hid (HS2.out _)⟩
          case measure => simp [intOf]; omega
        · have hf2 : (fn && (x.toList == nm.toList)) = false := by simpa using hf
          have HA2 : Hid ((false = false → ∀ j, j < k + 1 → ∀ x, l[j]? = some x → (x.2.2.2 && (x.1.toList == nm.toList)) = false) ∧ (false = true → findS l nm = some (s1, s2, s3, s4))) := Lib.hid ⟨fun _ j hj x' hx' => by
            by_cases e : j = k
            · subst e
              rw [HK1.out] at hx'
              cases hx'
              exact hf2
            · exact HA.out.1 rfl j (by omega) x' hx', fun e => by cases e⟩
          clear HA hf
          cases fn
          · clear hf2
            go_wp2_with fail
            go_roundw
            case rel => exact ⟨k + 1, false, by omega, rfl, by go_num, HA2, HS⟩
            case measure => simp [intOf]; omega
          · have d1 : (x.toList == nm.toList) = false := by simpa using hf2
            clear hf2
            go_wp2_with fail
            go_roundw
            case rel => exact ⟨k + 1, false, by omega, rfl, by go_num, HA2, HS⟩
            case measure => simp [intOf]; omega
      · have HFU := Lib.hid (fun W (hb : Below w.heap.size w W) => (show Calls Try.prog 16 #[.slice a n cap] W fun e W' => ∃ v, e = .returned v ∧ ∃ L', (Up L' ∧ SameK (l.filter isF) L') ∧ SY W L' v W' from by
          have h5 := funcs_any a cap l (by have := HL.out; omega) W (HX.out W hb)
          rw [HL.out] at h5
          exact h5))
        cases fd
        · obtain rfl : n = k := by
            have : ¬ k < n := fun h => hgo ⟨rfl, h⟩
            omega
          have hno : findS l nm = none := find_no (fun j hj => HA.out.1 rfl j (by have := HL.out; omega))
          obtain ⟨ex, ev0⟩ : ((s1, s2, s3, s4) : Sy) = zsy ∧ ev = 40 := by
            rcases HV.out with ⟨h1, h2⟩ | ⟨h1, h2, h3⟩
            · rw [hno] at h1; cases h1
            · exact ⟨h3, h2⟩
          unfold zsy at ex
          cases ex
          subst ev0
          clear hno HV HA
          obtain ⟨c0, c1, c2, c3⟩ := HS.out.1.c
          dsimp only at c0 c1 c2 c3
          go_wp2_with (first | (go_at_call 16; refine (HFU.out _ HS.out.2).mono ?_) | fail)
          first | (rintro e W3 x rfl L3 q1 q0 q2; have HF := Lib.hid (And.intro (And.intro q1 q0) q2); clear q1 q0 q2) | (rintro e W3 ⟨x, rfl, L3, q1, q2⟩; have HF := Lib.hid (And.intro q1 q2); clear q1 q2)
          clear HFU
          obtain ⟨a3, p3, rfl⟩ := owns_slice HF.out.2.1
          have HR : Hid (∀ W, Below W3.heap.size W3 W → RX W a3 (L3.flatMap Sy.cs) ∧ RX W a (l.flatMap Sy.cs) ∧ Below w.heap.size w W) := Lib.hid (fun W hb => by
            have h1 := HF.out.2
            have h2 := HS.out.2.trans (h1.2.mono HS.out.2.size)
            have h3 := h2.trans (hb.mono h2.size)
            exact ⟨(RX.own h1.1).keep hb, HX.out _ h3, h3⟩)
          obtain ⟨m, hm⟩ : ∃ m, L3.length = m := ⟨_, rfl⟩
          have HQ : Hid (L3.length = m ∧ Up L3 ∧ (∀ s, s ∈ L3 → s.2.2.2 = true) ∧ (∀ s : Sy, s.2.2.2 = true → L3.count s = l.count s) ∧ m = (l.filter isF).length ∧ m ≤ n) := Lib.hid (by
            have h1 := HF.out.1
            have h2 := SameK.len h1.2
            have h3 := List.length_filter_le isF l
            have h4 := HL.out
            exact ⟨hm, h1.1, (SameK.funcs h1.2).1, (SameK.funcs h1.2).2, by omega, by omega⟩)
          have HSM := Lib.hid (fun W (hb : Below W3.heap.size W3 W) => (show Calls Try.prog 13 #[.slice a n cap, .slice a n cap] W fun e W' => e = .returned (.bool true) ∧ Below W3.heap.size W3 W' from by
            have h5 := same_any a a cap cap l l (by have := HL.out; omega) (by have := HL.out; omega) W (HR.out W hb).2.1 (HR.out W hb).2.1
            rw [HL.out, decide_eq_true rfl] at h5
            exact h5.mono (fun e W' hp => ⟨hp.1, hb.trans (hp.2.mono hb.size)⟩)))
          have HB3 := Lib.hid (Below.refl W3.heap.size W3)
          have hmn : m ≤ 100 := by have := HQ.out.2.2.2.2.2; omega
          rw [hm]
          clear hm HF HS HX c0 c1 c2 c3
          generalize hB : W3.heap.size = B3 at HR HSM HB3
          have HBB := Lib.hid hB
          clear hB
          go_wp2_with fail
          go_loopw [11] (fun i W => ∃ k2 : Nat, k2 ≤ m ∧ i = .int .i64 k2 ∧ Hid (Below B3 W3 W)) (fun i _ => m - (intOf i).toNat)
          case atStart => exact ⟨0, by omega, rfl, HB3⟩
          case round =>
            clear HB3
            obtain ⟨k2, hk2, rfl, HS3⟩ := hrel
            by_cases hlt2 : k2 < m
            · obtain ⟨t, ht⟩ : ∃ s, L3[k2]? = some s := ⟨L3[k2]'(by have := HQ.out.1; omega), List.getElem?_eq_getElem _⟩
              have htf : t.2.2.2 = true := HQ.out.2.2.1 t (List.mem_of_getElem? ht)
              have HK2 := Lib.hid ht
              clear ht
              obtain ⟨x2, o2, ha2, f0, f1, f2, f3⟩ := Sy_at (HR.out wr HS3.out).1 HK2.out
              obtain ⟨x, y, z, fn⟩ := t
              dsimp only at f0 f1 f2 f3 htf
              subst htf
              have HS4 : Hid (∀ q, Below B3 W3 (wr.drewN q)) := Lib.hid (fun q => below_drewN HS3.out q)
              by_cases hz : k2 = 0
              · subst hz
                have hm1 : (0 : Int) < (m : Int) := by omega
                rw [Nat.zero_mul, Nat.add_zero] at f3
                subst ha2
                clear HS3 HR HSM f0 f1 f2
                have mixed := mixedT
                go_wp2_with fail
                go_big_quiet_o (fail)
                go_wp2_with fail
                go_roundw
                case rel => exact ⟨1, by omega, by go_num, Lib.hid (HS4.out _)⟩
                case measure => simp [intOf]; omega
              · have hz1 : (0 : Int) < (k2 : Int) := by omega
                have hz2 : 0 < k2 := by omega
                obtain ⟨j2, hj2⟩ : ∃ j, k2 = j + 1 := ⟨k2 - 1, by omega⟩
                obtain ⟨t', ht'⟩ : ∃ s, L3[j2]? = some s := ⟨L3[j2]'(by have := HQ.out.1; omega), List.getElem?_eq_getElem _⟩
                have hle : t'.2.1 ≤ y := Up.next HQ.out.2.1 ht' (by rw [← hj2]; exact HK2.out)
                obtain ⟨x2', o2', ha2', g0, g1, g2, g3⟩ := Sy_at (HR.out wr HS3.out).1 ht'
                rw [ha2] at ha2'
                cases ha2'
                subst ha2
                obtain ⟨x', y', z', fn'⟩ := t'
                dsimp only at g0 g1 g2 g3 hle
                have hle1 : ¬ (y : Int) < (y' : Int) := by omega
                have ej : (k2 : Int) - 1 = (j2 : Int) := by omega
                have uj : IntKind.i64.wrap (j2 : Int) = (j2 : Int) := IntWalk.i64_in _ (by omega)
                have bj : (j2 : Int) < (m : Int) := by omega
                have bjN : j2 < m := by omega
                clear hj2 hz hle
                clear HS3 HR HSM f0 f2 g0 g2 g3 ht'
                have mixed := mixedT
                go_wp2_with fail
                go_big_quiet_o (fail)
                go_wp2_with fail
                go_roundw
                case rel => exact ⟨k2 + 1, by omega, by go_num, Lib.hid (HS4.out _)⟩
                case measure => simp [intOf]; omega
            · obtain rfl : m = k2 := by omega
              go_wp2_with fail
              go_loopw [10, 12] (fun u i W => ∃ k2 : Nat, k2 ≤ n ∧ u = .int .i64 (((l.take k2).filter isF).length : Nat) ∧ i = .int .i64 k2 ∧ Hid (Below B3 W3 W)) (fun _ i _ => n - (intOf i).toNat)
              case atStart => exact ⟨0, by omega, rfl, rfl, HS3⟩
              case round =>
                clear HS3
                obtain ⟨k2, hk2, rfl, rfl, HS3⟩ := hrel
                have hcn : ((l.take k2).filter isF).length ≤ n := by
                  have e1 := List.length_filter_le isF (l.take k2)
                  have e2 : (l.take k2).length ≤ k2 := by rw [List.length_take]; omega
                  omega
                by_cases hlt2 : k2 < n
                · obtain ⟨t, ht⟩ : ∃ s, l[k2]? = some s := ⟨l[k2]'(by have := HL.out; omega), List.getElem?_eq_getElem _⟩
                  have HT : Hid (((l.take (k2 + 1)).filter isF).length = ((l.take k2).filter isF).length + (if isF t then 1 else 0)) := Lib.hid (by
                    rw [List.take_add_one, ht, List.filter_append, List.length_append]
                    cases hf : isF t <;> simp [hf])
                  have HK2 := Lib.hid ht
                  clear ht
                  generalize ((l.take k2).filter isF).length = cc at HT hcn ⊢
                  obtain ⟨x2, o2, ha2, f0, f1, f2, f3⟩ := Sy_at (HR.out wr HS3.out).2.1 HK2.out
                  obtain ⟨x, y, z, fn⟩ := t
                  dsimp only at f0 f1 f2 f3
                  cases fn
                  · subst ha2
                    have HT2 : Hid (((l.take (k2 + 1)).filter isF).length = cc) := Lib.hid (by rw [HT.out]; simp [isF])
                    clear HT f0 f1 f2
                    go_wp2_with fail
                    go_roundw
                    case rel => exact ⟨k2 + 1, by omega, by rw [HT2.out], by go_num, HS3⟩
                    case measure => simp [intOf]; omega
                  · have HT2 : Hid (((l.take (k2 + 1)).filter isF).length = cc + 1) := Lib.hid (by rw [HT.out]; simp [isF])
                    clear HT
                    have HAT := Lib.hid ha2
                    rw [ha2]
                    clear f0 f1 f2
                    go_wp2_with fail
                    clear f3
                    go_loopw [13, 15] (fun u i W => ∃ j : Nat, j ≤ n ∧ u = .int .i64 ((l.take j).count (x, y, z, true) : Nat) ∧ i = .int .i64 j ∧ Hid (Below B3 W3 W)) (fun _ i _ => n - (intOf i).toNat)
                    case atStart => exact ⟨0, by omega, rfl, rfl, HS3⟩
                    case round =>
                      clear HS3
                      obtain ⟨j, hj, rfl, rfl, HS3⟩ := hrel
                      have hcj : (l.take j).count (x, y, z, true) ≤ n := by
                        have e1 := List.count_le_length (a := ((x, y, z, true) : Sy)) (l := l.take j)
                        have e2 : (l.take j).length ≤ j := by rw [List.length_take]; omega
                        omega
                      by_cases hlj : j < n
                      · obtain ⟨t, ht⟩ : ∃ s, l[j]? = some s := ⟨l[j]'(by have := HL.out; omega), List.getElem?_eq_getElem _⟩
                        have HT3 : Hid ((l.take (j + 1)).count (x, y, z, true) = (l.take j).count (x, y, z, true) + (if t = (x, y, z, true) then 1 else 0)) := Lib.hid (count_step ht)
                        generalize (l.take j).count (x, y, z, true) = cj at HT3 hcj ⊢
                        obtain ⟨b1, p1, hb1', f0, f1, f2, f3⟩ := Sy_at (HR.out wr HS3.out).2.1 HK2.out
                        obtain ⟨b2', p2, hb2', g0, g1, g2, g3⟩ := Sy_at (HR.out wr HS3.out).2.1 ht
                        have HS4 : Hid (∀ q, Below B3 W3 (wr.drewN q)) := Lib.hid (fun q => below_drewN HS3.out q)
                        rw [HAT.out] at hb1'
                        cases hb1'
                        rw [HAT.out] at hb2'
                        cases hb2'
                        obtain ⟨x', y', z', fn'⟩ := t
                        dsimp only at f0 f1 f2 f3 g0 g1 g2 g3
                        clear HS3 ht
                        have mixed := mixedT
                        have g24 := eqlY x' y' z' fn' x y z true
                        by_cases he : ((x', y', z', fn') : Sy) = (x, y, z, true)
                        · have HT4 : Hid ((l.take (j + 1)).count (x, y, z, true) = cj + 1) := Lib.hid (by rw [HT3.out, if_pos he])
                          rw [decide_eq_true he] at g24
                          clear he HT3
                          go_wp2_with fail
                          go_quiet_o (fail)
                          clear f0 f1 f2 f3 g0 g1 g2 g3 g24
                          go_wp2_with fail
                          go_roundw
                          case rel => exact ⟨j + 1, by omega, by rw [HT4.out]; go_num, by go_num, Lib.hid (HS4.out _)⟩
                          case measure => simp [intOf]; omega
                        · have HT4 : Hid ((l.take (j + 1)).count (x, y, z, true) = cj) := Lib.hid (by rw [HT3.out, if_neg he, Nat.add_zero])
                          rw [decide_eq_false he] at g24
                          clear he HT3
                          go_wp2_with fail
                          go_quiet_o (fail)
                          clear f0 f1 f2 f3 g0 g1 g2 g3 g24
                          go_wp2_with fail
                          go_roundw
                          case rel => exact ⟨j + 1, by omega, by rw [HT4.out], by go_num, Lib.hid (HS4.out _)⟩
                          case measure => simp [intOf]; omega
                      · obtain rfl : n = j := by omega
                        have hE1 : (l.take n).count ((x, y, z, true) : Sy) = l.count (x, y, z, true) := by rw [← HL.out, List.take_length]
                        rw [hE1]
                        rw [hE1] at hcj
                        obtain ⟨tot, htot⟩ : ∃ tot, l.count ((x, y, z, true) : Sy) = tot := ⟨_, rfl⟩
                        have HTOT : Hid (L3.count ((x, y, z, true) : Sy) = tot) := Lib.hid ((HQ.out.2.2.2.1 (x, y, z, true) rfl).trans htot)
                        rw [htot]
                        rw [htot] at hcj
                        clear htot hE1
                        go_wp2_with fail
                        go_loopw [14, 16] (fun u i W => ∃ j : Nat, j ≤ m ∧ u = .int .i64 ((L3.take j).count (x, y, z, true) : Nat) ∧ i = .int .i64 j ∧ Hid (Below B3 W3 W)) (fun _ i _ => m - (intOf i).toNat)
                        case atStart => exact ⟨0, by omega, rfl, rfl, HS3⟩
                        case round =>
                          clear HS3
                          obtain ⟨j, hj, rfl, rfl, HS3⟩ := hrel
                          have hcj : (L3.take j).count (x, y, z, true) ≤ m := by
                            have e1 := List.count_le_length (a := ((x, y, z, true) : Sy)) (l := L3.take j)
                            have e2 : (L3.take j).length ≤ j := by rw [List.length_take]; omega
                            omega
                          by_cases hlj : j < m
                          · obtain ⟨t, ht⟩ : ∃ s, L3[j]? = some s := ⟨L3[j]'(by have := HQ.out.1; omega), List.getElem?_eq_getElem _⟩
                            have HT3 : Hid ((L3.take (j + 1)).count (x, y, z, true) = (L3.take j).count (x, y, z, true) + (if t = (x, y, z, true) then 1 else 0)) := Lib.hid (count_step ht)
                            generalize (L3.take j).count (x, y, z, true) = cj at HT3 hcj ⊢
                            obtain ⟨b1, p1, hb1', f0, f1, f2, f3⟩ := Sy_at (HR.out wr HS3.out).2.1 HK2.out
                            obtain ⟨b2', p2, hb2', g0, g1, g2, g3⟩ := Sy_at (HR.out wr HS3.out).1 ht
                            have HS4 : Hid (∀ q, Below B3 W3 (wr.drewN q)) := Lib.hid (fun q => below_drewN HS3.out q)
                            rw [HAT.out] at hb1'
                            cases hb1'
                            subst hb2'
                            obtain ⟨x', y', z', fn'⟩ := t
                            dsimp only at f0 f1 f2 f3 g0 g1 g2 g3
                            clear HS3 ht
                            have mixed := mixedT
                            have g24 := eqlY x' y' z' fn' x y z true
                            by_cases he : ((x', y', z', fn') : Sy) = (x, y, z, true)
                            · have HT4 : Hid ((L3.take (j + 1)).count (x, y, z, true) = cj + 1) := Lib.hid (by rw [HT3.out, if_pos he])
                              rw [decide_eq_true he] at g24
                              clear he HT3
                              go_wp2_with fail
                              go_quiet_o (fail)
                              clear f0 f1 f2 f3 g0 g1 g2 g3 g24
                              go_wp2_with fail
                              go_roundw
                              case rel => exact ⟨j + 1, by omega, by rw [HT4.out]; go_num, by go_num, Lib.hid (HS4.out _)⟩
                              case measure => simp [intOf]; omega
                            · have HT4 : Hid ((L3.take (j + 1)).count (x, y, z, true) = cj) := Lib.hid (by rw [HT3.out, if_neg he, Nat.add_zero])
                              rw [decide_eq_false he] at g24
                              clear he HT3
                              go_wp2_with fail
                              go_quiet_o (fail)
                              clear f0 f1 f2 f3 g0 g1 g2 g3 g24
                              go_wp2_with fail
                              go_roundw
                              case rel => exact ⟨j + 1, by omega, by rw [HT4.out], by go_num, Lib.hid (HS4.out _)⟩
                              case measure => simp [intOf]; omega
                          · obtain rfl : m = j := by omega
                            have hE1 : (L3.take m).count ((x, y, z, true) : Sy) = L3.count (x, y, z, true) := by rw [← HQ.out.1, List.take_length]
                            rw [hE1, HTOT.out]
                            clear hE1 hcj
                            go_wp2_with fail
                            go_roundw
                            case rel => exact ⟨k2 + 1, by omega, by rw [HT2.out]; go_num, by go_num, HS3⟩
                            case measure => simp [intOf]; omega
                · obtain rfl : n = k2 := by omega
                  have HE : Hid (((l.take n).filter isF).length = m) := Lib.hid (by rw [← HL.out, List.take_length]; exact HQ.out.2.2.2.2.1.symm)
                  rw [HE.out]
                  clear hcn HE
                  go_wp2_with (first | (go_at_call 13; refine (HSM.out _ HS3.out).mono ?_) | fail)
                  first | (rintro e W4 rfl hb) | (rintro e W4 ⟨rfl, hb⟩)
                  have HB4 := Lib.hid hb
                  clear hb
                  go_wp2_with (first | (go_at_call 8; refine (HWK.out _).mono ?_) | fail)
                  first | (rintro e W5 rfl hb) | (rintro e W5 ⟨rfl, hb⟩)
                  have HB5 := Lib.hid hb
                  clear hb
                  go_wp2_with fail
                  go_ret
                  exact ⟨rfl, (HR.out _ (HB4.out.trans (HB5.out.mono (by have := HBB.out; have := HB4.out.size; omega)))).2.2⟩
        · clear HV HA
          obtain ⟨c0, c1, c2, c3⟩ := HS.out.1.c
          dsimp only at c0 c1 c2 c3
          by_cases hkn : k < n
          · have hkn' : (k : Int) < (n : Int) := by omega
            go_wp2_with (first | (go_at_call 16; refine (HFU.out _ HS.out.2).mono ?_) | fail)
            first | (rintro e W3 x rfl L3 q1 q0 q2; have HF := Lib.hid (And.intro (And.intro q1 q0) q2); clear q1 q0 q2) | (rintro e W3 ⟨x, rfl, L3, q1, q2⟩; have HF := Lib.hid (And.intro q1 q2); clear q1 q2)
            clear HFU
            obtain ⟨a3, p3, rfl⟩ := owns_slice HF.out.2.1
            have HR : Hid (∀ W, Below W3.heap.size W3 W → RX W a3 (L3.flatMap Sy.cs) ∧ RX W a (l.flatMap Sy.cs) ∧ Below w.heap.size w W) := Lib.hid (fun W hb => by
              have h1 := HF.out.2
              have h2 := HS.out.2.trans (h1.2.mono HS.out.2.size)
              have h3 := h2.trans (hb.mono h2.size)
              exact ⟨(RX.own h1.1).keep hb, HX.out _ h3, h3⟩)
            obtain ⟨m, hm⟩ : ∃ m, L3.length = m := ⟨_, rfl⟩
            have HQ : Hid (L3.length = m ∧ Up L3 ∧ (∀ s, s ∈ L3 → s.2.2.2 = true) ∧ (∀ s : Sy, s.2.2.2 = true → L3.count s = l.count s) ∧ m = (l.filter isF).length ∧ m ≤ n) := Lib.hid (by
              have h1 := HF.out.1
              have h2 := SameK.len h1.2
              have h3 := List.length_filter_le isF l
              have h4 := HL.out
              exact ⟨hm, h1.1, (SameK.funcs h1.2).1, (SameK.funcs h1.2).2, by omega, by omega⟩)
            have HSM := Lib.hid (fun W (hb : Below W3.heap.size W3 W) => (show Calls Try.prog 13 #[.slice a n cap, .slice a n cap] W fun e W' => e = .returned (.bool true) ∧ Below W3.heap.size W3 W' from by
              have h5 := same_any a a cap cap l l (by have := HL.out; omega) (by have := HL.out; omega) W (HR.out W hb).2.1 (HR.out W hb).2.1
              rw [HL.out, decide_eq_true rfl] at h5
              exact h5.mono (fun e W' hp => ⟨hp.1, hb.trans (hp.2.mono hb.size)⟩)))
            have HB3 := Lib.hid (Below.refl W3.heap.size W3)
            have hmn : m ≤ 100 := by have := HQ.out.2.2.2.2.2; omega
            rw [hm]
            clear hm HF HS HX c0 c1 c2 c3
            generalize hB : W3.heap.size = B3 at HR HSM HB3
            have HBB := Lib.hid hB
            clear hB
            go_wp2_with fail
            go_loopw [11] (fun i W => ∃ k2 : Nat, k2 ≤ m ∧ i = .int .i64 k2 ∧ Hid (Below B3 W3 W)) (fun i _ => m - (intOf i).toNat)
            case atStart => exact ⟨0, by omega, rfl, HB3⟩
            case round =>
              clear HB3
              obtain ⟨k2, hk2, rfl, HS3⟩ := hrel
              by_cases hlt2 : k2 < m
              · obtain ⟨t, ht⟩ : ∃ s, L3[k2]? = some s := ⟨L3[k2]'(by have := HQ.out.1; omega), List.getElem?_eq_getElem _⟩
                have htf : t.2.2.2 = true := HQ.out.2.2.1 t (List.mem_of_getElem? ht)
                have HK2 := Lib.hid ht
                clear ht
                obtain ⟨x2, o2, ha2, f0, f1, f2, f3⟩ := Sy_at (HR.out wr HS3.out).1 HK2.out
                obtain ⟨x, y, z, fn⟩ := t
                dsimp only at f0 f1 f2 f3 htf
                subst htf
                have HS4 : Hid (∀ q, Below B3 W3 (wr.drewN q)) := Lib.hid (fun q => below_drewN HS3.out q)
                by_cases hz : k2 = 0
                · subst hz
                  have hm1 : (0 : Int) < (m : Int) := by omega
                  rw [Nat.zero_mul, Nat.add_zero] at f3
                  subst ha2
                  clear HS3 HR HSM f0 f1 f2
                  have mixed := mixedT
                  go_wp2_with fail
                  go_big_quiet_o (fail)
                  go_wp2_with fail
                  go_roundw
                  case rel => exact ⟨1, by omega, by go_num, Lib.hid (HS4.out _)⟩
                  case measure => simp [intOf]; omega
                · have hz1 : (0 : Int) < (k2 : Int) := by omega
                  have hz2 : 0 < k2 := by omega
                  obtain ⟨j2, hj2⟩ : ∃ j, k2 = j + 1 := ⟨k2 - 1, by omega⟩
                  obtain ⟨t', ht'⟩ : ∃ s, L3[j2]? = some s := ⟨L3[j2]'(by have := HQ.out.1; omega), List.getElem?_eq_getElem _⟩
                  have hle : t'.2.1 ≤ y := Up.next HQ.out.2.1 ht' (by rw [← hj2]; exact HK2.out)
                  obtain ⟨x2', o2', ha2', g0, g1, g2, g3⟩ := Sy_at (HR.out wr HS3.out).1 ht'
                  rw [ha2] at ha2'
                  cases ha2'
                  subst ha2
                  obtain ⟨x', y', z', fn'⟩ := t'
                  dsimp only at g0 g1 g2 g3 hle
                  have hle1 : ¬ (y : Int) < (y' : Int) := by omega
                  have ej : (k2 : Int) - 1 = (j2 : Int) := by omega
                  have uj : IntKind.i64.wrap (j2 : Int) = (j2 : Int) := IntWalk.i64_in _ (by omega)
                  have bj : (j2 : Int) < (m : Int) := by omega
                  have bjN : j2 < m := by omega
                  clear hj2 hz hle
                  clear HS3 HR HSM f0 f2 g0 g2 g3 ht'
                  have mixed := mixedT
                  go_wp2_with fail
                  go_big_quiet_o (fail)
                  go_wp2_with fail
                  go_roundw
                  case rel => exact ⟨k2 + 1, by omega, by go_num, Lib.hid (HS4.out _)⟩
                  case measure => simp [intOf]; omega
              · obtain rfl : m = k2 := by omega
                go_wp2_with fail
                go_loopw [10, 12] (fun u i W => ∃ k2 : Nat, k2 ≤ n ∧ u = .int .i64 (((l.take k2).filter isF).length : Nat) ∧ i = .int .i64 k2 ∧ Hid (Below B3 W3 W)) (fun _ i _ => n - (intOf i).toNat)
                case atStart => exact ⟨0, by omega, rfl, rfl, HS3⟩
                case round =>
                  clear HS3
                  obtain ⟨k2, hk2, rfl, rfl, HS3⟩ := hrel
                  have hcn : ((l.take k2).filter isF).length ≤ n := by
                    have e1 := List.length_filter_le isF (l.take k2)
                    have e2 : (l.take k2).length ≤ k2 := by rw [List.length_take]; omega
                    omega
                  by_cases hlt2 : k2 < n
                  · obtain ⟨t, ht⟩ : ∃ s, l[k2]? = some s := ⟨l[k2]'(by have := HL.out; omega), List.getElem?_eq_getElem _⟩
                    have HT : Hid (((l.take (k2 + 1)).filter isF).length = ((l.take k2).filter isF).length + (if isF t then 1 else 0)) := Lib.hid (by
                      rw [List.take_add_one, ht, List.filter_append, List.length_append]
                      cases hf : isF t <;> simp [hf])
                    have HK2 := Lib.hid ht
                    clear ht
                    generalize ((l.take k2).filter isF).length = cc at HT hcn ⊢
                    obtain ⟨x2, o2, ha2, f0, f1, f2, f3⟩ := Sy_at (HR.out wr HS3.out).2.1 HK2.out
                    obtain ⟨x, y, z, fn⟩ := t
                    dsimp only at f0 f1 f2 f3
                    cases fn
                    · subst ha2
                      have HT2 : Hid (((l.take (k2 + 1)).filter isF).length = cc) := Lib.hid (by rw [HT.out]; simp [isF])
                      clear HT f0 f1 f2
                      go_wp2_with fail
                      go_roundw
                      case rel => exact ⟨k2 + 1, by omega, by rw [HT2.out], by go_num, HS3⟩
                      case measure => simp [intOf]; omega
                    · have HT2 : Hid (((l.take (k2 + 1)).filter isF).length = cc + 1) := Lib.hid (by rw [HT.out]; simp [isF])
                      clear HT
                      have HAT := Lib.hid ha2
                      rw [ha2]
                      clear f0 f1 f2
                      go_wp2_with fail
                      clear f3
                      go_loopw [13, 15] (fun u i W => ∃ j : Nat, j ≤ n ∧ u = .int .i64 ((l.take j).count (x, y, z, true) : Nat) ∧ i = .int .i64 j ∧ Hid (Below B3 W3 W)) (fun _ i _ => n - (intOf i).toNat)
                      case atStart => exact ⟨0, by omega, rfl, rfl, HS3⟩
                      case round =>
                        clear HS3
                        obtain ⟨j, hj, rfl, rfl, HS3⟩ := hrel
                        have hcj : (l.take j).count (x, y, z, true) ≤ n := by
                          have e1 := List.count_le_length (a := ((x, y, z, true) : Sy)) (l := l.take j)
                          have e2 : (l.take j).length ≤ j := by rw [List.length_take]; omega
                          omega
                        by_cases hlj : j < n
                        · obtain ⟨t, ht⟩ : ∃ s, l[j]? = some s := ⟨l[j]'(by have := HL.out; omega), List.getElem?_eq_getElem _⟩
                          have HT3 : Hid ((l.take (j + 1)).count (x, y, z, true) = (l.take j).count (x, y, z, true) + (if t = (x, y, z, true) then 1 else 0)) := Lib.hid (count_step ht)
                          generalize (l.take j).count (x, y, z, true) = cj at HT3 hcj ⊢
                          obtain ⟨b1, p1, hb1', f0, f1, f2, f3⟩ := Sy_at (HR.out wr HS3.out).2.1 HK2.out
                          obtain ⟨b2', p2, hb2', g0, g1, g2, g3⟩ := Sy_at (HR.out wr HS3.out).2.1 ht
                          have HS4 : Hid (∀ q, Below B3 W3 (wr.drewN q)) := Lib.hid (fun q => below_drewN HS3.out q)
                          rw [HAT.out] at hb1'
                          cases hb1'
                          rw [HAT.out] at hb2'
                          cases hb2'
                          obtain ⟨x', y', z', fn'⟩ := t
                          dsimp only at f0 f1 f2 f3 g0 g1 g2 g3
                          clear HS3 ht
                          have mixed := mixedT
                          have g24 := eqlY x' y' z' fn' x y z true
                          by_cases he : ((x', y', z', fn') : Sy) = (x, y, z, true)
                          · have HT4 : Hid ((l.take (j + 1)).count (x, y, z, true) = cj + 1) := Lib.hid (by rw [HT3.out, if_pos he])
                            rw [decide_eq_true he] at g24
                            clear he HT3
                            go_wp2_with fail
                            go_quiet_o (fail)
                            clear f0 f1 f2 f3 g0 g1 g2 g3 g24
                            go_wp2_with fail
                            go_roundw
                            case rel => exact ⟨j + 1, by omega, by rw [HT4.out]; go_num, by go_num, Lib.hid (HS4.out _)⟩
                            case measure => simp [intOf]; omega
                          · have HT4 : Hid ((l.take (j + 1)).count (x, y, z, true) = cj) := Lib.hid (by rw [HT3.out, if_neg he, Nat.add_zero])
                            rw [decide_eq_false he] at g24
                            clear he HT3
                            go_wp2_with fail
                            go_quiet_o (fail)
                            clear f0 f1 f2 f3 g0 g1 g2 g3 g24
                            go_wp2_with fail
                            go_roundw
                            case rel => exact ⟨j + 1, by omega, by rw [HT4.out], by go_num, Lib.hid (HS4.out _)⟩
                            case measure => simp [intOf]; omega
                        · obtain rfl : n = j := by omega
                          have hE1 : (l.take n).count ((x, y, z, true) : Sy) = l.count (x, y, z, true) := by rw [← HL.out, List.take_length]
                          rw [hE1]
                          rw [hE1] at hcj
                          obtain ⟨tot, htot⟩ : ∃ tot, l.count ((x, y, z, true) : Sy) = tot := ⟨_, rfl⟩
                          have HTOT : Hid (L3.count ((x, y, z, true) : Sy) = tot) := Lib.hid ((HQ.out.2.2.2.1 (x, y, z, true) rfl).trans htot)
                          rw [htot]
                          rw [htot] at hcj
                          clear htot hE1
                          go_wp2_with fail
                          go_loopw [14, 16] (fun u i W => ∃ j : Nat, j ≤ m ∧ u = .int .i64 ((L3.take j).count (x, y, z, true) : Nat) ∧ i = .int .i64 j ∧ Hid (Below B3 W3 W)) (fun _ i _ => m - (intOf i).toNat)
                          case atStart => exact ⟨0, by omega, rfl, rfl, HS3⟩
                          case round =>
                            clear HS3
                            obtain ⟨j, hj, rfl, rfl, HS3⟩ := hrel
                            have hcj : (L3.take j).count (x, y, z, true) ≤ m := by
                              have e1 := List.count_le_length (a := ((x, y, z, true) : Sy)) (l := L3.take j)
                              have e2 : (L3.take j).length ≤ j := by rw [List.length_take]; omega
                              omega
                            by_cases hlj : j < m
                            · obtain ⟨t, ht⟩ : ∃ s, L3[j]? = some s := ⟨L3[j]'(by have := HQ.out.1; omega), List.getElem?_eq_getElem _⟩
                              have HT3 : Hid ((L3.take (j + 1)).count (x, y, z, true) = (L3.take j).count (x, y, z, true) + (if t = (x, y, z, true) then 1 else 0)) := Lib.hid (count_step ht)
                              generalize (L3.take j).count (x, y, z, true) = cj at HT3 hcj ⊢
                              obtain ⟨b1, p1, hb1', f0, f1, f2, f3⟩ := Sy_at (HR.out wr HS3.out).2.1 HK2.out
                              obtain ⟨b2', p2, hb2', g0, g1, g2, g3⟩ := Sy_at (HR.out wr HS3.out).1 ht
                              have HS4 : Hid (∀ q, Below B3 W3 (wr.drewN q)) := Lib.hid (fun q => below_drewN HS3.out q)
                              rw [HAT.out] at hb1'
                              cases hb1'
                              subst hb2'
                              obtain ⟨x', y', z', fn'⟩ := t
                              dsimp only at f0 f1 f2 f3 g0 g1 g2 g3
                              clear HS3 ht
                              have mixed := mixedT
                              have g24 := eqlY x' y' z' fn' x y z true
                              by_cases he : ((x', y', z', fn') : Sy) = (x, y, z, true)
                              · have HT4 : Hid ((L3.take (j + 1)).count (x, y, z, true) = cj + 1) := Lib.hid (by rw [HT3.out, if_pos he])
                                rw [decide_eq_true he] at g24
                                clear he HT3
                                go_wp2_with fail
                                go_quiet_o (fail)
                                clear f0 f1 f2 f3 g0 g1 g2 g3 g24
                                go_wp2_with fail
                                go_roundw
                                case rel => exact ⟨j + 1, by omega, by rw [HT4.out]; go_num, by go_num, Lib.hid (HS4.out _)⟩
                                case measure => simp [intOf]; omega
                              · have HT4 : Hid ((L3.take (j + 1)).count (x, y, z, true) = cj) := Lib.hid (by rw [HT3.out, if_neg he, Nat.add_zero])
                                rw [decide_eq_false he] at g24
                                clear he HT3
                                go_wp2_with fail
                                go_quiet_o (fail)
                                clear f0 f1 f2 f3 g0 g1 g2 g3 g24
                                go_wp2_with fail
                                go_roundw
                                case rel => exact ⟨j + 1, by omega, by rw [HT4.out], by go_num, Lib.hid (HS4.out _)⟩
                                case measure => simp [intOf]; omega
                            · obtain rfl : m = j := by omega
                              have hE1 : (L3.take m).count ((x, y, z, true) : Sy) = L3.count (x, y, z, true) := by rw [← HQ.out.1, List.take_length]
                              rw [hE1, HTOT.out]
                              clear hE1 hcj
                              go_wp2_with fail
                              go_roundw
                              case rel => exact ⟨k2 + 1, by omega, by rw [HT2.out]; go_num, by go_num, HS3⟩
                              case measure => simp [intOf]; omega
                  · obtain rfl : n = k2 := by omega
                    have HE : Hid (((l.take n).filter isF).length = m) := Lib.hid (by rw [← HL.out, List.take_length]; exact HQ.out.2.2.2.2.1.symm)
                    rw [HE.out]
                    clear hcn HE
                    go_wp2_with (first | (go_at_call 13; refine (HSM.out _ HS3.out).mono ?_) | fail)
                    first | (rintro e W4 rfl hb) | (rintro e W4 ⟨rfl, hb⟩)
                    have HB4 := Lib.hid hb
                    clear hb
                    go_wp2_with (first | (go_at_call 8; refine (HWK.out _).mono ?_) | fail)
                    first | (rintro e W5 rfl hb) | (rintro e W5 ⟨rfl, hb⟩)
                    have HB5 := Lib.hid hb
                    clear hb
                    go_wp2_with fail
                    go_ret
                    exact ⟨rfl, (HR.out _ (HB4.out.trans (HB5.out.mono (by have := HBB.out; have := HB4.out.size; omega)))).2.2⟩
          · have hkn' : ¬ (k : Int) < (n : Int) := by omega
            go_wp2_with (first | (go_at_call 16; refine (HFU.out _ HS.out.2).mono ?_) | fail)
            first | (rintro e W3 x rfl L3 q1 q0 q2; have HF := Lib.hid (And.intro (And.intro q1 q0) q2); clear q1 q0 q2) | (rintro e W3 ⟨x, rfl, L3, q1, q2⟩; have HF := Lib.hid (And.intro q1 q2); clear q1 q2)
            clear HFU
            obtain ⟨a3, p3, rfl⟩ := owns_slice HF.out.2.1
            have HR : Hid (∀ W, Below W3.heap.size W3 W → RX W a3 (L3.flatMap Sy.cs) ∧ RX W a (l.flatMap Sy.cs) ∧ Below w.heap.size w W) := Lib.hid (fun W hb => by
              have h1 := HF.out.2
              have h2 := HS.out.2.trans (h1.2.mono HS.out.2.size)
              have h3 := h2.trans (hb.mono h2.size)
              exact ⟨(RX.own h1.1).keep hb, HX.out _ h3, h3⟩)
            obtain ⟨m, hm⟩ : ∃ m, L3.length = m := ⟨_, rfl⟩
            have HQ : Hid (L3.length = m ∧ Up L3 ∧ (∀ s, s ∈ L3 → s.2.2.2 = true) ∧ (∀ s : Sy, s.2.2.2 = true → L3.count s = l.count s) ∧ m = (l.filter isF).length ∧ m ≤ n) := Lib.hid (by
              have h1 := HF.out.1
              have h2 := SameK.len h1.2
              have h3 := List.length_filter_le isF l
              have h4 := HL.out
              exact ⟨hm, h1.1, (SameK.funcs h1.2).1, (SameK.funcs h1.2).2, by omega, by omega⟩)
            have HSM := Lib.hid (fun W (hb : Below W3.heap.size W3 W) => (show Calls Try.prog 13 #[.slice a n cap, .slice a n cap] W fun e W' => e = .returned (.bool true) ∧ Below W3.heap.size W3 W' from by
              have h5 := same_any a a cap cap l l (by have := HL.out; omega) (by have := HL.out; omega) W (HR.out W hb).2.1 (HR.out W hb).2.1
              rw [HL.out, decide_eq_true rfl] at h5
              exact h5.mono (fun e W' hp => ⟨hp.1, hb.trans (hp.2.mono hb.size)⟩)))
            have HB3 := Lib.hid (Below.refl W3.heap.size W3)
            have hmn : m ≤ 100 := by have := HQ.out.2.2.2.2.2; omega
            rw [hm]
            clear hm HF HS HX c0 c1 c2 c3
            generalize hB : W3.heap.size = B3 at HR HSM HB3
            have HBB := Lib.hid hB
            clear hB
            go_wp2_with fail
            go_loopw [11] (fun i W => ∃ k2 : Nat, k2 ≤ m ∧ i = .int .i64 k2 ∧ Hid (Below B3 W3 W)) (fun i _ => m - (intOf i).toNat)
            case atStart => exact ⟨0, by omega, rfl, HB3⟩
            case round =>
              clear HB3
              obtain ⟨k2, hk2, rfl, HS3⟩ := hrel
              by_cases hlt2 : k2 < m
              · obtain ⟨t, ht⟩ : ∃ s, L3[k2]? = some s := ⟨L3[k2]'(by have := HQ.out.1; omega), List.getElem?_eq_getElem _⟩
                have htf : t.2.2.2 = true := HQ.out.2.2.1 t (List.mem_of_getElem? ht)
                have HK2 := Lib.hid ht
                clear ht
                obtain ⟨x2, o2, ha2, f0, f1, f2, f3⟩ := Sy_at (HR.out wr HS3.out).1 HK2.out
                obtain ⟨x, y, z, fn⟩ := t
                dsimp only at f0 f1 f2 f3 htf
                subst htf
                have HS4 : Hid (∀ q, Below B3 W3 (wr.drewN q)) := Lib.hid (fun q => below_drewN HS3.out q)
                by_cases hz : k2 = 0
                · subst hz
                  have hm1 : (0 : Int) < (m : Int) := by omega
                  rw [Nat.zero_mul, Nat.add_zero] at f3
                  subst ha2
                  clear HS3 HR HSM f0 f1 f2
                  have mixed := mixedT
                  go_wp2_with fail
                  go_big_quiet_o (fail)
                  go_wp2_with fail
                  go_roundw
                  case rel => exact ⟨1, by omega, by go_num, Lib.hid (HS4.out _)⟩
                  case measure => simp [intOf]; omega
                · have hz1 : (0 : Int) < (k2 : Int) := by omega
                  have hz2 : 0 < k2 := by omega
                  obtain ⟨j2, hj2⟩ : ∃ j, k2 = j + 1 := ⟨k2 - 1, by omega⟩
                  obtain ⟨t', ht'⟩ : ∃ s, L3[j2]? = some s := ⟨L3[j2]'(by have := HQ.out.1; omega), List.getElem?_eq_getElem _⟩
                  have hle : t'.2.1 ≤ y := Up.next HQ.out.2.1 ht' (by rw [← hj2]; exact HK2.out)
                  obtain ⟨x2', o2', ha2', g0, g1, g2, g3⟩ := Sy_at (HR.out wr HS3.out).1 ht'
                  rw [ha2] at ha2'
                  cases ha2'
                  subst ha2
                  obtain ⟨x', y', z', fn'⟩ := t'
                  dsimp only at g0 g1 g2 g3 hle
                  have hle1 : ¬ (y : Int) < (y' : Int) := by omega
                  have ej : (k2 : Int) - 1 = (j2 : Int) := by omega
                  have uj : IntKind.i64.wrap (j2 : Int) = (j2 : Int) := IntWalk.i64_in _ (by omega)
                  have bj : (j2 : Int) < (m : Int) := by omega
                  have bjN : j2 < m := by omega
                  clear hj2 hz hle
                  clear HS3 HR HSM f0 f2 g0 g2 g3 ht'
                  have mixed := mixedT
                  go_wp2_with fail
                  go_big_quiet_o (fail)
                  go_wp2_with fail
                  go_roundw
                  case rel => exact ⟨k2 + 1, by omega, by go_num, Lib.hid (HS4.out _)⟩
                  case measure => simp [intOf]; omega
              · obtain rfl : m = k2 := by omega
                go_wp2_with fail
                go_loopw [10, 12] (fun u i W => ∃ k2 : Nat, k2 ≤ n ∧ u = .int .i64 (((l.take k2).filter isF).length : Nat) ∧ i = .int .i64 k2 ∧ Hid (Below B3 W3 W)) (fun _ i _ => n - (intOf i).toNat)
                case atStart => exact ⟨0, by omega, rfl, rfl, HS3⟩
                case round =>
                  clear HS3
                  obtain ⟨k2, hk2, rfl, rfl, HS3⟩ := hrel
                  have hcn : ((l.take k2).filter isF).length ≤ n := by
                    have e1 := List.length_filter_le isF (l.take k2)
                    have e2 : (l.take k2).length ≤ k2 := by rw [List.length_take]; omega
                    omega
                  by_cases hlt2 : k2 < n
                  · obtain ⟨t, ht⟩ : ∃ s, l[k2]? = some s := ⟨l[k2]'(by have := HL.out; omega), List.getElem?_eq_getElem _⟩
                    have HT : Hid (((l.take (k2 + 1)).filter isF).length = ((l.take k2).filter isF).length + (if isF t then 1 else 0)) := Lib.hid (by
                      rw [List.take_add_one, ht, List.filter_append, List.length_append]
                      cases hf : isF t <;> simp [hf])
                    have HK2 := Lib.hid ht
                    clear ht
                    generalize ((l.take k2).filter isF).length = cc at HT hcn ⊢
                    obtain ⟨x2, o2, ha2, f0, f1, f2, f3⟩ := Sy_at (HR.out wr HS3.out).2.1 HK2.out
                    obtain ⟨x, y, z, fn⟩ := t
                    dsimp only at f0 f1 f2 f3
                    cases fn
                    · subst ha2
                      have HT2 : Hid (((l.take (k2 + 1)).filter isF).length = cc) := Lib.hid (by rw [HT.out]; simp [isF])
                      clear HT f0 f1 f2
                      go_wp2_with fail
                      go_roundw
                      case rel => exact ⟨k2 + 1, by omega, by rw [HT2.out], by go_num, HS3⟩
                      case measure => simp [intOf]; omega
                    · have HT2 : Hid (((l.take (k2 + 1)).filter isF).length = cc + 1) := Lib.hid (by rw [HT.out]; simp [isF])
                      clear HT
                      have HAT := Lib.hid ha2
                      rw [ha2]
                      clear f0 f1 f2
                      go_wp2_with fail
                      clear f3
                      go_loopw [13, 15] (fun u i W => ∃ j : Nat, j ≤ n ∧ u = .int .i64 ((l.take j).count (x, y, z, true) : Nat) ∧ i = .int .i64 j ∧ Hid (Below B3 W3 W)) (fun _ i _ => n - (intOf i).toNat)
                      case atStart => exact ⟨0, by omega, rfl, rfl, HS3⟩
                      case round =>
                        clear HS3
                        obtain ⟨j, hj, rfl, rfl, HS3⟩ := hrel
                        have hcj : (l.take j).count (x, y, z, true) ≤ n := by
                          have e1 := List.count_le_length (a := ((x, y, z, true) : Sy)) (l := l.take j)
                          have e2 : (l.take j).length ≤ j := by rw [List.length_take]; omega
                          omega
                        by_cases hlj : j < n
                        · obtain ⟨t, ht⟩ : ∃ s, l[j]? = some s := ⟨l[j]'(by have := HL.out; omega), List.getElem?_eq_getElem _⟩
                          have HT3 : Hid ((l.take (j + 1)).count (x, y, z, true) = (l.take j).count (x, y, z, true) + (if t = (x, y, z, true) then 1 else 0)) := Lib.hid (count_step ht)
                          generalize (l.take j).count (x, y, z, true) = cj at HT3 hcj ⊢
                          obtain ⟨b1, p1, hb1', f0, f1, f2, f3⟩ := Sy_at (HR.out wr HS3.out).2.1 HK2.out
                          obtain ⟨b2', p2, hb2', g0, g1, g2, g3⟩ := Sy_at (HR.out wr HS3.out).2.1 ht
                          have HS4 : Hid (∀ q, Below B3 W3 (wr.drewN q)) := Lib.hid (fun q => below_drewN HS3.out q)
                          rw [HAT.out] at hb1'
                          cases hb1'
                          rw [HAT.out] at hb2'
                          cases hb2'
                          obtain ⟨x', y', z', fn'⟩ := t
                          dsimp only at f0 f1 f2 f3 g0 g1 g2 g3
                          clear HS3 ht
                          have mixed := mixedT
                          have g24 := eqlY x' y' z' fn' x y z true
                          by_cases he : ((x', y', z', fn') : Sy) = (x, y, z, true)
                          · have HT4 : Hid ((l.take (j + 1)).count (x, y, z, true) = cj + 1) := Lib.hid (by rw [HT3.out, if_pos he])
                            rw [decide_eq_true he] at g24
                            clear he HT3
                            go_wp2_with fail
                            go_quiet_o (fail)
                            clear f0 f1 f2 f3 g0 g1 g2 g3 g24
                            go_wp2_with fail
                            go_roundw
                            case rel => exact ⟨j + 1, by omega, by rw [HT4.out]; go_num, by go_num, Lib.hid (HS4.out _)⟩
                            case measure => simp [intOf]; omega
                          · have HT4 : Hid ((l.take (j + 1)).count (x, y, z, true) = cj) := Lib.hid (by rw [HT3.out, if_neg he, Nat.add_zero])
                            rw [decide_eq_false he] at g24
                            clear he HT3
                            go_wp2_with fail
                            go_quiet_o (fail)
                            clear f0 f1 f2 f3 g0 g1 g2 g3 g24
                            go_wp2_with fail
                            go_roundw
                            case rel => exact ⟨j + 1, by omega, by rw [HT4.out], by go_num, Lib.hid (HS4.out _)⟩
                            case measure => simp [intOf]; omega
                        · obtain rfl : n = j := by omega
                          have hE1 : (l.take n).count ((x, y, z, true) : Sy) = l.count (x, y, z, true) := by rw [← HL.out, List.take_length]
                          rw [hE1]
                          rw [hE1] at hcj
                          obtain ⟨tot, htot⟩ : ∃ tot, l.count ((x, y, z, true) : Sy) = tot := ⟨_, rfl⟩
                          have HTOT : Hid (L3.count ((x, y, z, true) : Sy) = tot) := Lib.hid ((HQ.out.2.2.2.1 (x, y, z, true) rfl).trans htot)
                          rw [htot]
                          rw [htot] at hcj
                          clear htot hE1
                          go_wp2_with fail
                          go_loopw [14, 16] (fun u i W => ∃ j : Nat, j ≤ m ∧ u = .int .i64 ((L3.take j).count (x, y, z, true) : Nat) ∧ i = .int .i64 j ∧ Hid (Below B3 W3 W)) (fun _ i _ => m - (intOf i).toNat)
                          case atStart => exact ⟨0, by omega, rfl, rfl, HS3⟩
                          case round =>
                            clear HS3
                            obtain ⟨j, hj, rfl, rfl, HS3⟩ := hrel
                            have hcj : (L3.take j).count (x, y, z, true) ≤ m := by
                              have e1 := List.count_le_length (a := ((x, y, z, true) : Sy)) (l := L3.take j)
                              have e2 : (L3.take j).length ≤ j := by rw [List.length_take]; omega
                              omega
                            by_cases hlj : j < m
                            · obtain ⟨t, ht⟩ : ∃ s, L3[j]? = some s := ⟨L3[j]'(by have := HQ.out.1; omega), List.getElem?_eq_getElem _⟩
                              have HT3 : Hid ((L3.take (j + 1)).count (x, y, z, true) = (L3.take j).count (x, y, z, true) + (if t = (x, y, z, true) then 1 else 0)) := Lib.hid (count_step ht)
                              generalize (L3.take j).count (x, y, z, true) = cj at HT3 hcj ⊢
                              obtain ⟨b1, p1, hb1', f0, f1, f2, f3⟩ := Sy_at (HR.out wr HS3.out).2.1 HK2.out
                              obtain ⟨b2', p2, hb2', g0, g1, g2, g3⟩ := Sy_at (HR.out wr HS3.out).1 ht
                              have HS4 : Hid (∀ q, Below B3 W3 (wr.drewN q)) := Lib.hid (fun q => below_drewN HS3.out q)
                              rw [HAT.out] at hb1'
                              cases hb1'
                              subst hb2'
                              obtain ⟨x', y', z', fn'⟩ := t
                              dsimp only at f0 f1 f2 f3 g0 g1 g2 g3
                              clear HS3 ht
                              have mixed := mixedT
                              have g24 := eqlY x' y' z' fn' x y z true
                              by_cases he : ((x', y', z', fn') : Sy) = (x, y, z, true)
                              · have HT4 : Hid ((L3.take (j + 1)).count (x, y, z, true) = cj + 1) := Lib.hid (by rw [HT3.out, if_pos he])
                                rw [decide_eq_true he] at g24
                                clear he HT3
                                go_wp2_with fail
                                go_quiet_o (fail)
                                clear f0 f1 f2 f3 g0 g1 g2 g3 g24
                                go_wp2_with fail
                                go_roundw
                                case rel => exact ⟨j + 1, by omega, by rw [HT4.out]; go_num, by go_num, Lib.hid (HS4.out _)⟩
                                case measure => simp [intOf]; omega
                              · have HT4 : Hid ((L3.take (j + 1)).count (x, y, z, true) = cj) := Lib.hid (by rw [HT3.out, if_neg he, Nat.add_zero])
                                rw [decide_eq_false he] at g24
                                clear he HT3
                                go_wp2_with fail
                                go_quiet_o (fail)
                                clear f0 f1 f2 f3 g0 g1 g2 g3 g24
                                go_wp2_with fail
                                go_roundw
                                case rel => exact ⟨j + 1, by omega, by rw [HT4.out], by go_num, Lib.hid (HS4.out _)⟩
                                case measure => simp [intOf]; omega
                            · obtain rfl : m = j := by omega
                              have hE1 : (L3.take m).count ((x, y, z, true) : Sy) = L3.count (x, y, z, true) := by rw [← HQ.out.1, List.take_length]
                              rw [hE1, HTOT.out]
                              clear hE1 hcj
                              go_wp2_with fail
                              go_roundw
                              case rel => exact ⟨k2 + 1, by omega, by rw [HT2.out]; go_num, by go_num, HS3⟩
                              case measure => simp [intOf]; omega
                  · obtain rfl : n = k2 := by omega
                    have HE : Hid (((l.take n).filter isF).length = m) := Lib.hid (by rw [← HL.out, List.take_length]; exact HQ.out.2.2.2.2.1.symm)
                    rw [HE.out]
                    clear hcn HE
                    go_wp2_with (first | (go_at_call 13; refine (HSM.out _ HS3.out).mono ?_) | fail)
                    first | (rintro e W4 rfl hb) | (rintro e W4 ⟨rfl, hb⟩)
                    have HB4 := Lib.hid hb
                    clear hb
                    go_wp2_with (first | (go_at_call 8; refine (HWK.out _).mono ?_) | fail)
                    first | (rintro e W5 rfl hb) | (rintro e W5 ⟨rfl, hb⟩)
                    have HB5 := Lib.hid hb
                    clear hb
                    go_wp2_with fail
                    go_ret
                    exact ⟨rfl, (HR.out _ (HB4.out.trans (HB5.out.mono (by have := HBB.out; have := HB4.out.size; omega)))).2.2⟩
end Go.Proofs.Ytegbhjmghkbgmaa
