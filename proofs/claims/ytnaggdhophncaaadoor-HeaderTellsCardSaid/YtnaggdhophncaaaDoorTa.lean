/- header.taken. -/
import Derived.Test.YtnaggdhophncaaaDoorNu
namespace Go.Proofs.YtnaggdhophncaaaDoor
open Go.RowKit Go.Shelf
set_option linter.unusedVariables false
set_option linter.unusedSimpArgs false
attribute [local go_sem] Oper.semAt_some
def sK (zs : List Int) (k : Nat) : Int := zs.getD k 0
/-- Where it stands, and how many it told, behind so many sizes. -/
def atK (zs : List Int) : Nat → Nat
  | 0 => 0
  | k + 1 => atK zs k + (sK zs k).natAbs
def iK (zs : List Int) : Nat → Nat
  | 0 => 0
  | k + 1 => iK zs k + (if sK zs k < 0 then 0 else 1)
def outK (nn : Nat) (z : Nat → Nat) (zs : List Int) : Nat → List (Pl nn)
  | 0 => []
  | k + 1 => outK nn z zs k ++ (if sK zs k < 0 then [] else if h : iK zs k < nn then [⟨(iK zs k, numN (fun j => z (atK zs k + j)) (sK zs k).natAbs), h⟩] else [])
theorem outK_len (nn : Nat) (z : Nat → Nat) (zs : List Int) : ∀ k, (outK nn z zs k).length ≤ iK zs k
  | 0 => Nat.le_refl _
  | k + 1 => by
    have ih := outK_len nn z zs k
    show (outK nn z zs k ++ (if sK zs k < 0 then ([] : List (Pl nn)) else if h : iK zs k < nn then [⟨(iK zs k, numN (fun j => z (atK zs k + j)) (sK zs k).natAbs), h⟩] else [])).length ≤ iK zs k + (if sK zs k < 0 then 0 else 1)
    rw [List.length_append]
    by_cases h1 : sK zs k < 0
    · rw [if_pos h1, if_pos h1]; simpa using ih
    · rw [if_neg h1, if_neg h1]
      by_cases h2 : iK zs k < nn
      · rw [dif_pos h2]; simp; omega
      · rw [dif_neg h2]; simp; omega
/-- The sizes fit so many bytes. -/
def FitT (zs : List Int) (len n : Nat) : Prop := ∀ k, k < zs.length → -1000 ≤ sK zs k ∧ (0 ≤ sK zs k → 1 ≤ sK zs k ∧ sK zs k ≤ 8 ∧ atK zs k + (sK zs k).natAbs ≤ len ∧ iK zs k < n) ∧ atK zs k ≤ 100000 ∧ iK zs k ≤ 1000
def KpT (a b c : Nat) (W W' : World) : Prop := W'.heap[a]? = W.heap[a]? ∧ W'.heap[b]? = W.heap[b]? ∧ W'.heap[c]? = W.heap[c]?
theorem kpT_t {a b c : Nat} {X Y Z : World} (h : KpT a b c X Y) (k : KpT a b c Y Z) : KpT a b c X Z := ⟨k.1.trans h.1, k.2.1.trans h.2.1, k.2.2.trans h.2.2⟩
theorem kpT_b {a b c : Nat} {w : World} (h1 : a < w.heap.size) (h2 : b < w.heap.size) (h3 : c < w.heap.size) (W : World) (l : Nat) (o o' : Obj) (hl : w.heap.size ≤ l) (h : W.heap[l]? = some o) (_ : o.isCells = false) (_ : o.isWalk = false) : KpT a b c W (W.putObj l o') :=
  ⟨World.putObj_heap_other (by omega), World.putObj_heap_other (by omega), World.putObj_heap_other (by omega)⟩
/-- What the iterator looks at: the box of the bytes, the sizes, the bytes. -/
def TV (B sb g off len cap : Nat) (zs : List Int) (z : Nat → Nat) (W : World) : Prop := W.cell? ⟨B, 0, none⟩ = some (.slice (some ⟨g, off, none⟩) len cap) ∧ (∀ k, k < zs.length → W.cell? ⟨sb, k, none⟩ = some (.int .i64 (sK zs k))) ∧ ∀ j, j < len → W.cell? ⟨g, off + j, none⟩ = some (.int .u8 (z j : Nat))
theorem TV.kp {W W' : World} {B sb g off len cap : Nat} {zs : List Int} {z : Nat → Nat} (h : TV B sb g off len cap zs z W) (k : KpT B sb g W W') : TV B sb g off len cap zs z W' :=
  ⟨(World.cell?_of_block k.1).trans h.1, fun i hi => (World.cell?_of_block k.2.1).trans (h.2.1 i hi), fun j hj => (World.cell?_of_block k.2.2).trans (h.2.2 j hj)⟩
set_option maxRecDepth 100000 in
set_option maxHeartbeats 4000000 in
theorem taken_in (n : Nat) (hn : 1 ≤ n) (l A B sb sc g off len cap nn : Nat) (zs : List Int) (z : Nat → Nat) (hz : ∀ j, z j < 256) (hf : FitT zs len nn) (hzs : zs.length ≤ 1000) (hsc : zs.length ≤ sc) (hl : len ≤ cap) (hm : cap ≤ 9223372036854775807) (J Jx : List (Pl nn) → World → Prop)
    (hY : ∀ pre (x : Pl nn) W, J pre W → pre.length < nn → YieldAt Fence.wide (n - 1) Tryd.prog l #[.int .i64 (x.1.1 : Nat), .int .u64 (x.1.2 : Nat)] W fun e W' => (e = .returned (.bool true) ∧ J (pre ++ [x]) W' ∧ KpT B sb g W W') ∨ (e = .returned (.bool false) ∧ Jx (pre ++ [x]) W'))
    (W : World) (hA : W.cell? ⟨A, 0, none⟩ = some (.slice (some ⟨sb, 0, none⟩) zs.length sc)) (hT : TV B sb g off len cap zs z W) (h0 : J [] W) :
    CallsIn Fence.wide n Tryd.prog 38 #[.func (.yield l) #[] #[], .pointer (some ⟨A, 0, none⟩), .pointer (some ⟨B, 0, none⟩)] W fun e W' => (∃ v, e = .returned v) ∧ ((∃ ys, ys = outK nn z zs zs.length ∧ J ys W') ∨ (∃ pre, True ∧ Jx pre W')) := by
  have HT := Lib.hid hT
  have HY := Lib.hid hY
  have HF := Lib.hid hf
  have hro : Fence.wide.round = none := rfl
  clear hT hY hf
  refine callsIn_of_wp Tryd.func38 rfl trivial ?_ hro
  simp only [Tryd.ntmps38, List.size_toArray, List.length_cons, List.length_nil, Nat.reduceAdd, Nat.reduceSub, Array.replicate_succ, Array.replicate_zero, List.push_toArray, List.append_toArray, List.nil_append, List.cons_append]
  gi_wp2
  gi_loopw [4, 5, 10] (fun a i q wr => ∃ k : Nat, k ≤ zs.length ∧ a = .int .i64 (atK zs k : Nat) ∧ i = .int .i64 (iK zs k : Nat) ∧ q = .int .i64 k ∧ J (outK nn z zs k) wr ∧ Hid (TV B sb g off len cap zs z wr)) (fun _ _ q _ => zs.length - (intOf q).toNat)
  case atStart => exact ⟨0, Nat.zero_le _, rfl, rfl, rfl, h0, HT⟩
  case round =>
    clear HT
    obtain ⟨k, hk, rfl, rfl, rfl, hJ, HT⟩ := hrel
    by_cases hlt : k < zs.length
    · have hc := HT.out.2.1 k hlt
      have hcB := HT.out.1
      obtain ⟨f1, f2, f3, f4⟩ := HF.out k hlt
      have HJ := Lib.hid hJ
      have HO := Lib.hid (show outK nn z zs (k + 1) = outK nn z zs k ++ (if sK zs k < 0 then [] else if h : iK zs k < nn then [⟨(iK zs k, numN (fun j => z (atK zs k + j)) (sK zs k).natAbs), h⟩] else []) from rfl)
      have HA := Lib.hid (And.intro (show atK zs (k + 1) = atK zs k + (sK zs k).natAbs from rfl) (show iK zs (k + 1) = iK zs k + (if sK zs k < 0 then 0 else 1) from rfl))
      have hlen := outK_len nn z zs k
      clear hJ
      generalize hs : sK zs k = s at *
      generalize hat : atK zs k = a at *
      generalize hii : iK zs k = i at *
      generalize outK nn z zs k = pre at *
      clear hs hat hii
      by_cases hneg : s < 0
      · have hw : IntKind.i64.wrap ((a : Int) - s) = ((a + s.natAbs : Nat) : Int) := by
          rw [IntWalk.i64_in _ (by omega)]; omega
        gi_wp2
        go_roundw
        case rel => exact ⟨k + 1, by omega, by rw [HA.out.1]; simp, by rw [HA.out.2, if_pos hneg]; simp, by go_num, by rw [HO.out, if_pos hneg, List.append_nil]; exact HJ.out, HT⟩
        case measure => simp [intOf]; omega
      · obtain ⟨s', rfl⟩ : ∃ s' : Nat, s = (s' : Int) := Int.eq_ofNat_of_zero_le (by omega)
        obtain ⟨g1, g2, g3, g4⟩ := f2 (by omega)
        have hs1 : 1 ≤ s' := by omega
        have hs8 : s' ≤ 8 := by omega
        have hfit : a + s' ≤ len := by simpa using g3
        simp only [Int.natAbs_natCast] at HO HA
        have HN := Lib.hid (hnum_any (some ⟨g, off, none⟩) len cap z hz a s' hs1 hs8 hfit hl hm wr (fun _ => ⟨g, off, rfl, HT.out.2.2⟩))
        obtain ⟨fn, tmps, assign, body, hy, hR⟩ := HY.out pre ⟨(i, numN (fun j => z (a + j)) s'), g4⟩ wr HJ.out (by omega)
        have HR := Lib.hid hR
        dsimp only at hy
        have hnn : ¬ (s' : Int) < 0 := by omega
        have hw : IntKind.i64.wrap ((a : Int) + (s' : Int)) = (a : Int) + (s' : Int) := IntWalk.i64_in _ (by omega)
        have hw2 : IntKind.i64.wrap ((i : Int) + 1) = (i : Int) + 1 := IntWalk.i64_in _ (by omega)
        rw [if_neg hnn, dif_pos g4] at HO
        clear g1 g2 g3 f1 f2 hR
        gi_wp2
        refine ⟨trivial, (callsIn_wide.2 HN.out).mono ?_⟩
        rintro e w9 ⟨rfl, hw9⟩
        subst hw9
        gi_wp2
        refine HR.out.mono ?_
        rintro e W3 (⟨rfl, hJ3, hk3⟩ | ⟨rfl, hJx3⟩)
        · have HT3 := Lib.hid (HT.out.kp hk3)
          clear hc hcB
          gi_wp2
          go_roundw
          case rel => exact ⟨k + 1, by omega, by rw [HA.out.1]; simp, by rw [HA.out.2, if_neg (by omega)]; simp, by go_num, by rw [HO.out]; exact hJ3, HT3⟩
          case measure => simp [intOf]; omega
        · gi_wp2
          refine bodyPost_ret (results_none rfl _ _ _) rfl ?_
          exact ⟨⟨_, rfl⟩, .inr ⟨_, trivial, hJx3⟩⟩
    · obtain rfl : k = zs.length := by omega
      gi_wp2
      go_end0
      exact ⟨⟨_, rfl⟩, .inl ⟨_, rfl, hJ⟩⟩
theorem taken_stops (n : Nat) (hn : 1 ≤ n) (A B sb sc g off len cap nn : Nat) (zs : List Int) (z : Nat → Nat) (hz : ∀ j, z j < 256) (hf : FitT zs len nn) (hzs : zs.length ≤ 1000) (hsc : zs.length ≤ sc) (hl : len ≤ cap) (hm : cap ≤ 9223372036854775807) (w : World) (hA : w.cell? ⟨A, 0, none⟩ = some (.slice (some ⟨sb, 0, none⟩) zs.length sc)) (hT : TV B sb g off len cap zs z w) :
    SeqStopsK Fence.wide n Tryd.prog 38 #[.pointer (some ⟨A, 0, none⟩), .pointer (some ⟨B, 0, none⟩)] (fun x : Pl nn => #[Value.int .i64 (x.1.1 : Nat), Value.int .u64 (x.1.2 : Nat)]) (KpT B sb g) (fun ys => ys = outK nn z zs zs.length) (fun _ => True) nn w := fun l J Jx W hW _ _ hY h0 =>
  taken_in n hn l A B sb sc g off len cap nn zs z hz hf hzs hsc hl hm J Jx hY W (cell_keep hA hW) ⟨cell_keep hT.1 hW, fun k hk => cell_keep (hT.2.1 k hk) hW, fun j hj => cell_keep (hT.2.2 j hj) hW⟩ h0
theorem taken_any (ad sd : Option Addr) (len cap m c : Nat) (w : World) : Calls Tryd.prog 33 #[.slice ad len cap, .slice sd m c] w fun e w' => e = .returned (.func (.func 38) #[] #[.pointer (some ⟨w.heap.size + 1, 0, none⟩), .pointer (some ⟨w.heap.size, 0, none⟩)]) ∧ w' = (w.alloc (.cells #[.slice ad len cap] 22)).alloc (.cells #[.slice sd m c] 71) := by
  go_enter Tryd.func33, Tryd.ntmps33
  go_wp2_with fail
  go_ret
  exact ⟨rfl, rfl⟩
end Go.Proofs.YtnaggdhophncaaaDoor
