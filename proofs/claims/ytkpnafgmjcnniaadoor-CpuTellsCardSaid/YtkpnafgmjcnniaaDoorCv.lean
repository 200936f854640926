/- CPUs as arguments. -/
import Derived.Test.YtkpnafgmjcnniaaDoorCs
import Derived.OpenShut
import Derived.ChangeSame
import Derived.RowKit3
import Derived.DeepKeys
import Derived.Test.YtkpnafgmjcnniaaDoorLa
namespace Go.Proofs.YtkpnafgmjcnniaaDoor
open Go.ChangeShapes Go.WideShapes Go.ChangeAt Go.RowKit
set_option linter.unusedVariables false
set_option linter.unusedSimpArgs false
theorem cell_int {P : Program} {w : World} {r : Reach} {b : Nat} {t : TypeId} {k : IntKind} {v : Value} (hu : P.underlying t = some (.int k)) (h : Cell.okWide P w r b t v) : ∃ n, v = .int k n ∧ k.has n := by
  unfold Cell.okWide at h
  rw [hu] at h
  unfold Cell.ok at h
  rw [hu] at h
  cases v <;> simp at h
  rename_i k' n
  exact ⟨n, by rw [h.1], h.2⟩
theorem cell_bool {P : Program} {w : World} {r : Reach} {b : Nat} {t : TypeId} {v : Value} (hu : P.underlying t = some .bool) (h : Cell.okWide P w r b t v) : ∃ x, v = .bool x := by
  unfold Cell.okWide at h
  rw [hu] at h
  unfold Cell.ok at h
  rw [hu] at h
  cases v <;> simp at h
  rename_i x
  exact ⟨x, rfl⟩
theorem ts50 : Tryd.prog.cellTypes Tryd.prog.depth 50 = some (List.replicate 16 43 ++ (List.replicate 256 5 ++ (List.replicate 5 4 ++ [43]))) := by kernel_rfl
theorem cells50 : Tryd.prog.cellsOf 50 = 278 := by kernel_rfl
theorem has_u64 {n : Int} (h : IntKind.u64.has n) : 0 ≤ n ∧ n < 18446744073709551616 := by
  have h1 : IntKind.u64.min = 0 := by decide
  have h2 : IntKind.u64.max = 18446744073709551615 := by decide
  unfold IntKind.has at h
  rw [h1, h2] at h
  omega
theorem has_u8 {n : Int} (h : IntKind.u8.has n) : 0 ≤ n ∧ n < 256 := by
  have h1 : IntKind.u8.min = 0 := by decide
  have h2 : IntKind.u8.max = 255 := by decide
  unfold IntKind.has at h
  rw [h1, h2] at h
  omega
/-- What a CPU's cells are, all of them. -/
structure CPUF (c : Array Value) : Prop where
  size : c.size = 278
  reg : ∀ i, i < 16 → ∃ n : Nat, c[i]? = some (.int .u64 n) ∧ n < 18446744073709551616
  vec : ∀ i, 16 ≤ i → i < 272 → ∃ n : Int, c[i]? = some (.int .u8 n) ∧ 0 ≤ n ∧ n < 256
  fla : ∀ i, 272 ≤ i → i < 277 → ∃ b, c[i]? = some (.bool b)
  ip : ∃ n : Nat, c[277]? = some (.int .u64 n) ∧ n < 18446744073709551616
theorem segs (n1 n2 n3 : Nat) (a b c d : TypeId) (i : Nat) :
    (List.replicate n1 a ++ (List.replicate n2 b ++ (List.replicate n3 c ++ [d])) : List TypeId).length = n1 + (n2 + (n3 + 1)) ∧
    (i < n1 → (List.replicate n1 a ++ (List.replicate n2 b ++ (List.replicate n3 c ++ [d])) : List TypeId)[i]? = some a) ∧
    (n1 ≤ i → i < n1 + n2 → (List.replicate n1 a ++ (List.replicate n2 b ++ (List.replicate n3 c ++ [d])) : List TypeId)[i]? = some b) ∧
    (n1 + n2 ≤ i → i < n1 + n2 + n3 → (List.replicate n1 a ++ (List.replicate n2 b ++ (List.replicate n3 c ++ [d])) : List TypeId)[i]? = some c) ∧
    (i = n1 + n2 + n3 → (List.replicate n1 a ++ (List.replicate n2 b ++ (List.replicate n3 c ++ [d])) : List TypeId)[i]? = some d) := by
  refine ⟨by simp, fun h => ?_, fun h1 h2 => ?_, fun h1 h2 => ?_, fun h => ?_⟩
  · rw [List.getElem?_append_left (by simp; omega), List.getElem?_replicate_of_lt h]
  · rw [List.getElem?_append_right (by simp; omega), List.length_replicate, List.getElem?_append_left (by simp; omega), List.getElem?_replicate_of_lt (by omega)]
  · rw [List.getElem?_append_right (by simp; omega), List.length_replicate, List.getElem?_append_right (by simp; omega), List.length_replicate, List.getElem?_append_left (by simp; omega), List.getElem?_replicate_of_lt (by omega)]
  · subst h
    rw [List.getElem?_append_right (by simp; omega), List.length_replicate, List.getElem?_append_right (by simp; omega), List.length_replicate, List.getElem?_append_right (by simp; omega), List.length_replicate]
    have : n1 + n2 + n3 - n1 - n2 - n3 = 0 := by omega
    rw [this]; rfl
set_option maxRecDepth 100000 in
theorem open_cpu {w : World} {r0 : Reach} {b0 : Nat} {v : Value} (hv : Value.okWide Tryd.prog w r0 b0 50 v) : ∃ c, v = .agg c ∧ CPUF c := by
  obtain ⟨cs, rfl, hsz, ts, hts, _, hcell⟩ : ∃ cs, v = .agg cs ∧ cs.size = Tryd.prog.cellsOf 50 ∧ Row.okWide Tryd.prog w r0 b0 50 cs := by
    simpa [Value.okWide, Tryd.underlying50] using hv
  rw [cells50] at hsz
  rw [ts50] at hts
  have hseg := segs 16 256 5 43 5 4 43
  generalize (List.replicate 16 43 ++ (List.replicate 256 5 ++ (List.replicate 5 4 ++ [43])) : List TypeId) = L at *
  cases hts
  have hlen : ts.length = 278 := (hseg 0).1
  rw [hlen] at hcell
  have hat : ∀ i, i < 278 → ∃ v u, cs[i]? = some v ∧ ts[i]? = some u ∧ Cell.okWide Tryd.prog w r0 b0 u v := fun i hi => by
    have hc : cs[i]? = some cs[i] := Array.getElem?_eq_getElem (by omega)
    obtain ⟨u, hu, ho⟩ := hcell i _ hc
    rw [Nat.mod_eq_of_lt hi] at hu
    exact ⟨_, u, hc, hu, ho⟩
  refine ⟨cs, rfl, hsz, fun i hi => ?_, fun i h1 h2 => ?_, fun i h1 h2 => ?_, ?_⟩
  · obtain ⟨v, u, hc, hu, ho⟩ := hat i (by omega)
    rw [(hseg i).2.1 hi] at hu
    cases hu
    obtain ⟨n, rfl, hn⟩ := cell_int Tryd.underlying43 ho
    have := has_u64 hn
    exact ⟨n.toNat, by rw [hc]; congr 2; omega, by omega⟩
  · obtain ⟨v, u, hc, hu, ho⟩ := hat i (by omega)
    rw [(hseg i).2.2.1 h1 (by omega)] at hu
    cases hu
    obtain ⟨n, rfl, hn⟩ := cell_int Tryd.underlying5 ho
    have := has_u8 hn
    exact ⟨n, hc, by omega, by omega⟩
  · obtain ⟨v, u, hc, hu, ho⟩ := hat i (by omega)
    rw [(hseg i).2.2.2.1 (by omega) (by omega)] at hu
    cases hu
    obtain ⟨x, rfl⟩ := cell_bool Tryd.underlying4 ho
    exact ⟨x, hc⟩
  · obtain ⟨v, u, hc, hu, ho⟩ := hat 277 (by omega)
    rw [(hseg 277).2.2.2.2 (by omega)] at hu
    cases hu
    obtain ⟨n, rfl, hn⟩ := cell_int Tryd.underlying43 ho
    have := has_u64 hn
    exact ⟨n.toNat, by rw [hc]; congr 2; omega, by omega⟩
/-- A CPU's words. -/
def regN (c : Array Value) (i : Nat) : Nat := match c[i]? with
  | some (.int .u64 n) => if n < 18446744073709551616 then n.toNat else 0
  | _ => 0
theorem CPUF.cpu {c : Array Value} (h : CPUF c) : CPU c (regN c) where
  size := h.size
  one := by
    rw [Array.all_eq_true]
    intro i hi
    have hi' : i < 278 := by rw [← h.size]; exact hi
    have hg : c[i]? = some c[i] := Array.getElem?_eq_getElem hi
    by_cases h1 : i < 16
    · obtain ⟨n, e, _⟩ := h.reg i h1
      rw [hg] at e; injection e with e; rw [e]; rfl
    · by_cases h2 : i < 272
      · obtain ⟨n, e, _⟩ := h.vec i (by omega) h2
        rw [hg] at e; injection e with e; rw [e]; rfl
      · by_cases h3 : i < 277
        · obtain ⟨n, e⟩ := h.fla i (by omega) h3
          rw [hg] at e; injection e with e; rw [e]; rfl
        · obtain rfl : i = 277 := by omega
          obtain ⟨n, e, _⟩ := h.ip
          rw [hg] at e; injection e with e; rw [e]; rfl
  reg := fun i hi => by
    obtain ⟨n, e, hn⟩ := h.reg i hi
    have : regN c i = n := by unfold regN; rw [e]; simp; omega
    rw [e, this]
  lt := fun i => by
    unfold regN
    split
    · split <;> omega
    · decide
theorem mapM_some {α β : Type} (f : α → Option β) (l : List α) (h : ∀ a ∈ l, ∃ b, f a = some b) : ∃ bs, l.mapM f = some bs := by
  induction l with
  | nil => exact ⟨[], rfl⟩
  | cons a l ih =>
    obtain ⟨b, hb⟩ := h a (by simp)
    obtain ⟨bs, hbs⟩ := ih (fun x hx => h x (by simp [hx]))
    exact ⟨b :: bs, by simp [List.mapM_cons, hb, hbs]⟩
theorem lits_row {n d : Nat} {e t : TypeId} {cs : List Value} (hu : Tryd.prog.underlying t = some (.array n e)) (hl : cs.length = Tryd.prog.cellsOf t) (h : ∀ i, i < n → ∃ l, Tryd.prog.keyLits d e ((cs.drop (i * Tryd.prog.cellsOf e)).take (Tryd.prog.cellsOf e)) = some l) :
    ∃ l, Tryd.prog.keyLits (d + 1) t cs = some l := by
  obtain ⟨bs, hbs⟩ := mapM_some (fun i => Tryd.prog.keyLits d e ((cs.drop (i * Tryd.prog.cellsOf e)).take (Tryd.prog.cellsOf e))) (List.range n) (fun i hi => h i (by simpa using hi))
  refine ⟨bs.flatten, ?_⟩
  unfold Program.keyLits
  rw [hu]
  simp only [hl, if_true, hbs, Option.map_some]
theorem c46 : Tryd.prog.cellsOf 46 = 256 := by kernel_rfl
theorem c45 : Tryd.prog.cellsOf 45 = 16 := by kernel_rfl
theorem cU8 : Tryd.prog.cellsOf 5 = 1 := by kernel_rfl
/-- The vectors' bytes. -/
def vecL (c : Array Value) : List Value := (c.toList.drop 16).take 256
theorem vecL_at {c : Array Value} (j : Nat) (hj : j < 256) : (vecL c)[j]? = c[16 + j]? := by
  unfold vecL
  rw [List.getElem?_take_of_lt hj, List.getElem?_drop, Array.getElem?_toList]
theorem vecL_len {c : Array Value} (h : c.size = 278) : (vecL c).length = 256 := by unfold vecL; simp [h]
theorem one_of {l : List Value} {k : Nat} {v : Value} (h : l[k]? = some v) : (l.drop k).take 1 = [v] := by
  obtain ⟨hk, rfl⟩ := List.getElem?_eq_some_iff.1 h
  rw [List.drop_eq_getElem_cons hk]; rfl
theorem vec_lits {c : Array Value} (h : CPUF c) : ∃ l, Tryd.prog.keyLits 3 46 (vecL c) = some l := by
  refine lits_row Tryd.underlying46 (by rw [c46, vecL_len h.size]) (fun i hi => ?_)
  rw [c45]
  refine lits_row Tryd.underlying45 (by rw [c45]; simp [vecL_len h.size]; omega) (fun j hj => ?_)
  rw [cU8, Nat.mul_one]
  obtain ⟨n, e, h0, h1⟩ := h.vec (16 + (i * 16 + j)) (by omega) (by omega)
  have e2 : (((vecL c).drop (i * 16)).take 16)[j]? = some (.int .u8 n) := by
    rw [List.getElem?_take_of_lt hj, List.getElem?_drop, vecL_at _ (by omega), e]
  rw [one_of e2]
  refine ⟨[.int .u8 n], ?_⟩
  unfold Program.keyLits
  rw [Tryd.underlying5]
  have hw : (Lit.int .u8 n).wf = true := by
    unfold Lit.wf
    simp [IntKind.has, IntKind.min, IntKind.max, IntKind.bits, IntKind.signed]
    omega
  simp [hw]
theorem eq46 {c : Array Value} (h : CPUF c) (w : World) : (Op.equalIn 10000 46 (.agg (vecL c).toArray) (.agg (vecL c).toArray)).run Tryd.prog w = .ok true w := by
  obtain ⟨l, hl⟩ := vec_lits h
  have hf : (Value.agg (vecL c).toArray).formed Tryd.prog 46 = true := by simp [Value.formed, Tryd.underlying46, c46, vecL_len h.size]
  have hl' : Tryd.prog.keyLits 3 46 (Value.agg (vecL c).toArray).cells.toList = some l := by simpa [Value.cells] using hl
  obtain ⟨r, hr, h2⟩ := run_equalIn_deep (P := Tryd.prog) 9997 3 46 (by kernel_rfl) w 3 3 (.agg (vecL c).toArray) (.agg (vecL c).toArray) l l hf hf hl' hl'
  rw [hr, h2.2 rfl]
end Go.Proofs.YtkpnafgmjcnniaaDoor
