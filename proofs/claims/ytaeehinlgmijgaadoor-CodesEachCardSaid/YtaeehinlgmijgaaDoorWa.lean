/- What every law asks at its end. -/
import Derived.Test.YtaeehinlgmijgaaDoorRh
import Derived.Test.YtaeehinlgmijgaaDoorMa
import Derived.Test.YtaeehinlgmijgaaDoorDi
import Derived.Test.YtaeehinlgmijgaaDoorBy
import Derived.Test.YtaeehinlgmijgaaDoorSe
namespace Go.Proofs.YtaeehinlgmijgaaDoor
open Go.RowKit Go.Shelf
set_option linter.unusedVariables false
set_option linter.unusedSimpArgs false
attribute [local go_sem] Oper.semAt_some
/-- Forms in blocks of their own. -/
def WS (w : World) (l : List (Nat × Fm)) (W : World) : Prop := (∀ x ∈ l, FB W x.1 x.2) ∧ GL W ∧ Below w.heap.size w W
theorem WS.keep {w W W' : World} {l : List (Nat × Fm)} (h : WS w l W) (hb : Below W.heap.size W W') : WS w l W' :=
  ⟨fun x hx => (h.1 x hx).keep hb, h.2.1.below hb, h.2.2.trans (hb.mono h.2.2.size)⟩
theorem WS.store {w W : World} {l : List (Nat × Fm)} (h : WS w l W) (f : Fm) (o : Obj) (c : Array Value) (ho : o = .cells c 23 (0, 0)) : WS w ((W.heap.size, f) :: l) ((W.alloc o).setRow W.heap.size f.cs.toArray) := by
  subst ho
  rw [World.setRow_alloc_new]
  have hk := h.keep ((Below.refl W.heap.size W).alloc (Nat.le_refl _) (.cells f.cs.toArray 23))
  refine ⟨fun x hx => ?_, hk.2⟩
  rcases List.mem_cons.1 hx with rfl | hx
  · exact heap_alloc_last W _
  · exact hk.1 x hx
theorem WS.new {w : World} (h : GL w) : WS w [] w := ⟨fun x hx => (List.not_mem_nil hx).elim, h, Below.refl _ _⟩
/-- A call that tells a row of that many. -/
def RowCall (f : Nat) (args : Array Value) (k : Nat) (w : World) : Prop := Calls Tryd.prog f args w fun e W' => (∃ g cap, e = .returned (.slice (some ⟨g, 0, none⟩) k cap)) ∧ Below w.heap.size w W'
theorem RowCall.at {f : Nat} {args : Array Value} {k : Nat} {w : World} (h : RowCall f args k w) : Calls Tryd.prog f args w fun e W' => (∃ g cap, e = .returned (.slice (some ⟨g, 0, none⟩) k cap)) ∧ Below w.heap.size w W' := h
def FindCall (o d : Int) (f : Fm) (b : Bool) : Prop := ∀ w, GL w → Calls Tryd.prog 10 #[.int .u8 0, .int .u8 0, .int .u8 o, .int .i64 d] w fun e W' => e = .returned (.tuple #[f.v, .bool b]) ∧ Below w.heap.size w W'
def DigCall (o : Int) (b : Bool) : Prop := ∀ w, GL w → Calls Tryd.prog 14 #[.int .u8 0, .int .u8 0, .int .u8 o] w fun e W' => e = .returned (.bool b) ∧ Below w.heap.size w W'
theorem FindCall.at {f : Fm} {b : Bool} {o d : Int} {w : World} (h : FindCall o d f b) (hG : GL w) : Calls Tryd.prog 10 #[.int .u8 0, .int .u8 0, .int .u8 o, .int .i64 d] w fun e W' => e = .returned (.tuple #[f.v, .bool b]) ∧ Below w.heap.size w W' := h w hG
theorem DigCall.at {b : Bool} {o : Int} {w : World} (h : DigCall o b) (hG : GL w) : Calls Tryd.prog 14 #[.int .u8 0, .int .u8 0, .int .u8 o] w fun e W' => e = .returned (.bool b) ∧ Below w.heap.size w W' := h w hG
theorem wpList_load23 {ops : Array Oper} {Q : Exit → Act → World → Prop} {o : Oper} {rest : List Oper} {a : Act} {W : World} {x : Operand} {b : Nat} {f : Fm}
    (ho : o.op = .load 23 x) (hw : Region.wanted o (yielded ops a.tmps) = true) (hx : a.eval x = .pointer (some ⟨b, 0, none⟩)) (h : FB W b f)
    (hn : wpList Tryd.prog ops Q rest (a.put o.dst f.v) W) : wpList Tryd.prog ops Q (o :: rest) a W := by
  have e : (execOp a.eval o).run Tryd.prog W = .ok (.value f.v) W := by
    unfold execOp
    rw [ho]
    simp only [hx, Instr.loadAt, Instr.sureAddr, Sem.run_bind, Sem.run_pure, Result.andThen, load23_run h]
  unfold wpList
  rw [if_pos hw]
  refine .inl ?_
  unfold Oper.wp
  rw [e, Oper.upon_value]
  exact hn
set_option maxRecDepth 1000000 in
set_option maxHeartbeats 4000000 in
theorem wakes_core (f h g : Fm) (f5 : f.cs[5]? = some (.int .u8 27)) (g5 : g.cs[5]? = some (.int .u8 8)) (g9 : g.cs[9]? = some (.int .i64 1))
    (h1 : Hid (FindCall 195 0 f true)) (h2 : Hid (FindCall 196 0 h false)) (h3 : Hid (FindCall 131 5 g true)) (h4 : Hid (DigCall 131 true)) (h5 : Hid (DigCall 137 false))
    (h8 : Hid (∀ w, GL w → RowCall 8 #[] 139 w)) (h9 : Hid (∀ w, RowCall 9 #[] 139 w)) (h16 : Hid (∀ w, RowCall 16 #[f.v] 1 w)) (w : World) (hG : GL w) :
    Calls Tryd.prog 18 #[] w fun e w' => e = .returned (.bool true) ∧ Below w.heap.size w w' := by
  have HW0 := Lib.hid (WS.new hG)
  clear hG
  have F5 := Lib.hid f5
  have G5 := Lib.hid g5
  have G9 := Lib.hid g9
  clear f5 g5 g9
  go_enter Tryd.func18, Tryd.ntmps18
  go_wp2_with (first | (go_at_call 10; refine (FindCall.at h1.out HW0.out.2.1).mono ?_) | fail)
  first | (rintro e W1 rfl hb) | (rintro e W1 ⟨rfl, hb⟩)
  have HW1 := Lib.hid (HW0.out.keep hb)
  clear hb
  go_wp2_with (first | (go_at_call 10; refine (FindCall.at h2.out HW2.out.2.1).mono ?_) | (refine wpList_store23 (u := zf) (f := f) rfl rfl rfl rfl (show FB _ _ zf from heap_alloc_last _ _) ?_; generalize hW : World.setRow _ _ _ = W2; have HW2 : Hid (WS w ((W1.heap.size, f) :: []) W2) := Lib.hid (by rw [← hW]; exact WS.store HW1.out f _ _ rfl); clear hW) | fail)
  first | (rintro e W3 rfl hb) | (rintro e W3 ⟨rfl, hb⟩)
  have HW3 := Lib.hid (HW2.out.keep hb)
  clear hb
  go_wp2_with (first | (go_at_call 10; refine (FindCall.at h3.out HW4.out.2.1).mono ?_) | (refine wpList_store23 (u := zf) (f := h) rfl rfl rfl rfl (show FB _ _ zf from heap_alloc_last _ _) ?_; generalize hW : World.setRow _ _ _ = W4; have HW4 : Hid (WS w ((W3.heap.size, h) :: (W1.heap.size, f) :: []) W4) := Lib.hid (by rw [← hW]; exact WS.store HW3.out h _ _ rfl); clear hW) | fail)
  first | (rintro e W5 rfl hb) | (rintro e W5 ⟨rfl, hb⟩)
  have HW5 := Lib.hid (HW4.out.keep hb)
  clear hb
  go_wp2_with (first | (go_at_call 14; refine (DigCall.at h4.out HW6.out.2.1).mono ?_) | (refine wpList_store23 (u := zf) (f := g) rfl rfl rfl rfl (show FB _ _ zf from heap_alloc_last _ _) ?_; generalize hW : World.setRow _ _ _ = W6; have HW6 : Hid (WS w ((W5.heap.size, g) :: (W3.heap.size, h) :: (W1.heap.size, f) :: []) W6) := Lib.hid (by rw [← hW]; exact WS.store HW5.out g _ _ rfl); clear hW; have c1 := (HW6.out.1 (W1.heap.size, f) (by simp)).at 5 _ F5.out; have c2 := (HW6.out.1 (W5.heap.size, g) (by simp)).at 5 _ G5.out; have c3 := (HW6.out.1 (W5.heap.size, g) (by simp)).at 9 _ G9.out) | fail)
  first | (rintro e W7 rfl hb) | (rintro e W7 ⟨rfl, hb⟩)
  have HW7 := Lib.hid (HW6.out.keep hb)
  clear hb c1 c2 c3
  go_wp2_with (first | (go_at_call 14; refine (DigCall.at h5.out HW7.out.2.1).mono ?_) | fail)
  first | (rintro e W8 rfl hb) | (rintro e W8 ⟨rfl, hb⟩)
  have HW8 := Lib.hid (HW7.out.keep hb)
  clear hb
  go_wp2_with (first | (go_at_call 8; refine (h8.out _ HW8.out.2.1).at.mono ?_) | fail)
  first | (rintro e W9 g8 cap8 rfl hb) | (rintro e W9 ⟨⟨g8, cap8, rfl⟩, hb⟩)
  have HW9 := Lib.hid (HW8.out.keep hb)
  clear hb
  go_wp2_with (first | (go_at_call 9; refine (h9.out _).at.mono ?_) | fail)
  first | (rintro e W10 g9 cap9 rfl hb) | (rintro e W10 ⟨⟨g9, cap9, rfl⟩, hb⟩)
  have HW10 := Lib.hid (HW9.out.keep hb)
  clear hb
  go_wp2_with (first | (refine wpList_load23 (f := f) rfl rfl rfl (HW10.out.1 (W1.heap.size, f) (by simp)) ?_) | (go_at_call 16; refine (h16.out _).at.mono ?_) | fail)
  first | (rintro e W11 g16 cap16 rfl hb) | (rintro e W11 ⟨⟨g16, cap16, rfl⟩, hb⟩)
  have HW11 := Lib.hid (HW10.out.keep hb)
  clear hb
  go_wp2_with fail
  go_ret
  exact ⟨rfl, HW11.out.2.2⟩
theorem row_slice {W : World} {n k : Nat} {v : Value} {L : List Value} (h : W.ownsRow n 23 14 v k L) (hk : 0 < k) : ∃ g cap, v = .slice (some ⟨g, 0, none⟩) k cap ∧ n ≤ g ∧ ∃ cur, W.heap[g]? = some (.cells cur 23 (0, 0)) ∧ cur.toList.take (k * 14) = L := by
  rcases h.2 with ⟨_, h0⟩ | ⟨g, cap, cur, hv, hg, hh, _, _, _, h5⟩
  · omega
  · exact ⟨g, cap, hv, hg, cur, hh, h5⟩
theorem forms_row (w : World) (hG : GL w) : RowCall 8 #[] 139 w :=
  (forms_any w hG).mono fun e W' h => ⟨by
    obtain ⟨v, rfl, hr⟩ := h.1
    obtain ⟨g, cap, rfl, _⟩ := row_slice hr (by decide)
    exact ⟨g, cap, rfl⟩, h.2⟩
theorem rforms_row (w : World) : RowCall 9 #[] 139 w :=
  (rforms_any w).mono fun e W' h => by
    obtain ⟨v, rfl, hr⟩ := h
    obtain ⟨g, cap, rfl, _⟩ := row_slice hr.1 (by decide +kernel)
    rw [forms_len]
    exact ⟨⟨g, cap, rfl⟩, hr.2⟩
theorem wakes_any (w : World) (hG : GL w) : Calls Tryd.prog 18 #[] w fun e w' => e = .returned (.bool true) ∧ Below w.heap.size w w' := by
  refine wakes_core (mkF 0 0 0xc3 false (-1) 27 0 8 0 0 false) zf (mkF 0 0 0x83 false 5 8 0 0 4 1 false) rfl rfl rfl ?_ ?_ ?_ ?_ ?_ (Lib.hid forms_row) (Lib.hid rforms_row) ?_ w hG
  · refine Lib.hid fun w hG => ?_
    have h := find_any 0 0 195 0 w hG
    rw [wake1] at h
    exact h
  · refine Lib.hid fun w hG => ?_
    have h := find_any 0 0 196 0 w hG
    rw [wake2] at h
    exact h
  · refine Lib.hid fun w hG => ?_
    have h := find_any 0 0 131 5 w hG
    rw [wake3] at h
    exact h
  · refine Lib.hid fun w hG => ?_
    have h := digits_any 0 0 131 w hG
    rw [wake4] at h
    exact h
  · refine Lib.hid fun w hG => ?_
    have h := digits_any 0 0 137 w hG
    rw [wake5] at h
    exact h
  · refine Lib.hid fun w => (bytes_any _ w).mono fun e W' h => ⟨?_, h.2⟩
    obtain ⟨v, rfl, g, rfl, _⟩ := h.1
    exact ⟨g, 1, rfl⟩
end Go.Proofs.YtaeehinlgmijgaaDoor
