/- AluTells, whole. -/
import Derived.Test.YtmfoeolllobidaaDoorTw
import Derived.Test.YtmfoeolllobidaaDoorRb
import Derived.Test.YtmfoeolllobidaaDoorRsa
import Derived.Test.YtmfoeolllobidaaDoorInc
import Derived.Test.YtmfoeolllobidaaDoorRm
import Derived.Test.YtmfoeolllobidaaDoorImath
import Derived.Test.YtmfoeolllobidaaDoorFlo
namespace Go.Proofs.YtmfoeolllobidaaDoor
open Go.RowKit
theorem below_of {W w' : World} {e e' : Ending} (h : e = e' ∧ W = w') : e = e' ∧ Below W.heap.size W w' := ⟨h.1, by rw [← h.2]; exact Below.refl _ _⟩
theorem walkIn_tells (K wd a b d : Int) (cy : Bool) (n : Int) (c z s o p : Bool) (w0 : (Lit.int .u8 K).wf = true) (_ : (Lit.int .i64 wd).wf = true) (w1 : (Lit.int .u64 a).wf = true) (w2 : (Lit.int .u64 b).wf = true) (w3 : (Lit.int .u64 d).wf = true) (w4 : (Lit.int .u8 n).wf = true) (w : World) (hm : Mk w) :
    Calls Tryd.prog 3 #[.int .u8 K, .int .i64 wd, .int .u64 a, .int .u64 b, .int .u64 d, .bool cy, .int .u8 n, fl c z s o p] w fun e w' => e = .returned (.bool true) ∧ Below w.heap.size w w' := by
  obtain ⟨K, rfl, hK⟩ := nat_of_u8 w0
  obtain ⟨a, rfl, ha⟩ := nat_of_wf w1
  obtain ⟨b, rfl, hb⟩ := nat_of_wf w2
  obtain ⟨d, rfl, hd⟩ := nat_of_wf w3
  obtain ⟨n, rfl, hn⟩ := nat_of_u8 w4
  obtain ⟨rh, h0, h1, h2, h3, h4, hs1, hs2⟩ := shift_both K n a hK hn ha wd c z s o p
  obtain ⟨q, r, ok, hv1, hv2⟩ := div_both a b d ha hb hd wd
  exact tells_core K wd n a b d (addR a b cy wd) (subR a b cy wd) (addR a 1 false wd) (subR a 1 false wd) (subR 0 a false wd) rh (iR a b wd) (lowM a b wd) (highM a b wd) q r cy c z s o p ok
    _ _ _ _ _ _ _ _ _ _ _ _ _ _ _ _ _ _ _ _ _ _ _ _ _ _ _ _ _ _ _ _ _ _ _ _ _ _ _ _ _ _ _ _ _
    (fun W hW => aadd_any a b ha hb cy wd W hW) (fun W _ => radd13_any a b ha hb cy wd W)
    (fun W hW => asub_any a b ha hb cy wd W hW) (fun W _ => rsub13_any a b ha hb cy wd W)
    (fun W hW => logic_any a ha wd W hW) (fun W _ => rlogic_any a ha wd W)
    (fun W hW => ainc_any a ha c z s o p wd W hW) (fun W hW => rinc_any a ha c z s o p wd W hW)
    (fun W hW => adec_any a ha c z s o p wd W hW) (fun W hW => rdec_any a ha c z s o p wd W hW)
    (fun W hW => aneg_any a ha wd W hW) (fun W _ => rneg_any a ha wd W)
    hs1 (fun W _ => hs2 W)
    (fun W hW => aimul_any a b ha hb wd W hW) (fun W _ => rimul_any a b ha hb wd W)
    (fun W hW => amul_any a b ha hb wd W hW) (fun W _ => rmul_any a b ha hb wd W)
    hv1 (fun W _ => (hv2 W).mono fun _ _ h => below_of h) w hm
end Go.Proofs.YtmfoeolllobidaaDoor
