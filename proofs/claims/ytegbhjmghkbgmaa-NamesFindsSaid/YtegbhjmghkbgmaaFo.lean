/- NamesFinds' walk, for the symbols and the name that come in. -/
import Derived.Test.YtegbhjmghkbgmaaFn
import Derived.Test.YtegbhjmghkbgmaaOs
namespace Go.Proofs.Ytegbhjmghkbgmaa
open Go.RowKit Go.Shelf
theorem finds_walk (a : Option Addr) (len cap : Nat) (z : List Sy) (nm : ByteArray) (_hs : nm.size ≤ maxLen) (W : World) (h : SysIn W a len z) : Calls Try.prog 5 #[.slice a len cap, .string nm] W fun e W' => e = .returned (.bool true) ∧ Below W.heap.size W W' := by
  obtain ⟨_, _, h3, h4, h5⟩ := h
  subst h3
  exact finds_law a cap z nm h4 W h5
end Go.Proofs.Ytegbhjmghkbgmaa
