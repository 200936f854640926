/-
  No cell of these rows narrows 'for every input' (looked for: loops, veiled, ifaces, maps, wideKeys, modest, calm, conditions, laid).
  DERIVED. THE GIVEN ROWS OF THIS SEAT. 5 by the template 'for every input the law returns true; each argument reads behind the call as it read before'; 0 by the template 'total and deterministic' (their statements: YtldicconopcipaaTotals.lean).
  GIVEN WITH THE SEED: the statements are not yours to turn. If you find one false, say at which input.
  Laid BY PROGRAM, IN A SANDBOX (cutbox-rows.mjs): the forced cells as the released guide's own fill.sh prints them over the translation 3cd75bea27fb5584… (all of the seat's roots in one cut). By AI agents, Wed Nov 11 2026. No macro, syntax, notation, axiom, sorry.
-/
import Derived.Test.YtldicconopcipaaChecked
import GoSem.Claim
import GoSem.ClaimJoined
import GoSem.ClaimMapViews
import Derived.JoinedTies
import Derived.KernelRfl
namespace Go.Proofs.Ytldicconopcipaa
/- THE CELL 'sum', in the pinned program and in every row, IS THE sha256 OF THE DUMP (.gsa) THAT YtldicconopcipaaProg.lean LOADS. Nothing in Lean hashes anything: it is a label: what it is worth is what the hold of that sum in a sandbox is worth. -/
noncomputable def Try.pinned : Pinned := { name := "ytldicconopcipaa", sum := "3cd75bea27fb558492ba2593050185aeab06f267c663807e37f001283e73028d", checked := Try.checked }
namespace Rows
def none {H : Type} : Left H := { results := [], args := [] }

/-- 'sundiallaw15.VectorTells': WHATEVER THE INPUT: true; the input reads as it did. -/
def vectorTellsSpec : ChangeSpec := { name := "vectorTells", fn := fun _ => fun
  | [d1, d2, d3, d4, d5, d6, d7] => { results := [.lit (.bool true)], args := [d1, d2, d3, d4, d5, d6, d7] }
  | _ => none }
def vectorTellsRow : OpenClaim := { program := "ytldicconopcipaa", sum := "3cd75bea27fb558492ba2593050185aeab06f267c663807e37f001283e73028d", func := "sundial/sundiallaw15.VectorTells", spec := "vectorTells", unfollowed := true, recurses := true, apart := false }
def VectorTellsSaid : Prop := vectorTellsRow.holds Try.pinned (OpenSpec.ofChange vectorTellsSpec)

/-- ITS FALSE NEIGHBOUR: 'it returns false'. Refute it at one input. -/
def vectorTellsWrong : ChangeSpec := { name := "vectorTells", fn := fun _ => fun
  | [d1, d2, d3, d4, d5, d6, d7] => { results := [.lit (.bool false)], args := [d1, d2, d3, d4, d5, d6, d7] }
  | _ => none }
def VectorTellsWrongFalsely : Prop := vectorTellsRow.holds Try.pinned (OpenSpec.ofChange vectorTellsWrong)

/-- 'sundiallaw15.VectorBack': WHATEVER THE INPUT: true; the input reads as it did. -/
def vectorBackSpec : ChangeSpec := { name := "vectorBack", fn := fun _ => fun
  | [d1, d2] => { results := [.lit (.bool true)], args := [d1, d2] }
  | _ => none }
def vectorBackRow : OpenClaim := { program := "ytldicconopcipaa", sum := "3cd75bea27fb558492ba2593050185aeab06f267c663807e37f001283e73028d", func := "sundial/sundiallaw15.VectorBack", spec := "vectorBack", unfollowed := true, recurses := true, apart := false }
def VectorBackSaid : Prop := vectorBackRow.holds Try.pinned (OpenSpec.ofChange vectorBackSpec)

/-- ITS FALSE NEIGHBOUR: 'it returns false'. Refute it at one input. -/
def vectorBackWrong : ChangeSpec := { name := "vectorBack", fn := fun _ => fun
  | [d1, d2] => { results := [.lit (.bool false)], args := [d1, d2] }
  | _ => none }
def VectorBackWrongFalsely : Prop := vectorBackRow.holds Try.pinned (OpenSpec.ofChange vectorBackWrong)

/-- 'sundiallaw15.VectorProducts': WHATEVER THE INPUT: true; the input reads as it did. -/
def vectorProductsSpec : ChangeSpec := { name := "vectorProducts", fn := fun _ => fun
  | [d1, d2, d3, d4] => { results := [.lit (.bool true)], args := [d1, d2, d3, d4] }
  | _ => none }
def vectorProductsRow : OpenClaim := { program := "ytldicconopcipaa", sum := "3cd75bea27fb558492ba2593050185aeab06f267c663807e37f001283e73028d", func := "sundial/sundiallaw15.VectorProducts", spec := "vectorProducts", unfollowed := true, recurses := true, apart := false }
def VectorProductsSaid : Prop := vectorProductsRow.holds Try.pinned (OpenSpec.ofChange vectorProductsSpec)

/-- ITS FALSE NEIGHBOUR: 'it returns false'. Refute it at one input. -/
def vectorProductsWrong : ChangeSpec := { name := "vectorProducts", fn := fun _ => fun
  | [d1, d2, d3, d4] => { results := [.lit (.bool false)], args := [d1, d2, d3, d4] }
  | _ => none }
def VectorProductsWrongFalsely : Prop := vectorProductsRow.holds Try.pinned (OpenSpec.ofChange vectorProductsWrong)

/-- 'sundiallaw15.VectorOthers': WHATEVER THE INPUT: true; the input reads as it did. -/
def vectorOthersSpec : ChangeSpec := { name := "vectorOthers", fn := fun _ => fun
  | [d1, d2, d3, d4, d5] => { results := [.lit (.bool true)], args := [d1, d2, d3, d4, d5] }
  | _ => none }
def vectorOthersRow : OpenClaim := { program := "ytldicconopcipaa", sum := "3cd75bea27fb558492ba2593050185aeab06f267c663807e37f001283e73028d", func := "sundial/sundiallaw15.VectorOthers", spec := "vectorOthers", unfollowed := true, recurses := true, apart := false }
def VectorOthersSaid : Prop := vectorOthersRow.holds Try.pinned (OpenSpec.ofChange vectorOthersSpec)

/-- ITS FALSE NEIGHBOUR: 'it returns false'. Refute it at one input. -/
def vectorOthersWrong : ChangeSpec := { name := "vectorOthers", fn := fun _ => fun
  | [d1, d2, d3, d4, d5] => { results := [.lit (.bool false)], args := [d1, d2, d3, d4, d5] }
  | _ => none }
def VectorOthersWrongFalsely : Prop := vectorOthersRow.holds Try.pinned (OpenSpec.ofChange vectorOthersWrong)

/-- 'sundiallaw15.VectorWords': WHATEVER THE INPUT: true; the input reads as it did. -/
def vectorWordsSpec : ChangeSpec := { name := "vectorWords", fn := fun _ => fun
  | [d1, d2, d3, d4, d5] => { results := [.lit (.bool true)], args := [d1, d2, d3, d4, d5] }
  | _ => none }
def vectorWordsRow : OpenClaim := { program := "ytldicconopcipaa", sum := "3cd75bea27fb558492ba2593050185aeab06f267c663807e37f001283e73028d", func := "sundial/sundiallaw15.VectorWords", spec := "vectorWords", unfollowed := true, recurses := true, apart := false }
def VectorWordsSaid : Prop := vectorWordsRow.holds Try.pinned (OpenSpec.ofChange vectorWordsSpec)

/-- ITS FALSE NEIGHBOUR: 'it returns false'. Refute it at one input. -/
def vectorWordsWrong : ChangeSpec := { name := "vectorWords", fn := fun _ => fun
  | [d1, d2, d3, d4, d5] => { results := [.lit (.bool false)], args := [d1, d2, d3, d4, d5] }
  | _ => none }
def VectorWordsWrongFalsely : Prop := vectorWordsRow.holds Try.pinned (OpenSpec.ofChange vectorWordsWrong)

/- THE SECOND FORM. 'bulk': how many values and letters a reading holds, each counted each time it is reached (what is shared counts as often as it is met; a slice's spare places count too). A statement '..UptoSaid' is the law's where the arguments, and the package variables that the reading takes, are together of bulk at most 1048576: NARROWER than '..Said'. Prove '..Said' where nothing that the law and all that it calls make is longer than what came in: it says more and counts as full. Else prove '..UptoSaid'. A law counts once. -/
mutual
def uptoBulk {H : Type} : DataW H → Nat
  | .lit (.string bytes) => bytes.length + 1
  | .lit _ => 1
  | .nil => 1
  | .ptr d => uptoBulk d + 1
  | .slice elems spare => uptoBulkAll elems + uptoBulkAll spare + 1
  | .agg parts => uptoBulkAll parts + 1
  | .iface _ d => uptoBulk d + 1
  | .map entries => uptoBulkEntries entries + 1
  | .held _ => 1
def uptoBulkAll {H : Type} : List (DataW H) → Nat
  | [] => 0
  | d :: r => uptoBulk d + uptoBulkAll r
def uptoBulkEntries {H : Type} : List (Lit × DataW H) → Nat
  | [] => 0
  | x :: r => uptoBulkEntry x + uptoBulkEntries r
def uptoBulkEntry {H : Type} : Lit × DataW H → Nat
  | (.string bytes, d) => bytes.length + uptoBulk d + 1
  | (_, d) => uptoBulk d + 1
 end
def uptoSmall : (H : Type) → List (DataW H) → Bool := fun _ ds => decide (uptoBulkAll ds ≤ 1048576)
def OpenSpec.upto (s : _root_.Go.ChangeSpec) : _root_.Go.OpenSpec := { _root_.Go.OpenSpec.ofChange s with cond := some uptoSmall }

/-- 'sundiallaw15.VectorTells', WHERE WHAT IT READS IS OF BULK AT MOST 1048576: true; the input reads as it did. -/
def vectorTellsUptoRow : OpenClaim := { program := "ytldicconopcipaa", sum := "3cd75bea27fb558492ba2593050185aeab06f267c663807e37f001283e73028d", func := "sundial/sundiallaw15.VectorTells", spec := "vectorTells", unfollowed := true, recurses := true, apart := false, narrowed := true }
def VectorTellsUptoSaid : Prop := vectorTellsUptoRow.holds Try.pinned (OpenSpec.upto vectorTellsSpec)

/-- 'sundiallaw15.VectorBack', WHERE WHAT IT READS IS OF BULK AT MOST 1048576: true; the input reads as it did. -/
def vectorBackUptoRow : OpenClaim := { program := "ytldicconopcipaa", sum := "3cd75bea27fb558492ba2593050185aeab06f267c663807e37f001283e73028d", func := "sundial/sundiallaw15.VectorBack", spec := "vectorBack", unfollowed := true, recurses := true, apart := false, narrowed := true }
def VectorBackUptoSaid : Prop := vectorBackUptoRow.holds Try.pinned (OpenSpec.upto vectorBackSpec)

/-- 'sundiallaw15.VectorProducts', WHERE WHAT IT READS IS OF BULK AT MOST 1048576: true; the input reads as it did. -/
def vectorProductsUptoRow : OpenClaim := { program := "ytldicconopcipaa", sum := "3cd75bea27fb558492ba2593050185aeab06f267c663807e37f001283e73028d", func := "sundial/sundiallaw15.VectorProducts", spec := "vectorProducts", unfollowed := true, recurses := true, apart := false, narrowed := true }
def VectorProductsUptoSaid : Prop := vectorProductsUptoRow.holds Try.pinned (OpenSpec.upto vectorProductsSpec)

/-- 'sundiallaw15.VectorOthers', WHERE WHAT IT READS IS OF BULK AT MOST 1048576: true; the input reads as it did. -/
def vectorOthersUptoRow : OpenClaim := { program := "ytldicconopcipaa", sum := "3cd75bea27fb558492ba2593050185aeab06f267c663807e37f001283e73028d", func := "sundial/sundiallaw15.VectorOthers", spec := "vectorOthers", unfollowed := true, recurses := true, apart := false, narrowed := true }
def VectorOthersUptoSaid : Prop := vectorOthersUptoRow.holds Try.pinned (OpenSpec.upto vectorOthersSpec)

/-- 'sundiallaw15.VectorWords', WHERE WHAT IT READS IS OF BULK AT MOST 1048576: true; the input reads as it did. -/
def vectorWordsUptoRow : OpenClaim := { program := "ytldicconopcipaa", sum := "3cd75bea27fb558492ba2593050185aeab06f267c663807e37f001283e73028d", func := "sundial/sundiallaw15.VectorWords", spec := "vectorWords", unfollowed := true, recurses := true, apart := false, narrowed := true }
def VectorWordsUptoSaid : Prop := vectorWordsUptoRow.holds Try.pinned (OpenSpec.upto vectorWordsSpec)

end Rows
end Go.Proofs.Ytldicconopcipaa
