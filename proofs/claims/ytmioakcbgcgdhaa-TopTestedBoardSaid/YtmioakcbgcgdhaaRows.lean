/-
  No cell of these rows narrows 'for every input' (looked for: loops, veiled, ifaces, maps, wideKeys, modest, calm, conditions, laid).
  DERIVED. THE GIVEN ROWS OF THIS SEAT. 5 by the template 'for every input the law returns true; each argument reads behind the call as it read before'; 0 by the template 'total and deterministic' (their statements: YtmioakcbgcgdhaaTotals.lean).
  GIVEN WITH THE SEED: the statements are not yours to turn. If you find one false, say at which input.
  Laid BY PROGRAM, IN A SANDBOX (cutbox-rows.mjs): the forced cells as the released guide's own fill.sh prints them over the translation b6d3a977ccc97272… (all of the seat's roots in one cut). By AI agents, Wed Nov 11 2026. No macro, syntax, notation, axiom, sorry.
-/
import Derived.Test.YtmioakcbgcgdhaaChecked
import GoSem.Claim
import GoSem.ClaimJoined
import GoSem.ClaimMapViews
import Derived.JoinedTies
import Derived.KernelRfl
namespace Go.Proofs.Ytmioakcbgcgdhaa
/- THE CELL 'sum', in the pinned program and in every row, IS THE sha256 OF THE DUMP (.gsa) THAT YtmioakcbgcgdhaaProg.lean LOADS. Nothing in Lean hashes anything: it is a label: what it is worth is what the hold of that sum in a sandbox is worth. -/
noncomputable def Try.pinned : Pinned := { name := "ytmioakcbgcgdhaa", sum := "b6d3a977ccc97272822abdf1e7f8cc99c90473642d1d80beb021d5a888bf6102", checked := Try.checked }
namespace Rows
def none {H : Type} : Left H := { results := [], args := [] }

/-- 'testlinertop.TopBoardBox': WHATEVER THE INPUT: true; the input reads as it did. -/
def topBoardBoxSpec : ChangeSpec := { name := "topBoardBox", fn := fun _ => fun
  | [d1, d2, d3] => { results := [.lit (.bool true)], args := [d1, d2, d3] }
  | _ => none }
def topBoardBoxRow : OpenClaim := { program := "ytmioakcbgcgdhaa", sum := "b6d3a977ccc97272822abdf1e7f8cc99c90473642d1d80beb021d5a888bf6102", func := "testliner/testlinertop.TopBoardBox", spec := "topBoardBox", unfollowed := true, recurses := true, apart := false }
def TopBoardBoxSaid : Prop := topBoardBoxRow.holds Try.pinned (OpenSpec.ofChange topBoardBoxSpec)

/-- ITS FALSE NEIGHBOUR: 'it returns false'. Refute it at one input. -/
def topBoardBoxWrong : ChangeSpec := { name := "topBoardBox", fn := fun _ => fun
  | [d1, d2, d3] => { results := [.lit (.bool false)], args := [d1, d2, d3] }
  | _ => none }
def TopBoardBoxWrongFalsely : Prop := topBoardBoxRow.holds Try.pinned (OpenSpec.ofChange topBoardBoxWrong)

/-- 'testlinertop.TopBoardCloses': WHATEVER THE INPUT: true; the input reads as it did. -/
def topBoardClosesSpec : ChangeSpec := { name := "topBoardCloses", fn := fun _ => fun
  | [d1, d2, d3] => { results := [.lit (.bool true)], args := [d1, d2, d3] }
  | _ => none }
def topBoardClosesRow : OpenClaim := { program := "ytmioakcbgcgdhaa", sum := "b6d3a977ccc97272822abdf1e7f8cc99c90473642d1d80beb021d5a888bf6102", func := "testliner/testlinertop.TopBoardCloses", spec := "topBoardCloses", unfollowed := true, recurses := true, apart := false }
def TopBoardClosesSaid : Prop := topBoardClosesRow.holds Try.pinned (OpenSpec.ofChange topBoardClosesSpec)

/-- ITS FALSE NEIGHBOUR: 'it returns false'. Refute it at one input. -/
def topBoardClosesWrong : ChangeSpec := { name := "topBoardCloses", fn := fun _ => fun
  | [d1, d2, d3] => { results := [.lit (.bool false)], args := [d1, d2, d3] }
  | _ => none }
def TopBoardClosesWrongFalsely : Prop := topBoardClosesRow.holds Try.pinned (OpenSpec.ofChange topBoardClosesWrong)

/-- 'testlinertop.TopTestedBoard': WHATEVER THE INPUT: true; the input reads as it did. -/
def topTestedBoardSpec : ChangeSpec := { name := "topTestedBoard", fn := fun _ => fun
  | [d1, d2, d3] => { results := [.lit (.bool true)], args := [d1, d2, d3] }
  | _ => none }
def topTestedBoardRow : OpenClaim := { program := "ytmioakcbgcgdhaa", sum := "b6d3a977ccc97272822abdf1e7f8cc99c90473642d1d80beb021d5a888bf6102", func := "testliner/testlinertop.TopTestedBoard", spec := "topTestedBoard", unfollowed := true, recurses := true, apart := false }
def TopTestedBoardSaid : Prop := topTestedBoardRow.holds Try.pinned (OpenSpec.ofChange topTestedBoardSpec)

/-- ITS FALSE NEIGHBOUR: 'it returns false'. Refute it at one input. -/
def topTestedBoardWrong : ChangeSpec := { name := "topTestedBoard", fn := fun _ => fun
  | [d1, d2, d3] => { results := [.lit (.bool false)], args := [d1, d2, d3] }
  | _ => none }
def TopTestedBoardWrongFalsely : Prop := topTestedBoardRow.holds Try.pinned (OpenSpec.ofChange topTestedBoardWrong)

/-- 'testlinertop.TopLidStack': WHATEVER THE INPUT: true; the input reads as it did. -/
def topLidStackSpec : ChangeSpec := { name := "topLidStack", fn := fun _ => fun
  | [d1, d2] => { results := [.lit (.bool true)], args := [d1, d2] }
  | _ => none }
def topLidStackRow : OpenClaim := { program := "ytmioakcbgcgdhaa", sum := "b6d3a977ccc97272822abdf1e7f8cc99c90473642d1d80beb021d5a888bf6102", func := "testliner/testlinertop.TopLidStack", spec := "topLidStack", unfollowed := true, recurses := true, apart := false }
def TopLidStackSaid : Prop := topLidStackRow.holds Try.pinned (OpenSpec.ofChange topLidStackSpec)

/-- ITS FALSE NEIGHBOUR: 'it returns false'. Refute it at one input. -/
def topLidStackWrong : ChangeSpec := { name := "topLidStack", fn := fun _ => fun
  | [d1, d2] => { results := [.lit (.bool false)], args := [d1, d2] }
  | _ => none }
def TopLidStackWrongFalsely : Prop := topLidStackRow.holds Try.pinned (OpenSpec.ofChange topLidStackWrong)

/-- 'testlinertop.TopHeaviest': WHATEVER THE INPUT: true; the input reads as it did. -/
def topHeaviestSpec : ChangeSpec := { name := "topHeaviest", fn := fun _ => fun
  | [d1, d2, d3] => { results := [.lit (.bool true)], args := [d1, d2, d3] }
  | _ => none }
def topHeaviestRow : OpenClaim := { program := "ytmioakcbgcgdhaa", sum := "b6d3a977ccc97272822abdf1e7f8cc99c90473642d1d80beb021d5a888bf6102", func := "testliner/testlinertop.TopHeaviest", spec := "topHeaviest", unfollowed := true, recurses := true, apart := false }
def TopHeaviestSaid : Prop := topHeaviestRow.holds Try.pinned (OpenSpec.ofChange topHeaviestSpec)

/-- ITS FALSE NEIGHBOUR: 'it returns false'. Refute it at one input. -/
def topHeaviestWrong : ChangeSpec := { name := "topHeaviest", fn := fun _ => fun
  | [d1, d2, d3] => { results := [.lit (.bool false)], args := [d1, d2, d3] }
  | _ => none }
def TopHeaviestWrongFalsely : Prop := topHeaviestRow.holds Try.pinned (OpenSpec.ofChange topHeaviestWrong)

/- THE SECOND FORM. 'bulk': how many values and letters a reading holds, each counted each time it is reached (what is shared counts as often as it is met; a slice's spare places count too). A statement '..UptoSaid' is the law's where the arguments, and the package variables that the reading takes, are together of bulk at most 1048576: NARROWER than '..Said'. Prove '..Said' where nothing that the law and all that it calls make is longer than what came in: it says more and counts as full. Else prove '..UptoSaid'. A law counts once. -/
mutual
def uptoBulk {H : Type} : DataW H → Nat
  | .lit (.string bytes) => bytes.length + 1
  | .lit _ => 1
  | .nil => 1
  | .ptr d => uptoBulk d + 1
  | .slice elems spare => uptoBulkAll elems + uptoBulkAll spare + 1
  | .agg parts => uptoBulkAll parts + 1
  | .iface _ d => uptoBulk d + 1
  | .map entries => uptoBulkEntries entries + 1
  | .held _ => 1
def uptoBulkAll {H : Type} : List (DataW H) → Nat
  | [] => 0
  | d :: r => uptoBulk d + uptoBulkAll r
def uptoBulkEntries {H : Type} : List (Lit × DataW H) → Nat
  | [] => 0
  | x :: r => uptoBulkEntry x + uptoBulkEntries r
def uptoBulkEntry {H : Type} : Lit × DataW H → Nat
  | (.string bytes, d) => bytes.length + uptoBulk d + 1
  | (_, d) => uptoBulk d + 1
 end
def uptoSmall : (H : Type) → List (DataW H) → Bool := fun _ ds => decide (uptoBulkAll ds ≤ 1048576)
def OpenSpec.upto (s : _root_.Go.ChangeSpec) : _root_.Go.OpenSpec := { _root_.Go.OpenSpec.ofChange s with cond := some uptoSmall }

/-- 'testlinertop.TopBoardBox', WHERE WHAT IT READS IS OF BULK AT MOST 1048576: true; the input reads as it did. -/
def topBoardBoxUptoRow : OpenClaim := { program := "ytmioakcbgcgdhaa", sum := "b6d3a977ccc97272822abdf1e7f8cc99c90473642d1d80beb021d5a888bf6102", func := "testliner/testlinertop.TopBoardBox", spec := "topBoardBox", unfollowed := true, recurses := true, apart := false, narrowed := true }
def TopBoardBoxUptoSaid : Prop := topBoardBoxUptoRow.holds Try.pinned (OpenSpec.upto topBoardBoxSpec)

/-- 'testlinertop.TopBoardCloses', WHERE WHAT IT READS IS OF BULK AT MOST 1048576: true; the input reads as it did. -/
def topBoardClosesUptoRow : OpenClaim := { program := "ytmioakcbgcgdhaa", sum := "b6d3a977ccc97272822abdf1e7f8cc99c90473642d1d80beb021d5a888bf6102", func := "testliner/testlinertop.TopBoardCloses", spec := "topBoardCloses", unfollowed := true, recurses := true, apart := false, narrowed := true }
def TopBoardClosesUptoSaid : Prop := topBoardClosesUptoRow.holds Try.pinned (OpenSpec.upto topBoardClosesSpec)

/-- 'testlinertop.TopTestedBoard', WHERE WHAT IT READS IS OF BULK AT MOST 1048576: true; the input reads as it did. -/
def topTestedBoardUptoRow : OpenClaim := { program := "ytmioakcbgcgdhaa", sum := "b6d3a977ccc97272822abdf1e7f8cc99c90473642d1d80beb021d5a888bf6102", func := "testliner/testlinertop.TopTestedBoard", spec := "topTestedBoard", unfollowed := true, recurses := true, apart := false, narrowed := true }
def TopTestedBoardUptoSaid : Prop := topTestedBoardUptoRow.holds Try.pinned (OpenSpec.upto topTestedBoardSpec)

/-- 'testlinertop.TopLidStack', WHERE WHAT IT READS IS OF BULK AT MOST 1048576: true; the input reads as it did. -/
def topLidStackUptoRow : OpenClaim := { program := "ytmioakcbgcgdhaa", sum := "b6d3a977ccc97272822abdf1e7f8cc99c90473642d1d80beb021d5a888bf6102", func := "testliner/testlinertop.TopLidStack", spec := "topLidStack", unfollowed := true, recurses := true, apart := false, narrowed := true }
def TopLidStackUptoSaid : Prop := topLidStackUptoRow.holds Try.pinned (OpenSpec.upto topLidStackSpec)

/-- 'testlinertop.TopHeaviest', WHERE WHAT IT READS IS OF BULK AT MOST 1048576: true; the input reads as it did. -/
def topHeaviestUptoRow : OpenClaim := { program := "ytmioakcbgcgdhaa", sum := "b6d3a977ccc97272822abdf1e7f8cc99c90473642d1d80beb021d5a888bf6102", func := "testliner/testlinertop.TopHeaviest", spec := "topHeaviest", unfollowed := true, recurses := true, apart := false, narrowed := true }
def TopHeaviestUptoSaid : Prop := topHeaviestUptoRow.holds Try.pinned (OpenSpec.upto topHeaviestSpec)

end Rows
end Go.Proofs.Ytmioakcbgcgdhaa
