/-
  No cell of these rows narrows 'for every input' (looked for: loops, veiled, ifaces, maps, wideKeys, modest, calm, conditions, laid).
  DERIVED. THE GIVEN ROWS OF THIS SEAT. 15 by the template 'for every input the law returns true; each argument reads behind the call as it read before'; 0 by the template 'total and deterministic' (their statements: YtcdilmagcdbogaaTotals.lean).
  GIVEN WITH THE SEED: the statements are not yours to turn. If you find one false, say at which input.
  Laid BY PROGRAM, IN A SANDBOX (cutbox-rows.mjs): the forced cells as the released guide's own fill.sh prints them over the translation 7a68e216b4479c0c… (all of the seat's roots in one cut). By AI agents, Wed Nov 11 2026. No macro, syntax, notation, axiom, sorry.
-/
import Derived.Test.YtcdilmagcdbogaaChecked
import GoSem.Claim
import GoSem.ClaimJoined
import GoSem.ClaimMapViews
import Derived.JoinedTies
import Derived.KernelRfl
namespace Go.Proofs.Ytcdilmagcdbogaa
/- THE CELL 'sum', in the pinned program and in every row, IS THE sha256 OF THE DUMP (.gsa) THAT YtcdilmagcdbogaaProg.lean LOADS. Nothing in Lean hashes anything: it is a label: what it is worth is what the hold of that sum in a sandbox is worth. -/
noncomputable def Try.pinned : Pinned := { name := "ytcdilmagcdbogaa", sum := "7a68e216b4479c0c90735f3e32e1e3bc5d02a1c4a03a3c3a8a309117609aeede", checked := Try.checked }
namespace Rows
def none {H : Type} : Left H := { results := [], args := [] }

/-- 'testlinerlaw03.CrushDecides': WHATEVER THE INPUT: true; the input reads as it did. -/
def crushDecidesSpec : ChangeSpec := { name := "crushDecides", fn := fun _ => fun
  | [d1, d2, d3] => { results := [.lit (.bool true)], args := [d1, d2, d3] }
  | _ => none }
def crushDecidesRow : OpenClaim := { program := "ytcdilmagcdbogaa", sum := "7a68e216b4479c0c90735f3e32e1e3bc5d02a1c4a03a3c3a8a309117609aeede", func := "testliner/testlinerlaw03.CrushDecides", spec := "crushDecides", unfollowed := true, recurses := true, apart := false }
def CrushDecidesSaid : Prop := crushDecidesRow.holds Try.pinned (OpenSpec.ofChange crushDecidesSpec)

/-- ITS FALSE NEIGHBOUR: 'it returns false'. Refute it at one input. -/
def crushDecidesWrong : ChangeSpec := { name := "crushDecides", fn := fun _ => fun
  | [d1, d2, d3] => { results := [.lit (.bool false)], args := [d1, d2, d3] }
  | _ => none }
def CrushDecidesWrongFalsely : Prop := crushDecidesRow.holds Try.pinned (OpenSpec.ofChange crushDecidesWrong)

/-- 'testlinerlaw03.CrushOdds': WHATEVER THE INPUT: true; the input reads as it did. -/
def crushOddsSpec : ChangeSpec := { name := "crushOdds", fn := fun _ => fun
  | [d1, d2, d3] => { results := [.lit (.bool true)], args := [d1, d2, d3] }
  | _ => none }
def crushOddsRow : OpenClaim := { program := "ytcdilmagcdbogaa", sum := "7a68e216b4479c0c90735f3e32e1e3bc5d02a1c4a03a3c3a8a309117609aeede", func := "testliner/testlinerlaw03.CrushOdds", spec := "crushOdds", unfollowed := true, recurses := true, apart := false }
def CrushOddsSaid : Prop := crushOddsRow.holds Try.pinned (OpenSpec.ofChange crushOddsSpec)

/-- ITS FALSE NEIGHBOUR: 'it returns false'. Refute it at one input. -/
def crushOddsWrong : ChangeSpec := { name := "crushOdds", fn := fun _ => fun
  | [d1, d2, d3] => { results := [.lit (.bool false)], args := [d1, d2, d3] }
  | _ => none }
def CrushOddsWrongFalsely : Prop := crushOddsRow.holds Try.pinned (OpenSpec.ofChange crushOddsWrong)

/-- 'testlinerlaw03.CrushStrengths': WHATEVER THE INPUT: true; the input reads as it did. -/
def crushStrengthsSpec : ChangeSpec := { name := "crushStrengths", fn := fun _ => fun
  | [d] => { results := [.lit (.bool true)], args := [d] }
  | _ => none }
def crushStrengthsRow : OpenClaim := { program := "ytcdilmagcdbogaa", sum := "7a68e216b4479c0c90735f3e32e1e3bc5d02a1c4a03a3c3a8a309117609aeede", func := "testliner/testlinerlaw03.CrushStrengths", spec := "crushStrengths", unfollowed := true, recurses := true, apart := false }
def CrushStrengthsSaid : Prop := crushStrengthsRow.holds Try.pinned (OpenSpec.ofChange crushStrengthsSpec)

/-- ITS FALSE NEIGHBOUR: 'it returns false'. Refute it at one input. -/
def crushStrengthsWrong : ChangeSpec := { name := "crushStrengths", fn := fun _ => fun
  | [d] => { results := [.lit (.bool false)], args := [d] }
  | _ => none }
def CrushStrengthsWrongFalsely : Prop := crushStrengthsRow.holds Try.pinned (OpenSpec.ofChange crushStrengthsWrong)

/-- 'testlinerlaw03.CrushFalls': WHATEVER THE INPUT: true; the input reads as it did. -/
def crushFallsSpec : ChangeSpec := { name := "crushFalls", fn := fun _ => fun
  | [d1, d2, d3] => { results := [.lit (.bool true)], args := [d1, d2, d3] }
  | _ => none }
def crushFallsRow : OpenClaim := { program := "ytcdilmagcdbogaa", sum := "7a68e216b4479c0c90735f3e32e1e3bc5d02a1c4a03a3c3a8a309117609aeede", func := "testliner/testlinerlaw03.CrushFalls", spec := "crushFalls", unfollowed := true, recurses := true, apart := false }
def CrushFallsSaid : Prop := crushFallsRow.holds Try.pinned (OpenSpec.ofChange crushFallsSpec)

/-- ITS FALSE NEIGHBOUR: 'it returns false'. Refute it at one input. -/
def crushFallsWrong : ChangeSpec := { name := "crushFalls", fn := fun _ => fun
  | [d1, d2, d3] => { results := [.lit (.bool false)], args := [d1, d2, d3] }
  | _ => none }
def CrushFallsWrongFalsely : Prop := crushFallsRow.holds Try.pinned (OpenSpec.ofChange crushFallsWrong)

/-- 'testlinerlaw03.CrushHighs': WHATEVER THE INPUT: true; the input reads as it did. -/
def crushHighsSpec : ChangeSpec := { name := "crushHighs", fn := fun _ => fun
  | [d1, d2, d3] => { results := [.lit (.bool true)], args := [d1, d2, d3] }
  | _ => none }
def crushHighsRow : OpenClaim := { program := "ytcdilmagcdbogaa", sum := "7a68e216b4479c0c90735f3e32e1e3bc5d02a1c4a03a3c3a8a309117609aeede", func := "testliner/testlinerlaw03.CrushHighs", spec := "crushHighs", unfollowed := true, recurses := true, apart := false }
def CrushHighsSaid : Prop := crushHighsRow.holds Try.pinned (OpenSpec.ofChange crushHighsSpec)

/-- ITS FALSE NEIGHBOUR: 'it returns false'. Refute it at one input. -/
def crushHighsWrong : ChangeSpec := { name := "crushHighs", fn := fun _ => fun
  | [d1, d2, d3] => { results := [.lit (.bool false)], args := [d1, d2, d3] }
  | _ => none }
def CrushHighsWrongFalsely : Prop := crushHighsRow.holds Try.pinned (OpenSpec.ofChange crushHighsWrong)

/-- 'testlinerlaw03.CrushOrders': WHATEVER THE INPUT: true; the input reads as it did. -/
def crushOrdersSpec : ChangeSpec := { name := "crushOrders", fn := fun _ => fun
  | [d1, d2, d3] => { results := [.lit (.bool true)], args := [d1, d2, d3] }
  | _ => none }
def crushOrdersRow : OpenClaim := { program := "ytcdilmagcdbogaa", sum := "7a68e216b4479c0c90735f3e32e1e3bc5d02a1c4a03a3c3a8a309117609aeede", func := "testliner/testlinerlaw03.CrushOrders", spec := "crushOrders", unfollowed := true, recurses := true, apart := false }
def CrushOrdersSaid : Prop := crushOrdersRow.holds Try.pinned (OpenSpec.ofChange crushOrdersSpec)

/-- ITS FALSE NEIGHBOUR: 'it returns false'. Refute it at one input. -/
def crushOrdersWrong : ChangeSpec := { name := "crushOrders", fn := fun _ => fun
  | [d1, d2, d3] => { results := [.lit (.bool false)], args := [d1, d2, d3] }
  | _ => none }
def CrushOrdersWrongFalsely : Prop := crushOrdersRow.holds Try.pinned (OpenSpec.ofChange crushOrdersWrong)

/-- 'testlinerlaw03.CrushSure': WHATEVER THE INPUT: true; the input reads as it did. -/
def crushSureSpec : ChangeSpec := { name := "crushSure", fn := fun _ => fun
  | [d] => { results := [.lit (.bool true)], args := [d] }
  | _ => none }
def crushSureRow : OpenClaim := { program := "ytcdilmagcdbogaa", sum := "7a68e216b4479c0c90735f3e32e1e3bc5d02a1c4a03a3c3a8a309117609aeede", func := "testliner/testlinerlaw03.CrushSure", spec := "crushSure", unfollowed := true, recurses := true, apart := false }
def CrushSureSaid : Prop := crushSureRow.holds Try.pinned (OpenSpec.ofChange crushSureSpec)

/-- ITS FALSE NEIGHBOUR: 'it returns false'. Refute it at one input. -/
def crushSureWrong : ChangeSpec := { name := "crushSure", fn := fun _ => fun
  | [d] => { results := [.lit (.bool false)], args := [d] }
  | _ => none }
def CrushSureWrongFalsely : Prop := crushSureRow.holds Try.pinned (OpenSpec.ofChange crushSureWrong)

/-- 'testlinerlaw03.CrushFew': WHATEVER THE INPUT: true; the input reads as it did. -/
def crushFewSpec : ChangeSpec := { name := "crushFew", fn := fun _ => fun
  | [d1, d2, d3] => { results := [.lit (.bool true)], args := [d1, d2, d3] }
  | _ => none }
def crushFewRow : OpenClaim := { program := "ytcdilmagcdbogaa", sum := "7a68e216b4479c0c90735f3e32e1e3bc5d02a1c4a03a3c3a8a309117609aeede", func := "testliner/testlinerlaw03.CrushFew", spec := "crushFew", unfollowed := true, recurses := true, apart := false }
def CrushFewSaid : Prop := crushFewRow.holds Try.pinned (OpenSpec.ofChange crushFewSpec)

/-- ITS FALSE NEIGHBOUR: 'it returns false'. Refute it at one input. -/
def crushFewWrong : ChangeSpec := { name := "crushFew", fn := fun _ => fun
  | [d1, d2, d3] => { results := [.lit (.bool false)], args := [d1, d2, d3] }
  | _ => none }
def CrushFewWrongFalsely : Prop := crushFewRow.holds Try.pinned (OpenSpec.ofChange crushFewWrong)

/-- 'testlinerlaw03.CrushOut': WHATEVER THE INPUT: true; the input reads as it did. -/
def crushOutSpec : ChangeSpec := { name := "crushOut", fn := fun _ => fun
  | [d1, d2, d3] => { results := [.lit (.bool true)], args := [d1, d2, d3] }
  | _ => none }
def crushOutRow : OpenClaim := { program := "ytcdilmagcdbogaa", sum := "7a68e216b4479c0c90735f3e32e1e3bc5d02a1c4a03a3c3a8a309117609aeede", func := "testliner/testlinerlaw03.CrushOut", spec := "crushOut", unfollowed := true, recurses := true, apart := false }
def CrushOutSaid : Prop := crushOutRow.holds Try.pinned (OpenSpec.ofChange crushOutSpec)

/-- ITS FALSE NEIGHBOUR: 'it returns false'. Refute it at one input. -/
def crushOutWrong : ChangeSpec := { name := "crushOut", fn := fun _ => fun
  | [d1, d2, d3] => { results := [.lit (.bool false)], args := [d1, d2, d3] }
  | _ => none }
def CrushOutWrongFalsely : Prop := crushOutRow.holds Try.pinned (OpenSpec.ofChange crushOutWrong)

/-- 'testlinerlaw03.CrushRoot': WHATEVER THE INPUT: true; the input reads as it did. -/
def crushRootSpec : ChangeSpec := { name := "crushRoot", fn := fun _ => fun
  | [d1, d2] => { results := [.lit (.bool true)], args := [d1, d2] }
  | _ => none }
def crushRootRow : OpenClaim := { program := "ytcdilmagcdbogaa", sum := "7a68e216b4479c0c90735f3e32e1e3bc5d02a1c4a03a3c3a8a309117609aeede", func := "testliner/testlinerlaw03.CrushRoot", spec := "crushRoot", unfollowed := true, recurses := true, apart := false }
def CrushRootSaid : Prop := crushRootRow.holds Try.pinned (OpenSpec.ofChange crushRootSpec)

/-- ITS FALSE NEIGHBOUR: 'it returns false'. Refute it at one input. -/
def crushRootWrong : ChangeSpec := { name := "crushRoot", fn := fun _ => fun
  | [d1, d2] => { results := [.lit (.bool false)], args := [d1, d2] }
  | _ => none }
def CrushRootWrongFalsely : Prop := crushRootRow.holds Try.pinned (OpenSpec.ofChange crushRootWrong)

/-- 'testlinerlaw03.CrushStands': WHATEVER THE INPUT: true; the input reads as it did. -/
def crushStandsSpec : ChangeSpec := { name := "crushStands", fn := fun _ => fun
  | [d1, d2, d3] => { results := [.lit (.bool true)], args := [d1, d2, d3] }
  | _ => none }
def crushStandsRow : OpenClaim := { program := "ytcdilmagcdbogaa", sum := "7a68e216b4479c0c90735f3e32e1e3bc5d02a1c4a03a3c3a8a309117609aeede", func := "testliner/testlinerlaw03.CrushStands", spec := "crushStands", unfollowed := true, recurses := true, apart := false }
def CrushStandsSaid : Prop := crushStandsRow.holds Try.pinned (OpenSpec.ofChange crushStandsSpec)

/-- ITS FALSE NEIGHBOUR: 'it returns false'. Refute it at one input. -/
def crushStandsWrong : ChangeSpec := { name := "crushStands", fn := fun _ => fun
  | [d1, d2, d3] => { results := [.lit (.bool false)], args := [d1, d2, d3] }
  | _ => none }
def CrushStandsWrongFalsely : Prop := crushStandsRow.holds Try.pinned (OpenSpec.ofChange crushStandsWrong)

/-- 'testlinerlaw03.CrushStacked': WHATEVER THE INPUT: true; the input reads as it did. -/
def crushStackedSpec : ChangeSpec := { name := "crushStacked", fn := fun _ => fun
  | [d1, d2, d3] => { results := [.lit (.bool true)], args := [d1, d2, d3] }
  | _ => none }
def crushStackedRow : OpenClaim := { program := "ytcdilmagcdbogaa", sum := "7a68e216b4479c0c90735f3e32e1e3bc5d02a1c4a03a3c3a8a309117609aeede", func := "testliner/testlinerlaw03.CrushStacked", spec := "crushStacked", unfollowed := true, recurses := true, apart := false }
def CrushStackedSaid : Prop := crushStackedRow.holds Try.pinned (OpenSpec.ofChange crushStackedSpec)

/-- ITS FALSE NEIGHBOUR: 'it returns false'. Refute it at one input. -/
def crushStackedWrong : ChangeSpec := { name := "crushStacked", fn := fun _ => fun
  | [d1, d2, d3] => { results := [.lit (.bool false)], args := [d1, d2, d3] }
  | _ => none }
def CrushStackedWrongFalsely : Prop := crushStackedRow.holds Try.pinned (OpenSpec.ofChange crushStackedWrong)

/-- 'testlinerlaw03.CrushMore': WHATEVER THE INPUT: true; the input reads as it did. -/
def crushMoreSpec : ChangeSpec := { name := "crushMore", fn := fun _ => fun
  | [d1, d2, d3] => { results := [.lit (.bool true)], args := [d1, d2, d3] }
  | _ => none }
def crushMoreRow : OpenClaim := { program := "ytcdilmagcdbogaa", sum := "7a68e216b4479c0c90735f3e32e1e3bc5d02a1c4a03a3c3a8a309117609aeede", func := "testliner/testlinerlaw03.CrushMore", spec := "crushMore", unfollowed := true, recurses := true, apart := false }
def CrushMoreSaid : Prop := crushMoreRow.holds Try.pinned (OpenSpec.ofChange crushMoreSpec)

/-- ITS FALSE NEIGHBOUR: 'it returns false'. Refute it at one input. -/
def crushMoreWrong : ChangeSpec := { name := "crushMore", fn := fun _ => fun
  | [d1, d2, d3] => { results := [.lit (.bool false)], args := [d1, d2, d3] }
  | _ => none }
def CrushMoreWrongFalsely : Prop := crushMoreRow.holds Try.pinned (OpenSpec.ofChange crushMoreWrong)

/-- 'testlinertop.TopBoardBox': WHATEVER THE INPUT: true; the input reads as it did. -/
def topBoardBoxSpec : ChangeSpec := { name := "topBoardBox", fn := fun _ => fun
  | [d1, d2, d3] => { results := [.lit (.bool true)], args := [d1, d2, d3] }
  | _ => none }
def topBoardBoxRow : OpenClaim := { program := "ytcdilmagcdbogaa", sum := "7a68e216b4479c0c90735f3e32e1e3bc5d02a1c4a03a3c3a8a309117609aeede", func := "testliner/testlinertop.TopBoardBox", spec := "topBoardBox", unfollowed := true, recurses := true, apart := false }
def TopBoardBoxSaid : Prop := topBoardBoxRow.holds Try.pinned (OpenSpec.ofChange topBoardBoxSpec)

/-- ITS FALSE NEIGHBOUR: 'it returns false'. Refute it at one input. -/
def topBoardBoxWrong : ChangeSpec := { name := "topBoardBox", fn := fun _ => fun
  | [d1, d2, d3] => { results := [.lit (.bool false)], args := [d1, d2, d3] }
  | _ => none }
def TopBoardBoxWrongFalsely : Prop := topBoardBoxRow.holds Try.pinned (OpenSpec.ofChange topBoardBoxWrong)

/-- 'testlinertop.TopHeaviest': WHATEVER THE INPUT: true; the input reads as it did. -/
def topHeaviestSpec : ChangeSpec := { name := "topHeaviest", fn := fun _ => fun
  | [d1, d2, d3] => { results := [.lit (.bool true)], args := [d1, d2, d3] }
  | _ => none }
def topHeaviestRow : OpenClaim := { program := "ytcdilmagcdbogaa", sum := "7a68e216b4479c0c90735f3e32e1e3bc5d02a1c4a03a3c3a8a309117609aeede", func := "testliner/testlinertop.TopHeaviest", spec := "topHeaviest", unfollowed := true, recurses := true, apart := false }
def TopHeaviestSaid : Prop := topHeaviestRow.holds Try.pinned (OpenSpec.ofChange topHeaviestSpec)

/-- ITS FALSE NEIGHBOUR: 'it returns false'. Refute it at one input. -/
def topHeaviestWrong : ChangeSpec := { name := "topHeaviest", fn := fun _ => fun
  | [d1, d2, d3] => { results := [.lit (.bool false)], args := [d1, d2, d3] }
  | _ => none }
def TopHeaviestWrongFalsely : Prop := topHeaviestRow.holds Try.pinned (OpenSpec.ofChange topHeaviestWrong)

/- THE SECOND FORM. 'bulk': how many values and letters a reading holds, each counted each time it is reached (what is shared counts as often as it is met; a slice's spare places count too). A statement '..UptoSaid' is the law's where the arguments, and the package variables that the reading takes, are together of bulk at most 1048576: NARROWER than '..Said'. Prove '..Said' where nothing that the law and all that it calls make is longer than what came in: it says more and counts as full. Else prove '..UptoSaid'. A law counts once. -/
mutual
def uptoBulk {H : Type} : DataW H → Nat
  | .lit (.string bytes) => bytes.length + 1
  | .lit _ => 1
  | .nil => 1
  | .ptr d => uptoBulk d + 1
  | .slice elems spare => uptoBulkAll elems + uptoBulkAll spare + 1
  | .agg parts => uptoBulkAll parts + 1
  | .iface _ d => uptoBulk d + 1
  | .map entries => uptoBulkEntries entries + 1
  | .held _ => 1
def uptoBulkAll {H : Type} : List (DataW H) → Nat
  | [] => 0
  | d :: r => uptoBulk d + uptoBulkAll r
def uptoBulkEntries {H : Type} : List (Lit × DataW H) → Nat
  | [] => 0
  | x :: r => uptoBulkEntry x + uptoBulkEntries r
def uptoBulkEntry {H : Type} : Lit × DataW H → Nat
  | (.string bytes, d) => bytes.length + uptoBulk d + 1
  | (_, d) => uptoBulk d + 1
 end
def uptoSmall : (H : Type) → List (DataW H) → Bool := fun _ ds => decide (uptoBulkAll ds ≤ 1048576)
def OpenSpec.upto (s : _root_.Go.ChangeSpec) : _root_.Go.OpenSpec := { _root_.Go.OpenSpec.ofChange s with cond := some uptoSmall }

/-- 'testlinerlaw03.CrushDecides', WHERE WHAT IT READS IS OF BULK AT MOST 1048576: true; the input reads as it did. -/
def crushDecidesUptoRow : OpenClaim := { program := "ytcdilmagcdbogaa", sum := "7a68e216b4479c0c90735f3e32e1e3bc5d02a1c4a03a3c3a8a309117609aeede", func := "testliner/testlinerlaw03.CrushDecides", spec := "crushDecides", unfollowed := true, recurses := true, apart := false, narrowed := true }
def CrushDecidesUptoSaid : Prop := crushDecidesUptoRow.holds Try.pinned (OpenSpec.upto crushDecidesSpec)

/-- 'testlinerlaw03.CrushOdds', WHERE WHAT IT READS IS OF BULK AT MOST 1048576: true; the input reads as it did. -/
def crushOddsUptoRow : OpenClaim := { program := "ytcdilmagcdbogaa", sum := "7a68e216b4479c0c90735f3e32e1e3bc5d02a1c4a03a3c3a8a309117609aeede", func := "testliner/testlinerlaw03.CrushOdds", spec := "crushOdds", unfollowed := true, recurses := true, apart := false, narrowed := true }
def CrushOddsUptoSaid : Prop := crushOddsUptoRow.holds Try.pinned (OpenSpec.upto crushOddsSpec)

/-- 'testlinerlaw03.CrushStrengths', WHERE WHAT IT READS IS OF BULK AT MOST 1048576: true; the input reads as it did. -/
def crushStrengthsUptoRow : OpenClaim := { program := "ytcdilmagcdbogaa", sum := "7a68e216b4479c0c90735f3e32e1e3bc5d02a1c4a03a3c3a8a309117609aeede", func := "testliner/testlinerlaw03.CrushStrengths", spec := "crushStrengths", unfollowed := true, recurses := true, apart := false, narrowed := true }
def CrushStrengthsUptoSaid : Prop := crushStrengthsUptoRow.holds Try.pinned (OpenSpec.upto crushStrengthsSpec)

/-- 'testlinerlaw03.CrushFalls', WHERE WHAT IT READS IS OF BULK AT MOST 1048576: true; the input reads as it did. -/
def crushFallsUptoRow : OpenClaim := { program := "ytcdilmagcdbogaa", sum := "7a68e216b4479c0c90735f3e32e1e3bc5d02a1c4a03a3c3a8a309117609aeede", func := "testliner/testlinerlaw03.CrushFalls", spec := "crushFalls", unfollowed := true, recurses := true, apart := false, narrowed := true }
def CrushFallsUptoSaid : Prop := crushFallsUptoRow.holds Try.pinned (OpenSpec.upto crushFallsSpec)

/-- 'testlinerlaw03.CrushHighs', WHERE WHAT IT READS IS OF BULK AT MOST 1048576: true; the input reads as it did. -/
def crushHighsUptoRow : OpenClaim := { program := "ytcdilmagcdbogaa", sum := "7a68e216b4479c0c90735f3e32e1e3bc5d02a1c4a03a3c3a8a309117609aeede", func := "testliner/testlinerlaw03.CrushHighs", spec := "crushHighs", unfollowed := true, recurses := true, apart := false, narrowed := true }
def CrushHighsUptoSaid : Prop := crushHighsUptoRow.holds Try.pinned (OpenSpec.upto crushHighsSpec)

/-- 'testlinerlaw03.CrushOrders', WHERE WHAT IT READS IS OF BULK AT MOST 1048576: true; the input reads as it did. -/
def crushOrdersUptoRow : OpenClaim := { program := "ytcdilmagcdbogaa", sum := "7a68e216b4479c0c90735f3e32e1e3bc5d02a1c4a03a3c3a8a309117609aeede", func := "testliner/testlinerlaw03.CrushOrders", spec := "crushOrders", unfollowed := true, recurses := true, apart := false, narrowed := true }
def CrushOrdersUptoSaid : Prop := crushOrdersUptoRow.holds Try.pinned (OpenSpec.upto crushOrdersSpec)

/-- 'testlinerlaw03.CrushSure', WHERE WHAT IT READS IS OF BULK AT MOST 1048576: true; the input reads as it did. -/
def crushSureUptoRow : OpenClaim := { program := "ytcdilmagcdbogaa", sum := "7a68e216b4479c0c90735f3e32e1e3bc5d02a1c4a03a3c3a8a309117609aeede", func := "testliner/testlinerlaw03.CrushSure", spec := "crushSure", unfollowed := true, recurses := true, apart := false, narrowed := true }
def CrushSureUptoSaid : Prop := crushSureUptoRow.holds Try.pinned (OpenSpec.upto crushSureSpec)

/-- 'testlinerlaw03.CrushFew', WHERE WHAT IT READS IS OF BULK AT MOST 1048576: true; the input reads as it did. -/
def crushFewUptoRow : OpenClaim := { program := "ytcdilmagcdbogaa", sum := "7a68e216b4479c0c90735f3e32e1e3bc5d02a1c4a03a3c3a8a309117609aeede", func := "testliner/testlinerlaw03.CrushFew", spec := "crushFew", unfollowed := true, recurses := true, apart := false, narrowed := true }
def CrushFewUptoSaid : Prop := crushFewUptoRow.holds Try.pinned (OpenSpec.upto crushFewSpec)

/-- 'testlinerlaw03.CrushOut', WHERE WHAT IT READS IS OF BULK AT MOST 1048576: true; the input reads as it did. -/
def crushOutUptoRow : OpenClaim := { program := "ytcdilmagcdbogaa", sum := "7a68e216b4479c0c90735f3e32e1e3bc5d02a1c4a03a3c3a8a309117609aeede", func := "testliner/testlinerlaw03.CrushOut", spec := "crushOut", unfollowed := true, recurses := true, apart := false, narrowed := true }
def CrushOutUptoSaid : Prop := crushOutUptoRow.holds Try.pinned (OpenSpec.upto crushOutSpec)

/-- 'testlinerlaw03.CrushRoot', WHERE WHAT IT READS IS OF BULK AT MOST 1048576: true; the input reads as it did. -/
def crushRootUptoRow : OpenClaim := { program := "ytcdilmagcdbogaa", sum := "7a68e216b4479c0c90735f3e32e1e3bc5d02a1c4a03a3c3a8a309117609aeede", func := "testliner/testlinerlaw03.CrushRoot", spec := "crushRoot", unfollowed := true, recurses := true, apart := false, narrowed := true }
def CrushRootUptoSaid : Prop := crushRootUptoRow.holds Try.pinned (OpenSpec.upto crushRootSpec)

/-- 'testlinerlaw03.CrushStands', WHERE WHAT IT READS IS OF BULK AT MOST 1048576: true; the input reads as it did. -/
def crushStandsUptoRow : OpenClaim := { program := "ytcdilmagcdbogaa", sum := "7a68e216b4479c0c90735f3e32e1e3bc5d02a1c4a03a3c3a8a309117609aeede", func := "testliner/testlinerlaw03.CrushStands", spec := "crushStands", unfollowed := true, recurses := true, apart := false, narrowed := true }
def CrushStandsUptoSaid : Prop := crushStandsUptoRow.holds Try.pinned (OpenSpec.upto crushStandsSpec)

/-- 'testlinerlaw03.CrushStacked', WHERE WHAT IT READS IS OF BULK AT MOST 1048576: true; the input reads as it did. -/
def crushStackedUptoRow : OpenClaim := { program := "ytcdilmagcdbogaa", sum := "7a68e216b4479c0c90735f3e32e1e3bc5d02a1c4a03a3c3a8a309117609aeede", func := "testliner/testlinerlaw03.CrushStacked", spec := "crushStacked", unfollowed := true, recurses := true, apart := false, narrowed := true }
def CrushStackedUptoSaid : Prop := crushStackedUptoRow.holds Try.pinned (OpenSpec.upto crushStackedSpec)

/-- 'testlinerlaw03.CrushMore', WHERE WHAT IT READS IS OF BULK AT MOST 1048576: true; the input reads as it did. -/
def crushMoreUptoRow : OpenClaim := { program := "ytcdilmagcdbogaa", sum := "7a68e216b4479c0c90735f3e32e1e3bc5d02a1c4a03a3c3a8a309117609aeede", func := "testliner/testlinerlaw03.CrushMore", spec := "crushMore", unfollowed := true, recurses := true, apart := false, narrowed := true }
def CrushMoreUptoSaid : Prop := crushMoreUptoRow.holds Try.pinned (OpenSpec.upto crushMoreSpec)

/-- 'testlinertop.TopBoardBox', WHERE WHAT IT READS IS OF BULK AT MOST 1048576: true; the input reads as it did. -/
def topBoardBoxUptoRow : OpenClaim := { program := "ytcdilmagcdbogaa", sum := "7a68e216b4479c0c90735f3e32e1e3bc5d02a1c4a03a3c3a8a309117609aeede", func := "testliner/testlinertop.TopBoardBox", spec := "topBoardBox", unfollowed := true, recurses := true, apart := false, narrowed := true }
def TopBoardBoxUptoSaid : Prop := topBoardBoxUptoRow.holds Try.pinned (OpenSpec.upto topBoardBoxSpec)

/-- 'testlinertop.TopHeaviest', WHERE WHAT IT READS IS OF BULK AT MOST 1048576: true; the input reads as it did. -/
def topHeaviestUptoRow : OpenClaim := { program := "ytcdilmagcdbogaa", sum := "7a68e216b4479c0c90735f3e32e1e3bc5d02a1c4a03a3c3a8a309117609aeede", func := "testliner/testlinertop.TopHeaviest", spec := "topHeaviest", unfollowed := true, recurses := true, apart := false, narrowed := true }
def TopHeaviestUptoSaid : Prop := topHeaviestUptoRow.holds Try.pinned (OpenSpec.upto topHeaviestSpec)

end Rows
end Go.Proofs.Ytcdilmagcdbogaa
