/-
  No cell of these rows narrows 'for every input' (looked for: loops, veiled, ifaces, maps, wideKeys, modest, calm, conditions, laid).
  DERIVED. THE GIVEN ROWS OF THIS SEAT. 11 by the template 'for every input the law returns true; each argument reads behind the call as it read before'; 0 by the template 'total and deterministic' (their statements: YtoihnilgmdcndaaTotals.lean).
  GIVEN WITH THE SEED: the statements are not yours to turn. If you find one false, say at which input.
  Laid BY PROGRAM, IN A SANDBOX (cutbox-rows.mjs): the forced cells as the released guide's own fill.sh prints them over the translation b8a25e7614987965… (all of the seat's roots in one cut). By AI agents, Wed Nov 11 2026. No macro, syntax, notation, axiom, sorry.
-/
import Derived.Test.YtoihnilgmdcndaaChecked
import GoSem.Claim
import GoSem.ClaimJoined
import GoSem.ClaimMapViews
import Derived.JoinedTies
import Derived.KernelRfl
namespace Go.Proofs.Ytoihnilgmdcndaa
/- THE CELL 'sum', in the pinned program and in every row, IS THE sha256 OF THE DUMP (.gsa) THAT YtoihnilgmdcndaaProg.lean LOADS. Nothing in Lean hashes anything: it is a label: what it is worth is what the hold of that sum in a sandbox is worth. -/
noncomputable def Try.pinned : Pinned := { name := "ytoihnilgmdcndaa", sum := "b8a25e761498796560fe66215894bf0cfd304d91d7ce75de08e6721605178259", checked := Try.checked }
namespace Rows
def none {H : Type} : Left H := { results := [], args := [] }

/-- 'testlinerlaw02.ScoreSizes': WHATEVER THE INPUT: true; the input reads as it did. -/
def scoreSizesSpec : ChangeSpec := { name := "scoreSizes", fn := fun _ => fun
  | [d] => { results := [.lit (.bool true)], args := [d] }
  | _ => none }
def scoreSizesRow : OpenClaim := { program := "ytoihnilgmdcndaa", sum := "b8a25e761498796560fe66215894bf0cfd304d91d7ce75de08e6721605178259", func := "testliner/testlinerlaw02.ScoreSizes", spec := "scoreSizes", unfollowed := true, recurses := true, apart := false }
def ScoreSizesSaid : Prop := scoreSizesRow.holds Try.pinned (OpenSpec.ofChange scoreSizesSpec)

/-- ITS FALSE NEIGHBOUR: 'it returns false'. Refute it at one input. -/
def scoreSizesWrong : ChangeSpec := { name := "scoreSizes", fn := fun _ => fun
  | [d] => { results := [.lit (.bool false)], args := [d] }
  | _ => none }
def ScoreSizesWrongFalsely : Prop := scoreSizesRow.holds Try.pinned (OpenSpec.ofChange scoreSizesWrong)

/-- 'testlinerlaw02.ScoreInners': WHATEVER THE INPUT: true; the input reads as it did. -/
def scoreInnersSpec : ChangeSpec := { name := "scoreInners", fn := fun _ => fun
  | [d1, d2, d3] => { results := [.lit (.bool true)], args := [d1, d2, d3] }
  | _ => none }
def scoreInnersRow : OpenClaim := { program := "ytoihnilgmdcndaa", sum := "b8a25e761498796560fe66215894bf0cfd304d91d7ce75de08e6721605178259", func := "testliner/testlinerlaw02.ScoreInners", spec := "scoreInners", unfollowed := true, recurses := true, apart := false }
def ScoreInnersSaid : Prop := scoreInnersRow.holds Try.pinned (OpenSpec.ofChange scoreInnersSpec)

/-- ITS FALSE NEIGHBOUR: 'it returns false'. Refute it at one input. -/
def scoreInnersWrong : ChangeSpec := { name := "scoreInners", fn := fun _ => fun
  | [d1, d2, d3] => { results := [.lit (.bool false)], args := [d1, d2, d3] }
  | _ => none }
def ScoreInnersWrongFalsely : Prop := scoreInnersRow.holds Try.pinned (OpenSpec.ofChange scoreInnersWrong)

/-- 'testlinerlaw02.ScoreBlanks': WHATEVER THE INPUT: true; the input reads as it did. -/
def scoreBlanksSpec : ChangeSpec := { name := "scoreBlanks", fn := fun _ => fun
  | [d1, d2, d3] => { results := [.lit (.bool true)], args := [d1, d2, d3] }
  | _ => none }
def scoreBlanksRow : OpenClaim := { program := "ytoihnilgmdcndaa", sum := "b8a25e761498796560fe66215894bf0cfd304d91d7ce75de08e6721605178259", func := "testliner/testlinerlaw02.ScoreBlanks", spec := "scoreBlanks", unfollowed := true, recurses := true, apart := false }
def ScoreBlanksSaid : Prop := scoreBlanksRow.holds Try.pinned (OpenSpec.ofChange scoreBlanksSpec)

/-- ITS FALSE NEIGHBOUR: 'it returns false'. Refute it at one input. -/
def scoreBlanksWrong : ChangeSpec := { name := "scoreBlanks", fn := fun _ => fun
  | [d1, d2, d3] => { results := [.lit (.bool false)], args := [d1, d2, d3] }
  | _ => none }
def ScoreBlanksWrongFalsely : Prop := scoreBlanksRow.holds Try.pinned (OpenSpec.ofChange scoreBlanksWrong)

/-- 'testlinerlaw02.ScorePlays': WHATEVER THE INPUT: true; the input reads as it did. -/
def scorePlaysSpec : ChangeSpec := { name := "scorePlays", fn := fun _ => fun
  | [d1, d2, d3] => { results := [.lit (.bool true)], args := [d1, d2, d3] }
  | _ => none }
def scorePlaysRow : OpenClaim := { program := "ytoihnilgmdcndaa", sum := "b8a25e761498796560fe66215894bf0cfd304d91d7ce75de08e6721605178259", func := "testliner/testlinerlaw02.ScorePlays", spec := "scorePlays", unfollowed := true, recurses := true, apart := false }
def ScorePlaysSaid : Prop := scorePlaysRow.holds Try.pinned (OpenSpec.ofChange scorePlaysSpec)

/-- ITS FALSE NEIGHBOUR: 'it returns false'. Refute it at one input. -/
def scorePlaysWrong : ChangeSpec := { name := "scorePlays", fn := fun _ => fun
  | [d1, d2, d3] => { results := [.lit (.bool false)], args := [d1, d2, d3] }
  | _ => none }
def ScorePlaysWrongFalsely : Prop := scorePlaysRow.holds Try.pinned (OpenSpec.ofChange scorePlaysWrong)

/-- 'testlinerlaw02.ScoreHolds': WHATEVER THE INPUT: true; the input reads as it did. -/
def scoreHoldsSpec : ChangeSpec := { name := "scoreHolds", fn := fun _ => fun
  | [d1, d2, d3] => { results := [.lit (.bool true)], args := [d1, d2, d3] }
  | _ => none }
def scoreHoldsRow : OpenClaim := { program := "ytoihnilgmdcndaa", sum := "b8a25e761498796560fe66215894bf0cfd304d91d7ce75de08e6721605178259", func := "testliner/testlinerlaw02.ScoreHolds", spec := "scoreHolds", unfollowed := true, recurses := true, apart := false }
def ScoreHoldsSaid : Prop := scoreHoldsRow.holds Try.pinned (OpenSpec.ofChange scoreHoldsSpec)

/-- ITS FALSE NEIGHBOUR: 'it returns false'. Refute it at one input. -/
def scoreHoldsWrong : ChangeSpec := { name := "scoreHolds", fn := fun _ => fun
  | [d1, d2, d3] => { results := [.lit (.bool false)], args := [d1, d2, d3] }
  | _ => none }
def ScoreHoldsWrongFalsely : Prop := scoreHoldsRow.holds Try.pinned (OpenSpec.ofChange scoreHoldsWrong)

/-- 'testlinerlaw02.ScoreFolds': WHATEVER THE INPUT: true; the input reads as it did. -/
def scoreFoldsSpec : ChangeSpec := { name := "scoreFolds", fn := fun _ => fun
  | [d1, d2, d3] => { results := [.lit (.bool true)], args := [d1, d2, d3] }
  | _ => none }
def scoreFoldsRow : OpenClaim := { program := "ytoihnilgmdcndaa", sum := "b8a25e761498796560fe66215894bf0cfd304d91d7ce75de08e6721605178259", func := "testliner/testlinerlaw02.ScoreFolds", spec := "scoreFolds", unfollowed := true, recurses := true, apart := false }
def ScoreFoldsSaid : Prop := scoreFoldsRow.holds Try.pinned (OpenSpec.ofChange scoreFoldsSpec)

/-- ITS FALSE NEIGHBOUR: 'it returns false'. Refute it at one input. -/
def scoreFoldsWrong : ChangeSpec := { name := "scoreFolds", fn := fun _ => fun
  | [d1, d2, d3] => { results := [.lit (.bool false)], args := [d1, d2, d3] }
  | _ => none }
def ScoreFoldsWrongFalsely : Prop := scoreFoldsRow.holds Try.pinned (OpenSpec.ofChange scoreFoldsWrong)

/-- 'testlinerlaw02.ScoreNamed': WHATEVER THE INPUT: true; the input reads as it did. -/
def scoreNamedSpec : ChangeSpec := { name := "scoreNamed", fn := fun _ => fun
  | [d1, d2] => { results := [.lit (.bool true)], args := [d1, d2] }
  | _ => none }
def scoreNamedRow : OpenClaim := { program := "ytoihnilgmdcndaa", sum := "b8a25e761498796560fe66215894bf0cfd304d91d7ce75de08e6721605178259", func := "testliner/testlinerlaw02.ScoreNamed", spec := "scoreNamed", unfollowed := true, recurses := true, apart := false }
def ScoreNamedSaid : Prop := scoreNamedRow.holds Try.pinned (OpenSpec.ofChange scoreNamedSpec)

/-- ITS FALSE NEIGHBOUR: 'it returns false'. Refute it at one input. -/
def scoreNamedWrong : ChangeSpec := { name := "scoreNamed", fn := fun _ => fun
  | [d1, d2] => { results := [.lit (.bool false)], args := [d1, d2] }
  | _ => none }
def ScoreNamedWrongFalsely : Prop := scoreNamedRow.holds Try.pinned (OpenSpec.ofChange scoreNamedWrong)

/-- 'testlinerlaw02.ScoreLeast': WHATEVER THE INPUT: true; the input reads as it did. -/
def scoreLeastSpec : ChangeSpec := { name := "scoreLeast", fn := fun _ => fun
  | [d1, d2] => { results := [.lit (.bool true)], args := [d1, d2] }
  | _ => none }
def scoreLeastRow : OpenClaim := { program := "ytoihnilgmdcndaa", sum := "b8a25e761498796560fe66215894bf0cfd304d91d7ce75de08e6721605178259", func := "testliner/testlinerlaw02.ScoreLeast", spec := "scoreLeast", unfollowed := true, recurses := true, apart := false }
def ScoreLeastSaid : Prop := scoreLeastRow.holds Try.pinned (OpenSpec.ofChange scoreLeastSpec)

/-- ITS FALSE NEIGHBOUR: 'it returns false'. Refute it at one input. -/
def scoreLeastWrong : ChangeSpec := { name := "scoreLeast", fn := fun _ => fun
  | [d1, d2] => { results := [.lit (.bool false)], args := [d1, d2] }
  | _ => none }
def ScoreLeastWrongFalsely : Prop := scoreLeastRow.holds Try.pinned (OpenSpec.ofChange scoreLeastWrong)

/-- 'testlinerlaw02.ScoreTruth': WHATEVER THE INPUT: true; the input reads as it did. -/
def scoreTruthSpec : ChangeSpec := { name := "scoreTruth", fn := fun _ => fun
  | [d1, d2, d3] => { results := [.lit (.bool true)], args := [d1, d2, d3] }
  | _ => none }
def scoreTruthRow : OpenClaim := { program := "ytoihnilgmdcndaa", sum := "b8a25e761498796560fe66215894bf0cfd304d91d7ce75de08e6721605178259", func := "testliner/testlinerlaw02.ScoreTruth", spec := "scoreTruth", unfollowed := true, recurses := true, apart := false }
def ScoreTruthSaid : Prop := scoreTruthRow.holds Try.pinned (OpenSpec.ofChange scoreTruthSpec)

/-- ITS FALSE NEIGHBOUR: 'it returns false'. Refute it at one input. -/
def scoreTruthWrong : ChangeSpec := { name := "scoreTruth", fn := fun _ => fun
  | [d1, d2, d3] => { results := [.lit (.bool false)], args := [d1, d2, d3] }
  | _ => none }
def ScoreTruthWrongFalsely : Prop := scoreTruthRow.holds Try.pinned (OpenSpec.ofChange scoreTruthWrong)

/-- 'testlinerlaw02.ScoreOver': WHATEVER THE INPUT: true; the input reads as it did. -/
def scoreOverSpec : ChangeSpec := { name := "scoreOver", fn := fun _ => fun
  | [d1, d2, d3] => { results := [.lit (.bool true)], args := [d1, d2, d3] }
  | _ => none }
def scoreOverRow : OpenClaim := { program := "ytoihnilgmdcndaa", sum := "b8a25e761498796560fe66215894bf0cfd304d91d7ce75de08e6721605178259", func := "testliner/testlinerlaw02.ScoreOver", spec := "scoreOver", unfollowed := true, recurses := true, apart := false }
def ScoreOverSaid : Prop := scoreOverRow.holds Try.pinned (OpenSpec.ofChange scoreOverSpec)

/-- ITS FALSE NEIGHBOUR: 'it returns false'. Refute it at one input. -/
def scoreOverWrong : ChangeSpec := { name := "scoreOver", fn := fun _ => fun
  | [d1, d2, d3] => { results := [.lit (.bool false)], args := [d1, d2, d3] }
  | _ => none }
def ScoreOverWrongFalsely : Prop := scoreOverRow.holds Try.pinned (OpenSpec.ofChange scoreOverWrong)

/-- 'testlinertop.TopBoardCloses': WHATEVER THE INPUT: true; the input reads as it did. -/
def topBoardClosesSpec : ChangeSpec := { name := "topBoardCloses", fn := fun _ => fun
  | [d1, d2, d3] => { results := [.lit (.bool true)], args := [d1, d2, d3] }
  | _ => none }
def topBoardClosesRow : OpenClaim := { program := "ytoihnilgmdcndaa", sum := "b8a25e761498796560fe66215894bf0cfd304d91d7ce75de08e6721605178259", func := "testliner/testlinertop.TopBoardCloses", spec := "topBoardCloses", unfollowed := true, recurses := true, apart := false }
def TopBoardClosesSaid : Prop := topBoardClosesRow.holds Try.pinned (OpenSpec.ofChange topBoardClosesSpec)

/-- ITS FALSE NEIGHBOUR: 'it returns false'. Refute it at one input. -/
def topBoardClosesWrong : ChangeSpec := { name := "topBoardCloses", fn := fun _ => fun
  | [d1, d2, d3] => { results := [.lit (.bool false)], args := [d1, d2, d3] }
  | _ => none }
def TopBoardClosesWrongFalsely : Prop := topBoardClosesRow.holds Try.pinned (OpenSpec.ofChange topBoardClosesWrong)

/- THE SECOND FORM. 'bulk': how many values and letters a reading holds, each counted each time it is reached (what is shared counts as often as it is met; a slice's spare places count too). A statement '..UptoSaid' is the law's where the arguments, and the package variables that the reading takes, are together of bulk at most 1048576: NARROWER than '..Said'. Prove '..Said' where nothing that the law and all that it calls make is longer than what came in: it says more and counts as full. Else prove '..UptoSaid'. A law counts once. -/
mutual
def uptoBulk {H : Type} : DataW H → Nat
  | .lit (.string bytes) => bytes.length + 1
  | .lit _ => 1
  | .nil => 1
  | .ptr d => uptoBulk d + 1
  | .slice elems spare => uptoBulkAll elems + uptoBulkAll spare + 1
  | .agg parts => uptoBulkAll parts + 1
  | .iface _ d => uptoBulk d + 1
  | .map entries => uptoBulkEntries entries + 1
  | .held _ => 1
def uptoBulkAll {H : Type} : List (DataW H) → Nat
  | [] => 0
  | d :: r => uptoBulk d + uptoBulkAll r
def uptoBulkEntries {H : Type} : List (Lit × DataW H) → Nat
  | [] => 0
  | x :: r => uptoBulkEntry x + uptoBulkEntries r
def uptoBulkEntry {H : Type} : Lit × DataW H → Nat
  | (.string bytes, d) => bytes.length + uptoBulk d + 1
  | (_, d) => uptoBulk d + 1
 end
def uptoSmall : (H : Type) → List (DataW H) → Bool := fun _ ds => decide (uptoBulkAll ds ≤ 1048576)
def OpenSpec.upto (s : _root_.Go.ChangeSpec) : _root_.Go.OpenSpec := { _root_.Go.OpenSpec.ofChange s with cond := some uptoSmall }

/-- 'testlinerlaw02.ScoreSizes', WHERE WHAT IT READS IS OF BULK AT MOST 1048576: true; the input reads as it did. -/
def scoreSizesUptoRow : OpenClaim := { program := "ytoihnilgmdcndaa", sum := "b8a25e761498796560fe66215894bf0cfd304d91d7ce75de08e6721605178259", func := "testliner/testlinerlaw02.ScoreSizes", spec := "scoreSizes", unfollowed := true, recurses := true, apart := false, narrowed := true }
def ScoreSizesUptoSaid : Prop := scoreSizesUptoRow.holds Try.pinned (OpenSpec.upto scoreSizesSpec)

/-- 'testlinerlaw02.ScoreInners', WHERE WHAT IT READS IS OF BULK AT MOST 1048576: true; the input reads as it did. -/
def scoreInnersUptoRow : OpenClaim := { program := "ytoihnilgmdcndaa", sum := "b8a25e761498796560fe66215894bf0cfd304d91d7ce75de08e6721605178259", func := "testliner/testlinerlaw02.ScoreInners", spec := "scoreInners", unfollowed := true, recurses := true, apart := false, narrowed := true }
def ScoreInnersUptoSaid : Prop := scoreInnersUptoRow.holds Try.pinned (OpenSpec.upto scoreInnersSpec)

/-- 'testlinerlaw02.ScoreBlanks', WHERE WHAT IT READS IS OF BULK AT MOST 1048576: true; the input reads as it did. -/
def scoreBlanksUptoRow : OpenClaim := { program := "ytoihnilgmdcndaa", sum := "b8a25e761498796560fe66215894bf0cfd304d91d7ce75de08e6721605178259", func := "testliner/testlinerlaw02.ScoreBlanks", spec := "scoreBlanks", unfollowed := true, recurses := true, apart := false, narrowed := true }
def ScoreBlanksUptoSaid : Prop := scoreBlanksUptoRow.holds Try.pinned (OpenSpec.upto scoreBlanksSpec)

/-- 'testlinerlaw02.ScorePlays', WHERE WHAT IT READS IS OF BULK AT MOST 1048576: true; the input reads as it did. -/
def scorePlaysUptoRow : OpenClaim := { program := "ytoihnilgmdcndaa", sum := "b8a25e761498796560fe66215894bf0cfd304d91d7ce75de08e6721605178259", func := "testliner/testlinerlaw02.ScorePlays", spec := "scorePlays", unfollowed := true, recurses := true, apart := false, narrowed := true }
def ScorePlaysUptoSaid : Prop := scorePlaysUptoRow.holds Try.pinned (OpenSpec.upto scorePlaysSpec)

/-- 'testlinerlaw02.ScoreHolds', WHERE WHAT IT READS IS OF BULK AT MOST 1048576: true; the input reads as it did. -/
def scoreHoldsUptoRow : OpenClaim := { program := "ytoihnilgmdcndaa", sum := "b8a25e761498796560fe66215894bf0cfd304d91d7ce75de08e6721605178259", func := "testliner/testlinerlaw02.ScoreHolds", spec := "scoreHolds", unfollowed := true, recurses := true, apart := false, narrowed := true }
def ScoreHoldsUptoSaid : Prop := scoreHoldsUptoRow.holds Try.pinned (OpenSpec.upto scoreHoldsSpec)

/-- 'testlinerlaw02.ScoreFolds', WHERE WHAT IT READS IS OF BULK AT MOST 1048576: true; the input reads as it did. -/
def scoreFoldsUptoRow : OpenClaim := { program := "ytoihnilgmdcndaa", sum := "b8a25e761498796560fe66215894bf0cfd304d91d7ce75de08e6721605178259", func := "testliner/testlinerlaw02.ScoreFolds", spec := "scoreFolds", unfollowed := true, recurses := true, apart := false, narrowed := true }
def ScoreFoldsUptoSaid : Prop := scoreFoldsUptoRow.holds Try.pinned (OpenSpec.upto scoreFoldsSpec)

/-- 'testlinerlaw02.ScoreNamed', WHERE WHAT IT READS IS OF BULK AT MOST 1048576: true; the input reads as it did. -/
def scoreNamedUptoRow : OpenClaim := { program := "ytoihnilgmdcndaa", sum := "b8a25e761498796560fe66215894bf0cfd304d91d7ce75de08e6721605178259", func := "testliner/testlinerlaw02.ScoreNamed", spec := "scoreNamed", unfollowed := true, recurses := true, apart := false, narrowed := true }
def ScoreNamedUptoSaid : Prop := scoreNamedUptoRow.holds Try.pinned (OpenSpec.upto scoreNamedSpec)

/-- 'testlinerlaw02.ScoreLeast', WHERE WHAT IT READS IS OF BULK AT MOST 1048576: true; the input reads as it did. -/
def scoreLeastUptoRow : OpenClaim := { program := "ytoihnilgmdcndaa", sum := "b8a25e761498796560fe66215894bf0cfd304d91d7ce75de08e6721605178259", func := "testliner/testlinerlaw02.ScoreLeast", spec := "scoreLeast", unfollowed := true, recurses := true, apart := false, narrowed := true }
def ScoreLeastUptoSaid : Prop := scoreLeastUptoRow.holds Try.pinned (OpenSpec.upto scoreLeastSpec)

/-- 'testlinerlaw02.ScoreTruth', WHERE WHAT IT READS IS OF BULK AT MOST 1048576: true; the input reads as it did. -/
def scoreTruthUptoRow : OpenClaim := { program := "ytoihnilgmdcndaa", sum := "b8a25e761498796560fe66215894bf0cfd304d91d7ce75de08e6721605178259", func := "testliner/testlinerlaw02.ScoreTruth", spec := "scoreTruth", unfollowed := true, recurses := true, apart := false, narrowed := true }
def ScoreTruthUptoSaid : Prop := scoreTruthUptoRow.holds Try.pinned (OpenSpec.upto scoreTruthSpec)

/-- 'testlinerlaw02.ScoreOver', WHERE WHAT IT READS IS OF BULK AT MOST 1048576: true; the input reads as it did. -/
def scoreOverUptoRow : OpenClaim := { program := "ytoihnilgmdcndaa", sum := "b8a25e761498796560fe66215894bf0cfd304d91d7ce75de08e6721605178259", func := "testliner/testlinerlaw02.ScoreOver", spec := "scoreOver", unfollowed := true, recurses := true, apart := false, narrowed := true }
def ScoreOverUptoSaid : Prop := scoreOverUptoRow.holds Try.pinned (OpenSpec.upto scoreOverSpec)

/-- 'testlinertop.TopBoardCloses', WHERE WHAT IT READS IS OF BULK AT MOST 1048576: true; the input reads as it did. -/
def topBoardClosesUptoRow : OpenClaim := { program := "ytoihnilgmdcndaa", sum := "b8a25e761498796560fe66215894bf0cfd304d91d7ce75de08e6721605178259", func := "testliner/testlinertop.TopBoardCloses", spec := "topBoardCloses", unfollowed := true, recurses := true, apart := false, narrowed := true }
def TopBoardClosesUptoSaid : Prop := topBoardClosesUptoRow.holds Try.pinned (OpenSpec.upto topBoardClosesSpec)

end Rows
end Go.Proofs.Ytoihnilgmdcndaa
