/-
  No cell of these rows narrows 'for every input' (looked for: loops, veiled, ifaces, maps, wideKeys, modest, calm, conditions, laid).
  DERIVED. THE GIVEN ROWS OF THIS SEAT. 12 by the template 'for every input the law returns true; each argument reads behind the call as it read before'; 0 by the template 'total and deterministic' (their statements: YtbjbjbpgmojcbaaTotals.lean).
  GIVEN WITH THE SEED: the statements are not yours to turn. If you find one false, say at which input.
  Laid BY PROGRAM, IN A SANDBOX (cutbox-rows.mjs): the forced cells as the released guide's own fill.sh prints them over the translation 780f360cbe2e159a… (all of the seat's roots in one cut). By AI agents, Wed Nov 11 2026. No macro, syntax, notation, axiom, sorry.
-/
import Derived.Test.YtbjbjbpgmojcbaaChecked
import GoSem.Claim
import GoSem.ClaimJoined
import GoSem.ClaimMapViews
import Derived.JoinedTies
import Derived.KernelRfl
namespace Go.Proofs.Ytbjbjbpgmojcbaa
/- THE CELL 'sum', in the pinned program and in every row, IS THE sha256 OF THE DUMP (.gsa) THAT YtbjbjbpgmojcbaaProg.lean LOADS. Nothing in Lean hashes anything: it is a label: what it is worth is what the hold of that sum in a sandbox is worth. -/
noncomputable def Try.pinned : Pinned := { name := "ytbjbjbpgmojcbaa", sum := "780f360cbe2e159a3d11a9aeb8e624fe1fafbfd05bdbded5e23354b40f8b8740", checked := Try.checked }
namespace Rows
def none {H : Type} : Left H := { results := [], args := [] }

/-- 'pocketpresslaw.NumsTells': WHATEVER THE INPUT: true; the input reads as it did. -/
def numsTellsSpec : ChangeSpec := { name := "numsTells", fn := fun _ => fun
  | [d1, d2, d3] => { results := [.lit (.bool true)], args := [d1, d2, d3] }
  | _ => none }
def numsTellsRow : OpenClaim := { program := "ytbjbjbpgmojcbaa", sum := "780f360cbe2e159a3d11a9aeb8e624fe1fafbfd05bdbded5e23354b40f8b8740", func := "pocketpress/pocketpresslaw.NumsTells", spec := "numsTells", recurses := true, apart := false }
def NumsTellsSaid : Prop := numsTellsRow.holds Try.pinned (OpenSpec.ofChange numsTellsSpec)

/-- ITS FALSE NEIGHBOUR: 'it returns false'. Refute it at one input. -/
def numsTellsWrong : ChangeSpec := { name := "numsTells", fn := fun _ => fun
  | [d1, d2, d3] => { results := [.lit (.bool false)], args := [d1, d2, d3] }
  | _ => none }
def NumsTellsWrongFalsely : Prop := numsTellsRow.holds Try.pinned (OpenSpec.ofChange numsTellsWrong)

/-- 'pocketpresslaw.NumsBack': WHATEVER THE INPUT: true; the input reads as it did. -/
def numsBackSpec : ChangeSpec := { name := "numsBack", fn := fun _ => fun
  | [d1, d2, d3, d4] => { results := [.lit (.bool true)], args := [d1, d2, d3, d4] }
  | _ => none }
def numsBackRow : OpenClaim := { program := "ytbjbjbpgmojcbaa", sum := "780f360cbe2e159a3d11a9aeb8e624fe1fafbfd05bdbded5e23354b40f8b8740", func := "pocketpress/pocketpresslaw.NumsBack", spec := "numsBack", apart := false }
def NumsBackSaid : Prop := numsBackRow.holds Try.pinned (OpenSpec.ofChange numsBackSpec)

/-- ITS FALSE NEIGHBOUR: 'it returns false'. Refute it at one input. -/
def numsBackWrong : ChangeSpec := { name := "numsBack", fn := fun _ => fun
  | [d1, d2, d3, d4] => { results := [.lit (.bool false)], args := [d1, d2, d3, d4] }
  | _ => none }
def NumsBackWrongFalsely : Prop := numsBackRow.holds Try.pinned (OpenSpec.ofChange numsBackWrong)

/-- 'pocketpresslaw.ToksPlays': WHATEVER THE INPUT: true; the input reads as it did. -/
def toksPlaysSpec : ChangeSpec := { name := "toksPlays", fn := fun _ => fun
  | [d1, d2] => { results := [.lit (.bool true)], args := [d1, d2] }
  | _ => none }
def toksPlaysRow : OpenClaim := { program := "ytbjbjbpgmojcbaa", sum := "780f360cbe2e159a3d11a9aeb8e624fe1fafbfd05bdbded5e23354b40f8b8740", func := "pocketpress/pocketpresslaw.ToksPlays", spec := "toksPlays", unfollowed := true, recurses := true, apart := false }
def ToksPlaysSaid : Prop := toksPlaysRow.holds Try.pinned (OpenSpec.ofChange toksPlaysSpec)

/-- ITS FALSE NEIGHBOUR: 'it returns false'. Refute it at one input. -/
def toksPlaysWrong : ChangeSpec := { name := "toksPlays", fn := fun _ => fun
  | [d1, d2] => { results := [.lit (.bool false)], args := [d1, d2] }
  | _ => none }
def ToksPlaysWrongFalsely : Prop := toksPlaysRow.holds Try.pinned (OpenSpec.ofChange toksPlaysWrong)

/-- 'pocketpresslaw.ToksParses': WHATEVER THE INPUT: true; the input reads as it did. -/
def toksParsesSpec : ChangeSpec := { name := "toksParses", fn := fun _ => fun
  | [d1, d2] => { results := [.lit (.bool true)], args := [d1, d2] }
  | _ => none }
def toksParsesRow : OpenClaim := { program := "ytbjbjbpgmojcbaa", sum := "780f360cbe2e159a3d11a9aeb8e624fe1fafbfd05bdbded5e23354b40f8b8740", func := "pocketpress/pocketpresslaw.ToksParses", spec := "toksParses", unfollowed := true, recurses := true, apart := false }
def ToksParsesSaid : Prop := toksParsesRow.holds Try.pinned (OpenSpec.ofChange toksParsesSpec)

/-- ITS FALSE NEIGHBOUR: 'it returns false'. Refute it at one input. -/
def toksParsesWrong : ChangeSpec := { name := "toksParses", fn := fun _ => fun
  | [d1, d2] => { results := [.lit (.bool false)], args := [d1, d2] }
  | _ => none }
def ToksParsesWrongFalsely : Prop := toksParsesRow.holds Try.pinned (OpenSpec.ofChange toksParsesWrong)

/-- 'pocketpresslaw.ToksWrites': WHATEVER THE INPUT: true; the input reads as it did. -/
def toksWritesSpec : ChangeSpec := { name := "toksWrites", fn := fun _ => fun
  | [d1, d2, d3] => { results := [.lit (.bool true)], args := [d1, d2, d3] }
  | _ => none }
def toksWritesRow : OpenClaim := { program := "ytbjbjbpgmojcbaa", sum := "780f360cbe2e159a3d11a9aeb8e624fe1fafbfd05bdbded5e23354b40f8b8740", func := "pocketpress/pocketpresslaw.ToksWrites", spec := "toksWrites", unfollowed := true, recurses := true, apart := false }
def ToksWritesSaid : Prop := toksWritesRow.holds Try.pinned (OpenSpec.ofChange toksWritesSpec)

/-- ITS FALSE NEIGHBOUR: 'it returns false'. Refute it at one input. -/
def toksWritesWrong : ChangeSpec := { name := "toksWrites", fn := fun _ => fun
  | [d1, d2, d3] => { results := [.lit (.bool false)], args := [d1, d2, d3] }
  | _ => none }
def ToksWritesWrongFalsely : Prop := toksWritesRow.holds Try.pinned (OpenSpec.ofChange toksWritesWrong)

/-- 'pocketpresslaw.ToksBack': WHATEVER THE INPUT: true; the input reads as it did. -/
def toksBackSpec : ChangeSpec := { name := "toksBack", fn := fun _ => fun
  | [d1, d2, d3, d4] => { results := [.lit (.bool true)], args := [d1, d2, d3, d4] }
  | _ => none }
def toksBackRow : OpenClaim := { program := "ytbjbjbpgmojcbaa", sum := "780f360cbe2e159a3d11a9aeb8e624fe1fafbfd05bdbded5e23354b40f8b8740", func := "pocketpress/pocketpresslaw.ToksBack", spec := "toksBack", unfollowed := true, recurses := true, apart := false }
def ToksBackSaid : Prop := toksBackRow.holds Try.pinned (OpenSpec.ofChange toksBackSpec)

/-- ITS FALSE NEIGHBOUR: 'it returns false'. Refute it at one input. -/
def toksBackWrong : ChangeSpec := { name := "toksBack", fn := fun _ => fun
  | [d1, d2, d3, d4] => { results := [.lit (.bool false)], args := [d1, d2, d3, d4] }
  | _ => none }
def ToksBackWrongFalsely : Prop := toksBackRow.holds Try.pinned (OpenSpec.ofChange toksBackWrong)

/-- 'pocketpresslaw.CodeBuilds': WHATEVER THE INPUT: true; the input reads as it did. -/
def codeBuildsSpec : ChangeSpec := { name := "codeBuilds", fn := fun _ => fun
  | [d1, d2] => { results := [.lit (.bool true)], args := [d1, d2] }
  | _ => none }
def codeBuildsRow : OpenClaim := { program := "ytbjbjbpgmojcbaa", sum := "780f360cbe2e159a3d11a9aeb8e624fe1fafbfd05bdbded5e23354b40f8b8740", func := "pocketpress/pocketpresslaw.CodeBuilds", spec := "codeBuilds", apart := false }
def CodeBuildsSaid : Prop := codeBuildsRow.holds Try.pinned (OpenSpec.ofChange codeBuildsSpec)

/-- ITS FALSE NEIGHBOUR: 'it returns false'. Refute it at one input. -/
def codeBuildsWrong : ChangeSpec := { name := "codeBuilds", fn := fun _ => fun
  | [d1, d2] => { results := [.lit (.bool false)], args := [d1, d2] }
  | _ => none }
def CodeBuildsWrongFalsely : Prop := codeBuildsRow.holds Try.pinned (OpenSpec.ofChange codeBuildsWrong)

/-- 'pocketpresslaw.CodeWrites': WHATEVER THE INPUT: true; the input reads as it did. -/
def codeWritesSpec : ChangeSpec := { name := "codeWrites", fn := fun _ => fun
  | [d1, d2, d3, d4] => { results := [.lit (.bool true)], args := [d1, d2, d3, d4] }
  | _ => none }
def codeWritesRow : OpenClaim := { program := "ytbjbjbpgmojcbaa", sum := "780f360cbe2e159a3d11a9aeb8e624fe1fafbfd05bdbded5e23354b40f8b8740", func := "pocketpress/pocketpresslaw.CodeWrites", spec := "codeWrites", recurses := true, apart := false }
def CodeWritesSaid : Prop := codeWritesRow.holds Try.pinned (OpenSpec.ofChange codeWritesSpec)

/-- ITS FALSE NEIGHBOUR: 'it returns false'. Refute it at one input. -/
def codeWritesWrong : ChangeSpec := { name := "codeWrites", fn := fun _ => fun
  | [d1, d2, d3, d4] => { results := [.lit (.bool false)], args := [d1, d2, d3, d4] }
  | _ => none }
def CodeWritesWrongFalsely : Prop := codeWritesRow.holds Try.pinned (OpenSpec.ofChange codeWritesWrong)

/-- 'pocketpresslaw.CodeBack': WHATEVER THE INPUT: true; the input reads as it did. -/
def codeBackSpec : ChangeSpec := { name := "codeBack", fn := fun _ => fun
  | [d1, d2, d3, d4] => { results := [.lit (.bool true)], args := [d1, d2, d3, d4] }
  | _ => none }
def codeBackRow : OpenClaim := { program := "ytbjbjbpgmojcbaa", sum := "780f360cbe2e159a3d11a9aeb8e624fe1fafbfd05bdbded5e23354b40f8b8740", func := "pocketpress/pocketpresslaw.CodeBack", spec := "codeBack", apart := false }
def CodeBackSaid : Prop := codeBackRow.holds Try.pinned (OpenSpec.ofChange codeBackSpec)

/-- ITS FALSE NEIGHBOUR: 'it returns false'. Refute it at one input. -/
def codeBackWrong : ChangeSpec := { name := "codeBack", fn := fun _ => fun
  | [d1, d2, d3, d4] => { results := [.lit (.bool false)], args := [d1, d2, d3, d4] }
  | _ => none }
def CodeBackWrongFalsely : Prop := codeBackRow.holds Try.pinned (OpenSpec.ofChange codeBackWrong)

/-- 'pocketpresslaw.CodeBest': WHATEVER THE INPUT: true; the input reads as it did. -/
def codeBestSpec : ChangeSpec := { name := "codeBest", fn := fun _ => fun
  | [d1, d2] => { results := [.lit (.bool true)], args := [d1, d2] }
  | _ => none }
def codeBestRow : OpenClaim := { program := "ytbjbjbpgmojcbaa", sum := "780f360cbe2e159a3d11a9aeb8e624fe1fafbfd05bdbded5e23354b40f8b8740", func := "pocketpress/pocketpresslaw.CodeBest", spec := "codeBest", apart := false }
def CodeBestSaid : Prop := codeBestRow.holds Try.pinned (OpenSpec.ofChange codeBestSpec)

/-- ITS FALSE NEIGHBOUR: 'it returns false'. Refute it at one input. -/
def codeBestWrong : ChangeSpec := { name := "codeBest", fn := fun _ => fun
  | [d1, d2] => { results := [.lit (.bool false)], args := [d1, d2] }
  | _ => none }
def CodeBestWrongFalsely : Prop := codeBestRow.holds Try.pinned (OpenSpec.ofChange codeBestWrong)

/-- 'pocketpresslaw.BlockPacks': WHATEVER THE INPUT: true; the input reads as it did. -/
def blockPacksSpec : ChangeSpec := { name := "blockPacks", fn := fun _ => fun
  | [d1, d2, d3] => { results := [.lit (.bool true)], args := [d1, d2, d3] }
  | _ => none }
def blockPacksRow : OpenClaim := { program := "ytbjbjbpgmojcbaa", sum := "780f360cbe2e159a3d11a9aeb8e624fe1fafbfd05bdbded5e23354b40f8b8740", func := "pocketpress/pocketpresslaw.BlockPacks", spec := "blockPacks", unfollowed := true, recurses := true, apart := false }
def BlockPacksSaid : Prop := blockPacksRow.holds Try.pinned (OpenSpec.ofChange blockPacksSpec)

/-- ITS FALSE NEIGHBOUR: 'it returns false'. Refute it at one input. -/
def blockPacksWrong : ChangeSpec := { name := "blockPacks", fn := fun _ => fun
  | [d1, d2, d3] => { results := [.lit (.bool false)], args := [d1, d2, d3] }
  | _ => none }
def BlockPacksWrongFalsely : Prop := blockPacksRow.holds Try.pinned (OpenSpec.ofChange blockPacksWrong)

/-- 'pocketpresslaw.BlockBack': WHATEVER THE INPUT: true; the input reads as it did. -/
def blockBackSpec : ChangeSpec := { name := "blockBack", fn := fun _ => fun
  | [d1, d2] => { results := [.lit (.bool true)], args := [d1, d2] }
  | _ => none }
def blockBackRow : OpenClaim := { program := "ytbjbjbpgmojcbaa", sum := "780f360cbe2e159a3d11a9aeb8e624fe1fafbfd05bdbded5e23354b40f8b8740", func := "pocketpress/pocketpresslaw.BlockBack", spec := "blockBack", unfollowed := true, recurses := true, apart := false }
def BlockBackSaid : Prop := blockBackRow.holds Try.pinned (OpenSpec.ofChange blockBackSpec)

/-- ITS FALSE NEIGHBOUR: 'it returns false'. Refute it at one input. -/
def blockBackWrong : ChangeSpec := { name := "blockBack", fn := fun _ => fun
  | [d1, d2] => { results := [.lit (.bool false)], args := [d1, d2] }
  | _ => none }
def BlockBackWrongFalsely : Prop := blockBackRow.holds Try.pinned (OpenSpec.ofChange blockBackWrong)

/- THE SECOND FORM. 'bulk': how many values and letters a reading holds, each counted each time it is reached (what is shared counts as often as it is met; a slice's spare places count too). A statement '..UptoSaid' is the law's where the arguments, and the package variables that the reading takes, are together of bulk at most 1048576: NARROWER than '..Said'. Prove '..Said' where nothing that the law and all that it calls make is longer than what came in: it says more and counts as full. Else prove '..UptoSaid'. A law counts once. -/
mutual
def uptoBulk {H : Type} : DataW H → Nat
  | .lit (.string bytes) => bytes.length + 1
  | .lit _ => 1
  | .nil => 1
  | .ptr d => uptoBulk d + 1
  | .slice elems spare => uptoBulkAll elems + uptoBulkAll spare + 1
  | .agg parts => uptoBulkAll parts + 1
  | .iface _ d => uptoBulk d + 1
  | .map entries => uptoBulkEntries entries + 1
  | .held _ => 1
def uptoBulkAll {H : Type} : List (DataW H) → Nat
  | [] => 0
  | d :: r => uptoBulk d + uptoBulkAll r
def uptoBulkEntries {H : Type} : List (Lit × DataW H) → Nat
  | [] => 0
  | x :: r => uptoBulkEntry x + uptoBulkEntries r
def uptoBulkEntry {H : Type} : Lit × DataW H → Nat
  | (.string bytes, d) => bytes.length + uptoBulk d + 1
  | (_, d) => uptoBulk d + 1
 end
def uptoSmall : (H : Type) → List (DataW H) → Bool := fun _ ds => decide (uptoBulkAll ds ≤ 1048576)
def OpenSpec.upto (s : _root_.Go.ChangeSpec) : _root_.Go.OpenSpec := { _root_.Go.OpenSpec.ofChange s with cond := some uptoSmall }

/-- 'pocketpresslaw.NumsTells', WHERE WHAT IT READS IS OF BULK AT MOST 1048576: true; the input reads as it did. -/
def numsTellsUptoRow : OpenClaim := { program := "ytbjbjbpgmojcbaa", sum := "780f360cbe2e159a3d11a9aeb8e624fe1fafbfd05bdbded5e23354b40f8b8740", func := "pocketpress/pocketpresslaw.NumsTells", spec := "numsTells", recurses := true, apart := false, narrowed := true }
def NumsTellsUptoSaid : Prop := numsTellsUptoRow.holds Try.pinned (OpenSpec.upto numsTellsSpec)

/-- 'pocketpresslaw.NumsBack', WHERE WHAT IT READS IS OF BULK AT MOST 1048576: true; the input reads as it did. -/
def numsBackUptoRow : OpenClaim := { program := "ytbjbjbpgmojcbaa", sum := "780f360cbe2e159a3d11a9aeb8e624fe1fafbfd05bdbded5e23354b40f8b8740", func := "pocketpress/pocketpresslaw.NumsBack", spec := "numsBack", apart := false, narrowed := true }
def NumsBackUptoSaid : Prop := numsBackUptoRow.holds Try.pinned (OpenSpec.upto numsBackSpec)

/-- 'pocketpresslaw.ToksPlays', WHERE WHAT IT READS IS OF BULK AT MOST 1048576: true; the input reads as it did. -/
def toksPlaysUptoRow : OpenClaim := { program := "ytbjbjbpgmojcbaa", sum := "780f360cbe2e159a3d11a9aeb8e624fe1fafbfd05bdbded5e23354b40f8b8740", func := "pocketpress/pocketpresslaw.ToksPlays", spec := "toksPlays", unfollowed := true, recurses := true, apart := false, narrowed := true }
def ToksPlaysUptoSaid : Prop := toksPlaysUptoRow.holds Try.pinned (OpenSpec.upto toksPlaysSpec)

/-- 'pocketpresslaw.ToksParses', WHERE WHAT IT READS IS OF BULK AT MOST 1048576: true; the input reads as it did. -/
def toksParsesUptoRow : OpenClaim := { program := "ytbjbjbpgmojcbaa", sum := "780f360cbe2e159a3d11a9aeb8e624fe1fafbfd05bdbded5e23354b40f8b8740", func := "pocketpress/pocketpresslaw.ToksParses", spec := "toksParses", unfollowed := true, recurses := true, apart := false, narrowed := true }
def ToksParsesUptoSaid : Prop := toksParsesUptoRow.holds Try.pinned (OpenSpec.upto toksParsesSpec)

/-- 'pocketpresslaw.ToksWrites', WHERE WHAT IT READS IS OF BULK AT MOST 1048576: true; the input reads as it did. -/
def toksWritesUptoRow : OpenClaim := { program := "ytbjbjbpgmojcbaa", sum := "780f360cbe2e159a3d11a9aeb8e624fe1fafbfd05bdbded5e23354b40f8b8740", func := "pocketpress/pocketpresslaw.ToksWrites", spec := "toksWrites", unfollowed := true, recurses := true, apart := false, narrowed := true }
def ToksWritesUptoSaid : Prop := toksWritesUptoRow.holds Try.pinned (OpenSpec.upto toksWritesSpec)

/-- 'pocketpresslaw.ToksBack', WHERE WHAT IT READS IS OF BULK AT MOST 1048576: true; the input reads as it did. -/
def toksBackUptoRow : OpenClaim := { program := "ytbjbjbpgmojcbaa", sum := "780f360cbe2e159a3d11a9aeb8e624fe1fafbfd05bdbded5e23354b40f8b8740", func := "pocketpress/pocketpresslaw.ToksBack", spec := "toksBack", unfollowed := true, recurses := true, apart := false, narrowed := true }
def ToksBackUptoSaid : Prop := toksBackUptoRow.holds Try.pinned (OpenSpec.upto toksBackSpec)

/-- 'pocketpresslaw.CodeBuilds', WHERE WHAT IT READS IS OF BULK AT MOST 1048576: true; the input reads as it did. -/
def codeBuildsUptoRow : OpenClaim := { program := "ytbjbjbpgmojcbaa", sum := "780f360cbe2e159a3d11a9aeb8e624fe1fafbfd05bdbded5e23354b40f8b8740", func := "pocketpress/pocketpresslaw.CodeBuilds", spec := "codeBuilds", apart := false, narrowed := true }
def CodeBuildsUptoSaid : Prop := codeBuildsUptoRow.holds Try.pinned (OpenSpec.upto codeBuildsSpec)

/-- 'pocketpresslaw.CodeWrites', WHERE WHAT IT READS IS OF BULK AT MOST 1048576: true; the input reads as it did. -/
def codeWritesUptoRow : OpenClaim := { program := "ytbjbjbpgmojcbaa", sum := "780f360cbe2e159a3d11a9aeb8e624fe1fafbfd05bdbded5e23354b40f8b8740", func := "pocketpress/pocketpresslaw.CodeWrites", spec := "codeWrites", recurses := true, apart := false, narrowed := true }
def CodeWritesUptoSaid : Prop := codeWritesUptoRow.holds Try.pinned (OpenSpec.upto codeWritesSpec)

/-- 'pocketpresslaw.CodeBack', WHERE WHAT IT READS IS OF BULK AT MOST 1048576: true; the input reads as it did. -/
def codeBackUptoRow : OpenClaim := { program := "ytbjbjbpgmojcbaa", sum := "780f360cbe2e159a3d11a9aeb8e624fe1fafbfd05bdbded5e23354b40f8b8740", func := "pocketpress/pocketpresslaw.CodeBack", spec := "codeBack", apart := false, narrowed := true }
def CodeBackUptoSaid : Prop := codeBackUptoRow.holds Try.pinned (OpenSpec.upto codeBackSpec)

/-- 'pocketpresslaw.CodeBest', WHERE WHAT IT READS IS OF BULK AT MOST 1048576: true; the input reads as it did. -/
def codeBestUptoRow : OpenClaim := { program := "ytbjbjbpgmojcbaa", sum := "780f360cbe2e159a3d11a9aeb8e624fe1fafbfd05bdbded5e23354b40f8b8740", func := "pocketpress/pocketpresslaw.CodeBest", spec := "codeBest", apart := false, narrowed := true }
def CodeBestUptoSaid : Prop := codeBestUptoRow.holds Try.pinned (OpenSpec.upto codeBestSpec)

/-- 'pocketpresslaw.BlockPacks', WHERE WHAT IT READS IS OF BULK AT MOST 1048576: true; the input reads as it did. -/
def blockPacksUptoRow : OpenClaim := { program := "ytbjbjbpgmojcbaa", sum := "780f360cbe2e159a3d11a9aeb8e624fe1fafbfd05bdbded5e23354b40f8b8740", func := "pocketpress/pocketpresslaw.BlockPacks", spec := "blockPacks", unfollowed := true, recurses := true, apart := false, narrowed := true }
def BlockPacksUptoSaid : Prop := blockPacksUptoRow.holds Try.pinned (OpenSpec.upto blockPacksSpec)

/-- 'pocketpresslaw.BlockBack', WHERE WHAT IT READS IS OF BULK AT MOST 1048576: true; the input reads as it did. -/
def blockBackUptoRow : OpenClaim := { program := "ytbjbjbpgmojcbaa", sum := "780f360cbe2e159a3d11a9aeb8e624fe1fafbfd05bdbded5e23354b40f8b8740", func := "pocketpress/pocketpresslaw.BlockBack", spec := "blockBack", unfollowed := true, recurses := true, apart := false, narrowed := true }
def BlockBackUptoSaid : Prop := blockBackUptoRow.holds Try.pinned (OpenSpec.upto blockBackSpec)

end Rows
end Go.Proofs.Ytbjbjbpgmojcbaa
