/-
  No cell of these rows narrows 'for every input' (looked for: loops, veiled, ifaces, maps, wideKeys, modest, calm, conditions, laid).
  DERIVED. THE GIVEN ROWS OF THIS SEAT. 12 by the template 'for every input the law returns true; each argument reads behind the call as it read before'; 0 by the template 'total and deterministic' (their statements: YtedbfjjjfmmffaaTotals.lean).
  GIVEN WITH THE SEED: the statements are not yours to turn. If you find one false, say at which input.
  Laid BY PROGRAM, IN A SANDBOX (cutbox-rows.mjs): the forced cells as the released guide's own fill.sh prints them over the translation 5de0d8ab3ea81942… (all of the seat's roots in one cut). By AI agents, Wed Nov 11 2026. No macro, syntax, notation, axiom, sorry.
-/
import Derived.Test.YtedbfjjjfmmffaaChecked
import GoSem.Claim
import GoSem.ClaimJoined
import GoSem.ClaimMapViews
import Derived.JoinedTies
import Derived.KernelRfl
namespace Go.Proofs.Ytedbfjjjfmmffaa
/- THE CELL 'sum', in the pinned program and in every row, IS THE sha256 OF THE DUMP (.gsa) THAT YtedbfjjjfmmffaaProg.lean LOADS. Nothing in Lean hashes anything: it is a label: what it is worth is what the hold of that sum in a sandbox is worth. -/
noncomputable def Try.pinned : Pinned := { name := "ytedbfjjjfmmffaa", sum := "5de0d8ab3ea81942291cff729db373cf50539cedc25bf218e4bbfaf2083d9ecb", checked := Try.checked }
namespace Rows
def none {H : Type} : Left H := { results := [], args := [] }

/-- 'evenkeellaw.NumTells': WHATEVER THE INPUT: true; the input reads as it did. -/
def numTellsSpec : ChangeSpec := { name := "numTells", fn := fun _ => fun
  | [d1, d2, d3] => { results := [.lit (.bool true)], args := [d1, d2, d3] }
  | _ => none }
def numTellsRow : OpenClaim := { program := "ytedbfjjjfmmffaa", sum := "5de0d8ab3ea81942291cff729db373cf50539cedc25bf218e4bbfaf2083d9ecb", func := "evenkeel/evenkeellaw.NumTells", spec := "numTells", unfollowed := true, recurses := true, plainKeys := false, apart := false }
def NumTellsSaid : Prop := numTellsRow.holds Try.pinned (OpenSpec.ofChange numTellsSpec)

/-- ITS FALSE NEIGHBOUR: 'it returns false'. Refute it at one input. -/
def numTellsWrong : ChangeSpec := { name := "numTells", fn := fun _ => fun
  | [d1, d2, d3] => { results := [.lit (.bool false)], args := [d1, d2, d3] }
  | _ => none }
def NumTellsWrongFalsely : Prop := numTellsRow.holds Try.pinned (OpenSpec.ofChange numTellsWrong)

/-- 'evenkeelkeep.NumDivides': WHATEVER THE INPUT: true; the input reads as it did. -/
def numDividesSpec : ChangeSpec := { name := "numDivides", fn := fun _ => fun
  | [d1, d2] => { results := [.lit (.bool true)], args := [d1, d2] }
  | _ => none }
def numDividesRow : OpenClaim := { program := "ytedbfjjjfmmffaa", sum := "5de0d8ab3ea81942291cff729db373cf50539cedc25bf218e4bbfaf2083d9ecb", func := "evenkeel/evenkeelkeep.NumDivides", spec := "numDivides", unfollowed := true, recurses := true, plainKeys := false, apart := false }
def NumDividesSaid : Prop := numDividesRow.holds Try.pinned (OpenSpec.ofChange numDividesSpec)

/-- ITS FALSE NEIGHBOUR: 'it returns false'. Refute it at one input. -/
def numDividesWrong : ChangeSpec := { name := "numDivides", fn := fun _ => fun
  | [d1, d2] => { results := [.lit (.bool false)], args := [d1, d2] }
  | _ => none }
def NumDividesWrongFalsely : Prop := numDividesRow.holds Try.pinned (OpenSpec.ofChange numDividesWrong)

/-- 'evenkeelkeep.NumShifts': WHATEVER THE INPUT: true; the input reads as it did. -/
def numShiftsSpec : ChangeSpec := { name := "numShifts", fn := fun _ => fun
  | [d1, d2, d3] => { results := [.lit (.bool true)], args := [d1, d2, d3] }
  | _ => none }
def numShiftsRow : OpenClaim := { program := "ytedbfjjjfmmffaa", sum := "5de0d8ab3ea81942291cff729db373cf50539cedc25bf218e4bbfaf2083d9ecb", func := "evenkeel/evenkeelkeep.NumShifts", spec := "numShifts", plainKeys := false, apart := false }
def NumShiftsSaid : Prop := numShiftsRow.holds Try.pinned (OpenSpec.ofChange numShiftsSpec)

/-- ITS FALSE NEIGHBOUR: 'it returns false'. Refute it at one input. -/
def numShiftsWrong : ChangeSpec := { name := "numShifts", fn := fun _ => fun
  | [d1, d2, d3] => { results := [.lit (.bool false)], args := [d1, d2, d3] }
  | _ => none }
def NumShiftsWrongFalsely : Prop := numShiftsRow.holds Try.pinned (OpenSpec.ofChange numShiftsWrong)

/-- 'evenkeellaw.FormTells': WHATEVER THE INPUT: true; the input reads as it did. -/
def formTellsSpec : ChangeSpec := { name := "formTells", fn := fun _ => fun
  | [d1, d2] => { results := [.lit (.bool true)], args := [d1, d2] }
  | _ => none }
def formTellsRow : OpenClaim := { program := "ytedbfjjjfmmffaa", sum := "5de0d8ab3ea81942291cff729db373cf50539cedc25bf218e4bbfaf2083d9ecb", func := "evenkeel/evenkeellaw.FormTells", spec := "formTells", plainKeys := false, apart := false }
def FormTellsSaid : Prop := formTellsRow.holds Try.pinned (OpenSpec.ofChange formTellsSpec)

/-- ITS FALSE NEIGHBOUR: 'it returns false'. Refute it at one input. -/
def formTellsWrong : ChangeSpec := { name := "formTells", fn := fun _ => fun
  | [d1, d2] => { results := [.lit (.bool false)], args := [d1, d2] }
  | _ => none }
def FormTellsWrongFalsely : Prop := formTellsRow.holds Try.pinned (OpenSpec.ofChange formTellsWrong)

/-- 'evenkeelkeep.FormHard': WHATEVER THE INPUT: true; the input reads as it did. -/
def formHardSpec : ChangeSpec := { name := "formHard", fn := fun _ => fun
  | [d] => { results := [.lit (.bool true)], args := [d] }
  | _ => none }
def formHardRow : OpenClaim := { program := "ytedbfjjjfmmffaa", sum := "5de0d8ab3ea81942291cff729db373cf50539cedc25bf218e4bbfaf2083d9ecb", func := "evenkeel/evenkeelkeep.FormHard", spec := "formHard", plainKeys := false, apart := false }
def FormHardSaid : Prop := formHardRow.holds Try.pinned (OpenSpec.ofChange formHardSpec)

/-- ITS FALSE NEIGHBOUR: 'it returns false'. Refute it at one input. -/
def formHardWrong : ChangeSpec := { name := "formHard", fn := fun _ => fun
  | [d] => { results := [.lit (.bool false)], args := [d] }
  | _ => none }
def FormHardWrongFalsely : Prop := formHardRow.holds Try.pinned (OpenSpec.ofChange formHardWrong)

/-- 'evenkeellaw.SeqRuns': WHATEVER THE INPUT: true; the input reads as it did. -/
def seqRunsSpec : ChangeSpec := { name := "seqRuns", fn := fun _ => fun
  | [d1, d2, d3] => { results := [.lit (.bool true)], args := [d1, d2, d3] }
  | _ => none }
def seqRunsRow : OpenClaim := { program := "ytedbfjjjfmmffaa", sum := "5de0d8ab3ea81942291cff729db373cf50539cedc25bf218e4bbfaf2083d9ecb", func := "evenkeel/evenkeellaw.SeqRuns", spec := "seqRuns", unfollowed := true, recurses := true, plainKeys := false, apart := false }
def SeqRunsSaid : Prop := seqRunsRow.holds Try.pinned (OpenSpec.ofChange seqRunsSpec)

/-- ITS FALSE NEIGHBOUR: 'it returns false'. Refute it at one input. -/
def seqRunsWrong : ChangeSpec := { name := "seqRuns", fn := fun _ => fun
  | [d1, d2, d3] => { results := [.lit (.bool false)], args := [d1, d2, d3] }
  | _ => none }
def SeqRunsWrongFalsely : Prop := seqRunsRow.holds Try.pinned (OpenSpec.ofChange seqRunsWrong)

/-- 'evenkeelkeep.SeqLonger': WHATEVER THE INPUT: true; the input reads as it did. -/
def seqLongerSpec : ChangeSpec := { name := "seqLonger", fn := fun _ => fun
  | [d1, d2, d3, d4] => { results := [.lit (.bool true)], args := [d1, d2, d3, d4] }
  | _ => none }
def seqLongerRow : OpenClaim := { program := "ytedbfjjjfmmffaa", sum := "5de0d8ab3ea81942291cff729db373cf50539cedc25bf218e4bbfaf2083d9ecb", func := "evenkeel/evenkeelkeep.SeqLonger", spec := "seqLonger", unfollowed := true, recurses := true, plainKeys := false, apart := false }
def SeqLongerSaid : Prop := seqLongerRow.holds Try.pinned (OpenSpec.ofChange seqLongerSpec)

/-- ITS FALSE NEIGHBOUR: 'it returns false'. Refute it at one input. -/
def seqLongerWrong : ChangeSpec := { name := "seqLonger", fn := fun _ => fun
  | [d1, d2, d3, d4] => { results := [.lit (.bool false)], args := [d1, d2, d3, d4] }
  | _ => none }
def SeqLongerWrongFalsely : Prop := seqLongerRow.holds Try.pinned (OpenSpec.ofChange seqLongerWrong)

/-- 'evenkeellaw.SpecRuns': WHATEVER THE INPUT: true; the input reads as it did. -/
def specRunsSpec : ChangeSpec := { name := "specRuns", fn := fun _ => fun
  | [d1, d2, d3, d4] => { results := [.lit (.bool true)], args := [d1, d2, d3, d4] }
  | _ => none }
def specRunsRow : OpenClaim := { program := "ytedbfjjjfmmffaa", sum := "5de0d8ab3ea81942291cff729db373cf50539cedc25bf218e4bbfaf2083d9ecb", func := "evenkeel/evenkeellaw.SpecRuns", spec := "specRuns", unfollowed := true, recurses := true, plainKeys := false, apart := false }
def SpecRunsSaid : Prop := specRunsRow.holds Try.pinned (OpenSpec.ofChange specRunsSpec)

/-- ITS FALSE NEIGHBOUR: 'it returns false'. Refute it at one input. -/
def specRunsWrong : ChangeSpec := { name := "specRuns", fn := fun _ => fun
  | [d1, d2, d3, d4] => { results := [.lit (.bool false)], args := [d1, d2, d3, d4] }
  | _ => none }
def SpecRunsWrongFalsely : Prop := specRunsRow.holds Try.pinned (OpenSpec.ofChange specRunsWrong)

/-- 'evenkeelkeep.SpecPlain': WHATEVER THE INPUT: true; the input reads as it did. -/
def specPlainSpec : ChangeSpec := { name := "specPlain", fn := fun _ => fun
  | [d1, d2, d3, d4] => { results := [.lit (.bool true)], args := [d1, d2, d3, d4] }
  | _ => none }
def specPlainRow : OpenClaim := { program := "ytedbfjjjfmmffaa", sum := "5de0d8ab3ea81942291cff729db373cf50539cedc25bf218e4bbfaf2083d9ecb", func := "evenkeel/evenkeelkeep.SpecPlain", spec := "specPlain", unfollowed := true, recurses := true, plainKeys := false, apart := false }
def SpecPlainSaid : Prop := specPlainRow.holds Try.pinned (OpenSpec.ofChange specPlainSpec)

/-- ITS FALSE NEIGHBOUR: 'it returns false'. Refute it at one input. -/
def specPlainWrong : ChangeSpec := { name := "specPlain", fn := fun _ => fun
  | [d1, d2, d3, d4] => { results := [.lit (.bool false)], args := [d1, d2, d3, d4] }
  | _ => none }
def SpecPlainWrongFalsely : Prop := specPlainRow.holds Try.pinned (OpenSpec.ofChange specPlainWrong)

/-- 'evenkeelkeep.SpecBack': WHATEVER THE INPUT: true; the input reads as it did. -/
def specBackSpec : ChangeSpec := { name := "specBack", fn := fun _ => fun
  | [d1, d2, d3, d4] => { results := [.lit (.bool true)], args := [d1, d2, d3, d4] }
  | _ => none }
def specBackRow : OpenClaim := { program := "ytedbfjjjfmmffaa", sum := "5de0d8ab3ea81942291cff729db373cf50539cedc25bf218e4bbfaf2083d9ecb", func := "evenkeel/evenkeelkeep.SpecBack", spec := "specBack", unfollowed := true, recurses := true, plainKeys := false, apart := false }
def SpecBackSaid : Prop := specBackRow.holds Try.pinned (OpenSpec.ofChange specBackSpec)

/-- ITS FALSE NEIGHBOUR: 'it returns false'. Refute it at one input. -/
def specBackWrong : ChangeSpec := { name := "specBack", fn := fun _ => fun
  | [d1, d2, d3, d4] => { results := [.lit (.bool false)], args := [d1, d2, d3, d4] }
  | _ => none }
def SpecBackWrongFalsely : Prop := specBackRow.holds Try.pinned (OpenSpec.ofChange specBackWrong)

/-- 'evenkeellaw.KnownTells': WHATEVER THE INPUT: true; the input reads as it did. -/
def knownTellsSpec : ChangeSpec := { name := "knownTells", fn := fun _ => fun
  | [d1, d2, d3, d4] => { results := [.lit (.bool true)], args := [d1, d2, d3, d4] }
  | _ => none }
def knownTellsRow : OpenClaim := { program := "ytedbfjjjfmmffaa", sum := "5de0d8ab3ea81942291cff729db373cf50539cedc25bf218e4bbfaf2083d9ecb", func := "evenkeel/evenkeellaw.KnownTells", spec := "knownTells", plainKeys := false, apart := false }
def KnownTellsSaid : Prop := knownTellsRow.holds Try.pinned (OpenSpec.ofChange knownTellsSpec)

/-- ITS FALSE NEIGHBOUR: 'it returns false'. Refute it at one input. -/
def knownTellsWrong : ChangeSpec := { name := "knownTells", fn := fun _ => fun
  | [d1, d2, d3, d4] => { results := [.lit (.bool false)], args := [d1, d2, d3, d4] }
  | _ => none }
def KnownTellsWrongFalsely : Prop := knownTellsRow.holds Try.pinned (OpenSpec.ofChange knownTellsWrong)

/-- 'evenkeellaw.KnownHolds': WHATEVER THE INPUT: true; the input reads as it did. -/
def knownHoldsSpec : ChangeSpec := { name := "knownHolds", fn := fun _ => fun
  | [d1, d2, d3, d4, d5] => { results := [.lit (.bool true)], args := [d1, d2, d3, d4, d5] }
  | _ => none }
def knownHoldsRow : OpenClaim := { program := "ytedbfjjjfmmffaa", sum := "5de0d8ab3ea81942291cff729db373cf50539cedc25bf218e4bbfaf2083d9ecb", func := "evenkeel/evenkeellaw.KnownHolds", spec := "knownHolds", plainKeys := false, apart := false }
def KnownHoldsSaid : Prop := knownHoldsRow.holds Try.pinned (OpenSpec.ofChange knownHoldsSpec)

/-- ITS FALSE NEIGHBOUR: 'it returns false'. Refute it at one input. -/
def knownHoldsWrong : ChangeSpec := { name := "knownHolds", fn := fun _ => fun
  | [d1, d2, d3, d4, d5] => { results := [.lit (.bool false)], args := [d1, d2, d3, d4, d5] }
  | _ => none }
def KnownHoldsWrongFalsely : Prop := knownHoldsRow.holds Try.pinned (OpenSpec.ofChange knownHoldsWrong)

/- THE SECOND FORM. 'bulk': how many values and letters a reading holds, each counted each time it is reached (what is shared counts as often as it is met; a slice's spare places count too). A statement '..UptoSaid' is the law's where the arguments, and the package variables that the reading takes, are together of bulk at most 1048576: NARROWER than '..Said'. Prove '..Said' where nothing that the law and all that it calls make is longer than what came in: it says more and counts as full. Else prove '..UptoSaid'. A law counts once. -/
mutual
def uptoBulk {H : Type} : DataW H → Nat
  | .lit (.string bytes) => bytes.length + 1
  | .lit _ => 1
  | .nil => 1
  | .ptr d => uptoBulk d + 1
  | .slice elems spare => uptoBulkAll elems + uptoBulkAll spare + 1
  | .agg parts => uptoBulkAll parts + 1
  | .iface _ d => uptoBulk d + 1
  | .map entries => uptoBulkEntries entries + 1
  | .held _ => 1
def uptoBulkAll {H : Type} : List (DataW H) → Nat
  | [] => 0
  | d :: r => uptoBulk d + uptoBulkAll r
def uptoBulkEntries {H : Type} : List (Lit × DataW H) → Nat
  | [] => 0
  | x :: r => uptoBulkEntry x + uptoBulkEntries r
def uptoBulkEntry {H : Type} : Lit × DataW H → Nat
  | (.string bytes, d) => bytes.length + uptoBulk d + 1
  | (_, d) => uptoBulk d + 1
 end
def uptoSmall : (H : Type) → List (DataW H) → Bool := fun _ ds => decide (uptoBulkAll ds ≤ 1048576)
def OpenSpec.upto (s : _root_.Go.ChangeSpec) : _root_.Go.OpenSpec := { _root_.Go.OpenSpec.ofChange s with cond := some uptoSmall }

/-- 'evenkeellaw.NumTells', WHERE WHAT IT READS IS OF BULK AT MOST 1048576: true; the input reads as it did. -/
def numTellsUptoRow : OpenClaim := { program := "ytedbfjjjfmmffaa", sum := "5de0d8ab3ea81942291cff729db373cf50539cedc25bf218e4bbfaf2083d9ecb", func := "evenkeel/evenkeellaw.NumTells", spec := "numTells", unfollowed := true, recurses := true, plainKeys := false, apart := false, narrowed := true }
def NumTellsUptoSaid : Prop := numTellsUptoRow.holds Try.pinned (OpenSpec.upto numTellsSpec)

/-- 'evenkeelkeep.NumDivides', WHERE WHAT IT READS IS OF BULK AT MOST 1048576: true; the input reads as it did. -/
def numDividesUptoRow : OpenClaim := { program := "ytedbfjjjfmmffaa", sum := "5de0d8ab3ea81942291cff729db373cf50539cedc25bf218e4bbfaf2083d9ecb", func := "evenkeel/evenkeelkeep.NumDivides", spec := "numDivides", unfollowed := true, recurses := true, plainKeys := false, apart := false, narrowed := true }
def NumDividesUptoSaid : Prop := numDividesUptoRow.holds Try.pinned (OpenSpec.upto numDividesSpec)

/-- 'evenkeelkeep.NumShifts', WHERE WHAT IT READS IS OF BULK AT MOST 1048576: true; the input reads as it did. -/
def numShiftsUptoRow : OpenClaim := { program := "ytedbfjjjfmmffaa", sum := "5de0d8ab3ea81942291cff729db373cf50539cedc25bf218e4bbfaf2083d9ecb", func := "evenkeel/evenkeelkeep.NumShifts", spec := "numShifts", plainKeys := false, apart := false, narrowed := true }
def NumShiftsUptoSaid : Prop := numShiftsUptoRow.holds Try.pinned (OpenSpec.upto numShiftsSpec)

/-- 'evenkeellaw.FormTells', WHERE WHAT IT READS IS OF BULK AT MOST 1048576: true; the input reads as it did. -/
def formTellsUptoRow : OpenClaim := { program := "ytedbfjjjfmmffaa", sum := "5de0d8ab3ea81942291cff729db373cf50539cedc25bf218e4bbfaf2083d9ecb", func := "evenkeel/evenkeellaw.FormTells", spec := "formTells", plainKeys := false, apart := false, narrowed := true }
def FormTellsUptoSaid : Prop := formTellsUptoRow.holds Try.pinned (OpenSpec.upto formTellsSpec)

/-- 'evenkeelkeep.FormHard', WHERE WHAT IT READS IS OF BULK AT MOST 1048576: true; the input reads as it did. -/
def formHardUptoRow : OpenClaim := { program := "ytedbfjjjfmmffaa", sum := "5de0d8ab3ea81942291cff729db373cf50539cedc25bf218e4bbfaf2083d9ecb", func := "evenkeel/evenkeelkeep.FormHard", spec := "formHard", plainKeys := false, apart := false, narrowed := true }
def FormHardUptoSaid : Prop := formHardUptoRow.holds Try.pinned (OpenSpec.upto formHardSpec)

/-- 'evenkeellaw.SeqRuns', WHERE WHAT IT READS IS OF BULK AT MOST 1048576: true; the input reads as it did. -/
def seqRunsUptoRow : OpenClaim := { program := "ytedbfjjjfmmffaa", sum := "5de0d8ab3ea81942291cff729db373cf50539cedc25bf218e4bbfaf2083d9ecb", func := "evenkeel/evenkeellaw.SeqRuns", spec := "seqRuns", unfollowed := true, recurses := true, plainKeys := false, apart := false, narrowed := true }
def SeqRunsUptoSaid : Prop := seqRunsUptoRow.holds Try.pinned (OpenSpec.upto seqRunsSpec)

/-- 'evenkeelkeep.SeqLonger', WHERE WHAT IT READS IS OF BULK AT MOST 1048576: true; the input reads as it did. -/
def seqLongerUptoRow : OpenClaim := { program := "ytedbfjjjfmmffaa", sum := "5de0d8ab3ea81942291cff729db373cf50539cedc25bf218e4bbfaf2083d9ecb", func := "evenkeel/evenkeelkeep.SeqLonger", spec := "seqLonger", unfollowed := true, recurses := true, plainKeys := false, apart := false, narrowed := true }
def SeqLongerUptoSaid : Prop := seqLongerUptoRow.holds Try.pinned (OpenSpec.upto seqLongerSpec)

/-- 'evenkeellaw.SpecRuns', WHERE WHAT IT READS IS OF BULK AT MOST 1048576: true; the input reads as it did. -/
def specRunsUptoRow : OpenClaim := { program := "ytedbfjjjfmmffaa", sum := "5de0d8ab3ea81942291cff729db373cf50539cedc25bf218e4bbfaf2083d9ecb", func := "evenkeel/evenkeellaw.SpecRuns", spec := "specRuns", unfollowed := true, recurses := true, plainKeys := false, apart := false, narrowed := true }
def SpecRunsUptoSaid : Prop := specRunsUptoRow.holds Try.pinned (OpenSpec.upto specRunsSpec)

/-- 'evenkeelkeep.SpecPlain', WHERE WHAT IT READS IS OF BULK AT MOST 1048576: true; the input reads as it did. -/
def specPlainUptoRow : OpenClaim := { program := "ytedbfjjjfmmffaa", sum := "5de0d8ab3ea81942291cff729db373cf50539cedc25bf218e4bbfaf2083d9ecb", func := "evenkeel/evenkeelkeep.SpecPlain", spec := "specPlain", unfollowed := true, recurses := true, plainKeys := false, apart := false, narrowed := true }
def SpecPlainUptoSaid : Prop := specPlainUptoRow.holds Try.pinned (OpenSpec.upto specPlainSpec)

/-- 'evenkeelkeep.SpecBack', WHERE WHAT IT READS IS OF BULK AT MOST 1048576: true; the input reads as it did. -/
def specBackUptoRow : OpenClaim := { program := "ytedbfjjjfmmffaa", sum := "5de0d8ab3ea81942291cff729db373cf50539cedc25bf218e4bbfaf2083d9ecb", func := "evenkeel/evenkeelkeep.SpecBack", spec := "specBack", unfollowed := true, recurses := true, plainKeys := false, apart := false, narrowed := true }
def SpecBackUptoSaid : Prop := specBackUptoRow.holds Try.pinned (OpenSpec.upto specBackSpec)

/-- 'evenkeellaw.KnownTells', WHERE WHAT IT READS IS OF BULK AT MOST 1048576: true; the input reads as it did. -/
def knownTellsUptoRow : OpenClaim := { program := "ytedbfjjjfmmffaa", sum := "5de0d8ab3ea81942291cff729db373cf50539cedc25bf218e4bbfaf2083d9ecb", func := "evenkeel/evenkeellaw.KnownTells", spec := "knownTells", plainKeys := false, apart := false, narrowed := true }
def KnownTellsUptoSaid : Prop := knownTellsUptoRow.holds Try.pinned (OpenSpec.upto knownTellsSpec)

/-- 'evenkeellaw.KnownHolds', WHERE WHAT IT READS IS OF BULK AT MOST 1048576: true; the input reads as it did. -/
def knownHoldsUptoRow : OpenClaim := { program := "ytedbfjjjfmmffaa", sum := "5de0d8ab3ea81942291cff729db373cf50539cedc25bf218e4bbfaf2083d9ecb", func := "evenkeel/evenkeellaw.KnownHolds", spec := "knownHolds", plainKeys := false, apart := false, narrowed := true }
def KnownHoldsUptoSaid : Prop := knownHoldsUptoRow.holds Try.pinned (OpenSpec.upto knownHoldsSpec)

end Rows
end Go.Proofs.Ytedbfjjjfmmffaa
