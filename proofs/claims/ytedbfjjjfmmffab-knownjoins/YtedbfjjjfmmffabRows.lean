/-
  No cell of these rows narrows 'for every input' (looked for: loops, veiled, ifaces, maps, wideKeys, modest, calm, conditions, laid).
  DERIVED. THE GIVEN ROWS OF THIS SEAT. 3 by the template 'for every input the law returns true; each argument reads behind the call as it read before'; 0 by the template 'total and deterministic' (their statements: YtedbfjjjfmmffabTotals.lean).
  GIVEN WITH THE SEED: the statements are not yours to turn. If you find one false, say at which input.
  Laid BY PROGRAM, IN A SANDBOX (cutbox-rows.mjs): the forced cells as the released guide's own fill.sh prints them over the translation 5a44fd93b0bc8c29… (all of the seat's roots in one cut). By AI agents, Wed Nov 11 2026. No macro, syntax, notation, axiom, sorry.
-/
import Derived.Test.YtedbfjjjfmmffabChecked
import GoSem.Claim
import GoSem.ClaimJoined
import GoSem.ClaimMapViews
import Derived.JoinedTies
import Derived.KernelRfl
namespace Go.Proofs.Ytedbfjjjfmmffab
/- THE CELL 'sum', in the pinned program and in every row, IS THE sha256 OF THE DUMP (.gsa) THAT YtedbfjjjfmmffabProg.lean LOADS. Nothing in Lean hashes anything: it is a label: what it is worth is what the hold of that sum in a sandbox is worth. -/
noncomputable def Try.pinned : Pinned := { name := "ytedbfjjjfmmffab", sum := "5a44fd93b0bc8c29832f06214da1b1856f42e0f314f164ac40156bf826fadf40", checked := Try.checked }
namespace Rows
def none {H : Type} : Left H := { results := [], args := [] }

/-- 'evenkeelkeep.KnownJoins': WHATEVER THE INPUT: true; the input reads as it did. -/
def knownJoinsSpec : ChangeSpec := { name := "knownJoins", fn := fun _ => fun
  | [d1, d2, d3] => { results := [.lit (.bool true)], args := [d1, d2, d3] }
  | _ => none }
def knownJoinsRow : OpenClaim := { program := "ytedbfjjjfmmffab", sum := "5a44fd93b0bc8c29832f06214da1b1856f42e0f314f164ac40156bf826fadf40", func := "evenkeel/evenkeelkeep.KnownJoins", spec := "knownJoins", apart := false }
def KnownJoinsSaid : Prop := knownJoinsRow.holds Try.pinned (OpenSpec.ofChange knownJoinsSpec)

/-- ITS FALSE NEIGHBOUR: 'it returns false'. Refute it at one input. -/
def knownJoinsWrong : ChangeSpec := { name := "knownJoins", fn := fun _ => fun
  | [d1, d2, d3] => { results := [.lit (.bool false)], args := [d1, d2, d3] }
  | _ => none }
def KnownJoinsWrongFalsely : Prop := knownJoinsRow.holds Try.pinned (OpenSpec.ofChange knownJoinsWrong)

/-- 'evenkeellaw.HardenSame': WHATEVER THE INPUT: true; the input reads as it did. -/
def hardenSameSpec : ChangeSpec := { name := "hardenSame", fn := fun _ => fun
  | [d1, d2, d3] => { results := [.lit (.bool true)], args := [d1, d2, d3] }
  | _ => none }
def hardenSameRow : OpenClaim := { program := "ytedbfjjjfmmffab", sum := "5a44fd93b0bc8c29832f06214da1b1856f42e0f314f164ac40156bf826fadf40", func := "evenkeel/evenkeellaw.HardenSame", spec := "hardenSame", apart := false }
def HardenSameSaid : Prop := hardenSameRow.holds Try.pinned (OpenSpec.ofChange hardenSameSpec)

/-- ITS FALSE NEIGHBOUR: 'it returns false'. Refute it at one input. -/
def hardenSameWrong : ChangeSpec := { name := "hardenSame", fn := fun _ => fun
  | [d1, d2, d3] => { results := [.lit (.bool false)], args := [d1, d2, d3] }
  | _ => none }
def HardenSameWrongFalsely : Prop := hardenSameRow.holds Try.pinned (OpenSpec.ofChange hardenSameWrong)

/-- 'evenkeellaw.HardenQuiet': WHATEVER THE INPUT: true; the input reads as it did. -/
def hardenQuietSpec : ChangeSpec := { name := "hardenQuiet", fn := fun _ => fun
  | [d1, d2, d3, d4, d5] => { results := [.lit (.bool true)], args := [d1, d2, d3, d4, d5] }
  | _ => none }
def hardenQuietRow : OpenClaim := { program := "ytedbfjjjfmmffab", sum := "5a44fd93b0bc8c29832f06214da1b1856f42e0f314f164ac40156bf826fadf40", func := "evenkeel/evenkeellaw.HardenQuiet", spec := "hardenQuiet", apart := false }
def HardenQuietSaid : Prop := hardenQuietRow.holds Try.pinned (OpenSpec.ofChange hardenQuietSpec)

/-- ITS FALSE NEIGHBOUR: 'it returns false'. Refute it at one input. -/
def hardenQuietWrong : ChangeSpec := { name := "hardenQuiet", fn := fun _ => fun
  | [d1, d2, d3, d4, d5] => { results := [.lit (.bool false)], args := [d1, d2, d3, d4, d5] }
  | _ => none }
def HardenQuietWrongFalsely : Prop := hardenQuietRow.holds Try.pinned (OpenSpec.ofChange hardenQuietWrong)

/- THE SECOND FORM. 'bulk': how many values and letters a reading holds, each counted each time it is reached (what is shared counts as often as it is met; a slice's spare places count too). A statement '..UptoSaid' is the law's where the arguments, and the package variables that the reading takes, are together of bulk at most 1048576: NARROWER than '..Said'. Prove '..Said' where nothing that the law and all that it calls make is longer than what came in: it says more and counts as full. Else prove '..UptoSaid'. A law counts once. -/
mutual
def uptoBulk {H : Type} : DataW H → Nat
  | .lit (.string bytes) => bytes.length + 1
  | .lit _ => 1
  | .nil => 1
  | .ptr d => uptoBulk d + 1
  | .slice elems spare => uptoBulkAll elems + uptoBulkAll spare + 1
  | .agg parts => uptoBulkAll parts + 1
  | .iface _ d => uptoBulk d + 1
  | .map entries => uptoBulkEntries entries + 1
  | .held _ => 1
def uptoBulkAll {H : Type} : List (DataW H) → Nat
  | [] => 0
  | d :: r => uptoBulk d + uptoBulkAll r
def uptoBulkEntries {H : Type} : List (Lit × DataW H) → Nat
  | [] => 0
  | x :: r => uptoBulkEntry x + uptoBulkEntries r
def uptoBulkEntry {H : Type} : Lit × DataW H → Nat
  | (.string bytes, d) => bytes.length + uptoBulk d + 1
  | (_, d) => uptoBulk d + 1
 end
def uptoSmall : (H : Type) → List (DataW H) → Bool := fun _ ds => decide (uptoBulkAll ds ≤ 1048576)
def OpenSpec.upto (s : _root_.Go.ChangeSpec) : _root_.Go.OpenSpec := { _root_.Go.OpenSpec.ofChange s with cond := some uptoSmall }

/-- 'evenkeelkeep.KnownJoins', WHERE WHAT IT READS IS OF BULK AT MOST 1048576: true; the input reads as it did. -/
def knownJoinsUptoRow : OpenClaim := { program := "ytedbfjjjfmmffab", sum := "5a44fd93b0bc8c29832f06214da1b1856f42e0f314f164ac40156bf826fadf40", func := "evenkeel/evenkeelkeep.KnownJoins", spec := "knownJoins", apart := false, narrowed := true }
def KnownJoinsUptoSaid : Prop := knownJoinsUptoRow.holds Try.pinned (OpenSpec.upto knownJoinsSpec)

/-- 'evenkeellaw.HardenSame', WHERE WHAT IT READS IS OF BULK AT MOST 1048576: true; the input reads as it did. -/
def hardenSameUptoRow : OpenClaim := { program := "ytedbfjjjfmmffab", sum := "5a44fd93b0bc8c29832f06214da1b1856f42e0f314f164ac40156bf826fadf40", func := "evenkeel/evenkeellaw.HardenSame", spec := "hardenSame", apart := false, narrowed := true }
def HardenSameUptoSaid : Prop := hardenSameUptoRow.holds Try.pinned (OpenSpec.upto hardenSameSpec)

/-- 'evenkeellaw.HardenQuiet', WHERE WHAT IT READS IS OF BULK AT MOST 1048576: true; the input reads as it did. -/
def hardenQuietUptoRow : OpenClaim := { program := "ytedbfjjjfmmffab", sum := "5a44fd93b0bc8c29832f06214da1b1856f42e0f314f164ac40156bf826fadf40", func := "evenkeel/evenkeellaw.HardenQuiet", spec := "hardenQuiet", apart := false, narrowed := true }
def HardenQuietUptoSaid : Prop := hardenQuietUptoRow.holds Try.pinned (OpenSpec.upto hardenQuietSpec)

end Rows
end Go.Proofs.Ytedbfjjjfmmffab
