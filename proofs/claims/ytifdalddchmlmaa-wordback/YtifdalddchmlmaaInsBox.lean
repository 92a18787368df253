/-
  What the reference's ins comes to, operation by operation (what all need).
-/
import Derived.Test.YtifdalddchmlmaaRows
import Derived.WalkKit
import Derived.Deep.LoopGhost
import Derived.Test.YtifdalddchmlmaaShape
namespace Go.Proofs.Ytifdalddchmlmaa
open Go.RowKit

/-- A field: not there (0), a register (1), or something else. -/
def Fld (regs l f : Int) : Prop := (l = 0 → f = 0) ∧ (l = 1 → Reg regs f)

/-- The boxes of the program and of the instruction, in a world that has grown since. -/
theorem boxes2 {w w1 : World} {x0 x1 y0 y1 y2 y3 y4 : Value} {t u : TypeId} (m : More ((w.alloc (.cells #[x0, x1] t)).alloc (.cells #[y0, y1, y2, y3, y4] u)) w1) :
    (w1.cell? ⟨w.heap.size, 0, none⟩ = some x0 ∧ w1.cell? ⟨w.heap.size, 1, none⟩ = some x1) ∧
    w1.cell? ⟨w.heap.size + 1, 0, none⟩ = some y0 ∧ w1.cell? ⟨w.heap.size + 1, 1, none⟩ = some y1 ∧ w1.cell? ⟨w.heap.size + 1, 2, none⟩ = some y2 ∧ w1.cell? ⟨w.heap.size + 1, 3, none⟩ = some y3 ∧ w1.cell? ⟨w.heap.size + 1, 4, none⟩ = some y4 := by
  refine ⟨⟨m.cell (by go_simp), m.cell (by go_simp)⟩, m.cell (by go_simp), m.cell (by go_simp), m.cell (by go_simp), m.cell (by go_simp), m.cell (by go_simp)⟩

end Go.Proofs.Ytifdalddchmlmaa
