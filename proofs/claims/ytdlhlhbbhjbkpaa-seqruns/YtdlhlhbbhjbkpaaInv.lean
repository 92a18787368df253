/-
  What holds of every state that a run comes to; and the form of a slice that a run owns. No Go text in sight.
-/
import Derived.Test.YtdlhlhbbhjbkpaaOwn
import Derived.Deep.OwnRows
namespace Go.Proofs.Ytdlhlhbbhjbkpaa
open Go.RowKit
set_option linter.unusedVariables false
set_option linter.unusedSimpArgs false

/-- What holds of every state that a run comes to. -/
structure Inv (p : Prg) (m : Mem) (k : Nat) (s : St) : Prop where
  at_ : s.at_ ≤ p.cl
  r : ∀ j, j < 10 → B64 (s.r j)
  ml : s.m.ml = m.ml
  len : ∀ j, s.m.len j = m.len j
  wd : ∀ j, j < m.ml → ∀ i, i < m.len j → B64 (s.m.wd j i)
  seen : s.seen.length ≤ 2 * k

theorem own_form {w : World} {base : Nat} {e : TypeId} {size : Nat} {v : Value} {n : Nat} {xs : List Value} (h : w.ownsRow base e size v n xs) : ∃ a c, v = .slice a n c := by
  rcases h.2 with ⟨h, h0⟩ | ⟨g, cap, cur, h, _⟩
  · exact ⟨none, 0, by rw [h, h0]⟩
  · exact ⟨_, cap, h⟩

end Go.Proofs.Ytdlhlhbbhjbkpaa
