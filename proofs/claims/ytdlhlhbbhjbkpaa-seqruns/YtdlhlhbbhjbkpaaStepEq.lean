/-
  What a step comes to, kind by kind, and a run behind it. No Go text in sight.
-/
import Derived.Test.YtdlhlhbbhjbkpaaSem
namespace Go.Proofs.Ytdlhlhbbhjbkpaa
open Go.RowKit
set_option linter.unusedVariables false

theorem putI_load {i : Ins} (h : i.op = 3 ∨ i.op = 5) : putI i = 0 := by unfold putI; rw [if_pos h]
theorem putI_put {i : Ins} (h : i.op = 4 ∨ i.op = 6) : putI i = 1 := by unfold putI; rw [if_neg (by omega), if_pos h]
theorem putI_no {i : Ins} (h3 : ¬ i.op = 3) (h4 : ¬ i.op = 4) (h5 : ¬ i.op = 5) (h6 : ¬ i.op = 6) : putI i = -1 := by unfold putI; rw [if_neg (by omega), if_neg (by omega)]

theorem step_out {p : Prg} {s : St} {i : Ins} (hI : p.ins s.at_ = i) (hop : i.op = 3 ∨ i.op = 4 ∨ i.op = 5 ∨ i.op = 6) (hx : idxI s.r i < 0 ∨ (s.m.len i.c.toNat : Int) ≤ idxI s.r i) :
    stepI p s = (⟨s.at_ + 1, s.r, s.m, s.seen ++ [⟨1, s.at_, 0⟩]⟩, some (2, 0)) := by
  subst hI
  have hp : 0 ≤ putI (p.ins s.at_) := by
    rcases hop with h | h | h | h
    · rw [putI_load (.inl h)]; decide
    · rw [putI_put (.inl h)]; decide
    · rw [putI_load (.inr h)]; decide
    · rw [putI_put (.inr h)]; decide
  unfold stepI
  rw [if_neg (by omega), if_neg (by omega), if_neg (by omega), if_pos hp, if_pos hx]

theorem step_put {p : Prg} {s : St} {i : Ins} (hI : p.ins s.at_ = i) (hop : i.op = 4 ∨ i.op = 6) (hx : ¬ (idxI s.r i < 0 ∨ (s.m.len i.c.toNat : Int) ≤ idxI s.r i)) :
    stepI p s = (⟨s.at_ + 1, s.r, setW s.m i.c.toNat (idxI s.r i).toNat (s.r i.a.toNat), s.seen ++ [⟨1, s.at_, 0⟩] ++ [⟨2, baseI p.log i.c.toNat + idxI s.r i, 1⟩]⟩, none) := by
  subst hI
  have hp := putI_put hop
  unfold stepI
  rw [if_neg (by omega), if_neg (by omega), if_neg (by omega), if_pos (by rw [hp]; decide), if_neg hx, if_pos hp]

theorem step_load {p : Prg} {s : St} {i : Ins} (hI : p.ins s.at_ = i) (hop : i.op = 3 ∨ i.op = 5) (hx : ¬ (idxI s.r i < 0 ∨ (s.m.len i.c.toNat : Int) ≤ idxI s.r i)) :
    stepI p s = (⟨s.at_ + 1, setR s.r i.a (s.m.wd i.c.toNat (idxI s.r i).toNat), s.m, s.seen ++ [⟨1, s.at_, 0⟩] ++ [⟨2, baseI p.log i.c.toNat + idxI s.r i, 0⟩]⟩, none) := by
  subst hI
  have hp := putI_load hop
  unfold stepI
  rw [if_neg (by omega), if_neg (by omega), if_neg (by omega), if_pos (by rw [hp]; decide), if_neg hx, if_neg (by rw [hp]; decide)]

theorem step_regs {p : Prg} {s : St} {i : Ins} (hI : p.ins s.at_ = i) (h3 : ¬ i.op = 3) (h4 : ¬ i.op = 4) (h5 : ¬ i.op = 5) (h6 : ¬ i.op = 6) (h7 : ¬ i.op = 7) (h8 : ¬ i.op = 8) (h9 : ¬ i.op = 9) :
    stepI p s = (⟨s.at_ + 1, (regsI s.r i).1, s.m, s.seen ++ [⟨1, s.at_, 0⟩] ++ (regsI s.r i).2⟩, none) := by
  subst hI
  have hp := putI_no h3 h4 h5 h6
  unfold stepI
  rw [if_neg h7, if_neg h8, if_neg h9, if_neg (by rw [hp]; decide)]

theorem run_next {p : Prg} {g k : Nat} {s s' : St} {R : Sh} (h : runI p (g + 1) k s = R) (hat : s.at_ < p.cl) (e : stepI p s = (s', none)) : runI p g (k + 1) s' = R := by
  rw [runI, if_neg (by omega), e] at h
  exact h
theorem run_stop {p : Prg} {g k : Nat} {s s' : St} {R : Sh} {f v : Int} (h : runI p (g + 1) k s = R) (hat : s.at_ < p.cl) (e : stepI p s = (s', some (f, v))) : R = ⟨f, v, (k : Int) + 1, s'.seen, s'.m⟩ := by
  rw [runI, if_neg (by omega), e] at h
  exact h.symm

end Go.Proofs.Ytdlhlhbbhjbkpaa
