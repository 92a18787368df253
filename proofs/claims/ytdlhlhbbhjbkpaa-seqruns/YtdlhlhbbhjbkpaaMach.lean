/-
  A machine of package seq as data, and how it lies in memory, one row of cells; and how it stays so under stores. No Go text in sight.
-/
import Derived.Test.YtdlhlhbbhjbkpaaPAt
namespace Go.Proofs.Ytdlhlhbbhjbkpaa
open Go.RowKit
set_option linter.unusedVariables false

structure Ms where
  fin : Int
  val : Int
  steps : Int
  sv : Value
  mv : Value
  r : Nat → Int
  wd : Nat → Int
  next : Int
  fuel : Int
  ended : Bool
  st : Nat → Int

/-- What its cells are. -/
def cellF (rv cv : Value) (x : Ms) (j : Nat) : Value :=
  if j = 0 then rv else if j = 1 then cv else if j = 2 then .int .i64 x.fin else if j = 3 then .int .i64 x.val else if j = 4 then .int .i64 x.steps
  else if j = 5 then x.sv else if j = 6 then x.mv else if j < 17 then .int .i64 (x.r (j - 7)) else if j < 401 then .int .i64 (x.wd (j - 17))
  else if j = 401 then .int .i64 x.next else if j = 402 then .int .i64 x.fuel else if j = 403 then .bool x.ended else .int .i64 (x.st (j - 404))

theorem cellF_r (rv cv : Value) (x : Ms) (j : Nat) (hj : j < 10) : cellF rv cv x (7 + j) = .int .i64 (x.r j) := by
  unfold cellF
  rw [if_neg (by omega), if_neg (by omega), if_neg (by omega), if_neg (by omega), if_neg (by omega), if_neg (by omega), if_neg (by omega), if_pos (by omega), show 7 + j - 7 = j by omega]
theorem cellF_wd (rv cv : Value) (x : Ms) (j : Nat) (hj : j < 384) : cellF rv cv x (17 + j) = .int .i64 (x.wd j) := by
  unfold cellF
  rw [if_neg (by omega), if_neg (by omega), if_neg (by omega), if_neg (by omega), if_neg (by omega), if_neg (by omega), if_neg (by omega), if_neg (by omega), if_pos (by omega), show 17 + j - 17 = j by omega]
theorem cellF_st (rv cv : Value) (x : Ms) (j : Nat) (hj : j < 7) : cellF rv cv x (404 + j) = .int .i64 (x.st j) := by
  unfold cellF
  rw [if_neg (by omega), if_neg (by omega), if_neg (by omega), if_neg (by omega), if_neg (by omega), if_neg (by omega), if_neg (by omega), if_neg (by omega), if_neg (by omega), if_neg (by omega), if_neg (by omega), if_neg (by omega), show 404 + j - 404 = j by omega]

structure MC (c : Array Value) (rv cv : Value) (x : Ms) : Prop where
  size : c.size = 411
  at_ : ∀ j, j < 411 → c[j]? = some (cellF rv cv x j)

structure MAt (w : World) (M : Nat) (rv cv : Value) (x : Ms) : Prop where
  out : ∃ c, w.heap[M]? = some (.cells c 70 (0, 0)) ∧ MC c rv cv x

def setN (r : Nat → Int) (k : Nat) (v : Int) : Nat → Int := fun j => if j = k then v else r j

section
variable {w w' : World} {M : Nat} {rv cv : Value} {x : Ms}

theorem MAt.wr (h : MAt w M rv cv x) (j : Nat) (hj : j < 411) : Wr w M j (cellF rv cv x j) := by
  obtain ⟨c, hh, hc⟩ := h.out
  exact ⟨by rw [cell_of_row w M j c 70 (0, 0) hh]; exact hc.at_ j hj, by simp [World.frozen?, hh]⟩
theorem MAt.lt (h : MAt w M rv cv x) : M < w.heap.size := cell_block (h.wr 0 (by omega)).1

theorem MAt.p0 (h : MAt w M rv cv x) : Wr w M 0 rv := h.wr 0 (by omega)
theorem MAt.p1 (h : MAt w M rv cv x) : Wr w M 1 cv := h.wr 1 (by omega)
theorem MAt.fin (h : MAt w M rv cv x) : Wr w M 2 (.int .i64 x.fin) := h.wr 2 (by omega)
theorem MAt.val (h : MAt w M rv cv x) : Wr w M 3 (.int .i64 x.val) := h.wr 3 (by omega)
theorem MAt.steps (h : MAt w M rv cv x) : Wr w M 4 (.int .i64 x.steps) := h.wr 4 (by omega)
theorem MAt.sv (h : MAt w M rv cv x) : Wr w M 5 x.sv := h.wr 5 (by omega)
theorem MAt.mv (h : MAt w M rv cv x) : Wr w M 6 x.mv := h.wr 6 (by omega)
theorem MAt.next (h : MAt w M rv cv x) : Wr w M 401 (.int .i64 x.next) := h.wr 401 (by omega)
theorem MAt.fuel (h : MAt w M rv cv x) : Wr w M 402 (.int .i64 x.fuel) := h.wr 402 (by omega)
theorem MAt.ended (h : MAt w M rv cv x) : Wr w M 403 (.bool x.ended) := h.wr 403 (by omega)
theorem MAt.r (h : MAt w M rv cv x) (j : Nat) (hj : j < 10) : Wr w M (7 + j) (.int .i64 (x.r j)) := by
  have := h.wr (7 + j) (by omega)
  rw [cellF_r rv cv x j hj] at this
  exact this
theorem MAt.wd (h : MAt w M rv cv x) (j : Nat) (hj : j < 384) : Wr w M (17 + j) (.int .i64 (x.wd j)) := by
  have := h.wr (17 + j) (by omega)
  rw [cellF_wd rv cv x j hj] at this
  exact this
theorem MAt.st (h : MAt w M rv cv x) (j : Nat) (hj : j < 7) : Wr w M (404 + j) (.int .i64 (x.st j)) := by
  have := h.wr (404 + j) (by omega)
  rw [cellF_st rv cv x j hj] at this
  exact this

theorem MAt.kept (h : MAt w M rv cv x) {row : Option Nat} (hg : w.grownBy w' row) (hne : some M ≠ row) : MAt w' M rv cv x := by
  obtain ⟨c, hh, hc⟩ := h.out
  exact ⟨c, by rw [hg.block M h.lt hne]; exact hh, hc⟩
theorem MAt.alloc (h : MAt w M rv cv x) (o : Obj) : MAt (w.alloc o) M rv cv x := h.kept (World.grownBy_alloc w o none) (by simp)
theorem MAt.drew (h : MAt w M rv cv x) : MAt w.drew M rv cv x := h.kept (grown_drew w none) (by simp)
theorem MAt.more (h : MAt w M rv cv x) (m : More w w') : MAt w' M rv cv x := h.kept (m.grow none) (by simp)

theorem MAt.set (h : MAt w M rv cv x) (j : Nat) (v : Value) (x' : Ms) (hx : ∀ i, i < 411 → cellF rv cv x' i = if i = j then v else cellF rv cv x i) : MAt (w.setCell ⟨M, j, none⟩ v) M rv cv x' := by
  obtain ⟨c, hh, hc⟩ := h.out
  refine ⟨c.setIfInBounds j v, ?_, by simp [hc.size], fun i hi => ?_⟩
  · rw [setCell_eq_setRow w M j c 70 (0, 0) v hh]
    exact setRow_heap w M c _ 70 _ hh
  · rw [hx i hi, Array.getElem?_setIfInBounds]
    by_cases e : i = j
    · subst e
      rw [if_pos rfl, if_pos rfl, if_pos (by rw [hc.size]; exact hi)]
    · rw [if_neg (fun h => e h.symm), if_neg e]
      exact hc.at_ i hi

theorem MAt.setFin (h : MAt w M rv cv x) (n : Int) : MAt (w.setCell ⟨M, 2, none⟩ (.int .i64 n)) M rv cv { x with fin := n } :=
  h.set 2 _ _ fun i hi => by unfold cellF; by_cases e : i = 2 <;> simp [e]
theorem MAt.setVal (h : MAt w M rv cv x) (n : Int) : MAt (w.setCell ⟨M, 3, none⟩ (.int .i64 n)) M rv cv { x with val := n } :=
  h.set 3 _ _ fun i hi => by unfold cellF; by_cases e : i = 3 <;> simp [e]
theorem MAt.setSteps (h : MAt w M rv cv x) (n : Int) : MAt (w.setCell ⟨M, 4, none⟩ (.int .i64 n)) M rv cv { x with steps := n } :=
  h.set 4 _ _ fun i hi => by unfold cellF; by_cases e : i = 4 <;> simp [e]
theorem MAt.setSv (h : MAt w M rv cv x) (v : Value) : MAt (w.setCell ⟨M, 5, none⟩ v) M rv cv { x with sv := v } :=
  h.set 5 _ _ fun i hi => by unfold cellF; by_cases e : i = 5 <;> simp [e]
theorem MAt.setMv (h : MAt w M rv cv x) (v : Value) : MAt (w.setCell ⟨M, 6, none⟩ v) M rv cv { x with mv := v } :=
  h.set 6 _ _ fun i hi => by unfold cellF; by_cases e : i = 6 <;> simp [e]
theorem MAt.setNext (h : MAt w M rv cv x) (n : Int) : MAt (w.setCell ⟨M, 401, none⟩ (.int .i64 n)) M rv cv { x with next := n } :=
  h.set 401 _ _ fun i hi => by unfold cellF; by_cases e : i = 401 <;> simp [e]
theorem MAt.setEnded (h : MAt w M rv cv x) (b : Bool) : MAt (w.setCell ⟨M, 403, none⟩ (.bool b)) M rv cv { x with ended := b } :=
  h.set 403 _ _ fun i hi => by unfold cellF; by_cases e : i = 403 <;> simp [e]
theorem MAt.setR (h : MAt w M rv cv x) (k : Nat) (hk : k < 10) (n : Int) : MAt (w.setCell ⟨M, 7 + k, none⟩ (.int .i64 n)) M rv cv { x with r := setN x.r k n } :=
  h.set (7 + k) _ _ fun i hi => by
    by_cases e : i = 7 + k
    · subst e; rw [if_pos rfl, cellF_r _ _ _ k hk]; simp [setN]
    · rw [if_neg e]
      unfold cellF setN
      by_cases e1 : i < 7
      · have : i = 0 ∨ i = 1 ∨ i = 2 ∨ i = 3 ∨ i = 4 ∨ i = 5 ∨ i = 6 := by omega
        rcases this with rfl | rfl | rfl | rfl | rfl | rfl | rfl <;> simp
      · have e2 : ¬ i - 7 = k := by omega
        simp [e2]
theorem MAt.setWd (h : MAt w M rv cv x) (k : Nat) (hk : k < 384) (n : Int) : MAt (w.setCell ⟨M, 17 + k, none⟩ (.int .i64 n)) M rv cv { x with wd := setN x.wd k n } :=
  h.set (17 + k) _ _ fun i hi => by
    by_cases e : i = 17 + k
    · subst e; rw [if_pos rfl, cellF_wd _ _ _ k hk]; simp [setN]
    · rw [if_neg e]
      unfold cellF setN
      by_cases e1 : i < 17
      · simp [e1]
      · have e2 : ¬ i - 17 = k := by omega
        simp [e2]
theorem MAt.setSt (h : MAt w M rv cv x) (k : Nat) (hk : k < 7) (n : Int) : MAt (w.setCell ⟨M, 404 + k, none⟩ (.int .i64 n)) M rv cv { x with st := setN x.st k n } :=
  h.set (404 + k) _ _ fun i hi => by
    by_cases e : i = 404 + k
    · subst e; rw [if_pos rfl, cellF_st _ _ _ k hk]; simp [setN]
    · rw [if_neg e]
      unfold cellF setN
      by_cases e1 : i < 404
      · have : i < 401 ∨ i = 401 ∨ i = 402 ∨ i = 403 := by omega
        rcases this with h1 | rfl | rfl | rfl
        · simp [h1]
        · simp
        · simp
        · simp
      · have e2 : ¬ i - 404 = k := by omega
        simp [e2]
end

/-- A machine, and what it has shown so far, in a row of its own behind it (the field sv says nothing here). -/
structure Run (w : World) (M : Nat) (rv cv : Value) (x : Ms) (se : List Se) : Prop where
  out : ∃ sv, MAt w M rv cv { x with sv := sv } ∧ SeenOwn w (M + 1) sv se

section
variable {w w' : World} {M : Nat} {rv cv : Value} {x x' : Ms} {se : List Se}
theorem Run.lt (h : Run w M rv cv x se) : M < w.heap.size := by
  obtain ⟨sv, hm, _⟩ := h.out
  exact hm.lt
theorem Run.kept (h : Run w M rv cv x se) {row : Option Nat} (hg : w.grownBy w' row) (hr : ∀ b, row = some b → b < M) : Run w' M rv cv x se := by
  obtain ⟨sv, hm, ho⟩ := h.out
  exact ⟨sv, hm.kept hg (fun e => by have := hr M e.symm; omega), ho.kept hg (fun b hb => by have := hr b hb; omega)⟩
theorem Run.more (h : Run w M rv cv x se) (m : More w w') : Run w' M rv cv x se := h.kept (m.grow none) (fun b hb => by cases hb)
theorem Run.alloc (h : Run w M rv cv x se) (o : Obj) : Run (w.alloc o) M rv cv x se := h.kept (World.grownBy_alloc w o none) (fun b hb => by cases hb)
theorem Run.drew (h : Run w M rv cv x se) : Run w.drew M rv cv x se := h.kept (grown_drew w none) (fun b hb => by cases hb)
/-- A store into the machine itself. -/
theorem Run.put (h : Run w M rv cv x se) {j : Nat} {v : Value} (hm : ∀ sv, MAt w M rv cv { x with sv := sv } → MAt (w.setCell ⟨M, j, none⟩ v) M rv cv { x' with sv := sv }) : Run (w.setCell ⟨M, j, none⟩ v) M rv cv x' se := by
  obtain ⟨sv, h1, ho⟩ := h.out
  exact ⟨sv, hm sv h1, ho.kept (grown_set w M j v) (fun b hb => by have := Option.some.inj hb; omega)⟩
theorem Run.setFin (h : Run w M rv cv x se) (n : Int) : Run (w.setCell ⟨M, 2, none⟩ (.int .i64 n)) M rv cv { x with fin := n } se := h.put fun _ m => m.setFin n
theorem Run.setVal (h : Run w M rv cv x se) (n : Int) : Run (w.setCell ⟨M, 3, none⟩ (.int .i64 n)) M rv cv { x with val := n } se := h.put fun _ m => m.setVal n
theorem Run.setSteps (h : Run w M rv cv x se) (n : Int) : Run (w.setCell ⟨M, 4, none⟩ (.int .i64 n)) M rv cv { x with steps := n } se := h.put fun _ m => m.setSteps n
theorem Run.setNext (h : Run w M rv cv x se) (n : Int) : Run (w.setCell ⟨M, 401, none⟩ (.int .i64 n)) M rv cv { x with next := n } se := h.put fun _ m => m.setNext n
theorem Run.setEnded (h : Run w M rv cv x se) (b : Bool) : Run (w.setCell ⟨M, 403, none⟩ (.bool b)) M rv cv { x with ended := b } se := h.put fun _ m => m.setEnded b
theorem Run.setR (h : Run w M rv cv x se) (k : Nat) (hk : k < 10) (n : Int) : Run (w.setCell ⟨M, 7 + k, none⟩ (.int .i64 n)) M rv cv { x with r := setN x.r k n } se := h.put fun _ m => m.setR k hk n
theorem Run.setWd (h : Run w M rv cv x se) (k : Nat) (hk : k < 384) (n : Int) : Run (w.setCell ⟨M, 17 + k, none⟩ (.int .i64 n)) M rv cv { x with wd := setN x.wd k n } se := h.put fun _ m => m.setWd k hk n

theorem Run.fin (h : Run w M rv cv x se) : Wr w M 2 (.int .i64 x.fin) := by obtain ⟨sv, m, _⟩ := h.out; exact m.fin
theorem Run.val (h : Run w M rv cv x se) : Wr w M 3 (.int .i64 x.val) := by obtain ⟨sv, m, _⟩ := h.out; exact m.val
theorem Run.steps (h : Run w M rv cv x se) : Wr w M 4 (.int .i64 x.steps) := by obtain ⟨sv, m, _⟩ := h.out; exact m.steps
theorem Run.p0 (h : Run w M rv cv x se) : Wr w M 0 rv := by obtain ⟨sv, m, _⟩ := h.out; exact m.p0
theorem Run.p1 (h : Run w M rv cv x se) : Wr w M 1 cv := by obtain ⟨sv, m, _⟩ := h.out; exact m.p1
theorem Run.mv (h : Run w M rv cv x se) : Wr w M 6 x.mv := by obtain ⟨sv, m, _⟩ := h.out; exact m.mv
theorem Run.next (h : Run w M rv cv x se) : Wr w M 401 (.int .i64 x.next) := by obtain ⟨sv, m, _⟩ := h.out; exact m.next
theorem Run.fuel (h : Run w M rv cv x se) : Wr w M 402 (.int .i64 x.fuel) := by obtain ⟨sv, m, _⟩ := h.out; exact m.fuel
theorem Run.ended (h : Run w M rv cv x se) : Wr w M 403 (.bool x.ended) := by obtain ⟨sv, m, _⟩ := h.out; exact m.ended
theorem Run.r (h : Run w M rv cv x se) (j : Nat) (hj : j < 10) : Wr w M (7 + j) (.int .i64 (x.r j)) := by obtain ⟨sv, m, _⟩ := h.out; exact m.r j hj
theorem Run.wd (h : Run w M rv cv x se) (j : Nat) (hj : j < 384) : Wr w M (17 + j) (.int .i64 (x.wd j)) := by obtain ⟨sv, m, _⟩ := h.out; exact m.wd j hj
theorem Run.st (h : Run w M rv cv x se) (j : Nat) (hj : j < 7) : Wr w M (404 + j) (.int .i64 (x.st j)) := by obtain ⟨sv, m, _⟩ := h.out; exact m.st j hj
end

theorem below_put {w w' : World} {M : Nat} (h : Below M w w') (j : Nat) (v : Value) : Below M w (w'.setCell ⟨M, j, none⟩ v) := Below.setCell h (Nat.le_refl _) v
theorem below_alloc {w w' : World} {M : Nat} (h : Below M w w') (hM : M ≤ w'.heap.size) (o : Obj) : Below M w (w'.alloc o) := Below.alloc h hM o
theorem below_drew {w w' : World} {M : Nat} (h : Below M w w') : Below M w w'.drew := Below.drew h
theorem below_more {w w' w'' : World} {M : Nat} (h : Below M w w') (hM : M ≤ w'.heap.size) (m : More w' w'') : Below M w w'' := Below.trans h (Below.mono m hM)

end Go.Proofs.Ytdlhlhbbhjbkpaa
