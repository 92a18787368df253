/-
  What holds of every state of a run stays so behind a step; and where the machine's loop stands. No walk but GoesOn's.
-/
import Derived.Test.YtdlhlhbbhjbkpaaStep
namespace Go.Proofs.Ytdlhlhbbhjbkpaa
open Go.RowKit
set_option linter.unusedVariables false
set_option linter.unusedSimpArgs false

theorem opI_B64 (o x y : Int) : B64 (opI o x y) := by
  unfold opI
  repeat' split
  all_goals first | exact B64_wrap _ | exact B64_zero

theorem setR_B64 {r : Nat → Int} (hr : ∀ j, j < 10 → B64 (r j)) (a v : Int) (hv : B64 v) : ∀ j, j < 10 → B64 (setR r a v j) := by
  intro j hj
  unfold setR
  split
  · exact hv
  · exact hr j hj

theorem regsI_B64 {r : Nat → Int} (hr : ∀ j, j < 10 → B64 (r j)) (i : Ins) (hb : i.op = 2 → i.b.toNat < 10) (hn : B64 i.n) : ∀ j, j < 10 → B64 ((regsI r i).1 j) := by
  unfold regsI
  by_cases h1 : i.op = 1
  · rw [if_pos h1]; exact setR_B64 hr _ _ hn
  rw [if_neg h1]
  by_cases h2 : i.op = 2
  · rw [if_pos h2]; exact setR_B64 hr _ _ (hr _ (hb h2))
  rw [if_neg h2]
  by_cases h3 : i.op = 10
  · rw [if_pos h3]; exact setR_B64 hr _ _ (B64_wrap _)
  rw [if_neg h3]
  by_cases h4 : i.op = 11
  · rw [if_pos h4]
    dsimp only
    split
    · exact setR_B64 hr _ _ B64_zero
    · exact hr
  rw [if_neg h4]
  by_cases h5 : i.op = 12
  · rw [if_pos h5]; exact hr
  rw [if_neg h5]
  exact setR_B64 hr _ _ (opI_B64 _ _ _)
theorem regsI_len (r : Nat → Int) (i : Ins) : (regsI r i).2.length ≤ 1 := by
  unfold regsI
  repeat' split
  all_goals first | exact Nat.zero_le _ | exact Nat.le_refl _

theorem step_inv {p : Prg} {m : Mem} {k : Nat} {s : St} (h : Inv p m k s) (hat : s.at_ < p.cl) (hin : InsOk p.rl p.log p.cl 10 (p.ins s.at_)) (hn : B64 (p.ins s.at_).n) (hrl : m.ml = p.rl) : Inv p m (k + 1) (stepI p s).1 := by
  have hseen := h.seen
  have hl1 : ∀ l : List Se, l.length ≤ 1 → (s.seen ++ [(⟨1, s.at_, 0⟩ : Se)] ++ l).length ≤ 2 * (k + 1) := fun l hl => by simp; omega
  have hl0 : (s.seen ++ [(⟨1, s.at_, 0⟩ : Se)]).length ≤ 2 * (k + 1) := by simp; omega
  unfold stepI
  by_cases h7 : (p.ins s.at_).op = 7
  · rw [if_pos h7]
    have : 0 ≤ (p.ins s.at_).n ∧ (p.ins s.at_).n < p.cl := by unfold InsOk Plc at hin; simp [h7] at hin; exact hin.2.2.2
    exact ⟨by dsimp only; omega, h.r, h.ml, h.len, h.wd, hl0⟩
  rw [if_neg h7]
  by_cases h8 : (p.ins s.at_).op = 8
  · rw [if_pos h8]
    have : 0 ≤ (p.ins s.at_).n ∧ (p.ins s.at_).n < p.cl := by unfold InsOk Plc at hin; simp [h8] at hin; exact hin.2.2.2
    refine ⟨?_, h.r, h.ml, h.len, h.wd, hl0⟩
    dsimp only
    split <;> omega
  rw [if_neg h8]
  by_cases h9 : (p.ins s.at_).op = 9
  · rw [if_pos h9]; exact ⟨by dsimp only; omega, h.r, h.ml, h.len, h.wd, hl0⟩
  rw [if_neg h9]
  by_cases hp : 0 ≤ putI (p.ins s.at_)
  · rw [if_pos hp]
    have hop : (p.ins s.at_).op = 3 ∨ (p.ins s.at_).op = 4 ∨ (p.ins s.at_).op = 5 ∨ (p.ins s.at_).op = 6 := by
      unfold putI at hp
      by_cases e1 : (p.ins s.at_).op = 3 ∨ (p.ins s.at_).op = 5
      · omega
      · rw [if_neg e1] at hp
        by_cases e2 : (p.ins s.at_).op = 4 ∨ (p.ins s.at_).op = 6
        · omega
        · rw [if_neg e2] at hp; omega
    have hc : (p.ins s.at_).c.toNat < m.ml ∧ (p.ins s.at_).a.toNat < 10 := by
      unfold InsOk Reg Rgn at hin
      rcases hop with e | e | e | e <;> simp [e] at hin <;> omega
    by_cases hx : idxI s.r (p.ins s.at_) < 0 ∨ (s.m.len (p.ins s.at_).c.toNat : Int) ≤ idxI s.r (p.ins s.at_)
    · rw [if_pos hx]; exact ⟨by dsimp only; omega, h.r, h.ml, h.len, h.wd, hl0⟩
    rw [if_neg hx]
    have hlen := h.len (p.ins s.at_).c.toNat
    by_cases h1 : putI (p.ins s.at_) = 1
    · rw [if_pos h1]
      refine ⟨by dsimp only; omega, h.r, h.ml, h.len, fun j hj i hi => ?_, hl1 _ (Nat.le_refl _)⟩
      dsimp only [setW]
      split
      · exact h.r _ hc.2
      · exact h.wd j hj i hi
    · rw [if_neg h1]
      exact ⟨by dsimp only; omega, setR_B64 h.r _ _ (h.wd _ hc.1 _ (by omega)), h.ml, h.len, h.wd, hl1 _ (Nat.le_refl _)⟩
  rw [if_neg hp]
  refine ⟨by dsimp only; omega, regsI_B64 h.r _ (fun e => ?_) hn, h.ml, h.len, h.wd, hl1 _ (regsI_len _ _)⟩
  unfold InsOk Reg at hin
  simp [e] at hin
  omega

/-- What the machine is at the end. -/
structure Fin_ (m : Mem) (R : Sh) (x : Ms) (se : List Se) : Prop where
  fin : x.fin = R.fin
  val : x.val = R.val
  steps : x.steps = R.steps
  seen : se = R.seen
  w : Wds m R.mem x
  ml : R.mem.ml = m.ml
  len : ∀ j, R.mem.len j = m.len j
  short : se.length ≤ 100000

/-- What the machine is on the way. -/
structure Way (p : Prg) (m : Mem) (fuel g : Nat) (R : Sh) (x : Ms) (se : List Se) (k : Nat) (s : St) : Prop where
  kg : k + g = fuel
  rel : Rel m fuel x s k
  seen : se = s.seen
  inv : Inv p m k s
  run : runI p g k s = R

theorem Rel.shorter {m : Mem} {fuel : Nat} {x : Ms} {s : St} {k : Nat} (h : Rel m fuel x s k) (f v : Int) (mm : Mem) (e : mm = s.m) : Wds m mm { x with fin := f, ended := true } := by subst e; exact ⟨h.w.wd, h.w.st⟩

theorem goesOn_all (p : Prg) (m : Mem) (fuel g : Nat) (R : Sh) (w : World) (M : Nat) (rv : Value) (ca : Option Addr) (cc : Nat) (x : Ms) (se : List Se) (hf : fuel ≤ 40000) (h : Run w M rv (.slice ca p.cl cc) x se) (hw : (∃ k s, Way p m fuel g R x se k s) ∨ (x.ended = true ∧ Fin_ m R x se)) :
    Calls Try.prog 39 #[.pointer (some ⟨M, 0, none⟩)] w fun e w' => Below M w w' ∧ ∃ (b : Bool) (x' : Ms), e = .returned (.bool b) ∧ Run w' M rv (.slice ca p.cl cc) x' se ∧ ((b = false ∧ Fin_ m R x' se) ∨ (b = true ∧ ∃ g' k s, g = g' + 1 ∧ Way p m fuel g R x' se k s ∧ s.at_ < p.cl)) := by
  rcases hw with ⟨k, s, hw⟩ | ⟨he, hfin⟩
  · have hsh : se.length ≤ 100000 := by have := hw.inv.seen; have := hw.kg; rw [hw.seen]; omega
    cases g with
    | zero =>
      have hk := hw.kg
      refine (seq_goesOn_fuel w M rv _ x se h hw.rel.ended (by rw [hw.rel.steps, hw.rel.fuel]; omega)).mono ?_
      rintro e w' ⟨rfl, r2, b2⟩
      have hR := hw.run
      rw [runI] at hR
      subst hR
      exact ⟨b2, false, _, rfl, r2, .inl ⟨rfl, rfl, hw.rel.val, by dsimp only; rw [hw.rel.steps], hw.seen, hw.rel.shorter _ 0 _ rfl, hw.inv.ml, hw.inv.len, hsh⟩⟩
    | succ g' =>
      have hk := hw.kg
      by_cases hat : s.at_ < p.cl
      · refine (seq_goesOn_on w M rv ca p.cl cc x se h hw.rel.ended (by rw [hw.rel.steps, hw.rel.fuel]; omega) (by rw [hw.rel.next]; omega)).mono ?_
        rintro e w' ⟨rfl, r2, b2⟩
        exact ⟨b2, true, x, rfl, r2, .inr ⟨rfl, g', k, s, rfl, hw, hat⟩⟩
      · refine (seq_goesOn_next w M rv ca p.cl cc x se h hw.rel.ended (by rw [hw.rel.steps, hw.rel.fuel]; omega) (by rw [hw.rel.next]; omega)).mono ?_
        rintro e w' ⟨rfl, r2, b2⟩
        have hR := hw.run
        rw [runI, if_pos (by omega)] at hR
        subst hR
        exact ⟨b2, false, _, rfl, r2, .inl ⟨rfl, rfl, hw.rel.val, by dsimp only; rw [hw.rel.steps], hw.seen, hw.rel.shorter _ 0 _ rfl, hw.inv.ml, hw.inv.len, hsh⟩⟩
  · refine (seq_goesOn_over w M rv _ x se h he).mono ?_
    rintro e w' ⟨rfl, r2, b2⟩
    exact ⟨b2, false, x, rfl, r2, .inl ⟨rfl, hfin⟩⟩

/-- Behind a step. -/
theorem way_next {p : Prg} {m : Mem} {fuel g' : Nat} {R : Sh} {x x' : Ms} {se : List Se} {k : Nat} {s : St} (hw : Way p m fuel (g' + 1) R x se k s) (hat : s.at_ < p.cl) (hin : InsOk p.rl p.log p.cl 10 (p.ins s.at_)) (hn : B64 (p.ins s.at_).n) (hrl : m.ml = p.rl) (hf : fuel ≤ 40000)
    (ha : After m fuel x' (k + 1) (stepI p s)) : (∃ k s', Way p m fuel g' R x' (stepI p s).1.seen k s') ∨ (x'.ended = true ∧ Fin_ m R x' (stepI p s).1.seen) := by
  have hi := step_inv hw.inv hat hin hn hrl
  have hR := hw.run
  rw [runI, if_neg (by omega)] at hR
  have hk := hw.kg
  have hs := hi.seen
  unfold After at ha
  cases hq : (stepI p s).2 with
  | none =>
    rw [hq] at ha hR
    exact .inl ⟨k + 1, _, by omega, ha, rfl, hi, hR⟩
  | some e =>
    rw [hq] at ha hR
    dsimp only at hR ha
    subst hR
    refine .inr ⟨ha.ended, ha.fin, ha.val, by rw [ha.steps]; push_cast; rfl, rfl, ha.w, hi.ml, hi.len, by omega⟩

end Go.Proofs.Ytdlhlhbbhjbkpaa
