/-
  What a run owns in memory: what it has shown, the words, as rows of its own; and how they stay under stores elsewhere. No Go text in sight.
-/
import Derived.Test.YtdlhlhbbhjbkpaaCopy
namespace Go.Proofs.Ytdlhlhbbhjbkpaa
open Go.RowKit
set_option linter.unusedVariables false

/-! ### What was shown -/
def flatS : List Se → List Value
  | [] => []
  | s :: l => .int .i64 s.kind :: .int .i64 s.a :: .int .i64 s.b :: flatS l
theorem flatS_length : ∀ l : List Se, (flatS l).length = l.length * 3
  | [] => rfl
  | s :: l => by simp [flatS, flatS_length l]; omega
theorem flatS_append : ∀ l l' : List Se, flatS (l ++ l') = flatS l ++ flatS l'
  | [], _ => rfl
  | s :: l, l' => by simp [flatS, flatS_append l l']
theorem flatS_at : ∀ (l : List Se) (i : Nat) (s : Se), l[i]? = some s → (flatS l)[i * 3]? = some (.int .i64 s.kind) ∧ (flatS l)[i * 3 + 1]? = some (.int .i64 s.a) ∧ (flatS l)[i * 3 + 2]? = some (.int .i64 s.b)
  | [], i, s, h => by simp at h
  | x :: l, 0, s, h => by simp at h; subst h; simp [flatS]
  | x :: l, i + 1, s, h => by
    have := flatS_at l i s (by simpa using h)
    rw [show (i + 1) * 3 = i * 3 + 1 + 1 + 1 by omega, flatS]
    simpa using this

/-- What was shown, in a row of the run's own. -/
def SeenOwn (w : World) (base : Nat) (v : Value) (l : List Se) : Prop := w.ownsRow base 79 3 v l.length (flatS l)

theorem SeenOwn.at_ {w : World} {base : Nat} {v : Value} {l : List Se} (h : SeenOwn w base v l) (hb : l.length < 4611686018427387904) : SeenAt w v l := by
  by_cases h0 : l.length = 0
  · rcases h.2 with ⟨rfl, _⟩ | ⟨g, cap, cur, rfl, _⟩
    · have : l = [] := List.eq_nil_of_length_eq_zero h0
      subst this
      exact ⟨none, 0, 0, 0, rfl, fun h => absurd h (Nat.not_lt_zero _), fun i s h => by simp at h, by simp⟩
    · have : l = [] := List.eq_nil_of_length_eq_zero h0
      subst this
      exact ⟨_, 0, 0, cap, rfl, fun h => absurd h (Nat.not_lt_zero _), fun i s h => by simp at h, by simp⟩
  · obtain ⟨g, cap, rfl, _, _⟩ := World.ownsRow.form h (by omega)
    refine ⟨_, g, 0, cap, rfl, fun _ => rfl, fun i s hs => ?_, hb⟩
    have hi : i < l.length := (List.getElem?_eq_some_iff.1 hs).1
    obtain ⟨f0, f1, f2⟩ := flatS_at l i s hs
    simp only [Nat.zero_add]
    exact ⟨by rw [World.ownsRow.cellAt h _ (by omega)]; exact f0, by rw [World.ownsRow.cellAt h _ (by omega)]; exact f1, by rw [World.ownsRow.cellAt h _ (by omega)]; exact f2⟩

theorem SeenOwn.kept {w w' : World} {base : Nat} {v : Value} {l : List Se} (h : SeenOwn w base v l) {row : Option Nat} (hg : w.grownBy w' row) (hr : ∀ b, row = some b → b < base) : SeenOwn w' base v l := by
  refine World.ownsRow.kept h hg ?_
  cases hv : v.ownBlock with
  | none => left; rfl
  | some b =>
    right
    intro e
    have h1 := (World.ownsRow.lt h b hv).1
    have h2 := hr b e.symm
    omega

/-! ### The words -/
structure MemOwn (w : World) (lo hi : Nat) (m : Mem) (mv : Value) (mb mc : Nat) (G C : Nat → Nat) : Prop where
  val : 0 < m.ml → mv = .slice (some ⟨mb, 0, none⟩) m.ml mc ∧ lo ≤ mb ∧ mb < hi
  nil : m.ml = 0 → ∃ a c, mv = .slice a 0 c
  rows : ∀ j, j < m.ml → w.cell? ⟨mb, j, none⟩ = some (.slice (some ⟨G j, 0, none⟩) (m.len j) (C j))
  words : ∀ j, j < m.ml → ∀ i, i < m.len j → w.cell? ⟨G j, i, none⟩ = some (.int .i64 (m.wd j i)) ∧ w.frozen? ⟨G j, i, none⟩ = false
  at_ : ∀ j, j < m.ml → lo ≤ G j ∧ G j < hi ∧ G j ≠ mb
  apart : ∀ j j', j < m.ml → j' < m.ml → j ≠ j' → G j ≠ G j'

theorem CpAt.own_ {w : World} {base : Nat} {m : Mem} {v : Value} {G C : Nat → Nat} (c : CpAt w base m m.ml v G C) : ∃ mb mc, MemOwn w base w.heap.size m v mb mc G C := by
  by_cases h0 : m.ml = 0
  · have hv : ∃ a cap, v = .slice a 0 cap := by
      rcases c.own.2 with ⟨h, _⟩ | ⟨g, cap, cur, h, _⟩
      · exact ⟨_, _, h⟩
      · exact ⟨_, cap, by rw [h, h0]⟩
    exact ⟨0, 0, fun h => by omega, fun _ => hv, fun j hj => by omega, fun j hj => by omega, fun j hj => by omega, fun j j' hj => by omega⟩
  · obtain ⟨g, cap, rfl, hb, hl⟩ := World.ownsRow.form c.own (by omega)
    refine ⟨g, cap, fun _ => ⟨rfl, hb, hl⟩, fun h => absurd h h0, fun j hj => ?_, fun j hj i hi => ⟨?_, World.ownsRow.frozenAt (c.row j hj) i⟩, fun j hj => ⟨((c.row j hj).lt _ rfl).1, ((c.row j hj).lt _ rfl).2, fun e => c.apart j hj (by rw [e]; rfl)⟩, c.apart2⟩
    · rw [World.ownsRow.cellAt c.own j (by omega)]
      simp [hj]
    · rw [World.ownsRow.cellAt (c.row j hj) i (by omega)]
      exact wordsL_at m j i hi

theorem MemOwn.kept {w w' : World} {lo hi : Nat} {m : Mem} {mv : Value} {mb mc : Nat} {G C : Nat → Nat} (h : MemOwn w lo hi m mv mb mc G C) {row : Option Nat} (hg : w.grownBy w' row) (hr : ∀ b, row = some b → b < lo ∨ hi ≤ b) :
    MemOwn w' lo hi m mv mb mc G C := by
  refine ⟨h.val, h.nil, fun j hj => ?_, fun j hj i hi' => ?_, h.at_, h.apart⟩
  · exact hg.cell (h.rows j hj) (fun e => by have := hr mb e.symm; have := h.val (by omega); omega)
  · have hne : some (G j) ≠ row := fun e => by have := hr (G j) e.symm; have := h.at_ j hj; omega
    exact ⟨hg.cell (h.words j hj i hi').1 hne, (frozen_kept hg (h.words j hj i hi').1 hne).trans (h.words j hj i hi').2⟩

theorem MemOwn.set {w : World} {lo hi : Nat} {m : Mem} {mv : Value} {mb mc : Nat} {G C : Nat → Nat} (h : MemOwn w lo hi m mv mb mc G C) (c i : Nat) (hc : c < m.ml) (hi' : i < m.len c) (v : Int) :
    MemOwn (w.setCell ⟨G c, i, none⟩ (.int .i64 v)) lo hi (setW m c i v) mv mb mc G C := by
  refine ⟨h.val, h.nil, fun j hj => ?_, fun j hj x hx => ?_, h.at_, h.apart⟩
  · rw [World.cell?_setCell_other _ _ _ _ (by intro e; simp only [Addr.mk.injEq] at e; exact (h.at_ c hc).2.2 e.1)]
    exact h.rows j hj
  · have hw := h.words j hj x hx
    refine ⟨?_, by rw [World.frozen?_setCell]; exact hw.2⟩
    unfold setW
    dsimp only
    by_cases e : j = c ∧ x = i
    · obtain ⟨rfl, rfl⟩ := e
      rw [if_pos ⟨rfl, rfl⟩]
      exact World.cell?_setCell_same _ _ _ hw.1
    · rw [if_neg e, World.cell?_setCell_other]
      · exact hw.1
      · intro e'
        simp only [Addr.mk.injEq] at e'
        by_cases ej : j = c
        · exact e ⟨ej, by subst ej; exact e'.2.1.symm⟩
        · exact h.apart j c hj hc ej e'.1.symm

theorem MemOwn.in_ {w : World} {lo hi : Nat} {m : Mem} {mv : Value} {mb mc : Nat} {G C : Nat → Nat} (h : MemOwn w lo hi m mv mb mc G C) (f1 : m.ml < 4611686018427387904) (f2 : ∀ i, i < m.ml → m.len i < 4611686018427387904) :
    ∃ l : MLoc, mv = .slice l.ma m.ml l.mc ∧ MIn w m l := by
  by_cases h0 : m.ml = 0
  · obtain ⟨a, c, hv⟩ := h.nil h0
    refine ⟨⟨a, 0, 0, c, fun _ => none, fun _ => 0, fun _ => 0, fun _ => 0⟩, by rw [hv, h0], fun h => by omega, fun j hj => by omega, fun j hj => by omega, fun j hj => by omega, f1, f2⟩
  · refine ⟨⟨some ⟨mb, 0, none⟩, mb, 0, mc, fun j => some ⟨G j, 0, none⟩, C, G, fun _ => 0⟩, (h.val (by omega)).1, fun _ => rfl, fun j hj => ?_, fun j hj _ => rfl, fun j hj i hi => ?_, f1, f2⟩
    · simpa using h.rows j hj
    · simpa using (h.words j hj i hi).1

end Go.Proofs.Ytdlhlhbbhjbkpaa
