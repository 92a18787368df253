/-
  Runs with more and with less fuel, on plain data: who has more goes on as the other one began, and who has ended stays so. And what a memory that was handed in lies like.
-/
import Derived.Test.YtdlhlhbbhjbkpaaOpen
import Derived.Test.YtdlhlhbbhjbkpaaSem
namespace Go.Proofs.Ytdlhlhbbhjbkpaa
open Go.ChangeShapes Go.WideShapes Go.ChangeAt Go.RowKit Go.Deep Go.Joins
set_option linter.unusedVariables false
set_option maxRecDepth 8000

theorem step_end {p : Prg} {s : St} {e : Int × Int} (h : (stepI p s).2 = some e) : ¬ e.1 = 0 := by
  unfold stepI at h
  by_cases h7 : (p.ins s.at_).op = 7
  · rw [if_pos h7] at h; cases h
  rw [if_neg h7] at h
  by_cases h8 : (p.ins s.at_).op = 8
  · rw [if_pos h8] at h; cases h
  rw [if_neg h8] at h
  by_cases h9 : (p.ins s.at_).op = 9
  · rw [if_pos h9] at h
    have := (Option.some.inj h).symm
    subst this
    simp
  rw [if_neg h9] at h
  by_cases hp : 0 ≤ putI (p.ins s.at_)
  · rw [if_pos hp] at h
    by_cases hx : idxI s.r (p.ins s.at_) < 0 ∨ (s.m.len (p.ins s.at_).c.toNat : Int) ≤ idxI s.r (p.ins s.at_)
    · rw [if_pos hx] at h
      have := (Option.some.inj h).symm
      subst this
      decide
    rw [if_neg hx] at h
    by_cases h1 : putI (p.ins s.at_) = 1
    · rw [if_pos h1] at h; cases h
    · rw [if_neg h1] at h; cases h
  · rw [if_neg hp] at h; cases h

theorem step_seen (p : Prg) (s : St) : ∃ t, (stepI p s).1.seen = s.seen ++ t := by
  unfold stepI
  repeat' split
  all_goals first
    | exact ⟨_, rfl⟩
    | exact ⟨_, List.append_assoc _ _ _⟩

theorem run_begin (p : Prg) : ∀ (f k : Nat) (s : St), (k : Int) ≤ (runI p f k s).steps ∧ ∃ t, (runI p f k s).seen = s.seen ++ t
  | 0, k, s => ⟨Int.le_refl _, [], (List.append_nil _).symm⟩
  | f + 1, k, s => by
    obtain ⟨t, ht⟩ := step_seen p s
    rw [runI]
    by_cases h : p.cl ≤ s.at_
    · rw [if_pos h]; exact ⟨Int.le_refl _, [], (List.append_nil _).symm⟩
    rw [if_neg h]
    cases hq : (stepI p s).2 with
    | some e => exact ⟨by dsimp only; omega, t, ht⟩
    | none =>
      obtain ⟨h1, t', ht'⟩ := run_begin p f (k + 1) (stepI p s).1
      refine ⟨by dsimp only; omega, t ++ t', ?_⟩
      dsimp only
      rw [ht', ht, List.append_assoc]

/-- Who ended by its fuel has done all of it, and who has more goes on as it began. -/
theorem run_fuel (p : Prg) : ∀ (f g k : Nat) (s : St), f ≤ g → (runI p f k s).fin = 0 → (runI p f k s).steps = (k : Int) + f ∧ (k : Int) + f ≤ (runI p g k s).steps ∧ ∃ t, (runI p g k s).seen = (runI p f k s).seen ++ t
  | 0, g, k, s, _, _ => by
    obtain ⟨h1, t, ht⟩ := run_begin p g k s
    exact ⟨by simp [runI], by simpa using h1, t, ht⟩
  | f + 1, 0, k, s, h, _ => by omega
  | f + 1, g + 1, k, s, h, h0 => by
    rw [runI] at h0
    by_cases hc : p.cl ≤ s.at_
    · rw [if_pos hc] at h0; exact absurd h0 (by simp)
    rw [if_neg hc] at h0
    cases hq : (stepI p s).2 with
    | some e =>
      rw [hq] at h0
      exact absurd h0 (step_end hq)
    | none =>
      rw [hq] at h0
      have ih := run_fuel p f g (k + 1) (stepI p s).1 (by omega) h0
      have e1 : runI p (f + 1) k s = runI p f (k + 1) (stepI p s).1 := by rw [runI, if_neg hc, hq]
      have e2 : runI p (g + 1) k s = runI p g (k + 1) (stepI p s).1 := by rw [runI, if_neg hc, hq]
      rw [e1, e2]
      refine ⟨by rw [ih.1]; push_cast; omega, ?_, ih.2.2⟩
      have := ih.2.1
      push_cast at this ⊢
      omega

/-- Who has ended otherwise stays so. -/
theorem run_ended (p : Prg) : ∀ (f g k : Nat) (s : St), f ≤ g → ¬ (runI p f k s).fin = 0 → runI p g k s = runI p f k s
  | 0, g, k, s, _, h => absurd (by simp [runI]) h
  | f + 1, 0, k, s, h, _ => by omega
  | f + 1, g + 1, k, s, h, h0 => by
    by_cases hc : p.cl ≤ s.at_
    · rw [runI, if_pos hc, runI, if_pos hc]
    cases hq : (stepI p s).2 with
    | some e => rw [runI, if_neg hc, runI, if_neg hc, hq]
    | none =>
      have e1 : runI p (f + 1) k s = runI p f (k + 1) (stepI p s).1 := by rw [runI, if_neg hc, hq]
      have e2 : runI p (g + 1) k s = runI p g (k + 1) (stepI p s).1 := by rw [runI, if_neg hc, hq]
      rw [e1] at h0
      rw [e1, e2]
      exact run_ended p f g (k + 1) _ (by omega) h0

/-! ### A memory that was handed in -/
structure MRaw (w : World) (m : Mem) (l : MLoc) : Prop where
  hm : 0 < m.ml → l.ma = some ⟨l.mb, l.mo, none⟩
  lists : ListsAt w l.mb l.mo m.ml l.A m.len l.C
  hg : ∀ i, i < m.ml → 0 < m.len i → l.A i = some ⟨l.gb i, l.go i, none⟩
  words : ∀ i, i < m.ml → ∀ j, j < m.len i → w.cell? ⟨l.gb i, l.go i + j, none⟩ = some (.int .i64 (m.wd i j))
theorem MRaw.more {w w' : World} (m : More w w') {x : Mem} {l : MLoc} (h : MRaw w x l) : MRaw w' x l :=
  ⟨h.hm, h.lists.more m, h.hg, fun i hi j hj => m.cell (h.words i hi j hj)⟩
theorem MRaw.in_ {w : World} {m : Mem} {l : MLoc} (h : MRaw w m l) (h1 : m.ml ≤ 6) (h2 : ∀ i, i < m.ml → m.len i ≤ 64) : MIn w m l :=
  ⟨h.hm, h.lists, h.hg, h.words, by omega, fun i hi => by have := h2 i hi; omega⟩

theorem open_memw {H : Type} {enc : TypeId × Value → H} {W : World} {base : Nat} {held : Bool} {v : Value} {d : DataW H} {ps : List MemPlace} {r : Reach} {b0 : Nat}
    (hv : Value.okWide Try.prog W r b0 30 v) (h : DataW.Trod enc Try.prog W base (fun _ => true) held 30 v d ps) :
    ∃ (m : Mem) (l : MLoc), v = .slice l.ma m.ml l.mc ∧ MRaw W m l ∧ ∀ j, j < m.ml → ∀ i, i < m.len j → B64 (m.wd j i) := by
  obtain ⟨a0, len, cap, rfl⟩ := okWide_slice Try.underlying30 hv
  obtain ⟨fuel, hf⟩ := h
  rcases open_int_rows Try.underlying30 Try.underlying60 Try.underlying2 cells48 cells2 hf with ⟨hcs, _⟩ | ⟨a, len', cap', A, L, C, Z, hcs, _, hl, hm, _, hrow⟩
  · simp [Value.cells] at hcs
    obtain ⟨rfl, rfl, rfl⟩ := hcs
    exact ⟨⟨0, fun _ => 0, fun _ _ => 0⟩, ⟨none, 0, 0, 0, fun _ => none, fun _ => 0, fun _ => 0, fun _ => 0⟩, rfl, ⟨fun h => by simp at h, fun i hi => by simp at hi, fun i hi => by simp at hi, fun i hi => by simp at hi⟩, fun j hj => by simp at hj⟩
  · simp [Value.cells] at hcs
    obtain ⟨rfl, rfl, rfl⟩ := hcs
    have haddr : ∀ i, i < len → 0 < L i → ∃ a', A i = some a' ∧ a' = ⟨a'.block, a'.off, none⟩ := by
      intro i hi h0
      obtain ⟨_, h2, _, _, _, h6, h7⟩ := hrow i (by omega)
      cases hA : A i with
      | none => have := h6 hA; omega
      | some a' =>
        refine ⟨a', rfl, ?_⟩
        have := (h7 a' hA).2 0 (by omega)
        simp [Addr.add] at this
        exact plain_addr this
    refine ⟨⟨len, L, fun i j => (Z i).getD j 0⟩, ⟨some a, a.block, a.off, cap, A, C, fun i => ((A i).getD a).block, fun i => ((A i).getD a).off⟩, rfl, ⟨fun h0 => ?_, fun i hi => ?_, fun i hi h0 => ?_, fun i hi j hj => ?_⟩, fun j hj i hi => ?_⟩
    · dsimp only at h0 ⊢
      have h1 := (hrow 0 (by omega)).1
      simp [Addr.add] at h1
      rw [← plain_addr h1]
    · dsimp only at hi ⊢
      have h1 := (hrow 0 (by omega)).1
      simp [Addr.add] at h1
      have ha := plain_addr h1
      obtain ⟨b, o, s⟩ := a
      simp at ha
      subst ha
      have := (hrow i (by omega)).1
      rw [add_plain] at this
      exact this
    · dsimp only at hi h0 ⊢
      obtain ⟨a', e1, e2⟩ := haddr i hi h0
      rw [e1]
      simp only [Option.getD_some]
      rw [← e2]
    · dsimp only at hi hj ⊢
      obtain ⟨a', e1, e2⟩ := haddr i hi (by omega)
      have h2 := (hrow i (by omega)).2.1
      have := ((hrow i (by omega)).2.2.2.2.2.2 a' e1).2 j (by omega)
      rw [e1]
      simp only [Option.getD_some]
      rw [e2, add_plain] at this
      exact this
    · dsimp only at hj hi ⊢
      obtain ⟨_, h2, _, h4, h5, _, _⟩ := hrow j (by omega)
      have hlt : i < (Z j).length := by omega
      have : (Z j).getD i 0 ∈ Z j := by simp [List.getD, List.getElem?_eq_getElem hlt]
      exact bounds_i64 (h5 _ this)

end Go.Proofs.Ytdlhlhbbhjbkpaa
