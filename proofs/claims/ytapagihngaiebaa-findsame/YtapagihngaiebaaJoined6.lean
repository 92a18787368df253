/-
  The texts RRun2, RMeth, RWord, RStep, RStep2, RStepAll, RPlayAux, LastM, RTail, PlayAux, one behind the other, with what is used of them.
-/
import Derived.Test.YtapagihngaiebaaJoined5
import Derived.Test.YtapagihngaiebaaJoined0
import Derived.Deep.OwnRows
namespace Go.Proofs.Ytapagihngaiebaa
section
open Go.RowKit
set_option linter.unusedSimpArgs false
set_option linter.unusedVariables false
/-- Other labels. -/
theorem PlL.anew {w : World} {lo N K K' : Nat} {lab lab' : Nat → Nat} {q : Pl} {a : PV} (h : PlL w lo N K lab q a) (hN : N ≤ 384) (hl : ∀ b, InR K (lab b) → lab' b + K = lab b + K') : PlL w lo N K' lab' q a :=
  ⟨by have := hl a.rg (by rw [h.lr]; unfold InR; omega); rw [h.lr] at this; omega, h.regs, fun h0 => by have := hl a.wg (by rw [h.lw h0]; unfold InR; omega); rw [h.lw h0] at this; omega, h.wa, h.words, fun h0 => by have := hl a.pg (by rw [h.lp h0]; unfold InR; omega); rw [h.lp h0] at this; omega, h.pa, h.past, h.rows,
    fun j hj b hb => by have := hl b (by rw [h.lrow j hj b hb]; unfold InR; omega); rw [h.lrow j hj b hb] at this; omega, h.cap⟩
theorem PlL.labs2 {w : World} {lo N K : Nat} {lab lab' : Nat → Nat} {q : Pl} {a : PV} (h : PlL w lo N K lab q a) (hN : N ≤ 384) (hl : ∀ b, InR K (lab b) → lab' b = lab b) : PlL w lo N K lab' q a := h.anew hN (fun b hb => by rw [hl b hb])

section
variable {w w' : World} {G N : Nat} {y : Ys} {s : Sp} {mo : List (Nat × Obj)} {z : Zs}

/-- More was shown: the row has grown, and its place is stored. -/
theorem RS.shown (h : RS w G N y s mo z) (hN : N ≤ 384) (l : List Se) (sv' : Value) (own : SeenOwn w' (G + 1) sv' l) (gr : w.grownBy w' z.sv.ownBlock) (hat : ∀ b, sv'.ownBlock = some b → z.sv.ownBlock = some b ∨ w.heap.size ≤ b) :
    RS (w'.setCell ⟨G, 9, none⟩ sv') G N y { s with seen := l } mo { z with sv := sv', lab := fun c => if sv'.ownBlock = some c then 5000 else z.lab c } := by
  have hG := h.rest.lt
  have hl : ∀ c, z.lab c ≠ 0 → z.lab c ≠ 5000 → sv'.ownBlock ≠ some c := fun c h0 h5 e => by
    rcases hat c e with h1 | h1
    · exact h5 (h.rest.lseen c h1)
    · have := (h.rest.lab c h0).2; omega
  have hsb : ∀ b, z.sv.ownBlock = some b → G < b := fun b hb => (World.ownsRow.lt h.rest.seen b hb).1
  have hg2 := grown_set w' G 9 sv'
  have kp : ∀ K lo q a, K + 1000 ≤ 5000 → PlL w lo N K z.lab q a → PlL (w'.setCell ⟨G, 9, none⟩ sv') lo N K (fun c => if sv'.ownBlock = some c then 5000 else z.lab c) q a := fun K lo q a hK hp => by
    refine PlL.labs2 ((hp.kept hN gr (fun b hb => by rw [h.rest.lseen b hb]; unfold InR; omega)).kept hN hg2 (fun b hb => by rw [(h.rest.own b hb).1]; unfold InR; omega)) hN (fun b hb => ?_)
    rw [if_neg (hl b (by unfold InR at hb; omega) (by unfold InR at hb; omega))]
  have own2 : SeenOwn (w'.setCell ⟨G, 9, none⟩ sv') (G + 1) sv' l := own.kept hg2 (fun b hb => by have := Option.some.inj hb; omega)
  refine ⟨fun j hj => ?_, Nat.lt_of_lt_of_le hG (Nat.le_trans gr.size hg2.size), fun c hc => ?_, kp 0 _ _ _ (by omega) h.rest.cur, fun ha => ⟨kp 1000 _ _ _ (by omega) (h.rest.back ha).1, (h.rest.back ha).2⟩, own2, fun b hb => by dsimp only at hb ⊢; rw [if_pos hb], ?_, fun p hp => ?_⟩
  · have hc : gV N y { s with seen := l } { z with sv := sv', lab := fun c => if sv'.ownBlock = some c then 5000 else z.lab c } j = if j = 9 then sv' else gV N y s z j := by revert j; exact lt18 rfl rfl rfl rfl rfl rfl rfl rfl rfl rfl rfl rfl rfl rfl rfl rfl rfl rfl
    rw [hc]
    have h1 := (h.cells j hj).kept gr (fun e => by have := hsb G e.symm; omega)
    by_cases e : j = 9
    · subst e; rw [if_pos rfl]; exact h1.same _
    · rw [if_neg e]; exact h1.other _ _ _ (by omega)
  · dsimp only at hc
    split at hc
    · rename_i e
      have := World.ownsRow.lt own2 c e
      omega
    · have := h.rest.lab c hc
      exact ⟨this.1, Nat.lt_of_lt_of_le this.2 (Nat.le_trans gr.size hg2.size)⟩
  · exact (h.rest.sc.below (Below.grown (Below.refl _ _) gr (Nat.le_of_lt hG) (fun b hb => Nat.le_of_lt (hsb b hb)))).below (below_put (Below.refl _ _) _ _)
  · obtain ⟨h1, h2, h3⟩ := h.rest.box p hp
    have hne : sv'.ownBlock ≠ some p.1 := fun e => by
      rcases hat _ e with h4 | h4
      · have := h.rest.lseen _ h4; omega
      · have := heap_some_lt h3; omega
    refine ⟨h1, by dsimp only; rw [if_neg hne]; exact h2, ?_⟩
    rw [hg2.block p.1 (Nat.lt_of_lt_of_le (heap_some_lt h3) gr.size) (fun e => by have := Option.some.inj e; omega), gr.block p.1 (heap_some_lt h3) (fun e => by have := h.rest.lseen _ e.symm; omega)]
    exact h3

/-- A part of the place has changed, in its own blocks. -/
theorem RS.part (h : RS w G N y s mo z) (hN : N ≤ 384) {row : Option Nat} (hg : w.grownBy w' row) (hr : ∀ b, row = some b → InR 0 (z.lab b)) (pl' : Pl) (a' : PV) (lab' : Nat → Nat) (hl : ∀ c, z.lab c ≠ 0 → lab' c = z.lab c) (hn : ∀ c, lab' c ≠ 0 → z.lab c ≠ 0 ∨ (w.heap.size ≤ c ∧ c < w'.heap.size))
    (hp : PlL w' (G + 1) N 0 lab' pl' a') (e1 : a'.regs = z.a.regs) (e2 : a'.words N = z.a.words N) (e3 : a'.past N = z.a.past N) (e4 : pl'.at_ = s.pl.at_) : RS w' G N y { s with pl := pl' } mo { z with a := a', lab := lab' } := by
  have hG : ∀ b, row = some b → G < b := fun b hb => (h.rest.lab b (by have := hr b hb; unfold InR at this; omega)).1
  have hlt := h.rest.lt
  refine ⟨fun j hj => ?_, Nat.lt_of_lt_of_le h.rest.lt hg.size, fun c hc => ?_, hp, fun ha => ⟨PlL.labs ((h.rest.back ha).1.kept hN hg (fun b hb => by have := hr b hb; unfold InR at *; omega)) hl, (h.rest.back ha).2⟩, ?_, fun b hb => ?_, ?_, fun p hp => ?_⟩
  · have hc : gV N y { s with pl := pl' } { z with a := a', lab := lab' } j = gV N y s z j := by revert j; exact lt18 e1 e2 e3 (congrArg (fun n : Nat => Value.int .i64 (n : Int)) e4) rfl rfl rfl rfl rfl rfl rfl rfl rfl rfl rfl rfl rfl rfl
    rw [hc]
    exact (h.cells j hj).kept hg (fun e => by have := hG G e.symm; omega)
  · rcases hn c hc with h1 | h1
    · have := h.rest.lab c h1
      exact ⟨this.1, Nat.lt_of_lt_of_le this.2 hg.size⟩
    · exact ⟨by omega, h1.2⟩
  · refine World.ownsRow.kept h.rest.seen hg ?_
    cases hv : z.sv.ownBlock with
    | none => left; rfl
    | some b => right; intro e; have := h.rest.lseen b hv; have := hr b e.symm; unfold InR at this; omega
  · have := h.rest.lseen b hb
    dsimp only
    rw [hl b (by omega)]; exact this
  · exact h.rest.sc.below (Below.grown (Below.refl _ _) hg (Nat.le_of_lt hlt) (fun b hb => Nat.le_of_lt (hG b hb)))
  · obtain ⟨h1, h2, h3⟩ := h.rest.box p hp
    refine ⟨h1, ?_, by rw [hg.block p.1 (heap_some_lt h3) (fun e => by have := hr p.1 e.symm; unfold InR at this; omega)]; exact h3⟩
    dsimp only
    cases hc : lab' p.1 with
    | zero => rfl
    | succ n =>
      rcases hn p.1 (by rw [hc]; omega) with h4 | h4
      · exact absurd h2 h4
      · have := heap_some_lt h3; omega

/-- A register is set. -/
theorem RS.setReg (h : RS w G N y s mo z) (hN : N ≤ 384) (k v : Int) : RS (w.setCell ⟨z.a.rg, k.toNat, none⟩ (.int .i64 v)) G N y (s.reg k v) mo z :=
  h.part hN (grown_set w _ _ _) (fun b hb => by rw [← Option.some.inj hb, h.rest.cur.lr]; unfold InR; omega) _ z.a z.lab (fun _ _ => rfl) (fun c hc => .inl hc) (h.rest.cur.reg hN k v) rfl rfl rfl rfl
/-- A word is put. -/
theorem RS.setWord (h : RS w G N y s mo z) (hN : N ≤ 384) (n : Nat) (hn : n < N) (v : Int) : RS (w.setCell ⟨z.a.wg, n, none⟩ (.int .i64 v)) G N y { s with pl := { s.pl with wd := setF s.pl.wd n v } } mo z :=
  h.part hN (grown_set w _ _ _) (fun b hb => by rw [← Option.some.inj hb, h.rest.cur.lw (by omega)]; unfold InR; omega) _ z.a z.lab (fun _ _ => rfl) (fun c hc => .inl hc) (h.rest.cur.word hN n hn v) rfl rfl rfl rfl
/-- What a word was, is kept. -/
theorem RS.pushed (h : RS w G N y s mo z) (hN : N ≤ 384) (n : Nat) (hn : n < N) (x : Int) (v : Value) (hg : w.grownBy w' (z.a.P n).ownBlock) (own : w'.ownsRow (G + 1) 2 1 v ((s.pl.past n).length + 1) (ints (s.pl.past n) ++ [.int .i64 x]))
    (hat : ∀ b, v.ownBlock = some b → (z.a.P n).ownBlock = some b ∨ w.heap.size ≤ b) :
    ∃ z', RS (w'.setCell ⟨z.a.pg, n, none⟩ v) G N y { s with pl := { s.pl with past := setF s.pl.past n (s.pl.past n ++ [x]) } } mo z' ∧ z'.a.rg = z.a.rg ∧ z'.a.wg = z.a.wg := by
  have lrow := h.rest.cur.lrow n hn
  have hg2 := grown_set w' z.a.pg n v
  have lp := h.rest.cur.lp (by omega)
  have hpg := h.rest.lab z.a.pg (by rw [lp]; omega)
  have hl : ∀ c, z.lab c ≠ 0 → (if v.ownBlock = some c then 10 + n else z.lab c) = z.lab c := fun c hc => by
    split
    · rename_i e
      rcases hat c e with h1 | h1
      · have := lrow c h1; omega
      · have := (h.rest.lab c hc).2; omega
    · rfl
  have hp := h.rest.cur.push hN n hn x v hg own (lab' := fun c => if v.ownBlock = some c then 10 + n else z.lab c) hl (fun b hb => by rw [if_pos hb]; try omega)
  have hn' : ∀ c, (if v.ownBlock = some c then 10 + n else z.lab c) ≠ 0 → z.lab c ≠ 0 ∨ (w.heap.size ≤ c ∧ c < (w'.setCell ⟨z.a.pg, n, none⟩ v).heap.size) := fun c hc => by
    split at hc
    · rename_i e
      rcases hat c e with h1 | h1
      · left; have := lrow c h1; omega
      · right; refine ⟨h1, Nat.lt_of_lt_of_le (World.ownsRow.lt own c e).2 hg2.size⟩
    · exact .inl hc
  refine ⟨{ z with a := { z.a with P := setF z.a.P n v }, lab := fun c => if v.ownBlock = some c then 10 + n else z.lab c }, ?_, rfl, rfl⟩
  have gg : ∀ b, b < w.heap.size → some b ≠ (z.a.P n).ownBlock → b ≠ z.a.pg → (w'.setCell ⟨z.a.pg, n, none⟩ v).heap[b]? = w.heap[b]? := fun b hb h1 h2 => by
    rw [hg2.block b (Nat.lt_of_lt_of_le hb hg.size) (fun e => h2 (Option.some.inj e)), hg.block b hb h1]
  have hrb : ∀ b, (z.a.P n).ownBlock = some b → G < b := fun b hb => (h.rest.lab b (by rw [lrow b hb]; omega)).1
  have kp : ∀ lo q a, PlL w lo N 1000 z.lab q a → PlL (w'.setCell ⟨z.a.pg, n, none⟩ v) lo N 1000 (fun c => if v.ownBlock = some c then 10 + n else z.lab c) q a := fun lo q a hp =>
    PlL.labs ((hp.kept hN hg (fun b hb => by rw [lrow b hb]; unfold InR; omega)).kept hN hg2 (fun b hb => by rw [← Option.some.inj hb, lp]; unfold InR; omega)) hl
  refine ⟨fun j hj => ?_, Nat.lt_of_lt_of_le h.rest.lt (Nat.le_trans hg.size hg2.size), fun c hc => ?_, hp, fun ha => ⟨kp _ _ _ (h.rest.back ha).1, (h.rest.back ha).2⟩, ?_, fun b hb => ?_, ?_, fun p hp => ?_⟩
  · have hc : ∀ j, j < 18 → gV N y { s with pl := { s.pl with past := setF s.pl.past n (s.pl.past n ++ [x]) } } { z with a := { z.a with P := setF z.a.P n v }, lab := fun c => if v.ownBlock = some c then 10 + n else z.lab c } j = gV N y s z j := by exact lt18 rfl rfl rfl rfl rfl rfl rfl rfl rfl rfl rfl rfl rfl rfl rfl rfl rfl rfl
    rw [hc j hj]
    exact ((h.cells j hj).kept hg (fun e => by have := hrb G e.symm; omega)).kept hg2 (fun e => by have := Option.some.inj e; omega)
  · rcases hn' c hc with h1 | h1
    · have := h.rest.lab c h1
      exact ⟨this.1, Nat.lt_of_lt_of_le this.2 (Nat.le_trans hg.size hg2.size)⟩
    · have := h.rest.lt
      exact ⟨by omega, h1.2⟩
  · refine World.ownsRow.kept (World.ownsRow.kept h.rest.seen hg ?_) hg2 ?_
    · cases hv : z.sv.ownBlock with
      | none => left; rfl
      | some b => right; intro e; have := h.rest.lseen b hv; have := lrow b e.symm; omega
    · cases hv : z.sv.ownBlock with
      | none => left; rfl
      | some b => right; intro e; have := h.rest.lseen b hv; rw [Option.some.inj e] at this; omega
  · have := h.rest.lseen b hb
    dsimp only
    rw [hl b (by omega)]; exact this
  · exact (h.rest.sc.below (Below.grown (Below.refl _ _) hg (Nat.le_of_lt h.rest.lt) (fun b hb => Nat.le_of_lt (hrb b hb)))).below (Below.grown (Below.refl _ _) hg2 (Nat.le_trans (Nat.le_of_lt h.rest.lt) hg.size) (fun b hb => by have := Option.some.inj hb; omega))
  · obtain ⟨h1, h2, h3⟩ := h.rest.box p hp
    refine ⟨h1, ?_, ?_⟩
    · dsimp only
      rw [if_neg (fun e => ?_)]
      · exact h2
      · rcases hat _ e with h4 | h4
        · have := lrow _ h4; omega
        · have := heap_some_lt h3; omega
    · rw [gg p.1 (heap_some_lt h3) (fun e => by have := lrow _ e.symm; omega) (fun e => by rw [e] at h2; omega)]
      exact h3

/-- Where the run is, is left: the copy lies in new blocks, and is stored. -/
theorem RS.left {w1 w2 : World} (h : RS w G N y s mo z) (hN : N ≤ 384) (ha : s.ahead = false) (h1 : w1 = (w.setCell ⟨G, 12, none⟩ (.bool true)).setCell ⟨G, 13, none⟩ (.int .i64 (-1))) (m : More w1 w2) (lab' : Nat → Nat) (a' : PV) (hl : ∀ c, lab' c ≠ 0 → w1.heap.size ≤ c ∧ c < w2.heap.size) (hp : PlL w2 w1.heap.size N 1000 lab' s.pl a') :
    ∃ z', RS ((((w2.setCell ⟨G, 14, none⟩ a'.regs).setCell ⟨G, 15, none⟩ (a'.words N)).setCell ⟨G, 16, none⟩ (a'.past N)).setCell ⟨G, 17, none⟩ (.int .i64 s.pl.at_)) G N y s.leave mo z' := by
  subst h1
  have e : s.leave = { s with ahead := true, since := -1, back := s.pl } := by unfold Sp.leave; rw [if_neg (by rw [ha]; decide)]
  rw [e]
  have hs0 : ((w.setCell ⟨G, 12, none⟩ (.bool true)).setCell ⟨G, 13, none⟩ (.int .i64 (-1))).heap.size = w.heap.size := by simp
  rw [hs0] at hl hp
  have hG := h.rest.lt
  have own0 := h.rest.own
  have r1 := (h.rest.kept hN (grown_set w G 12 (.bool true)) own0).kept hN (grown_set _ G 13 (.int .i64 (-1))) own0
  have r2 := r1.kept hN (m.grow none) (fun b hb => by cases hb)
  have g4 := gr_set (gr_set (gr_set (gr_set (grown_refl w2 (some G)) 14 a'.regs) 15 (a'.words N)) 16 (a'.past N)) 17 (.int .i64 s.pl.at_)
  have r3 := r2.kept hN g4 own0
  have hlG : lab' G = 0 := by
    cases hc : lab' G with
    | zero => rfl
    | succ n => have := (hl G (by rw [hc]; omega)).1; omega
  have p3 := hp.kept hN g4 (fun b hb => by rw [← Option.some.inj hb, hlG]; unfold InR; omega)
  have hz : ∀ c, z.lab c ≠ 0 → c < w.heap.size := fun c hc => (h.rest.lab c hc).2
  refine ⟨{ z with b0 := a'.regs, b1 := a'.words N, b2 := a'.past N, b3 := .int .i64 s.pl.at_, b := a', lab := fun c => if c < w.heap.size then z.lab c else lab' c }, fun j hj => ?_, r3.lt, fun c hc => ?_, ?_, fun _ => ⟨?_, rfl, rfl, rfl, rfl⟩, r3.seen, fun b hb => ?_, r3.sc, fun p hp => ?_⟩
  · have hk : ∀ j v, Wr w G j v → j ≠ 12 → j ≠ 13 → j < 14 → Wr ((((w2.setCell ⟨G, 14, none⟩ a'.regs).setCell ⟨G, 15, none⟩ (a'.words N)).setCell ⟨G, 16, none⟩ (a'.past N)).setCell ⟨G, 17, none⟩ (.int .i64 s.pl.at_)) G j v := fun j v hv n1 n2 n3 =>
      ((((((hv.other _ _ _ (by omega)).other _ _ _ (by omega)).kept (m.grow none) (by simp)).other _ _ _ (by omega)).other _ _ _ (by omega)).other _ _ _ (by omega)).other _ _ _ (by omega)
    have hb : ∀ j v, Wr w G j v → 14 ≤ j → Wr w2 G j v := fun j v hv n => (((hv.other _ _ _ (by omega)).other _ _ _ (by omega)).kept (m.grow none) (by simp))
    revert j
    refine lt18 ?_ ?_ ?_ ?_ ?_ ?_ ?_ ?_ ?_ ?_ ?_ ?_ ?_ ?_ ?_ ?_ ?_ ?_
    · exact hk 0 _ (h.cells 0 (by omega)) (by omega) (by omega) (by omega)
    · exact hk 1 _ (h.cells 1 (by omega)) (by omega) (by omega) (by omega)
    · exact hk 2 _ (h.cells 2 (by omega)) (by omega) (by omega) (by omega)
    · exact hk 3 _ (h.cells 3 (by omega)) (by omega) (by omega) (by omega)
    · exact hk 4 _ (h.cells 4 (by omega)) (by omega) (by omega) (by omega)
    · exact hk 5 _ (h.cells 5 (by omega)) (by omega) (by omega) (by omega)
    · exact hk 6 _ (h.cells 6 (by omega)) (by omega) (by omega) (by omega)
    · exact hk 7 _ (h.cells 7 (by omega)) (by omega) (by omega) (by omega)
    · exact hk 8 _ (h.cells 8 (by omega)) (by omega) (by omega) (by omega)
    · exact hk 9 _ (h.cells 9 (by omega)) (by omega) (by omega) (by omega)
    · exact hk 10 _ (h.cells 10 (by omega)) (by omega) (by omega) (by omega)
    · exact hk 11 _ (h.cells 11 (by omega)) (by omega) (by omega) (by omega)
    · exact (((((((h.cells 12 (by omega)).same _).other _ _ _ (by omega)).kept (m.grow none) (by simp)).other _ _ _ (by omega)).other _ _ _ (by omega)).other _ _ _ (by omega)).other _ _ _ (by omega)
    · exact (((((((h.cells 13 (by omega)).other _ _ _ (by omega)).same _).kept (m.grow none) (by simp)).other _ _ _ (by omega)).other _ _ _ (by omega)).other _ _ _ (by omega)).other _ _ _ (by omega)
    · exact ((((hb 14 _ (h.cells 14 (by omega)) (by omega)).same _).other _ _ _ (by omega)).other _ _ _ (by omega)).other _ _ _ (by omega)
    · exact ((((hb 15 _ (h.cells 15 (by omega)) (by omega)).other _ _ _ (by omega)).same _).other _ _ _ (by omega)).other _ _ _ (by omega)
    · exact ((((hb 16 _ (h.cells 16 (by omega)) (by omega)).other _ _ _ (by omega)).other _ _ _ (by omega)).same _).other _ _ _ (by omega)
    · exact ((((hb 17 _ (h.cells 17 (by omega)) (by omega)).other _ _ _ (by omega)).other _ _ _ (by omega)).other _ _ _ (by omega)).same _
  · dsimp only at hc
    split at hc
    · exact r3.lab c hc
    · have := hl c hc
      have h4 := g4.size
      exact ⟨by omega, by omega⟩
  · exact PlL.labs r3.cur (fun c hc => by dsimp only; rw [if_pos (hz c hc)])
  · exact PlL.base (PlL.labs p3 (fun c hc => by dsimp only; rw [if_neg (by have := (hl c hc).1; omega)])) (by omega)
  · have := h.rest.lseen b hb
    dsimp only
    rw [if_pos (hz b (by omega))]; exact this
  · have h3 := r3.box p hp
    refine ⟨h3.1, ?_, h3.2.2⟩
    dsimp only
    rw [if_pos (heap_some_lt (h.rest.box p hp).2.2)]
    exact h3.2.1

/-- The place to come back to is the place. -/
theorem RS.come (h : RS w G N y s mo z) (hN : N ≤ 384) (ha : s.ahead = true) :
    ∃ z', RS (((((w.setCell ⟨G, 12, none⟩ (.bool false)).setCell ⟨G, 0, none⟩ z.b0).setCell ⟨G, 1, none⟩ z.b1).setCell ⟨G, 2, none⟩ z.b2).setCell ⟨G, 3, none⟩ z.b3) G N y { s with ahead := false, pl := s.back } mo z' := by
  have own0 := h.rest.own
  obtain ⟨hb, e0, e1, e2, e3⟩ := h.rest.back ha
  have g5 := gr_set (gr_set (gr_set (gr_set (gr_set (grown_refl w (some G)) 12 (.bool false)) 0 z.b0) 1 z.b1) 2 z.b2) 3 z.b3
  have r := h.rest.kept hN g5 own0
  have hb' := (r.back ha).1
  refine ⟨{ z with a := z.b, lab := fun c => if z.lab c < 1000 then 0 else if z.lab c < 2000 then z.lab c - 1000 else z.lab c }, fun j hj => ?_, r.lt, fun c hc => r.lab c (fun e => hc (by dsimp only; rw [e]; rfl)), PlL.anew hb' hN (fun b hb => ?_), fun h => absurd h (by simp), r.seen, fun b hb => ?_, r.sc, fun p hp => ⟨(r.box p hp).1, by dsimp only; rw [(r.box p hp).2.1]; rfl, (r.box p hp).2.2⟩⟩
  · have hk : ∀ j v, Wr w G j v → j ≠ 12 → 4 ≤ j → Wr (((((w.setCell ⟨G, 12, none⟩ (.bool false)).setCell ⟨G, 0, none⟩ z.b0).setCell ⟨G, 1, none⟩ z.b1).setCell ⟨G, 2, none⟩ z.b2).setCell ⟨G, 3, none⟩ z.b3) G j v := fun j v hv n1 n2 =>
      ((((hv.other _ _ _ (by omega)).other _ _ _ (by omega)).other _ _ _ (by omega)).other _ _ _ (by omega)).other _ _ _ (by omega)
    revert j
    refine lt18 ?_ ?_ ?_ ?_ ?_ ?_ ?_ ?_ ?_ ?_ ?_ ?_ ?_ ?_ ?_ ?_ ?_ ?_
    · have := (((((h.cells 0 (by omega)).other G 12 (.bool false) (by omega)).same z.b0).other G 1 z.b1 (by omega)).other G 2 z.b2 (by omega)).other G 3 z.b3 (by omega)
      exact (congrArg _ e0).mp this
    · have := (((((h.cells 1 (by omega)).other G 12 (.bool false) (by omega)).other G 0 z.b0 (by omega)).same z.b1).other G 2 z.b2 (by omega)).other G 3 z.b3 (by omega)
      exact (congrArg _ e1).mp this
    · have := (((((h.cells 2 (by omega)).other G 12 (.bool false) (by omega)).other G 0 z.b0 (by omega)).other G 1 z.b1 (by omega)).same z.b2).other G 3 z.b3 (by omega)
      exact (congrArg _ e2).mp this
    · have := (((((h.cells 3 (by omega)).other G 12 (.bool false) (by omega)).other G 0 z.b0 (by omega)).other G 1 z.b1 (by omega)).other G 2 z.b2 (by omega)).same z.b3
      exact (congrArg _ e3).mp this
    · exact hk 4 _ (h.cells 4 (by omega)) (by omega) (by omega)
    · exact hk 5 _ (h.cells 5 (by omega)) (by omega) (by omega)
    · exact hk 6 _ (h.cells 6 (by omega)) (by omega) (by omega)
    · exact hk 7 _ (h.cells 7 (by omega)) (by omega) (by omega)
    · exact hk 8 _ (h.cells 8 (by omega)) (by omega) (by omega)
    · exact hk 9 _ (h.cells 9 (by omega)) (by omega) (by omega)
    · exact hk 10 _ (h.cells 10 (by omega)) (by omega) (by omega)
    · exact hk 11 _ (h.cells 11 (by omega)) (by omega) (by omega)
    · exact (((((h.cells 12 (by omega)).same (.bool false)).other G 0 z.b0 (by omega)).other G 1 z.b1 (by omega)).other G 2 z.b2 (by omega)).other G 3 z.b3 (by omega)
    · exact hk 13 _ (h.cells 13 (by omega)) (by omega) (by omega)
    · exact hk 14 _ (h.cells 14 (by omega)) (by omega) (by omega)
    · exact hk 15 _ (h.cells 15 (by omega)) (by omega) (by omega)
    · exact hk 16 _ (h.cells 16 (by omega)) (by omega) (by omega)
    · exact hk 17 _ (h.cells 17 (by omega)) (by omega) (by omega)
  · unfold InR at hb
    dsimp only
    rw [if_neg (by omega), if_pos (by omega)]
    omega
  · have := h.rest.lseen b hb
    dsimp only
    rw [this]; rfl
end
end
section
open Go.RowKit
set_option linter.unusedSimpArgs false
set_option linter.unusedVariables false
set_option maxRecDepth 8000
set_option maxHeartbeats 400000 in
theorem r4_see (w : World) (G N : Nat) (y : Ys) (s : Sp) (mo : List (Nat × Obj)) (k a b : Int) (hl : s.seen.length ≤ 200000) (h : R4 w G N y s mo) :
    Calls Try.prog 19 #[.pointer (some ⟨G, 0, none⟩), .int .i64 k, .int .i64 a, .int .i64 b] w fun e w' => e = .returned (.tuple #[]) ∧ R4 w' G N y (s.see ⟨k, a, b⟩) mo ∧ Below G w w' := by
  obtain ⟨hN, z, hz⟩ := h.out
  have ho := hz.rest.seen
  obtain ⟨sa, sc, hsv⟩ := own_form ho
  obtain ⟨c9, f9⟩ := hz.cells 9 (by omega)
  replace c9 : w.cell? ⟨G, 9, none⟩ = some (.slice sa s.seen.length sc) := by rw [← hsv]; exact c9
  obtain ⟨i2, hi2, hz0, hz1, hz2⟩ := info_parts info79
  have Hi : Hid (Try.prog.info? 45 = some i2 ∧ i2.zero = some (.agg #[.int .i64 0, .int .i64 0, .int .i64 0]) ∧ i2.size = 3 ∧ i2.bytes = 24) := ⟨hi2, hz0, hz1, hz2⟩
  have H : Hid (RS w G N y s mo z ∧ z.sv = .slice sa s.seen.length sc ∧ s.seen.length ≤ 200000 ∧ G < w.heap.size ∧ N ≤ 384) := ⟨hz, hsv, hl, hz.rest.lt, hN⟩
  have Hrow : Hid (∀ b, (Value.slice sa s.seen.length sc).ownBlock = some b → G < b) := fun b hb => (World.ownsRow.lt ho b (by rw [hsv]; exact hb)).1
  have Hown : Hid (SeenOwn (w.alloc (.cells #[.int .i64 k, .int .i64 a, .int .i64 b] 45)) (G + 1) (.slice sa s.seen.length sc) s.seen) := by rw [← hsv]; exact ho.kept (World.grownBy_alloc w _ none) (fun b hb => by cases hb)
  have Hc : Hid (Wr w G 9 (.slice sa s.seen.length sc)) := ⟨c9, f9⟩
  clear hi2 hz0 hz1 hz2 ho hz h hl hsv f9
  obtain ⟨se, hse⟩ : ∃ se, s.seen = se := ⟨_, rfl⟩
  rw [hse] at H Hrow Hown c9 Hc
  go_enter Try.func19, Try.ntmps19
  go_wp2_with (at_builtin; refine wpList_append_lies _ rfl (.tmp 13) (.tmp 18) 32 rfl (G + 1) 45 i2 (.agg #[.int .i64 0, .int .i64 0, .int .i64 0]) 3 24 Try.underlying32 Hi.out.1 Hi.out.2.1 Hi.out.2.2.1 Hi.out.2.2.2 rfl (by decide) (.slice sa se.length sc) se.length (flatS se) rfl Hown.out ⟨w.heap.size, 0, none⟩ 1 1 [.int .i64 k, .int .i64 a, .int .i64 b] rfl rfl (by simpa using cell_three_new' w (.int .i64 k) (.int .i64 a) (.int .i64 b) 45) (fun x hx => by simp at hx; rcases hx with rfl | rfl | rfl <;> rfl) (by decide) (by have := H.out.2.2.1; unfold maxLen; omega) (by have := H.out.2.2.1; omega) (by have := H.out.2.2.2.1; simp; omega) (w.heap.size + 1) (by simp) ?_; intro g_ cap w2 own2 gr2 hat2 hlt2; obtain ⟨t5c, t5f⟩ := (Hc.out.kept (World.grownBy_alloc w (.cells #[.int .i64 k, .int .i64 a, .int .i64 b] 45) none) (by simp)).kept gr2 (fun e => by have := Hrow.out G e.symm; omega))
  go_end0
  obtain ⟨hz, hsv, hl, hlt, hN⟩ := H.out
  have h1 := hz.kept hN (World.grownBy_alloc w (.cells #[.int .i64 k, .int .i64 a, .int .i64 b] 45) none) (fun b hb => by cases hb)
  have h2 := h1.shown (w' := w2) hN (se ++ [⟨k, a, b⟩]) (.slice (some ⟨g_, 0, none⟩) (se.length + 1) cap) (by unfold SeenOwn; rw [flatS_append, List.length_append]; exact own2) (by rw [hsv]; exact gr2) (fun b hb => by
    have hb' : g_ = b := by simpa [Value.ownBlock] using hb
    subst hb'
    rw [hsv]
    rcases hat2 with h | h
    · exact .inl h
    · right; simp; omega)
  have e : s.see ⟨k, a, b⟩ = { s with seen := se ++ [⟨k, a, b⟩] } := by unfold Sp.see; rw [hse]
  rw [e]
  exact ⟨rfl, ⟨hN, _, h2⟩, below_put (Below.grown (below_alloc (Below.refl _ _) (Nat.le_of_lt hlt) _) gr2 (by simp; omega) (fun b hb => Nat.le_of_lt (Hrow.out b hb))) _ _⟩

theorem r4_choice (w : World) (G N : Nat) (y : Ys) (s : Sp) (mo : List (Nat × Obj)) (h : R4 w G N y s mo) :
    Calls Try.prog 44 #[.pointer (some ⟨G, 0, none⟩)] w fun e w' => e = .returned (.int .i64 s.choice) ∧ R4 w' G N y { s with script := s.script.tail } mo ∧ Below G w w' := by
  obtain ⟨hN, z, hz⟩ := h.out
  obtain ⟨sa, cap, hsc, hcap, hl⟩ := hz.rest.sc.out
  obtain ⟨c11, f11⟩ := hz.cells 11 (by omega)
  replace c11 : w.cell? ⟨G, 11, none⟩ = some (.slice sa s.script.length cap) := by rw [← hsc]; exact c11
  have H : Hid (RS w G N y s mo z ∧ N ≤ 384) := ⟨hz, hN⟩
  unfold Sp.choice
  obtain ⟨pl, ahead, since, back, L, seen⟩ := s
  dsimp only at c11 hcap hl hsc ⊢
  cases L with
  | nil =>
    clear hz hl h hsc
    go_enter Try.func44, Try.ntmps44
    go_wp2
    go_ret
    exact ⟨rfl, ⟨H.out.2, z, H.out.1⟩, Below.refl _ _⟩
  | cons c L =>
    obtain ⟨sb, so, rfl, hsb, hcell⟩ := hl (by simp)
    have c0 := hcell 0 c (by simp)
    rw [Nat.add_zero] at c0
    have Hc : Hid (sb < G ∧ ∀ j c', (c :: L)[j]? = some c' → w.cell? ⟨sb, so + j, none⟩ = some (.int .i64 c')) := ⟨hsb, hcell⟩
    have hne : ¬ sb = G := by omega
    have hn1 : (1 : Int) ≤ ((c :: L).length : Int) := by simp; omega
    have hn2 : ((c :: L).length : Int) ≤ (cap : Int) := by omega
    obtain ⟨n, hn⟩ : ∃ n, (c :: L).length = n := ⟨_, rfl⟩
    have Hn : Hid ((c :: L).length = n) := hn
    rw [hn] at c11 hn1 hn2 hcap
    have hn0 : ¬ (n : Int) = 0 := by omega
    have hn3 : ¬ n = 0 := by omega
    have hz' : ((n : Int) == 0) = false := by simp; omega
    have hcap1 : 1 ≤ cap := by omega
    clear hz h hl hcell hn hsc
    by_cases e1 : cap = 1
    · subst e1
      go_enter Try.func44, Try.ntmps44
      go_wp2
      go_ret
      have hL : L = [] := by have := Hn.out; simp at this; cases L with | nil => rfl | cons a l => simp at this; omega
      subst hL
      exact ⟨rfl, ⟨H.out.2, _, H.out.1.setSc H.out.2 _ [] ⟨_, _, rfl, Nat.zero_le _, fun h => absurd rfl h⟩⟩, below_put (Below.refl _ _) _ _⟩
    · go_enter Try.func44, Try.ntmps44
      go_wp2
      go_ret
      have hL : n - 1 = L.length := by have := Hn.out; simp at this; omega
      refine ⟨rfl, ⟨H.out.2, _, H.out.1.setSc H.out.2 _ L ⟨some ⟨sb, so + 1, none⟩, cap - 1, by rw [← hL], by omega, fun h => ⟨sb, so + 1, rfl, Hc.out.1, fun j c' hc => ?_⟩⟩⟩, below_put (Below.refl _ _) _ _⟩
      rw [show so + 1 + j = so + (j + 1) by omega]
      exact Hc.out.2 (j + 1) c' (by simpa using hc)

set_option maxHeartbeats 400000 in
theorem r4_leave (w : World) (G N : Nat) (y : Ys) (s : Sp) (mo : List (Nat × Obj)) (hp : ∀ j, j < N → (s.pl.past j).length ≤ 100000) (h : R4 w G N y s mo) :
    Calls Try.prog 45 #[.pointer (some ⟨G, 0, none⟩)] w fun e w' => e = .returned (.tuple #[]) ∧ R4 w' G N y s.leave mo ∧ Below G w w' := by
  obtain ⟨hN, z, hz⟩ := h.out
  cases ha : s.ahead with
  | true =>
    have c12 := (hz.cells 12 (by omega)).1
    replace c12 : w.cell? ⟨G, 12, none⟩ = some (.bool true) := by rw [← ha]; exact c12
    have H : Hid (R4 w G N y s mo ∧ s.ahead = true) := ⟨h, ha⟩
    clear h hz hp ha
    go_enter Try.func45, Try.ntmps45
    go_wp2
    go_end0
    refine ⟨rfl, ?_, Below.refl _ _⟩
    unfold Sp.leave
    rw [if_pos H.out.2]
    exact H.out.1
  | false =>
    obtain ⟨c12, f12⟩ := hz.cells 12 (by omega)
    replace c12 : w.cell? ⟨G, 12, none⟩ = some (.bool false) := by rw [← ha]; exact c12
    obtain ⟨c13, f13⟩ := hz.cells 13 (by omega)
    obtain ⟨c0, _⟩ := hz.cells 0 (by omega)
    obtain ⟨c1, _⟩ := hz.cells 1 (by omega)
    obtain ⟨c2, _⟩ := hz.cells 2 (by omega)
    obtain ⟨c3, _⟩ := hz.cells 3 (by omega)
    dsimp only [gV] at c13 c0 c1 c2 c3
    obtain ⟨w1, hw1⟩ : ∃ w1, (w.setCell ⟨G, 12, none⟩ (.bool true)).setCell ⟨G, 13, none⟩ (.int .i64 (-1)) = w1 := ⟨_, rfl⟩
    have own0 := hz.rest.own
    have r1 := (hz.rest.kept hN (grown_set w G 12 (.bool true)) own0).kept hN (grown_set _ G 13 (.int .i64 (-1))) own0
    rw [hw1] at r1
    have HC := hid_of' (ref4_copy w1 _ N 0 z.lab s.pl z.a r1.cur hN hp 1000)
    have K14 : ∀ j, 14 ≤ j → j < 18 → ∃ v, Wr w1 G j v := fun j h1 h2 => ⟨_, by rw [← hw1]; exact ((hz.cells j h2).other _ _ _ (by omega)).other _ _ _ (by omega)⟩
    have H : Hid (RS w G N y s mo z ∧ N ≤ 384 ∧ s.ahead = false ∧ G < w.heap.size) := ⟨hz, hN, ha, hz.rest.lt⟩
    have HK := hid_of' K14
    have Hw1 := hid_of' hw1
    dsimp only [PV.regs, PV.words, PV.past] at HC c0 c1 c2
    clear h hz hp ha r1 own0 K14 hw1
    go_enter Try.func45, Try.ntmps45
    go_wp2_with (fail)
    rw [Hw1.out]
    refine HC.out.mono ?_
    rintro e w2 ⟨a', lab', rfl, m2, hl2, hp2⟩
    obtain ⟨v14, k14⟩ := HK.out 14 (by omega) (by omega)
    obtain ⟨v15, k15⟩ := HK.out 15 (by omega) (by omega)
    obtain ⟨v16, k16⟩ := HK.out 16 (by omega) (by omega)
    obtain ⟨v17, k17⟩ := HK.out 17 (by omega) (by omega)
    obtain ⟨q14, p14⟩ := k14.kept (m2.grow none) (by simp)
    obtain ⟨q15, p15⟩ := k15.kept (m2.grow none) (by simp)
    obtain ⟨q16, p16⟩ := k16.kept (m2.grow none) (by simp)
    obtain ⟨q17, p17⟩ := k17.kept (m2.grow none) (by simp)
    have H2 := hid_of' (And.intro m2 (And.intro hl2 hp2))
    clear k14 k15 k16 k17 m2 hl2 hp2 HC
    obtain ⟨rg, rc, wg, wa, wc, pg, pa, pc, P⟩ := a'
    dsimp only
    go_wp2
    go_end0
    obtain ⟨hz, hN, ha, hlt⟩ := H.out
    obtain ⟨m2, hl2, hp2⟩ := H2.out
    obtain ⟨z', hz'⟩ := hz.left hN ha Hw1.out.symm m2 lab' _ hl2 hp2
    refine ⟨rfl, ⟨hN, z', hz'⟩, ?_⟩
    refine below_put (below_put (below_put (below_put (below_more ?_ ?_ m2) _ _) _ _) _ _) _ _
    · rw [← Hw1.out]; exact below_put (below_put (Below.refl _ _) _ _) _ _
    · rw [← Hw1.out]; simp; omega

set_option maxHeartbeats 400000 in
theorem r4_returns (w : World) (G N : Nat) (y : Ys) (s : Sp) (mo : List (Nat × Obj)) (hl : s.seen.length ≤ 200000) (ha : s.ahead = true) (h : R4 w G N y s mo) :
    Calls Try.prog 18 #[.pointer (some ⟨G, 0, none⟩)] w fun e w' => e = .returned (.tuple #[]) ∧ R4 w' G N y s.returns mo ∧ Below G w w' := by
  have HS := hid_of' (r4_see w G N y s mo 4 0 0 hl h)
  have Ha := hid_of' ha
  clear h hl ha
  go_enter Try.func18, Try.ntmps18
  go_wp2_with (fail)
  refine HS.out.mono ?_
  rintro e w2 ⟨rfl, r2, b2⟩
  obtain ⟨hN, z, hz⟩ := r2.out
  obtain ⟨c12, f12⟩ := hz.cells 12 (by omega)
  obtain ⟨c0, f0⟩ := hz.cells 0 (by omega)
  obtain ⟨c1, f1⟩ := hz.cells 1 (by omega)
  obtain ⟨c2, f2⟩ := hz.cells 2 (by omega)
  obtain ⟨c3, f3⟩ := hz.cells 3 (by omega)
  obtain ⟨c14, _⟩ := hz.cells 14 (by omega)
  obtain ⟨c15, _⟩ := hz.cells 15 (by omega)
  obtain ⟨c16, _⟩ := hz.cells 16 (by omega)
  obtain ⟨c17, _⟩ := hz.cells 17 (by omega)
  obtain ⟨_, e0, e1, e2, e3⟩ := hz.rest.back Ha.out
  dsimp only [gV, PV.regs, PV.words, PV.past] at c12 c0 c1 c2 c3 c14 c15 c16 c17 e0 e1 e2 e3
  rw [e0] at c14
  rw [e1] at c15
  rw [e2] at c16
  rw [e3] at c17
  have H2 := hid_of' (And.intro hz (And.intro hN (And.intro b2 (And.intro e0 (And.intro e1 (And.intro e2 e3))))))
  clear r2 b2 hz hN HS e0 e1 e2 e3
  go_wp2
  go_end0
  obtain ⟨hz, hN, b2, e0, e1, e2, e3⟩ := H2.out
  obtain ⟨z', hz'⟩ := hz.come hN Ha.out
  rw [e0, e1, e2, e3] at hz'
  refine ⟨rfl, ⟨hN, z', hz'⟩, ?_⟩
  exact below_put (below_put (below_put (below_put (below_put b2 _ _) _ _) _ _) _ _) _ _
/-- The program beneath a run: its regions lie below. -/
structure RP (w : World) (G N : Nat) (p : Prg) (l : Loc) (y : Ys) : Prop where
  rv : y.rv = .slice l.ra p.rl l.rc
  cv : y.cv = .slice l.ca p.cl l.cc
  hra : 0 < p.rl → l.ra = some ⟨l.rb, l.ro, none⟩
  regs : RegsAt w l.rb l.ro p.rl p.log p.sec
  lt : 0 < p.rl → l.rb < G
  ok : RegionsOk p.rl p.log
  n : (N : Int) = allI p
theorem RP.below {w w' : World} {G N : Nat} {p : Prg} {l : Loc} {y : Ys} (h : RP w G N p l y) (b : Below G w w') : RP w' G N p l y :=
  ⟨h.rv, h.cv, h.hra, fun i hi => ⟨by rw [Below.cell b (by dsimp only; exact h.lt (by omega))]; exact (h.regs i hi).1, by rw [Below.cell b (by dsimp only; exact h.lt (by omega))]; exact (h.regs i hi).2⟩, h.lt, h.ok, h.n⟩
theorem s_more (W : World) : ∃ S : World → Prop, Hid (∀ w', S w' ↔ More W w') := ⟨_, fun _ => Iff.rfl⟩
theorem s_cell {W : World} {S : World → Prop} (HS : Hid (∀ w', S w' ↔ More W w')) {ad : Addr} {v : Value} (h : W.cell? ad = some v) : ∀ i : { w' // S w' }, i.val.cell? ad = some v := fun i => ((HS.out _).1 i.property).cell h
theorem s_ne {W : World} {S : World → Prop} (HS : Hid (∀ w', S w' ↔ More W w')) : Nonempty { w' // S w' } := ⟨⟨W, (HS.out _).2 (More.refl _)⟩⟩
theorem s_drew {W : World} {S : World → Prop} (HS : Hid (∀ w', S w' ↔ More W w')) : S W.drew := (HS.out _).2 (More.refl _).drew
/-- What a word comes to. -/
def WordPost (p : Prg) (s : Sp) (i : Ins) (w' : World) (G N : Nat) (y : Ys) (mo : List (Nat × Obj)) : Prop :=
  if s.ahead = false ∧ (idxI s.pl.r i < 0 ∨ wordsI (p.log i.c.toNat) ≤ idxI s.pl.r i) then R4 w' G N { y with e := 2 } s mo
  else R4 w' G N y (wordS p ((s.see ⟨2, numS p s i, putI i⟩).go (s.pl.at_ + 1)) i (numS p s i)) mo

set_option maxHeartbeats 2000000 in
theorem r4_word (p : Prg) (l : Loc) (i : Ins) (w : World) (G N : Nat) (y : Ys) (s : Sp) (mo : List (Nat × Obj)) (h : R4 w G N y s mo) (hp : RP w G N p l y) (hl : s.seen.length ≤ 200000) (hpast : ∀ j, j < N → (s.pl.past j).length ≤ 99999) (hat : s.pl.at_ ≤ 100000)
    (a0 : 0 ≤ i.a) (a1 : i.a < 10) (b0 : 0 ≤ i.b) (b1 : i.b < 10) (c0 : 0 ≤ i.c) (c1 : i.c < (p.rl : Int)) (hput : putI i = 0 ∨ putI i = 1) :
    Calls Try.prog 46 #[.pointer (some ⟨G, 0, none⟩), .agg #[.int .i64 i.op, .int .i64 i.a, .int .i64 i.b, .int .i64 i.c, .int .i64 i.n], .int .i64 (putI i)] w fun e w' => e = .returned (.tuple #[]) ∧ Below G w w' ∧ WordPost p s i w' G N y mo := by
  suffices H0 : ∀ P : Ending → World → Prop, (∀ e w', (e = .returned (.tuple #[]) ∧ Below G w w' ∧ WordPost p s i w' G N y mo) → P e w') → Calls Try.prog 46 #[.pointer (some ⟨G, 0, none⟩), .agg #[.int .i64 i.op, .int .i64 i.a, .int .i64 i.b, .int .i64 i.c, .int .i64 i.n], .int .i64 (putI i)] w P from H0 _ (fun _ _ h => h)
  intro P hP
  have HP := hid_of' hP
  have hG := h.lt
  obtain ⟨ra, rb, ro, rc, ca, cb, co, cc⟩ := l
  have hpos : 0 < p.rl := by omega
  obtain rfl : ra = some ⟨rb, ro, none⟩ := hp.hra hpos
  have hrb : rb < G := hp.lt hpos
  obtain ⟨c, hc⟩ : ∃ c : Nat, i.c = c := ⟨i.c.toNat, by omega⟩
  have hcr : c < p.rl := by omega
  obtain ⟨op, a, b, c_, n_⟩ := i
  dsimp only at a0 a1 b0 b1 c0 c1 hc hput ⊢
  subst hc
  have Hp := hid_of' (And.intro hp (And.intro hcr (And.intro hl (And.intro hpast hat))))
  have h1 := h.beside (.cells #[.int .i64 op, .int .i64 a, .int .i64 b, .int .i64 (c : Int), .int .i64 n_] 75)
  have H1 := hid_of' h1
  obtain ⟨g, gc, w0, hr, hGg⟩ := h.regs
  have d0 := w0.1
  have HI := hid_of' (ref_index ⟨op, a, b, c, n_⟩ g (gc := gc) s.pl.r ((w.alloc (.cells #[.int .i64 op, .int .i64 a, .int .i64 b, .int .i64 (c : Int), .int .i64 n_] 75)).drew) (hr.alloc _ _).drew b0 b1)
  obtain ⟨ix, hix⟩ : ∃ x, idxI s.pl.r ⟨op, a, b, c, n_⟩ = x := ⟨_, rfl⟩
  dsimp only at HI
  rw [hix] at HI
  have Hix := hid_of' hix
  obtain ⟨pu, hpu⟩ : ∃ x, putI ⟨op, a, b, c, n_⟩ = x := ⟨_, rfl⟩
  rw [hpu] at hput ⊢
  have Hpu := hid_of' (And.intro hpu hput)
  have H := hid_of' h
  obtain ⟨W, hW⟩ : ∃ W, w.alloc (.cells #[.int .i64 op, .int .i64 a, .int .i64 b, .int .i64 (c : Int), .int .i64 n_] 75) = W := ⟨_, rfl⟩
  rw [hW] at H1 HI
  have bx : W.heap[w.heap.size]? = some (.cells #[.int .i64 op, .int .i64 a, .int .i64 b, .int .i64 (c : Int), .int .i64 n_] 75) := H1.out.left (List.mem_cons_self)
  have bW : Below G w W := by rw [← hW]; exact below_alloc (Below.refl _ _) (Nat.le_of_lt hG) _
  have mW : More w W := by rw [← hW]; exact (More.refl _).alloc _ _
  have HW := hid_of' (And.intro hW (And.intro bW (And.intro bx mW)))
  obtain ⟨S, HS⟩ := s_more W
  have j0 := s_cell HS (mW.cell d0)
  have k0 := s_cell HS (cell_of_box bx 0 (.int .i64 op) (by simp))
  have k1 := s_cell HS (cell_of_box bx 1 (.int .i64 a) (by simp))
  have k2 := s_cell HS (cell_of_box bx 2 (.int .i64 b) (by simp))
  have k3 := s_cell HS (cell_of_box bx 3 (.int .i64 (c : Int)) (by simp))
  have k4 := s_cell HS (cell_of_box bx 4 (.int .i64 n_) (by simp))
  have hne := s_ne HS
  have hS := s_drew HS
  clear h hp hl hpast hat h1 w0 hr hix hpu hP hput hW bx bW mW d0
  go_enter Try.func46, Try.ntmps46
  go_wp2_with (fail)
  rw [HW.out.1]
  refine wp_region_ord (S := S) [(0, true), (1, true), (2, true), (3, true), (4, true), (5, true), (6, false), (7, true)] (by kernel_rfl) (by kernel_rfl) (by kernel_rfl) hS ?_
  iterate 6 (refine wpOrd_take rfl (by kernel_rfl) (fun K hK => ?_); go_simp; refine hK _ _ ?_; clear hK K)
  refine wpOrd_busy rfl (by kernel_rfl) (fun K hK => ?_); go_simp
  refine HI.out.mono ?_
  rintro e w2 ⟨rfl, m2⟩
  go_simp
  refine hK _ _ ((HS.out _).2 ((More.refl _).drew.trans m2)) ?_; clear hK K
  refine wpOrd_take rfl (by kernel_rfl) (fun K hK => ?_); go_simp; refine hK _ _ ?_; clear hK K
  refine wpOrd_done ?_
  have H2 := hid_of' (And.intro (H1.out.drew.more m2) (below_more (below_drew HW.out.2.1) (Nat.le_of_lt H1.out.lt) m2))
  clear j0 k0 k1 k2 k3 k4 hne hS HS m2 S HI
  obtain ⟨S, HS⟩ := s_more w2
  have bx := H2.out.1.left (List.mem_cons_self)
  have k3 := s_cell HS (cell_of_box bx 3 (.int .i64 (c : Int)) (by simp))
  have j4 := s_cell HS (v := .slice (some ⟨rb, ro, none⟩) p.rl rc) (ad := ⟨G, 4, none⟩) (by rw [← Hp.out.1.rv]; exact H2.out.1.rv.1)
  have rr := (Hp.out.1.below H2.out.2).regs c hcr
  dsimp only at rr
  have Hlog : Hid (0 ≤ p.log c ∧ p.log c ≤ 6) := Hp.out.1.ok.2 c hcr
  obtain ⟨lc, hlc⟩ : ∃ x, p.log c = x := ⟨_, rfl⟩
  obtain ⟨sc, hsc⟩ : ∃ x, p.sec c = x := ⟨_, rfl⟩
  rw [hlc, hsc] at rr
  rw [hlc] at Hlog
  have Hlc := hid_of' hlc
  have r0 := s_cell HS rr.1
  have r1 := s_cell HS rr.2
  have hne := s_ne HS
  have hS := s_drew HS
  have HX := hid_of' (ref_words lc Hlog.out.1 Hlog.out.2 sc w2.drew)
  obtain ⟨nw, hnw⟩ : ∃ x, wordsI lc = x := ⟨_, rfl⟩
  rw [hnw] at HX
  have Hnw : Hid (wordsI (p.log c) = nw) := by rw [Hlc.out]; exact hnw
  clear bx rr hlc hsc hnw
  go_wp2_with (fail)
  refine wp_region_ord (S := S) [(0, true), (1, true), (2, true), (3, true), (4, true), (5, true), (6, true), (7, true), (8, true), (9, false), (10, true)] (by kernel_rfl) (by kernel_rfl) (by kernel_rfl) hS ?_
  iterate 9 (refine wpOrd_take rfl (by kernel_rfl) (fun K hK => ?_); go_simp; refine hK _ _ ?_; clear hK K)
  refine wpOrd_busy rfl (by kernel_rfl) (fun K hK => ?_); go_simp
  refine HX.out.mono ?_
  rintro e w3 ⟨rfl, m3⟩
  go_simp
  refine hK _ _ ((HS.out _).2 ((More.refl _).drew.trans m3)) ?_; clear hK K
  refine wpOrd_take rfl (by kernel_rfl) (fun K hK => ?_); go_simp; refine hK _ _ ?_; clear hK K
  refine wpOrd_done ?_
  have H3 := hid_of' (And.intro (H2.out.1.drew.more m3) (below_more (below_drew H2.out.2) (Nat.le_of_lt H2.out.1.lt) m3))
  clear k3 j4 r0 r1 hne hS HS m3 S HX H2
  have c12 := H3.out.1.ahead.1
  by_cases hf : s.ahead = false ∧ (ix < 0 ∨ nw ≤ ix)
  · rw [hf.1] at c12
    obtain ⟨c6, f6⟩ := H3.out.1.e
    have Hf := hid_of' hf
    have HE := hid_of' (H3.out.1.setE 2)
    have hend : ∀ e w', e = Ending.returned (.tuple #[]) → w' = w3.setCell ⟨G, 6, none⟩ (.int .i64 2) → P e w' := fun e w' he hw' => by
      subst he hw'
      refine HP.out _ _ ⟨rfl, below_put H3.out.2 _ _, ?_⟩
      unfold WordPost
      rw [if_pos (by dsimp only; rw [Hix.out, Int.toNat_natCast, Hnw.out]; exact Hf.out)]
      exact HE.out.fewer mo (fun q hq => List.mem_cons_of_mem _ hq)
    have Hend := hid_of' hend
    clear hend HE
    by_cases hx : ix < 0
    · go_wp2
      refine bodyPost_ret (results_none (by kernel_rfl) _ _ _) rfl ?_
      exact Hend.out _ _ rfl rfl
    · have hx2 : nw ≤ ix := by omega
      go_wp2
      refine bodyPost_ret (results_none (by kernel_rfl) _ _ _) rfl ?_
      exact Hend.out _ _ rfl rfl
  have Hf : Hid (¬ (s.ahead = false ∧ (idxI s.pl.r ⟨op, a, b, c, n_⟩ < 0 ∨ wordsI (p.log c) ≤ idxI s.pl.r ⟨op, a, b, c, n_⟩))) := by rw [Hix.out, Hnw.out]; exact hf
  have hx : s.ahead = true ∨ (s.ahead = false ∧ ¬ ix < 0 ∧ ¬ nw ≤ ix) := by
    cases ha : s.ahead with
    | true => exact .inl rfl
    | false => right; refine ⟨rfl, ?_, ?_⟩ <;> (intro h; exact hf ⟨ha, by omega⟩)
  obtain ⟨S, HS⟩ := s_more w3
  have bx := H3.out.1.left (List.mem_cons_self)
  have k3 := s_cell HS (cell_of_box bx 3 (.int .i64 (c : Int)) (by simp))
  have j4 := s_cell HS (v := .slice (some ⟨rb, ro, none⟩) p.rl rc) (ad := ⟨G, 4, none⟩) (by rw [← Hp.out.1.rv]; exact H3.out.1.rv.1)
  have j5 := s_cell HS (v := .slice ca p.cl cc) (ad := ⟨G, 5, none⟩) (by rw [← Hp.out.1.cv]; exact H3.out.1.cv.1)
  have hne := s_ne HS
  have hS := s_drew HS
  have HX := hid_of' (ref_base (some ⟨rb, ro, none⟩) p.rl rc ca p.cl cc c rb ro p.log p.sec w3.drew (by omega) (by omega) (fun _ => rfl) ((Hp.out.1.below H3.out.2).regs.more (More.refl _).drew) Hp.out.1.ok)
  rw [Int.toNat_natCast] at HX
  obtain ⟨bs, hbs⟩ : ∃ x, baseI p.log c = x := ⟨_, rfl⟩
  rw [hbs] at HX
  have Hbs := hid_of' hbs
  clear bx hbs hf
  have Hwd : Hid (∀ w', Below G w w' → R4 w' G N y (wordS p ((s.see ⟨2, wrap64 (bs + ix), pu⟩).go (s.pl.at_ + 1)) ⟨op, a, b, c, n_⟩ (wrap64 (bs + ix))) ((w.heap.size, .cells #[.int .i64 op, .int .i64 a, .int .i64 b, .int .i64 (c : Int), .int .i64 n_] 75) :: mo) → P (.returned (.tuple #[])) w') := fun w' hb hr => by
    refine HP.out _ _ ⟨rfl, hb, ?_⟩
    unfold WordPost
    rw [if_neg (by dsimp only; rw [Int.toNat_natCast]; exact Hf.out)]
    have e : numS p s ⟨op, a, b, c, n_⟩ = wrap64 (bs + ix) := by unfold numS; dsimp only; rw [Hix.out, Int.toNat_natCast, Hbs.out]
    rw [e, Hpu.out.1]
    exact hr.fewer mo (fun q hq => List.mem_cons_of_mem _ hq)
  clear HP
  rcases hx with hx | ⟨hx, hx1, hx2⟩
  all_goals (rw [hx] at c12; clear hx; go_wp2_with (fail))
  all_goals
    refine wp_region_ord (S := S) [(0, true), (1, true), (2, true), (3, true), (4, true), (5, true), (6, false), (7, true)] (by kernel_rfl) (by kernel_rfl) (by kernel_rfl) hS ?_
    iterate 6 (refine wpOrd_take rfl (by kernel_rfl) (fun K hK => ?_); go_simp; refine hK _ _ ?_; clear hK K)
    refine wpOrd_busy rfl (by kernel_rfl) (fun K hK => ?_); go_simp
    refine HX.out.mono ?_
    rintro e w4 ⟨rfl, m4⟩
    go_simp
    refine hK _ _ ((HS.out _).2 ((More.refl _).drew.trans m4)) ?_; clear hK K
    refine wpOrd_take rfl (by kernel_rfl) (fun K hK => ?_); go_simp; refine hK _ _ ?_; clear hK K
    refine wpOrd_done ?_
    have H4 := hid_of' (And.intro (H3.out.1.drew.more m4) (below_more (below_drew H3.out.2) (Nat.le_of_lt H3.out.1.lt) m4))
    clear k3 j4 j5 hne hS HS m4 S HX H3 c12
    have hwr := wrapEq
    obtain ⟨nm, hnm⟩ : ∃ x, wrap64 (bs + ix) = x := ⟨_, rfl⟩
    rw [hnm] at Hwd
    have HV := hid_of' (r4_see w4 G N y s _ 2 nm pu Hp.out.2.2.1 H4.out.1)
    go_wp2_with (fail)
    refine HV.out.mono ?_
    rintro e w5 ⟨rfl, r5, b5⟩
    obtain ⟨hN, ⟨sv, sc', q0, q1, q2, q3, ⟨rg, rgc, wg, wa, wc, pg, pa, pc, PP⟩, bb, lab⟩, hz⟩ := r5.out
    have c3 := (hz.cells 3 (by omega)).1
    have f3 := (hz.cells 3 (by omega)).2
    have e0 := (hz.cells 0 (by omega)).1
    have e1 := (hz.cells 1 (by omega)).1
    have e2 := (hz.cells 2 (by omega)).1
    dsimp only [gV, PV.words, PV.regs, PV.past] at c3 e0 e1 e2
    replace c3 : w5.cell? ⟨G, 3, none⟩ = some (.int .i64 (s.pl.at_ : Int)) := c3
    have bx5 := (hz.rest.box _ List.mem_cons_self)
    have x1 := cell_of_box bx5.2.2 1 (.int .i64 a) (by simp)
    dsimp only at x1 bx5
    have ya := hz.rest.cur.regs a.toNat (by omega)
    obtain ⟨ya, yf⟩ := ya
    dsimp only at ya yf
    have hlr := hz.rest.cur.lr
    dsimp only at hlr
    have n1 : ¬ rg = G := by have := (hz.rest.lab rg (by dsimp only; omega)).1; omega
    have n2 : ¬ rg = w.heap.size := fun e => by have := bx5.2.1; rw [← e] at this; omega
    have n3 : ¬ w.heap.size = G := by omega
    have n1' : ¬ G = rg := fun e => n1 e.symm
    have n2' : ¬ w.heap.size = rg := fun e => n2 e.symm
    have n3' : ¬ G = w.heap.size := by omega
    have hz6 := hz.setAt hN (s.pl.at_ + 1) ((s.pl.at_ : Int) + 1) (by push_cast; rfl)
    have Hz := hid_of' (And.intro hz6 (And.intro hN (below_put (Below.trans H4.out.2 b5) 3 (.int .i64 ((s.pl.at_ : Int) + 1)))))
    have hat : wrap64 ((s.pl.at_ : Int) + 1) = (s.pl.at_ : Int) + 1 := by have := Hp.out.2.2.2.2; unfold wrap64; omega
    obtain ⟨at_, hat_⟩ : ∃ x : Int, (s.pl.at_ : Int) = x := ⟨_, rfl⟩
    rw [hat_] at c3 hat Hz
    have Hall : Hid ((N : Int) = allI p) := Hp.out.1.n
    have Hw5 := hid_of' hz
    obtain ⟨ra_, hra_⟩ : ∃ x, s.pl.r a.toNat = x := ⟨_, rfl⟩
    replace ya : w5.cell? ⟨rg, a.toNat, none⟩ = some (.int .i64 (s.pl.r a.toNat)) := ya
    rw [hra_] at ya
    have Hra := hid_of' hra_
    clear r5 b5 hz hz6 hnm hat_ HV H4 bx5 hlr hra_
    by_cases hn : nm < 0 ∨ (N : Int) ≤ nm
    · have Hw : Hid (∀ s' : Sp, wordS p s' ⟨op, a, b, c, n_⟩ nm = if pu = 0 then s'.reg a 0 else s') := fun s' => by unfold wordS; rw [if_pos (by rw [← Hall.out]; exact hn), Hpu.out.1]
      rw [Hw.out] at Hwd
      rcases Hpu.out.2 with hp0 | hp1
      · subst hp0
        rw [if_pos rfl] at Hwd
        have Hend : Hid (∀ w', (w5.setCell ⟨G, 3, none⟩ (.int .i64 (at_ + 1))).drew.setCell ⟨rg, a.toNat, none⟩ (.int .i64 0) = w' → P (.returned (.tuple #[])) w') := fun w' hw' => by
          obtain ⟨h6, hN, hb⟩ := Hz.out
          have h7 := (h6.kept hN (grown_drew _ none) (fun b hb => by cases hb)).setReg hN a 0
          subst hw'
          refine Hwd.out _ (Below.setCell (below_drew hb) ?_ _) ⟨hN, _, h7⟩
          have := (h6.rest.lab rg (fun e => by have := h6.rest.cur.lr; dsimp only at this e; omega)).1
          dsimp only
          omega
        obtain ⟨S, HS⟩ := s_more (w5.setCell ⟨G, 3, none⟩ (.int .i64 (at_ + 1)))
        have j0 := s_cell HS (ad := ⟨G, 0, none⟩) (v := .slice (some ⟨rg, 0, none⟩) 10 rgc) (by rw [World.cell?_setCell_other _ _ _ _ (by simp)]; exact e0)
        have k1 := s_cell HS (ad := ⟨w.heap.size, 1, none⟩) (v := .int .i64 a) (by rw [World.cell?_setCell_other _ _ _ _ (by simp [n3'])]; exact x1)
        have hne := s_ne HS
        have hS := s_drew HS
        rcases hn with hn | hn
        · go_wp2_with (fail)
          refine wp_region_last (S := S) [(0, true), (1, true), (2, true), (3, true), (4, true), (5, true), (6, true), (7, true), (8, false)] (by kernel_rfl) (by kernel_rfl) (by kernel_rfl) hS ?_
          iterate 8 (refine wpOrdZ_take rfl (by kernel_rfl) (fun K hK => ?_); go_simp; refine hK _ _ ?_; clear hK K)
          refine wpOrdZ_last rfl (by kernel_rfl) (by kernel_rfl) (fun K hK => ?_)
          go_simp
          refine hK _ _ ?_
          clear hK K j0 k1 hne hS
          refine NoPanic.normal ?_
          go_wp2
          refine bodyPost_ret (results_none (by kernel_rfl) _ _ _) rfl ?_
          exact Hend.out _ rfl
        · have hn' : ¬ nm < 0 := by omega
          go_wp2_with (fail)
          refine wp_region_last (S := S) [(0, true), (1, true), (2, true), (3, true), (4, true), (5, true), (6, true), (7, true), (8, false)] (by kernel_rfl) (by kernel_rfl) (by kernel_rfl) hS ?_
          iterate 8 (refine wpOrdZ_take rfl (by kernel_rfl) (fun K hK => ?_); go_simp; refine hK _ _ ?_; clear hK K)
          refine wpOrdZ_last rfl (by kernel_rfl) (by kernel_rfl) (fun K hK => ?_)
          go_simp
          refine hK _ _ ?_
          clear hK K j0 k1 hne hS
          refine NoPanic.normal ?_
          go_wp2
          refine bodyPost_ret (results_none (by kernel_rfl) _ _ _) rfl ?_
          exact Hend.out _ rfl
      · subst hp1
        rw [if_neg (by decide)] at Hwd
        rcases hn with hn | hn
        · go_wp2
          refine bodyPost_ret (results_none (by kernel_rfl) _ _ _) rfl ?_
          exact Hwd.out _ Hz.out.2.2 ⟨Hz.out.2.1, _, Hz.out.1⟩
        · have hn' : ¬ nm < 0 := by omega
          go_wp2
          refine bodyPost_ret (results_none (by kernel_rfl) _ _ _) rfl ?_
          exact Hwd.out _ Hz.out.2.2 ⟨Hz.out.2.1, _, Hz.out.1⟩
    · obtain ⟨q, rfl⟩ : ∃ q : Nat, nm = q := ⟨nm.toNat, by omega⟩
      have hq : q < N := by omega
      have hq0 : (0 : Int) ≤ (q : Int) := by omega
      have hq1 : (q : Int) < (N : Int) := by omega
      have hq2 : ¬ (q : Int) < 0 := by omega
      have hq3 : ¬ (N : Int) ≤ (q : Int) := by omega
      have Hin : Hid (¬ ((q : Int) < 0 ∨ allI p ≤ (q : Int))) := fun h => by rw [← Hall.out] at h; omega
      obtain ⟨W6, hW6⟩ : ∃ W6, w5.setCell ⟨G, 3, none⟩ (.int .i64 (at_ + 1)) = W6 := ⟨_, rfl⟩
      rw [hW6] at Hz
      have HW6 := hid_of' hW6
      have Hq := hid_of' hq
      clear hW6
      rcases Hpu.out.2 with hp0 | hp1
      · subst hp0
        have Hw : Hid (∀ s' : Sp, wordS p s' ⟨op, a, b, c, n_⟩ (q : Int) = if 0 < s'.choice ∧ s'.choice ≤ ((s'.pl.past q).length : Int) then (({ s' with script := s'.script.tail }.reg a (s'.pl.wd q)).leave).reg a ((s'.pl.past q).getD ((s'.pl.past q).length - s'.choice.toNat) 0) else { s' with script := s'.script.tail }.reg a (s'.pl.wd q)) := fun s' => by unfold wordS; rw [if_neg Hin.out, Hpu.out.1, if_neg (by decide), Int.toNat_natCast]
        rw [Hw.out] at Hwd
        obtain ⟨s6, hs6⟩ : ∃ s6, (s.see ⟨2, (q : Int), 0⟩).go (s.pl.at_ + 1) = s6 := ⟨_, rfl⟩
        have Hpl : Hid (∀ j, j < N → (s6.pl.past j).length ≤ 99999) := by rw [← hs6]; exact Hp.out.2.2.2.1
        have Hr6 : Hid (s6.pl.r = s.pl.r) := by rw [← hs6]; rfl
        rw [hs6] at Hwd Hz
        have HC := hid_of' (r4_choice W6 G N y s6 _ ⟨Hz.out.2.1, _, Hz.out.1⟩)
        obtain ⟨ch, hch⟩ : ∃ x, s6.choice = x := ⟨_, rfl⟩
        rw [hch] at HC Hwd
        have Hb6 : Hid (Below G w W6 ∧ N ≤ 384) := ⟨Hz.out.2.2, Hz.out.2.1⟩
        clear hs6 hch
        go_wp2_with (fail)
        rw [HW6.out]
        refine HC.out.mono ?_
        rintro e w7 ⟨rfl, r7, b7⟩
        clear c3 f3 e0 e1 e2 x1 ya yf n1 n2 n1' n2' Hz Hw5 HC
        obtain ⟨_, ⟨zsv, zsc, z0, z1, z2, z3, ⟨zrg, zrc, zwg, zwa, zwc, zpg, zpa, zpc, zP⟩, zb, zlab⟩, h7⟩ := r7.out
        have hwa := h7.rest.cur.wa (by omega)
        have hpa := h7.rest.cur.pa (by omega)
        dsimp only at hwa hpa
        subst hwa hpa
        obtain ⟨S, HS⟩ := s_more w7
        have j0 := s_cell HS (ad := ⟨G, 0, none⟩) (v := .slice (some ⟨zrg, 0, none⟩) 10 zrc) (h7.cells 0 (by omega)).1
        have j1 := s_cell HS (ad := ⟨G, 1, none⟩) (v := .slice (some ⟨zwg, 0, none⟩) N zwc) (h7.cells 1 (by omega)).1
        have bx7 := h7.rest.box _ List.mem_cons_self
        have k1 := s_cell HS (cell_of_box bx7.2.2 1 (.int .i64 a) (by simp))
        obtain ⟨wq, hwq⟩ : ∃ x, s6.pl.wd q = x := ⟨_, rfl⟩
        have y1 := s_cell HS (ad := ⟨zwg, q, none⟩) (v := .int .i64 wq) (by rw [← hwq]; exact (h7.rest.cur.words q hq).1)
        have ya := (h7.rest.cur.regs a.toNat (by omega)).1
        have yf := (h7.rest.cur.regs a.toNat (by omega)).2
        dsimp only at ya yf k1
        have hne := s_ne HS
        have hS := s_drew HS
        have H7 := hid_of' (And.intro h7 (Below.trans Hb6.out.1 b7))
        have Hwq := hid_of' hwq
        clear h7 b7 r7 bx7 hwq
        go_wp2_with (fail)
        refine wp_region_last (S := S) [(0, true), (1, true), (2, true), (3, true), (4, true), (5, true), (6, true), (7, true), (8, true), (9, true), (10, true), (11, true), (12, true), (13, true), (14, true), (15, true), (16, false)] (by kernel_rfl) (by kernel_rfl) (by kernel_rfl) hS ?_
        iterate 16 (refine wpOrdZ_take rfl (by kernel_rfl) (fun K hK => ?_); go_simp; refine hK _ _ ?_; clear hK K)
        refine wpOrdZ_last rfl (by kernel_rfl) (by kernel_rfl) (fun K hK => ?_)
        go_simp
        refine hK _ _ ?_
        clear hK K j0 j1 k1 y1 hne hS
        refine NoPanic.normal ?_
        have h8 := (H7.out.1.setReg Hb6.out.2 a wq).kept Hb6.out.2 (grown_drew _ none) (fun b hb => by cases hb)
        have b8 : Below G w (w7.setCell ⟨zrg, a.toNat, none⟩ (.int .i64 wq)).drew := below_drew (Below.setCell H7.out.2 (by have := (H7.out.1.rest.lab zrg (fun e => by have := H7.out.1.rest.cur.lr; dsimp only at this e; omega)).1; dsimp only; omega) _)
        obtain ⟨W8, hW8⟩ : ∃ W8, (w7.setCell ⟨zrg, a.toNat, none⟩ (.int .i64 wq)).drew = W8 := ⟨_, rfl⟩
        dsimp only at h8
        rw [hW8] at h8 b8 ⊢
        clear hW8 ya yf HS H7
        obtain ⟨pq, hpq⟩ : ∃ x, s6.pl.past q = x := ⟨_, rfl⟩
        have g2 := (h8.cells 2 (by omega)).1
        replace g2 : W8.cell? ⟨G, 2, none⟩ = some (.slice (some ⟨zpg, 0, none⟩) N zpc) := g2
        have yp := (h8.rest.cur.past q hq).1
        have hrow := h8.rest.cur.rows q hq
        obtain ⟨pv, pcap, hPq⟩ := own_form hrow
        rw [hPq] at yp hrow
        replace hrow : W8.ownsRow (G + 1) 2 1 (.slice pv (s6.pl.past q).length pcap) (s6.pl.past q).length (ints (s6.pl.past q)) := hrow
        replace yp : W8.cell? ⟨zpg, q, none⟩ = some (.slice pv (s6.pl.past q).length pcap) := yp
        have Hlen : Hid (pq.length ≤ 99999) := by rw [← hpq]; exact Hpl.out q hq
        rw [hpq] at hrow yp
        rw [hpq, Hwq.out] at Hwd
        have H8 := hid_of' (And.intro h8 (And.intro b8 hrow))
        clear h8 b8 hPq hpq
        by_cases hcm : 0 < ch ∧ ch ≤ (pq.length : Int)
        · rw [if_pos hcm] at Hwd
          have hc1 := hcm.1
          have hc2 := hcm.2
          obtain ⟨m, hm⟩ : ∃ m : Nat, (pq.length : Int) - ch = m := ⟨((pq.length : Int) - ch).toNat, by omega⟩
          have hml : m < pq.length := by omega
          have hms : wrap64 ((pq.length : Int) - ch) = (m : Int) := by rw [hm]; have := Hlen.out; unfold wrap64; omega
          obtain ⟨g3, hpv, _, hcs⟩ := row_news hrow (by omega)
          subst hpv
          obtain ⟨was, hwas⟩ : ∃ v, pq[m]? = some v := ⟨_, List.getElem?_eq_getElem hml⟩
          have cw := hcs m (.int .i64 was) (by simp [ints, hwas])
          have Hwas : Hid (pq.getD (pq.length - ch.toNat) 0 = was) := by
            rw [show pq.length - ch.toNat = m by omega, List.getD_eq_getElem?_getD, hwas]; rfl
          rw [Hwas.out] at Hwd
          have hm0 : (0 : Int) ≤ (m : Int) := by omega
          have hm1 : (m : Int) < (pq.length : Int) := by omega
          have HL := hid_of' (r4_leave W8 G N y _ _ (fun j hj => by have := Hpl.out j hj; show (s6.pl.past j).length ≤ 100000; omega) ⟨Hb6.out.2, _, H8.out.1⟩)
          clear hrow hcs hwas hm hcm
          go_wp2_with (fail)
          refine HL.out.mono ?_
          rintro e w9 ⟨rfl, r9, b9⟩
          clear g2 yp cw HL
          obtain ⟨_, ⟨zsv', zsc', z0', z1', z2', z3', ⟨yrg, yrc, ywg, ywa, ywc, ypg, ypa, ypc, yP⟩, yb, ylab⟩, h9⟩ := r9.out
          obtain ⟨S9, HS9⟩ := s_more w9
          have j0 := s_cell HS9 (ad := ⟨G, 0, none⟩) (v := .slice (some ⟨yrg, 0, none⟩) 10 yrc) (h9.cells 0 (by omega)).1
          have bx9 := h9.rest.box _ List.mem_cons_self
          have k1 := s_cell HS9 (cell_of_box bx9.2.2 1 (.int .i64 a) (by simp))
          have ya := (h9.rest.cur.regs a.toNat (by omega)).1
          have yf := (h9.rest.cur.regs a.toNat (by omega)).2
          dsimp only at ya yf k1
          have hne := s_ne HS9
          have hS := s_drew HS9
          have H9 := hid_of' (And.intro h9 (Below.trans H8.out.2.1 b9))
          clear h9 b9 r9 bx9
          go_wp2_with (fail)
          refine wp_region_last (S := S9) [(0, true), (1, true), (2, true), (3, true), (4, true), (5, true), (6, true), (7, true), (8, true), (9, false)] (by kernel_rfl) (by kernel_rfl) (by kernel_rfl) hS ?_
          iterate 9 (refine wpOrdZ_take rfl (by kernel_rfl) (fun K hK => ?_); go_simp; refine hK _ _ ?_; clear hK K)
          refine wpOrdZ_last rfl (by kernel_rfl) (by kernel_rfl) (fun K hK => ?_)
          go_simp
          refine hK _ _ ?_
          clear hK K j0 k1 hne hS
          refine NoPanic.normal ?_
          go_wp2
          go_end0
          obtain ⟨h9, b9⟩ := H9.out
          refine Hwd.out _ (below_drew (Below.setCell b9 ?_ _)) ⟨Hb6.out.2, ⟨_, (h9.setReg Hb6.out.2 a was).kept Hb6.out.2 (grown_drew _ none) (fun b hb => by cases hb)⟩⟩
          have := (h9.rest.lab yrg (fun e => by have := h9.rest.cur.lr; dsimp only at this e; omega)).1
          dsimp only
          omega
        · rw [if_neg hcm] at Hwd
          by_cases hc0 : 0 < ch
          · have hc1 : ¬ ch ≤ (pq.length : Int) := fun h => hcm ⟨hc0, h⟩
            go_wp2
            go_end0
            exact Hwd.out _ H8.out.2.1 ⟨Hb6.out.2, ⟨_, H8.out.1⟩⟩
          · go_wp2
            go_end0
            exact Hwd.out _ H8.out.2.1 ⟨Hb6.out.2, ⟨_, H8.out.1⟩⟩
      · subst hp1
        have Hw : Hid (∀ s' : Sp, wordS p s' ⟨op, a, b, c, n_⟩ (q : Int) = { s' with pl := { s'.pl with past := setF s'.pl.past q (s'.pl.past q ++ [s'.pl.wd q]), wd := setF s'.pl.wd q (s'.pl.r a.toNat) } }) := fun s' => by unfold wordS; rw [if_neg Hin.out, Hpu.out.1, if_pos rfl, Int.toNat_natCast]
        rw [Hw.out] at Hwd
        go_wp2_with (fail)
        rw [HW6.out]
        clear c3 f3 e0 e1 e2 x1 ya yf
        obtain ⟨h6, hN, hb6⟩ := Hz.out
        have hwa := h6.rest.cur.wa (by omega)
        have hpa := h6.rest.cur.pa (by omega)
        dsimp only at hwa hpa
        subst hwa hpa
        have e1 := (h6.cells 1 (by omega)).1
        have e2 := (h6.cells 2 (by omega)).1
        dsimp only [gV, PV.words, PV.past] at e1 e2
        have yw := (h6.rest.cur.words q hq).1
        obtain ⟨yp, yp'⟩ := h6.rest.cur.past q hq
        have hrow := h6.rest.cur.rows q hq
        obtain ⟨pv, pcap, hPq⟩ := own_form hrow
        rw [hPq] at yp hrow
        dsimp only [Sp.go, Sp.see] at yw yp yp' hrow hPq
        obtain ⟨wq, hwq⟩ : ∃ x, s.pl.wd q = x := ⟨_, rfl⟩
        obtain ⟨pq, hpq⟩ : ∃ x, s.pl.past q = x := ⟨_, rfl⟩
        rw [hwq] at yw
        rw [hpq] at yp hrow hPq
        have Hpl : Hid (pq.length ≤ 99999) := by rw [← hpq]; exact Hp.out.2.2.2.1 q hq
        obtain ⟨i0, hi, hz0, hz1, hz2⟩ := info_parts info2
        have Hi : Hid (Try.prog.info? 2 = some i0 ∧ i0.zero = some (.int .i64 0) ∧ i0.size = 1 ∧ i0.bytes = 8) := ⟨hi, hz0, hz1, hz2⟩
        obtain ⟨S, HS⟩ : ∃ S : World → Prop, Hid (∀ w', S w' ↔ (w'.cell? ⟨G, 2, none⟩ = some (.slice (some ⟨pg, 0, none⟩) N pc) ∧ w'.cell? ⟨pg, q, none⟩ = some (.slice pv pq.length pcap) ∧ w'.cell? ⟨G, 1, none⟩ = some (.slice (some ⟨wg, 0, none⟩) N wc) ∧ w'.cell? ⟨wg, q, none⟩ = some (.int .i64 wq))) := ⟨_, fun _ => Iff.rfl⟩
        have j1 : ∀ i : { w' // S w' }, i.val.cell? ⟨G, 2, none⟩ = some (.slice (some ⟨pg, 0, none⟩) N pc) := fun i => ((HS.out _).1 i.property).1
        have j2 : ∀ i : { w' // S w' }, i.val.cell? ⟨pg, q, none⟩ = some (.slice pv pq.length pcap) := fun i => ((HS.out _).1 i.property).2.1
        have j3 : ∀ i : { w' // S w' }, i.val.cell? ⟨G, 1, none⟩ = some (.slice (some ⟨wg, 0, none⟩) N wc) := fun i => ((HS.out _).1 i.property).2.2.1
        have j4 : ∀ i : { w' // S w' }, i.val.cell? ⟨wg, q, none⟩ = some (.int .i64 wq) := fun i => ((HS.out _).1 i.property).2.2.2
        have hS : S W6.drew := (HS.out _).2 ⟨e2, yp, e1, yw⟩
        have hne : Nonempty { w' // S w' } := ⟨⟨_, hS⟩⟩
        have HX := hid_of' (And.intro e2 (And.intro yp (And.intro e1 (And.intro yw (And.intro hrow (And.intro yp' (And.intro hPq (And.intro hwq hpq))))))))
        clear e1 e2 yw yp yp' hrow hPq hwq hpq h6 hb6 hi hz0 hz1 hz2
        refine wp_region_last (S := S) [(0, true), (1, true), (2, true), (3, true), (4, true), (5, true), (6, true), (7, true), (8, true), (9, true), (10, true), (11, true), (12, true), (13, true), (14, true), (15, true), (16, true), (17, true), (18, true), (19, true), (20, true), (21, true), (22, false), (23, false), (24, true), (25, false)] (by kernel_rfl) (by kernel_rfl) (by kernel_rfl) hS ?_
        iterate 22 (refine wpOrdZ_take rfl (by kernel_rfl) (fun K hK => ?_); go_simp; refine hK _ _ ?_; clear hK K)
        clear j1 j2 j3 j4 hS
        have KW : Hid (∀ o, More W6 (W6.alloc o).drew) := fun o => by
          have : More W6 (W6.alloc o) := Below.alloc (Below.refl _ _) (Nat.le_refl _) _
          exact this.drew
        refine wpOrdZ_busy rfl (by kernel_rfl) (fun K hK => ?_)
        go_simp
        refine hK _ _ ((HS.out _).2 ?_) ?_
        · obtain ⟨x1, x2, x3, x4, _⟩ := HX.out
          exact ⟨(KW.out _).cell x1, (KW.out _).cell x2, (KW.out _).cell x3, (KW.out _).cell x4⟩
        clear hK K
        obtain ⟨W7, hW7⟩ : ∃ W7, (W6.alloc (.cells #[.int .i64 wq] 2)).drew = W7 := ⟨_, rfl⟩
        have mW7 : More W6 W7 := by rw [← hW7]; exact KW.out _
        have HM7 := hid_of' (And.intro hW7 mW7)
        have Hown7 : Hid (W7.ownsRow (G + 1) 2 1 (.slice pv pq.length pcap) pq.length (ints pq)) := by
          obtain ⟨_, _, _, _, hrow, _⟩ := HX.out
          refine World.ownsRow.kept hrow (mW7.grow none) ?_
          cases (Value.slice pv pq.length pcap).ownBlock with
          | none => left; rfl
          | some b => right; simp
        have Hsz : Hid (G + 1 ≤ W6.heap.size ∧ W7.heap.size = W6.heap.size + 1) := ⟨Hz.out.1.rest.lt, by rw [← hW7]; simp⟩
        have Hnew : Hid (∀ j u, [Value.int .i64 wq][j]? = some u → W7.cell? ((⟨W6.heap.size, 0, none⟩ : Addr).add j) = some u) := by
          rw [← hW7]
          exact cell_one_new W6 (.int .i64 wq) 2
        rw [hW7]
        clear hW7 mW7 KW
        refine wpOrdZ_busy rfl (by kernel_rfl) (fun K hK => ?_)
        refine wp_append_lies _ (.tmp 108) (.tmp 117) 67 rfl (G + 1) 2 i0 (.int .i64 0) 1 8 Try.underlying67 Hi.out.1 Hi.out.2.1 Hi.out.2.2.1 Hi.out.2.2.2 rfl (by decide) (.slice pv pq.length pcap) pq.length (ints pq) rfl Hown7.out ⟨W6.heap.size, 0, none⟩ 1 1 [.int .i64 wq] rfl rfl Hnew.out (fun x hx => by simp at hx; subst hx; rfl) (by decide) (by have := Hpl.out; unfold maxLen; omega) (by have := Hpl.out; omega) (by have := Hsz.out; omega) W7.heap.size rfl ?_
        intro g2 cap2 w8 own8 gr8 at8 lt8
        have hrw : ∀ b, (Value.slice pv pq.length pcap).ownBlock = some b → lab b = 10 + q := fun b hb => by
          have := Hz.out.1.rest.cur.lrow q Hq.out b (by obtain ⟨_, _, _, _, _, _, hPq, _⟩ := HX.out; dsimp only; rw [hPq]; exact hb)
          dsimp only at this
          omega
        have lbl : lab G = 0 ∧ lab wg = 2 ∧ lab pg = 3 := ⟨(Hz.out.1.rest.own G rfl).1, Hz.out.1.rest.cur.lw (by omega), Hz.out.1.rest.cur.lp (by omega)⟩
        have kp8 : ∀ b, lab b < 10 → some b ≠ (Value.slice pv pq.length pcap).ownBlock := fun b hb e => by have := hrw b e.symm; omega
        have H8 := hid_of' (And.intro own8 (And.intro gr8 at8))
        have pw := (Wr.kept (HM7.out.2.grow none) ⟨HX.out.2.1, HX.out.2.2.2.2.2.1⟩ (by simp)).kept gr8 (kp8 pg (by omega))
        have pc8 := pw.1
        have pf8 := pw.2
        refine hK _ _ ((HS.out _).2 ?_) ?_
        · obtain ⟨x1, x2, x3, x4, _⟩ := HX.out
          exact ⟨gr8.cell (HM7.out.2.cell x1) (kp8 _ (by dsimp only; omega)), pc8, gr8.cell (HM7.out.2.cell x3) (kp8 _ (by dsimp only; omega)), gr8.cell (HM7.out.2.cell x4) (kp8 _ (by dsimp only; omega))⟩
        clear hK K own8 gr8 at8 lt8 hrw lbl kp8 pw
        refine wpOrdZ_take rfl (by kernel_rfl) (fun K hK => ?_); go_simp; refine hK _ _ ?_; clear hK K
        refine wpOrdZ_last rfl (by kernel_rfl) (by kernel_rfl) (fun K hK => ?_)
        go_simp
        refine hK _ _ ?_
        clear hK K hne
        refine NoPanic.normal ?_
        obtain ⟨z9, h9, hrg9, hwg9⟩ : ∃ z', RS (w8.setCell ⟨pg, q, none⟩ (.slice (some ⟨g2, 0, none⟩) (pq.length + 1) cap2)) G N y _ _ z' ∧ z'.a.rg = rg ∧ z'.a.wg = wg := by
          obtain ⟨h6, hN, _⟩ := Hz.out
          obtain ⟨own8, gr8, at8⟩ := H8.out
          obtain ⟨_, _, _, _, _, _, hPq, hwq, hpq⟩ := HX.out
          have h7 := h6.kept hN (HM7.out.2.grow none) (fun b hb => by cases hb)
          refine h7.pushed hN q Hq.out wq _ (show W7.grownBy w8 (PP q).ownBlock by rw [hPq]; exact gr8) (show w8.ownsRow (G + 1) 2 1 _ ((s.pl.past q).length + 1) (ints (s.pl.past q) ++ [.int .i64 wq]) by rw [hpq]; exact own8) (fun b hb => ?_)
          show (PP q).ownBlock = some b ∨ W7.heap.size ≤ b
          rw [hPq]
          have hb' : g2 = b := by simpa [Value.ownBlock] using hb
          subst hb'
          rcases at8 with h | h
          · exact .inl h
          · right; omega
        obtain ⟨W9, hW9⟩ : ∃ W9, w8.setCell ⟨pg, q, none⟩ (.slice (some ⟨g2, 0, none⟩) (pq.length + 1) cap2) = W9 := ⟨_, rfl⟩
        rw [hW9] at h9 ⊢
        have b9 : Below G w W9 := by
          obtain ⟨own8, gr8, at8⟩ := H8.out
          rw [← hW9]
          refine Below.setCell (Below.grown (below_more Hz.out.2.2 (by have := Hsz.out; omega) HM7.out.2) gr8 (by have := Hsz.out; omega) (fun b hb => ?_)) ?_ _
          · have := (World.ownsRow.lt Hown7.out b hb).1; omega
          · have := (Hz.out.1.rest.lab pg (fun e => by have := Hz.out.1.rest.cur.lp (by omega); dsimp only at this e; omega)).1
            dsimp only
            omega
        have v0 := (h9.cells 0 (by omega)).1
        have v1 := (h9.cells 1 (by omega)).1
        obtain ⟨z9sv, z9sc, z90, z91, z92, z93, ⟨zrg, zrc, zwg, zwa, zwc, zpg, zpa, zpc, zP⟩, z9b, z9lab⟩ := z9
        dsimp only at hrg9 hwg9
        subst hrg9 hwg9
        have hwa9 := h9.rest.cur.wa (by omega)
        dsimp only at hwa9
        subst hwa9
        replace v0 : W9.cell? ⟨G, 0, none⟩ = some (.slice (some ⟨zrg, 0, none⟩) 10 zrc) := v0
        replace v1 : W9.cell? ⟨G, 1, none⟩ = some (.slice (some ⟨zwg, 0, none⟩) N zwc) := v1
        have x1 := cell_of_box (h9.rest.box _ List.mem_cons_self).2.2 1 (.int .i64 a) (by simp)
        dsimp only at x1
        have ya := (h9.rest.cur.regs a.toNat (by omega)).1
        replace ya : W9.cell? ⟨zrg, a.toNat, none⟩ = some (.int .i64 ra_) := by rw [← Hra.out]; exact ya
        obtain ⟨yw, yf⟩ := h9.rest.cur.words q Hq.out
        dsimp only at yw yf
        have H9 := hid_of' (And.intro h9 b9)
        obtain ⟨S9, HS9⟩ := s_more W9
        have j0 := s_cell HS9 v0
        have j1 := s_cell HS9 v1
        have k1 := s_cell HS9 x1
        have y1 := s_cell HS9 ya
        have hne := s_ne HS9
        have hS := s_drew HS9
        clear h9 b9 hW9 pc8 pf8 HS
        go_wp2_with (fail)
        refine wp_region_last (S := S9) [(0, true), (1, true), (2, true), (3, true), (4, true), (5, true), (6, true), (7, true), (8, true), (9, true), (10, true), (11, true), (12, true), (13, true), (14, true), (15, true), (16, false)] (by kernel_rfl) (by kernel_rfl) (by kernel_rfl) hS ?_
        iterate 16 (refine wpOrdZ_take rfl (by kernel_rfl) (fun K hK => ?_); go_simp; refine hK _ _ ?_; clear hK K)
        refine wpOrdZ_last rfl (by kernel_rfl) (by kernel_rfl) (fun K hK => ?_)
        go_simp
        refine hK _ _ ?_
        clear hK K j0 j1 k1 y1 hne hS
        refine NoPanic.normal ?_
        go_wp2
        refine bodyPost_ret (results_none (by kernel_rfl) _ _ _) rfl ?_
        obtain ⟨h9, b9⟩ := H9.out
        have hN := Hz.out.2.1
        have h10 := (h9.kept hN (grown_drew _ none) (fun b hb => by cases hb)).setWord hN q Hq.out ra_
        rw [← Hra.out, ← HX.out.2.2.2.2.2.2.2.1] at h10
        rw [← Hra.out]
        refine Hwd.out _ (Below.setCell (below_drew b9) ?_ _) ⟨hN, ⟨_, h10⟩⟩
        have := (h9.rest.lab zwg (fun e => by have := h9.rest.cur.lw (by omega); dsimp only at this e; omega)).1
        dsimp only
        omega
set_option maxHeartbeats 400000 in
theorem r4_step_jump (op a b c n : Int) (w : World) (G N : Nat) (y : Ys) (s : Sp) (mo : List (Nat × Obj)) (h : R4 w G N y s mo) (hat : s.pl.at_ ≤ 100000) (hop : op = 7) (n0 : 0 ≤ n) :
    Calls Try.prog 20 #[.pointer (some ⟨G, 0, none⟩), .agg #[.int .i64 op, .int .i64 a, .int .i64 b, .int .i64 c, .int .i64 n]] w fun e w' => e = .returned (.bool false) ∧ Below G w w' ∧ R4 w' G N y (s.go n.toNat) mo := by
  suffices H0 : ∀ P : Ending → World → Prop, (∀ e w', (e = .returned (.bool false) ∧ Below G w w' ∧ R4 w' G N y (s.go n.toNat) mo) → P e w') → Calls Try.prog 20 #[.pointer (some ⟨G, 0, none⟩), .agg #[.int .i64 op, .int .i64 a, .int .i64 b, .int .i64 c, .int .i64 n]] w P from H0 _ (fun _ _ h => h)
  intro P hP
  have HP := hid_of' hP
  have hG := h.lt
  have h1 := h.beside (.cells #[.int .i64 op, .int .i64 a, .int .i64 b, .int .i64 c, .int .i64 n] 75)
  have m1 : More w (w.alloc (.cells #[.int .i64 op, .int .i64 a, .int .i64 b, .int .i64 c, .int .i64 n] 75)) := (More.refl _).alloc _ _
  have H1 := hid_of' (And.intro h1 (And.intro (below_more (Below.refl G w) (Nat.le_of_lt hG) m1) m1))
  have HU := hid_of' (ref_put op a b c n (w.alloc (.cells #[.int .i64 op, .int .i64 a, .int .i64 b, .int .i64 c, .int .i64 n] 75)))
  have hwr := wrapEq
  have hatw : wrap64 ((s.pl.at_ : Int) + 1) = (s.pl.at_ : Int) + 1 := by unfold wrap64; omega
  have n3' : ¬ G = w.heap.size := by omega
  have n3 : ¬ w.heap.size = G := by omega
  obtain ⟨pu, hpu⟩ : ∃ x, putI ⟨op, a, b, c, n⟩ = x := ⟨_, rfl⟩
  rw [hpu] at HU
  have Hpu := hid_of' hpu
  clear h hP h1 m1 hpu
  subst hop
  go_enter Try.func20, Try.ntmps20
  go_wp2_with (fail)
  refine HU.out.mono ?_
  rintro e w2 ⟨rfl, m2⟩
  have H2 := hid_of' (And.intro (H1.out.1.more m2) (below_more H1.out.2.1 (Nat.le_of_lt H1.out.1.lt) m2))
  have bx := H2.out.1.left (List.mem_cons_self)
  have k0 := cell_of_box bx 0 (.int .i64 7) (by simp)
  have k1 := cell_of_box bx 1 (.int .i64 a) (by simp)
  have k2 := cell_of_box bx 2 (.int .i64 b) (by simp)
  have k3 := cell_of_box bx 3 (.int .i64 c) (by simp)
  have k4 := cell_of_box bx 4 (.int .i64 n) (by simp)
  dsimp only at k0 k1 k2 k3 k4
  clear HU H1 m2 bx
  obtain ⟨c3, f3⟩ := H2.out.1.at_
  go_wp2
  refine HP.out _ _ ⟨rfl, below_put H2.out.2 _ _, (H2.out.1.setAt n.toNat n (by omega)).fewer mo (fun q hq => List.mem_cons_of_mem _ hq)⟩

set_option maxHeartbeats 400000 in
theorem r4_step_halt (op a b c n : Int) (w : World) (G N : Nat) (y : Ys) (s : Sp) (mo : List (Nat × Obj)) (h : R4 w G N y s mo) (hat : s.pl.at_ ≤ 100000) (hop : op = 9) (ha : s.ahead = false) (a0 : 0 ≤ a) (a1 : a < 10) :
    Calls Try.prog 20 #[.pointer (some ⟨G, 0, none⟩), .agg #[.int .i64 op, .int .i64 a, .int .i64 b, .int .i64 c, .int .i64 n]] w fun e w' => e = .returned (.bool false) ∧ Below G w w' ∧ R4 w' G N { y with e := 1, v := s.pl.r a.toNat } s mo := by
  suffices H0 : ∀ P : Ending → World → Prop, (∀ e w', (e = .returned (.bool false) ∧ Below G w w' ∧ R4 w' G N { y with e := 1, v := s.pl.r a.toNat } s mo) → P e w') → Calls Try.prog 20 #[.pointer (some ⟨G, 0, none⟩), .agg #[.int .i64 op, .int .i64 a, .int .i64 b, .int .i64 c, .int .i64 n]] w P from H0 _ (fun _ _ h => h)
  intro P hP
  have HP := hid_of' hP
  have hG := h.lt
  have h1 := h.beside (.cells #[.int .i64 op, .int .i64 a, .int .i64 b, .int .i64 c, .int .i64 n] 75)
  have m1 : More w (w.alloc (.cells #[.int .i64 op, .int .i64 a, .int .i64 b, .int .i64 c, .int .i64 n] 75)) := (More.refl _).alloc _ _
  have H1 := hid_of' (And.intro h1 (And.intro (below_more (Below.refl G w) (Nat.le_of_lt hG) m1) m1))
  have HU := hid_of' (ref_put op a b c n (w.alloc (.cells #[.int .i64 op, .int .i64 a, .int .i64 b, .int .i64 c, .int .i64 n] 75)))
  have hwr := wrapEq
  have hatw : wrap64 ((s.pl.at_ : Int) + 1) = (s.pl.at_ : Int) + 1 := by unfold wrap64; omega
  have n3' : ¬ G = w.heap.size := by omega
  have n3 : ¬ w.heap.size = G := by omega
  obtain ⟨pu, hpu⟩ : ∃ x, putI ⟨op, a, b, c, n⟩ = x := ⟨_, rfl⟩
  rw [hpu] at HU
  have Hpu := hid_of' hpu
  clear h hP h1 m1 hpu
  subst hop
  go_enter Try.func20, Try.ntmps20
  go_wp2_with (fail)
  refine HU.out.mono ?_
  rintro e w2 ⟨rfl, m2⟩
  have H2 := hid_of' (And.intro (H1.out.1.more m2) (below_more H1.out.2.1 (Nat.le_of_lt H1.out.1.lt) m2))
  have bx := H2.out.1.left (List.mem_cons_self)
  have k0 := cell_of_box bx 0 (.int .i64 9) (by simp)
  have k1 := cell_of_box bx 1 (.int .i64 a) (by simp)
  have k2 := cell_of_box bx 2 (.int .i64 b) (by simp)
  have k3 := cell_of_box bx 3 (.int .i64 c) (by simp)
  have k4 := cell_of_box bx 4 (.int .i64 n) (by simp)
  dsimp only at k0 k1 k2 k3 k4
  clear HU H1 m2 bx
  obtain ⟨c6, f6⟩ := H2.out.1.e
  obtain ⟨c7, f7⟩ := H2.out.1.v
  have c12 := H2.out.1.ahead.1
  rw [ha] at c12
  obtain ⟨g, gc, w0, hr, hGg⟩ := H2.out.1.regs
  have d0 := w0.1
  have ya := (hr a.toNat (by omega)).1
  obtain ⟨x, hx⟩ : ∃ x, s.pl.r a.toNat = x := ⟨_, rfl⟩
  rw [hx] at ya
  have Hx := hid_of' hx
  have n5 : ¬ G = g := by omega
  obtain ⟨S, HS⟩ : ∃ S : World → Prop, Hid (∀ w', S w' ↔ (w'.cell? ⟨G, 0, none⟩ = some (.slice (some ⟨g, 0, none⟩) 10 gc) ∧ w'.cell? ⟨w.heap.size, 1, none⟩ = some (.int .i64 a) ∧ w'.cell? ⟨g, a.toNat, none⟩ = some (.int .i64 x))) := ⟨_, fun _ => Iff.rfl⟩
  have j0 : ∀ i : { w' // S w' }, i.val.cell? ⟨G, 0, none⟩ = some (.slice (some ⟨g, 0, none⟩) 10 gc) := fun i => ((HS.out _).1 i.property).1
  have j1 : ∀ i : { w' // S w' }, i.val.cell? ⟨w.heap.size, 1, none⟩ = some (.int .i64 a) := fun i => ((HS.out _).1 i.property).2.1
  have j2 : ∀ i : { w' // S w' }, i.val.cell? ⟨g, a.toNat, none⟩ = some (.int .i64 x) := fun i => ((HS.out _).1 i.property).2.2
  have hS : S (w2.setCell ⟨G, 6, none⟩ (.int .i64 1)).drew := (HS.out _).2 ⟨by go_simp, by go_simp, by go_simp⟩
  have hne : Nonempty { w' // S w' } := ⟨⟨_, hS⟩⟩
  clear w0 hr hx
  go_wp2_with (fail)
  refine wp_region_ord (S := S) [(0, true), (1, true), (2, true), (3, true), (4, true), (5, true), (6, true), (7, true), (8, true), (9, true), (10, true), (11, true), (12, true), (13, false)] (by kernel_rfl) (by kernel_rfl) (by kernel_rfl) hS ?_
  iterate 13 (refine wpOrd_take rfl (by kernel_rfl) (fun K hK => ?_); go_simp; refine hK _ _ ?_; clear hK K)
  refine wpOrd_busy rfl (by kernel_rfl) (fun K hK => ?_); go_simp
  refine hK _ _ ((HS.out _).2 ⟨by go_simp, by go_simp, by go_simp⟩) ?_
  clear hK K j0 j1 j2 hne hS
  refine wpOrd_done ?_
  go_wp2
  refine HP.out _ _ ⟨rfl, below_drew (below_put (below_put H2.out.2 _ _) _ _), ?_⟩
  rw [Hx.out]
  exact ((((H2.out.1.setE 1).setV x).drew)).fewer mo (fun q hq => List.mem_cons_of_mem _ hq)

set_option maxHeartbeats 400000 in
theorem r4_step_over9 (op a b c n : Int) (w : World) (G N : Nat) (y : Ys) (s : Sp) (mo : List (Nat × Obj)) (h : R4 w G N y s mo) (hat : s.pl.at_ ≤ 100000) (hop : op = 9) (ha : s.ahead = true) :
    Calls Try.prog 20 #[.pointer (some ⟨G, 0, none⟩), .agg #[.int .i64 op, .int .i64 a, .int .i64 b, .int .i64 c, .int .i64 n]] w fun e w' => e = .returned (.bool true) ∧ Below G w w' ∧ R4 w' G N y (s.go (s.pl.at_ + 1)) mo := by
  suffices H0 : ∀ P : Ending → World → Prop, (∀ e w', (e = .returned (.bool true) ∧ Below G w w' ∧ R4 w' G N y (s.go (s.pl.at_ + 1)) mo) → P e w') → Calls Try.prog 20 #[.pointer (some ⟨G, 0, none⟩), .agg #[.int .i64 op, .int .i64 a, .int .i64 b, .int .i64 c, .int .i64 n]] w P from H0 _ (fun _ _ h => h)
  intro P hP
  have HP := hid_of' hP
  have hG := h.lt
  have h1 := h.beside (.cells #[.int .i64 op, .int .i64 a, .int .i64 b, .int .i64 c, .int .i64 n] 75)
  have m1 : More w (w.alloc (.cells #[.int .i64 op, .int .i64 a, .int .i64 b, .int .i64 c, .int .i64 n] 75)) := (More.refl _).alloc _ _
  have H1 := hid_of' (And.intro h1 (And.intro (below_more (Below.refl G w) (Nat.le_of_lt hG) m1) m1))
  have HU := hid_of' (ref_put op a b c n (w.alloc (.cells #[.int .i64 op, .int .i64 a, .int .i64 b, .int .i64 c, .int .i64 n] 75)))
  have hwr := wrapEq
  have hatw : wrap64 ((s.pl.at_ : Int) + 1) = (s.pl.at_ : Int) + 1 := by unfold wrap64; omega
  have n3' : ¬ G = w.heap.size := by omega
  have n3 : ¬ w.heap.size = G := by omega
  obtain ⟨pu, hpu⟩ : ∃ x, putI ⟨op, a, b, c, n⟩ = x := ⟨_, rfl⟩
  rw [hpu] at HU
  have Hpu := hid_of' hpu
  clear h hP h1 m1 hpu
  subst hop
  go_enter Try.func20, Try.ntmps20
  go_wp2_with (fail)
  refine HU.out.mono ?_
  rintro e w2 ⟨rfl, m2⟩
  have H2 := hid_of' (And.intro (H1.out.1.more m2) (below_more H1.out.2.1 (Nat.le_of_lt H1.out.1.lt) m2))
  have bx := H2.out.1.left (List.mem_cons_self)
  have k0 := cell_of_box bx 0 (.int .i64 9) (by simp)
  have k1 := cell_of_box bx 1 (.int .i64 a) (by simp)
  have k2 := cell_of_box bx 2 (.int .i64 b) (by simp)
  have k3 := cell_of_box bx 3 (.int .i64 c) (by simp)
  have k4 := cell_of_box bx 4 (.int .i64 n) (by simp)
  dsimp only at k0 k1 k2 k3 k4
  clear HU H1 m2 bx
  obtain ⟨c3, f3⟩ := H2.out.1.at_
  have c12 := H2.out.1.ahead.1
  rw [ha] at c12
  go_wp2
  refine HP.out _ _ ⟨rfl, below_put H2.out.2 _ _, (H2.out.1.setAt (s.pl.at_ + 1) ((s.pl.at_ : Int) + 1) (by push_cast; rfl)).fewer mo (fun q hq => List.mem_cons_of_mem _ hq)⟩

set_option maxHeartbeats 400000 in
theorem r4_step_over12 (op a b c n : Int) (w : World) (G N : Nat) (y : Ys) (s : Sp) (mo : List (Nat × Obj)) (h : R4 w G N y s mo) (hat : s.pl.at_ ≤ 100000) (hop : op = 12)  :
    Calls Try.prog 20 #[.pointer (some ⟨G, 0, none⟩), .agg #[.int .i64 op, .int .i64 a, .int .i64 b, .int .i64 c, .int .i64 n]] w fun e w' => e = .returned (.bool true) ∧ Below G w w' ∧ R4 w' G N y (s.go (s.pl.at_ + 1)) mo := by
  suffices H0 : ∀ P : Ending → World → Prop, (∀ e w', (e = .returned (.bool true) ∧ Below G w w' ∧ R4 w' G N y (s.go (s.pl.at_ + 1)) mo) → P e w') → Calls Try.prog 20 #[.pointer (some ⟨G, 0, none⟩), .agg #[.int .i64 op, .int .i64 a, .int .i64 b, .int .i64 c, .int .i64 n]] w P from H0 _ (fun _ _ h => h)
  intro P hP
  have HP := hid_of' hP
  have hG := h.lt
  have h1 := h.beside (.cells #[.int .i64 op, .int .i64 a, .int .i64 b, .int .i64 c, .int .i64 n] 75)
  have m1 : More w (w.alloc (.cells #[.int .i64 op, .int .i64 a, .int .i64 b, .int .i64 c, .int .i64 n] 75)) := (More.refl _).alloc _ _
  have H1 := hid_of' (And.intro h1 (And.intro (below_more (Below.refl G w) (Nat.le_of_lt hG) m1) m1))
  have HU := hid_of' (ref_put op a b c n (w.alloc (.cells #[.int .i64 op, .int .i64 a, .int .i64 b, .int .i64 c, .int .i64 n] 75)))
  have hwr := wrapEq
  have hatw : wrap64 ((s.pl.at_ : Int) + 1) = (s.pl.at_ : Int) + 1 := by unfold wrap64; omega
  have n3' : ¬ G = w.heap.size := by omega
  have n3 : ¬ w.heap.size = G := by omega
  obtain ⟨pu, hpu⟩ : ∃ x, putI ⟨op, a, b, c, n⟩ = x := ⟨_, rfl⟩
  rw [hpu] at HU
  have Hpu := hid_of' hpu
  clear h hP h1 m1 hpu
  subst hop
  go_enter Try.func20, Try.ntmps20
  go_wp2_with (fail)
  refine HU.out.mono ?_
  rintro e w2 ⟨rfl, m2⟩
  have H2 := hid_of' (And.intro (H1.out.1.more m2) (below_more H1.out.2.1 (Nat.le_of_lt H1.out.1.lt) m2))
  have bx := H2.out.1.left (List.mem_cons_self)
  have k0 := cell_of_box bx 0 (.int .i64 12) (by simp)
  have k1 := cell_of_box bx 1 (.int .i64 a) (by simp)
  have k2 := cell_of_box bx 2 (.int .i64 b) (by simp)
  have k3 := cell_of_box bx 3 (.int .i64 c) (by simp)
  have k4 := cell_of_box bx 4 (.int .i64 n) (by simp)
  dsimp only at k0 k1 k2 k3 k4
  clear HU H1 m2 bx
  obtain ⟨c3, f3⟩ := H2.out.1.at_
  have c12 := H2.out.1.ahead.1
  go_wp2
  refine HP.out _ _ ⟨rfl, below_put H2.out.2 _ _, (H2.out.1.setAt (s.pl.at_ + 1) ((s.pl.at_ : Int) + 1) (by push_cast; rfl)).fewer mo (fun q hq => List.mem_cons_of_mem _ hq)⟩

set_option maxHeartbeats 1000000 in
theorem r4_step_if_yes (op a b c n : Int) (w : World) (G N : Nat) (y : Ys) (s : Sp) (mo : List (Nat × Obj)) (h : R4 w G N y s mo) (hat : s.pl.at_ ≤ 100000) (hop : op = 8) (n0 : 0 ≤ n) (hr64 : ∀ j, j < 10 → B64 (s.pl.r j)) (hpast : ∀ j, j < N → (s.pl.past j).length ≤ 99999) (a0 : 0 ≤ a) (a1 : a < 10) (b0 : 0 ≤ b) (b1 : b < 10) (hh : holdsI c (s.pl.r a.toNat) (s.pl.r b.toNat) = true) :
    Calls Try.prog 20 #[.pointer (some ⟨G, 0, none⟩), .agg #[.int .i64 op, .int .i64 a, .int .i64 b, .int .i64 c, .int .i64 n]] w fun e w' => e = .returned (.bool false) ∧ Below G w w' ∧ R4 w' G N y (if s.choice = 0 then { s.go n.toNat with script := s.script.tail } else ({ s.go n.toNat with script := s.script.tail }.leave).go (s.pl.at_ + 1)) mo := by
  suffices H0 : ∀ P : Ending → World → Prop, (∀ e w', (e = .returned (.bool false) ∧ Below G w w' ∧ R4 w' G N y (if s.choice = 0 then { s.go n.toNat with script := s.script.tail } else ({ s.go n.toNat with script := s.script.tail }.leave).go (s.pl.at_ + 1)) mo) → P e w') → Calls Try.prog 20 #[.pointer (some ⟨G, 0, none⟩), .agg #[.int .i64 op, .int .i64 a, .int .i64 b, .int .i64 c, .int .i64 n]] w P from H0 _ (fun _ _ h => h)
  intro P hP
  have HP := hid_of' hP
  have hG := h.lt
  have h1 := h.beside (.cells #[.int .i64 op, .int .i64 a, .int .i64 b, .int .i64 c, .int .i64 n] 75)
  have m1 : More w (w.alloc (.cells #[.int .i64 op, .int .i64 a, .int .i64 b, .int .i64 c, .int .i64 n] 75)) := (More.refl _).alloc _ _
  have H1 := hid_of' (And.intro h1 (And.intro (below_more (Below.refl G w) (Nat.le_of_lt hG) m1) m1))
  have HU := hid_of' (ref_put op a b c n (w.alloc (.cells #[.int .i64 op, .int .i64 a, .int .i64 b, .int .i64 c, .int .i64 n] 75)))
  have hwr := wrapEq
  have hatw : wrap64 ((s.pl.at_ : Int) + 1) = (s.pl.at_ : Int) + 1 := by unfold wrap64; omega
  have n3' : ¬ G = w.heap.size := by omega
  have n3 : ¬ w.heap.size = G := by omega
  obtain ⟨pu, hpu⟩ : ∃ x, putI ⟨op, a, b, c, n⟩ = x := ⟨_, rfl⟩
  rw [hpu] at HU
  have Hpu := hid_of' hpu
  clear h hP h1 m1 hpu
  subst hop
  go_enter Try.func20, Try.ntmps20
  go_wp2_with (fail)
  refine HU.out.mono ?_
  rintro e w2 ⟨rfl, m2⟩
  have H2 := hid_of' (And.intro (H1.out.1.more m2) (below_more H1.out.2.1 (Nat.le_of_lt H1.out.1.lt) m2))
  have bx := H2.out.1.left (List.mem_cons_self)
  have k0 := cell_of_box bx 0 (.int .i64 8) (by simp)
  have k1 := cell_of_box bx 1 (.int .i64 a) (by simp)
  have k2 := cell_of_box bx 2 (.int .i64 b) (by simp)
  have k3 := cell_of_box bx 3 (.int .i64 c) (by simp)
  have k4 := cell_of_box bx 4 (.int .i64 n) (by simp)
  dsimp only at k0 k1 k2 k3 k4
  clear HU H1 m2 bx
  obtain ⟨c3, f3⟩ := H2.out.1.at_
  obtain ⟨g, gc, w0, hr, hGg⟩ := H2.out.1.regs
  have d0 := w0.1
  have ya := (hr a.toNat (by omega)).1
  have yb := (hr b.toNat (by omega)).1
  have h64a := hr64 a.toNat (by omega)
  have h64b := hr64 b.toNat (by omega)
  obtain ⟨xa, hxa⟩ : ∃ x, s.pl.r a.toNat = x := ⟨_, rfl⟩
  obtain ⟨xb, hxb⟩ : ∃ x, s.pl.r b.toNat = x := ⟨_, rfl⟩
  rw [hxa] at ya h64a hh
  rw [hxb] at yb h64b hh
  have HX := hid_of' (ref_holds c xa xb h64a.1 h64a.2 h64b.1 h64b.2 w2.drew)
  rw [hh] at HX
  have Hp := hid_of' hpast
  obtain ⟨S, HS⟩ := s_more w2
  have j0 := s_cell HS d0
  have j1 := s_cell HS k1
  have j2 := s_cell HS k2
  have j3 := s_cell HS k3
  have j4 := s_cell HS ya
  have j5 := s_cell HS yb
  have hne := s_ne HS
  have hS := s_drew HS
  clear w0 hr hr64 hpast hh h64a h64b hxa hxb d0 ya yb k1 k2 k3 k0
  have k0 := cell_of_box (H2.out.1.left (List.mem_cons_self)) 0 (.int .i64 8) (by simp)
  dsimp only at k0
  go_wp2_with (fail)
  refine wp_region_ord (S := S) [(0, true), (1, true), (2, true), (3, true), (4, true), (5, true), (6, true), (7, true), (8, true), (9, true), (10, true), (11, true), (12, true), (13, true), (14, true), (15, true), (16, true), (17, true), (18, true), (19, true), (20, false)] (by kernel_rfl) (by kernel_rfl) (by kernel_rfl) hS ?_
  iterate 20 (refine wpOrd_take rfl (by kernel_rfl) (fun K hK => ?_); go_simp; refine hK _ _ ?_; clear hK K)
  refine wpOrd_busy rfl (by kernel_rfl) (fun K hK => ?_); go_simp
  refine HX.out.mono ?_
  rintro e w3 ⟨rfl, m3⟩
  go_simp
  refine hK _ _ ((HS.out _).2 ((More.refl _).drew.trans m3)) ?_; clear hK K
  refine wpOrd_done ?_
  have H3 := hid_of' (And.intro (H2.out.1.drew.more m3) (below_more (below_drew H2.out.2) (Nat.le_of_lt H2.out.1.lt) m3))
  clear j0 j1 j2 j3 j4 j5 hne hS HS m3 S HX H2 k0 k4 c3 f3
  obtain ⟨c3, f3⟩ := H3.out.1.at_
  have k4 := cell_of_box (H3.out.1.left (List.mem_cons_self)) 4 (.int .i64 n) (by simp)
  dsimp only at k4
  have h4 := H3.out.1.setAt n.toNat n (by omega)
  have HC := hid_of' (r4_choice _ G N y _ _ h4)
  have H4 := hid_of' (below_put H3.out.2 3 (.int .i64 n))
  rw [show (s.go n.toNat).choice = s.choice from rfl] at HC
  obtain ⟨ch, hch⟩ : ∃ x, s.choice = x := ⟨_, rfl⟩
  rw [hch] at HC HP
  clear h4 hch
  go_wp2_with (fail)
  refine HC.out.mono ?_
  rintro e w5 ⟨rfl, r5, b5⟩
  have H5 := hid_of' (And.intro r5 (Below.trans H4.out b5))
  clear HC r5 b5 c3 f3 k4 H3
  by_cases hc0 : ch = 0
  · subst hc0
    go_wp2
    refine HP.out _ _ ⟨rfl, H5.out.2, ?_⟩
    rw [if_pos (by first | trivial | rfl)]
    exact H5.out.1.fewer mo (fun q hq => List.mem_cons_of_mem _ hq)
  · have HL := hid_of' (r4_leave w5 G N y _ _ (fun j hj => by have := Hp.out j hj; show (s.pl.past j).length ≤ 100000; omega) H5.out.1)
    go_wp2_with (fail)
    refine HL.out.mono ?_
    rintro e w6 ⟨rfl, r6, b6⟩
    obtain ⟨c3, f3⟩ := r6.at_
    have H6 := hid_of' (And.intro r6 (Below.trans H5.out.2 b6))
    clear r6 b6 HL
    go_wp2
    refine HP.out _ _ ⟨rfl, below_put H6.out.2 _ _, ?_⟩
    rw [if_neg hc0]
    exact (H6.out.1.setAt (s.pl.at_ + 1) ((s.pl.at_ : Int) + 1) (by push_cast; rfl)).fewer mo (fun q hq => List.mem_cons_of_mem _ hq)

set_option maxHeartbeats 1000000 in
theorem r4_step_if_no (op a b c n : Int) (w : World) (G N : Nat) (y : Ys) (s : Sp) (mo : List (Nat × Obj)) (h : R4 w G N y s mo) (hat : s.pl.at_ ≤ 100000) (hop : op = 8) (n0 : 0 ≤ n) (hr64 : ∀ j, j < 10 → B64 (s.pl.r j)) (hpast : ∀ j, j < N → (s.pl.past j).length ≤ 99999) (a0 : 0 ≤ a) (a1 : a < 10) (b0 : 0 ≤ b) (b1 : b < 10) (hh : holdsI c (s.pl.r a.toNat) (s.pl.r b.toNat) = false) :
    Calls Try.prog 20 #[.pointer (some ⟨G, 0, none⟩), .agg #[.int .i64 op, .int .i64 a, .int .i64 b, .int .i64 c, .int .i64 n]] w fun e w' => e = .returned (.bool false) ∧ Below G w w' ∧ R4 w' G N y (if s.choice = 0 then { s.go (s.pl.at_ + 1) with script := s.script.tail } else ({ s.go (s.pl.at_ + 1) with script := s.script.tail }.leave).go n.toNat) mo := by
  suffices H0 : ∀ P : Ending → World → Prop, (∀ e w', (e = .returned (.bool false) ∧ Below G w w' ∧ R4 w' G N y (if s.choice = 0 then { s.go (s.pl.at_ + 1) with script := s.script.tail } else ({ s.go (s.pl.at_ + 1) with script := s.script.tail }.leave).go n.toNat) mo) → P e w') → Calls Try.prog 20 #[.pointer (some ⟨G, 0, none⟩), .agg #[.int .i64 op, .int .i64 a, .int .i64 b, .int .i64 c, .int .i64 n]] w P from H0 _ (fun _ _ h => h)
  intro P hP
  have HP := hid_of' hP
  have hG := h.lt
  have h1 := h.beside (.cells #[.int .i64 op, .int .i64 a, .int .i64 b, .int .i64 c, .int .i64 n] 75)
  have m1 : More w (w.alloc (.cells #[.int .i64 op, .int .i64 a, .int .i64 b, .int .i64 c, .int .i64 n] 75)) := (More.refl _).alloc _ _
  have H1 := hid_of' (And.intro h1 (And.intro (below_more (Below.refl G w) (Nat.le_of_lt hG) m1) m1))
  have HU := hid_of' (ref_put op a b c n (w.alloc (.cells #[.int .i64 op, .int .i64 a, .int .i64 b, .int .i64 c, .int .i64 n] 75)))
  have hwr := wrapEq
  have hatw : wrap64 ((s.pl.at_ : Int) + 1) = (s.pl.at_ : Int) + 1 := by unfold wrap64; omega
  have n3' : ¬ G = w.heap.size := by omega
  have n3 : ¬ w.heap.size = G := by omega
  obtain ⟨pu, hpu⟩ : ∃ x, putI ⟨op, a, b, c, n⟩ = x := ⟨_, rfl⟩
  rw [hpu] at HU
  have Hpu := hid_of' hpu
  clear h hP h1 m1 hpu
  subst hop
  go_enter Try.func20, Try.ntmps20
  go_wp2_with (fail)
  refine HU.out.mono ?_
  rintro e w2 ⟨rfl, m2⟩
  have H2 := hid_of' (And.intro (H1.out.1.more m2) (below_more H1.out.2.1 (Nat.le_of_lt H1.out.1.lt) m2))
  have bx := H2.out.1.left (List.mem_cons_self)
  have k0 := cell_of_box bx 0 (.int .i64 8) (by simp)
  have k1 := cell_of_box bx 1 (.int .i64 a) (by simp)
  have k2 := cell_of_box bx 2 (.int .i64 b) (by simp)
  have k3 := cell_of_box bx 3 (.int .i64 c) (by simp)
  have k4 := cell_of_box bx 4 (.int .i64 n) (by simp)
  dsimp only at k0 k1 k2 k3 k4
  clear HU H1 m2 bx
  obtain ⟨c3, f3⟩ := H2.out.1.at_
  obtain ⟨g, gc, w0, hr, hGg⟩ := H2.out.1.regs
  have d0 := w0.1
  have ya := (hr a.toNat (by omega)).1
  have yb := (hr b.toNat (by omega)).1
  have h64a := hr64 a.toNat (by omega)
  have h64b := hr64 b.toNat (by omega)
  obtain ⟨xa, hxa⟩ : ∃ x, s.pl.r a.toNat = x := ⟨_, rfl⟩
  obtain ⟨xb, hxb⟩ : ∃ x, s.pl.r b.toNat = x := ⟨_, rfl⟩
  rw [hxa] at ya h64a hh
  rw [hxb] at yb h64b hh
  have HX := hid_of' (ref_holds c xa xb h64a.1 h64a.2 h64b.1 h64b.2 w2.drew)
  rw [hh] at HX
  have Hp := hid_of' hpast
  obtain ⟨S, HS⟩ := s_more w2
  have j0 := s_cell HS d0
  have j1 := s_cell HS k1
  have j2 := s_cell HS k2
  have j3 := s_cell HS k3
  have j4 := s_cell HS ya
  have j5 := s_cell HS yb
  have hne := s_ne HS
  have hS := s_drew HS
  clear w0 hr hr64 hpast hh h64a h64b hxa hxb d0 ya yb k1 k2 k3 k0
  have k0 := cell_of_box (H2.out.1.left (List.mem_cons_self)) 0 (.int .i64 8) (by simp)
  dsimp only at k0
  go_wp2_with (fail)
  refine wp_region_ord (S := S) [(0, true), (1, true), (2, true), (3, true), (4, true), (5, true), (6, true), (7, true), (8, true), (9, true), (10, true), (11, true), (12, true), (13, true), (14, true), (15, true), (16, true), (17, true), (18, true), (19, true), (20, false)] (by kernel_rfl) (by kernel_rfl) (by kernel_rfl) hS ?_
  iterate 20 (refine wpOrd_take rfl (by kernel_rfl) (fun K hK => ?_); go_simp; refine hK _ _ ?_; clear hK K)
  refine wpOrd_busy rfl (by kernel_rfl) (fun K hK => ?_); go_simp
  refine HX.out.mono ?_
  rintro e w3 ⟨rfl, m3⟩
  go_simp
  refine hK _ _ ((HS.out _).2 ((More.refl _).drew.trans m3)) ?_; clear hK K
  refine wpOrd_done ?_
  have H3 := hid_of' (And.intro (H2.out.1.drew.more m3) (below_more (below_drew H2.out.2) (Nat.le_of_lt H2.out.1.lt) m3))
  clear j0 j1 j2 j3 j4 j5 hne hS HS m3 S HX H2 k0 k4 c3 f3
  obtain ⟨c3, f3⟩ := H3.out.1.at_
  have k4 := cell_of_box (H3.out.1.left (List.mem_cons_self)) 4 (.int .i64 n) (by simp)
  dsimp only at k4
  have h4 := H3.out.1.setAt (s.pl.at_ + 1) ((s.pl.at_ : Int) + 1) (by push_cast; rfl)
  have HC := hid_of' (r4_choice _ G N y _ _ h4)
  have H4 := hid_of' (below_put H3.out.2 3 (.int .i64 ((s.pl.at_ : Int) + 1)))
  rw [show (s.go (s.pl.at_ + 1)).choice = s.choice from rfl] at HC
  obtain ⟨ch, hch⟩ : ∃ x, s.choice = x := ⟨_, rfl⟩
  rw [hch] at HC HP
  clear h4 hch
  go_wp2_with (fail)
  refine HC.out.mono ?_
  rintro e w5 ⟨rfl, r5, b5⟩
  have H5 := hid_of' (And.intro r5 (Below.trans H4.out b5))
  clear HC r5 b5 c3 f3 k4 H3
  by_cases hc0 : ch = 0
  · subst hc0
    go_wp2
    refine HP.out _ _ ⟨rfl, H5.out.2, ?_⟩
    rw [if_pos (by first | trivial | rfl)]
    exact H5.out.1.fewer mo (fun q hq => List.mem_cons_of_mem _ hq)
  · have HL := hid_of' (r4_leave w5 G N y _ _ (fun j hj => by have := Hp.out j hj; show (s.pl.past j).length ≤ 100000; omega) H5.out.1)
    go_wp2_with (fail)
    refine HL.out.mono ?_
    rintro e w6 ⟨rfl, r6, b6⟩
    obtain ⟨c3, f3⟩ := r6.at_
    have H6 := hid_of' (And.intro r6 (Below.trans H5.out.2 b6))
    clear r6 b6 HL
    go_wp2
    refine HP.out _ _ ⟨rfl, below_put H6.out.2 _ _, ?_⟩
    rw [if_neg hc0]
    exact (H6.out.1.setAt n.toNat n (by omega)).fewer mo (fun q hq => List.mem_cons_of_mem _ hq)
theorem WordPost.fewer {p : Prg} {s : Sp} {i : Ins} {w' : World} {G N : Nat} {y : Ys} {mo l : List (Nat × Obj)} (h : WordPost p s i w' G N y mo) (hl : ∀ q ∈ l, q ∈ mo) : WordPost p s i w' G N y l := by
  unfold WordPost at *
  split
  · rename_i hc; rw [if_pos hc] at h; exact h.fewer l hl
  · rename_i hc; rw [if_neg hc] at h; exact h.fewer l hl

theorem seen_news {w : World} {v : Value} {l : List Se} (h : SeenAt w v l) (h1 : l.length ≤ 1) : ∃ ad c, v = .slice ad l.length c ∧ (0 < l.length → ∃ ad', ad = some ad' ∧ ∀ j u, (flatS l)[j]? = some u → w.cell? (ad'.add j) = some u) := by
  obtain ⟨a, b, o, c, e, h2, h3, _⟩ := h
  refine ⟨a, c, e, fun h0 => ⟨⟨b, o, none⟩, h2 h0, ?_⟩⟩
  cases l with
  | nil => simp at h0
  | cons t l =>
    cases l with
    | cons t2 l => simp at h1
    | nil =>
      intro j u hu
      rw [Go.WideShapes.add_plain]
      have q := h3 0 t rfl
      simp only [Nat.zero_mul, Nat.add_zero] at q
      have hj : j = 0 ∨ j = 1 ∨ j = 2 := by have := (List.getElem?_eq_some_iff.1 hu).1; simp [flatS] at this; omega
      rcases hj with rfl | rfl | rfl
      · simp [flatS] at hu; subst hu; exact q.1
      · simp [flatS] at hu; subst hu; exact q.2.1
      · simp [flatS] at hu; subst hu; exact q.2.2
theorem flatS_one (l : List Se) : ∀ u ∈ flatS l, u.oneCell' = true := by
  induction l with
  | nil => intro u hu; simp [flatS] at hu
  | cons s l ih =>
    intro u hu
    simp only [flatS, List.mem_cons] at hu
    rcases hu with rfl | rfl | rfl | hu
    · rfl
    · rfl
    · rfl
    · exact ih u hu

set_option maxHeartbeats 1000000 in
theorem r4_step_word (op a b c n : Int) (w : World) (G N : Nat) (y : Ys) (s : Sp) (mo : List (Nat × Obj)) (h : R4 w G N y s mo) (hat : s.pl.at_ ≤ 100000) (p : Prg) (l : Loc) (hp : RP w G N p l y) (hl : s.seen.length ≤ 200000) (hpast : ∀ j, j < N → (s.pl.past j).length ≤ 99999) (hop : op = 3 ∨ op = 4 ∨ op = 5 ∨ op = 6) (a0 : 0 ≤ a) (a1 : a < 10) (b0 : 0 ≤ b) (b1 : b < 10) (c0 : 0 ≤ c) (c1 : c < (p.rl : Int)) :
    Calls Try.prog 20 #[.pointer (some ⟨G, 0, none⟩), .agg #[.int .i64 op, .int .i64 a, .int .i64 b, .int .i64 c, .int .i64 n]] w fun e w' => e = .returned (.bool false) ∧ Below G w w' ∧ WordPost p s ⟨op, a, b, c, n⟩ w' G N y mo := by
  suffices H0 : ∀ P : Ending → World → Prop, (∀ e w', (e = .returned (.bool false) ∧ Below G w w' ∧ WordPost p s ⟨op, a, b, c, n⟩ w' G N y mo) → P e w') → Calls Try.prog 20 #[.pointer (some ⟨G, 0, none⟩), .agg #[.int .i64 op, .int .i64 a, .int .i64 b, .int .i64 c, .int .i64 n]] w P from H0 _ (fun _ _ h => h)
  intro P hP
  have HP := hid_of' hP
  have hG := h.lt
  have h1 := h.beside (.cells #[.int .i64 op, .int .i64 a, .int .i64 b, .int .i64 c, .int .i64 n] 75)
  have m1 : More w (w.alloc (.cells #[.int .i64 op, .int .i64 a, .int .i64 b, .int .i64 c, .int .i64 n] 75)) := (More.refl _).alloc _ _
  have H1 := hid_of' (And.intro h1 (And.intro (below_more (Below.refl G w) (Nat.le_of_lt hG) m1) m1))
  have HU := hid_of' (ref_put op a b c n (w.alloc (.cells #[.int .i64 op, .int .i64 a, .int .i64 b, .int .i64 c, .int .i64 n] 75)))
  have hwr := wrapEq
  have hatw : wrap64 ((s.pl.at_ : Int) + 1) = (s.pl.at_ : Int) + 1 := by unfold wrap64; omega
  have n3' : ¬ G = w.heap.size := by omega
  have n3 : ¬ w.heap.size = G := by omega
  have hput : ∀ {x : Int}, putI ⟨op, a, b, c, n⟩ = x → x = 0 ∨ x = 1 := fun {x} e => by
    subst e
    rcases hop with h | h | h | h
    · left; exact putI_load (.inl h)
    · right; exact putI_put (.inl h)
    · left; exact putI_load (.inr h)
    · right; exact putI_put (.inr h)
  obtain ⟨pu, hpu⟩ : ∃ x, putI ⟨op, a, b, c, n⟩ = x := ⟨_, rfl⟩
  rw [hpu] at HU
  have Hpu := hid_of' hpu
  clear h hP h1 m1 hpu
  have hWd : ∀ w2, R4 w2 G N y s ((w.heap.size, .cells #[.int .i64 op, .int .i64 a, .int .i64 b, .int .i64 c, .int .i64 n] 75) :: mo) → Below G w w2 → Calls Try.prog 46 #[.pointer (some ⟨G, 0, none⟩), .agg #[.int .i64 op, .int .i64 a, .int .i64 b, .int .i64 c, .int .i64 n], .int .i64 pu] w2 fun e w' => e = .returned (.tuple #[]) ∧ Below G w2 w' ∧ WordPost p s ⟨op, a, b, c, n⟩ w' G N y ((w.heap.size, .cells #[.int .i64 op, .int .i64 a, .int .i64 b, .int .i64 c, .int .i64 n] 75) :: mo) := fun w2 h2 b2 => by
    have := r4_word p l ⟨op, a, b, c, n⟩ w2 G N y s _ h2 (hp.below b2) hl hpast hat a0 a1 b0 b1 c0 c1 (by rw [Hpu.out]; exact hput Hpu.out)
    dsimp only at this
    rw [Hpu.out] at this
    exact this
  have HWd := hid_of' hWd
  have hpu2 := hput Hpu.out
  have hpuz : ¬ pu < 0 := by omega
  have hpuz' : 0 ≤ pu := by omega
  clear hWd hp hl hpast hput hpu2
  have h7 : ¬ op = 7 := by omega
  have h8 : ¬ op = 8 := by omega
  have h9 : ¬ op = 9 := by omega
  have h12 : ¬ op = 12 := by omega
  have t7 : (op == 7) = false := by simp [h7]
  have t8 : (op == 8) = false := by simp [h8]
  have t9 : (op == 9) = false := by simp [h9]
  have t12 : (op == 12) = false := by simp [h12]
  clear hop h7 h8 h9 h12
  go_enter Try.func20, Try.ntmps20
  go_wp2_with (fail)
  refine HU.out.mono ?_
  rintro e w2 ⟨rfl, m2⟩
  have H2 := hid_of' (And.intro (H1.out.1.more m2) (below_more H1.out.2.1 (Nat.le_of_lt H1.out.1.lt) m2))
  have bx := H2.out.1.left (List.mem_cons_self)
  have k0 := cell_of_box bx 0 (.int .i64 op) (by simp)
  have k1 := cell_of_box bx 1 (.int .i64 a) (by simp)
  have k2 := cell_of_box bx 2 (.int .i64 b) (by simp)
  have k3 := cell_of_box bx 3 (.int .i64 c) (by simp)
  have k4 := cell_of_box bx 4 (.int .i64 n) (by simp)
  dsimp only at k0 k1 k2 k3 k4
  clear HU H1 m2 bx
  go_wp2_with (fail)
  refine (HWd.out w2 H2.out.1 H2.out.2).mono ?_
  rintro e w3 ⟨rfl, b3, r3⟩
  have H3 := hid_of' (And.intro r3 (Below.trans H2.out.2 b3))
  clear r3 b3 k0 k1 k2 k3 k4
  go_wp2
  exact HP.out _ _ ⟨rfl, H3.out.2, H3.out.1.fewer (fun q hq => List.mem_cons_of_mem _ hq)⟩

def RegsAll (w : World) (G N : Nat) (y : Ys) (s : Sp) : Prop := True
set_option maxHeartbeats 1000000 in
theorem r4_step_regs (op a b c n : Int) (w : World) (G N : Nat) (y : Ys) (s : Sp) (mo : List (Nat × Obj)) (h : R4 w G N y s mo) (hat : s.pl.at_ ≤ 100000) (p : Prg) (hl : s.seen.length ≤ 200000) (hin : InsOk p.rl p.log p.cl 10 ⟨op, a, b, c, n⟩) (hr64 : ∀ j, j < 10 → B64 (s.pl.r j)) (h3 : ¬ op = 3) (h4 : ¬ op = 4) (h5 : ¬ op = 5) (h6 : ¬ op = 6) (h7 : ¬ op = 7) (h8 : ¬ op = 8) (h9 : ¬ op = 9) (h12 : ¬ op = 12) :
    Calls Try.prog 20 #[.pointer (some ⟨G, 0, none⟩), .agg #[.int .i64 op, .int .i64 a, .int .i64 b, .int .i64 c, .int .i64 n]] w fun e w' => e = .returned (.bool false) ∧ Below G w w' ∧ R4 w' G N y { s with pl := { at_ := s.pl.at_ + 1, r := (regsI s.pl.r ⟨op, a, b, c, n⟩).1, wd := s.pl.wd, past := s.pl.past }, seen := s.seen ++ (regsI s.pl.r ⟨op, a, b, c, n⟩).2 } mo := by
  suffices H0 : ∀ P : Ending → World → Prop, (∀ e w', (e = .returned (.bool false) ∧ Below G w w' ∧ R4 w' G N y { s with pl := { at_ := s.pl.at_ + 1, r := (regsI s.pl.r ⟨op, a, b, c, n⟩).1, wd := s.pl.wd, past := s.pl.past }, seen := s.seen ++ (regsI s.pl.r ⟨op, a, b, c, n⟩).2 } mo) → P e w') → Calls Try.prog 20 #[.pointer (some ⟨G, 0, none⟩), .agg #[.int .i64 op, .int .i64 a, .int .i64 b, .int .i64 c, .int .i64 n]] w P from H0 _ (fun _ _ h => h)
  intro P hP
  have HP := hid_of' hP
  have hG := h.lt
  have h1 := h.beside (.cells #[.int .i64 op, .int .i64 a, .int .i64 b, .int .i64 c, .int .i64 n] 75)
  have m1 : More w (w.alloc (.cells #[.int .i64 op, .int .i64 a, .int .i64 b, .int .i64 c, .int .i64 n] 75)) := (More.refl _).alloc _ _
  have H1 := hid_of' (And.intro h1 (And.intro (below_more (Below.refl G w) (Nat.le_of_lt hG) m1) m1))
  have HU := hid_of' (ref_put op a b c n (w.alloc (.cells #[.int .i64 op, .int .i64 a, .int .i64 b, .int .i64 c, .int .i64 n] 75)))
  have hwr := wrapEq
  have hatw : wrap64 ((s.pl.at_ : Int) + 1) = (s.pl.at_ : Int) + 1 := by unfold wrap64; omega
  have n3' : ¬ G = w.heap.size := by omega
  have n3 : ¬ w.heap.size = G := by omega
  obtain ⟨pu, hpu⟩ : ∃ x, putI ⟨op, a, b, c, n⟩ = x := ⟨_, rfl⟩
  rw [hpu] at HU
  have Hpu := hid_of' hpu
  clear h hP h1 m1 hpu
  have hi : InsOk p.rl p.log p.cl 10 ⟨op, a, b, c, n⟩ := hin
  have HG : Hid (∀ w', RegsAll w' G N y s → ∀ g gc, RegsR w' g s.pl.r → Calls Try.prog 47 #[.slice (some ⟨g, 0, none⟩) 10 gc, .agg #[.int .i64 op, .int .i64 a, .int .i64 b, .int .i64 c, .int .i64 n]] w' fun e w'' =>
      ∃ sv, e = .returned sv ∧ SeenAt w'' sv (regsI s.pl.r ⟨op, a, b, c, n⟩).2 ∧ RegsR w'' g (regsI s.pl.r ⟨op, a, b, c, n⟩).1 ∧ w'.grownBy w'' (some g)) := fun w' _ g gc hr => by
    refine (ref_registers ⟨op, a, b, c, n⟩ g s.pl.r w' hr hr64 hi h3 h4 h5 h6 h7 h8 h9).mono ?_
    rintro e w'' ⟨sv, he, _, q1, q2, q3⟩
    exact ⟨sv, he, q1, q2, q3⟩
  have Hlen : Hid ((regsI s.pl.r ⟨op, a, b, c, n⟩).2.length ≤ 1) := regsI_len _ _
  obtain ⟨r2, hr2⟩ : ∃ x, (regsI s.pl.r ⟨op, a, b, c, n⟩).1 = x := ⟨_, rfl⟩
  obtain ⟨l2, hl2⟩ : ∃ x, (regsI s.pl.r ⟨op, a, b, c, n⟩).2 = x := ⟨_, rfl⟩
  rw [hr2, hl2] at HG HP
  rw [hl2] at Hlen
  have Hl := hid_of' hl
  have hpun : pu = -1 := by rw [← Hpu.out]; exact putI_no h3 h4 h5 h6
  subst hpun
  have t7 : (op == 7) = false := by simp [h7]
  have t8 : (op == 8) = false := by simp [h8]
  have t9 : (op == 9) = false := by simp [h9]
  have t12 : (op == 12) = false := by simp [h12]
  clear h7 h8 h9 h12 hin hi hr64 hr2 hl2 hl h3 h4 h5 h6
  obtain ⟨i2, hi2, hz0, hz1, hz2⟩ := info_parts info79
  have Hi : Hid (Try.prog.info? 45 = some i2 ∧ i2.zero = some (.agg #[.int .i64 0, .int .i64 0, .int .i64 0]) ∧ i2.size = 3 ∧ i2.bytes = 24) := ⟨hi2, hz0, hz1, hz2⟩
  clear hi2 hz0 hz1 hz2
  go_enter Try.func20, Try.ntmps20
  go_wp2_with (fail)
  refine HU.out.mono ?_
  rintro e w2 ⟨rfl, m2⟩
  have H2 := hid_of' (And.intro (H1.out.1.more m2) (below_more H1.out.2.1 (Nat.le_of_lt H1.out.1.lt) m2))
  have bx := H2.out.1.left (List.mem_cons_self)
  have k0 := cell_of_box bx 0 (.int .i64 op) (by simp)
  have k1 := cell_of_box bx 1 (.int .i64 a) (by simp)
  have k2 := cell_of_box bx 2 (.int .i64 b) (by simp)
  have k3 := cell_of_box bx 3 (.int .i64 c) (by simp)
  have k4 := cell_of_box bx 4 (.int .i64 n) (by simp)
  dsimp only at k0 k1 k2 k3 k4
  clear HU H1 m2 bx
  obtain ⟨hN, ⟨sv, sc', q0, q1, q2, q3, ⟨rg, rgc, wg, wa, wc, pg, pa, pc, PP⟩, bb, lab⟩, hz⟩ := H2.out.1.out
  obtain ⟨S, HS⟩ : ∃ S : World → Prop, Hid (∀ w', S w' ↔ True) := ⟨_, fun _ => Iff.rfl⟩
  clear S HS
  obtain ⟨S, HS⟩ : ∃ S : World → Prop, Hid (∀ w', S w' ↔ w2.grownBy w' (some rg)) := ⟨_, fun _ => Iff.rfl⟩
  have hlr : lab rg = 1 := hz.rest.cur.lr
  have hGr := (hz.rest.lab rg (by dsimp only; omega)).1
  have hbr : w.heap.size ≠ rg := fun e => by have := (hz.rest.box _ List.mem_cons_self).2.1; dsimp only at this; rw [e] at this; omega
  have hne0 : some w.heap.size ≠ some rg := fun e => hbr (Option.some.inj e)
  have hneG : some G ≠ some rg := fun e => by have := Option.some.inj e; omega
  have d0 : w2.cell? ⟨G, 0, none⟩ = some (.slice (some ⟨rg, 0, none⟩) 10 rgc) := (hz.cells 0 (by omega)).1
  have j0 : ∀ i : { w' // S w' }, i.val.cell? ⟨G, 0, none⟩ = some (.slice (some ⟨rg, 0, none⟩) 10 rgc) := fun i => ((HS.out _).1 i.property).cell d0 hneG
  have y0 : ∀ i : { w' // S w' }, i.val.cell? ⟨w.heap.size, 0, none⟩ = some (.int .i64 op) := fun i => ((HS.out _).1 i.property).cell k0 hne0
  have y1 : ∀ i : { w' // S w' }, i.val.cell? ⟨w.heap.size, 1, none⟩ = some (.int .i64 a) := fun i => ((HS.out _).1 i.property).cell k1 hne0
  have y2 : ∀ i : { w' // S w' }, i.val.cell? ⟨w.heap.size, 2, none⟩ = some (.int .i64 b) := fun i => ((HS.out _).1 i.property).cell k2 hne0
  have y3 : ∀ i : { w' // S w' }, i.val.cell? ⟨w.heap.size, 3, none⟩ = some (.int .i64 c) := fun i => ((HS.out _).1 i.property).cell k3 hne0
  have y4 : ∀ i : { w' // S w' }, i.val.cell? ⟨w.heap.size, 4, none⟩ = some (.int .i64 n) := fun i => ((HS.out _).1 i.property).cell k4 hne0
  have hne : Nonempty { w' // S w' } := ⟨⟨w2, (HS.out _).2 (grown_refl _ _)⟩⟩
  have hS : S w2.drew := (HS.out _).2 (grown_drew _ _)
  have HX := hid_of' (HG.out w2.drew trivial rg rgc (hz.rest.cur.regs).drew)
  have Hz := hid_of' (And.intro hz hN)
  clear hz HG hlr hGr hbr hne0 hneG d0
  go_wp2_with (fail)
  refine wp_region_ord (S := S) [(0, true), (1, true), (2, true), (3, true), (4, true), (5, true), (6, false), (7, true)] (by kernel_rfl) (by kernel_rfl) (by kernel_rfl) hS ?_
  iterate 6 (refine wpOrd_take rfl (by kernel_rfl) (fun K hK => ?_); go_simp; refine hK _ _ ?_; clear hK K)
  refine wpOrd_busy rfl (by kernel_rfl) (fun K hK => ?_); go_simp
  refine HX.out.mono ?_
  rintro e w3 ⟨sv3, rfl, hse3, hr3, gr3⟩
  obtain ⟨ad3, c3', rfl, hnews⟩ := seen_news hse3 Hlen.out
  go_simp
  refine hK _ _ ((HS.out _).2 (grown_trans (grown_drew _ _) gr3)) ?_; clear hK K
  refine wpOrd_take rfl (by kernel_rfl) (fun K hK => ?_); go_simp; refine hK _ _ ?_; clear hK K
  refine wpOrd_done ?_
  have h3 := Hz.out.1.regd Hz.out.2 r2 (grown_trans (grown_drew w2 (some rg)) gr3) hr3
  have b3 : Below G w w3 := Below.grown (below_drew H2.out.2) gr3 (Nat.le_of_lt H2.out.1.lt) (fun b hb => by have := (Hz.out.1.rest.lab rg (fun e => by have := Hz.out.1.rest.cur.lr; dsimp only at this e; omega)).1; have := Option.some.inj hb; omega)
  have hso := h3.rest.seen
  obtain ⟨sa, scap, hsv⟩ := own_form hso
  dsimp only at hsv
  subst hsv
  have d9 : w3.cell? ⟨G, 9, none⟩ = some (.slice sa s.seen.length scap) := (h3.cells 9 (by omega)).1
  have w9 := h3.cells 9 (by omega)
  have Hown : Hid (w3.ownsRow (G + 1) 45 3 (.slice sa s.seen.length scap) s.seen.length (flatS s.seen)) := hso
  have H3 := hid_of' (And.intro h3 (And.intro b3 (And.intro w9 hnews)))
  have hGl : G < w3.heap.size := h3.rest.lt
  clear j0 y0 y1 y2 y3 y4 hne hS HS S HX hse3 hr3 gr3 hnews h3 b3 hso w9 k0 k1 k2 k3 k4 H2 Hz
  obtain ⟨se, hse⟩ : ∃ x, s.seen = x := ⟨_, rfl⟩
  rw [hse] at Hown d9 Hl
  obtain ⟨ln, hln⟩ : ∃ x, l2.length = x := ⟨_, rfl⟩
  rw [hln] at H3 Hlen ⊢
  have Hln := hid_of' hln
  have Hse := hid_of' hse
  clear hse hln
  go_wp2_with (at_builtin; refine wpList_append_any _ rfl (.tmp 24) (.tmp 25) 32 rfl (G + 1) 45 i2 (.agg #[.int .i64 0, .int .i64 0, .int .i64 0]) 3 24 Try.underlying32 Hi.out.1 Hi.out.2.1 Hi.out.2.2.1 Hi.out.2.2.2 rfl (by decide) (.slice sa se.length scap) se.length (flatS se) rfl Hown.out ad3 ln c3' (flatS l2) rfl (by rw [flatS_length, Hln.out]) H3.out.2.2.2 (flatS_one _) (by have := Hl.out; have := Hlen.out; unfold maxLen; omega) (by have := Hl.out; have := Hlen.out; omega) (by omega) ?_; intro va cap w4 own4 gr4 at4 nn4; obtain ⟨t9c, t9f⟩ := Wr.kept gr4 (show Wr w3 G 9 (.slice sa se.length scap) by rw [← Hse.out]; exact H3.out.2.2.1) (fun e => by have := (World.ownsRow.lt Hown.out G e.symm).1; omega); have t3 := (show Wr w3 G 3 (.int .i64 (s.pl.at_ : Int)) from H3.out.1.cells 3 (by omega)).kept gr4 (fun e => by have := (World.ownsRow.lt Hown.out G e.symm).1; omega); obtain ⟨t3c, t3f⟩ := t3; have H4 := hid_of' (And.intro own4 (And.intro gr4 at4)); clear own4 gr4 at4 nn4)
  obtain ⟨own4, gr4, at4⟩ := H4.out
  obtain ⟨h3, b3, _⟩ := H3.out
  have h5 := h3.shown (w' := w4) hN (se ++ l2) (.slice va (se.length + ln) cap) (by unfold SeenOwn; rw [flatS_append, List.length_append, Hln.out]; exact own4) (by dsimp only; rw [Hse.out]; exact gr4) (fun b hb => by
    rcases at4 b hb with h | h
    · left; dsimp only; rw [Hse.out]; exact h
    · right; omega)
  have h6 := h5.setAt hN (s.pl.at_ + 1) ((s.pl.at_ : Int) + 1) (by push_cast; rfl)
  refine HP.out _ _ ⟨rfl, below_put (below_put (Below.grown b3 gr4 (by omega) (fun b hb => by have := (World.ownsRow.lt Hown.out b hb).1; omega)) _ _) _ _, ?_⟩
  rw [Hse.out]
  exact R4.fewer ⟨hN, ⟨_, h6⟩⟩ mo (fun q hq => List.mem_cons_of_mem _ hq)
end
section
open Go.RowKit
set_option linter.unusedSimpArgs false
set_option linter.unusedVariables false
/-- How a run has ended. -/
def endY (y : Ys) : Option (Int × Int) → Ys
  | none => y
  | some q => { y with e := q.1, v := q.2 }

theorem r4_step (p : Prg) (l : Loc) (w : World) (G N : Nat) (y : Ys) (s : Sp) (mo : List (Nat × Obj)) (k n : Nat) (h : R4 w G N y (s.see ⟨1, s.pl.at_, 0⟩) mo) (hp : RP w G N p l y) (hi : InvS p k n s) (hat : s.pl.at_ < p.cl) (hcl : p.cl ≤ 8000) (hin : InsOk p.rl p.log p.cl 10 (p.ins s.pl.at_)) (hk : k ≤ 99999) (hn : n ≤ 199999) (hv : y.v = 0) :
    Calls Try.prog 20 #[.pointer (some ⟨G, 0, none⟩), .agg #[.int .i64 (p.ins s.pl.at_).op, .int .i64 (p.ins s.pl.at_).a, .int .i64 (p.ins s.pl.at_).b, .int .i64 (p.ins s.pl.at_).c, .int .i64 (p.ins s.pl.at_).n]] w fun e w' => e = .returned (.bool (stepS p s).2.1) ∧ Below G w w' ∧ R4 w' G N (endY y (stepS p s).2.2) (stepS p s).1 mo := by
  obtain ⟨i, hI⟩ : ∃ i, p.ins s.pl.at_ = i := ⟨_, rfl⟩
  rw [hI] at hin ⊢
  obtain ⟨op, a, b, c, im⟩ := i
  dsimp only
  have hat' : (s.see ⟨1, s.pl.at_, 0⟩).pl.at_ ≤ 100000 := by show s.pl.at_ ≤ 100000; omega
  have hpast : ∀ j, j < N → ((s.see ⟨1, s.pl.at_, 0⟩).pl.past j).length ≤ 99999 := fun j _ => by show (s.pl.past j).length ≤ 99999; have := hi.pl.past j; omega
  have hl : (s.see ⟨1, s.pl.at_, 0⟩).seen.length ≤ 200000 := by show (s.seen ++ [_]).length ≤ 200000; have := hi.seen; simp; omega
  by_cases h7 : op = 7
  · have : 0 ≤ im ∧ im < p.cl := by unfold InsOk Plc at hin; simp [h7] at hin; exact hin.2.2.2
    rw [stepS_jump hI h7]
    exact r4_step_jump op a b c im w G N y _ mo h hat' h7 this.1
  by_cases h8 : op = 8
  · have hpl : (0 ≤ a ∧ a < 10) ∧ (0 ≤ b ∧ b < 10) ∧ 0 ≤ im := by unfold InsOk Plc Reg at hin; simp [h8] at hin; omega
    cases hh : holdsI c (s.pl.r a.toNat) (s.pl.r b.toNat) with
    | true =>
      rw [stepS_if hI h8 true hh _ _ rfl rfl]
      exact r4_step_if_yes op a b c im w G N y _ mo h hat' h8 hpl.2.2 hi.pl.r hpast hpl.1.1 hpl.1.2 hpl.2.1.1 hpl.2.1.2 hh
    | false =>
      rw [stepS_if hI h8 false hh _ _ rfl rfl]
      exact r4_step_if_no op a b c im w G N y _ mo h hat' h8 hpl.2.2 hi.pl.r hpast hpl.1.1 hpl.1.2 hpl.2.1.1 hpl.2.1.2 hh
  by_cases h9 : op = 9
  · have hpl : 0 ≤ a ∧ a < 10 := by unfold InsOk Reg at hin; simp [h9] at hin; omega
    cases ha : s.ahead with
    | false =>
      rw [stepS_halt hI h9 ha]
      exact r4_step_halt op a b c im w G N y _ mo h hat' h9 ha hpl.1 hpl.2
    | true =>
      rw [stepS_over hI (.inl ⟨h9, ha⟩)]
      exact r4_step_over9 op a b c im w G N y _ mo h hat' h9 ha
  by_cases h12 : op = 12
  · rw [stepS_over hI (.inr h12)]
    exact r4_step_over12 op a b c im w G N y _ mo h hat' h12
  by_cases hw : op = 3 ∨ op = 4 ∨ op = 5 ∨ op = 6
  · have hr : (0 ≤ a ∧ a < 10) ∧ (0 ≤ b ∧ b < 10) ∧ 0 ≤ c ∧ c < (p.rl : Int) := by
      unfold InsOk Reg Rgn at hin
      rcases hw with e | e | e | e <;> simp [e] at hin <;> omega
    refine (r4_step_word op a b c im w G N y _ mo h hat' p l hp hl hpast hw hr.1.1 hr.1.2 hr.2.1.1 hr.2.1.2 hr.2.2.1 hr.2.2.2).mono ?_
    rintro e w' ⟨rfl, b1, r1⟩
    unfold WordPost at r1
    by_cases hx : s.ahead = false ∧ (idxI s.pl.r ⟨op, a, b, c, im⟩ < 0 ∨ wordsI (p.log c.toNat) ≤ idxI s.pl.r ⟨op, a, b, c, im⟩)
    · replace r1 := (if_pos (c := (s.see ⟨1, s.pl.at_, 0⟩).ahead = false ∧ (idxI (s.see ⟨1, s.pl.at_, 0⟩).pl.r ⟨op, a, b, c, im⟩ < 0 ∨ wordsI (p.log c.toNat) ≤ idxI (s.see ⟨1, s.pl.at_, 0⟩).pl.r ⟨op, a, b, c, im⟩)) hx) ▸ r1
      rw [stepS_fault hI hw hx.1 hx.2]
      refine ⟨rfl, b1, ?_⟩
      have e : endY y (some (2, 0)) = { y with e := 2 } := by unfold endY; dsimp only; rw [hv.symm]
      rw [e]
      exact r1
    · replace r1 := (if_neg (c := (s.see ⟨1, s.pl.at_, 0⟩).ahead = false ∧ (idxI (s.see ⟨1, s.pl.at_, 0⟩).pl.r ⟨op, a, b, c, im⟩ < 0 ∨ wordsI (p.log c.toNat) ≤ idxI (s.see ⟨1, s.pl.at_, 0⟩).pl.r ⟨op, a, b, c, im⟩)) hx) ▸ r1
      rw [stepS_word hI hw hx]
      exact ⟨rfl, b1, r1⟩
  have w3 : ¬ op = 3 := by omega
  have w4 : ¬ op = 4 := by omega
  have w5 : ¬ op = 5 := by omega
  have w6 : ¬ op = 6 := by omega
  rw [stepS_regs hI w3 w4 w5 w6 h7 h8 h9 h12]
  exact r4_step_regs op a b c im w G N y _ mo h hat' p hl hin hi.pl.r w3 w4 w5 w6 h7 h8 h9 h12
theorem noneLeft_in {s : Sp} {cl : Nat} (h : s.pl.at_ < cl) : s.noneLeft cl = s := by unfold Sp.noneLeft; rw [if_neg (by omega)]
theorem runS_none {p : Prg} {f k : Nat} {s : Sp} (hc : p.cl ≤ s.pl.at_) (ha : s.ahead = true) : runS p (f + 1) k s = runS p (f + 1) k s.returns := by
  have e : s.noneLeft p.cl = s.returns := by unfold Sp.noneLeft; rw [if_pos ⟨hc, ha⟩]
  have e2 : s.returns.noneLeft p.cl = s.returns := noneLeft_none rfl _
  rw [runS, runS, e, e2]
theorem runS_fault {p : Prg} {f k : Nat} {s : Sp} (hc : p.cl ≤ s.pl.at_) (ha : s.ahead = false) : runS p (f + 1) k s = ⟨2, 0, k, s.seen, s.real.wd⟩ := by
  rw [runS, noneLeft_none ha, if_pos hc]
theorem runS_end {p : Prg} {f k : Nat} {s : Sp} {e : Int × Int} (hc : s.pl.at_ < p.cl) (he : (stepS p s).2.2 = some e) : runS p (f + 1) k s = ⟨e.1, e.2, (k : Int) + 1, (stepS p s).1.seen, (stepS p s).1.real.wd⟩ := by
  rw [runS, noneLeft_in hc, if_neg (by omega), he]
theorem runS_go {p : Prg} {f k : Nat} {s : Sp} (hc : s.pl.at_ < p.cl) (he : (stepS p s).2.2 = none) : runS p (f + 1) k s = runS p f (k + 1) ((stepS p s).1.after (stepS p s).2.1) := by
  rw [runS, noneLeft_in hc, if_neg (by omega), he]
theorem stepS_here {p : Prg} {s : Sp} {e : Int × Int} (h : (stepS p s).2.2 = some e) : s.ahead = false := by
  unfold stepS at h
  repeat' split at h
  all_goals first | (rename_i hh; exact hh.2) | (rename_i hh; exact hh.1) | (cases h; done) | (simp at h; done) | (simp_all; done)

/-- A step begins the count anew, or leaves it. -/
theorem leave_since (s : Sp) : (s.ahead = true ∧ s.leave = s) ∨ (s.ahead = false ∧ s.leave.since = -1) := by
  cases h : s.ahead with
  | true => left; refine ⟨rfl, ?_⟩; unfold Sp.leave; rw [if_pos h]
  | false => right; refine ⟨rfl, ?_⟩; unfold Sp.leave; rw [if_neg (by rw [h]; decide)]
theorem wordS_since (p : Prg) (s : Sp) (i : Ins) (n : Int) : ((wordS p s i n).ahead = s.ahead ∧ (wordS p s i n).since = s.since) ∨ (s.ahead = false ∧ (wordS p s i n).since = -1) := by
  unfold wordS
  split
  · split
    · left; exact ⟨rfl, rfl⟩
    · left; exact ⟨rfl, rfl⟩
  · split
    · left; exact ⟨rfl, rfl⟩
    · split
      · rcases leave_since ({ s with script := s.script.tail }.reg i.a (s.pl.wd n.toNat)) with ⟨h1, h2⟩ | ⟨h1, h2⟩
        · left; rw [h2]; exact ⟨rfl, rfl⟩
        · right; exact ⟨h1, h2⟩
      · left; exact ⟨rfl, rfl⟩
theorem stepS_since (p : Prg) (s : Sp) : ((stepS p s).1.ahead = s.ahead ∧ (stepS p s).1.since = s.since) ∨ (s.ahead = false ∧ (stepS p s).1.since = -1) := by
  obtain ⟨i, hI⟩ : ∃ i, p.ins s.pl.at_ = i := ⟨_, rfl⟩
  by_cases h7 : i.op = 7
  · rw [stepS_jump hI h7]; left; exact ⟨rfl, rfl⟩
  by_cases h8 : i.op = 8
  · rw [stepS_if hI h8 _ rfl _ _ rfl rfl]
    dsimp only
    split
    · left; exact ⟨rfl, rfl⟩
    · rcases leave_since { (s.see ⟨1, s.pl.at_, 0⟩).go (if holdsI i.c (s.pl.r i.a.toNat) (s.pl.r i.b.toNat) = true then i.n.toNat else s.pl.at_ + 1) with script := s.script.tail } with ⟨h1, h2⟩ | ⟨h1, h2⟩
      · left; rw [h2]; exact ⟨rfl, rfl⟩
      · right; exact ⟨h1, h2⟩
  by_cases h9 : i.op = 9
  · cases ha : s.ahead with
    | false => rw [stepS_halt hI h9 ha]; left; exact ⟨ha, rfl⟩
    | true => rw [stepS_over hI (.inl ⟨h9, ha⟩)]; left; exact ⟨ha, rfl⟩
  by_cases h12 : i.op = 12
  · rw [stepS_over hI (.inr h12)]; left; exact ⟨rfl, rfl⟩
  by_cases hw : i.op = 3 ∨ i.op = 4 ∨ i.op = 5 ∨ i.op = 6
  · by_cases hx : s.ahead = false ∧ (idxI s.pl.r i < 0 ∨ wordsI (p.log i.c.toNat) ≤ idxI s.pl.r i)
    · rw [stepS_fault hI hw hx.1 hx.2]; left; exact ⟨rfl, rfl⟩
    · rw [stepS_word hI hw hx]; exact wordS_since p (s.on.see ⟨2, numS p s i, putI i⟩) i (numS p s i)
  rw [stepS_regs hI (by omega) (by omega) (by omega) (by omega) h7 h8 h9 h12]
  left; exact ⟨rfl, rfl⟩
def wgOf : Option Addr → Nat
  | some a => a.block
  | none => 0
/-- Where a run lies at its beginning. -/
theorem RS.begin {w : World} {G N : Nat} {y : Ys} {wa : Option Addr} {wc pg pc rg : Nat} {sc : Value} {L : List Int} {f : Nat → Int} (hN : N ≤ 384) (hG : G < rg) (hrg : RegsR w rg (fun _ => 0)) (hsc : ScAt w G sc L)
    (hw : w.ownsRow (rg + 1) 2 1 (.slice wa N wc) N ((List.range N).map fun j => .int .i64 (f j))) (hwb : ∀ b, (Value.slice wa N wc).ownBlock = some b → b < pg) (hpg : rg < pg) (hp : ∀ j, j < N → Wr w pg j (.slice none 0 0)) (hpl : pg < w.heap.size) {z : Zs}
    (hz : z = ⟨.slice none 0 0, sc, .slice none 0 0, .slice none 0 0, .slice none 0 0, .int .i64 0, ⟨rg, 10, wgOf wa, wa, wc, pg, some ⟨pg, 0, none⟩, N, fun _ => .slice none 0 0⟩, ⟨0, 0, 0, none, 0, 0, none, 0, fun _ => .slice none 0 0⟩, fun c => if c = rg then 1 else if 0 < N ∧ (Value.slice wa N wc).ownBlock = some c then 2 else if c = pg then 3 else 0⟩)
    (hc : ∀ j, j < 18 → Wr w G j (gV N y ⟨⟨0, fun _ => 0, f, fun _ => []⟩, false, 0, ⟨0, fun _ => 0, f, fun _ => []⟩, L, []⟩ z j)) : RS w G N y ⟨⟨0, fun _ => 0, f, fun _ => []⟩, false, 0, ⟨0, fun _ => 0, f, fun _ => []⟩, L, []⟩ [] z := by
  have hgl : G < w.heap.size := cell_block (hc 0 (by omega)).1
  subst hz
  refine ⟨hc, hgl, fun c hc' => ?_, ?_, fun h => absurd h (by simp), World.ownsRow_nil _ _ _ _, fun b hb => by simp [Value.ownBlock] at hb, hsc, fun p hp => by cases hp⟩
  · dsimp only at hc'
    split at hc'
    · rename_i e; subst e
      exact ⟨hG, cell_block (hrg 0 (by omega)).1⟩
    · split at hc'
      · rename_i e
        have h1 := World.ownsRow.lt hw c e.2
        omega
      · split at hc'
        · rename_i e; subst e; omega
        · exact absurd rfl hc'
  · refine ⟨by dsimp only; rw [if_pos rfl], hrg, fun h0 => ?_, fun h0 => ?_, fun j hj => ?_, fun h0 => ?_, fun _ => rfl, hp, fun j hj => World.ownsRow_nil _ _ _ _, fun j hj b hb => by simp [Value.ownBlock] at hb, ?_⟩
    rotate_right
    · rcases hw.2 with ⟨h, h0⟩ | ⟨_, cap', _, h, _, _, hn, _⟩
      · dsimp only; omega
      · injection h with _ _ h3; dsimp only; omega
    · obtain ⟨g2, c2, e2, l2, _⟩ := World.ownsRow.form hw h0
      injection e2 with e2 _ _
      subst e2
      dsimp only [wgOf]
      rw [if_neg (by omega), if_pos ⟨h0, rfl⟩]
    · obtain ⟨g2, c2, e2, l2, _⟩ := World.ownsRow.form hw h0
      injection e2 with e2 _ _
      subst e2
      rfl
    · obtain ⟨g2, c2, e2, l2, _⟩ := World.ownsRow.form hw (by omega)
      injection e2 with e2 _ e4
      subst e2
      exact ⟨by dsimp only [wgOf]; rw [World.ownsRow.cellAt hw j (by omega)]; simp [hj], World.ownsRow.frozenAt hw j⟩
    · dsimp only
      rw [if_neg (by omega), if_neg (fun e => by have := hwb pg e.2; omega), if_pos rfl]

/-- The words of the first lists, and of one list more. -/
theorem flat_next (m : Mem) (k : Nat) (hk : k < m.ml) : ((List.range (baseN m.len k)).map fun j => Value.int .i64 (flatM m j)) ++ wordsL m k = (List.range (baseN m.len (k + 1))).map fun j => Value.int .i64 (flatM m j) := by
  apply List.ext_getElem?
  intro j
  by_cases h1 : j < baseN m.len k
  · rw [List.getElem?_append_left (by simpa using h1)]
    simp only [List.getElem?_map]
    rw [List.getElem?_range h1, List.getElem?_range (by simp only [baseN]; omega)]
  · rw [List.getElem?_append_right (by simp; omega)]
    simp only [List.length_map, List.length_range]
    by_cases h2 : j < baseN m.len k + m.len k
    · rw [wordsL_at m k _ (by omega)]
      simp only [List.getElem?_map]
      rw [List.getElem?_range (by simp only [baseN]; omega)]
      have := flatM_at m k (j - baseN m.len k) hk (by omega)
      rw [show baseN m.len k + (j - baseN m.len k) = j by omega] at this
      simp [this]
    · rw [List.getElem?_eq_none (by rw [wordsL_length]; omega), List.getElem?_eq_none (by simp [baseN]; omega)]
end
section
open Go
section
variable {P : Program} {ops : Array Oper} {Q : Exit → Act → World → Prop} {md : Region.Mode} {S : World → Prop} {ex : List Nat}

/-- Does operation j wait for every other one? -/
def waitsM (ex : List Nat) (md : Region.Mode) (ops : Array Oper) (j : Nat) : Bool :=
  match ops[j]? with
  | none => false
  | some o => (List.range ops.size).all fun i => i == j || ex.contains i || o.after.any fun e => Region.binds md e && e.on == i

/-- Whatever comes up: behind it S holds, unless it waited for all. -/
def AnyM (ex : List Nat) (P : Program) (md : Region.Mode) (ops : Array Oper) (Q : Exit → Act → World → Prop) (S : World → Prop) : Nat → Array Bool → Act → World → Prop
  | 0, l, a, w => Region.ready md ops l = [] ∧ Q .normal a w
  | n + 1, l, a, w => (Region.ready md ops l = [] → Q .normal a w) ∧ ∀ i ∈ Region.ready md ops l, wpOp P ops Q i (fun a' w' => (waitsM ex md ops i = false → S w → S w') ∧ AnyM ex P md ops Q S n (l.setIfInBounds i true) a' w') a w

theorem AnyM.any : ∀ (n : Nat) (l : Array Bool) (a : Act) (w : World), AnyM ex P md ops Q S n l a w → wpAny P md ops Q n l a w
  | 0, _, _, _, h => h
  | n + 1, _, _, _, h => ⟨h.1, fun i hi => wpOp_mono (fun a' w' h' => AnyM.any n _ a' w' h'.2) (h.2 i hi)⟩

/-- One that may come up while another is unlisted does not wait for that one. -/
theorem waits_noM {i j : Nat} {l : Array Bool} (hex : ex.contains i = false) (hi : i ∈ Region.ready md ops l) (hj : j ∈ Region.ready md ops l) (hne : j ≠ i) : waitsM ex md ops j = false := by
  cases hb : waitsM ex md ops j with
  | false => rfl
  | true =>
    exfalso
    obtain ⟨_, oj, hoj, hall⟩ := mem_ready.1 hj
    obtain ⟨hun, oi, hoi, _⟩ := mem_ready.1 hi
    unfold waitsM at hb
    rw [hoj] at hb
    dsimp only at hb
    rw [List.all_eq_true] at hb
    have h1 := hb i (List.mem_range.2 (Array.getElem?_eq_some_iff.1 hoi).1)
    rw [Bool.or_eq_true, Bool.or_eq_true, hex] at h1
    rcases h1 with (h1 | h1) | h1
    rotate_left
    · cases h1
    rotate_left
    · exact hne (by simpa using h1 : i = j).symm
    · obtain ⟨e, he, hbe⟩ := Array.any_eq_true'.1 h1
      rw [Bool.and_eq_true, beq_iff_eq] at hbe
      have h2 := hall e he hbe.1
      rw [hbe.2] at h2
      rcases Nat.lt_or_ge i l.size with h' | h'
      · simp [h'] at hun h2; rw [hun] at h2; cases h2
      · simp [Array.getElem?_eq_none h'] at h2

theorem AnyM.take {i : Nat} {oi : Oper} {v : Value} (hi : ops[i]? = some oi) (hs : Region.noSelect ops = true) (hQ : ∀ c a w, Q (.panic c) (a.put oi.dst v) w → Q (.panic c) a w) :
    ∀ (n : Nat) (l : Array Bool) (a : Act) (w : World), (∀ j oj, ops[j]? = some oj → j ≠ i → l.getD j true = false → (∀ e ∈ oj.after, Region.binds md e = true → e.on ≠ i) → oi.apart ops oj = true) →
      i ∈ Region.ready md ops l → YieldsIf P ops (fun w => ex.contains i = false → S w) oi v a → (ex.contains i = false → S w) → AnyM ex P md ops Q S n (l.setIfInBounds i true) (a.put oi.dst v) w → AnyM ex P md ops Q S (n + 1) l a w
  | n, l, a, w, hf, hr, hy, hS, H => by
    refine ⟨fun h => absurd hr (by rw [h]; simp), fun j hj => ?_⟩
    by_cases hji : j = i
    · subst hji
      exact hy.wpOp hi hS ⟨fun _ h => h, H⟩
    have hjm := ready_mono hj hji
    cases n with
    | zero => rw [H.1] at hjm; cases hjm
    | succ n =>
      obtain ⟨hjun, oj, hoj, hall⟩ := mem_ready.1 hj
      have hno : ∀ e ∈ oj.after, Region.binds md e = true → e.on ≠ i := fun e he hb hei => by
        have h1 := hall e he hb
        have h0 := (mem_ready.1 hr).1
        rw [hei] at h1
        rcases Nat.lt_or_ge i l.size with h' | h'
        · simp [h'] at h0 h1; rw [h0] at h1; cases h1
        · simp [Array.getElem?_eq_none h'] at h1
      have h2 := wpOp_putIf hoj (hf j oj hoj hji hjun hno) (fun cs b => Region.noSelect_spec hs i oi cs b hi) (fun cs b => Region.noSelect_spec hs j oj cs b hoj) hQ hy (H.2 j hjm)
      refine wpOp_mono (fun a' w' h3 => ?_) h2
      refine ⟨h3.2.1, AnyM.take hi hs hQ n (l.setIfInBounds j true) a' w' (fun k ok hk hki hun hno' => hf k ok hk hki ?_ hno') (ready_mono hr (Ne.symm hji)) h3.1 (fun hx => h3.2.1 (waits_noM hx hr hj hji) (hS hx)) ?_⟩
      · by_cases e : j = k
        · subst e; exact hjun
        · rw [getD_set_ne true e] at hun; exact hun
      · rw [Array.setIfInBounds_comm _ _ hji]
        exact h3.2.2

/-- The walk by a named order. -/
def wpOrdM (ex : List Nat) (P : Program) (ops : Array Oper) (Q : Exit → Act → World → Prop) (S : World → Prop) : List (Nat × Bool) → Act → World → Prop
  | [], a, w => Q .normal a w
  | (i, t) :: rest, a, w =>
    match ops[i]? with
    | none => False
    | some o => if t then OrdTake P ops (fun w' => ex.contains i = false → S w') o a w (fun a' w' => wpOrdM ex P ops Q S rest a' w') else OrdBusy P ops Q o a w (fun a' w' => (waitsM ex .any ops i = false → S w') ∧ (rest ≠ [] → S w') ∧ wpOrdM ex P ops Q S rest a' w')

theorem wpOrdM_any (hs : Region.noSelect ops = true) (hQ : ∀ c (a : Act) d v w, Q (.panic c) (a.put d v) w → Q (.panic c) a w) :
    ∀ (l : List (Nat × Bool)) (listed : Array Bool) (a : Act) (w : World), ordB .any ops l listed = true → (l ≠ [] → S w) → wpOrdM ex P ops Q S l a w → AnyM ex P .any ops Q S l.length listed a w
  | [], listed, a, w, hB, _, h => ⟨by simpa [ordB] using hB, h⟩
  | (i, t) :: rest, listed, a, w, hB, hS, h => by
    replace hS : S w := hS (by simp)
    simp only [ordB, Bool.and_eq_true] at hB
    obtain ⟨⟨ho, hc⟩, hB'⟩ := hB
    obtain ⟨o, ho⟩ := Option.isSome_iff_exists.1 ho
    simp only [wpOrdM, ho] at h
    cases t with
    | true =>
      simp only [if_true, Bool.and_eq_true] at hc h
      unfold OrdTake at h
      have hr : i ∈ Region.ready .any ops listed := by simpa using hc.2
      by_cases hw : Region.wanted o (yielded ops a.tmps) = true
      · rw [if_pos hw] at h
        obtain ⟨v, hv, hk⟩ := h
        exact AnyM.take ho hs (fun c a w => hQ c a _ _ w) _ _ _ _ (Region.free_spec ho hc.1) hr (.inl ⟨hw, fun w' hw' => hv ⟨w', hw'⟩⟩) (fun _ => hS) (wpOrdM_any hs hQ rest _ _ _ hB' (fun _ => hS) hk)
      · rw [if_neg hw] at h
        exact AnyM.take ho hs (fun c a w => hQ c a _ _ w) _ _ _ _ (Region.free_spec ho hc.1) hr (.inr ⟨by simpa using hw, rfl⟩) (fun _ => hS) (wpOrdM_any hs hQ rest _ _ _ hB' (fun _ => hS) h)
    | false =>
      simp only [Bool.false_eq_true, if_false, beq_iff_eq] at hc h
      refine ⟨fun h0 => absurd (hc.symm.trans h0) (by simp), fun j hj => ?_⟩
      obtain rfl : j = i := by rw [hc] at hj; simpa using hj
      unfold OrdBusy at h
      unfold wpOp
      rw [ho]
      show if Region.wanted o (yielded ops a.tmps) = true then _ else _
      by_cases hw : Region.wanted o (yielded ops a.tmps) = true
      · rw [if_pos hw] at h ⊢
        exact .inl (Oper.wp_mono (fun a' w' h' => ⟨fun hb _ => h'.1 hb, wpOrdM_any hs hQ rest _ _ _ hB' h'.2.1 h'.2.2⟩) h)
      · rw [if_neg hw] at h ⊢
        exact ⟨fun hb _ => h.1 hb, wpOrdM_any hs hQ rest _ _ _ hB' h.2.1 h.2.2⟩

structure OrdM (ex : List Nat) (P : Program) (ops : Array Oper) (Q : Exit → Act → World → Prop) (S : World → Prop) (l : List (Nat × Bool)) (a : Act) (w : World) : Prop where
  out : wpOrdM ex P ops Q S l a w

theorem wp_region_lastM {id : Nat} {a : Act} {w : World} (ex : List Nat) (l : List (Nat × Bool)) (hm : P.follows .mixedOrders = true) (hs : Region.noSelect ops = true)
    (hB : (ordB .any ops l (Array.replicate ops.size false) && l.length == ops.size) = true) (hS : S w.drew) (h : OrdM ex P ops (NoPanic Q) S l a w.drew) : (Code.region id ops true).wp P Q a w := by
  rw [Bool.and_eq_true] at hB
  have hl : l.length = ops.size := by simpa using hB.2
  refine wp_region_noPanic (wp_region_any hm ?_)
  rw [← hl]
  have := wpOrdM_any (ex := ex) (P := P) (S := S) (Q := NoPanic Q) hs (fun _ _ _ _ _ h => h) l (Array.replicate ops.size false) a w.drew hB.1 (fun _ => hS) h.out
  have := this.any
  rwa [← hl] at this

theorem wpOrdM_pure {ls : List Oper} {i : Nat} {o : Oper} {rest : List (Nat × Bool)} {a : Act} {w : World} (ho' : nth ls i = some o) (hw : Region.wanted o (yielded ls.toArray a.tmps) = true)
    (h : ∀ K : Act → World → Prop, (∀ a w, OrdM ex P ls.toArray Q S rest a w → K a w) → ∃ v, (∀ w' : World, (execOp a.eval o).run P w' = .ok (.value v) w') ∧ K (a.put o.dst v) w) :
    OrdM ex P ls.toArray Q S ((i, true) :: rest) a w := by
  have ho := nth_arr ho'
  refine ⟨?_⟩
  simp only [wpOrdM, ho]
  unfold OrdTake
  simp only [if_true]
  rw [if_pos hw]
  obtain ⟨v, h1, h2⟩ := h _ (fun _ _ h => h.out)
  exact ⟨v, fun i => h1 _, h2⟩
theorem wpOrdM_take {ls : List Oper} {i : Nat} {o : Oper} {rest : List (Nat × Bool)} {a : Act} {w : World} (ho' : nth ls i = some o) (hw : Region.wanted o (yielded ls.toArray a.tmps) = true) (hx : ex.contains i = false)
    (h : ∀ K : Act → World → Prop, (∀ a w, OrdM ex P ls.toArray Q S rest a w → K a w) → ∃ v, (∀ i : { w' // S w' }, (execOp a.eval o).run P i.val = .ok (.value v) i.val) ∧ K (a.put o.dst v) w) :
    OrdM ex P ls.toArray Q S ((i, true) :: rest) a w := by
  have ho := nth_arr ho'
  refine ⟨?_⟩
  simp only [wpOrdM, ho]
  unfold OrdTake
  simp only [if_true]
  rw [if_pos hw]
  obtain ⟨v, h1, h2⟩ := h _ (fun _ _ h => h.out)
  exact ⟨v, fun i => h1 ⟨i.val, i.property hx⟩, h2⟩
theorem wpOrdM_busy {ls : List Oper} {i : Nat} {o : Oper} {rest : List (Nat × Bool)} {a : Act} {w : World} (ho' : nth ls i = some o) (hw : Region.wanted o (yielded ls.toArray a.tmps) = true)
    (h : ∀ K : Act → World → Prop, (∀ a w, S w → OrdM ex P ls.toArray Q S rest a w → K a w) → Oper.wp P o a w K Q) : OrdM ex P ls.toArray Q S ((i, false) :: rest) a w := by
  have ho := nth_arr ho'
  refine ⟨?_⟩
  simp only [wpOrdM, ho, Bool.false_eq_true, if_false]
  unfold OrdBusy
  rw [if_pos hw]
  exact h _ (fun _ _ hs h => ⟨fun _ => hs, fun _ => hs, h.out⟩)
/-- The last one, which waits for all. -/
theorem wpOrdM_last {ls : List Oper} {i : Nat} {o : Oper} {a : Act} {w : World} (ho' : nth ls i = some o) (hw : Region.wanted o (yielded ls.toArray a.tmps) = true) (hl : waitsM ex .any ls.toArray i = true)
    (h : ∀ K : Act → World → Prop, (∀ a w, Q .normal a w → K a w) → Oper.wp P o a w K Q) : OrdM ex P ls.toArray Q S [(i, false)] a w := by
  have ho := nth_arr ho'
  refine ⟨?_⟩
  simp only [wpOrdM, ho, Bool.false_eq_true, if_false]
  unfold OrdBusy
  rw [if_pos hw]
  exact h _ (fun _ _ h => ⟨fun e => absurd (hl.symm.trans e) (by simp), fun e => absurd rfl e, h⟩)
end
end
section
open Go.RowKit
set_option linter.unusedSimpArgs false
set_option linter.unusedVariables false
/-- Behind the steps: how it ended, what was shown, and the words. -/
structure TS (w : World) (G N : Nat) (y : Ys) (f : Nat → Int) (se : List Se) (sv : Value) (wa : Option Addr) (wc wg : Nat) : Prop where
  e : Wr w G 6 (.int .i64 y.e)
  v : Wr w G 7 (.int .i64 y.v)
  k : Wr w G 8 (.int .i64 y.k)
  csv : Wr w G 9 sv
  mv : Wr w G 10 y.mv
  words : Wr w G 1 (.slice wa N wc)
  hwa : 0 < N → wa = some ⟨wg, 0, none⟩
  cells : ∀ j, j < N → w.cell? ⟨wg, j, none⟩ = some (.int .i64 (f j))
  lt : 0 < N → G < wg
  cap : N ≤ wc
  seen : SeenOwn w (G + 1) sv se
  n : N ≤ 384
theorem R4.here {w : World} {G N : Nat} {y : Ys} {s : Sp} (h : R4 w G N y s []) (ha : s.ahead = false) : ∃ sv wa wc wg, TS w G N y s.real.wd s.seen sv wa wc wg := by
  obtain ⟨hN, z, hz⟩ := h.out
  have e : s.real = s.pl := by unfold Sp.real; rw [if_neg (by rw [ha]; decide)]
  rw [e]
  exact ⟨z.sv, z.a.wa, z.a.wc, z.a.wg, hz.cells 6 (by omega), hz.cells 7 (by omega), hz.cells 8 (by omega), hz.cells 9 (by omega), hz.cells 10 (by omega), hz.cells 1 (by omega), hz.rest.cur.wa, fun j hj => (hz.rest.cur.words j hj).1, fun h0 => (hz.rest.lab _ (by rw [hz.rest.cur.lw h0]; omega)).1, hz.rest.cur.cap, hz.rest.seen, hN⟩
theorem RS.there {w : World} {G N : Nat} {y : Ys} {s : Sp} {z : Zs} (hz : RS w G N y s [] z) (hN : N ≤ 384) (ha : s.ahead = true) :
    ∃ sv wa wc wg, TS ((((w.setCell ⟨G, 0, none⟩ z.b0).setCell ⟨G, 1, none⟩ z.b1).setCell ⟨G, 2, none⟩ z.b2).setCell ⟨G, 3, none⟩ z.b3) G N y s.real.wd s.seen sv wa wc wg := by
  have e : s.real = s.back := by unfold Sp.real; rw [if_pos ha]
  rw [e]
  have g4 := gr_set (gr_set (gr_set (gr_set (grown_refl w (some G)) 0 z.b0) 1 z.b1) 2 z.b2) 3 z.b3
  have r := hz.rest.kept hN g4 hz.rest.own
  obtain ⟨hb, _, e1, _⟩ := r.back ha
  have hk : ∀ j v, Wr w G j v → 4 ≤ j → Wr ((((w.setCell ⟨G, 0, none⟩ z.b0).setCell ⟨G, 1, none⟩ z.b1).setCell ⟨G, 2, none⟩ z.b2).setCell ⟨G, 3, none⟩ z.b3) G j v := fun j v hv n =>
    (((hv.other _ _ _ (by omega)).other _ _ _ (by omega)).other _ _ _ (by omega)).other _ _ _ (by omega)
  refine ⟨z.sv, z.b.wa, z.b.wc, z.b.wg, hk 6 _ (hz.cells 6 (by omega)) (by omega), hk 7 _ (hz.cells 7 (by omega)) (by omega), hk 8 _ (hz.cells 8 (by omega)) (by omega), hk 9 _ (hz.cells 9 (by omega)) (by omega), hk 10 _ (hz.cells 10 (by omega)) (by omega), ?_, hb.wa, fun j hj => (hb.words j hj).1, fun h0 => (r.lab _ (by rw [hb.lw h0]; omega)).1, hb.cap, r.seen, hN⟩
  have := (((((hz.cells 1 (by omega)).other G 0 z.b0 (by omega)).same z.b1).other G 2 z.b2 (by omega)).other G 3 z.b3 (by omega))
  exact (congrArg _ e1).mp this
structure Kept (A : Prop) : Prop where
  out : A
theorem by_tail {G : Prop} {A : Prop} (h1 : Kept A → G) (h2 : A) : G := h1 ⟨h2⟩
def deadSlots : List Nat := [11, 55, 56, 57, 58, 59, 60, 61, 62, 63, 64, 65, 66, 67, 68, 69, 70, 71, 72, 73, 74, 75, 76, 77, 78, 79, 80, 81, 82, 83, 84, 85, 86, 87, 88, 89, 90, 91, 92, 93, 94, 95, 96, 97, 98, 99, 100, 101, 102, 103, 104, 105, 106, 107, 108, 109, 110, 111, 112, 113, 114, 115, 116, 117, 118, 119, 120, 121, 122, 123, 124, 125, 126, 127, 128, 129, 130, 131, 132, 133, 134, 135, 136, 137, 138, 139, 140, 141, 142, 143, 144, 145, 146, 147, 148]
theorem put_self (a : Act) (k : Nat) (h : k < a.tmps.size) : a.put (some k) (a.tmps.getD k undef) = a := by
  unfold Act.put
  cases a with
  | mk t d =>
    simp only at h ⊢
    congr 1
    apply Array.ext_getElem?
    intro i
    rw [Array.getElem?_setIfInBounds]
    by_cases e : k = i
    · subst e; simp [h]
    · simp [e]
theorem put_selves (a : Act) : ∀ ks : List Nat, ks.all (· < a.tmps.size) = true → ks.foldl (fun b k => b.put (some k) (a.tmps.getD k undef)) a = a
  | [], _ => rfl
  | k :: ks, h => by
    simp only [List.all_cons, Bool.and_eq_true, decide_eq_true_eq] at h
    rw [List.foldl_cons, put_self a k h.1]
    exact put_selves a ks h.2
theorem wp_slots {P : Program} {C : Code} {Q : Exit → Act → World → Prop} {w : World} (ks : List Nat) {a : Act} (h : ks.all (· < a.tmps.size) = true)
    (k : ∀ f : Nat → Value, C.wp P Q (ks.foldl (fun b k => b.put (some k) (f k)) a) w) : C.wp P Q a w := by
  have := k (fun k => a.tmps.getD k undef)
  rw [put_selves a ks h] at this
  exact this
theorem made_at (j : Nat) (h : j < 10) : (madeCells #[.int .i64 0] 10)[j]? = some (.int .i64 0) := by
  unfold madeCells
  simp [h, Nat.mod_one]
end
end Go.Proofs.Ytapagihngaiebaa
