/-
  The texts Way, SpecAlike, SpecMore, StepS, Part, SMap, SMach, SMeth, SBuilt, one behind the other.
-/
import Derived.Test.YtbfhchhggkpbdaaJoined2
import Derived.Test.YtbfhchhggkpbdaaJoined0
import Derived.WalkKit
import Derived.Laws.IdiomCopy
import Derived.Test.YtbfhchhggkpbdaaRows
import Derived.DeepKeys4
import Derived.Maps.Own

/-
  What holds of every state of a run stays so behind a step; and where the machine's loop stands. No walk but GoesOn's.
-/
namespace Go.Proofs.Ytbfhchhggkpbdaa
open Go.RowKit
set_option linter.unusedVariables false
set_option linter.unusedSimpArgs false

theorem opI_B64 (o x y : Int) : B64 (opI o x y) := by
  unfold opI
  repeat' split
  all_goals first | exact B64_wrap _ | exact B64_zero

theorem setR_B64 {r : Nat → Int} (hr : ∀ j, j < 10 → B64 (r j)) (a v : Int) (hv : B64 v) : ∀ j, j < 10 → B64 (setR r a v j) := by
  intro j hj
  unfold setR
  split
  · exact hv
  · exact hr j hj

theorem regsI_B64 {r : Nat → Int} (hr : ∀ j, j < 10 → B64 (r j)) (i : Ins) (hb : i.op = 2 → i.b.toNat < 10) (hn : B64 i.n) : ∀ j, j < 10 → B64 ((regsI r i).1 j) := by
  unfold regsI
  by_cases h1 : i.op = 1
  · rw [if_pos h1]; exact setR_B64 hr _ _ hn
  rw [if_neg h1]
  by_cases h2 : i.op = 2
  · rw [if_pos h2]; exact setR_B64 hr _ _ (hr _ (hb h2))
  rw [if_neg h2]
  by_cases h3 : i.op = 10
  · rw [if_pos h3]; exact setR_B64 hr _ _ (B64_wrap _)
  rw [if_neg h3]
  by_cases h4 : i.op = 11
  · rw [if_pos h4]
    dsimp only
    split
    · exact setR_B64 hr _ _ B64_zero
    · exact hr
  rw [if_neg h4]
  by_cases h5 : i.op = 12
  · rw [if_pos h5]; exact hr
  rw [if_neg h5]
  exact setR_B64 hr _ _ (opI_B64 _ _ _)
theorem regsI_len (r : Nat → Int) (i : Ins) : (regsI r i).2.length ≤ 1 := by
  unfold regsI
  repeat' split
  all_goals first | exact Nat.zero_le _ | exact Nat.le_refl _

theorem step_inv {p : Prg} {m : Mem} {k : Nat} {s : St} (h : Inv p m k s) (hat : s.at_ < p.cl) (hin : InsOk p.rl p.log p.cl 10 (p.ins s.at_)) (hn : B64 (p.ins s.at_).n) (hrl : m.ml = p.rl) : Inv p m (k + 1) (stepI p s).1 := by
  have hseen := h.seen
  have hl1 : ∀ l : List Se, l.length ≤ 1 → (s.seen ++ [(⟨1, s.at_, 0⟩ : Se)] ++ l).length ≤ 2 * (k + 1) := fun l hl => by simp; omega
  have hl0 : (s.seen ++ [(⟨1, s.at_, 0⟩ : Se)]).length ≤ 2 * (k + 1) := by simp; omega
  unfold stepI
  by_cases h7 : (p.ins s.at_).op = 7
  · rw [if_pos h7]
    have : 0 ≤ (p.ins s.at_).n ∧ (p.ins s.at_).n < p.cl := by unfold InsOk Plc at hin; simp [h7] at hin; exact hin.2.2.2
    exact ⟨by dsimp only; omega, h.r, h.ml, h.len, h.wd, hl0⟩
  rw [if_neg h7]
  by_cases h8 : (p.ins s.at_).op = 8
  · rw [if_pos h8]
    have : 0 ≤ (p.ins s.at_).n ∧ (p.ins s.at_).n < p.cl := by unfold InsOk Plc at hin; simp [h8] at hin; exact hin.2.2.2
    refine ⟨?_, h.r, h.ml, h.len, h.wd, hl0⟩
    dsimp only
    split <;> omega
  rw [if_neg h8]
  by_cases h9 : (p.ins s.at_).op = 9
  · rw [if_pos h9]; exact ⟨by dsimp only; omega, h.r, h.ml, h.len, h.wd, hl0⟩
  rw [if_neg h9]
  by_cases hp : 0 ≤ putI (p.ins s.at_)
  · rw [if_pos hp]
    have hop : (p.ins s.at_).op = 3 ∨ (p.ins s.at_).op = 4 ∨ (p.ins s.at_).op = 5 ∨ (p.ins s.at_).op = 6 := by
      unfold putI at hp
      by_cases e1 : (p.ins s.at_).op = 3 ∨ (p.ins s.at_).op = 5
      · omega
      · rw [if_neg e1] at hp
        by_cases e2 : (p.ins s.at_).op = 4 ∨ (p.ins s.at_).op = 6
        · omega
        · rw [if_neg e2] at hp; omega
    have hc : (p.ins s.at_).c.toNat < m.ml ∧ (p.ins s.at_).a.toNat < 10 := by
      unfold InsOk Reg Rgn at hin
      rcases hop with e | e | e | e <;> simp [e] at hin <;> omega
    by_cases hx : idxI s.r (p.ins s.at_) < 0 ∨ (s.m.len (p.ins s.at_).c.toNat : Int) ≤ idxI s.r (p.ins s.at_)
    · rw [if_pos hx]; exact ⟨by dsimp only; omega, h.r, h.ml, h.len, h.wd, hl0⟩
    rw [if_neg hx]
    have hlen := h.len (p.ins s.at_).c.toNat
    by_cases h1 : putI (p.ins s.at_) = 1
    · rw [if_pos h1]
      refine ⟨by dsimp only; omega, h.r, h.ml, h.len, fun j hj i hi => ?_, hl1 _ (Nat.le_refl _)⟩
      dsimp only [setW]
      split
      · exact h.r _ hc.2
      · exact h.wd j hj i hi
    · rw [if_neg h1]
      exact ⟨by dsimp only; omega, setR_B64 h.r _ _ (h.wd _ hc.1 _ (by omega)), h.ml, h.len, h.wd, hl1 _ (Nat.le_refl _)⟩
  rw [if_neg hp]
  refine ⟨by dsimp only; omega, regsI_B64 h.r _ (fun e => ?_) hn, h.ml, h.len, h.wd, hl1 _ (regsI_len _ _)⟩
  unfold InsOk Reg at hin
  simp [e] at hin
  omega

/-- What the machine is at the end. -/
structure Fin_ (m : Mem) (R : Sh) (x : Ms) (se : List Se) : Prop where
  fin : x.fin = R.fin
  val : x.val = R.val
  steps : x.steps = R.steps
  seen : se = R.seen
  w : Wds m R.mem x
  ml : R.mem.ml = m.ml
  len : ∀ j, R.mem.len j = m.len j
  short : se.length ≤ 100000

/-- What the machine is on the way. -/
structure Way (p : Prg) (m : Mem) (fuel g : Nat) (R : Sh) (x : Ms) (se : List Se) (k : Nat) (s : St) : Prop where
  kg : k + g = fuel
  rel : Rel m fuel x s k
  seen : se = s.seen
  inv : Inv p m k s
  run : runI p g k s = R

theorem Rel.shorter {m : Mem} {fuel : Nat} {x : Ms} {s : St} {k : Nat} (h : Rel m fuel x s k) (f v : Int) (mm : Mem) (e : mm = s.m) : Wds m mm { x with fin := f, ended := true } := by subst e; exact ⟨h.w.wd, h.w.st⟩

theorem goesOn_all (p : Prg) (m : Mem) (fuel g : Nat) (R : Sh) (w : World) (M : Nat) (rv : Value) (ca : Option Addr) (cc : Nat) (x : Ms) (se : List Se) (hf : fuel ≤ 40000) (h : Run w M rv (.slice ca p.cl cc) x se) (hw : (∃ k s, Way p m fuel g R x se k s) ∨ (x.ended = true ∧ Fin_ m R x se)) :
    Calls Try.prog 46 #[.pointer (some ⟨M, 0, none⟩)] w fun e w' => Below M w w' ∧ ∃ (b : Bool) (x' : Ms), e = .returned (.bool b) ∧ Run w' M rv (.slice ca p.cl cc) x' se ∧ ((b = false ∧ Fin_ m R x' se) ∨ (b = true ∧ ∃ g' k s, g = g' + 1 ∧ Way p m fuel g R x' se k s ∧ s.at_ < p.cl)) := by
  rcases hw with ⟨k, s, hw⟩ | ⟨he, hfin⟩
  · have hsh : se.length ≤ 100000 := by have := hw.inv.seen; have := hw.kg; rw [hw.seen]; omega
    cases g with
    | zero =>
      have hk := hw.kg
      refine (seq_goesOn_fuel w M rv _ x se h hw.rel.ended (by rw [hw.rel.steps, hw.rel.fuel]; omega)).mono ?_
      rintro e w' ⟨rfl, r2, b2⟩
      have hR := hw.run
      rw [runI] at hR
      subst hR
      exact ⟨b2, false, _, rfl, r2, .inl ⟨rfl, rfl, hw.rel.val, by dsimp only; rw [hw.rel.steps], hw.seen, hw.rel.shorter _ 0 _ rfl, hw.inv.ml, hw.inv.len, hsh⟩⟩
    | succ g' =>
      have hk := hw.kg
      by_cases hat : s.at_ < p.cl
      · refine (seq_goesOn_on w M rv ca p.cl cc x se h hw.rel.ended (by rw [hw.rel.steps, hw.rel.fuel]; omega) (by rw [hw.rel.next]; omega)).mono ?_
        rintro e w' ⟨rfl, r2, b2⟩
        exact ⟨b2, true, x, rfl, r2, .inr ⟨rfl, g', k, s, rfl, hw, hat⟩⟩
      · refine (seq_goesOn_next w M rv ca p.cl cc x se h hw.rel.ended (by rw [hw.rel.steps, hw.rel.fuel]; omega) (by rw [hw.rel.next]; omega)).mono ?_
        rintro e w' ⟨rfl, r2, b2⟩
        have hR := hw.run
        rw [runI, if_pos (by omega)] at hR
        subst hR
        exact ⟨b2, false, _, rfl, r2, .inl ⟨rfl, rfl, hw.rel.val, by dsimp only; rw [hw.rel.steps], hw.seen, hw.rel.shorter _ 0 _ rfl, hw.inv.ml, hw.inv.len, hsh⟩⟩
  · refine (seq_goesOn_over w M rv _ x se h he).mono ?_
    rintro e w' ⟨rfl, r2, b2⟩
    exact ⟨b2, false, x, rfl, r2, .inl ⟨rfl, hfin⟩⟩

/-- Behind a step. -/
theorem way_next {p : Prg} {m : Mem} {fuel g' : Nat} {R : Sh} {x x' : Ms} {se : List Se} {k : Nat} {s : St} (hw : Way p m fuel (g' + 1) R x se k s) (hat : s.at_ < p.cl) (hin : InsOk p.rl p.log p.cl 10 (p.ins s.at_)) (hn : B64 (p.ins s.at_).n) (hrl : m.ml = p.rl) (hf : fuel ≤ 40000)
    (ha : After m fuel x' (k + 1) (stepI p s)) : (∃ k s', Way p m fuel g' R x' (stepI p s).1.seen k s') ∨ (x'.ended = true ∧ Fin_ m R x' (stepI p s).1.seen) := by
  have hi := step_inv hw.inv hat hin hn hrl
  have hR := hw.run
  rw [runI, if_neg (by omega)] at hR
  have hk := hw.kg
  have hs := hi.seen
  unfold After at ha
  cases hq : (stepI p s).2 with
  | none =>
    rw [hq] at ha hR
    exact .inl ⟨k + 1, _, by omega, ha, rfl, hi, hR⟩
  | some e =>
    rw [hq] at ha hR
    dsimp only at hR ha
    subst hR
    refine .inr ⟨ha.ended, ha.fin, ha.val, by rw [ha.steps]; push_cast; rfl, rfl, ha.w, hi.ml, hi.len, by omega⟩

end Go.Proofs.Ytbfhchhggkpbdaa

/-
  A step with steps ahead of time, against the one without, on plain data: where the run really is, is where it would be. No Go text in sight.
-/
namespace Go.Proofs.Ytbfhchhggkpbdaa
open Go.RowKit
set_option linter.unusedVariables false
set_option linter.unusedSimpArgs false

/-- A program that is hard, and a memory that fits. -/
structure Ctx (p : Prg) (m : Mem) : Prop where
  ok : ∀ i, i < p.cl → InsOk p.rl p.log p.cl 10 (p.ins i)
  rl : m.ml = p.rl
  six : m.ml ≤ 6
  len : ∀ i, i < m.ml → (m.len i : Int) = wordsI (p.log i)
  pos : ∀ i, i < m.ml → 0 < m.len i ∧ m.len i ≤ 64

/-- A place, and where a run without steps ahead of time is. -/
structure Alike (m : Mem) (q : Pl) (st : St) : Prop where
  at_ : st.at_ = q.at_
  r : st.r = q.r
  wd : ∀ c, c < m.ml → ∀ i, i < m.len c → q.wd (baseN m.len c + i) = st.m.wd c i
  ml : st.m.ml = m.ml
  len : ∀ j, st.m.len j = m.len j

theorem flat_set {m mm : Mem} {wd : Nat → Int} (h : ∀ c, c < m.ml → ∀ i, i < m.len c → wd (baseN m.len c + i) = mm.wd c i) (c i : Nat) (hc : c < m.ml) (hi : i < m.len c) (v : Int) :
    ∀ c', c' < m.ml → ∀ i', i' < m.len c' → setF wd (baseN m.len c + i) v (baseN m.len c' + i') = (setW mm c i v).wd c' i' := by
  intro c' hc' i' hi'
  unfold setF setW
  dsimp only
  by_cases e : baseN m.len c' + i' = baseN m.len c + i
  · obtain ⟨rfl, rfl⟩ := base_inj m.len hi' hi e
    rw [if_pos rfl, if_pos ⟨rfl, rfl⟩]
  · rw [if_neg e, if_neg (fun h => e (by rw [h.1, h.2]))]
    exact h c' hc' i' hi'

/-- What a step tells that is not ahead of time. -/
def StepTells (p : Prg) (m : Mem) (s : Sp) (st : St) : Prop :=
  match (stepI p st).2 with
  | some e => (stepS p s).2.2 = some e ∧ (stepS p s).1.real = s.pl ∧ (stepI p st).1.m = st.m
  | none => (stepS p s).2.2 = none ∧ Alike m ((stepS p s).1.after (stepS p s).2.1).real (stepI p st).1

theorem step_alike {p : Prg} {m : Mem} {s : Sp} {st : St} (C : Ctx p m) (ha : s.ahead = false) (hat : s.pl.at_ < p.cl) (h : Alike m s.pl st) : StepTells p m s st := by
  have hin := C.ok _ hat
  unfold StepTells
  obtain ⟨h1, h2, h3, h4, h5⟩ := h
  obtain ⟨sat, sr, sm, sse⟩ := st
  dsimp only at h1 h2 h3 h4 h5
  subst h1 h2
  cases hI : p.ins s.pl.at_ with
  | mk op a b c n =>
  rw [hI] at hin
  by_cases h7 : op = 7
  · subst h7
    simp [stepI, stepS, hI, Sp.see, Sp.go, Sp.after, Sp.real, ha]
    exact ⟨rfl, rfl, h3, h4, h5⟩
  by_cases h8 : op = 8
  · subst h8
    cases hh : holdsI c (s.pl.r a.toNat) (s.pl.r b.toNat) with
    | true =>
      by_cases hc : s.choice = 0
      · simp [stepI, stepS, hI, Sp.see, Sp.go, Sp.after, Sp.real, ha, hh, hc]
        exact ⟨rfl, rfl, h3, h4, h5⟩
      · simp [stepI, stepS, hI, Sp.see, Sp.go, Sp.after, Sp.real, Sp.leave, ha, hh, hc]
        exact ⟨rfl, rfl, h3, h4, h5⟩
    | false =>
      by_cases hc : s.choice = 0
      · simp [stepI, stepS, hI, Sp.see, Sp.go, Sp.after, Sp.real, ha, hh, hc]
        exact ⟨rfl, rfl, h3, h4, h5⟩
      · simp [stepI, stepS, hI, Sp.see, Sp.go, Sp.after, Sp.real, Sp.leave, ha, hh, hc]
        exact ⟨rfl, rfl, h3, h4, h5⟩
  by_cases h9 : op = 9
  · subst h9
    simp [stepI, stepS, hI, Sp.see, Sp.go, Sp.after, Sp.real, ha]
  by_cases hop : op = 3 ∨ op = 4 ∨ op = 5 ∨ op = 6
  · have hw : 0 ≤ a ∧ a < 10 ∧ 0 ≤ b ∧ b < 10 ∧ 0 ≤ c ∧ c < p.rl := by
      unfold InsOk Reg Rgn at hin
      dsimp only at hin
      rcases hop with rfl | rfl | rfl | rfl <;> simp at hin <;> omega
    have hc : c.toNat < m.ml := by have := C.rl; omega
    have hb := base_eq p m C.len c.toNat (by omega)
    have hl := C.len c.toNat hc
    have h12 : ¬ op = 12 := by omega
    have hput : 0 ≤ putI ⟨op, a, b, c, n⟩ := by
      rcases hop with h | h | h | h
      · rw [putI_load (.inl h)]; decide
      · rw [putI_put (.inl h)]; decide
      · rw [putI_load (.inr h)]; decide
      · rw [putI_put (.inr h)]; decide
    by_cases hx : idxI s.pl.r ⟨op, a, b, c, n⟩ < 0 ∨ (m.len c.toNat : Int) ≤ idxI s.pl.r ⟨op, a, b, c, n⟩
    · have e1 := step_out (p := p) (s := ⟨s.pl.at_, s.pl.r, sm, sse⟩) hI hop (by dsimp only; rw [h5]; exact hx)
      rw [e1]
      dsimp only
      rw [hl] at hx
      simp [stepS, hI, h7, h8, h9, h12, hput, ha, hx, Sp.see, Sp.real]
    · have hlt : baseN m.len c.toNat + (idxI s.pl.r ⟨op, a, b, c, n⟩).toNat < baseN m.len m.ml := by
        have := baseN_mono m.len (c.toNat + 1) m.ml (by omega)
        simp only [baseN] at this
        omega
      have hall : allI p = (baseN m.len m.ml : Int) := by unfold allI; rw [← C.rl]; exact (base_eq p m C.len m.ml (Nat.le_refl _)).symm
      have h384 := baseN_le m.len m.ml (fun j hj => (C.pos j hj).2)
      have h6 := C.six
      have hwr : wrap64 (baseI p.log c.toNat + idxI s.pl.r ⟨op, a, b, c, n⟩) = ((baseN m.len c.toNat + (idxI s.pl.r ⟨op, a, b, c, n⟩).toNat : Nat) : Int) := by
        rw [← hb]; unfold wrap64; push_cast; omega
      obtain ⟨ix, hix⟩ : ∃ ix, (idxI s.pl.r ⟨op, a, b, c, n⟩).toNat = ix := ⟨_, rfl⟩
      rw [hix] at hlt hwr
      have hixl : ix < m.len c.toNat := by omega
      have hnr : ¬ (((baseN m.len c.toNat + ix : Nat) : Int) < 0 ∨ allI p ≤ ((baseN m.len c.toNat + ix : Nat) : Int)) := by rw [hall]; push_cast; omega
      have hxs : ¬ (s.ahead = false ∧ (idxI s.pl.r ⟨op, a, b, c, n⟩ < 0 ∨ wordsI (p.log c.toNat) ≤ idxI s.pl.r ⟨op, a, b, c, n⟩)) := by rw [← hl]; exact fun h => hx h.2
      have es : stepS p s = (wordS p (((s.see ⟨1, s.pl.at_, 0⟩).see ⟨2, ((baseN m.len c.toNat + ix : Nat) : Int), putI ⟨op, a, b, c, n⟩⟩).go (s.pl.at_ + 1)) ⟨op, a, b, c, n⟩ ((baseN m.len c.toNat + ix : Nat) : Int), false, none) := by
        unfold stepS
        rw [hI]
        dsimp only
        rw [if_neg h7, if_neg h8, if_neg (fun h => h9 h.1), if_neg (by omega), if_pos hput, if_neg hxs, hwr]
      by_cases hopp : op = 4 ∨ op = 6
      · have e1 := step_put (p := p) (s := ⟨s.pl.at_, s.pl.r, sm, sse⟩) hI hopp (by dsimp only; rw [h5]; exact hx)
        rw [e1, es]
        dsimp only
        refine ⟨rfl, ?_⟩
        unfold wordS
        rw [if_neg hnr, if_pos (putI_put hopp)]
        simp only [Sp.after, Sp.see, Sp.go, ha, Sp.real, if_neg (by decide : ¬ false = true), Int.toNat_natCast]
        rw [hix]
        exact ⟨rfl, rfl, flat_set h3 c.toNat ix hc hixl _, h4, h5⟩
      · have hopl : op = 3 ∨ op = 5 := by omega
        have e1 := step_load (p := p) (s := ⟨s.pl.at_, s.pl.r, sm, sse⟩) hI hopl (by dsimp only; rw [h5]; exact hx)
        rw [e1, es]
        dsimp only
        refine ⟨rfl, ?_⟩
        unfold wordS
        rw [if_neg hnr, if_neg (by rw [putI_load hopl]; decide)]
        have hval := h3 c.toNat hc ix hixl
        rw [hix]
        split
        · simp [Sp.after, Sp.see, Sp.go, ha, Sp.real, Sp.leave, Sp.reg]
          refine ⟨rfl, ?_, h3, h4, h5⟩
          dsimp only
          rw [show ((baseN m.len c.toNat : Int) + (ix : Int)).toNat = baseN m.len c.toNat + ix by omega, hval]
        · simp [Sp.after, Sp.see, Sp.go, ha, Sp.real, Sp.leave, Sp.reg]
          refine ⟨rfl, ?_, h3, h4, h5⟩
          dsimp only
          rw [show ((baseN m.len c.toNat : Int) + (ix : Int)).toNat = baseN m.len c.toNat + ix by omega, hval]
  have e1 := step_regs (p := p) (s := ⟨s.pl.at_, s.pl.r, sm, sse⟩) hI (by dsimp only; omega) (by dsimp only; omega) (by dsimp only; omega) (by dsimp only; omega) h7 h8 h9
  have hput := putI_no (i := ⟨op, a, b, c, n⟩) (by dsimp only; omega) (by dsimp only; omega) (by dsimp only; omega) (by dsimp only; omega)
  rw [e1]
  dsimp only
  by_cases h12 : op = 12
  · subst h12
    simp [stepS, hI, ha, Sp.see, Sp.go, Sp.after, Sp.real, regsI]
    exact ⟨rfl, rfl, h3, h4, h5⟩
  · have es : stepS p s = ({ (s.see ⟨1, s.pl.at_, 0⟩).go (s.pl.at_ + 1) with pl := ⟨s.pl.at_ + 1, (regsI s.pl.r ⟨op, a, b, c, n⟩).1, s.pl.wd, s.pl.past⟩, seen := s.seen ++ [⟨1, s.pl.at_, 0⟩] ++ (regsI s.pl.r ⟨op, a, b, c, n⟩).2 }, false, none) := by
      unfold stepS
      rw [hI]
      dsimp only
      rw [if_neg h7, if_neg h8, if_neg (fun h => h9 h.1), if_neg (by omega), hput, if_neg (by decide)]
    rw [es]
    simp only [Sp.after, Sp.see, Sp.go, ha, Sp.real, if_neg (by decide : ¬ false = true)]
    exact ⟨trivial, rfl, rfl, h3, h4, h5⟩


theorem reg_keeps (s : Sp) (a v : Int) : (s.reg a v).ahead = s.ahead ∧ (s.reg a v).back = s.back := ⟨rfl, rfl⟩
theorem leave_keeps {s : Sp} (h : s.ahead = true) : s.leave = s := by unfold Sp.leave; rw [if_pos h]

theorem wordS_ahead (p : Prg) (s : Sp) (i : Ins) (n : Int) (h : s.ahead = true) : (wordS p s i n).ahead = true ∧ (wordS p s i n).back = s.back := by
  unfold wordS
  split
  · split
    · exact ⟨h, rfl⟩
    · exact ⟨h, rfl⟩
  · split
    · exact ⟨h, rfl⟩
    · split
      · rw [leave_keeps (by exact h)]
        exact ⟨h, rfl⟩
      · exact ⟨h, rfl⟩

theorem step_ahead (p : Prg) (s : Sp) (h : s.ahead = true) : (stepS p s).2.2 = none ∧ (stepS p s).1.ahead = true ∧ (stepS p s).1.back = s.back := by
  unfold stepS
  by_cases h7 : (p.ins s.pl.at_).op = 7
  · rw [if_pos h7]; exact ⟨rfl, h, rfl⟩
  rw [if_neg h7]
  by_cases h8 : (p.ins s.pl.at_).op = 8
  · rw [if_pos h8]
    by_cases hh : holdsI (p.ins s.pl.at_).c (s.pl.r (p.ins s.pl.at_).a.toNat) (s.pl.r (p.ins s.pl.at_).b.toNat) = true
    · rw [if_pos hh]
      by_cases hc : s.choice = 0
      · rw [if_pos hc]; exact ⟨rfl, h, rfl⟩
      · rw [if_neg hc, leave_keeps (by exact h)]; exact ⟨rfl, h, rfl⟩
    · rw [if_neg hh]
      by_cases hc : s.choice = 0
      · rw [if_pos hc]; exact ⟨rfl, h, rfl⟩
      · rw [if_neg hc, leave_keeps (by exact h)]; exact ⟨rfl, h, rfl⟩
  rw [if_neg h8, if_neg (by rw [h]; simp)]
  by_cases h9 : (p.ins s.pl.at_).op = 9 ∨ (p.ins s.pl.at_).op = 12
  · rw [if_pos h9]; exact ⟨rfl, h, rfl⟩
  rw [if_neg h9]
  by_cases hp : 0 ≤ putI (p.ins s.pl.at_)
  · rw [if_pos hp, if_neg (by rw [h]; simp)]
    exact ⟨rfl, wordS_ahead p _ _ _ h⟩
  · rw [if_neg hp]; exact ⟨rfl, h, rfl⟩

theorem after_real {s : Sp} (h : s.ahead = true) (over : Bool) : (s.after over).real = s.back := by
  unfold Sp.after
  rw [if_pos h]
  split
  · simp [Sp.returns, Sp.real]
  · simp [Sp.real, h]

theorem noneLeft_real (s : Sp) (cl : Nat) : (s.noneLeft cl).real = s.real := by
  unfold Sp.noneLeft
  split
  · rename_i h; simp [Sp.returns, Sp.real, h.2]
  · rfl
theorem noneLeft_ahead {s : Sp} {cl : Nat} (h : cl ≤ (s.noneLeft cl).pl.at_) : (s.noneLeft cl).ahead = false := by
  unfold Sp.noneLeft at h ⊢
  by_cases hc : cl ≤ s.pl.at_ ∧ s.ahead = true
  · rw [if_pos hc]; rfl
  · rw [if_neg hc] at h ⊢
    cases ha : s.ahead with
    | false => rfl
    | true => exact absurd ⟨h, ha⟩ hc

/-- What is done ahead of time is taken back: who ends otherwise than by its fuel ends as without steps ahead of time, with as much fuel or more. -/
theorem spec_back {p : Prg} {m : Mem} (C : Ctx p m) : ∀ (g g' k k' : Nat) (s : Sp) (st : St), g ≤ g' → Alike m s.real st → ¬ (runS p g k s).fin = 0 →
    (runI p g' k' st).fin = (runS p g k s).fin ∧ (runI p g' k' st).val = (runS p g k s).val ∧ (runI p g' k' st).mem.ml = m.ml ∧ (∀ j, (runI p g' k' st).mem.len j = m.len j) ∧
      ∀ c, c < m.ml → ∀ i, i < m.len c → (runS p g k s).wd (baseN m.len c + i) = (runI p g' k' st).mem.wd c i
  | 0, g', k, k', s, st, _, _, h => absurd rfl h
  | g + 1, 0, k, k', s, st, hg, _, _ => by omega
  | g + 1, g' + 1, k, k', s, st, hg, hl, hf => by
    have hl1 : Alike m (s.noneLeft p.cl).real st := by rw [noneLeft_real]; exact hl
    rw [runS] at hf ⊢
    obtain ⟨s1, hs1⟩ : ∃ s1, s.noneLeft p.cl = s1 := ⟨_, rfl⟩
    have hna := noneLeft_ahead (s := s) (cl := p.cl)
    rw [hs1] at hf hl1 hna ⊢
    by_cases hc : p.cl ≤ s1.pl.at_
    · rw [if_pos hc] at hf ⊢
      have hr : s1.real = s1.pl := by unfold Sp.real; rw [if_neg (by rw [hna hc]; decide)]
      rw [hr] at hl1 ⊢
      rw [runI, if_pos (by rw [hl1.at_]; exact hc)]
      exact ⟨rfl, rfl, hl1.ml, hl1.len, hl1.wd⟩
    · rw [if_neg hc] at hf ⊢
      cases ha : s1.ahead with
      | true =>
        obtain ⟨e1, e2, e3⟩ := step_ahead p s1 ha
        rw [e1] at hf ⊢
        dsimp only at hf ⊢
        refine spec_back C g (g' + 1) (k + 1) k' _ st (by omega) ?_ hf
        rw [after_real e2, e3]
        have hr : s1.real = s1.back := by unfold Sp.real; rw [if_pos ha]
        rw [← hr]
        exact hl1
      | false =>
        have hr : s1.real = s1.pl := by unfold Sp.real; rw [if_neg (by rw [ha]; decide)]
        rw [hr] at hl1
        have ht := step_alike C ha (by omega) hl1
        unfold StepTells at ht
        have hat : ¬ p.cl ≤ st.at_ := by rw [hl1.at_]; exact hc
        cases hq : (stepI p st).2 with
        | some e =>
          rw [hq] at ht
          dsimp only at ht
          rw [ht.1] at hf ⊢
          dsimp only
          rw [runI, if_neg hat, hq]
          dsimp only
          rw [ht.2.1, ht.2.2]
          exact ⟨rfl, rfl, hl1.ml, hl1.len, hl1.wd⟩
        | none =>
          rw [hq] at ht
          dsimp only at ht
          rw [ht.1] at hf ⊢
          dsimp only at hf ⊢
          rw [runI, if_neg hat, hq]
          dsimp only
          exact spec_back C g g' (k + 1) (k' + 1) _ _ (by omega) ht.2 hf

end Go.Proofs.Ytbfhchhggkpbdaa

/-
  More on runs with steps ahead of time, on plain data: their steps, what they show; and with a script of zeros it is the run without. No Go text in sight.
-/
namespace Go.Proofs.Ytbfhchhggkpbdaa
open Go.RowKit
set_option linter.unusedVariables false
set_option linter.unusedSimpArgs false

theorem leave_seen (s : Sp) : s.leave.seen = s.seen := by unfold Sp.leave; split <;> rfl
theorem wordS_seen (p : Prg) (s : Sp) (i : Ins) (n : Int) : (wordS p s i n).seen = s.seen := by
  unfold wordS
  split
  · split <;> rfl
  · split
    · rfl
    · split
      · show (Sp.leave _).seen = s.seen
        rw [leave_seen]
        rfl
      · rfl

/-- A step shows itself first, and ends by no fuel. -/
theorem stepS_shows (p : Prg) (s : Sp) : (∃ t, (stepS p s).1.seen = s.seen ++ (⟨1, s.pl.at_, 0⟩ : Se) :: t) ∧ ∀ e, (stepS p s).2.2 = some e → ¬ e.1 = 0 := by
  unfold stepS
  by_cases h7 : (p.ins s.pl.at_).op = 7
  · rw [if_pos h7]; exact ⟨⟨[], rfl⟩, fun e h => by cases h⟩
  rw [if_neg h7]
  by_cases h8 : (p.ins s.pl.at_).op = 8
  · rw [if_pos h8]
    by_cases hh : holdsI (p.ins s.pl.at_).c (s.pl.r (p.ins s.pl.at_).a.toNat) (s.pl.r (p.ins s.pl.at_).b.toNat) = true
    · rw [if_pos hh]
      refine ⟨⟨[], ?_⟩, fun e h => by cases h⟩
      dsimp only
      split
      · rfl
      · show (Sp.leave _).seen = _
        rw [leave_seen]; rfl
    · rw [if_neg hh]
      refine ⟨⟨[], ?_⟩, fun e h => by cases h⟩
      dsimp only
      split
      · rfl
      · show (Sp.leave _).seen = _
        rw [leave_seen]; rfl
  rw [if_neg h8]
  by_cases h9 : (p.ins s.pl.at_).op = 9 ∧ s.ahead = false
  · rw [if_pos h9]
    exact ⟨⟨[], rfl⟩, fun e h => by have := (Option.some.inj h).symm; subst this; simp⟩
  rw [if_neg h9]
  by_cases h9' : (p.ins s.pl.at_).op = 9 ∨ (p.ins s.pl.at_).op = 12
  · rw [if_pos h9']; exact ⟨⟨[], rfl⟩, fun e h => by cases h⟩
  rw [if_neg h9']
  by_cases hp : 0 ≤ putI (p.ins s.pl.at_)
  · rw [if_pos hp]
    by_cases hx : s.ahead = false ∧ (idxI s.pl.r (p.ins s.pl.at_) < 0 ∨ wordsI (p.log (p.ins s.pl.at_).c.toNat) ≤ idxI s.pl.r (p.ins s.pl.at_))
    · rw [if_pos hx]
      exact ⟨⟨[], rfl⟩, fun e h => by have := (Option.some.inj h).symm; subst this; simp⟩
    · rw [if_neg hx]
      refine ⟨⟨[⟨2, wrap64 (baseI p.log (p.ins s.pl.at_).c.toNat + idxI s.pl.r (p.ins s.pl.at_)), putI (p.ins s.pl.at_)⟩], ?_⟩, fun e h => by cases h⟩
      dsimp only
      rw [wordS_seen]
      simp [Sp.see, Sp.go]
  · rw [if_neg hp]
    exact ⟨⟨(regsI s.pl.r (p.ins s.pl.at_)).2, by simp⟩, fun e h => by cases h⟩

theorem after_seen (s : Sp) (over : Bool) : ∃ t, (s.after over).seen = s.seen ++ t := by
  unfold Sp.after
  split
  · split
    · exact ⟨[⟨4, 0, 0⟩], rfl⟩
    · exact ⟨[], (List.append_nil _).symm⟩
  · exact ⟨[], (List.append_nil _).symm⟩
theorem noneLeft_seen (s : Sp) (cl : Nat) : ∃ t, (s.noneLeft cl).seen = s.seen ++ t := by
  unfold Sp.noneLeft
  split
  · exact ⟨[⟨4, 0, 0⟩], rfl⟩
  · exact ⟨[], (List.append_nil _).symm⟩

theorem runS_seen (p : Prg) : ∀ (g k : Nat) (s : Sp), ∃ t, (runS p g k s).seen = s.seen ++ t
  | 0, k, s => ⟨[], (List.append_nil _).symm⟩
  | g + 1, k, s => by
    obtain ⟨t1, e1⟩ := noneLeft_seen s p.cl
    obtain ⟨⟨t2, e2⟩, _⟩ := stepS_shows p (s.noneLeft p.cl)
    rw [runS]
    split
    · exact ⟨t1, e1⟩
    · split
      · exact ⟨t1 ++ (⟨1, (s.noneLeft p.cl).pl.at_, 0⟩ :: t2), by dsimp only; rw [e2, e1, List.append_assoc]⟩
      · obtain ⟨t3, e3⟩ := after_seen (stepS p (s.noneLeft p.cl)).1 (stepS p (s.noneLeft p.cl)).2.1
        obtain ⟨t4, e4⟩ := runS_seen p g (k + 1) ((stepS p (s.noneLeft p.cl)).1.after (stepS p (s.noneLeft p.cl)).2.1)
        exact ⟨t1 ++ ((⟨1, (s.noneLeft p.cl).pl.at_, 0⟩ :: t2) ++ (t3 ++ t4)), by rw [e4, e3, e2, e1]; simp⟩

/-- Who ended by its fuel has done all of it. -/
theorem spec_fuel (p : Prg) : ∀ (g k : Nat) (s : Sp), (runS p g k s).fin = 0 → (runS p g k s).steps = (k : Int) + g
  | 0, k, s, _ => by simp [runS]
  | g + 1, k, s, h => by
    rw [runS] at h ⊢
    by_cases hc : p.cl ≤ (s.noneLeft p.cl).pl.at_
    · rw [if_pos hc] at h; exact absurd h (by simp)
    rw [if_neg hc] at h ⊢
    cases hq : (stepS p (s.noneLeft p.cl)).2.2 with
    | some e => rw [hq] at h; exact absurd h ((stepS_shows p _).2 e hq)
    | none =>
      rw [hq] at h
      dsimp only at h ⊢
      rw [spec_fuel p g (k + 1) _ h]
      push_cast
      omega

/-- Who has fuel shows something. -/
theorem spec_shows (p : Prg) (wd : Nat → Int) (script : List Int) (g : Nat) (hc : 1 ≤ p.cl) : (playS p wd script (g + 1)).seen ≠ [] := by
  unfold playS
  rw [runS]
  have hn : (Sp.noneLeft ⟨⟨0, fun _ => 0, wd, fun _ => []⟩, false, 0, ⟨0, fun _ => 0, wd, fun _ => []⟩, script, []⟩ p.cl) = ⟨⟨0, fun _ => 0, wd, fun _ => []⟩, false, 0, ⟨0, fun _ => 0, wd, fun _ => []⟩, script, []⟩ := by unfold Sp.noneLeft; rw [if_neg (by simp)]
  rw [hn, if_neg (by dsimp only; omega)]
  obtain ⟨⟨t2, e2⟩, _⟩ := stepS_shows p ⟨⟨0, fun _ => 0, wd, fun _ => []⟩, false, 0, ⟨0, fun _ => 0, wd, fun _ => []⟩, script, []⟩
  split
  · dsimp only; rw [e2]; simp
  · obtain ⟨t3, e3⟩ := after_seen (stepS p ⟨⟨0, fun _ => 0, wd, fun _ => []⟩, false, 0, ⟨0, fun _ => 0, wd, fun _ => []⟩, script, []⟩).1 (stepS p ⟨⟨0, fun _ => 0, wd, fun _ => []⟩, false, 0, ⟨0, fun _ => 0, wd, fun _ => []⟩, script, []⟩).2.1
    obtain ⟨t4, e4⟩ := runS_seen p g (0 + 1) ((stepS p ⟨⟨0, fun _ => 0, wd, fun _ => []⟩, false, 0, ⟨0, fun _ => 0, wd, fun _ => []⟩, script, []⟩).1.after (stepS p ⟨⟨0, fun _ => 0, wd, fun _ => []⟩, false, 0, ⟨0, fun _ => 0, wd, fun _ => []⟩, script, []⟩).2.1)
    rw [e4, e3, e2]
    simp

/-! ### A script of zeros -/
def Zeros (l : List Int) : Prop := ∀ x ∈ l, x = 0
theorem Zeros.choice {s : Sp} (h : Zeros s.script) : s.choice = 0 := by
  unfold Sp.choice
  cases hs : s.script with
  | nil => rfl
  | cons x l => exact h x (by rw [hs]; simp)
theorem Zeros.tail {l : List Int} (h : Zeros l) : Zeros l.tail := fun x hx => h x (List.mem_of_mem_tail hx)

theorem step_plain {p : Prg} {m : Mem} {s : Sp} {st : St} (C : Ctx p m) (ha : s.ahead = false) (hat : s.pl.at_ < p.cl) (h : Alike m s.pl st) (hz : Zeros s.script) (hs : s.seen = st.seen) :
    (stepS p s).1.ahead = false ∧ Zeros (stepS p s).1.script ∧ (stepS p s).1.seen = (stepI p st).1.seen := by
  have hin := C.ok _ hat
  have hch := hz.choice
  have hzt := hz.tail
  obtain ⟨h1, h2, h3, h4, h5⟩ := h
  obtain ⟨sat, sr, sm, sse⟩ := st
  dsimp only at h1 h2 h3 h4 h5 hs
  subst h1 h2 hs
  cases hI : p.ins s.pl.at_ with
  | mk op a b c n =>
  rw [hI] at hin
  by_cases h7 : op = 7
  · subst h7
    simp [stepI, stepS, hI, Sp.see, Sp.go, ha]
    exact hz
  by_cases h8 : op = 8
  · subst h8
    cases hh : holdsI c (s.pl.r a.toNat) (s.pl.r b.toNat) with
    | true =>
      simp [stepI, stepS, hI, Sp.see, Sp.go, ha, hh, hch]
      exact hzt
    | false =>
      simp [stepI, stepS, hI, Sp.see, Sp.go, ha, hh, hch]
      exact hzt
  by_cases h9 : op = 9
  · subst h9
    simp [stepI, stepS, hI, Sp.see, Sp.go, ha]
    exact hz
  by_cases hop : op = 3 ∨ op = 4 ∨ op = 5 ∨ op = 6
  · have hw : 0 ≤ a ∧ a < 10 ∧ 0 ≤ b ∧ b < 10 ∧ 0 ≤ c ∧ c < p.rl := by
      unfold InsOk Reg Rgn at hin
      dsimp only at hin
      rcases hop with rfl | rfl | rfl | rfl <;> simp at hin <;> omega
    have hc : c.toNat < m.ml := by have := C.rl; omega
    have hb := base_eq p m C.len c.toNat (by omega)
    have hl := C.len c.toNat hc
    have h12 : ¬ op = 12 := by omega
    have hput : 0 ≤ putI ⟨op, a, b, c, n⟩ := by
      rcases hop with h | h | h | h
      · rw [putI_load (.inl h)]; decide
      · rw [putI_put (.inl h)]; decide
      · rw [putI_load (.inr h)]; decide
      · rw [putI_put (.inr h)]; decide
    by_cases hx : idxI s.pl.r ⟨op, a, b, c, n⟩ < 0 ∨ (m.len c.toNat : Int) ≤ idxI s.pl.r ⟨op, a, b, c, n⟩
    · have e1 := step_out (p := p) (s := ⟨s.pl.at_, s.pl.r, sm, s.seen⟩) hI hop (by dsimp only; rw [h5]; exact hx)
      rw [e1]
      rw [hl] at hx
      simp [stepS, hI, h7, h8, h9, h12, hput, ha, hx, Sp.see]
      exact hz
    · have hlt : baseN m.len c.toNat + (idxI s.pl.r ⟨op, a, b, c, n⟩).toNat < baseN m.len m.ml := by
        have := baseN_mono m.len (c.toNat + 1) m.ml (by omega)
        simp only [baseN] at this
        omega
      have h384 := baseN_le m.len m.ml (fun j hj => (C.pos j hj).2)
      have h6 := C.six
      have hall : allI p = (baseN m.len m.ml : Int) := by unfold allI; rw [← C.rl]; exact (base_eq p m C.len m.ml (Nat.le_refl _)).symm
      have hwr : wrap64 (baseI p.log c.toNat + idxI s.pl.r ⟨op, a, b, c, n⟩) = baseI p.log c.toNat + idxI s.pl.r ⟨op, a, b, c, n⟩ := by
        rw [← hb]; unfold wrap64; omega
      have hxs : ¬ (s.ahead = false ∧ (idxI s.pl.r ⟨op, a, b, c, n⟩ < 0 ∨ wordsI (p.log c.toNat) ≤ idxI s.pl.r ⟨op, a, b, c, n⟩)) := by rw [← hl]; exact fun h => hx h.2
      have hnr : ¬ (baseI p.log c.toNat + idxI s.pl.r ⟨op, a, b, c, n⟩ < 0 ∨ allI p ≤ baseI p.log c.toNat + idxI s.pl.r ⟨op, a, b, c, n⟩) := by rw [hall, ← hb]; omega
      have es : stepS p s = (wordS p (((s.see ⟨1, s.pl.at_, 0⟩).see ⟨2, baseI p.log c.toNat + idxI s.pl.r ⟨op, a, b, c, n⟩, putI ⟨op, a, b, c, n⟩⟩).go (s.pl.at_ + 1)) ⟨op, a, b, c, n⟩ (baseI p.log c.toNat + idxI s.pl.r ⟨op, a, b, c, n⟩), false, none) := by
        unfold stepS
        rw [hI]
        dsimp only
        rw [if_neg h7, if_neg h8, if_neg (fun h => h9 h.1), if_neg (by omega), if_pos hput, if_neg hxs, hwr]
      rw [es]
      dsimp only
      rw [wordS_seen]
      by_cases hopp : op = 4 ∨ op = 6
      · have e1 := step_put (p := p) (s := ⟨s.pl.at_, s.pl.r, sm, s.seen⟩) hI hopp (by dsimp only; rw [h5]; exact hx)
        rw [e1]
        unfold wordS
        rw [if_neg hnr, if_pos (putI_put hopp), putI_put hopp]
        exact ⟨ha, hz, rfl⟩
      · have hopl : op = 3 ∨ op = 5 := by omega
        have e1 := step_load (p := p) (s := ⟨s.pl.at_, s.pl.r, sm, s.seen⟩) hI hopl (by dsimp only; rw [h5]; exact hx)
        rw [e1]
        unfold wordS
        rw [if_neg hnr, if_neg (by rw [putI_load hopl]; decide), if_neg (by intro h; have h0 : s.choice = 0 := hch; have h1 : 0 < s.choice := h.1; omega), putI_load hopl]
        exact ⟨ha, hzt, rfl⟩
  have e1 := step_regs (p := p) (s := ⟨s.pl.at_, s.pl.r, sm, s.seen⟩) hI (by dsimp only; omega) (by dsimp only; omega) (by dsimp only; omega) (by dsimp only; omega) h7 h8 h9
  have hput := putI_no (i := ⟨op, a, b, c, n⟩) (by dsimp only; omega) (by dsimp only; omega) (by dsimp only; omega) (by dsimp only; omega)
  rw [e1]
  dsimp only
  by_cases h12 : op = 12
  · subst h12
    simp [stepS, hI, ha, Sp.see, Sp.go, regsI]
    exact hz
  · unfold stepS
    rw [hI]
    dsimp only
    rw [if_neg h7, if_neg h8, if_neg (fun h => h9 h.1), if_neg (by omega), hput, if_neg (by decide)]
    exact ⟨ha, hz, rfl⟩

theorem after_none {s : Sp} (h : s.ahead = false) (over : Bool) : s.after over = s := by unfold Sp.after; rw [if_neg (by rw [h]; decide)]
theorem noneLeft_none {s : Sp} (h : s.ahead = false) (cl : Nat) : s.noneLeft cl = s := by unfold Sp.noneLeft; rw [if_neg (by rw [h]; simp)]

/-- With a script of zeros it is the run without steps ahead of time. -/
theorem spec_plain {p : Prg} {m : Mem} (C : Ctx p m) : ∀ (g k : Nat) (s : Sp) (st : St), s.ahead = false → Alike m s.pl st → Zeros s.script → s.seen = st.seen →
    (runS p g k s).fin = (runI p g k st).fin ∧ (runS p g k s).val = (runI p g k st).val ∧ (runS p g k s).steps = (runI p g k st).steps ∧ (runS p g k s).seen = (runI p g k st).seen ∧
      (runI p g k st).mem.ml = m.ml ∧ (∀ j, (runI p g k st).mem.len j = m.len j) ∧ ∀ c, c < m.ml → ∀ i, i < m.len c → (runS p g k s).wd (baseN m.len c + i) = (runI p g k st).mem.wd c i
  | 0, k, s, st, ha, hl, hz, hs => by
    have hr : s.real = s.pl := by unfold Sp.real; rw [if_neg (by rw [ha]; decide)]
    rw [runS, runI, hr]
    exact ⟨rfl, rfl, rfl, hs, hl.ml, hl.len, hl.wd⟩
  | g + 1, k, s, st, ha, hl, hz, hs => by
    have hr : s.real = s.pl := by unfold Sp.real; rw [if_neg (by rw [ha]; decide)]
    rw [runS, runI, noneLeft_none ha, hl.at_]
    by_cases hc : p.cl ≤ s.pl.at_
    · rw [if_pos hc, if_pos hc, hr]
      exact ⟨rfl, rfl, rfl, hs, hl.ml, hl.len, hl.wd⟩
    · rw [if_neg hc, if_neg hc]
      have ht := step_alike C ha (by omega) hl
      obtain ⟨q1, q2, q3⟩ := step_plain C ha (by omega) hl hz hs
      unfold StepTells at ht
      cases hq : (stepI p st).2 with
      | some e =>
        rw [hq] at ht
        dsimp only at ht
        rw [ht.1]
        dsimp only
        rw [ht.2.1, ht.2.2]
        exact ⟨rfl, rfl, rfl, q3, hl.ml, hl.len, hl.wd⟩
      | none =>
        rw [hq] at ht
        dsimp only at ht
        rw [ht.1]
        dsimp only
        rw [after_none q1] at ht ⊢
        have hr2 : (stepS p s).1.real = (stepS p s).1.pl := by unfold Sp.real; rw [if_neg (by rw [q1]; decide)]
        rw [hr2] at ht
        exact spec_plain C g (k + 1) _ _ q1 ht.2 q2 q3

end Go.Proofs.Ytbfhchhggkpbdaa

/-
  What a step with steps ahead of time comes to, kind by kind; and what holds of every state that such a run comes to. No Go text in sight.
-/
namespace Go.Proofs.Ytbfhchhggkpbdaa
open Go.RowKit
set_option linter.unusedVariables false
set_option linter.unusedSimpArgs false

/-- The number of the word that an instruction means. -/
def numS (p : Prg) (s : Sp) (i : Ins) : Int := wrap64 (baseI p.log i.c.toNat + idxI s.pl.r i)
/-- Behind what the step shows first. -/
def Sp.on (s : Sp) : Sp := (s.see ⟨1, s.pl.at_, 0⟩).go (s.pl.at_ + 1)

theorem stepS_jump {p : Prg} {s : Sp} {i : Ins} (hI : p.ins s.pl.at_ = i) (h : i.op = 7) : stepS p s = ((s.see ⟨1, s.pl.at_, 0⟩).go i.n.toNat, false, none) := by
  subst hI; unfold stepS; rw [if_pos h]
theorem stepS_if {p : Prg} {s : Sp} {i : Ins} (hI : p.ins s.pl.at_ = i) (h : i.op = 8) (hh : Bool) (hhh : holdsI i.c (s.pl.r i.a.toNat) (s.pl.r i.b.toNat) = hh) (right wrong : Nat) (hr : right = if hh = true then i.n.toNat else s.pl.at_ + 1) (hw : wrong = if hh = true then s.pl.at_ + 1 else i.n.toNat) :
    stepS p s = (if s.choice = 0 then { (s.see ⟨1, s.pl.at_, 0⟩).go right with script := s.script.tail } else ({ (s.see ⟨1, s.pl.at_, 0⟩).go right with script := s.script.tail }.leave).go wrong, false, none) := by
  subst hI
  unfold stepS
  rw [if_neg (by omega), if_pos h]
  cases hh with
  | true => rw [if_pos hhh]; subst hr hw; rfl
  | false => rw [if_neg (by rw [hhh]; decide)]; subst hr hw; rfl
theorem stepS_halt {p : Prg} {s : Sp} {i : Ins} (hI : p.ins s.pl.at_ = i) (h : i.op = 9) (ha : s.ahead = false) : stepS p s = (s.see ⟨1, s.pl.at_, 0⟩, false, some (1, s.pl.r i.a.toNat)) := by
  subst hI; unfold stepS; rw [if_neg (by omega), if_neg (by omega), if_pos ⟨h, ha⟩]
theorem stepS_over {p : Prg} {s : Sp} {i : Ins} (hI : p.ins s.pl.at_ = i) (h : (i.op = 9 ∧ s.ahead = true) ∨ i.op = 12) : stepS p s = (s.on, true, none) := by
  subst hI
  unfold stepS Sp.on
  rw [if_neg (by omega), if_neg (by omega)]
  have h1 : ¬ ((p.ins s.pl.at_).op = 9 ∧ s.ahead = false) := by
    rintro ⟨h1, h2⟩
    rcases h with ⟨_, h3⟩ | h3
    · rw [h2] at h3; cases h3
    · omega
  rw [if_neg h1, if_pos (by omega)]
theorem stepS_fault {p : Prg} {s : Sp} {i : Ins} (hI : p.ins s.pl.at_ = i) (h : i.op = 3 ∨ i.op = 4 ∨ i.op = 5 ∨ i.op = 6) (ha : s.ahead = false) (hx : idxI s.pl.r i < 0 ∨ wordsI (p.log i.c.toNat) ≤ idxI s.pl.r i) : stepS p s = (s.see ⟨1, s.pl.at_, 0⟩, false, some (2, 0)) := by
  subst hI
  have hp : 0 ≤ putI (p.ins s.pl.at_) := by
    rcases h with h | h | h | h
    · rw [putI_load (.inl h)]; decide
    · rw [putI_put (.inl h)]; decide
    · rw [putI_load (.inr h)]; decide
    · rw [putI_put (.inr h)]; decide
  unfold stepS
  rw [if_neg (by omega), if_neg (by omega), if_neg (by omega), if_neg (by omega), if_pos hp, if_pos ⟨ha, hx⟩]
theorem stepS_word {p : Prg} {s : Sp} {i : Ins} (hI : p.ins s.pl.at_ = i) (h : i.op = 3 ∨ i.op = 4 ∨ i.op = 5 ∨ i.op = 6) (hx : ¬ (s.ahead = false ∧ (idxI s.pl.r i < 0 ∨ wordsI (p.log i.c.toNat) ≤ idxI s.pl.r i))) :
    stepS p s = (wordS p (s.on.see ⟨2, numS p s i, putI i⟩) i (numS p s i), false, none) := by
  subst hI
  have hp : 0 ≤ putI (p.ins s.pl.at_) := by
    rcases h with h | h | h | h
    · rw [putI_load (.inl h)]; decide
    · rw [putI_put (.inl h)]; decide
    · rw [putI_load (.inr h)]; decide
    · rw [putI_put (.inr h)]; decide
  unfold stepS
  rw [if_neg (by omega), if_neg (by omega), if_neg (by omega), if_neg (by omega), if_pos hp, if_neg hx]
  rfl
theorem stepS_regs {p : Prg} {s : Sp} {i : Ins} (hI : p.ins s.pl.at_ = i) (h3 : ¬ i.op = 3) (h4 : ¬ i.op = 4) (h5 : ¬ i.op = 5) (h6 : ¬ i.op = 6) (h7 : ¬ i.op = 7) (h8 : ¬ i.op = 8) (h9 : ¬ i.op = 9) (h12 : ¬ i.op = 12) :
    stepS p s = ({ s.on with pl := { s.on.pl with r := (regsI s.pl.r i).1 }, seen := s.on.seen ++ (regsI s.pl.r i).2 }, false, none) := by
  subst hI
  have hp := putI_no h3 h4 h5 h6
  unfold stepS
  rw [if_neg h7, if_neg h8, if_neg (by omega), if_neg (by omega), if_neg (by rw [hp]; decide)]
  rfl

/-- What holds of a place. -/
structure PlOk (p : Prg) (k : Nat) (q : Pl) : Prop where
  at_ : q.at_ ≤ p.cl
  r : ∀ j, j < 10 → B64 (q.r j)
  wd : ∀ j : Nat, (j : Int) < allI p → B64 (q.wd j)
  past : ∀ j, (q.past j).length ≤ k
  was : ∀ j : Nat, (j : Int) < allI p → ∀ v ∈ q.past j, B64 v
structure InvS (p : Prg) (k n : Nat) (s : Sp) : Prop where
  pl : PlOk p k s.pl
  back : s.ahead = true → PlOk p k s.back
  seen : s.seen.length ≤ n
  sc : ∀ c ∈ s.script, 0 ≤ c

theorem PlOk.mono {p : Prg} {k k' : Nat} {q : Pl} (h : PlOk p k q) (hk : k ≤ k') : PlOk p k' q := ⟨h.at_, h.r, h.wd, fun j => Nat.le_trans (h.past j) hk, h.was⟩
theorem PlOk.go {p : Prg} {k : Nat} {q : Pl} (h : PlOk p k q) (n : Nat) (hn : n ≤ p.cl) : PlOk p k { q with at_ := n } := ⟨hn, h.r, h.wd, h.past, h.was⟩
theorem PlOk.reg {p : Prg} {k : Nat} {q : Pl} (h : PlOk p k q) (a v : Int) (hv : B64 v) : PlOk p k { q with r := setR q.r a v } := ⟨h.at_, setR_B64 h.r a v hv, h.wd, h.past, h.was⟩
theorem InvS.mono {p : Prg} {k k' n n' : Nat} {s : Sp} (h : InvS p k n s) (hk : k ≤ k') (hn : n ≤ n') : InvS p k' n' s := ⟨h.pl.mono hk, fun a => (h.back a).mono hk, Nat.le_trans h.seen hn, h.sc⟩
theorem InvS.see {p : Prg} {k n : Nat} {s : Sp} (h : InvS p k n s) (x : Se) : InvS p k (n + 1) (s.see x) := ⟨h.pl, h.back, by have := h.seen; simp [Sp.see]; omega, h.sc⟩
theorem InvS.go {p : Prg} {k n : Nat} {s : Sp} (h : InvS p k n s) (m : Nat) (hm : m ≤ p.cl) : InvS p k n (s.go m) := ⟨h.pl.go m hm, h.back, h.seen, h.sc⟩
theorem InvS.reg {p : Prg} {k n : Nat} {s : Sp} (h : InvS p k n s) (a v : Int) (hv : B64 v) : InvS p k n (s.reg a v) := ⟨h.pl.reg a v hv, h.back, h.seen, h.sc⟩
theorem InvS.tail {p : Prg} {k n : Nat} {s : Sp} (h : InvS p k n s) : InvS p k n { s with script := s.script.tail } := ⟨h.pl, h.back, h.seen, fun c hc => h.sc c (List.mem_of_mem_tail hc)⟩
theorem InvS.leave {p : Prg} {k n : Nat} {s : Sp} (h : InvS p k n s) : InvS p k n s.leave := by
  unfold Sp.leave
  split
  · exact h
  · exact ⟨h.pl, fun _ => h.pl, h.seen, h.sc⟩
theorem InvS.returns {p : Prg} {k n : Nat} {s : Sp} (h : InvS p k n s) (ha : s.ahead = true) : InvS p k (n + 1) s.returns := ⟨h.back ha, fun a => by simp [Sp.returns] at a, by have := h.seen; simp [Sp.returns]; omega, h.sc⟩
theorem InvS.noneLeft {p : Prg} {k n : Nat} {s : Sp} (h : InvS p k n s) (cl : Nat) : InvS p k (n + 1) (s.noneLeft cl) := by
  unfold Sp.noneLeft
  split
  · rename_i hc; exact h.returns hc.2
  · exact h.mono (Nat.le_refl _) (Nat.le_succ _)
theorem InvS.after {p : Prg} {k n : Nat} {s : Sp} (h : InvS p k n s) (over : Bool) : InvS p k (n + 1) (s.after over) := by
  unfold Sp.after
  split
  · rename_i ha
    have h2 : InvS p k n { s with since := s.since + 1 } := ⟨h.pl, h.back, h.seen, h.sc⟩
    split
    · exact h2.returns ha
    · exact h2.mono (Nat.le_refl _) (Nat.le_succ _)
  · exact h.mono (Nat.le_refl _) (Nat.le_succ _)
theorem InvS.word {p : Prg} {k n : Nat} {s : Sp} (h : InvS p k n s) (i : Ins) (m : Int) (hop : i.op = 3 ∨ i.op = 4 ∨ i.op = 5 ∨ i.op = 6) (ha : i.a.toNat < 10) : InvS p (k + 1) n (wordS p s i m) := by
  have h1 : InvS p (k + 1) n s := h.mono (Nat.le_succ _) (Nat.le_refl _)
  unfold wordS
  by_cases hm : m < 0 ∨ allI p ≤ m
  · rw [if_pos hm]
    split
    · exact h1.reg _ _ B64_zero
    · exact h1
  rw [if_neg hm]
  by_cases hp : putI i = 1
  · rw [if_pos hp]
    refine ⟨⟨h.pl.at_, h.pl.r, fun j hj => ?_, fun j => ?_, fun j hj v hv => ?_⟩, h1.back, h.seen, h.sc⟩
    · dsimp only [setF]
      split
      · exact h.pl.r _ ha
      · exact h.pl.wd j hj
    · dsimp only [setF]
      have := h.pl.past j
      split
      · rename_i e; subst e; simp; exact h.pl.past _
      · omega
    · dsimp only [setF] at hv
      split at hv
      · rename_i e
        subst e
        rcases List.mem_append.1 hv with hv | hv
        · exact h.pl.was _ hj v hv
        · rw [List.mem_singleton.1 hv]; exact h.pl.wd _ hj
      · exact h.pl.was j hj v hv
  rw [if_neg hp]
  have hm2 : ((m.toNat : Nat) : Int) < allI p := by omega
  have h2 : InvS p (k + 1) n ({ s with script := s.script.tail }.reg i.a (s.pl.wd m.toNat)) := (h1.tail).reg _ _ (h.pl.wd _ hm2)
  split
  · refine h2.leave.reg _ _ ?_
    rw [List.getD_eq_getElem?_getD]
    cases hq : (s.pl.past m.toNat)[(s.pl.past m.toNat).length - s.choice.toNat]? with
    | none => exact B64_zero
    | some v => exact h.pl.was _ hm2 v (List.mem_of_getElem? hq)
  · exact h2

theorem InvS.step {p : Prg} {k n : Nat} {s : Sp} (h : InvS p k n s) (hat : s.pl.at_ < p.cl) (hin : InsOk p.rl p.log p.cl 10 (p.ins s.pl.at_)) (hn : B64 (p.ins s.pl.at_).n) : InvS p (k + 1) (n + 2) (stepS p s).1 := by
  obtain ⟨i, hI⟩ : ∃ i, p.ins s.pl.at_ = i := ⟨_, rfl⟩
  rw [hI] at hin hn
  have h1 : InvS p (k + 1) (n + 1) (s.see ⟨1, s.pl.at_, 0⟩) := (h.see _).mono (Nat.le_succ _) (Nat.le_refl _)
  have hon : InvS p k (n + 1) s.on := (h.see _).go _ hat
  have hon1 : InvS p (k + 1) (n + 1) s.on := hon.mono (Nat.le_succ _) (Nat.le_refl _)
  by_cases h7 : i.op = 7
  · rw [stepS_jump hI h7]
    have : 0 ≤ i.n ∧ i.n < p.cl := by unfold InsOk Plc at hin; simp [h7] at hin; exact hin.2.2.2
    exact (h1.go _ (by omega)).mono (Nat.le_refl _) (Nat.le_succ _)
  by_cases h8 : i.op = 8
  · have hpl : 0 ≤ i.n ∧ i.n < p.cl := by unfold InsOk Plc at hin; simp [h8] at hin; exact hin.2.2.2
    rw [stepS_if hI h8 _ rfl _ _ rfl rfl]
    have hb : ∀ b : Bool, (if b = true then i.n.toNat else s.pl.at_ + 1) ≤ p.cl ∧ (if b = true then s.pl.at_ + 1 else i.n.toNat) ≤ p.cl := by intro b; cases b <;> simp <;> omega
    have hb2 := hb (holdsI i.c (s.pl.r i.a.toNat) (s.pl.r i.b.toNat))
    have h2 := (h1.go _ hb2.1).tail
    dsimp only
    split
    · exact h2.mono (Nat.le_refl _) (Nat.le_succ _)
    · exact (h2.leave.go _ hb2.2).mono (Nat.le_refl _) (Nat.le_succ _)
  by_cases h9 : i.op = 9
  · cases ha : s.ahead with
    | false => rw [stepS_halt hI h9 ha]; exact h1.mono (Nat.le_refl _) (Nat.le_succ _)
    | true => rw [stepS_over hI (.inl ⟨h9, ha⟩)]; exact hon1.mono (Nat.le_refl _) (Nat.le_succ _)
  by_cases h12 : i.op = 12
  · rw [stepS_over hI (.inr h12)]; exact hon1.mono (Nat.le_refl _) (Nat.le_succ _)
  by_cases hw : i.op = 3 ∨ i.op = 4 ∨ i.op = 5 ∨ i.op = 6
  · have hra : i.a.toNat < 10 := by
      unfold InsOk Reg at hin
      rcases hw with e | e | e | e <;> simp [e] at hin <;> omega
    by_cases hx : s.ahead = false ∧ (idxI s.pl.r i < 0 ∨ wordsI (p.log i.c.toNat) ≤ idxI s.pl.r i)
    · rw [stepS_fault hI hw hx.1 hx.2]; exact h1.mono (Nat.le_refl _) (Nat.le_succ _)
    · rw [stepS_word hI hw hx]
      exact (hon.see _).word i _ hw hra
  rw [stepS_regs hI (by omega) (by omega) (by omega) (by omega) h7 h8 h9 h12]
  refine ⟨⟨hon1.pl.at_, regsI_B64 h.pl.r i (fun e => ?_) hn, hon1.pl.wd, hon1.pl.past, hon1.pl.was⟩, hon1.back, ?_, hon1.sc⟩
  · unfold InsOk Reg at hin
    simp [e] at hin
    omega
  · have := hon1.seen
    have := regsI_len s.pl.r i
    simp
    omega
end Go.Proofs.Ytbfhchhggkpbdaa

/-
  A part of a row of cells that is loaded or stored whole: a struct or an array inside a greater one. No Go text in sight.
-/
namespace Go.Proofs.Ytbfhchhggkpbdaa
open Go.RowKit
set_option linter.unusedVariables false
set_option linter.unusedSimpArgs false

theorem run_load_part {P : Program} (w : World) (g o : Nat) (ty : TypeId) (cs : List Value) (d : TypeDesc) (hc : ∀ j v, cs[j]? = some v → w.cell? ⟨g, o + j, none⟩ = some v)
    (hu : P.underlying ty = some d) (hd : (match d with | .struct _ | .array _ _ => true | _ => false) = true) (hi : (P.info? ty).map (·.size) = some cs.length) :
    (loadVar ty ⟨g, o, none⟩).run P w = .ok (.agg cs.toArray) w := by
  have hl : (loadCells ⟨g, o, none⟩ cs.length).run P w = .ok cs.toArray w :=
    run_loadCells_list (P := P) w ⟨g, o, none⟩ cs (fun j v hv => by rw [Go.WideShapes.add_plain]; exact hc j v hv)
  cases hq : P.info? ty with
  | none => simp [hq] at hi
  | some i =>
    have hs : i.size = cs.length := by simpa [hq] using hi
    have hagg : (isAgg ty).run P w = .ok true w := by
      unfold isAgg
      rw [Sem.run_bind, run_underlying hu w]
      cases d <;> simp_all
    simp [loadVar, Sem.run_bind, hagg, sizeOf, typeInfo, hq, hs, hl]

theorem wp_load_part {P : Program} {o : Oper} {a : Act} {w : World} {K : Act → World → Prop} {Q : Exit → Act → World → Prop} (ty : TypeId) (x : Operand) (ho : o.op = .load ty x)
    (g k : Nat) (hx : a.eval x = .pointer (some ⟨g, k, none⟩)) (cs : List Value) (d : TypeDesc) (hc : ∀ j v, cs[j]? = some v → w.cell? ⟨g, k + j, none⟩ = some v)
    (hu : P.underlying ty = some d) (hd : (match d with | .struct _ | .array _ _ => true | _ => false) = true) (hi : (P.info? ty).map (·.size) = some cs.length)
    (h : K (a.put o.dst (.agg cs.toArray)) w) : o.wp P a w K Q := by
  unfold Oper.wp execOp
  simp only [ho, hx, Instr.loadAt, Instr.sureAddr, Sem.run_bind, Sem.run_pure, Result.andThen_ok, run_load_part w g k ty cs d hc hu hd hi]
  exact h

theorem wpList_load_part {P : Program} {ops : Array Oper} {rest : List Oper} {o : Oper} {a : Act} {w : World} {Q : Exit → Act → World → Prop} (hgd : o.guard = none) (ty : TypeId) (x : Operand) (ho : o.op = .load ty x)
    (g k : Nat) (hx : a.eval x = .pointer (some ⟨g, k, none⟩)) (cs : List Value) (d : TypeDesc) (hc : ∀ j v, cs[j]? = some v → w.cell? ⟨g, k + j, none⟩ = some v)
    (hu : P.underlying ty = some d) (hd : (match d with | .struct _ | .array _ _ => true | _ => false) = true) (hi : (P.info? ty).map (·.size) = some cs.length)
    (h : wpList P ops Q rest (a.put o.dst (.agg cs.toArray)) w) : wpList P ops Q (o :: rest) a w :=
  wpList_plain hgd fun _ hK => wp_load_part ty x ho g k hx cs d hc hu hd hi (hK _ _ h)

theorem run_store_part {P : Program} (w : World) (g o : Nat) (ty : TypeId) (cs : Array Value) (hi : (P.info? ty).map (·.size) = some cs.size) (hc : ∀ j, j < cs.size → ∃ v, Wr w g (o + j) v) (h1 : ∀ v ∈ cs.toList, v.oneCell' = true) :
    (storeVar ty ⟨g, o, none⟩ (.agg cs)).run P w = .ok () (w.setCells g o cs.toList) := by
  have hst := run_storeCells_cells (P := P) g o cs.toList 0 w (fun j hj => by obtain ⟨v, hv⟩ := hc j (by simpa using hj); simp [hv.1]) (fun j hj => by obtain ⟨v, hv⟩ := hc j (by simpa using hj); simp [hv.2]) h1
  cases hq : P.info? ty with
  | none => simp [hq] at hi
  | some i =>
    have hs : cs.size = i.size := by simp [hq] at hi; omega
    simp [storeVar, sizeOf, typeInfo, hq, Value.cells, hs]
    simpa using hst

theorem wp_store_part {P : Program} {o : Oper} {a : Act} {w : World} {K : Act → World → Prop} {Q : Exit → Act → World → Prop} (ty : TypeId) (x y : Operand) (ho : o.op = .store ty x y)
    (g k : Nat) (cs : Array Value) (hx : a.eval x = .pointer (some ⟨g, k, none⟩)) (hy : a.eval y = .agg cs) (hi : (P.info? ty).map (·.size) = some cs.size) (hc : ∀ j, j < cs.size → ∃ v, Wr w g (k + j) v) (h1 : ∀ v ∈ cs.toList, v.oneCell' = true)
    (h : K (a.put o.dst undef) (w.setCells g k cs.toList)) : o.wp P a w K Q := by
  unfold Oper.wp execOp
  simp only [ho, hx, hy, Instr.storeAt, Instr.sureAddr, Sem.run_bind, Sem.run_pure, Result.andThen_ok, run_store_part w g k ty cs hi hc h1]
  exact h

theorem wpList_store_part {P : Program} {ops : Array Oper} {rest : List Oper} {o : Oper} {a : Act} {w : World} {Q : Exit → Act → World → Prop} (hgd : o.guard = none) (ty : TypeId) (x y : Operand) (ho : o.op = .store ty x y)
    (g k : Nat) (cs : Array Value) (hx : a.eval x = .pointer (some ⟨g, k, none⟩)) (hy : a.eval y = .agg cs) (hi : (P.info? ty).map (·.size) = some cs.size) (hc : ∀ j, j < cs.size → ∃ v, Wr w g (k + j) v) (h1 : ∀ v ∈ cs.toList, v.oneCell' = true)
    (h : wpList P ops Q rest (a.put o.dst undef) (w.setCells g k cs.toList)) : wpList P ops Q (o :: rest) a w :=
  wpList_plain hgd fun _ hK => wp_store_part ty x y ho g k cs hx hy hi hc h1 (hK _ _ h)

theorem exec_load_part {P : Program} {o : Oper} {a : Act} {w : World} (ty : TypeId) (x : Operand) (ho : o.op = .load ty x)
    (g k : Nat) (hx : a.eval x = .pointer (some ⟨g, k, none⟩)) (cs : List Value) (d : TypeDesc) (hc : ∀ j v, cs[j]? = some v → w.cell? ⟨g, k + j, none⟩ = some v)
    (hu : P.underlying ty = some d) (hd : (match d with | .struct _ | .array _ _ => true | _ => false) = true) (hi : (P.info? ty).map (·.size) = some cs.length) :
    (execOp a.eval o).run P w = .ok (.value (.agg cs.toArray)) w := by
  unfold execOp
  simp only [ho, hx, Instr.loadAt, Instr.sureAddr, Sem.run_bind, Sem.run_pure, Result.andThen_ok, run_load_part w g k ty cs d hc hu hd hi]

theorem exec_build {P : Program} {o : Oper} {a : Act} {w : World} (t : TypeId) (parts : Array (Nat × Operand)) (ho : o.op = .build t parts) (C : Array Value)
    (hf : P.built t (parts.map fun (i, x) => (i, a.eval x)).toList = some C) : (execOp a.eval o).run P w = .ok (.value (.agg C)) w := by
  unfold execOp
  simp only [ho, Sem.run_bind, run_build w t _ C hf, Result.andThen_ok, Sem.run_pure]

/-- What a row is behind such a store. -/
theorem setCells_row {g : Nat} {T : TypeId} : ∀ (vs : List Value) (o : Nat) (c : Array Value) (w : World), w.heap[g]? = some (.cells c T (0, 0)) → o + vs.length ≤ c.size →
    ∃ c', (w.setCells g o vs).heap[g]? = some (.cells c' T (0, 0)) ∧ c'.size = c.size ∧ ∀ j, c'[j]? = if o ≤ j ∧ j < o + vs.length then vs[j - o]? else c[j]?
  | [], o, c, w, h, _ => ⟨c, h, rfl, fun j => by rw [if_neg (by simp <;> omega)]⟩
  | v :: vs, o, c, w, h, hl => by
    simp only [List.length_cons] at hl
    have h1 : (w.setCell ⟨g, o, none⟩ v).heap[g]? = some (.cells (c.setIfInBounds o v) T (0, 0)) := by
      rw [setCell_eq_setRow w g o c T (0, 0) v h]
      exact setRow_heap w g c _ T _ h
    obtain ⟨c', k1, k2, k3⟩ := setCells_row vs (o + 1) _ _ h1 (by simp; omega)
    refine ⟨c', k1, by simpa using k2, fun j => ?_⟩
    rw [k3 j, Array.getElem?_setIfInBounds]
    simp only [List.length_cons]
    by_cases e : j = o
    · subst e
      rw [if_neg (by omega), if_pos rfl, if_pos (by omega), if_pos (by omega)]
      simp
    · by_cases e2 : o + 1 ≤ j ∧ j < o + 1 + vs.length
      · rw [if_pos e2, if_pos (by omega), show j - o = (j - (o + 1)) + 1 by omega]
        simp
      · rw [if_neg e2, if_neg (fun h => e h.symm), if_neg (by omega)]

end Go.Proofs.Ytbfhchhggkpbdaa

/-
  The map of a runner of package spec (what words were, by their number and time) as a function of two numbers: how it is read and written.
-/
namespace Go.Proofs.Ytbfhchhggkpbdaa
open Go.RowKit
open Go.WideMaps (KeyLaw)
open Go.MapKept (Stamped stamped_push stamped_modify stamped_empty)
open Go.ChangeMaps (setBlock heap_setBlock_same heap_setBlock_other)
set_option linter.unusedVariables false
set_option linter.unusedSimpArgs false
set_option maxRecDepth 8000

theorem laidAll : laidOutB Try.prog = true := by kernel_rfl
theorem row127 : (127 : TypeId) < Try.prog.types.size := of_decide_eq_true (by kernel_rfl)
theorem wide127 : (match Try.prog.underlying 127 with | some (.array _ _) | some (.struct _) => true | _ => false) = true := by kernel_rfl
theorem law127 : KeyLaw Try.prog 127 := deep_law_laid laidAll (m := 3) (by omega) row127 (by kernel_rfl) wide127
theorem cells127 : Try.prog.cellsOf 127 = 2 := by kernel_rfl
theorem cells2' : Try.prog.cellsOf 2 = 1 := by kernel_rfl
theorem cells3' : Try.prog.cellsOf 3 = 1 := by kernel_rfl
theorem keyType127 : Try.prog.keyType 127 = true := by kernel_rfl

def pk (n t : Int) : Value := .agg #[.int .i64 n, .int .i64 t]
theorem pk_inj {n t n' t' : Int} (h : pk n t = pk n' t') : n = n' ∧ t = t' := by
  unfold pk at h
  simp at h
  exact h

theorem B64_wf {n : Int} (h : B64 n) : (Lit.int .i64 n).wf = true := by
  unfold B64 at h
  simp [Lit.wf, IntKind.min, IntKind.max, IntKind.signed, IntKind.bits]
  omega

theorem keyOf_two {P : Program} {k : TypeId} {f1 f2 : Field} {m : Nat} (hu : P.underlying k = some (.struct #[f1, f2])) (hkt : P.keyType k = true) (hc : P.cellsOf k = 2) (hn : (#[f1, f2].all (·.name != "_")) = true) (o1 : f1.offset = 0) (o2 : f2.offset = 1)
    (u1 : P.underlying f1.type = some (.int .i64)) (u2 : P.underlying f2.type = some (.int .i64)) (c1 : P.cellsOf f1.type = 1) (c2 : P.cellsOf f2.type = 1) (hm : P.types.size + 1 = m + 2) {a b : Int} (h1 : (Lit.int .i64 a).wf = true) (h2 : (Lit.int .i64 b).wf = true) :
    keyOf P k (.agg #[.int .i64 a, .int .i64 b]) = some (.string (keyBytes [.int .i64 a, .int .i64 b])) := by
  unfold keyOf
  simp only [hu]
  rw [if_pos (by simp [hkt, Value.formed, hu, hc]), hm]
  unfold Program.keyLits
  simp only [hu, Value.cells]
  rw [if_pos ⟨by rw [hc]; rfl, hn⟩]
  simp [List.mapM_cons, o1, o2, c1, c2, Program.keyLits, u1, u2, h1, h2]

theorem key127 {n t : Int} (hn : B64 n) (ht : B64 t) : ∃ l, keyOf Try.prog 127 (pk n t) = some l :=
  ⟨_, keyOf_two (m := 145) Try.underlying127 keyType127 cells127 (by simp) rfl rfl Try.underlying2 Try.underlying3 cells2' cells3' (by kernel_rfl) (B64_wf hn) (B64_wf ht)⟩

/-- Block b is a map in which what is at two numbers is f of them, or nothing where f is 0. -/
structure MapAt (w : World) (b : Nat) (f : Int → Int → Int) : Prop where
  out : ∃ es clock, w.heap[b]? = some (.map es clock) ∧ Stamped es clock ∧ (∀ e ∈ es.toList, ∃ n t, B64 n ∧ B64 t ∧ e.key = pk n t ∧ e.val = .int .i64 (f n t)) ∧ (∀ n t, (∀ e ∈ es.toList, e.key ≠ pk n t) → f n t = 0)

theorem MapAt.lt {w : World} {b : Nat} {f : Int → Int → Int} (h : MapAt w b f) : b < w.heap.size := by
  obtain ⟨es, clock, hb, _⟩ := h.out
  exact (Array.getElem?_eq_some_iff.1 hb).1
theorem MapAt.block {w w' : World} {b : Nat} {f : Int → Int → Int} (h : MapAt w b f) (hb : w'.heap[b]? = w.heap[b]?) : MapAt w' b f := by
  obtain ⟨es, clock, h1, h2⟩ := h.out
  exact ⟨es, clock, hb.trans h1, h2⟩
theorem MapAt.made (w : World) : MapAt (w.alloc (.map #[] 0)) w.heap.size (fun _ _ => 0) :=
  ⟨#[], 0, (MapKept.heap_alloc w _).1, stamped_empty 0, by simp, fun _ _ _ => rfl⟩

theorem MapAt.look {w : World} {b : Nat} {f : Int → Int → Int} (h : MapAt w b f) {n t : Int} (hn : B64 n) (ht : B64 t) : (Instr.lookup 90 (.map (some b)) (pk n t) false).run Try.prog w = .ok (.int .i64 (f n t)) w := by
  obtain ⟨es, clock, hb, hs, he, hz⟩ := h.out
  obtain ⟨l, hkey⟩ := key127 hn ht
  have hzero : (zeroValue 2).run Try.prog w = .ok (.int .i64 0) w := by kernel_rfl
  rcases law127.find w hkey es.toList (fun e hm => by obtain ⟨n', t', h1, h2, h3, _⟩ := he e hm; rw [h3]; exact key127 h1 h2) with ⟨h1, h2⟩ | ⟨j, e0, h1, h2, h3⟩
  · rw [hz n t h2]
    simp [Instr.lookup, run_underlying Try.underlying90, MapKept.run_getObj_map hb, law127.check w _ hkey, h1, hzero, Result.andThen]
  · obtain ⟨n', t', _, _, h5, h6⟩ := he e0 (List.mem_of_getElem? h2)
    obtain ⟨rfl, rfl⟩ := pk_inj (h3.symm.trans h5)
    simp [Instr.lookup, run_underlying Try.underlying90, MapKept.run_getObj_map hb, law127.check w _ hkey, h1, h6, Result.andThen]

theorem MapAt.update {w : World} {b : Nat} {f : Int → Int → Int} (h : MapAt w b f) {n t : Int} (hn : B64 n) (ht : B64 t) (v : Int) :
    ∃ w', (Instr.mapUpdate 90 (.map (some b)) (pk n t) (.int .i64 v)).run Try.prog w = .ok () w' ∧ MapAt w' b (fun n' t' => if n' = n ∧ t' = t then v else f n' t') ∧ w.grownBy w' (some b) := by
  obtain ⟨es, clock, hb, hs, he, hz⟩ := h.out
  obtain ⟨l, hkey⟩ := key127 hn ht
  have grown : ∀ o, w.grownBy (setBlock w b o) (some b) := fun o => ⟨rfl, rfl, rfl, by simp [setBlock], fun i _ hi => heap_setBlock_other hb _ (fun e => hi (by rw [e]))⟩
  rcases law127.find w hkey es.toList (fun e hm => by obtain ⟨n', t', h1, h2, h3, _⟩ := he e hm; rw [h3]; exact key127 h1 h2) with ⟨h1, h2⟩ | ⟨j, e0, h1, h2, h3⟩
  · refine ⟨setBlock w b (.map (es.push ⟨pk n t, .int .i64 v, clock⟩) (clock + 1)), ?_, ⟨_, _, heap_setBlock_same hb _, stamped_push hs h2, fun e hm => ?_, fun n' t' ha => ?_⟩, grown _⟩
    · simp [Instr.mapUpdate, run_underlying Try.underlying90, MapKept.run_getObj_map hb, law127.check w false hkey, h1, MapKept.run_setObj_map _ hb, Result.andThen, setBlock]
    · simp only [Array.toList_push, List.mem_append, List.mem_singleton] at hm
      rcases hm with hm | rfl
      · obtain ⟨n', t', a1, a2, a3, a4⟩ := he e hm
        refine ⟨n', t', a1, a2, a3, ?_⟩
        rw [if_neg (fun hh => h2 e hm (by rw [a3, hh.1, hh.2]))]
        exact a4
      · exact ⟨n, t, hn, ht, rfl, by rw [if_pos ⟨rfl, rfl⟩]⟩
    · simp only [Array.toList_push, List.mem_append, List.mem_singleton] at ha
      have h4 : ¬ (n' = n ∧ t' = t) := fun hh => ha ⟨pk n t, .int .i64 v, clock⟩ (.inr rfl) (by rw [hh.1, hh.2])
      rw [if_neg h4]
      exact hz n' t' (fun e hm => ha e (.inl hm))
  · have hj : es[j]? = some e0 := by simpa using h2
    have hjl : j < es.toList.length := (List.getElem?_eq_some_iff.1 h2).1
    have hlist : (es.modify j (fun e' => { e' with key := pk n t, val := .int .i64 v })).toList = es.toList.set j { e0 with key := pk n t, val := .int .i64 v } := by rw [Array.toList_modify, ChangeMaps.modify_eq_set _ _ _ _ h2]
    refine ⟨setBlock w b (.map (es.modify j (fun e' => { e' with key := pk n t, val := .int .i64 v })) clock), ?_, ⟨_, _, heap_setBlock_same hb _, stamped_modify hs _ _ (fun _ _ => rfl) (fun e' _ he' => by rw [hj] at he'; cases he'; exact h3.symm), fun e hm => ?_, fun n' t' ha => ?_⟩, grown _⟩
    · simp [Instr.mapUpdate, run_underlying Try.underlying90, MapKept.run_getObj_map hb, law127.check w false hkey, h1, hj, h3, law127.stays w hkey, MapKept.run_setObj_map _ hb, Result.andThen, setBlock]
    · rw [hlist] at hm
      obtain ⟨i, hi, ex⟩ := List.getElem_of_mem hm
      rw [List.getElem_set] at ex
      split at ex
      · subst ex
        exact ⟨n, t, hn, ht, rfl, by rw [if_pos ⟨rfl, rfl⟩]⟩
      · rename_i hne
        have hi' : i < es.toList.length := by simpa using hi
        have hm' : e ∈ es.toList := ex ▸ List.getElem_mem hi'
        obtain ⟨n', t', a1, a2, a3, a4⟩ := he e hm'
        refine ⟨n', t', a1, a2, a3, ?_⟩
        rw [if_neg (fun hh => ?_)]
        · exact a4
        have hk : e.key = e0.key := by rw [a3, h3, hh.1, hh.2]
        have hnd := hs.2.2
        have e1 : (es.toList.map (·.key))[i]? = (es.toList.map (·.key))[j]? := by
          rw [List.getElem?_map, List.getElem?_map, h2, List.getElem?_eq_getElem hi', ex]
          simp [hk]
        exact hne (((List.getElem?_inj (by simpa using hi') hnd).1 e1).symm)
    · rw [hlist] at ha
      have h4 : ¬ (n' = n ∧ t' = t) := fun hh => ha { e0 with key := pk n t, val := .int .i64 v } (List.mem_iff_getElem.2 ⟨j, by simpa using hjl, by simp⟩) (by rw [hh.1, hh.2])
      rw [if_neg h4]
      refine hz n' t' (fun e hm hk => ?_)
      obtain ⟨i, hi, ex⟩ := List.getElem_of_mem hm
      by_cases e1 : j = i
      · subst e1
        have : e = e0 := by rw [← ex]; exact (List.getElem?_eq_some_iff.1 h2).2
        subst this
        exact h4 (by obtain ⟨a, b⟩ := pk_inj (hk.symm.trans h3); exact ⟨a, b⟩)
      · exact ha e (List.mem_iff_getElem.2 ⟨i, by simpa using hi, by rw [List.getElem_set, if_neg e1]; exact ex⟩) hk

/-- Both at the operation. -/
theorem wp_look {o : Oper} {a : Act} {w : World} {K : Act → World → Prop} {Q : Exit → Act → World → Prop} (m x : Operand) (ho : o.op = .lookup 90 m x false) (b : Nat) (f : Int → Int → Int) (n t : Int)
    (hm : a.eval m = .map (some b)) (hx : a.eval x = pk n t) (hM : MapAt w b f) (hn : B64 n) (ht : B64 t) (h : K (a.put o.dst (.int .i64 (f n t))) w) : o.wp Try.prog a w K Q := by
  unfold Oper.wp execOp
  simp only [ho, hm, hx, hM.look hn ht, Sem.run_bind, Sem.run_pure, Result.andThen_ok]
  exact h
theorem wp_update {o : Oper} {a : Act} {w : World} {K : Act → World → Prop} {Q : Exit → Act → World → Prop} (m x y : Operand) (ho : o.op = .mapUpdate 90 m x y) (b : Nat) (f : Int → Int → Int) (n t v : Int)
    (hm : a.eval m = .map (some b)) (hx : a.eval x = pk n t) (hy : a.eval y = .int .i64 v) (hM : MapAt w b f) (hn : B64 n) (ht : B64 t)
    (h : ∀ w', MapAt w' b (fun n' t' => if n' = n ∧ t' = t then v else f n' t') → w.grownBy w' (some b) → K (a.put o.dst undef) w') : o.wp Try.prog a w K Q := by
  obtain ⟨w', h1, h2, h3⟩ := hM.update hn ht v
  unfold Oper.wp execOp
  simp only [ho, hm, hx, hy, h1, Sem.run_bind, Sem.run_pure, Result.andThen_ok]
  exact h w' h2 h3
theorem wpList_look {ops : Array Oper} {rest : List Oper} {o : Oper} {a : Act} {w : World} {Q : Exit → Act → World → Prop} (hgd : o.guard = none) (m x : Operand) (ho : o.op = .lookup 90 m x false) (b : Nat) (f : Int → Int → Int) (n t : Int)
    (hm : a.eval m = .map (some b)) (hx : a.eval x = pk n t) (hM : MapAt w b f) (hn : B64 n) (ht : B64 t) (h : wpList Try.prog ops Q rest (a.put o.dst (.int .i64 (f n t))) w) : wpList Try.prog ops Q (o :: rest) a w :=
  wpList_plain hgd fun _ hK => wp_look m x ho b f n t hm hx hM hn ht (hK _ _ h)

end Go.Proofs.Ytbfhchhggkpbdaa

/-
  A runner of package spec as data: a machine, and behind it in the same row the script, the map, how often words were put, and the place to come back to; and how it stays so under stores.
-/
namespace Go.Proofs.Ytbfhchhggkpbdaa
open Go.RowKit
set_option linter.unusedVariables false
set_option linter.unusedSimpArgs false
set_option maxRecDepth 8000

structure Tl where
  sc : Value
  mb : Nat
  puts : Nat → Int
  ahead : Bool
  br : Nat → Int
  bw : Nat → Int
  bn : Int
  bp : Nat → Int
  til : Int

def tlV (q : Tl) (j : Nat) : Value :=
  if j = 411 then q.sc else if j = 412 then .map (some q.mb) else if j < 797 then .int .i64 (q.puts (j - 413)) else if j = 797 then .bool q.ahead
  else if j < 808 then .int .i64 (q.br (j - 798)) else if j < 1192 then .int .i64 (q.bw (j - 808)) else if j = 1192 then .int .i64 q.bn else if j < 1577 then .int .i64 (q.bp (j - 1193)) else .int .i64 q.til
def tlF (q : Tl) (j : Nat) : Option Value := if j < 1578 then some (tlV q j) else none

theorem tlF_at (q : Tl) (j : Nat) (hj : j < 1578) : tlF q j = some (tlV q j) := by unfold tlF; rw [if_pos hj]
theorem tlV_puts (q : Tl) (j : Nat) (hj : j < 384) : tlV q (413 + j) = .int .i64 (q.puts j) := by
  unfold tlV
  rw [if_neg (by omega), if_neg (by omega), if_pos (by omega), show 413 + j - 413 = j by omega]
theorem tlV_br (q : Tl) (j : Nat) (hj : j < 10) : tlV q (798 + j) = .int .i64 (q.br j) := by
  unfold tlV
  rw [if_neg (by omega), if_neg (by omega), if_neg (by omega), if_neg (by omega), if_pos (by omega), show 798 + j - 798 = j by omega]
theorem tlV_bw (q : Tl) (j : Nat) (hj : j < 384) : tlV q (808 + j) = .int .i64 (q.bw j) := by
  unfold tlV
  rw [if_neg (by omega), if_neg (by omega), if_neg (by omega), if_neg (by omega), if_neg (by omega), if_pos (by omega), show 808 + j - 808 = j by omega]
theorem tlV_bp (q : Tl) (j : Nat) (hj : j < 384) : tlV q (1193 + j) = .int .i64 (q.bp j) := by
  unfold tlV
  rw [if_neg (by omega), if_neg (by omega), if_neg (by omega), if_neg (by omega), if_neg (by omega), if_neg (by omega), if_neg (by omega), if_pos (by omega), show 1193 + j - 1193 = j by omega]

/-- A state's cells, and those of how often words were put. -/
def stL (r wd : Nat → Int) (n : Int) : List Value := (List.range 395).map fun j => if j < 10 then .int .i64 (r j) else if j < 394 then .int .i64 (wd (j - 10)) else .int .i64 n
def puL (f : Nat → Int) : List Value := (List.range 384).map fun j => .int .i64 (f j)
theorem stL_length (r wd : Nat → Int) (n : Int) : (stL r wd n).length = 395 := by simp [stL]
theorem puL_length (f : Nat → Int) : (puL f).length = 384 := by simp [puL]
theorem stL_at (r wd : Nat → Int) (n : Int) (j : Nat) (hj : j < 395) : (stL r wd n)[j]? = some (if j < 10 then .int .i64 (r j) else if j < 394 then .int .i64 (wd (j - 10)) else .int .i64 n) := by simp [stL, hj]
theorem puL_at (f : Nat → Int) (j : Nat) (hj : j < 384) : (puL f)[j]? = some (.int .i64 (f j)) := by simp [puL, hj]
theorem stL_one (r wd : Nat → Int) (n : Int) : ∀ v ∈ stL r wd n, v.oneCell' = true := by
  intro v hv
  simp only [stL, List.mem_map] at hv
  obtain ⟨j, _, rfl⟩ := hv
  split
  · rfl
  · split <;> rfl
theorem puL_one (f : Nat → Int) : ∀ v ∈ puL f, v.oneCell' = true := by
  intro v hv
  simp only [puL, List.mem_map] at hv
  obtain ⟨j, _, rfl⟩ := hv
  rfl

/-- A part of the row is stored. -/
theorem MAt.splice {w : World} {M : Nat} {rv cv : Value} {x x' : Ms} (h : MAt w M rv cv x) (o : Nat) (vs : List Value) (hT : x'.T = x.T) (hfit : o + vs.length ≤ 411 ∨ ∃ v, x.tl (o + vs.length - 1) = some v) (h0 : 0 < vs.length)
    (h1 : ∀ j, j < 411 → (if o ≤ j ∧ j < o + vs.length then vs[j - o]? else some (cellF rv cv x j)) = some (cellF rv cv x' j)) (h2 : ∀ j, 411 ≤ j → (if o ≤ j ∧ j < o + vs.length then vs[j - o]? else x.tl j) = x'.tl j) : MAt (w.setCells M o vs) M rv cv x' := by
  obtain ⟨c, hh, hc⟩ := h.out
  have hsz : o + vs.length ≤ c.size := by
    rcases hfit with h3 | ⟨v, hv⟩
    · have := hc.big; omega
    · by_cases e : o + vs.length ≤ 411
      · have := hc.big; omega
      · have h4 := hc.tail (o + vs.length - 1) (by omega)
        rw [hv] at h4
        have := (Array.getElem?_eq_some_iff.1 h4).1
        omega
  obtain ⟨c', k1, k2, k3⟩ := setCells_row vs o c w hh hsz
  refine ⟨c', by rw [hT]; exact k1, by rw [k2]; exact hc.big, fun j hj => ?_, fun j hj => ?_⟩
  · rw [k3 j, ← h1 j hj, hc.at_ j hj]
  · rw [k3 j, ← h2 j hj, hc.tail j hj]

/-- A runner, and what it has shown. -/
structure RunS (w : World) (M : Nat) (rv cv : Value) (x : Ms) (q : Tl) (se : List Se) : Prop where
  run : Run w M rv cv { x with T := 96, tl := tlF q } se

section
variable {w w' : World} {M : Nat} {rv cv : Value} {x x' : Ms} {q q' : Tl} {se : List Se}
theorem RunS.lt (h : RunS w M rv cv x q se) : M < w.heap.size := h.run.lt
theorem RunS.more (h : RunS w M rv cv x q se) (m : More w w') : RunS w' M rv cv x q se := ⟨h.run.more m⟩
theorem RunS.alloc (h : RunS w M rv cv x q se) (o : Obj) : RunS (w.alloc o) M rv cv x q se := ⟨h.run.alloc o⟩
theorem RunS.left (h : RunS w M rv cv x q se) {p : Nat × Obj} (hp : p ∈ x.mo) : w.heap[p.1]? = some p.2 := h.run.left hp
theorem RunS.beside (h : RunS w M rv cv x q se) (o : Obj) : RunS (w.alloc o) M rv cv { x with mo := (w.heap.size, o) :: x.mo } q se := ⟨h.run.beside o⟩
theorem RunS.fewer (h : RunS w M rv cv x q se) (l : List (Nat × Obj)) (hl : ∀ p ∈ l, p ∈ x.mo) : RunS w M rv cv { x with mo := l } q se := ⟨h.run.fewer l hl⟩
theorem RunS.drew (h : RunS w M rv cv x q se) : RunS w.drew M rv cv x q se := ⟨h.run.drew⟩
theorem RunS.kept (h : RunS w M rv cv x q se) {row : Option Nat} (hg : w.grownBy w' row) (hr : ∀ b, row = some b → b < M) : RunS w' M rv cv x q se := ⟨h.run.kept hg hr⟩
theorem RunS.tlw (h : RunS w M rv cv x q se) (j : Nat) (h1 : 411 ≤ j) (h2 : j < 1578) : Wr w M j (tlV q j) := h.run.tlw j h1 _ (tlF_at q j h2)
theorem RunS.sc (h : RunS w M rv cv x q se) : Wr w M 411 q.sc := h.tlw 411 (by omega) (by omega)
theorem RunS.map (h : RunS w M rv cv x q se) : Wr w M 412 (.map (some q.mb)) := h.tlw 412 (by omega) (by omega)
theorem RunS.puts (h : RunS w M rv cv x q se) (j : Nat) (hj : j < 384) : Wr w M (413 + j) (.int .i64 (q.puts j)) := by have := h.tlw (413 + j) (by omega) (by omega); rw [tlV_puts q j hj] at this; exact this
theorem RunS.ahead (h : RunS w M rv cv x q se) : Wr w M 797 (.bool q.ahead) := h.tlw 797 (by omega) (by omega)
theorem RunS.til (h : RunS w M rv cv x q se) : Wr w M 1577 (.int .i64 q.til) := h.tlw 1577 (by omega) (by omega)

theorem RunS.setTl (h : RunS w M rv cv x q se) (j : Nat) (v : Value) (hj : 411 ≤ j) (hj2 : j < 1578) (hq : ∀ i, i < 1578 → 411 ≤ i → tlV q' i = if i = j then v else tlV q i) : RunS (w.setCell ⟨M, j, none⟩ v) M rv cv x q' se := by
  refine ⟨h.run.setTl j v (tlV q j) (tlF q') hj (tlF_at q j hj2) (fun i hi => ?_)⟩
  show tlF q' i = if i = j then some v else tlF q i
  unfold tlF
  by_cases e : i < 1578
  · rw [if_pos e, if_pos e, hq i e hi]
    split <;> rfl
  · rw [if_neg e, if_neg e, if_neg (by omega)]
theorem RunS.setSc (h : RunS w M rv cv x q se) (v : Value) : RunS (w.setCell ⟨M, 411, none⟩ v) M rv cv x { q with sc := v } se :=
  h.setTl 411 v (by omega) (by omega) fun i hi h1 => by unfold tlV; by_cases e : i = 411 <;> simp [e]
theorem RunS.setAhead (h : RunS w M rv cv x q se) (b : Bool) : RunS (w.setCell ⟨M, 797, none⟩ (.bool b)) M rv cv x { q with ahead := b } se :=
  h.setTl 797 _ (by omega) (by omega) fun i hi h1 => by unfold tlV; by_cases e : i = 797 <;> simp [e]
theorem RunS.setTil (h : RunS w M rv cv x q se) (n : Int) : RunS (w.setCell ⟨M, 1577, none⟩ (.int .i64 n)) M rv cv x { q with til := n } se :=
  h.setTl 1577 _ (by omega) (by omega) fun i hi h1 => by
    unfold tlV
    by_cases e : i = 1577
    · simp [e]
    · simp [e, show i < 1577 by omega]
theorem RunS.setPut (h : RunS w M rv cv x q se) (k : Nat) (hk : k < 384) (n : Int) : RunS (w.setCell ⟨M, 413 + k, none⟩ (.int .i64 n)) M rv cv x { q with puts := setN q.puts k n } se :=
  h.setTl (413 + k) _ (by omega) (by omega) fun i hi h1 => by
    by_cases e : i = 413 + k
    · subst e; rw [if_pos rfl, tlV_puts _ k hk]; simp [setN]
    · rw [if_neg e]
      unfold tlV setN
      by_cases e1 : i < 413
      · have : i = 411 ∨ i = 412 := by omega
        rcases this with rfl | rfl <;> simp
      · have e2 : ¬ i - 413 = k := by omega
        simp [e2]

theorem RunS.splice (h : RunS w M rv cv x q se) (o : Nat) (vs : List Value) (h0 : 0 < vs.length) (hsz : o + vs.length ≤ 1578)
    (h1 : ∀ sv j, j < 411 → (if o ≤ j ∧ j < o + vs.length then vs[j - o]? else some (cellF rv cv { x with sv := sv } j)) = some (cellF rv cv { x' with sv := sv } j))
    (h2 : ∀ j, 411 ≤ j → j < 1578 → (if o ≤ j ∧ j < o + vs.length then vs[j - o]? else some (tlV q j)) = some (tlV q' j)) (hmo : x'.mo = x.mo) : RunS (w.setCells M o vs) M rv cv x' q' se := by
  obtain ⟨sv, hm, ho, hk⟩ := h.run.out
  refine ⟨⟨sv, hm.splice o vs rfl ?_ h0 (fun j hj => h1 sv j hj) (fun j hj => ?_), ho.kept (grown_setCells M vs o w) (fun b hb => by have := Option.some.inj hb; omega), fun p e => ?_⟩⟩
  · right
    exact ⟨_, tlF_at q _ (by omega)⟩
  · show (if o ≤ j ∧ j < o + vs.length then vs[j - o]? else tlF q j) = tlF q' j
    by_cases e : j < 1578
    · rw [tlF_at q j e, tlF_at q' j e]; exact h2 j hj e
    · unfold tlF
      rw [if_neg (by omega), if_neg e, if_neg e]
  · have e2 : p ∈ x.mo := by rw [← hmo]; exact e
    have hp := hk p e2
    exact ⟨hp.1, hp.2.1, by rw [(grown_setCells M vs o w).block p.1 (heap_some_lt hp.2.2) (fun e' => by have := Option.some.inj e'; have := hp.1; omega)]; exact hp.2.2⟩

theorem RunS.setState (h : RunS w M rv cv x q se) (r wd : Nat → Int) (n : Int) : RunS (w.setCells M 7 (stL r wd n)) M rv cv { x with r := r, wd := wd, next := n } q se := by
  refine h.splice 7 _ (by rw [stL_length]; omega) (by rw [stL_length]; omega) (fun sv j hj => ?_) (fun j hj h1 => ?_) rfl
  · rw [stL_length]
    by_cases e : 7 ≤ j ∧ j < 7 + 395
    · rw [if_pos e, stL_at _ _ _ _ (by omega)]
      by_cases e1 : j < 17
      · obtain ⟨k, rfl⟩ : ∃ k, j = 7 + k := ⟨j - 7, by omega⟩
        rw [if_pos (by omega), cellF_r _ _ _ k (by omega), show 7 + k - 7 = k by omega]
      by_cases e2 : j < 401
      · obtain ⟨k, rfl⟩ : ∃ k, j = 17 + k := ⟨j - 17, by omega⟩
        rw [if_neg (by omega), if_pos (by omega), cellF_wd _ _ _ k (by omega), show 17 + k - 7 - 10 = k by omega]
      obtain rfl : j = 401 := by omega
      rfl
    · rw [if_neg e]
      unfold cellF
      by_cases e1 : j < 7
      · have : j = 0 ∨ j = 1 ∨ j = 2 ∨ j = 3 ∨ j = 4 ∨ j = 5 ∨ j = 6 := by omega
        rcases this with rfl | rfl | rfl | rfl | rfl | rfl | rfl <;> simp
      · simp [show ¬ j = 0 by omega, show ¬ j = 1 by omega, show ¬ j = 2 by omega, show ¬ j = 3 by omega, show ¬ j = 4 by omega, show ¬ j = 5 by omega, show ¬ j = 6 by omega, show ¬ j < 17 by omega, show ¬ j < 401 by omega, show ¬ j = 401 by omega]
  · rw [stL_length, if_neg (by omega)]

theorem RunS.setPuts (h : RunS w M rv cv x q se) (f : Nat → Int) : RunS (w.setCells M 413 (puL f)) M rv cv x { q with puts := f } se := by
  refine h.splice 413 _ (by rw [puL_length]; omega) (by rw [puL_length]; omega) (fun sv j hj => ?_) (fun j hj h1 => ?_) rfl
  · rw [if_neg (by omega)]
  · rw [puL_length]
    by_cases e : 413 ≤ j ∧ j < 413 + 384
    · obtain ⟨k, rfl⟩ : ∃ k, j = 413 + k := ⟨j - 413, by omega⟩
      rw [if_pos e, puL_at _ _ (by omega), tlV_puts _ k (by omega), show 413 + k - 413 = k by omega]
    · rw [if_neg e]
      unfold tlV
      by_cases e1 : j < 413
      · have : j = 411 ∨ j = 412 := by omega
        rcases this with rfl | rfl <;> simp
      · simp [show ¬ j = 411 by omega, show ¬ j = 412 by omega, show ¬ j < 797 by omega]

theorem RunS.setBack (h : RunS w M rv cv x q se) (r wd : Nat → Int) (n : Int) (f : Nat → Int) : RunS (w.setCells M 798 (stL r wd n ++ puL f)) M rv cv x { q with br := r, bw := wd, bn := n, bp := f } se := by
  have hl : (stL r wd n ++ puL f).length = 779 := by rw [List.length_append, stL_length, puL_length]
  refine h.splice 798 _ (by rw [hl]; omega) (by rw [hl]; omega) (fun sv j hj => ?_) (fun j hj h1 => ?_) rfl
  · rw [if_neg (by omega)]
  · rw [hl]
    by_cases e : 798 ≤ j ∧ j < 798 + 779
    · rw [if_pos e, List.getElem?_append, stL_length]
      by_cases e1 : j < 808
      · obtain ⟨k, rfl⟩ : ∃ k, j = 798 + k := ⟨j - 798, by omega⟩
        rw [if_pos (by omega), stL_at _ _ _ _ (by omega), if_pos (by omega), tlV_br _ k (by omega), show 798 + k - 798 = k by omega]
      by_cases e2 : j < 1192
      · obtain ⟨k, rfl⟩ : ∃ k, j = 808 + k := ⟨j - 808, by omega⟩
        rw [if_pos (by omega), stL_at _ _ _ _ (by omega), if_neg (by omega), if_pos (by omega), tlV_bw _ k (by omega), show 808 + k - 798 - 10 = k by omega]
      by_cases e3 : j = 1192
      · subst e3
        rw [if_pos (by omega), stL_at _ _ _ _ (by omega)]
        rfl
      · obtain ⟨k, rfl⟩ : ∃ k, j = 1193 + k := ⟨j - 1193, by omega⟩
        rw [if_neg (by omega), puL_at _ _ (by omega), tlV_bp _ k (by omega), show 1193 + k - 798 - 395 = k by omega]
    · rw [if_neg e]
      unfold tlV
      by_cases e1 : j < 798
      · have : j = 411 ∨ j = 412 ∨ (¬ j = 411 ∧ ¬ j = 412 ∧ j < 797) ∨ j = 797 := by omega
        rcases this with rfl | rfl | h3 | rfl
        · simp
        · simp
        · simp [h3]
        · simp
      · simp [show ¬ j = 411 by omega, show ¬ j = 412 by omega, show ¬ j < 797 by omega, show ¬ j = 797 by omega, show ¬ j < 808 by omega, show ¬ j < 1192 by omega, show ¬ j = 1192 by omega, show ¬ j < 1577 by omega]

theorem RunS.stateC (h : RunS w M rv cv x q se) : ∀ j v, (stL x.r x.wd x.next)[j]? = some v → w.cell? ⟨M, 7 + j, none⟩ = some v := by
  intro j v hv
  have hj : j < 395 := by have := (List.getElem?_eq_some_iff.1 hv).1; rw [stL_length] at this; exact this
  rw [stL_at _ _ _ _ hj] at hv
  rw [← hv]
  by_cases e1 : j < 10
  · rw [if_pos e1]; exact (h.run.r j e1).1
  rw [if_neg e1]
  by_cases e2 : j < 394
  · rw [if_pos e2]
    have := (h.run.wd (j - 10) (by omega)).1
    rw [show 17 + (j - 10) = 7 + j by omega] at this
    exact this
  rw [if_neg e2]
  obtain rfl : j = 394 := by omega
  exact h.run.next.1
theorem RunS.putsC (h : RunS w M rv cv x q se) : ∀ j v, (puL q.puts)[j]? = some v → w.cell? ⟨M, 413 + j, none⟩ = some v := by
  intro j v hv
  have hj : j < 384 := by have := (List.getElem?_eq_some_iff.1 hv).1; rw [puL_length] at this; exact this
  rw [puL_at _ _ hj] at hv
  rw [← hv]
  exact (h.puts j hj).1
theorem RunS.backS (h : RunS w M rv cv x q se) : ∀ j v, (stL q.br q.bw q.bn)[j]? = some v → w.cell? ⟨M, 798 + j, none⟩ = some v := by
  intro j v hv
  have hj : j < 395 := by have := (List.getElem?_eq_some_iff.1 hv).1; rw [stL_length] at this; exact this
  rw [stL_at _ _ _ _ hj] at hv
  rw [← hv]
  have := (h.tlw (798 + j) (by omega) (by omega)).1
  rw [this]
  by_cases e1 : j < 10
  · rw [if_pos e1, tlV_br q j e1]
  rw [if_neg e1]
  by_cases e2 : j < 394
  · rw [if_pos e2, show 798 + j = 808 + (j - 10) by omega, tlV_bw q _ (by omega)]
  rw [if_neg e2]
  obtain rfl : j = 394 := by omega
  rfl
theorem RunS.backP (h : RunS w M rv cv x q se) : ∀ j v, (puL q.bp)[j]? = some v → w.cell? ⟨M, 1193 + j, none⟩ = some v := by
  intro j v hv
  have hj : j < 384 := by have := (List.getElem?_eq_some_iff.1 hv).1; rw [puL_length] at this; exact this
  rw [puL_at _ _ hj] at hv
  rw [← hv]
  have := (h.tlw (1193 + j) (by omega) (by omega)).1
  rw [this, tlV_bp q j hj]
/-- Every cell of the row is there, and may be written. -/
theorem RunS.any (h : RunS w M rv cv x q se) (j : Nat) (hj : j < 1578) : ∃ v, Wr w M j v := by
  by_cases e : j < 411
  · obtain ⟨sv, hm, _⟩ := h.run.out
    exact ⟨_, hm.wr j e⟩
  · exact ⟨_, h.tlw j (by omega) hj⟩
end

end Go.Proofs.Ytbfhchhggkpbdaa

/-
  What the small methods of package spec's runner come to.
-/
namespace Go.Proofs.Ytbfhchhggkpbdaa
open Go.RowKit
set_option linter.unusedVariables false
set_option linter.unusedSimpArgs false
set_option maxRecDepth 8000

/-- The choices that are left, where the script lies (in a block below B). -/
structure ScAt (w : World) (B : Nat) (sc : Value) (L : List Int) : Prop where
  out : ∃ sa cap, sc = .slice sa L.length cap ∧ L.length ≤ cap ∧ (L ≠ [] → ∃ sb so, sa = some ⟨sb, so, none⟩ ∧ sb < B ∧ ∀ j c, L[j]? = some c → w.cell? ⟨sb, so + j, none⟩ = some (.int .i64 c))

theorem ScAt.below {w w' : World} {B : Nat} {sc : Value} {L : List Int} (h : ScAt w B sc L) (hb : Below B w w') : ScAt w' B sc L := by
  obtain ⟨sa, cap, h1, h2, h3⟩ := h.out
  refine ⟨sa, cap, h1, h2, fun hL => ?_⟩
  obtain ⟨sb, so, h4, h5, h6⟩ := h3 hL
  exact ⟨sb, so, h4, h5, fun j c hc => by rw [Below.cell hb h5]; exact h6 j c hc⟩

theorem spec_choice (w : World) (M B : Nat) (rv cv : Value) (x : Ms) (q : Tl) (se : List Se) (L : List Int) (h : RunS w M rv cv x q se) (hs : ScAt w B q.sc L) (hB : B ≤ M) :
    Calls Try.prog 94 #[.pointer (some ⟨M, 0, none⟩)] w fun e w' => e = .returned (.int .i64 (L.headD 0)) ∧ Below M w w' ∧ ∃ sc', RunS w' M rv cv x { q with sc := sc' } se ∧ ScAt w' B sc' L.tail := by
  obtain ⟨sa, cap, hsc, hcap, hl⟩ := hs.out
  have hM := h.lt
  obtain ⟨c411, f411⟩ := h.sc
  rw [hsc] at c411
  have H : Hid (RunS w M rv cv x q se ∧ ScAt w B q.sc L) := ⟨h, hs⟩
  cases L with
  | nil =>
    clear h hs hl
    go_enter Try.func94, Try.ntmps94
    go_wp2
    go_ret
    exact ⟨rfl, Below.refl _ _, q.sc, H.out.1, H.out.2⟩
  | cons c L =>
    obtain ⟨sb, so, rfl, hsb, hcell⟩ := hl (by simp)
    have c0 := hcell 0 c (by simp)
    rw [Nat.add_zero] at c0
    have Hc : Hid (sb < B ∧ B ≤ M ∧ ∀ j c', (c :: L)[j]? = some c' → w.cell? ⟨sb, so + j, none⟩ = some (.int .i64 c')) := ⟨hsb, hB, hcell⟩
    have hne : ¬ sb = M := by omega
    have hn1 : (1 : Int) ≤ ((c :: L).length : Int) := by simp; omega
    have hn2 : ((c :: L).length : Int) ≤ (cap : Int) := by omega
    obtain ⟨n, hn⟩ : ∃ n, (c :: L).length = n := ⟨_, rfl⟩
    have Hn : Hid ((c :: L).length = n) := hn
    rw [hn] at c411 hn1 hn2 hcap
    have hn0 : ¬ (n : Int) = 0 := by omega
    have hn3 : ¬ n = 0 := by omega
    have hz : ((n : Int) == 0) = false := by simp; omega
    have hcap1 : 1 ≤ cap := by omega
    clear h hs hl hcell hn hsc
    by_cases e1 : cap = 1
    · subst e1
      go_enter Try.func94, Try.ntmps94
      go_wp2
      go_ret
      refine ⟨rfl, below_put (Below.refl _ _) _ _, _, H.out.1.setSc _, ?_⟩
      have hL : L = [] := by have := Hn.out; simp at this; cases L with | nil => rfl | cons a l => simp at this; omega
      subst hL
      exact ⟨_, _, rfl, Nat.zero_le _, fun h => absurd rfl h⟩
    · go_enter Try.func94, Try.ntmps94
      go_wp2
      go_ret
      refine ⟨rfl, below_put (Below.refl _ _) _ _, _, H.out.1.setSc _, ?_⟩
      have hL : n - 1 = L.length := by have := Hn.out; simp at this; omega
      refine ⟨some ⟨sb, so + 1, none⟩, cap - 1, by rw [List.tail_cons, ← hL], by rw [List.tail_cons]; omega, fun h => ⟨sb, so + 1, rfl, Hc.out.1, fun j c' hc => ?_⟩⟩
      rw [World.cell?_setCell_other _ _ _ _ (by simp <;> omega), show so + 1 + j = so + (j + 1) by omega]
      exact Hc.out.2.2 (j + 1) c' (by simpa using hc)

theorem spec_hasWord (w : World) (M : Nat) (ra : Option Addr) (rl rc : Nat) (cv : Value) (x : Ms) (se : List Se) (n : Int) (h : Run w M (.slice ra rl rc) cv x se) (hrl : rl ≤ 6) :
    Calls Try.prog 97 #[.pointer (some ⟨M, 0, none⟩), .int .i64 n] w fun e w' => e = .returned (.bool (decide (0 ≤ n) && decide (n < x.st rl))) ∧ More w w' := by
  have c0 := h.p0.1
  have cs := (h.st rl (by omega)).1
  have r0 : (0 : Int) ≤ (rl : Int) := by omega
  have r7 : (rl : Int) < 7 := by omega
  clear h
  by_cases h0 : 0 ≤ n
  · go_enter Try.func97, Try.ntmps97
    go_wp2
    go_region
    go_wp2
    go_ret
    exact ⟨by simp [h0], (More.refl _).drew⟩
  · have h0' : decide (0 ≤ n) = false := by simp; omega
    go_enter Try.func97, Try.ntmps97
    go_wp2
    go_region
    go_wp2
    go_ret
    exact ⟨by simp [h0]; intro h; omega, (More.refl _).drew⟩

set_option maxHeartbeats 400000 in
theorem spec_was_no (w : World) (M : Nat) (rv cv : Value) (x : Ms) (q : Tl) (se : List Se) (n c : Int) (h : RunS w M rv cv x q se) (n0 : 0 ≤ n) (n1 : n < 384) (hc : c = 0 ∨ q.puts n.toNat < c) :
    Calls Try.prog 98 #[.pointer (some ⟨M, 0, none⟩), .int .i64 n, .int .i64 c] w fun e w' => e = .returned (.tuple #[.int .i64 0, .bool false]) ∧ w' = w := by
  have c0 := (h.puts n.toNat (by omega)).1
  obtain ⟨t, ht⟩ : ∃ t, q.puts n.toNat = t := ⟨_, rfl⟩
  rw [ht] at c0 hc
  clear h ht
  by_cases e : c = 0
  · subst e
    clear hc
    go_enter Try.func98, Try.ntmps98
    go_wp2
    go_ret2
    exact ⟨rfl, rfl⟩
  · have e' : (c == 0) = false := by simp [e]
    have e2 : t < c := by omega
    clear hc
    go_enter Try.func98, Try.ntmps98
    go_wp2
    go_ret2
    exact ⟨rfl, rfl⟩

set_option maxHeartbeats 400000 in
theorem spec_was_yes (w : World) (M : Nat) (rv cv : Value) (x : Ms) (q : Tl) (se : List Se) (f : Int → Int → Int) (n c : Int) (h : RunS w M rv cv x q se) (hm : MapAt w q.mb f) (n0 : 0 ≤ n) (n1 : n < 384) (c0 : 0 < c) (c1 : c ≤ q.puts n.toNat) (hp : q.puts n.toNat ≤ 100000) :
    Calls Try.prog 98 #[.pointer (some ⟨M, 0, none⟩), .int .i64 n, .int .i64 c] w fun e w' => e = .returned (.tuple #[.int .i64 (f n (q.puts n.toNat - c)), .bool true]) ∧ w' = w := by
  have cp := (h.puts n.toNat (by omega)).1
  have cm := h.map.1
  obtain ⟨t, ht⟩ : ∃ t, q.puts n.toNat = t := ⟨_, rfl⟩
  rw [ht] at cp c1 hp ⊢
  obtain ⟨mb, hmb⟩ : ∃ mb, q.mb = mb := ⟨_, rfl⟩
  rw [hmb] at cm hm
  have hw : wrap64 (t - c) = t - c := by unfold wrap64; omega
  have hwr := wrapEq
  have HM : Hid (MapAt w mb f ∧ B64 n ∧ B64 (t - c)) := ⟨hm, by unfold B64; omega, by unfold B64; omega⟩
  obtain ⟨v, hv⟩ : ∃ v, f n (t - c) = v := ⟨_, rfl⟩
  rw [hv]
  have Hv : Hid (f n (t - c) = v) := hv
  have e' : (c == 0) = false := by simp; omega
  have e2 : ¬ t < c := by omega
  clear h hm ht hmb hv
  go_enter Try.func98, Try.ntmps98
  go_wp2_with (refine wpList_look rfl (.tmp 25) (.tmp 30) rfl mb f n (t - c) rfl rfl HM.out.1 HM.out.2.1 HM.out.2.2 ?_; rw [Hv.out])
  go_ret2
  exact ⟨rfl, rfl⟩
end Go.Proofs.Ytbfhchhggkpbdaa

/-
  What the rows of package spec's types are, as the program makes them.
-/
namespace Go.Proofs.Ytbfhchhggkpbdaa
open Go.RowKit
set_option linter.unusedVariables false
set_option linter.unusedSimpArgs false
set_option maxRecDepth 8000

theorem fold_put (off : Nat) : ∀ (l : List Value) (k : Nat) (cs : Array Value), off + k + l.length ≤ cs.size →
    ((l.zipIdx k).foldl (fun cs (x : Value × Nat) => cs.setIfInBounds (off + x.2) x.1) cs).size = cs.size ∧ ∀ j, ((l.zipIdx k).foldl (fun cs (x : Value × Nat) => cs.setIfInBounds (off + x.2) x.1) cs)[j]? = if off + k ≤ j ∧ j < off + k + l.length then l[j - (off + k)]? else cs[j]?
  | [], k, cs, _ => ⟨rfl, fun j => by rw [if_neg (by simp <;> omega)]; rfl⟩
  | v :: l, k, cs, h => by
    simp only [List.length_cons] at h
    obtain ⟨h1, h2⟩ := fold_put off l (k + 1) (cs.setIfInBounds (off + k) v) (by simp; omega)
    simp only [List.zipIdx_cons, List.foldl_cons]
    refine ⟨by rw [h1]; simp, fun j => ?_⟩
    rw [h2 j, Array.getElem?_setIfInBounds]
    simp only [List.length_cons]
    by_cases e : j = off + k
    · subst e
      rw [if_neg (by omega), if_pos rfl, if_pos (by omega), if_pos (by omega)]
      simp
    · by_cases e2 : off + (k + 1) ≤ j ∧ j < off + (k + 1) + l.length
      · rw [if_pos e2, if_pos (by omega), show j - (off + k) = (j - (off + (k + 1))) + 1 by omega]
        simp
      · rw [if_neg e2, if_neg (fun h => e h.symm), if_neg (by omega)]

theorem fill_cons (place : Nat → Option (Nat × Nat)) (cs : Array Value) (i : Nat) (v : Value) (rest : List (Nat × Value)) (off size : Nat) (hp : place i = some (off, size)) (hv : v.cells.size = size) (hs : off + size ≤ cs.size) :
    ∃ cs', Instr.fill place cs ((i, v) :: rest) = Instr.fill place cs' rest ∧ cs'.size = cs.size ∧ ∀ j, cs'[j]? = if off ≤ j ∧ j < off + size then v.cells[j - off]? else cs[j]? := by
  obtain ⟨h1, h2⟩ := fold_put off v.cells.toList 0 cs (by simp; omega)
  have e : v.cells.zipIdx.foldl (fun cs (x : Value × Nat) => cs.setIfInBounds (off + x.2) x.1) cs = (v.cells.toList.zipIdx 0).foldl (fun cs (x : Value × Nat) => cs.setIfInBounds (off + x.2) x.1) cs := by
    rw [← Array.foldl_toList]
    simp
  refine ⟨_, ?_, h1, fun j => ?_⟩
  · rw [Instr.fill]
    simp only [hp]
    rw [if_neg (by simp; omega)]
    rw [← e]
  · rw [h2 j]
    simp only [Nat.add_zero, Array.length_toList, hv, Array.getElem?_toList]

theorem built_struct {P : Program} {t : TypeId} {fields : Array Field} {it : TypeInfo} {z : Value} {places : List (Nat × Nat)} (hi : P.info? t = some it) (hu : P.underlying t = some (.struct fields)) (hz : it.zero = some z)
    (hp : fields.toList.mapM (fun f => (P.info? f.type).map fun i => (f.offset, i.size)) = some places) (parts : List (Nat × Value)) : P.built t parts = Instr.fill (places.toArray[·]?) z.cells parts := by
  unfold Program.built
  simp only [hi, hu, hz, hp]

theorem info94 : (Try.prog.info? 94).map (·.size) = some 779 := by kernel_rfl
theorem info74 : (Try.prog.info? 74).map (·.size) = some 395 := by kernel_rfl
theorem info92 : (Try.prog.info? 92).map (·.size) = some 384 := by kernel_rfl
theorem zsize94 : (Try.prog.info? 94).map (fun i => i.zero.map (fun z => z.cells.size)) = some (some 779) := by kernel_rfl
def fieldsOf (P : Program) (t : TypeId) : List Field := match P.underlying t with | some (.struct fs) => fs.toList | _ => []
theorem places94 : (fieldsOf Try.prog 94).mapM (fun f => (Try.prog.info? f.type).map fun i => (f.offset, i.size)) = some [(0, 395), (395, 384)] := by kernel_rfl
theorem places96 : (fieldsOf Try.prog 96).mapM (fun f => (Try.prog.info? f.type).map fun i => (f.offset, i.size)) = some [(0, 411), (411, 1), (412, 1), (413, 384), (797, 1), (798, 779), (1577, 1)] := by kernel_rfl

theorem built94 (A B : Array Value) (hA : A.size = 395) (hB : B.size = 384) : ∃ C, Try.prog.built 94 [(0, .agg A), (1, .agg B)] = some C ∧ C.size = 779 ∧ ∀ j, j < 779 → C[j]? = if j < 395 then A[j]? else B[j - 395]? := by
  have hz := zsize94
  cases hi : Try.prog.info? 94 with
  | none => rw [hi] at hz; simp at hz
  | some it =>
    rw [hi] at hz
    simp only [Option.map_some, Option.some.injEq] at hz
    cases hzz : it.zero with
    | none => rw [hzz] at hz; simp at hz
    | some z =>
      rw [hzz] at hz
      simp only [Option.map_some, Option.some.injEq] at hz
      have hp := places94
      unfold fieldsOf at hp
      rw [Try.underlying94] at hp
      rw [built_struct hi Try.underlying94 hzz hp]
      obtain ⟨c1, e1, s1, g1⟩ := fill_cons (fun x => [(0, 395), (395, 384)].toArray[x]?) z.cells 0 (.agg A) [(1, .agg B)] 0 395 rfl hA (by omega)
      obtain ⟨c2, e2, s2, g2⟩ := fill_cons (fun x => [(0, 395), (395, 384)].toArray[x]?) c1 1 (.agg B) [] 395 384 rfl hB (by omega)
      refine ⟨c2, by rw [e1, e2]; rfl, by omega, fun j hj => ?_⟩
      rw [g2 j, g1 j]
      by_cases e : j < 395
      · rw [if_neg (by omega), if_pos (by omega), if_pos e]; rfl
      · rw [if_pos (by omega), if_neg e]; rfl

def zTl (sc : Value) (mb : Nat) : Tl := ⟨sc, mb, fun _ => 0, false, fun _ => 0, fun _ => 0, 0, fun _ => 0, 0⟩
def rowS (rv cv : Value) (x : Ms) (q : Tl) : Array Value := ((List.range 1578).map fun j => if j < 411 then cellF rv cv x j else tlV q j).toArray
theorem zero96 : (Try.prog.info? 96).map (fun i => (i.zero, i.size)) = some (some (.agg ((rowS (.slice none 0 0) (.slice none 0 0) (ms0 0) (zTl (.slice none 0 0) 0)).setIfInBounds 412 (.map none))), 1578) := by kernel_rfl

theorem built96 (c : Array Value) (rv cv : Value) (x : Ms) (hc : MC c rv cv x) (hx : x.tl 411 = none) (sa : Option Addr) (n cap mb : Nat) :
    ∃ C, Try.prog.built 96 [(0, .agg c), (1, .slice sa n cap), (2, .map (some mb))] = some C ∧ C.size = 1578 ∧ MC C rv cv { x with T := 96, tl := tlF (zTl (.slice sa n cap) mb) } := by
  have hcs := hc.size hx
  cases hi : Try.prog.info? 96 with
  | none => have := zero96; rw [hi] at this; simp at this
  | some it =>
    have h0 := zero96
    rw [hi] at h0
    simp only [Option.map_some, Option.some.injEq, Prod.mk.injEq] at h0
    have hp := places96
    unfold fieldsOf at hp
    rw [Try.underlying96] at hp
    rw [built_struct hi Try.underlying96 h0.1 hp]
    obtain ⟨Z, hZ⟩ : ∃ Z, Z = (rowS (.slice none 0 0) (.slice none 0 0) (ms0 0) (zTl (.slice none 0 0) 0)).setIfInBounds 412 (.map none) := ⟨_, rfl⟩
    have hZs : Z.size = 1578 := by rw [hZ]; simp [rowS]
    rw [← hZ]
    obtain ⟨c1, e1, s1, g1⟩ := fill_cons (fun x => [(0, 411), (411, 1), (412, 1), (413, 384), (797, 1), (798, 779), (1577, 1)].toArray[x]?) (Value.agg Z).cells 0 (.agg c) [(1, .slice sa n cap), (2, .map (some mb))] 0 411 rfl hcs (by show _ ≤ Z.size; omega)
    obtain ⟨c2, e2, s2, g2⟩ := fill_cons (fun x => [(0, 411), (411, 1), (412, 1), (413, 384), (797, 1), (798, 779), (1577, 1)].toArray[x]?) c1 1 (.slice sa n cap) [(2, .map (some mb))] 411 1 rfl rfl (by rw [s1]; show _ ≤ Z.size; omega)
    obtain ⟨c3, e3, s3, g3⟩ := fill_cons (fun x => [(0, 411), (411, 1), (412, 1), (413, 384), (797, 1), (798, 779), (1577, 1)].toArray[x]?) c2 2 (.map (some mb)) [] 412 1 rfl rfl (by rw [s2, s1]; show _ ≤ Z.size; omega)
    have hsz : c3.size = 1578 := by rw [s3, s2, s1]; exact hZs
    refine ⟨c3, by rw [e1, e2, e3]; rfl, hsz, by omega, fun j hj => ?_, fun j hj => ?_⟩
    · rw [g3 j, g2 j, g1 j, if_neg (by omega), if_neg (by omega), if_pos (by omega)]
      exact hc.at_ j hj
    · show _ = tlF (zTl (.slice sa n cap) mb) j
      by_cases e : j < 1578
      · rw [tlF_at _ _ e, g3 j, g2 j, g1 j]
        by_cases e411 : j = 411
        · subst e411; rfl
        by_cases e412 : j = 412
        · subst e412; rfl
        rw [if_neg (by omega), if_neg (by omega), if_neg (by omega)]
        show Z[j]? = _
        rw [hZ, Array.getElem?_setIfInBounds, if_neg (by omega)]
        unfold rowS
        simp only [List.getElem?_toArray, List.getElem?_map, List.getElem?_range e, Option.map_some]
        rw [if_neg (by omega)]
        unfold tlV zTl
        simp [e411, e412]
      · rw [Array.getElem?_eq_none (by omega)]
        unfold tlF
        rw [if_neg e]

end Go.Proofs.Ytbfhchhggkpbdaa
