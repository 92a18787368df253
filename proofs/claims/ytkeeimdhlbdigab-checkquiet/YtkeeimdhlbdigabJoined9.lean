/-
  The texts CvTold, CkQuiet, CkPublic, RefSame, one behind the other.
-/
import Derived.Test.YtkeeimdhlbdigabJoined5
import Derived.Test.YtkeeimdhlbdigabJoined6
import Derived.Test.YtkeeimdhlbdigabJoined8
import Derived.Test.YtkeeimdhlbdigabJoined1
import Derived.Test.YtkeeimdhlbdigabProg
import Derived.Test.YtkeeimdhlbdigabJoined0
import Derived.Deep.LoopGhost
import Derived.Test.YtkeeimdhlbdigabRows
import Derived.WalkKit

/-
  What a call of the law's told does; that a check tells one of three faults. And what opens the laws of stage 6.
-/
namespace Go.Proofs.Ytkeeimdhlbdigab
open Go.RowKit
set_option linter.unusedVariables false
set_option linter.unusedSimpArgs false
set_option maxRecDepth 8000

theorem told_calls (f1 f2 : Int) (h : f1 = 2 ∨ f1 = 4 ∨ f1 = 5) (w : World) : Calls Try.prog 14 #[.agg #[.int .i64 f1, .int .i64 f2]] w fun e w' => e = .returned (.bool true) ∧ More w w' := by
  rcases h with rfl | rfl | rfl
  all_goals
    go_enter Try.func14, Try.ntmps14
    go_wp2
    go_ret
    exact ⟨rfl, (More.refl _).alloc _ _⟩

theorem scan_told {p : Prg} {l : KV} : ∀ n at_, (scanK p l n at_).1 = 0 ∨ (scanK p l n at_).1 = 4 ∨ (scanK p l n at_).1 = 5
  | 0, at_ => .inl rfl
  | n + 1, at_ => by
    rw [scanK]
    cases l at_ with
    | none => exact scan_told n (at_ + 1)
    | some s =>
      dsimp only
      by_cases h : faultK p at_ s = 0
      · rw [if_pos h]; exact scan_told n (at_ + 1)
      · rw [if_neg h]
        dsimp only
        revert h
        unfold faultK
        split
        · intro _; exact .inr (.inl rfl)
        · split
          · intro _; exact .inr (.inr rfl)
          · intro h; exact absurd rfl h

/-- A check's answer: what is wrong with the form, or the first fault of the known states. -/
def Told (p : Prg) (f : Int × Int) : Prop := (¬ p.Ok 200 8 ∧ f = (2, 0)) ∨ (p.Ok 200 8 ∧ ∃ l, Known p l ∧ f = checkK p l)
theorem Told.bad {p : Prg} {f : Int × Int} (h : Told p f) (h0 : ¬ f.1 = 0) : f.1 = 2 ∨ f.1 = 4 ∨ f.1 = 5 := by
  rcases h with ⟨_, rfl⟩ | ⟨_, l, _, rfl⟩
  · exact .inl rfl
  · rcases scan_told (p := p) (l := l) p.cl 0 with h1 | h1 | h1
    · exact absurd h1 h0
    · exact .inr (.inl h1)
    · exact .inr (.inr h1)
theorem Told.ok {p : Prg} {f : Int × Int} (h : Told p f) (h0 : f.1 = 0) : p.Ok 200 8 ∧ ∃ l, Known p l ∧ (checkK p l).1 = 0 := by
  rcases h with ⟨_, rfl⟩ | ⟨h1, l, h2, rfl⟩
  · exact absurd h0 (by decide)
  · exact ⟨h1, l, h2, h0⟩
theorem Told.one {p : Prg} {f g : Int × Int} (h : Told p f) (k : Told p g) : f = g := by
  rcases h with ⟨h1, rfl⟩ | ⟨h1, l, h2, rfl⟩
  · rcases k with ⟨_, rfl⟩ | ⟨k1, _⟩
    · rfl
    · exact absurd k1 h1
  · rcases k with ⟨k1, _⟩ | ⟨_, l', k2, rfl⟩
    · exact absurd h1 k1
    · exact check_one h1 h2 k2

/-- check.Check, whatever the program. -/
theorem check_told (p : Prg) (l : Loc) (w : World) (hp : PIn w p l) (hf : p.Fit) :
    Calls Try.prog 12 #[.agg #[.slice l.ra p.rl l.rc, .slice l.ca p.cl l.cc]] w fun e w' => ∃ f : Int × Int, Told p f ∧ e = .returned (.agg #[.int .i64 f.1, .int .i64 f.2]) ∧ More w w' := by
  by_cases hok : p.Ok 200 8
  · refine (check_ok_calls p l w hp hok (fun i hi => (hf.ins i hi).2.2.2.2)).mono ?_
    rintro e w' ⟨l', h1, rfl, m⟩
    exact ⟨_, .inr ⟨hok, l', h1, rfl⟩, rfl, m⟩
  · exact (check_form p l w hp hok).mono (fun e w' ⟨h1, h2⟩ => ⟨(2, 0), .inl ⟨hok, rfl⟩, h1, h2⟩)
theorem may_true (p : Prg) (l : Loc) (w : World) (hp : PIn w p l) (hok : p.Ok 200 8) :
    Calls Try.prog 15 #[.agg #[.slice l.ra p.rl l.rc, .slice l.ca p.cl l.cc]] w fun e w' => e = .returned (.bool true) ∧ More w w' := by
  refine (ref_may p l _ hp).mono ?_
  rintro e w' ⟨r, rfl, hr, m⟩
  cases r with
  | true => exact ⟨rfl, m⟩
  | false => exact absurd (hr.2 hok) (by simp)
theorem fits_says (p : Prg) (l : Loc) (m : Mem) (ml : MLoc) (w : World) (hp : PIn w p l) (hm : MRaw w m ml) (r : Bool) (hr : r = true ↔ FitsOk p.rl p.log m.ml m.len) :
    Calls Try.prog 16 #[.agg #[.slice l.ra p.rl l.rc, .slice l.ca p.cl l.cc], .slice ml.ma m.ml ml.mc] w fun e w' => e = .returned (.bool r) ∧ More w w' := by
  refine (ref_fits l.ra p.rl l.rc l.ca p.cl l.cc ml.ma m.ml ml.mc l.rb l.ro ml.mb ml.mo p.log p.sec ml.A m.len ml.C w hp.hr hp.regs hm.hm hm.lists).mono ?_
  rintro e w' ⟨q, rfl, hq, mm⟩
  have : q = r := Bool.eq_iff_iff.2 (hq.trans hr.symm)
  rw [this]
  exact ⟨rfl, mm⟩
/-- A memory that fits a program that may be. -/
theorem fits_in {p : Prg} {m : Mem} (hok : p.Ok 200 8) (h : FitsOk p.rl p.log m.ml m.len) : m.ml = p.rl ∧ m.ml ≤ 6 ∧ (∀ i, i < m.ml → (m.len i : Int) = wordsI (p.log i)) ∧ ∀ i, i < m.ml → m.len i ≤ 64 := by
  have h1 : m.ml = p.rl := h.2.1
  refine ⟨h1, by rw [h1]; exact hok.1.1, fun i hi => h.2.2 i (by omega), fun i hi => ?_⟩
  have h2 := h.2.2 i (by omega)
  have h3 := hok.1.2 i (by omega)
  have h4 := two_pow_le (k := (p.log i).toNat) (by omega)
  unfold wordsI at h2
  omega

end Go.Proofs.Ytkeeimdhlbdigab

/-
  It tells nothing: two runs of a program without fault, with the same public words, show the same and leave the same public words. No Go text in sight.
-/
namespace Go.Proofs.Ytkeeimdhlbdigab
open Go.RowKit
set_option linter.unusedVariables false

/-- The same, of what is no secret. -/
def EqS (k : KS) (r t : Nat → Int) : Prop := ∀ j, j < 8 → (k j).s = false → r j = t j
theorem EqS.mono {k u : KS} (h : leS k u) {r t : Nat → Int} (q : EqS k r t) : EqS u r t := fun j hj hs => q j hj (by
  cases e : (k j).s
  · rfl
  · rw [(h j hj).2 e] at hs; cases hs)
theorem EqS.set {k : KS} {r t : Nat → Int} (h : EqS k r t) (a : Int) {v : Kn} {x y : Int} (q : v.s = false → x = y) : EqS (setK k a v) (setR r a x) (setR t a y) := fun j hj hs => by
  unfold setK at hs
  unfold setR
  by_cases e : j = a.toNat
  · rw [if_pos e] at hs; rw [if_pos e, if_pos e]; exact q hs
  · rw [if_neg e] at hs; rw [if_neg e, if_neg e]; exact h j hj hs
theorem EqS.know {k : KS} {r t : Nat → Int} (h : EqS k r t) (a : Int) {v : Kn} (q : v.s = false → r a.toNat = t a.toNat) : EqS (setK k a v) r t := fun j hj hs => by
  unfold setK at hs
  by_cases e : j = a.toNat
  · rw [if_pos e] at hs; rw [e]; exact q hs
  · rw [if_neg e] at hs; exact h j hj hs

/-- The same words in all public regions. -/
def PubI (p : Prg) (x y : Mem) : Prop := ∀ c, c < p.rl → p.sec c = false → ∀ i, i < x.len c → x.wd c i = y.wd c i

/-- Two runs stand alike. -/
structure Twins (p : Prg) (l : KV) (s t : St) : Prop where
  at_ : s.at_ = t.at_
  seen : s.seen = t.seen
  r : ∃ k, l s.at_ = some k ∧ EqS k s.r t.r
  m : PubI p s.m t.m

section
variable {p : Prg} {m m' : Mem} {l : KV} {s t : St}

theorem eq_less {k : KS} {r t : Nat → Int} (h : EqS k r t) (a : Int) (ha : a.toNat < 8) (y : Kn) : EqS (setK k a (Kn.less (k a.toNat) y)) r t := h.know a (fun q => h _ ha q)
theorem eq_first {i : Ins} {k : KS} {r t : Nat → Int} (hi : InsOk p.rl p.log p.cl 8 i) (h8 : i.op = 8) (h : EqS k r t) : EqS (firstK i k) r t := eq_less h i.a ((regs_of hi).1 (by omega)) _
theorem eq_second {i : Ins} {k : KS} {r t : Nat → Int} (hi : InsOk p.rl p.log p.cl 8 i) (h8 : i.op = 8) (h : EqS k r t) : EqS (secondK i k) r t := eq_less h i.b ((regs_of hi).2.1 (by omega)) _
theorem eq_both {i : Ins} {k : KS} {r t : Nat → Int} (hi : InsOk p.rl p.log p.cl 8 i) (h8 : i.op = 8) (h : EqS k r t) : EqS (bothK i k) r t :=
  (eq_first hi h8 h).know i.b (fun q => h _ ((regs_of hi).2.1 (by omega)) q)
theorem eq_yes {i : Ins} {k : KS} {r t : Nat → Int} (hi : InsOk p.rl p.log p.cl 8 i) (h8 : i.op = 8) (h : EqS k r t) : EqS (yesK i k) r t := by
  unfold yesK
  split
  · exact eq_both hi h8 h
  split
  · exact h
  split
  · exact eq_first hi h8 h
  · exact eq_second hi h8 h
theorem eq_no {i : Ins} {k : KS} {r t : Nat → Int} (hi : InsOk p.rl p.log p.cl 8 i) (h8 : i.op = 8) (h : EqS k r t) : EqS (noK i k) r t := by
  unfold noK
  split
  · exact h
  split
  · exact eq_both hi h8 h
  split
  · exact eq_second hi h8 h
  · exact eq_first hi h8 h

theorem index_s (k : Kn) (n : Int) : (Kn.index k n).s = k.s := by unfold Kn.index; split <;> simp [Kn.op, Kn.of]

/-- An instruction of registers alone: what is no secret behind it is the same, and so is what it shows. -/
theorem eq_regs {i : Ins} {k : KS} {r t : Nat → Int} (hi : InsOk p.rl p.log p.cl 8 i) (h3 : ¬ i.op = 3) (h4 : ¬ i.op = 4) (h5 : ¬ i.op = 5) (h6 : ¬ i.op = 6) (h7 : ¬ i.op = 7) (h8 : ¬ i.op = 8) (h9 : ¬ i.op = 9)
    (hs : secretK p i k = false) (h : EqS k r t) : EqS (nextK p i k) (regsI r i).1 (regsI t i).1 ∧ (regsI r i).2 = (regsI t i).2 := by
  have hg := regs_of hi
  unfold nextK regsI
  by_cases q1 : i.op = 1
  · rw [if_pos q1, if_pos q1, if_pos q1]; exact ⟨h.set _ (fun _ => rfl), rfl⟩
  rw [if_neg q1, if_neg q1, if_neg q1]
  by_cases q2 : i.op = 2
  · rw [if_pos q2, if_pos q2, if_pos q2]; exact ⟨h.set _ (fun q => h _ (hg.2.1 (by omega)) q), rfl⟩
  rw [if_neg q2, if_neg q2, if_neg q2]
  by_cases q10 : i.op = 10
  · rw [if_pos q10, if_pos q10, if_pos q10]
    exact ⟨h.set _ (fun q => by rw [index_s] at q; rw [h _ (hg.2.1 (by omega)) q]), rfl⟩
  rw [if_neg q10, if_neg q10, if_neg q10, if_neg (by omega)]
  by_cases q11 : i.op = 11
  · rw [if_pos q11, if_pos q11, if_pos q11]
    have ha := hg.1 (by omega)
    refine ⟨?_, rfl⟩
    dsimp only
    cases es : (k i.a.toNat).s
    · have ee := h _ ha es
      rw [← ee]
      split
      · exact h.set _ (fun _ => rfl)
      · exact h.know _ (fun _ => ee)
    · intro j hj hjs
      unfold setK at hjs
      by_cases e : j = i.a.toNat
      · rw [if_pos e] at hjs; unfold Kn.less at hjs; dsimp only at hjs; rw [es] at hjs; cases hjs
      · rw [if_neg e] at hjs
        have := h j hj hjs
        have hs1 : ∀ (r : Nat → Int) (c : Prop) [Decidable c], (if c then setR r i.a 0 else r) j = r j := fun r c _ => by
          split
          · unfold setR; rw [if_neg e]
          · rfl
        rw [hs1, hs1]; exact this
  rw [if_neg q11, if_neg q11, if_neg q11]
  by_cases q12 : i.op = 12
  · rw [if_pos (.inr (.inr q12)), if_pos q12, if_pos q12]; exact ⟨h, rfl⟩
  rw [if_neg (by omega), if_neg q12, if_neg q12]
  have hb := hg.2.1 (by omega); have hc := hg.2.2.1 (by omega)
  have key : (Kn.op (i.op - 20) (k i.b.toNat) (k i.c.toNat)).s = false → r i.b.toNat = t i.b.toNat ∧ r i.c.toNat = t i.c.toNat := fun q => by
    have := Bool.or_eq_false_iff.1 q
    exact ⟨h _ hb this.1, h _ hc this.2⟩
  refine ⟨h.set _ (fun q => by rw [(key q).1, (key q).2]), ?_⟩
  dsimp only
  by_cases q : i.op = 29 ∨ i.op = 30
  · rw [if_pos q, if_pos q]
    unfold secretK at hs
    rw [if_neg h3, if_neg h4, if_neg h6, if_neg h8, if_pos q] at hs
    rw [(key hs).1, (key hs).2]
  · rw [if_neg q, if_neg q]

/-- Two runs that stand alike go on alike. -/
theorem Good.twins (g : Good p m l) (g' : Good p m' l) (h : Sound p m l s) (h' : Sound p m' l t) (q : Twins p l s t) :
    (∃ v s' t', stepI p s = (s', some (1, v)) ∧ stepI p t = (t', some (1, v)) ∧ s'.seen = t'.seen ∧ PubI p s'.m t'.m) ∨
    ∃ s' t', stepI p s = (s', none) ∧ stepI p t = (t', none) ∧ Sound p m l s' ∧ Sound p m' l t' ∧ Twins p l s' t' := by
  obtain ⟨k, e, hk⟩ := q.r
  have hf := g.fault h.at_ e
  have hi := g.ok.2.2.2 s.at_ h.at_
  have hl := g.known.closed.leads s.at_ k h.at_ e
  have hg := regs_of hi
  have e' : l t.at_ = some k := by rw [← q.at_]; exact e
  have hit : p.ins t.at_ = p.ins s.at_ := by rw [q.at_]
  -- ahead: how both step
  have key : (∃ v s' t', stepI p s = (s', some (1, v)) ∧ stepI p t = (t', some (1, v)) ∧ s'.seen = t'.seen ∧ PubI p s'.m t'.m) ∨
      ∃ s' t', stepI p s = (s', none) ∧ stepI p t = (t', none) ∧ s'.at_ = t'.at_ ∧ s'.seen = t'.seen ∧ PubI p s'.m t'.m ∧ ∃ x, x ∈ leadsK p s.at_ k ∧ x.1 = s'.at_ ∧ EqS x.2 s'.r t'.r := by
    by_cases h7 : (p.ins s.at_).op = 7
    · refine .inr ⟨_, _, by unfold stepI; rw [if_pos h7], by unfold stepI; rw [hit, if_pos h7], ?_⟩
      refine ⟨rfl, by dsimp only; rw [q.seen, q.at_], q.m, ((p.ins s.at_).n.toNat, k), by unfold leadsK; rw [if_pos h7]; simp, rfl, hk⟩
    by_cases h8 : (p.ins s.at_).op = 8
    · have hs := hf.2.2
      unfold secretK at hs
      rw [if_neg (by omega), if_neg (by omega), if_neg (by omega), if_pos h8] at hs
      have hs' := Bool.or_eq_false_iff.1 hs
      have ea := hk _ (hg.1 (by omega)) hs'.1
      have eb := hk _ (hg.2.1 (by omega)) hs'.2
      refine .inr ⟨_, _, by unfold stepI; rw [if_neg h7, if_pos h8], by unfold stepI; rw [hit, if_neg h7, if_pos h8], ?_⟩
      rw [← ea, ← eb]
      refine ⟨by dsimp only; rw [q.at_], by dsimp only; rw [q.seen, q.at_], q.m, ?_⟩
      by_cases qh : holdsI (p.ins s.at_).c (s.r (p.ins s.at_).a.toNat) (s.r (p.ins s.at_).b.toNat) = true
      · refine ⟨((p.ins s.at_).n.toNat, yesK (p.ins s.at_) k), by unfold leadsK; rw [if_neg h7, if_neg (by omega), if_pos h8]; simp, by dsimp only; rw [if_pos qh], eq_yes hi h8 hk⟩
      · refine ⟨(s.at_ + 1, noK (p.ins s.at_) k), by unfold leadsK; rw [if_neg h7, if_neg (by omega), if_pos h8]; simp, by dsimp only; rw [if_neg qh], eq_no hi h8 hk⟩
    by_cases h9 : (p.ins s.at_).op = 9
    · have hs := hf.2.2
      unfold secretK at hs
      rw [if_neg (by omega), if_neg (by omega), if_neg (by omega), if_neg h8, if_neg (by omega), if_pos h9] at hs
      have ea := hk _ (hg.1 (by omega)) hs
      refine .inl ⟨s.r (p.ins s.at_).a.toNat, ⟨s.at_ + 1, s.r, s.m, s.seen ++ [⟨1, s.at_, 0⟩]⟩, ⟨t.at_ + 1, t.r, t.m, t.seen ++ [⟨1, t.at_, 0⟩]⟩, by unfold stepI; rw [if_neg h7, if_neg h8, if_pos h9], by unfold stepI; rw [hit, if_neg h7, if_neg h8, if_pos h9, ← ea], by dsimp only; rw [q.seen, q.at_], q.m⟩
    have hmem : (s.at_ + 1, nextK p (p.ins s.at_) k) ∈ leadsK p s.at_ k := by unfold leadsK; rw [if_neg h7, if_neg h9, if_neg h8]; simp
    by_cases hop : (p.ins s.at_).op = 3 ∨ (p.ins s.at_).op = 4 ∨ (p.ins s.at_).op = 5 ∨ (p.ins s.at_).op = 6
    · obtain ⟨k1, e1, hk1⟩ := h.kn
      have : k1 = k := by rw [e] at e1; exact (Option.some.inj e1).symm
      subst this
      obtain ⟨k2, e2, hk2⟩ := h'.kn
      have : k2 = k1 := by rw [e'] at e2; exact (Option.some.inj e2).symm
      subst this
      obtain ⟨hw, hc1, hc2⟩ := g.word h e hk1 hop
      obtain ⟨hw', _, _⟩ := g'.word h' e' hk2 (by rw [hit]; exact hop)
      rw [hit] at hw'
      have eidx : idxI s.r (p.ins s.at_) = idxI t.r (p.ins s.at_) := by
        unfold idxI
        by_cases q5 : (p.ins s.at_).op = 5 ∨ (p.ins s.at_).op = 6
        · rw [if_pos q5, if_pos q5]
        · rw [if_neg q5, if_neg q5]
          have hs := hf.2.2
          unfold secretK at hs
          have hb : (k2 (p.ins s.at_).b.toNat).s = false := by
            by_cases q3 : (p.ins s.at_).op = 3
            · rw [if_pos q3] at hs; exact hs
            · rw [if_neg q3, if_pos (by omega)] at hs; exact (Bool.or_eq_false_iff.1 hs).1
          rw [hk _ (hg.2.1 (by omega)) hb]
      have hmi := h.len (p.ins s.at_).c.toNat
      by_cases hld : (p.ins s.at_).op = 3 ∨ (p.ins s.at_).op = 5
      · refine .inr ⟨_, _, step_load rfl hld hw, step_load hit hld hw', ?_⟩
        refine ⟨by dsimp only; rw [q.at_], by dsimp only; rw [eidx, q.seen, q.at_], q.m, _, hmem, rfl, ?_⟩
        have e3 : nextK p (p.ins s.at_) k2 = setK k2 (p.ins s.at_).a ⟨17, p.sec (p.ins s.at_).c.toNat⟩ := by unfold nextK; rw [if_neg (by omega), if_neg (by omega), if_neg (by omega), if_pos hld]
        dsimp only
        rw [e3, ← eidx]
        exact hk.set _ (fun qs => q.m _ hc1 qs _ (by omega))
      · refine .inr ⟨_, _, step_put rfl (by omega) hw, step_put hit (by omega) hw', ?_⟩
        have e3 : nextK p (p.ins s.at_) k2 = k2 := by unfold nextK; rw [if_neg (by omega), if_neg (by omega), if_neg (by omega), if_neg hld, if_neg (by omega), if_pos (by omega)]
        refine ⟨by dsimp only; rw [q.at_], by dsimp only; rw [eidx, q.seen, q.at_], ?_, _, hmem, rfl, ?_⟩
        · intro c hc hsc i hii
          unfold setW
          dsimp only
          rw [← eidx]
          by_cases qq : c = (p.ins s.at_).c.toNat ∧ i = (idxI s.r (p.ins s.at_)).toNat
          · rw [if_pos qq, if_pos qq]
            have hs := hf.2.2
            unfold secretK at hs
            have ha : (k2 (p.ins s.at_).a.toNat).s = false := by
              rw [qq.1] at hsc
              by_cases q4 : (p.ins s.at_).op = 4
              · rw [if_neg (by omega), if_pos q4] at hs
                have := (Bool.or_eq_false_iff.1 hs).2
                rw [hsc] at this; simpa using this
              · rw [if_neg (by omega), if_neg q4, if_pos (by omega)] at hs
                rw [hsc] at hs; simpa using hs
            exact hk _ (hg.1 (by omega)) ha
          · rw [if_neg qq, if_neg qq]
            exact q.m c hc hsc i hii
        · dsimp only; rw [e3]; exact hk
    · have hr := eq_regs hi (by omega) (by omega) (by omega) (by omega) h7 h8 h9 hf.2.2 hk
      refine .inr ⟨_, _, step_regs rfl (by omega) (by omega) (by omega) (by omega) h7 h8 h9, step_regs hit (by omega) (by omega) (by omega) (by omega) h7 h8 h9, ?_⟩
      exact ⟨by dsimp only; rw [q.at_], by dsimp only; rw [hr.2, q.seen, q.at_], q.m, _, hmem, rfl, hr.1⟩
  rcases key with hd | ⟨s', t', es, et, ha, hse, hm, x, hx, hxa, hxe⟩
  · exact .inl hd
  · rcases g.step h with ⟨_, _, es', _⟩ | ⟨s1, es1, S1⟩
    · rw [es] at es'; simp at es'
    rcases g'.step h' with ⟨_, _, et', _⟩ | ⟨t1, et1, T1⟩
    · rw [et] at et'; simp at et'
    have : s1 = s' := by rw [es] at es1; exact (Prod.mk.inj es1).1.symm
    subst this
    have : t1 = t' := by rw [et] at et1; exact (Prod.mk.inj et1).1.symm
    subst this
    obtain ⟨u, eu, hu⟩ := hl x hx (by rw [hxa]; exact S1.at_)
    rw [hxa] at eu
    exact .inr ⟨_, _, es, et, S1, T1, ⟨ha, hse, ⟨u, eu, hxe.mono hu⟩, hm⟩⟩

theorem Good.runs (g : Good p m l) (g' : Good p m' l) : ∀ (f k : Nat) (s t : St), Sound p m l s → Sound p m' l t → Twins p l s t →
    (runI p f k s).fin = (runI p f k t).fin ∧ (runI p f k s).val = (runI p f k t).val ∧ (runI p f k s).steps = (runI p f k t).steps ∧ (runI p f k s).seen = (runI p f k t).seen ∧ PubI p (runI p f k s).mem (runI p f k t).mem
  | 0, k, s, t, h, h', q => by rw [runI, runI]; exact ⟨rfl, rfl, rfl, q.seen, q.m⟩
  | f + 1, k, s, t, h, h', q => by
    rw [runI, runI, if_neg (by have := h.at_; omega), if_neg (by have := h'.at_; omega)]
    rcases g.twins g' h h' q with ⟨v, s', t', e, e', hse, hm⟩ | ⟨s', t', e, e', S', T', q'⟩
    · rw [e, e']; exact ⟨rfl, rfl, rfl, hse, hm⟩
    · rw [e, e']; exact Good.runs g g' f (k + 1) s' t' S' T' q'

/-- F4: both runs show the same, end alike, and leave the same public words. -/
theorem Good.quiet (g : Good p m l) (g' : Good p m' l) (hw : ∀ j, j < m.ml → ∀ i, i < m.len j → B64 (m.wd j i)) (hw' : ∀ j, j < m'.ml → ∀ i, i < m'.len j → B64 (m'.wd j i)) (hp : PubI p m m') (f : Nat) :
    (playI p m f).fin = (playI p m' f).fin ∧ (playI p m f).val = (playI p m' f).val ∧ (playI p m f).steps = (playI p m' f).steps ∧ (playI p m f).seen = (playI p m' f).seen ∧ PubI p (playI p m f).mem (playI p m' f).mem := by
  obtain ⟨k, e, _⟩ := g.known.closed.first
  exact Good.runs g g' f 0 _ _ (g.begin_ hw) (g'.begin_ hw') ⟨rfl, rfl, ⟨k, e, fun _ _ _ => rfl⟩, hp⟩
end

end Go.Proofs.Ytkeeimdhlbdigab

/-
  What a call of evenkeelref3.Public does: are the words of all public regions the same?
-/
namespace Go.Proofs.Ytkeeimdhlbdigab
open Go.RowKit
set_option linter.unusedVariables false
set_option linter.unusedSimpArgs false
set_option maxRecDepth 8000

set_option maxHeartbeats 2000000 in
theorem public_calls (p : Prg) (lo : Loc) (x y : Mem) (l l' : MLoc) (w : World) (hp : PIn w p lo) (hx : MIn w x l) (hy : MIn w y l') (hlx : x.ml = p.rl) (hly : y.ml = p.rl) (hrl : p.rl ≤ 6) (hlen : ∀ c, c < p.rl → x.len c = y.len c ∧ x.len c ≤ 64) (hcv : ∃ a n c, (Value.slice lo.ca p.cl lo.cc) = .slice a n c) :
    Calls Try.prog 18 #[.agg #[.slice lo.ra p.rl lo.rc, .slice lo.ca p.cl lo.cc], .slice l.ma x.ml l.mc, .slice l'.ma y.ml l'.mc] w (Says (PubI p x y) w) := by
  obtain ⟨ma, mb, mo, mc, A, C, gb, go⟩ := l
  obtain ⟨ma', mb', mo', mc', A', C', gb', go'⟩ := l'
  obtain ⟨ra, rb, ro, rc, ca, cb, co, cc⟩ := lo
  have H : Hid (MIn w x ⟨ma, mb, mo, mc, A, C, gb, go⟩ ∧ MIn w y ⟨ma', mb', mo', mc', A', C', gb', go'⟩ ∧ ∀ c, c < p.rl → x.len c = y.len c ∧ x.len c ≤ 64) := ⟨hx, hy, hlen⟩
  have HPn : Hid (PIn w p ⟨ra, rb, ro, rc, ca, cb, co, cc⟩) := hp
  obtain ⟨P, HP⟩ : ∃ P : Prop, Hid (P ↔ PubI p x y) := ⟨PubI p x y, (Iff.rfl : _ ↔ _)⟩
  rw [← propext HP.out]
  clear hx hy hlen hp hcv
  obtain ⟨n, hn⟩ : ∃ n, p.rl = n := ⟨_, rfl⟩
  dsimp only
  rw [hlx, hly, hn]
  rw [hn] at hrl
  have Hn : Hid (p.rl = n ∧ x.ml = n ∧ y.ml = n) := ⟨hn, hlx.trans hn, hly.trans hn⟩
  clear hn hlx hly
  have hri : (n : Int) ≤ 6 := by omega
  obtain ⟨W, HW⟩ : ∃ W : World, Hid (W = w.alloc (.cells #[.slice ra n rc, .slice ca p.cl cc] 30)) := ⟨_, rfl⟩
  have HmW : Hid (More w W) := HW.out ▸ (More.refl _).alloc _ _
  have HB : Hid (Blk W w.heap.size #[.slice ra n rc, .slice ca p.cl cc] 30) := HW.out ▸ Blk.last _ _ _
  go_enter Try.func18, Try.ntmps18
  go_wp2_with (fail)
  rw [← HW.out]
  go_loopg [7] n (fun q i wr => ∃ k : Nat, k + q = n ∧ i = .int .i64 k ∧ Hid (More W wr ∧ ∀ c, c < k → p.sec c = false → ∀ i, i < x.len c → x.wd c i = y.wd c i))
  case atStart => exact ⟨0, by omega, rfl, More.refl _, fun c hc => absurd hc (Nat.not_lt_zero _)⟩
  case round =>
    obtain ⟨k, hkg, rfl, HR⟩ := hrel
    have b0 : wr.cell? ⟨w.heap.size, 0, none⟩ = some (.slice ra n rc) := (HB.out.more HR.out.1).cell rfl
    cases gk with
    | zero =>
      obtain rfl : k = n := by omega
      go_wp2
      go_ret
      exact Says.yes (HP.out.2 (fun c hc => HR.out.2 c (by rw [← Hn.out.1]; exact hc))) (HmW.out.trans HR.out.1)
    | succ q =>
      have hk : k < n := by omega
      have hk' : (k : Int) < (n : Int) := by omega
      have Hk : Hid (k < x.ml ∧ k < y.ml ∧ k < p.rl) := ⟨by rw [Hn.out.2.1]; exact hk, by rw [Hn.out.2.2]; exact hk, by rw [Hn.out.1]; exact hk⟩
      obtain rfl : ra = some ⟨rb, ro, none⟩ := HPn.out.hr (by have := Hk.out; omega)
      have r0 := (HmW.out.trans HR.out.1).cell (HPn.out.regs k Hk.out.2.2).2
      dsimp only at r0
      cases hs : p.sec k with
      | true =>
        rw [hs] at r0
        have Hs : Hid (p.sec k = true) := hs
        clear hs
        go_wp2
        go_roundg q
        case measure => omega
        case rel =>
          refine ⟨k + 1, by omega, by first | rfl | simp, HR.out.1, fun c hc hsc => ?_⟩
          by_cases e : c = k
          · subst e; rw [Hs.out] at hsc; cases hsc
          · exact HR.out.2 c (by omega) hsc
      | false =>
        rw [hs] at r0
        have Hse : Hid (p.sec k = false) := hs
        clear hs
        obtain rfl : ma = some ⟨mb, mo, none⟩ := H.out.1.hm (by have := Hk.out.1; omega)
        obtain rfl : ma' = some ⟨mb', mo', none⟩ := H.out.2.1.hm (by have := Hk.out.2.1; omega)
        have q1 := H.out.1.lists k Hk.out.1
        have q2 := H.out.2.1.lists k Hk.out.2.1
        dsimp only at q1 q2
        rw [← (H.out.2.2 k Hk.out.2.2).1] at q2
        obtain ⟨r, hr⟩ : ∃ r, x.len k = r := ⟨_, rfl⟩
        rw [hr] at q1 q2
        have hr64 : r ≤ 64 := by rw [← hr]; exact (H.out.2.2 k Hk.out.2.2).2
        have hri2 : (r : Int) ≤ 64 := by omega
        have HRr : Hid (x.len k = r ∧ y.len k = r) := ⟨hr, by rw [← (H.out.2.2 k Hk.out.2.2).1]; exact hr⟩
        clear hr
        have Ha : Hid (0 < r → A k = some ⟨gb k, go k, none⟩) := fun h => H.out.1.hg k Hk.out.1 (by rw [HRr.out.1]; exact h)
        have Ha' : Hid (0 < r → A' k = some ⟨gb' k, go' k, none⟩) := fun h => H.out.2.1.hg k Hk.out.2.1 (by rw [HRr.out.2]; exact h)
        obtain ⟨Ak, hA⟩ : ∃ z, A k = z := ⟨_, rfl⟩
        obtain ⟨Ak', hA'⟩ : ∃ z, A' k = z := ⟨_, rfl⟩
        rw [hA] at q1 Ha
        rw [hA'] at q2 Ha'
        clear hA hA'
        have Hq : Hid (w.cell? ⟨mb, mo + k, none⟩ = some (.slice Ak r (C k)) ∧ w.cell? ⟨mb', mo' + k, none⟩ = some (.slice Ak' r (C' k))) := ⟨q1, q2⟩
        clear q1 q2
        obtain ⟨wm, rfl⟩ : ∃ wm, wm = wr := ⟨wr, rfl⟩
        go_wp2_with (fail)
        go_loopg [8] r (fun g i wq => ∃ j : Nat, j + g = r ∧ i = .int .i64 j ∧ Hid (More wm wq ∧ ∀ i, i < j → x.wd k i = y.wd k i))
        case atStart => exact ⟨0, by omega, rfl, More.refl _, fun i hi => absurd hi (Nat.not_lt_zero _)⟩
        case round =>
          obtain ⟨j, hjg, rfl, HQ⟩ := hrel
          have Hmq : Hid (More w wr) := (HmW.out.trans HR.out.1).trans HQ.out.1
          have q1 := Hmq.out.cell Hq.out.1
          have q2 := Hmq.out.cell Hq.out.2
          cases gk with
          | zero =>
            obtain rfl : j = r := by omega
            go_wp2
            go_roundg q
            case measure => omega
            case rel =>
              refine ⟨k + 1, by omega, by first | rfl | simp, HR.out.1.trans HQ.out.1, fun c hc hsc => ?_⟩
              by_cases e : c = k
              · subst e; rw [HRr.out.1]; exact HQ.out.2
              · exact HR.out.2 c (by omega) hsc
          | succ g =>
            have hj : j < r := by omega
            have hj' : (j : Int) < (r : Int) := by omega
            obtain rfl := Ha.out (by omega)
            obtain rfl := Ha'.out (by omega)
            have p1 := Hmq.out.cell (H.out.1.words k Hk.out.1 j (by rw [HRr.out.1]; exact hj))
            have p2 := Hmq.out.cell (H.out.2.1.words k Hk.out.2.1 j (by rw [HRr.out.2]; exact hj))
            dsimp only at p1 p2
            obtain ⟨z, hz⟩ : ∃ z, x.wd k j = z := ⟨_, rfl⟩
            obtain ⟨z', hz'⟩ : ∃ z, y.wd k j = z := ⟨_, rfl⟩
            rw [hz] at p1
            rw [hz'] at p2
            have Hz : Hid (x.wd k j = z ∧ y.wd k j = z') := ⟨hz, hz'⟩
            clear hz hz'
            obtain ⟨S, HS⟩ : ∃ S : World → Prop, Hid (∀ w', S w' ↔ More wr w') := ⟨fun w' => More wr w', fun _ => Iff.rfl⟩
            have k0 : ∀ i : { w' // S w' }, i.val.cell? ⟨mb, mo + k, none⟩ = some (.slice (some ⟨gb k, go k, none⟩) r (C k)) := fun i => ((HS.out _).1 i.property).cell q1
            have k1 : ∀ i : { w' // S w' }, i.val.cell? ⟨mb', mo' + k, none⟩ = some (.slice (some ⟨gb' k, go' k, none⟩) r (C' k)) := fun i => ((HS.out _).1 i.property).cell q2
            have k2 : ∀ i : { w' // S w' }, i.val.cell? ⟨gb k, go k + j, none⟩ = some (.int .i64 z) := fun i => ((HS.out _).1 i.property).cell p1
            have k3 : ∀ i : { w' // S w' }, i.val.cell? ⟨gb' k, go' k + j, none⟩ = some (.int .i64 z') := fun i => ((HS.out _).1 i.property).cell p2
            have hne : Nonempty { w' // S w' } := ⟨⟨wr, (HS.out _).2 (More.refl _)⟩⟩
            go_wp2_with (fail)
            refine wp_region_ord (S := S) [(0, true), (1, true), (2, true), (3, true), (4, true), (5, true), (6, true), (7, true), (8, true), (9, true), (10, true), (11, true), (12, true), (13, true), (14, true)] (by kernel_rfl) (by kernel_rfl) (by kernel_rfl) ((HS.out _).2 (More.refl _).drew) ?_
            iterate 15 (refine wpOrd_take rfl (by kernel_rfl) (fun K hK => ?_); go_simp; refine hK _ _ ?_; clear hK K)
            refine wpOrd_done ?_
            clear k0 k1 k2 k3 hne p1 p2 q1 q2
            by_cases e : z = z'
            · have e1 : (z != z') = false := by simp [e]
              have He : Hid (x.wd k j = y.wd k j) := by show _ = _; rw [Hz.out.1, Hz.out.2]; exact e
              clear e
              go_wp2
              go_roundg g
              case measure => omega
              case rel =>
                refine ⟨j + 1, by omega, by first | rfl | simp, HQ.out.1.drew, fun i hi => ?_⟩
                by_cases q : i = j
                · subst q; exact He.out
                · exact HQ.out.2 i (by omega)
            · have e1 : (z != z') = true := by simp [e]
              have He : Hid (¬ x.wd k j = y.wd k j) := by show ¬ _; rw [Hz.out.1, Hz.out.2]; exact e
              clear e
              go_wp2
              go_ret
              exact Says.no (fun h => He.out ((HP.out.1 h) k Hk.out.2.2 Hse.out j (by rw [HRr.out.1]; exact hj))) Hmq.out.drew

end Go.Proofs.Ytkeeimdhlbdigab

/-
  What the reference's Seen, Memories and Same come to where both sides hold the same.
-/
namespace Go.Proofs.Ytkeeimdhlbdigab
open Go.RowKit

set_option maxHeartbeats 1000000 in
theorem ref_seen (u v : Value) (l : List Se) (w : World) (hu : SeenAt w u l) (hv : SeenAt w v l) :
    Calls Try.prog 44 #[u, v] w fun e w' => e = .returned (.bool true) ∧ More w w' := by
  obtain ⟨a, b, o, c, rfl, ha, h1, hb⟩ := hu
  obtain ⟨a', b', o', c', rfl, ha', h1', _⟩ := hv
  obtain ⟨n, hn⟩ : ∃ n, l.length = n := ⟨_, rfl⟩
  have H : Hid ((0 < n → a = some ⟨b, o, none⟩) ∧ SeesAt w b o l ∧ (0 < n → a' = some ⟨b', o', none⟩) ∧ SeesAt w b' o' l ∧ n < 4611686018427387904 ∧ l.length = n) := by
    subst hn; exact ⟨ha, h1, ha', h1', hb, rfl⟩
  rw [hn]
  clear ha h1 ha' h1' hb hn
  go_enter Try.func44, Try.ntmps44
  go_wp2
  go_loopg [5] n (fun q i wr => ∃ k : Nat, k + q = n ∧ i = .int .i64 k ∧ More w wr)
  case atStart => exact ⟨0, by omega, rfl, More.refl _⟩
  case round =>
    obtain ⟨k, hkg, rfl, m⟩ := hrel
    have Hm : Hid (More w wr) := m
    clear m
    cases gk with
    | zero =>
      obtain rfl : k = n := by omega
      go_wp2
      go_ret
      exact ⟨rfl, Hm.out⟩
    | succ q =>
      have hk : k < n := by omega
      have hk' : (k : Int) < (n : Int) := by omega
      have hk0 : (0 : Int) ≤ (k : Int) := by omega
      obtain rfl := H.out.1 (by omega)
      obtain rfl := H.out.2.2.1 (by omega)
      obtain ⟨s, Hs⟩ : ∃ s, Hid (l[k]? = some s) := ⟨_, List.getElem?_eq_getElem (by have := H.out.2.2.2.2.2; omega)⟩
      have q1 := (H.out.2.1.more Hm.out) k s Hs.out
      have q2 := (H.out.2.2.2.1.more Hm.out) k s Hs.out
      obtain ⟨x, y, z⟩ := s
      obtain ⟨S, HS⟩ : ∃ S : World → Prop, Hid (∀ w', S w' ↔ More wr w') := ⟨fun w' => More wr w', fun _ => Iff.rfl⟩
      have k0 : ∀ i : { w' // S w' }, i.val.cell? ⟨b, o + k * 3, none⟩ = some (.int .i64 x) := fun i => ((HS.out _).1 i.property).cell q1.1
      have k1 : ∀ i : { w' // S w' }, i.val.cell? ⟨b, o + k * 3 + 1, none⟩ = some (.int .i64 y) := fun i => ((HS.out _).1 i.property).cell q1.2.1
      have k2 : ∀ i : { w' // S w' }, i.val.cell? ⟨b, o + k * 3 + 2, none⟩ = some (.int .i64 z) := fun i => ((HS.out _).1 i.property).cell q1.2.2
      have d0 : ∀ i : { w' // S w' }, i.val.cell? ⟨b', o' + k * 3, none⟩ = some (.int .i64 x) := fun i => ((HS.out _).1 i.property).cell q2.1
      have d1 : ∀ i : { w' // S w' }, i.val.cell? ⟨b', o' + k * 3 + 1, none⟩ = some (.int .i64 y) := fun i => ((HS.out _).1 i.property).cell q2.2.1
      have d2 : ∀ i : { w' // S w' }, i.val.cell? ⟨b', o' + k * 3 + 2, none⟩ = some (.int .i64 z) := fun i => ((HS.out _).1 i.property).cell q2.2.2
      have hne : Nonempty { w' // S w' } := ⟨⟨wr, (HS.out _).2 (More.refl _)⟩⟩
      clear q1 q2
      go_wp2_with (fail)
      refine wp_region_ord (S := S) [(0, true), (1, true), (2, true), (3, true), (4, true), (5, true), (6, true), (7, true), (8, true)] (by kernel_rfl) (by kernel_rfl) (by kernel_rfl) ((HS.out _).2 (More.refl _).drew) ?_
      iterate 9 (refine wpOrd_take rfl (by kernel_rfl) (fun K hK => ?_); go_simp; refine hK _ _ ?_; clear hK K)
      refine wpOrd_done ?_
      clear k0 k1 k2 d0 d1 d2 hne
      go_wp2
      go_roundg q
      case measure => omega
      case rel => exact ⟨k + 1, by omega, by first | rfl | (simp; unfold wrap64; have := H.out.2.2.2.2.1; omega), Hm.out.drew⟩

set_option maxHeartbeats 1000000 in
theorem ref_memories (x y : Mem) (l l' : MLoc) (w : World) (hx : MIn w x l) (hy : MIn w y l') (hl : x.Like y) :
    Calls Try.prog 46 #[.slice l.ma x.ml l.mc, .slice l'.ma y.ml l'.mc] w fun e w' => e = .returned (.bool true) ∧ More w w' := by
  obtain ⟨ma, mb, mo, mc, A, C, gb, go⟩ := l
  obtain ⟨ma', mb', mo', mc', A', C', gb', go'⟩ := l'
  have H : Hid (MIn w x ⟨ma, mb, mo, mc, A, C, gb, go⟩ ∧ MIn w y ⟨ma', mb', mo', mc', A', C', gb', go'⟩ ∧ x.Like y) := ⟨hx, hy, hl⟩
  clear hx hy hl
  obtain ⟨n, hn⟩ : ∃ n, x.ml = n := ⟨_, rfl⟩
  have hn' : y.ml = n := by rw [← H.out.2.2.ml]; exact hn
  dsimp only
  rw [hn, hn']
  have Hn : Hid (x.ml = n ∧ y.ml = n) := ⟨hn, hn'⟩
  clear hn hn'
  go_enter Try.func46, Try.ntmps46
  go_wp2
  go_loopg [5] n (fun q i wr => ∃ k : Nat, k + q = n ∧ i = .int .i64 k ∧ More w wr)
  case atStart => exact ⟨0, by omega, rfl, More.refl _⟩
  case round =>
    obtain ⟨k, hkg, rfl, m⟩ := hrel
    have Hm : Hid (More w wr) := m
    clear m
    cases gk with
    | zero =>
      obtain rfl : k = n := by omega
      go_wp2
      go_ret
      exact ⟨rfl, Hm.out⟩
    | succ q =>
      have hk : k < n := by omega
      have hk' : (k : Int) < (n : Int) := by omega
      have hk0 : (0 : Int) ≤ (k : Int) := by omega
      have Hk : Hid (k < x.ml ∧ k < y.ml) := ⟨by rw [Hn.out.1]; exact hk, by rw [Hn.out.2]; exact hk⟩
      obtain rfl : ma = some ⟨mb, mo, none⟩ := H.out.1.hm (by have := Hk.out.1; omega)
      obtain rfl : ma' = some ⟨mb', mo', none⟩ := H.out.2.1.hm (by have := Hk.out.2; omega)
      have q1 := H.out.1.lists k Hk.out.1
      have q2 := H.out.2.1.lists k Hk.out.2
      dsimp only at q1 q2
      rw [← H.out.2.2.len k Hk.out.1] at q2
      obtain ⟨r, hr⟩ : ∃ r, x.len k = r := ⟨_, rfl⟩
      rw [hr] at q1 q2
      have HR : Hid (x.len k = r ∧ r < 4611686018427387904) := ⟨hr, by rw [← hr]; exact H.out.1.fitw k Hk.out.1⟩
      clear hr
      have Ha : Hid (0 < r → A k = some ⟨gb k, go k, none⟩) := fun h => H.out.1.hg k Hk.out.1 (by rw [HR.out.1]; exact h)
      have Ha' : Hid (0 < r → A' k = some ⟨gb' k, go' k, none⟩) := fun h => H.out.2.1.hg k Hk.out.2 (by rw [← H.out.2.2.len k Hk.out.1, HR.out.1]; exact h)
      obtain ⟨Ak, hA⟩ : ∃ z, A k = z := ⟨_, rfl⟩
      obtain ⟨Ak', hA'⟩ : ∃ z, A' k = z := ⟨_, rfl⟩
      rw [hA] at q1 Ha
      rw [hA'] at q2 Ha'
      clear hA hA'
      have Hq : Hid (w.cell? ⟨mb, mo + k, none⟩ = some (.slice Ak r (C k)) ∧ w.cell? ⟨mb', mo' + k, none⟩ = some (.slice Ak' r (C' k))) := ⟨q1, q2⟩
      obtain ⟨S, HS⟩ : ∃ S : World → Prop, Hid (∀ w', S w' ↔ More wr w') := ⟨fun w' => More wr w', fun _ => Iff.rfl⟩
      have k0 : ∀ i : { w' // S w' }, i.val.cell? ⟨mb, mo + k, none⟩ = some (.slice Ak r (C k)) := fun i => ((HS.out _).1 i.property).cell (Hm.out.cell q1)
      have k1 : ∀ i : { w' // S w' }, i.val.cell? ⟨mb', mo' + k, none⟩ = some (.slice Ak' r (C' k)) := fun i => ((HS.out _).1 i.property).cell (Hm.out.cell q2)
      have hne : Nonempty { w' // S w' } := ⟨⟨wr, (HS.out _).2 (More.refl _)⟩⟩
      clear q1 q2
      go_wp2_with (fail)
      refine wp_region_ord (S := S) [(0, true), (1, true), (2, true), (3, true), (4, true), (5, true), (6, true), (7, true), (8, true), (9, true), (10, true)] (by kernel_rfl) (by kernel_rfl) (by kernel_rfl) ((HS.out _).2 (More.refl _).drew) ?_
      iterate 11 (refine wpOrd_take rfl (by kernel_rfl) (fun K hK => ?_); go_simp; refine hK _ _ ?_; clear hK K)
      refine wpOrd_done ?_
      clear k0 k1 hne
      go_wp2
      go_loopg [6] r (fun g i wq => ∃ j : Nat, j + g = r ∧ i = .int .i64 j ∧ More w wq)
      case atStart => exact ⟨0, by omega, rfl, Hm.out.drew⟩
      case round =>
        obtain ⟨j, hjg, rfl, mq⟩ := hrel
        have q1 := mq.cell Hq.out.1
        have q2 := mq.cell Hq.out.2
        have Hmq : Hid (More w wr) := mq
        clear mq
        cases gk with
        | zero =>
          obtain rfl : j = r := by omega
          go_wp2
          go_roundg q
          case measure => omega
          case rel => exact ⟨k + 1, by omega, by first | rfl | (simp; unfold wrap64; have := H.out.1.fitl; have := Hn.out.1; omega), Hmq.out⟩
        | succ g =>
          have hj : j < r := by omega
          have hj' : (j : Int) < (r : Int) := by omega
          have hj0 : (0 : Int) ≤ (j : Int) := by omega
          obtain rfl := Ha.out (by omega)
          obtain rfl := Ha'.out (by omega)
          have p1 := Hmq.out.cell (H.out.1.words k Hk.out.1 j (by rw [HR.out.1]; exact hj))
          have p2 := Hmq.out.cell (H.out.2.1.words k Hk.out.2 j (by rw [← H.out.2.2.len k Hk.out.1, HR.out.1]; exact hj))
          rw [← H.out.2.2.wd k Hk.out.1 j (by rw [HR.out.1]; exact hj)] at p2
          dsimp only at p1 p2
          obtain ⟨z, hz⟩ : ∃ z, x.wd k j = z := ⟨_, rfl⟩
          rw [hz] at p1 p2
          clear hz
          obtain ⟨S, HS⟩ : ∃ S : World → Prop, Hid (∀ w', S w' ↔ More wr w') := ⟨fun w' => More wr w', fun _ => Iff.rfl⟩
          have k0 : ∀ i : { w' // S w' }, i.val.cell? ⟨mb, mo + k, none⟩ = some (.slice (some ⟨gb k, go k, none⟩) r (C k)) := fun i => ((HS.out _).1 i.property).cell q1
          have k1 : ∀ i : { w' // S w' }, i.val.cell? ⟨mb', mo' + k, none⟩ = some (.slice (some ⟨gb' k, go' k, none⟩) r (C' k)) := fun i => ((HS.out _).1 i.property).cell q2
          have k2 : ∀ i : { w' // S w' }, i.val.cell? ⟨gb k, go k + j, none⟩ = some (.int .i64 z) := fun i => ((HS.out _).1 i.property).cell p1
          have k3 : ∀ i : { w' // S w' }, i.val.cell? ⟨gb' k, go' k + j, none⟩ = some (.int .i64 z) := fun i => ((HS.out _).1 i.property).cell p2
          have hne : Nonempty { w' // S w' } := ⟨⟨wr, (HS.out _).2 (More.refl _)⟩⟩
          go_wp2_with (fail)
          refine wp_region_ord (S := S) [(0, true), (1, true), (2, true), (3, true), (4, true), (5, true), (6, true), (7, true), (8, true), (9, true), (10, true), (11, true), (12, true), (13, true), (14, true)] (by kernel_rfl) (by kernel_rfl) (by kernel_rfl) ((HS.out _).2 (More.refl _).drew) ?_
          iterate 15 (refine wpOrd_take rfl (by kernel_rfl) (fun K hK => ?_); go_simp; refine hK _ _ ?_; clear hK K)
          refine wpOrd_done ?_
          clear k0 k1 k2 k3 hne p1 p2 q1 q2
          go_wp2
          go_roundg g
          case measure => omega
          case rel => exact ⟨j + 1, by omega, by first | rfl | (simp; unfold wrap64; have := HR.out.2; omega), Hmq.out.drew⟩

end Go.Proofs.Ytkeeimdhlbdigab
