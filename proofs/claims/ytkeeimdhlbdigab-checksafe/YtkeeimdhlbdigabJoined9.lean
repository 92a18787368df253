/-
  The texts CvTold, one behind the other.
-/
import Derived.Test.YtkeeimdhlbdigabJoined5
import Derived.Test.YtkeeimdhlbdigabJoined6
import Derived.Test.YtkeeimdhlbdigabJoined8

/-
  What a call of the law's told does; that a check tells one of three faults. And what opens the laws of stage 6.
-/
namespace Go.Proofs.Ytkeeimdhlbdigab
open Go.RowKit
set_option linter.unusedVariables false
set_option linter.unusedSimpArgs false
set_option maxRecDepth 8000

theorem told_calls (f1 f2 : Int) (h : f1 = 2 ∨ f1 = 4 ∨ f1 = 5) (w : World) : Calls Try.prog 14 #[.agg #[.int .i64 f1, .int .i64 f2]] w fun e w' => e = .returned (.bool true) ∧ More w w' := by
  rcases h with rfl | rfl | rfl
  all_goals
    go_enter Try.func14, Try.ntmps14
    go_wp2
    go_ret
    exact ⟨rfl, (More.refl _).alloc _ _⟩

theorem scan_told {p : Prg} {l : KV} : ∀ n at_, (scanK p l n at_).1 = 0 ∨ (scanK p l n at_).1 = 4 ∨ (scanK p l n at_).1 = 5
  | 0, at_ => .inl rfl
  | n + 1, at_ => by
    rw [scanK]
    cases l at_ with
    | none => exact scan_told n (at_ + 1)
    | some s =>
      dsimp only
      by_cases h : faultK p at_ s = 0
      · rw [if_pos h]; exact scan_told n (at_ + 1)
      · rw [if_neg h]
        dsimp only
        revert h
        unfold faultK
        split
        · intro _; exact .inr (.inl rfl)
        · split
          · intro _; exact .inr (.inr rfl)
          · intro h; exact absurd rfl h

/-- A check's answer: what is wrong with the form, or the first fault of the known states. -/
def Told (p : Prg) (f : Int × Int) : Prop := (¬ p.Ok 200 8 ∧ f = (2, 0)) ∨ (p.Ok 200 8 ∧ ∃ l, Known p l ∧ f = checkK p l)
theorem Told.bad {p : Prg} {f : Int × Int} (h : Told p f) (h0 : ¬ f.1 = 0) : f.1 = 2 ∨ f.1 = 4 ∨ f.1 = 5 := by
  rcases h with ⟨_, rfl⟩ | ⟨_, l, _, rfl⟩
  · exact .inl rfl
  · rcases scan_told (p := p) (l := l) p.cl 0 with h1 | h1 | h1
    · exact absurd h1 h0
    · exact .inr (.inl h1)
    · exact .inr (.inr h1)
theorem Told.ok {p : Prg} {f : Int × Int} (h : Told p f) (h0 : f.1 = 0) : p.Ok 200 8 ∧ ∃ l, Known p l ∧ (checkK p l).1 = 0 := by
  rcases h with ⟨_, rfl⟩ | ⟨h1, l, h2, rfl⟩
  · exact absurd h0 (by decide)
  · exact ⟨h1, l, h2, h0⟩
theorem Told.one {p : Prg} {f g : Int × Int} (h : Told p f) (k : Told p g) : f = g := by
  rcases h with ⟨h1, rfl⟩ | ⟨h1, l, h2, rfl⟩
  · rcases k with ⟨_, rfl⟩ | ⟨k1, _⟩
    · rfl
    · exact absurd k1 h1
  · rcases k with ⟨k1, _⟩ | ⟨_, l', k2, rfl⟩
    · exact absurd h1 k1
    · exact check_one h1 h2 k2

/-- check.Check, whatever the program. -/
theorem check_told (p : Prg) (l : Loc) (w : World) (hp : PIn w p l) (hf : p.Fit) :
    Calls Try.prog 12 #[.agg #[.slice l.ra p.rl l.rc, .slice l.ca p.cl l.cc]] w fun e w' => ∃ f : Int × Int, Told p f ∧ e = .returned (.agg #[.int .i64 f.1, .int .i64 f.2]) ∧ More w w' := by
  by_cases hok : p.Ok 200 8
  · refine (check_ok_calls p l w hp hok (fun i hi => (hf.ins i hi).2.2.2.2)).mono ?_
    rintro e w' ⟨l', h1, rfl, m⟩
    exact ⟨_, .inr ⟨hok, l', h1, rfl⟩, rfl, m⟩
  · exact (check_form p l w hp hok).mono (fun e w' ⟨h1, h2⟩ => ⟨(2, 0), .inl ⟨hok, rfl⟩, h1, h2⟩)
theorem may_true (p : Prg) (l : Loc) (w : World) (hp : PIn w p l) (hok : p.Ok 200 8) :
    Calls Try.prog 15 #[.agg #[.slice l.ra p.rl l.rc, .slice l.ca p.cl l.cc]] w fun e w' => e = .returned (.bool true) ∧ More w w' := by
  refine (ref_may p l _ hp).mono ?_
  rintro e w' ⟨r, rfl, hr, m⟩
  cases r with
  | true => exact ⟨rfl, m⟩
  | false => exact absurd (hr.2 hok) (by simp)
theorem fits_says (p : Prg) (l : Loc) (m : Mem) (ml : MLoc) (w : World) (hp : PIn w p l) (hm : MRaw w m ml) (r : Bool) (hr : r = true ↔ FitsOk p.rl p.log m.ml m.len) :
    Calls Try.prog 16 #[.agg #[.slice l.ra p.rl l.rc, .slice l.ca p.cl l.cc], .slice ml.ma m.ml ml.mc] w fun e w' => e = .returned (.bool r) ∧ More w w' := by
  refine (ref_fits l.ra p.rl l.rc l.ca p.cl l.cc ml.ma m.ml ml.mc l.rb l.ro ml.mb ml.mo p.log p.sec ml.A m.len ml.C w hp.hr hp.regs hm.hm hm.lists).mono ?_
  rintro e w' ⟨q, rfl, hq, mm⟩
  have : q = r := Bool.eq_iff_iff.2 (hq.trans hr.symm)
  rw [this]
  exact ⟨rfl, mm⟩
/-- A memory that fits a program that may be. -/
theorem fits_in {p : Prg} {m : Mem} (hok : p.Ok 200 8) (h : FitsOk p.rl p.log m.ml m.len) : m.ml = p.rl ∧ m.ml ≤ 6 ∧ (∀ i, i < m.ml → (m.len i : Int) = wordsI (p.log i)) ∧ ∀ i, i < m.ml → m.len i ≤ 64 := by
  have h1 : m.ml = p.rl := h.2.1
  refine ⟨h1, by rw [h1]; exact hok.1.1, fun i hi => h.2.2 i (by omega), fun i hi => ?_⟩
  have h2 := h.2.2 i (by omega)
  have h3 := hok.1.2 i (by omega)
  have h4 := two_pow_le (k := (p.log i).toNat) (by omega)
  unfold wordsI at h2
  omega

end Go.Proofs.Ytkeeimdhlbdigab
