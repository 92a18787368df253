/-
  Proved: for every regions and every words that are a program, WordThere returns true (it has just these words) and leaves its arguments as they were; no conditions.
-/
import Derived.Test.YtifdalddchmlmaaRows
import Derived.WalkKit
import Derived.ProofKit
import Derived.OpenShut
import Derived.Test.YtifdalddchmlmaaWdOpen
import Derived.Test.YtifdalddchmlmaaWdBackLaw
import Derived.Test.YtifdalddchmlmaaWdGetD
namespace Go.Proofs.Ytifdalddchmlmaa
open Go.ChangeShapes Go.WideShapes Go.ChangeAt Go.RowKit Go.Deep
set_option linter.unusedVariables false
set_option linter.unusedSimpArgs false
set_option maxRecDepth 8000

namespace wordThere

theorem own : ownKnob Try.prog.godebug = none := by kernel_rfl
theorem laidOut : laidOutB Try.prog = true := by kernel_rfl

theorem walk (ra : Option Addr) (rl rc rb ro : Nat) (log : Nat → Int) (sec : Nat → Bool) (wa : Option Addr) (n wc wb wo : Nat) (f : Nat → Int) (w : World) (hra : 0 < rl → ra = some ⟨rb, ro, none⟩) (hr : RegsAt w rb ro rl log sec)
    (hwa : 0 < n → wa = some ⟨wb, wo, none⟩) (hw : WordsAt w wb wo n f) (hf : ∀ i, i < n → W32 (f i)) :
    Calls Try.prog 6 #[.slice ra rl rc, .slice wa n wc] w fun e w' => e = .returned (.bool true) ∧ More w w' :=
  word_there_body ra rl rc log sec wa n wc wb wo f w hwa hw hf (fun w1 m1 => get_calls ra rl rc rb ro log sec wa n wc wb wo f w1 hra (hr.more m1) hwa (hw.more m1) hf) (fun q lq w1 _ hq => put_calls q lq w1 hq)

/-! ### THE ROW's STEP -/
set_option maxRecDepth 100000 in
theorem lifted (os : Os) (started : os.Started) (H : Type) (enc : TypeId × Value → H) :
    ReturnsInHanded {} Try.checked os 6 .any (Rows.wordThereSpec.pre6 enc Try.prog Try.f6 Rows.wordThereRow.domain false) (Rows.wordThereSpec.post enc Try.prog Try.f6 false true false false) := by
  refine returnsInHanded_of_change (C := Try.checked) own started (by kernel_rfl) Try.func6
    (ChangeSpec.witness6 (enc := enc) (C := Try.checked) false ⟨#[], #[.slice none 0 0, .slice none 0 0], []⟩ 8 (by kernel_rfl) (by kernel_rfl) (by kernel_rfl) (by kernel_rfl)) ?_
  intro W base args ds gs before hval0 hW hcnd _
  have hval : ∀ (j : Nat) t v, Try.f6.params[j]? = some t → args[j]? = some v → Value.okWide Try.prog W .any base t v := hval0
  have hW' := hW
  obtain ⟨p, q, hA0, hV, rfl, hfz, hnd⟩ := hW
  have hA : DataW.TrodAll enc Try.prog W 0 (fun _ => true) true Try.f6.params.toList args.toList ds p := hA0
  rw [Try.params6] at hA hval
  obtain ⟨v0, vs0, d0, ds0, p0, q0, hargs, rfl, rfl, h0, r0⟩ := trodAll_cons hA
  obtain ⟨v1, vs1, d1, ds1, p1, q1, rfl, rfl, rfl, h1, r1⟩ := trodAll_cons r0
  obtain ⟨rfl, rfl, rfl⟩ := trodAll_nil r1
  obtain rfl : args = #[v0, v1] := by cases args; simp_all
  obtain ⟨rfl, rfl⟩ := trodVars_none hV
  have lt0 : ∀ x ∈ p0, x.block < W.heap.size := by obtain ⟨m, hm⟩ := h0; exact DataW.trod_lt m _ _ _ hm
  have lt1 : ∀ x ∈ p1, x.block < W.heap.size := by obtain ⟨m, hm⟩ := h1; exact DataW.trod_lt m _ _ _ hm
  obtain ⟨ra0, rb0, ro0, rl0, rc0, log0, sec0, rfl, hra0, hr0, hrl0, hlog0⟩ := open_regions (hval 0 22 v0 rfl rfl) h0
  obtain ⟨wa1, wb1, wo1, n1, wc1, f1, rfl, hwa1, hw1, hf1, hm1, hb1⟩ := open_words (hval 1 26 v1 rfl rfl) h1
  clear hA0 hval0
  refine (walk ra0 rl0 rc0 rb0 ro0 log0 sec0 wa1 n1 wc1 wb1 wo1 f1 W hra0 hr0 hwa1 hw1 hf1).mono fun e W' ⟨he, bel⟩ => ?_
  subst he
  exact ⟨_, rfl, _, _, _, [], _, [], hW', trodAll_mk1 (shut_bool Try.underlying4 _), (trodAll_cons_mk (Below.trod laidOut (by kernel_rfl) (of_decide_eq_true (by kernel_rfl)) h0 bel lt0) (trodAll_cons_mk (Below.trod laidOut (by kernel_rfl) (of_decide_eq_true (by kernel_rfl)) h1 bel lt1) trodAll_mk0)), rfl, Below.frame bel _, fun h => by cases h⟩

theorem over : Rows.wordThereRow.holds Try.pinned (OpenSpec.ofChange Rows.wordThereSpec) :=
  OpenClaim.holds_of_wide 6 Try.f6 rfl rfl rfl rfl rfl rfl rfl ⟨rfl, rfl, rfl, rfl, rfl⟩ rfl rfl rfl rfl rfl (by kernel_rfl) Try.func6 (by kernel_rfl)
    (of_decide_eq_true (by kernel_rfl)) (by unfold Func.isWrapper; first | (rw [if_pos (by decide +kernel)]; kernel_rfl) | (rw [if_neg (by decide +kernel)]; exact ⟨rfl, rfl⟩))
    (fun os started H enc _ => lifted os started H enc)

end wordThere

/-- The given statement. -/
theorem wordThere_holds : Rows.WordThereSaid :=
  wordThere.over
#print axioms wordThere_holds
end Go.Proofs.Ytifdalddchmlmaa
