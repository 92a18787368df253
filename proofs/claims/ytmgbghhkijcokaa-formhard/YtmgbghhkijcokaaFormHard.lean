/-
  Proved: for every program, FormHard returns true (a program that may be is hard; a program of one IHalt may be) and leaves its argument as it was; no conditions.
-/
import Derived.Test.YtmgbghhkijcokaaRows
import Derived.WalkKit
import Derived.ProofKit
import Derived.OpenShut
import Derived.Test.YtmgbghhkijcokaaOpen
import Derived.Test.YtmgbghhkijcokaaCode
namespace Go.Proofs.Ytmgbghhkijcokaa.formHard
open Go.ChangeShapes Go.WideShapes Go.ChangeAt Go.RowKit

theorem own : ownKnob Try.prog.godebug = none := by kernel_rfl
theorem laidOut : laidOutB Try.prog = true := by kernel_rfl

/-- A program of one IHalt. -/
def one : Prg := ⟨0, fun _ => 0, fun _ => false, 1, fun _ => ⟨9, 0, 0, 0, 0⟩⟩
theorem one_ok : one.Ok 200 8 := by
  refine ⟨⟨by decide, fun i hi => absurd hi (Nat.not_lt_zero _)⟩, by decide, by decide, fun i _ => ?_⟩
  unfold InsOk one Reg
  simp

theorem walk (p : Prg) (l : Loc) (w : World) (h : PIn w p l) :
    Calls Try.prog 7 #[.agg #[.slice l.ra p.rl l.rc, .slice l.ca p.cl l.cc]] w fun e w' => e = .returned (.bool true) ∧ More w w' := by
  have H : Hid (PIn w p l) := h
  clear h
  go_enter Try.func7, Try.ntmps7
  go_wp2_with (fail)
  refine Calls.mono (P := Try.prog) ((may_calls one ⟨none, 0, 0, 0, some ⟨w.heap.size + 1, 0, none⟩, w.heap.size + 1, 0, 1⟩ _ ⟨fun h => absurd h (Nat.not_lt_zero _), fun _ => rfl, fun i hi => absurd hi (Nat.not_lt_zero _), fun i hi => ?_⟩).mono fun _ _ s => s.is_yes one_ok) ?_
  · obtain rfl : i = 0 := by have : i < 1 := hi; omega
    simp only [one]
    refine ⟨?_, ?_, ?_, ?_, ?_⟩ <;> go_simp
  rintro e w1 ⟨rfl, m1⟩
  have e0 : w1.cell? ⟨w.heap.size, 0, none⟩ = some (.slice l.ra p.rl l.rc) := m1.cell (by go_simp)
  have e1 : w1.cell? ⟨w.heap.size, 1, none⟩ = some (.slice l.ca p.cl l.cc) := m1.cell (by go_simp)
  have Hm : Hid (More w w1) := More.trans (by repeat (first | exact More.refl _ | apply More.drew | apply More.alloc)) m1
  clear m1
  go_wp2_with (fail)
  refine (may_calls p l _ (H.out.more Hm.out)).mono ?_
  rintro e w2 ⟨r, rfl, hr, m2⟩
  have f0 := m2.cell e0
  have f1 := m2.cell e1
  clear e0 e1
  have Hm2 : Hid (More w w2) := Hm.out.trans m2
  clear m2
  cases r with
  | false =>
    clear hr
    go_wp2
    go_ret
    exact ⟨rfl, Hm2.out⟩
  | true =>
    have HA : Hid (p.Ok 200 8) := hr.1 rfl
    clear hr
    go_wp2_with (fail)
    refine ((hard_calls p l _ (H.out.more Hm2.out)).mono fun _ _ s => s.is_yes HA.out.hard).mono ?_
    rintro e w3 ⟨rfl, m3⟩
    have Hm3 : Hid (More w w3) := Hm2.out.trans m3
    clear m3
    go_wp2
    go_ret
    exact ⟨rfl, Hm3.out⟩

/-! ### THE ROW's STEP -/
set_option maxRecDepth 100000 in
theorem lifted (os : Os) (started : os.Started) (H : Type) (enc : TypeId × Value → H) :
    ReturnsInHanded {} Try.checked os 7 .any (Rows.formHardSpec.pre6 enc Try.prog Try.f7 Rows.formHardRow.domain false) (Rows.formHardSpec.post enc Try.prog Try.f7 false true false false) := by
  refine returnsInHanded_of_change (C := Try.checked) own started (by kernel_rfl) Try.func7
    (ChangeSpec.witness6 (enc := enc) (C := Try.checked) false ⟨#[], #[.agg #[.slice none 0 0, .slice none 0 0]], []⟩ 8 (by kernel_rfl) (by kernel_rfl) (by kernel_rfl) (by kernel_rfl)) ?_
  intro W base args ds gs before hval0 hW hcnd _
  have hval : ∀ (j : Nat) t v, Try.f7.params[j]? = some t → args[j]? = some v → Value.okWide Try.prog W .any base t v := hval0
  have hW' := hW
  obtain ⟨p, q, hA0, hV, rfl, hfz, hnd⟩ := hW
  have hA : DataW.TrodAll enc Try.prog W 0 (fun _ => true) true Try.f7.params.toList args.toList ds p := hA0
  rw [Try.params7] at hA hval
  obtain ⟨v0, vs0, d0, ds0, p0, q0, hargs, rfl, rfl, h0, r0⟩ := trodAll_cons hA
  obtain ⟨rfl, rfl, rfl⟩ := trodAll_nil r0
  obtain rfl : args = #[v0] := by cases args; simp_all
  obtain ⟨rfl, rfl⟩ := trodVars_none hV
  have lt0 : ∀ x ∈ p0, x.block < W.heap.size := by obtain ⟨m, hm⟩ := h0; exact DataW.trod_lt m _ _ _ hm
  obtain ⟨P, l, rfl, hin, _⟩ := open_prog (hval 0 29 v0 rfl rfl) h0
  clear hA0 hval0
  refine (walk P l W hin).mono fun e W' ⟨he, bel⟩ => ?_
  subst he
  exact ⟨_, rfl, _, _, _, [], _, [], hW', trodAll_mk1 (shut_bool Try.underlying4 _), (trodAll_cons_mk (Below.trod laidOut (by kernel_rfl) (of_decide_eq_true (by kernel_rfl)) h0 bel.1 lt0) trodAll_mk0), rfl, bel.1.frame _, fun h => by cases h⟩

theorem over : Rows.formHardRow.holds Try.pinned (OpenSpec.ofChange Rows.formHardSpec) :=
  OpenClaim.holds_of_wide 7 Try.f7 rfl rfl rfl rfl rfl rfl rfl ⟨rfl, rfl, rfl, rfl, rfl⟩ rfl rfl rfl rfl rfl (by kernel_rfl) Try.func7 (by kernel_rfl)
    (of_decide_eq_true (by kernel_rfl)) (by unfold Func.isWrapper; first | (rw [if_pos (by decide +kernel)]; kernel_rfl) | (rw [if_neg (by decide +kernel)]; exact ⟨rfl, rfl⟩))
    (fun os started H enc _ => lifted os started H enc)

end Go.Proofs.Ytmgbghhkijcokaa.formHard

namespace Go.Proofs.Ytmgbghhkijcokaa
/-- The given statement. -/
theorem formHard_holds : Rows.FormHardSaid :=
  formHard.over
#print axioms formHard_holds
end Go.Proofs.Ytmgbghhkijcokaa
