/-
  Proved: for every two numbers, NumDivides returns true and leaves its arguments as they were; no conditions.
-/
import Derived.Test.YtoalkpafmjelkaaRows
import Derived.WalkKit
import Derived.ProofKit
import Derived.OpenShut
import Derived.Test.YtoalkpafmjelkaaNumAll
namespace Go.Proofs.Ytoalkpafmjelkaa.numDivides
open Go.ChangeShapes Go.WideShapes Go.ChangeAt Go.RowKit
set_option linter.unusedVariables false      -- a walk need not use every 'w<i>' (that an integer argument fits its kind)

theorem own : ownKnob Try.prog.godebug = none := by kernel_rfl

/-! ### The plain laws -/
theorem toU_wrap (n : Nat) (h : n < 18446744073709551616) : toU (wrap64 (n : Int)) = n := by unfold toU wrap64; omega
theorem wrap_emod (n : Int) : wrap64 n % 18446744073709551616 = n % 18446744073709551616 := by unfold wrap64; omega
theorem wrap_id (a n : Int) (h0 : -9223372036854775808 ≤ a) (h1 : a ≤ 9223372036854775807) (h : n % 18446744073709551616 = a % 18446744073709551616) : wrap64 n = a := by unfold wrap64; omega

theorem quo_toU (a b : Int) : toU (opI 9 a b) = toU a / toU b := by
  rw [opI_9, toU_wrap _ (Nat.lt_of_le_of_lt (Nat.div_le_self _ _) (toU_lt a))]
theorem rem_toU (a b : Int) : toU (opI 10 a b) = toU a % toU b := by
  rw [opI_10, toU_wrap _ (Nat.lt_of_le_of_lt (Nat.mod_le _ _) (toU_lt a))]

theorem toU_zero (b : Int) (h0 : -9223372036854775808 ≤ b) (h1 : b ≤ 9223372036854775807) (h : b ≠ 0) : toU b ≠ 0 := by unfold toU; omega

theorem sum_mod (p r a : Int) (x y A : Nat) (e1 : p % 18446744073709551616 = (x : Int) % 18446744073709551616) (e2 : r % 18446744073709551616 = (y : Int)) (e3 : x + y = A) (e4 : (A : Int) = a % 18446744073709551616) :
    (p + r) % 18446744073709551616 = a % 18446744073709551616 := by omega

theorem times (a b : Int) : opI 3 (opI 9 a b) b % 18446744073709551616 = ((toU a / toU b * toU b : Nat) : Int) % 18446744073709551616 := by
  rw [opI_3, wrap_emod, Int.mul_emod, ← toU_cast (opI 9 a b), ← toU_cast b, quo_toU]
  push_cast; rfl

theorem back (a b : Int) (h0 : -9223372036854775808 ≤ a) (h1 : a ≤ 9223372036854775807) : opI 1 (opI 3 (opI 9 a b) b) (opI 10 a b) = a := by
  rw [opI_1]
  exact wrap_id _ _ h0 h1 (sum_mod _ _ _ _ _ _ (times a b) (by rw [← toU_cast, rem_toU]) (Nat.div_add_mod' (toU a) (toU b)) (toU_cast a))

theorem less (a b : Int) (h : toU b ≠ 0) : holdsI 3 (opI 10 a b) b = true := by
  have := Nat.mod_lt (toU a) (Nat.pos_of_ne_zero h)
  simp [holdsI, rem_toU, this]
theorem most (a b : Int) : holdsI 3 a (opI 9 a b) = false := by
  have := Nat.div_le_self (toU a) (toU b)
  simp [holdsI, quo_toU, this]
theorem same (a : Int) : holdsI 1 a a = true := by simp [holdsI]

/-! ### The walk, over any functions that num.Op and num.Holds compute -/
theorem walk_zero (f : Int → Int → Int → Int) (hf : ∀ (op a b : Int) (w : World), Calls Try.prog 6 #[.int .i64 op, .int .i64 a, .int .i64 b] w fun e w' => e = .returned (.int .i64 (f op a b)) ∧ w' = w)
    (g : Int → Int → Int → Bool) (hg : ∀ (c a b : Int) (w : World), Calls Try.prog 7 #[.int .i64 c, .int .i64 a, .int .i64 b] w fun e w' => e = .returned (.bool (g c a b)) ∧ w' = w.alloc (.cells #[.int .i64 c] 3))
    (a : Int) (h1 : f 9 a 0 = 0) (h2 : f 10 a 0 = a) (h3 : g 1 a a = true) (w : World) :
    Calls Try.prog 4 #[.int .i64 a, .int .i64 0] w fun e w' => e = .returned (.bool true) ∧ Grown w w' := by
  go_enter Try.func4, Try.ntmps4
  go_wp2_with (first | (go_at_call 6; refine (hf _ _ _ _).mono ?_; rintro e w' ⟨rfl, rfl⟩) | (go_at_call 7; refine (hg _ _ _ _).mono ?_; rintro e w' ⟨rfl, rfl⟩))
  go_ret
  exact ⟨rfl, by repeat (first | exact Grown.refl _ | apply Grown.drew | apply Grown.alloc)⟩

theorem walk_more (f : Int → Int → Int → Int) (hf : ∀ (op a b : Int) (w : World), Calls Try.prog 6 #[.int .i64 op, .int .i64 a, .int .i64 b] w fun e w' => e = .returned (.int .i64 (f op a b)) ∧ w' = w)
    (g : Int → Int → Int → Bool) (hg : ∀ (c a b : Int) (w : World), Calls Try.prog 7 #[.int .i64 c, .int .i64 a, .int .i64 b] w fun e w' => e = .returned (.bool (g c a b)) ∧ w' = w.alloc (.cells #[.int .i64 c] 3))
    (a b : Int) (h0 : (b == 0) = false) (h1 : f 1 (f 3 (f 9 a b) b) (f 10 a b) = a) (h2 : g 3 (f 10 a b) b = true) (h3 : g 3 a (f 9 a b) = false) (w : World) :
    Calls Try.prog 4 #[.int .i64 a, .int .i64 b] w fun e w' => e = .returned (.bool true) ∧ Grown w w' := by
  go_enter Try.func4, Try.ntmps4
  go_wp2_with (first | (go_at_call 6; refine (hf _ _ _ _).mono ?_; rintro e w' ⟨rfl, rfl⟩) | (go_at_call 7; refine (hg _ _ _ _).mono ?_; rintro e w' ⟨rfl, rfl⟩))
  go_ret
  exact ⟨rfl, by repeat (first | exact Grown.refl _ | apply Grown.drew | apply Grown.alloc)⟩

theorem walk (a0 : Int) (a1 : Int) (w0 : (Lit.int .i64 a0).wf = true) (w1 : (Lit.int .i64 a1).wf = true) (w : World) :
    Calls Try.prog 4 #[.int .i64 a0, .int .i64 a1] w fun e w' => e = .returned (.bool true) ∧ Grown w w' := by
  have b0 := bounds_i64 w0
  have b1 := bounds_i64 w1
  by_cases h : a1 = 0
  · subst h
    have hz : toU 0 = 0 := by unfold toU; omega
    have h1 : opI 9 a0 0 = 0 := by rw [opI_9, hz, Nat.div_zero]; exact wrap_id _ _ (by omega) (by omega) rfl
    have h2 : opI 10 a0 0 = a0 := by rw [opI_10, hz, Nat.mod_zero]; exact wrap_id _ _ b0.1 b0.2 (by have := toU_cast a0; omega)
    exact walk_zero opI op_calls holdsI holds_calls a0 h1 h2 (same a0) w
  · exact walk_more opI op_calls holdsI holds_calls a0 a1 (by simp [h]) (back a0 a1 b0.1 b0.2) (less a0 a1 (toU_zero a1 b1.1 b1.2 h)) (most a0 a1) w

/-! ### THE ROW's STEP: WRITTEN OUT: LEAVE IT -/
set_option maxRecDepth 100000 in
theorem lifted (os : Os) (started : os.Started) (H : Type) (enc : TypeId × Value → H) :
    ReturnsInHanded {} Try.checked os 4 .any (Rows.numDividesSpec.pre6 enc Try.prog Try.f4 Rows.numDividesRow.domain false) (Rows.numDividesSpec.post enc Try.prog Try.f4 false true false false) := by
  refine returnsInHanded_of_change (C := Try.checked) own started (by kernel_rfl) Try.func4
    (ChangeSpec.witness6 (enc := enc) (C := Try.checked) false ⟨#[], #[.int .i64 0, .int .i64 0], []⟩ 8 (by kernel_rfl) (by kernel_rfl) (by kernel_rfl) (by kernel_rfl)) ?_
  intro W base args ds gs before hval0 hW hcnd _
  have hval : ∀ (j : Nat) t v, Try.f4.params[j]? = some t → args[j]? = some v → Value.okWide Try.prog W .any base t v := hval0
  have hW' := hW
  obtain ⟨p, q, hA0, hV, rfl, hfz, hnd⟩ := hW
  have hA : DataW.TrodAll enc Try.prog W 0 (fun _ => true) true Try.f4.params.toList args.toList ds p := hA0
  rw [Try.params4] at hA hval
  obtain ⟨v0, vs0, d0, ds0, p0, q0, hargs, rfl, rfl, h0, r0⟩ := trodAll_cons hA
  obtain ⟨v1, vs1, d1, ds1, p1, q1, rfl, rfl, rfl, h1, r1⟩ := trodAll_cons r0
  obtain ⟨rfl, rfl, rfl⟩ := trodAll_nil r1
  obtain rfl : args = #[v0, v1] := by cases args; simp_all
  obtain ⟨rfl, rfl⟩ := trodVars_none hV
  obtain ⟨a0, rfl, rfl, rfl, w0⟩ := open_int Try.underlying2 (hval 0 2 v0 rfl rfl) h0
  obtain ⟨a1, rfl, rfl, rfl, w1⟩ := open_int Try.underlying2 (hval 1 2 v1 rfl rfl) h1
  clear hA0 hval0
  simp only [List.append_nil] at hW'
  refine (walk a0 a1 w0 w1 W).mono fun e W' ⟨he, hg⟩ => ?_
  subst he
  exact ⟨_, rfl, post_of_same (pa := []) (pv := []) hW' (fun _ _ _ => (trodAll_cons_mk (shut_bool Try.underlying4 _) trodAll_mk0)) (fun sp _ => (trodAll_cons_mk (shut_int Try.underlying2 w0) (trodAll_cons_mk (shut_int Try.underlying2 w1) trodAll_mk0))) (fun _ _ => rfl) rfl
    (hg.frame _) hg.2.1 (ok_one (by kernel_rfl) rfl (okWide_bool_mk Try.underlying4 _))⟩

theorem over : Rows.numDividesRow.holds Try.pinned (OpenSpec.ofChange Rows.numDividesSpec) :=
  OpenClaim.holds_of_wide 4 Try.f4 rfl rfl rfl rfl rfl rfl rfl ⟨rfl, rfl, rfl, rfl, rfl⟩ rfl rfl rfl rfl rfl (by kernel_rfl) Try.func4 (by kernel_rfl)
    (of_decide_eq_true (by kernel_rfl)) (by unfold Func.isWrapper; first | (rw [if_pos (by decide +kernel)]; kernel_rfl) | (rw [if_neg (by decide +kernel)]; exact ⟨rfl, rfl⟩))
    (fun os started H enc _ => lifted os started H enc)

end Go.Proofs.Ytoalkpafmjelkaa.numDivides

namespace Go.Proofs.Ytoalkpafmjelkaa
/-- The given statement. -/
theorem numDivides_holds : Rows.NumDividesSaid :=
  numDivides.over
#print axioms numDivides_holds
end Go.Proofs.Ytoalkpafmjelkaa
