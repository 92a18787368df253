/-
  Proved: for every number and every two small numbers, NumShifts returns true and leaves its arguments as they were; no conditions.
-/
import Derived.Test.YtoalkpafmjelkaaRows
import Derived.WalkKit
import Derived.ProofKit
import Derived.OpenShut
import Derived.Test.YtoalkpafmjelkaaNumAll
namespace Go.Proofs.Ytoalkpafmjelkaa.numShifts
open Go.ChangeShapes Go.WideShapes Go.ChangeAt Go.RowKit
set_option linter.unusedVariables false      -- a walk need not use every 'w<i>' (that an integer argument fits its kind)

theorem own : ownKnob Try.prog.godebug = none := by kernel_rfl

/-! ### The plain laws -/
theorem toU_small (n : Int) (h0 : 0 ≤ n) (h1 : n ≤ 63) : toU n % 64 = n.toNat := by unfold toU; omega
theorem toU_wrap (n : Nat) : toU (wrap64 (n : Int)) = n % 18446744073709551616 := by unfold toU wrap64; omega
theorem wrap_cong (m n : Nat) (h : m % 18446744073709551616 = n % 18446744073709551616) : wrap64 (m : Int) = wrap64 (n : Int) := by unfold wrap64; omega

theorem eight : opI 7 1 3 = 8 := by
  rw [opI_7, toU_small 3 (by omega) (by omega)]
  have : toU 1 = 1 := by unfold toU; omega
  rw [this]
  have e : (1 * 2 ^ (3 : Int).toNat : Nat) = 8 := by decide
  rw [e]; unfold wrap64; omega

theorem up (a n m : Int) (h0 : 0 ≤ n) (h1 : 0 ≤ m) (h : n + m ≤ 63) : opI 7 (opI 7 a n) m = opI 7 a (n + m) := by
  rw [opI_7, opI_7, opI_7, toU_small n h0 (by omega), toU_small m h1 (by omega), toU_small (n + m) (by omega) h, toU_wrap]
  apply wrap_cong
  have e : (n + m).toNat = n.toNat + m.toNat := by omega
  rw [e, Nat.pow_add, ← Nat.mul_assoc, Nat.mod_mul_mod]

theorem down (a n m : Int) (h0 : 0 ≤ n) (h1 : 0 ≤ m) (h : n + m ≤ 63) : opI 8 (opI 8 a n) m = opI 8 a (n + m) := by
  rw [opI_8, opI_8, opI_8, toU_small n h0 (by omega), toU_small m h1 (by omega), toU_small (n + m) (by omega) h, toU_wrap]
  have e : (n + m).toNat = n.toNat + m.toNat := by omega
  have hl : toU a / 2 ^ n.toNat < 18446744073709551616 := Nat.lt_of_le_of_lt (Nat.div_le_self _ _) (toU_lt a)
  rw [e, Nat.pow_add, Nat.mod_eq_of_lt hl, Nat.div_div_eq_div_mul]

/-! ### The walk, over any function that num.Op computes -/
theorem walk_more (f : Int → Int → Int → Int) (hf : ∀ (op a b : Int) (w : World), Calls Try.prog 6 #[.int .i64 op, .int .i64 a, .int .i64 b] w fun e w' => e = .returned (.int .i64 (f op a b)) ∧ w' = w)
    (a0 a1 a2 : Int) (b1 : 0 ≤ a1 ∧ a1 ≤ 255) (b2 : 0 ≤ a2 ∧ a2 ≤ 255) (h8 : (f 7 1 3 != 8) = false) (hs : 63 < a1 % 64 + a2 % 64) (w : World) :
    Calls Try.prog 5 #[.int .i64 a0, .int .u8 a1, .int .u8 a2] w fun e w' => e = .returned (.bool true) ∧ Grown w w' := by
  go_enter Try.func5, Try.ntmps5
  go_wp2_with (go_at_call 6; refine (hf _ _ _ _).mono ?_; rintro e w' ⟨rfl, rfl⟩)
  go_ret
  exact ⟨rfl, Grown.refl _⟩

theorem walk_less (f : Int → Int → Int → Int) (hf : ∀ (op a b : Int) (w : World), Calls Try.prog 6 #[.int .i64 op, .int .i64 a, .int .i64 b] w fun e w' => e = .returned (.int .i64 (f op a b)) ∧ w' = w)
    (a0 a1 a2 : Int) (b1 : 0 ≤ a1 ∧ a1 ≤ 255) (b2 : 0 ≤ a2 ∧ a2 ≤ 255) (h8 : (f 7 1 3 != 8) = false) (hs : ¬ 63 < a1 % 64 + a2 % 64)
    (hu : (f 7 (f 7 a0 (a1 % 64)) (a2 % 64) == f 7 a0 (a1 % 64 + a2 % 64)) = true) (hd : (f 8 (f 8 a0 (a1 % 64)) (a2 % 64) == f 8 a0 (a1 % 64 + a2 % 64)) = true) (w : World) :
    Calls Try.prog 5 #[.int .i64 a0, .int .u8 a1, .int .u8 a2] w fun e w' => e = .returned (.bool true) ∧ Grown w w' := by
  go_enter Try.func5, Try.ntmps5
  go_wp2_with (go_at_call 6; refine (hf _ _ _ _).mono ?_; rintro e w' ⟨rfl, rfl⟩)
  go_ret
  exact ⟨rfl, Grown.refl _⟩

theorem walk (a0 : Int) (a1 : Int) (a2 : Int) (w0 : (Lit.int .i64 a0).wf = true) (w1 : (Lit.int .u8 a1).wf = true) (w2 : (Lit.int .u8 a2).wf = true) (w : World) :
    Calls Try.prog 5 #[.int .i64 a0, .int .u8 a1, .int .u8 a2] w fun e w' => e = .returned (.bool true) ∧ Grown w w' := by
  have b1 := bounds_u8 w1
  have b2 := bounds_u8 w2
  have h8 : (opI 7 1 3 != 8) = false := by rw [eight]; rfl
  by_cases hs : 63 < a1 % 64 + a2 % 64
  · exact walk_more opI op_calls a0 a1 a2 b1 b2 h8 hs w
  · have hu : (opI 7 (opI 7 a0 (a1 % 64)) (a2 % 64) == opI 7 a0 (a1 % 64 + a2 % 64)) = true := by
      rw [up a0 _ _ (by omega) (by omega) (by omega)]; exact beq_self_eq_true _
    have hd : (opI 8 (opI 8 a0 (a1 % 64)) (a2 % 64) == opI 8 a0 (a1 % 64 + a2 % 64)) = true := by
      rw [down a0 _ _ (by omega) (by omega) (by omega)]; exact beq_self_eq_true _
    exact walk_less opI op_calls a0 a1 a2 b1 b2 h8 hs hu hd w

/-! ### THE ROW's STEP: WRITTEN OUT: LEAVE IT -/
set_option maxRecDepth 100000 in
theorem lifted (os : Os) (started : os.Started) (H : Type) (enc : TypeId × Value → H) :
    ReturnsInHanded {} Try.checked os 5 .any (Rows.numShiftsSpec.pre6 enc Try.prog Try.f5 Rows.numShiftsRow.domain false) (Rows.numShiftsSpec.post enc Try.prog Try.f5 false true false false) := by
  refine returnsInHanded_of_change (C := Try.checked) own started (by kernel_rfl) Try.func5
    (ChangeSpec.witness6 (enc := enc) (C := Try.checked) false ⟨#[], #[.int .i64 0, .int .u8 0, .int .u8 0], []⟩ 8 (by kernel_rfl) (by kernel_rfl) (by kernel_rfl) (by kernel_rfl)) ?_
  intro W base args ds gs before hval0 hW hcnd _
  have hval : ∀ (j : Nat) t v, Try.f5.params[j]? = some t → args[j]? = some v → Value.okWide Try.prog W .any base t v := hval0
  have hW' := hW
  obtain ⟨p, q, hA0, hV, rfl, hfz, hnd⟩ := hW
  have hA : DataW.TrodAll enc Try.prog W 0 (fun _ => true) true Try.f5.params.toList args.toList ds p := hA0
  rw [Try.params5] at hA hval
  obtain ⟨v0, vs0, d0, ds0, p0, q0, hargs, rfl, rfl, h0, r0⟩ := trodAll_cons hA
  obtain ⟨v1, vs1, d1, ds1, p1, q1, rfl, rfl, rfl, h1, r1⟩ := trodAll_cons r0
  obtain ⟨v2, vs2, d2, ds2, p2, q2, rfl, rfl, rfl, h2, r2⟩ := trodAll_cons r1
  obtain ⟨rfl, rfl, rfl⟩ := trodAll_nil r2
  obtain rfl : args = #[v0, v1, v2] := by cases args; simp_all
  obtain ⟨rfl, rfl⟩ := trodVars_none hV
  obtain ⟨a0, rfl, rfl, rfl, w0⟩ := open_int Try.underlying2 (hval 0 2 v0 rfl rfl) h0
  obtain ⟨a1, rfl, rfl, rfl, w1⟩ := open_int Try.underlying5 (hval 1 5 v1 rfl rfl) h1
  obtain ⟨a2, rfl, rfl, rfl, w2⟩ := open_int Try.underlying5 (hval 2 5 v2 rfl rfl) h2
  clear hA0 hval0
  simp only [List.append_nil] at hW'
  refine (walk a0 a1 a2 w0 w1 w2 W).mono fun e W' ⟨he, hg⟩ => ?_
  subst he
  exact ⟨_, rfl, post_of_same (pa := []) (pv := []) hW' (fun _ _ _ => (trodAll_cons_mk (shut_bool Try.underlying4 _) trodAll_mk0)) (fun sp _ => (trodAll_cons_mk (shut_int Try.underlying2 w0) (trodAll_cons_mk (shut_int Try.underlying5 w1) (trodAll_cons_mk (shut_int Try.underlying5 w2) trodAll_mk0)))) (fun _ _ => rfl) rfl
    (hg.frame _) hg.2.1 (ok_one (by kernel_rfl) rfl (okWide_bool_mk Try.underlying4 _))⟩

theorem over : Rows.numShiftsRow.holds Try.pinned (OpenSpec.ofChange Rows.numShiftsSpec) :=
  OpenClaim.holds_of_wide 5 Try.f5 rfl rfl rfl rfl rfl rfl rfl ⟨rfl, rfl, rfl, rfl, rfl⟩ rfl rfl rfl rfl rfl (by kernel_rfl) Try.func5 (by kernel_rfl)
    (of_decide_eq_true (by kernel_rfl)) (by unfold Func.isWrapper; first | (rw [if_pos (by decide +kernel)]; kernel_rfl) | (rw [if_neg (by decide +kernel)]; exact ⟨rfl, rfl⟩))
    (fun os started H enc _ => lifted os started H enc)

end Go.Proofs.Ytoalkpafmjelkaa.numShifts

namespace Go.Proofs.Ytoalkpafmjelkaa
/-- The given statement. -/
theorem numShifts_holds : Rows.NumShiftsSaid :=
  numShifts.over
#print axioms numShifts_holds
end Go.Proofs.Ytoalkpafmjelkaa
