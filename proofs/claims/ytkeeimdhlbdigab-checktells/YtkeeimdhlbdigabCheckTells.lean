/-
  Proved: for every program, such as may not be among them, CheckTells returns true (Check tells the first fault, or that there is none, as the document says) and leaves its argument as it was; no conditions.
-/
import Derived.Test.YtkeeimdhlbdigabRows
import Derived.WalkKit
import Derived.ProofKit
import Derived.OpenShut
import Derived.Test.YtkeeimdhlbdigabJoined5
import Derived.Test.YtkeeimdhlbdigabJoined9
import Derived.Test.YtkeeimdhlbdigabJoined10
namespace Go.Proofs.Ytkeeimdhlbdigab
open Go.ChangeShapes Go.WideShapes Go.ChangeAt Go.RowKit Go.Deep
set_option linter.unusedVariables false
set_option linter.unusedSimpArgs false
set_option maxRecDepth 8000

namespace checkTells

theorem own : ownKnob Try.prog.godebug = none := by kernel_rfl
theorem laidOut : laidOutB Try.prog = true := by kernel_rfl

set_option maxHeartbeats 1000000 in
theorem body (rv cv : Value) (hrv : ∃ a n c, rv = .slice a n c) (hcv : ∃ a n c, cv = .slice a n c) (F : Int × Int → Prop) (hF : ∀ f g, F f → F g → f = g) (w : World)
    (c1 : ∀ w1 : World, More w w1 → Calls Try.prog 12 #[.agg #[rv, cv]] w1 fun e w' => ∃ f : Int × Int, F f ∧ e = .returned (.agg #[.int .i64 f.1, .int .i64 f.2]) ∧ More w1 w')
    (c2 : ∀ w1 : World, More w w1 → Calls Try.prog 13 #[.agg #[rv, cv]] w1 fun e w' => ∃ f : Int × Int, F f ∧ e = .returned (.agg #[.int .i64 f.1, .int .i64 f.2]) ∧ More w1 w') :
    Calls Try.prog 4 #[.agg #[rv, cv]] w fun e w' => e = .returned (.bool true) ∧ More w w' := by
  obtain ⟨a, n, c, rfl⟩ := hrv
  obtain ⟨a2, n2, cc2, rfl⟩ := hcv
  have C1 : Hid (∀ w1 : World, More w w1 → Calls Try.prog 12 #[.agg #[.slice a n c, .slice a2 n2 cc2]] w1 fun e w' => ∃ f : Int × Int, F f ∧ e = .returned (.agg #[.int .i64 f.1, .int .i64 f.2]) ∧ More w1 w') := c1
  have C2 : Hid (∀ w1 : World, More w w1 → Calls Try.prog 13 #[.agg #[.slice a n c, .slice a2 n2 cc2]] w1 fun e w' => ∃ f : Int × Int, F f ∧ e = .returned (.agg #[.int .i64 f.1, .int .i64 f.2]) ∧ More w1 w') := c2
  clear c1 c2
  go_enter Try.func4, Try.ntmps4
  go_wp2_with (fail)
  refine (C1.out _ ((More.refl _).alloc _ _)).mono ?_
  rintro e w1 ⟨⟨f1, f2⟩, hf, rfl, m1⟩
  have HF1 : Hid (∀ g, F g → g = (f1, f2)) := fun g hg => hF _ _ hg hf
  clear hf hF
  dsimp only
  have Hm1 : Hid (More w w1) := ((More.refl _).alloc _ _).trans m1
  have Hp1 : Hid (Blk w1 w.heap.size #[.slice a n c, .slice a2 n2 cc2] 30) := (Blk.last _ _ _).more m1
  clear m1
  obtain ⟨W, HW⟩ : ∃ W : World, Hid (W = w1.alloc (.cells #[.int .i64 f1, .int .i64 f2] 33)) := ⟨_, rfl⟩
  have HmW : Hid (More w1 W) := HW.out ▸ (More.refl _).alloc _ _
  have HbW : Hid (Blk W w1.heap.size #[.int .i64 f1, .int .i64 f2] 33) := HW.out ▸ Blk.last _ _ _
  obtain ⟨S, HS⟩ : ∃ S : World → Prop, Hid (∀ w', S w' ↔ More W w') := ⟨_, fun _ => Iff.rfl⟩
  have HS0 : S W.drew := (HS.out _).2 (More.refl _).drew
  have hne : Nonempty { w' // S w' } := ⟨⟨_, HS0⟩⟩
  have k0 : ∀ i : { w' // S w' }, i.val.cell? ⟨w.heap.size, 0, none⟩ = some (.slice a n c) := fun i => ((Hp1.out.more HmW.out).more ((HS.out _).1 i.property)).cell rfl
  have k1 : ∀ i : { w' // S w' }, i.val.cell? ⟨w.heap.size, 1, none⟩ = some (.slice a2 n2 cc2) := fun i => ((Hp1.out.more HmW.out).more ((HS.out _).1 i.property)).cell rfl
  have k2 : ∀ i : { w' // S w' }, i.val.cell? ⟨w1.heap.size, 0, none⟩ = some (.int .i64 f1) := fun i => (HbW.out.more ((HS.out _).1 i.property)).cell rfl
  have k3 : ∀ i : { w' // S w' }, i.val.cell? ⟨w1.heap.size, 1, none⟩ = some (.int .i64 f2) := fun i => (HbW.out.more ((HS.out _).1 i.property)).cell rfl
  go_wp2_with (fail)
  rw [← HW.out]
  refine wp_region_ord (S := S) [(0, true), (1, true), (2, false), (3, true), (4, true)] (by kernel_rfl) (by kernel_rfl) (by kernel_rfl) HS0 ?_
  iterate 2 (refine wpOrd_take rfl (by kernel_rfl) (fun K hK => ?_); go_simp; refine hK _ _ ?_; clear hK K)
  refine wpOrd_busy rfl (by kernel_rfl) (fun K hK => ?_); go_simp
  refine (C2.out _ (Hm1.out.trans (HmW.out.trans (More.refl _).drew))).mono ?_
  rintro e w2 ⟨g, hg, rfl, m_⟩
  obtain rfl := HF1.out g hg
  clear hg
  dsimp only
  have Hm2 : Hid (More W w2) := (More.refl W).drew.trans m_
  clear m_
  go_simp
  refine hK _ _ ((HS.out _).2 Hm2.out) ?_; clear hK K
  iterate 2 (refine wpOrd_take rfl (by kernel_rfl) (fun K hK => ?_); go_simp; refine hK _ _ ?_; clear hK K)
  refine wpOrd_done ?_
  clear k0 k1 k2 k3 hne HS0
  go_wp2
  go_ret
  exact ⟨rfl, Hm1.out.trans (HmW.out.trans Hm2.out)⟩

theorem walk (p : Prg) (l : Loc) (w : World) (hp : PIn w p l) (hf : p.Fit) :
    Calls Try.prog 4 #[.agg #[.slice l.ra p.rl l.rc, .slice l.ca p.cl l.cc]] w fun e w' => e = .returned (.bool true) ∧ More w w' := by
  by_cases hok : p.Ok 200 8
  · have hn : ∀ i, i < p.cl → -9223372036854775808 ≤ (p.ins i).n ∧ (p.ins i).n ≤ 9223372036854775807 := fun i hi => (hf.ins i hi).2.2.2.2
    have cm : ∀ w1 : World, PIn w1 p l → Calls Try.prog 15 #[.agg #[.slice l.ra p.rl l.rc, .slice l.ca p.cl l.cc]] w1 fun e w' => e = .returned (.bool true) ∧ More w1 w' := fun w1 h1 => by
      refine (ref_may p l _ h1).mono ?_
      rintro e w' ⟨r, rfl, hr, m⟩
      cases r with
      | true => exact ⟨rfl, m⟩
      | false => exact absurd (hr.2 hok) (by simp)
    refine body _ _ ⟨_, _, _, rfl⟩ ⟨_, _, _, rfl⟩ (fun f => ∃ lk, Known p lk ∧ f = checkK p lk) (fun f g ⟨l1, h1, e1⟩ ⟨l2, h2, e2⟩ => by rw [e1, e2]; exact check_one hok h1 h2) w (fun w1 m1 => ?_) (fun w1 m1 => ?_)
    · refine (check_ok_calls p l w1 (hp.more m1) hok hn).mono ?_
      rintro e w' ⟨l', h1, rfl, m⟩
      exact ⟨_, ⟨l', h1, rfl⟩, rfl, m⟩
    · refine (check6_ok p l w1 (hp.more m1) hok hn (fun w2 m2 => cm w2 ((hp.more m1).more m2))).mono ?_
      rintro e w' ⟨l', h1, rfl, m⟩
      exact ⟨_, ⟨l', h1, rfl⟩, rfl, m⟩
  · refine body _ _ ⟨_, _, _, rfl⟩ ⟨_, _, _, rfl⟩ (fun f => f = (2, 0)) (fun f g h1 h2 => h1.trans h2.symm) w (fun w1 m1 => (check_form p l w1 (hp.more m1) hok).mono (fun e w' ⟨h1, h2⟩ => ⟨(2, 0), rfl, h1, h2⟩)) (fun w1 m1 => ?_)
    refine (check6_form _ _ ⟨_, _, _, rfl⟩ ⟨_, _, _, rfl⟩ w1 (fun w2 m2 => ?_)).mono (fun e w' ⟨h1, h2⟩ => ⟨(2, 0), rfl, h1, h2⟩)
    refine (ref_may p l _ ((hp.more m1).more m2)).mono ?_
    rintro e w' ⟨r, rfl, hr, m⟩
    cases r with
    | false => exact ⟨rfl, m⟩
    | true => exact absurd (hr.1 rfl) hok

/-! ### THE ROW's STEP -/
set_option maxRecDepth 100000 in
theorem lifted (os : Os) (started : os.Started) (H : Type) (enc : TypeId × Value → H) :
    ReturnsInHanded {} Try.checked os 4 .any (Rows.checkTellsSpec.pre6 enc Try.prog Try.f4 Rows.checkTellsRow.domain false) (Rows.checkTellsSpec.post enc Try.prog Try.f4 false true false false) := by
  refine returnsInHanded_of_change (C := Try.checked) own started (by kernel_rfl) Try.func4
    (ChangeSpec.witness6 (enc := enc) (C := Try.checked) false ⟨#[], #[.agg #[.slice none 0 0, .slice none 0 0]], []⟩ 8 (by kernel_rfl) (by kernel_rfl) (by kernel_rfl) (by kernel_rfl)) ?_
  intro W base args ds gs before hval0 hW hcnd _
  have hval : ∀ (j : Nat) t v, Try.f4.params[j]? = some t → args[j]? = some v → Value.okWide Try.prog W .any base t v := hval0
  have hW' := hW
  obtain ⟨p, q, hA0, hV, rfl, hfz, hnd⟩ := hW
  have hA : DataW.TrodAll enc Try.prog W 0 (fun _ => true) true Try.f4.params.toList args.toList ds p := hA0
  rw [Try.params4] at hA hval
  obtain ⟨v0, vs0, d0, ds0, p0, q0, hargs, rfl, rfl, h0, r0⟩ := trodAll_cons hA
  obtain ⟨rfl, rfl, rfl⟩ := trodAll_nil r0
  obtain rfl : args = #[v0] := by cases args; simp_all
  obtain ⟨rfl, rfl⟩ := trodVars_none hV
  have lt0 : ∀ x ∈ p0, x.block < W.heap.size := by obtain ⟨m, hm⟩ := h0; exact DataW.trod_lt m _ _ _ hm
  obtain ⟨P0, l0, rfl, hin0, hfit0⟩ := open_prog (hval 0 30 v0 rfl rfl) h0
  clear hA0 hval0
  refine (walk P0 l0 W hin0 hfit0).mono fun e W' ⟨he, bel⟩ => ?_
  subst he
  exact ⟨_, rfl, _, _, _, [], _, [], hW', trodAll_mk1 (shut_bool Try.underlying4 _), (trodAll_cons_mk (Below.trod laidOut (by kernel_rfl) (of_decide_eq_true (by kernel_rfl)) h0 bel lt0) trodAll_mk0), rfl, Below.frame bel _, fun h => by cases h⟩

theorem over : Rows.checkTellsRow.holds Try.pinned (OpenSpec.ofChange Rows.checkTellsSpec) :=
  OpenClaim.holds_of_wide 4 Try.f4 rfl rfl rfl rfl rfl rfl rfl ⟨rfl, rfl, rfl, rfl, rfl⟩ rfl rfl rfl rfl rfl (by kernel_rfl) Try.func4 (by kernel_rfl)
    (of_decide_eq_true (by kernel_rfl)) (by unfold Func.isWrapper; first | (rw [if_pos (by decide +kernel)]; kernel_rfl) | (rw [if_neg (by decide +kernel)]; exact ⟨rfl, rfl⟩))
    (fun os started H enc _ => lifted os started H enc)

end checkTells

/-- The given statement. -/
theorem checkTells_holds : Rows.CheckTellsSaid :=
  checkTells.over
#print axioms checkTells_holds
end Go.Proofs.Ytkeeimdhlbdigab
