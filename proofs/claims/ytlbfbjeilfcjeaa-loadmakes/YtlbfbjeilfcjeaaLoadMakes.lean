/-
  Proved: for every program, such as may not be among them, LoadMakes returns true (Load tells the check's fault and no words, or makes words that are a program, at most 30 for each instruction) and leaves its argument as it was; no conditions.
-/
import Derived.Test.YtlbfbjeilfcjeaaRows
import Derived.WalkKit
import Derived.ProofKit
import Derived.OpenShut
import Derived.Test.YtlbfbjeilfcjeaaJoined7
import Derived.Test.YtlbfbjeilfcjeaaJoined4
namespace Go.Proofs.Ytlbfbjeilfcjeaa
open Go.ChangeShapes Go.WideShapes Go.ChangeAt Go.RowKit Go.Deep
set_option linter.unusedVariables false
set_option linter.unusedSimpArgs false
set_option maxRecDepth 8000

namespace loadMakes

theorem own : ownKnob Try.prog.godebug = none := by kernel_rfl
theorem laidOut : laidOutB Try.prog = true := by kernel_rfl

theorem scan_zero {p : Prg} {l : KV} : ∀ n at_, (scanK p l n at_).1 = 0 → (scanK p l n at_).2 = 0
  | 0, at_, _ => rfl
  | n + 1, at_, h => by
    rw [scanK] at h ⊢
    cases e : l at_ with
    | none => rw [e] at h; exact scan_zero n (at_ + 1) h
    | some s =>
      rw [e] at h
      dsimp only at h ⊢
      by_cases h0 : faultK p at_ s = 0
      · rw [if_pos h0] at h ⊢; exact scan_zero n (at_ + 1) h
      · rw [if_neg h0] at h; exact absurd h h0
theorem told_zero {p : Prg} {f : Int × Int} (h : Told p f) (h0 : f.1 = 0) : f.2 = 0 := by
  rcases h with ⟨_, rfl⟩ | ⟨_, l, _, rfl⟩
  · exact absurd h0 (by decide)
  · exact scan_zero p.cl 0 h0

set_option maxHeartbeats 4000000 in
theorem walk (p : Prg) (l : Loc) (w : World) (hp : PIn w p l) (hf : p.Fit) :
    Calls Try.prog 3 #[.agg #[.slice l.ra p.rl l.rc, .slice l.ca p.cl l.cc]] w fun e w' => e = .returned (.bool true) ∧ More w w' := by
  suffices hP : ∀ P : Ending → World → Prop, (∀ w', More w w' → P (.returned (.bool true)) w') → Calls Try.prog 3 #[.agg #[.slice l.ra p.rl l.rc, .slice l.ca p.cl l.cc]] w P from hP _ (fun w' m => ⟨rfl, m⟩)
  intro P hP0
  have HP : Hid (∀ w', More w w' → P (.returned (.bool true)) w') := hP0
  have C1 : Hid (∀ w1 : World, More w w1 → Calls Try.prog 5 #[.agg #[.slice l.ra p.rl l.rc, .slice l.ca p.cl l.cc]] w1 (LoadAns p w1)) := fun w1 m1 => load_calls p l w1 (hp.more m1) hf
  have C2 : Hid (∀ w1 : World, More w w1 → Calls Try.prog 6 #[.agg #[.slice l.ra p.rl l.rc, .slice l.ca p.cl l.cc]] w1 fun e w' => ∃ f : Int × Int, Told p f ∧ e = .returned (.agg #[.int .i64 f.1, .int .i64 f.2]) ∧ More w1 w') := fun w1 m1 => check6_told p l w1 (hp.more m1) hf
  have CH : Hid (∀ f : Int × Int, Told p f → f.1 = 0 → ∀ (g c : Nat) (w1 : World), More w w1 → WordsAt w1 g 0 (fitP (hardP p)).cl (fun j => encW ((fitP (hardP p)).ins j)) →
      Calls Try.prog 7 #[.agg #[.slice l.ra p.rl l.rc, .slice l.ca p.cl l.cc], .slice (some ⟨g, 0, none⟩) (fitP (hardP p)).cl c] w1 fun e w' => ∃ lq : Loc, e = .returned (.tuple #[.agg #[.slice lq.ra p.rl lq.rc, .slice lq.ca (fitP (hardP p)).cl lq.cc], .bool true]) ∧ More w1 w') := fun f hT h0 g c w1 m1 hw => by
    obtain ⟨ok, lk, hk, hc⟩ := hT.ok h0
    refine (lded_of hf ok l w1 (hp.more m1) g c hw).mono ?_
    rintro e w' ⟨lq, h1, h2, h3⟩
    exact ⟨lq, h2, h3⟩
  have HL : Hid (∀ f : Int × Int, Told p f → f.1 = 0 → p.cl ≤ 200 ∧ (fitP (hardP p)).cl ≤ 30 * p.cl) := fun f hT h0 => ⟨(hT.ok h0).1.2.2.1, by have := stF_most (p := p) p.cl (Nat.le_refl _); show stF p p.cl ≤ _; omega⟩
  clear hP0 hp hf
  obtain ⟨ra, Hra⟩ : ∃ x, Hid (l.ra = x) := ⟨_, rfl⟩
  obtain ⟨rl, Hrl⟩ : ∃ x, Hid (p.rl = x) := ⟨_, rfl⟩
  obtain ⟨rc, Hrc⟩ : ∃ x, Hid (l.rc = x) := ⟨_, rfl⟩
  obtain ⟨ca, Hca⟩ : ∃ x, Hid (l.ca = x) := ⟨_, rfl⟩
  obtain ⟨cc, Hcc⟩ : ∃ x, Hid (l.cc = x) := ⟨_, rfl⟩
  obtain ⟨cl, Hcl⟩ : ∃ x, Hid (p.cl = x) := ⟨_, rfl⟩
  rw [Hra.out, Hrl.out, Hrc.out, Hca.out, Hcl.out, Hcc.out] at C1 C2 CH ⊢
  rw [Hcl.out] at HL
  go_enter Try.func3, Try.ntmps3
  go_wp2_with (fail)
  refine (C1.out _ ((More.refl _).alloc _ _)).mono ?_
  rintro e w1 ⟨f, hT, m1, hA | hB⟩
  · obtain ⟨h0, g, c, rfl, hw⟩ := hA
    have CH1 := CH.out f hT h0 g c
    have hl := HL.out f hT h0
    have HT : Hid (∀ g, Told p g → g = (0, 0)) := fun g hg => by
      have h1 : g = f := hg.one hT
      have h2 := told_zero hT h0
      rw [h1]
      exact Prod.ext h0 h2
    obtain ⟨sn, Hsn⟩ : ∃ x, Hid ((fitP (hardP p)).cl = x) := ⟨_, rfl⟩
    rw [Hsn.out] at CH1 hl hw ⊢
    have CH2 : Hid (∀ w1 : World, More w w1 → WordsAt w1 g 0 sn (fun j => encW ((fitP (hardP p)).ins j)) → Calls Try.prog 7 #[.agg #[.slice ra rl rc, .slice ca cl cc], .slice (some ⟨g, 0, none⟩) sn c] w1 fun e w' => ∃ lq : Loc, e = .returned (.tuple #[.agg #[.slice lq.ra rl lq.rc, .slice lq.ca sn lq.cc], .bool true]) ∧ More w1 w') := CH1
    have Hm1 : Hid (More w w1) := ((More.refl _).alloc _ _).trans m1
    have Hp1 : Hid (Blk w1 w.heap.size #[.slice ra rl rc, .slice ca cl cc] 25) := (Blk.last _ _ _).more m1
    have Hw1 : Hid (WordsAt w1 g 0 sn (fun j => encW ((fitP (hardP p)).ins j))) := hw
    clear m1 hw CH HL C1 hT h0 CH1
    obtain ⟨w2, Hw2⟩ : ∃ w_ : World, Hid (w_ = w1.alloc (.cells #[.int .i64 0, .int .i64 0] 29)) := ⟨_, rfl⟩
    have Hm2 : Hid (More w1 w2) := by rw [Hw2.out]; exact (More.refl _).alloc _ _
    have Hf2 : Hid (Blk w2 w1.heap.size #[.int .i64 0, .int .i64 0] 29) := by rw [Hw2.out]; exact Blk.last _ _ _
    have c0 : w1.cell? ⟨w.heap.size, 0, none⟩ = some (.slice ra rl rc) := Hp1.out.cell rfl
    have c1 : w1.cell? ⟨w.heap.size, 1, none⟩ = some (.slice ca cl cc) := Hp1.out.cell rfl
    have z1 := Hp1.out.lt
    go_wp2_with (fail)
    rw [← Hw2.out]
    refine (C2.out w2 (Hm1.out.trans Hm2.out)).mono ?_
    rintro e w3 ⟨g3, hg, rfl, m3⟩
    obtain rfl := HT.out g3 hg
    dsimp only
    have Hm3 : Hid (More w1 w3) := Hm2.out.trans m3
    have Hf3 : Hid (Blk w3 w1.heap.size #[.int .i64 0, .int .i64 0] 29) := Hf2.out.more m3
    have Hp3 : Hid (Blk w3 w.heap.size #[.slice ra rl rc, .slice ca cl cc] 25) := Hp1.out.more Hm3.out
    clear m3 hg c0 c1 z1 C2
    obtain ⟨w4, Hw4⟩ : ∃ w_ : World, Hid (w_ = w3.alloc (.cells #[.int .i64 0, .int .i64 0] 29)) := ⟨_, rfl⟩
    have Hm4 : Hid (More w3 w4) := by rw [Hw4.out]; exact (More.refl _).alloc _ _
    have Hg4 : Hid (Blk w4 w3.heap.size #[.int .i64 0, .int .i64 0] 29) := by rw [Hw4.out]; exact Blk.last _ _ _
    have c0 : w3.cell? ⟨w.heap.size, 0, none⟩ = some (.slice ra rl rc) := Hp3.out.cell rfl
    have c1 : w3.cell? ⟨w.heap.size, 1, none⟩ = some (.slice ca cl cc) := Hp3.out.cell rfl
    have z1 := Hp3.out.lt
    have z3 := Hf3.out.lt
    go_wp2_with (fail)
    rw [← Hw4.out]
    refine (CH2.out w4 (Hm1.out.trans (Hm3.out.trans Hm4.out)) (fun i hi => (Hm3.out.trans Hm4.out).cell (Hw1.out i hi))).mono ?_
    rintro e w5 ⟨lq, rfl, m5⟩
    obtain ⟨ra', Hra'⟩ : ∃ x, Hid (lq.ra = x) := ⟨_, rfl⟩
    obtain ⟨rc', Hrc'⟩ : ∃ x, Hid (lq.rc = x) := ⟨_, rfl⟩
    obtain ⟨ca', Hca'⟩ : ∃ x, Hid (lq.ca = x) := ⟨_, rfl⟩
    obtain ⟨cc', Hcc'⟩ : ∃ x, Hid (lq.cc = x) := ⟨_, rfl⟩
    rw [Hra'.out, Hrc'.out, Hca'.out, Hcc'.out]
    have Hm5 : Hid (More w3 w5) := Hm4.out.trans m5
    have Hend : Hid (∀ w6, More w5 w6 → P (.returned (.bool true)) w6) := fun w6 m6 => HP.out _ (Hm1.out.trans (Hm3.out.trans (Hm5.out.trans m6)))
    have Hp5 : Hid (Blk w5 w.heap.size #[.slice ra rl rc, .slice ca cl cc] 25) := Hp3.out.more Hm5.out
    have Hf5 : Hid (Blk w5 w1.heap.size #[.int .i64 0, .int .i64 0] 29) := Hf3.out.more Hm5.out
    have Hg5 : Hid (Blk w5 w3.heap.size #[.int .i64 0, .int .i64 0] 29) := Hg4.out.more m5
    clear m5 c0 c1 z1 z3
    have c0 : w5.cell? ⟨w.heap.size, 1, none⟩ = some (.slice ca cl cc) := Hp5.out.cell rfl
    have f0 : w5.cell? ⟨w1.heap.size, 0, none⟩ = some (.int .i64 0) := Hf5.out.cell rfl
    have f1 : w5.cell? ⟨w1.heap.size, 1, none⟩ = some (.int .i64 0) := Hf5.out.cell rfl
    have g0 : w5.cell? ⟨w3.heap.size, 0, none⟩ = some (.int .i64 0) := Hg5.out.cell rfl
    have g1 : w5.cell? ⟨w3.heap.size, 1, none⟩ = some (.int .i64 0) := Hg5.out.cell rfl
    have y0 := Hp5.out.lt
    have y1 := Hf5.out.lt
    have y2 := Hg5.out.lt
    have hw : wrap64 (30 * (cl : Int)) = 30 * (cl : Int) := by have := hl.1; unfold wrap64; omega
    have hd : decide ((sn : Int) ≤ 30 * (cl : Int)) = true := by have := hl.2; simp; omega
    go_wp2
    exact Hend.out _ ((More.refl _).alloc _ _)
  · obtain ⟨h0, rfl⟩ := hB
    obtain ⟨f1, f2⟩ := f
    dsimp only at h0 ⊢
    have e0 : (f1 == 0) = false := by simp [h0]
    have e1 : (f1 != 0) = true := by simp [h0]
    have HT : Hid (∀ g, Told p g → g = (f1, f2)) := fun g hg => hg.one hT
    have Hm1 : Hid (More w w1) := ((More.refl _).alloc _ _).trans m1
    have Hp1 : Hid (Blk w1 w.heap.size #[.slice ra rl rc, .slice ca cl cc] 25) := (Blk.last _ _ _).more m1
    clear m1 CH HL C1 hT h0
    obtain ⟨w2, Hw2⟩ : ∃ w_ : World, Hid (w_ = w1.alloc (.cells #[.int .i64 f1, .int .i64 f2] 29)) := ⟨_, rfl⟩
    have Hm2 : Hid (More w1 w2) := by rw [Hw2.out]; exact (More.refl _).alloc _ _
    have Hf2 : Hid (Blk w2 w1.heap.size #[.int .i64 f1, .int .i64 f2] 29) := by rw [Hw2.out]; exact Blk.last _ _ _
    have c0 : w1.cell? ⟨w.heap.size, 0, none⟩ = some (.slice ra rl rc) := Hp1.out.cell rfl
    have c1 : w1.cell? ⟨w.heap.size, 1, none⟩ = some (.slice ca cl cc) := Hp1.out.cell rfl
    have z1 := Hp1.out.lt
    go_wp2_with (fail)
    rw [← Hw2.out]
    refine (C2.out w2 (Hm1.out.trans Hm2.out)).mono ?_
    rintro e w3 ⟨g, hg, rfl, m3⟩
    obtain rfl := HT.out g hg
    dsimp only
    have Hm3 : Hid (More w1 w3) := Hm2.out.trans m3
    have Hf3 : Hid (Blk w3 w1.heap.size #[.int .i64 f1, .int .i64 f2] 29) := Hf2.out.more m3
    have Hend : Hid (∀ w6, More w3 w6 → P (.returned (.bool true)) w6) := fun w6 m6 => HP.out _ (Hm1.out.trans (Hm3.out.trans m6))
    clear m3 hg c0 c1 z1 C2
    have u0 : w3.cell? ⟨w1.heap.size, 0, none⟩ = some (.int .i64 f1) := Hf3.out.cell rfl
    have u1 : w3.cell? ⟨w1.heap.size, 1, none⟩ = some (.int .i64 f2) := Hf3.out.cell rfl
    have z3 := Hf3.out.lt
    go_wp2
    exact Hend.out _ ((More.refl _).alloc _ _)
/-! ### THE ROW's STEP -/
set_option maxRecDepth 100000 in
theorem lifted (os : Os) (started : os.Started) (H : Type) (enc : TypeId × Value → H) :
    ReturnsInHanded {} Try.checked os 3 .any (Rows.loadMakesSpec.pre6 enc Try.prog Try.f3 Rows.loadMakesRow.domain false) (Rows.loadMakesSpec.post enc Try.prog Try.f3 false true false false) := by
  refine returnsInHanded_of_change (C := Try.checked) own started (by kernel_rfl) Try.func3
    (ChangeSpec.witness6 (enc := enc) (C := Try.checked) false ⟨#[], #[.agg #[.slice none 0 0, .slice none 0 0]], []⟩ 8 (by kernel_rfl) (by kernel_rfl) (by kernel_rfl) (by kernel_rfl)) ?_
  intro W base args ds gs before hval0 hW hcnd _
  have hval : ∀ (j : Nat) t v, Try.f3.params[j]? = some t → args[j]? = some v → Value.okWide Try.prog W .any base t v := hval0
  have hW' := hW
  obtain ⟨p, q, hA0, hV, rfl, hfz, hnd⟩ := hW
  have hA : DataW.TrodAll enc Try.prog W 0 (fun _ => true) true Try.f3.params.toList args.toList ds p := hA0
  rw [Try.params3] at hA hval
  obtain ⟨v0, vs0, d0, ds0, p0, q0, hargs, rfl, rfl, h0, r0⟩ := trodAll_cons hA
  obtain ⟨rfl, rfl, rfl⟩ := trodAll_nil r0
  obtain rfl : args = #[v0] := by cases args; simp_all
  obtain ⟨rfl, rfl⟩ := trodVars_none hV
  have lt0 : ∀ x ∈ p0, x.block < W.heap.size := by obtain ⟨m, hm⟩ := h0; exact DataW.trod_lt m _ _ _ hm
  obtain ⟨P0, l0, rfl, hin0, hfit0⟩ := open_prog (hval 0 25 v0 rfl rfl) h0
  clear hA0 hval0
  refine (walk P0 l0 W hin0 hfit0).mono fun e W' ⟨he, bel⟩ => ?_
  subst he
  exact ⟨_, rfl, _, _, _, [], _, [], hW', trodAll_mk1 (shut_bool Try.underlying4 _), (trodAll_cons_mk (Below.trod laidOut (by kernel_rfl) (of_decide_eq_true (by kernel_rfl)) h0 bel lt0) trodAll_mk0), rfl, Below.frame bel _, fun h => by cases h⟩

theorem over : Rows.loadMakesRow.holds Try.pinned (OpenSpec.ofChange Rows.loadMakesSpec) :=
  OpenClaim.holds_of_wide 3 Try.f3 rfl rfl rfl rfl rfl rfl rfl ⟨rfl, rfl, rfl, rfl, rfl⟩ rfl rfl rfl rfl rfl (by kernel_rfl) Try.func3 (by kernel_rfl)
    (of_decide_eq_true (by kernel_rfl)) (by unfold Func.isWrapper; first | (rw [if_pos (by decide +kernel)]; kernel_rfl) | (rw [if_neg (by decide +kernel)]; exact ⟨rfl, rfl⟩))
    (fun os started H enc _ => lifted os started H enc)

end loadMakes

/-- The given statement. -/
theorem loadMakes_holds : Rows.LoadMakesSaid :=
  loadMakes.over
#print axioms loadMakes_holds
end Go.Proofs.Ytlbfbjeilfcjeaa
