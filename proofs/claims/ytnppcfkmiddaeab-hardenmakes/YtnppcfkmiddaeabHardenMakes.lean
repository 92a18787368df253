/-
  Proved: for every program, such as may not be among them, HardenMakes returns true (Make tells the check's fault and no program, or makes one that is hard, with the same regions, of at most four instructions for each) and leaves its argument as it was; no conditions.
-/
import Derived.Test.YtnppcfkmiddaeabRows
import Derived.WalkKit
import Derived.ProofKit
import Derived.OpenShut
import Derived.Test.YtnppcfkmiddaeabJoined7
import Derived.Test.YtnppcfkmiddaeabJoined4
namespace Go.Proofs.Ytnppcfkmiddaeab
open Go.ChangeShapes Go.WideShapes Go.ChangeAt Go.RowKit Go.Deep
set_option linter.unusedVariables false
set_option linter.unusedSimpArgs false
set_option maxRecDepth 8000

namespace hardenMakes

theorem own : ownKnob Try.prog.godebug = none := by kernel_rfl
theorem laidOut : laidOutB Try.prog = true := by kernel_rfl

theorem scan_zero {p : Prg} {l : KV} : ∀ n at_, (scanK p l n at_).1 = 0 → (scanK p l n at_).2 = 0
  | 0, at_, _ => rfl
  | n + 1, at_, h => by
    rw [scanK] at h ⊢
    cases e : l at_ with
    | none => rw [e] at h; exact scan_zero n (at_ + 1) h
    | some s =>
      rw [e] at h
      dsimp only at h ⊢
      by_cases h0 : faultK p at_ s = 0
      · rw [if_pos h0] at h ⊢; exact scan_zero n (at_ + 1) h
      · rw [if_neg h0] at h; exact absurd h h0
theorem told_zero {p : Prg} {f : Int × Int} (h : Told p f) (h0 : f.1 = 0) : f.2 = 0 := by
  rcases h with ⟨_, rfl⟩ | ⟨_, l, _, rfl⟩
  · exact absurd h0 (by decide)
  · exact scan_zero p.cl 0 h0

set_option maxHeartbeats 4000000 in
theorem walk (p : Prg) (l : Loc) (w : World) (hp : PIn w p l) (hf : p.Fit) :
    Calls Try.prog 7 #[.agg #[.slice l.ra p.rl l.rc, .slice l.ca p.cl l.cc]] w fun e w' => e = .returned (.bool true) ∧ More w w' := by
  suffices hP : ∀ P : Ending → World → Prop, (∀ w', More w w' → P (.returned (.bool true)) w') → Calls Try.prog 7 #[.agg #[.slice l.ra p.rl l.rc, .slice l.ca p.cl l.cc]] w P from hP _ (fun w' m => ⟨rfl, m⟩)
  intro P hP0
  have HP : Hid (∀ w', More w w' → P (.returned (.bool true)) w') := hP0
  have C1 : Hid (∀ w1 : World, More w w1 → Calls Try.prog 21 #[.agg #[.slice l.ra p.rl l.rc, .slice l.ca p.cl l.cc]] w1 (Made p w1)) := fun w1 m1 => make_calls p l w1 (hp.more m1) hf
  have C2 : Hid (∀ w1 : World, More w w1 → Calls Try.prog 14 #[.agg #[.slice l.ra p.rl l.rc, .slice l.ca p.cl l.cc]] w1 fun e w' => ∃ f : Int × Int, Told p f ∧ e = .returned (.agg #[.int .i64 f.1, .int .i64 f.2]) ∧ More w1 w') := fun w1 m1 => check6_told p l w1 (hp.more m1) hf
  have CH : Hid (∀ f : Int × Int, Told p f → f.1 = 0 → ∀ (lh : Loc) (w1 : World), More w w1 → PIn w1 (hardP p) lh →
      (Calls Try.prog 23 #[.agg #[.slice lh.ra p.rl lh.rc, .slice lh.ca (startL p p.cl) lh.cc]] w1 fun e w' => e = .returned (.bool true) ∧ More w1 w') ∧
      (Calls Try.prog 24 #[.agg #[.slice l.ra p.rl l.rc, .slice l.ca p.cl l.cc], .agg #[.slice lh.ra p.rl lh.rc, .slice lh.ca (startL p p.cl) lh.cc]] w1 fun e w' => e = .returned (.bool true) ∧ More w1 w')) := fun f hT h0 lh w1 m1 hin => by
    obtain ⟨ok, lk, hk, hc⟩ := hT.ok h0
    have k := hardOf_like hf (h := hardP p) ⟨ok, ⟨lk, hk, hc⟩, rfl⟩
    exact ⟨hard_true (hardP p) lh w1 hin k.ok, regions_true p (hardP p) l lh w1 (hp.more m1) hin k.rl k.reg (by have := ok.1.1; omega)⟩
  have C0 : Hid (∀ w1 : World, Calls Try.prog 22 #[.agg #[.slice none 0 0, .slice none 0 0], .agg #[.slice none 0 0, .slice none 0 0]] w1 fun e w' => e = .returned (.bool true) ∧ More w1 w') := fun w1 =>
    same8_true ⟨0, fun _ => 0, fun _ => false, 0, p.ins⟩ ⟨0, fun _ => 0, fun _ => false, 0, p.ins⟩ ⟨none, 0, 0, 0, none, 0, 0, 0⟩ ⟨none, 0, 0, 0, none, 0, 0, 0⟩ w1
      ⟨fun h => absurd h (Nat.lt_irrefl _), fun h => absurd h (Nat.lt_irrefl _), fun i hi => absurd hi (Nat.not_lt_zero _), fun i hi => absurd hi (Nat.not_lt_zero _)⟩
      ⟨fun h => absurd h (Nat.lt_irrefl _), fun h => absurd h (Nat.lt_irrefl _), fun i hi => absurd hi (Nat.not_lt_zero _), fun i hi => absurd hi (Nat.not_lt_zero _)⟩
      ⟨rfl, fun i hi => absurd hi (Nat.not_lt_zero _), rfl, fun i hi => absurd hi (Nat.not_lt_zero _)⟩ (by show 0 < 4611686018427387904; decide) (by show 0 < 4611686018427387904; decide)
  have HL : Hid (∀ f : Int × Int, Told p f → f.1 = 0 → p.cl ≤ 200 ∧ startL p p.cl ≤ 4 * p.cl) := fun f hT h0 => ⟨(hT.ok h0).1.2.2.1, by have := startL_most p p.cl; omega⟩
  clear hP0 hp hf
  obtain ⟨ra, Hra⟩ : ∃ x, Hid (l.ra = x) := ⟨_, rfl⟩
  obtain ⟨rl, Hrl⟩ : ∃ x, Hid (p.rl = x) := ⟨_, rfl⟩
  obtain ⟨rc, Hrc⟩ : ∃ x, Hid (l.rc = x) := ⟨_, rfl⟩
  obtain ⟨ca, Hca⟩ : ∃ x, Hid (l.ca = x) := ⟨_, rfl⟩
  obtain ⟨cc, Hcc⟩ : ∃ x, Hid (l.cc = x) := ⟨_, rfl⟩
  obtain ⟨sn, Hsn⟩ : ∃ x, Hid (startL p p.cl = x) := ⟨_, rfl⟩
  rw [Hsn.out] at CH HL
  obtain ⟨cl, Hcl⟩ : ∃ x, Hid (p.cl = x) := ⟨_, rfl⟩
  rw [Hra.out, Hrl.out, Hrc.out, Hca.out, Hcl.out, Hcc.out] at C1 C2 CH ⊢
  rw [Hcl.out] at HL
  go_enter Try.func7, Try.ntmps7
  go_wp2_with (fail)
  refine (C1.out _ ((More.refl _).alloc _ _)).mono ?_
  rintro e w1 ⟨f, hT, m1, hA | hB⟩
  · obtain ⟨h0, lh, hin, rfl⟩ := hA
    unfold prgV hardP
    dsimp only
    have CH1 : Hid (∀ w1 : World, More w w1 → PIn w1 (hardP p) lh → _) := CH.out f hT h0 lh
    have hl := HL.out f hT h0
    have HT : Hid (∀ g, Told p g → g = (0, 0)) := fun g hg => by
      have h1 : g = f := hg.one hT
      have h2 := told_zero hT h0
      rw [h1]
      exact Prod.ext h0 h2
    have Hm1 : Hid (More w w1) := ((More.refl _).alloc _ _).trans m1
    have Hp1 : Hid (Blk w1 w.heap.size #[.slice ra rl rc, .slice ca cl cc] 30) := (Blk.last _ _ _).more m1
    have Hin1 : Hid (PIn w1 (hardP p) lh) := hin
    clear m1 hin CH HL C1 hT h0 C0
    rw [Hrl.out, Hsn.out]
    obtain ⟨ra', Hra'⟩ : ∃ x, Hid (lh.ra = x) := ⟨_, rfl⟩
    obtain ⟨rc', Hrc'⟩ : ∃ x, Hid (lh.rc = x) := ⟨_, rfl⟩
    obtain ⟨ca', Hca'⟩ : ∃ x, Hid (lh.ca = x) := ⟨_, rfl⟩
    obtain ⟨cc', Hcc'⟩ : ∃ x, Hid (lh.cc = x) := ⟨_, rfl⟩
    rw [Hra'.out, Hrc'.out, Hca'.out, Hcc'.out] at CH1 ⊢
    obtain ⟨w2, Hw2⟩ : ∃ w_ : World, Hid (w_ = (w1.alloc (.cells #[.slice ra' rl rc', .slice ca' sn cc'] 30)).alloc (.cells #[.int .i64 0, .int .i64 0] 33)) := ⟨_, rfl⟩
    have Hm2 : Hid (More w1 w2) := by rw [Hw2.out]; exact ((More.refl _).alloc _ _).alloc _ _
    have Hb2 : Hid (Blk w2 w1.heap.size #[.slice ra' rl rc', .slice ca' sn cc'] 30) := by rw [Hw2.out]; exact (Blk.last _ _ _).alloc _ _
    have Hf2 : Hid (Blk w2 (w1.heap.size + 1) #[.int .i64 0, .int .i64 0] 33) := by rw [Hw2.out]; show Blk _ _ _ _; simpa using Blk.last (w1.alloc (.cells #[.slice ra' rl rc', .slice ca' sn cc'] 30)) #[.int .i64 0, .int .i64 0] 33
    have c0 : w1.cell? ⟨w.heap.size, 0, none⟩ = some (.slice ra rl rc) := Hp1.out.cell rfl
    have c1 : w1.cell? ⟨w.heap.size, 1, none⟩ = some (.slice ca cl cc) := Hp1.out.cell rfl
    have z1 := Hp1.out.lt
    go_wp2_with (fail)
    rw [← Hw2.out]
    refine (C2.out w2 (Hm1.out.trans Hm2.out)).mono ?_
    rintro e w3 ⟨g, hg, rfl, m3⟩
    obtain rfl := HT.out g hg
    dsimp only
    have Hm3 : Hid (More w1 w3) := Hm2.out.trans m3
    have Hb3 : Hid (Blk w3 w1.heap.size #[.slice ra' rl rc', .slice ca' sn cc'] 30) := Hb2.out.more m3
    have Hf3 : Hid (Blk w3 (w1.heap.size + 1) #[.int .i64 0, .int .i64 0] 33) := Hf2.out.more m3
    have Hp3 : Hid (Blk w3 w.heap.size #[.slice ra rl rc, .slice ca cl cc] 30) := Hp1.out.more Hm3.out
    clear m3 hg c0 c1 z1 C2
    obtain ⟨w4, Hw4⟩ : ∃ w_ : World, Hid (w_ = w3.alloc (.cells #[.int .i64 0, .int .i64 0] 33)) := ⟨_, rfl⟩
    have Hm4 : Hid (More w3 w4) := by rw [Hw4.out]; exact (More.refl _).alloc _ _
    have f0 : w3.cell? ⟨w1.heap.size + 1, 0, none⟩ = some (.int .i64 0) := Hf3.out.cell rfl
    have f1 : w3.cell? ⟨w1.heap.size + 1, 1, none⟩ = some (.int .i64 0) := Hf3.out.cell rfl
    have b0 : w3.cell? ⟨w1.heap.size, 0, none⟩ = some (.slice ra' rl rc') := Hb3.out.cell rfl
    have b1 : w3.cell? ⟨w1.heap.size, 1, none⟩ = some (.slice ca' sn cc') := Hb3.out.cell rfl
    have c0 : w3.cell? ⟨w.heap.size, 0, none⟩ = some (.slice ra rl rc) := Hp3.out.cell rfl
    have c1 : w3.cell? ⟨w.heap.size, 1, none⟩ = some (.slice ca cl cc) := Hp3.out.cell rfl
    have z1 := Hp3.out.lt
    have z2 := Hb3.out.lt
    have z3 := Hf3.out.lt
    go_wp2_with (fail)
    rw [← Hw4.out]
    refine (CH1.out w4 (Hm1.out.trans (Hm3.out.trans Hm4.out)) (Hin1.out.more (Hm3.out.trans Hm4.out))).1.mono ?_
    rintro e w5 ⟨rfl, m5⟩
    have Hm5 : Hid (More w3 w5) := Hm4.out.trans m5
    have Hb5 : Hid (Blk w5 w1.heap.size #[.slice ra' rl rc', .slice ca' sn cc'] 30) := Hb3.out.more Hm5.out
    have Hp5 : Hid (Blk w5 w.heap.size #[.slice ra rl rc, .slice ca cl cc] 30) := Hp3.out.more Hm5.out
    clear m5 f0 f1 b0 b1 c0 c1 z1 z2 z3
    have b0 : w5.cell? ⟨w1.heap.size, 0, none⟩ = some (.slice ra' rl rc') := Hb5.out.cell rfl
    have b1 : w5.cell? ⟨w1.heap.size, 1, none⟩ = some (.slice ca' sn cc') := Hb5.out.cell rfl
    have c0 : w5.cell? ⟨w.heap.size, 0, none⟩ = some (.slice ra rl rc) := Hp5.out.cell rfl
    have c1 : w5.cell? ⟨w.heap.size, 1, none⟩ = some (.slice ca cl cc) := Hp5.out.cell rfl
    go_wp2_with (fail)
    refine (CH1.out w5 (Hm1.out.trans (Hm3.out.trans Hm5.out)) (Hin1.out.more (Hm3.out.trans Hm5.out))).2.mono ?_
    rintro e w6 ⟨rfl, m6⟩
    have Hend : Hid (P (.returned (.bool true)) w6) := HP.out _ (Hm1.out.trans (Hm3.out.trans (Hm5.out.trans m6)))
    have Hb6 : Hid (Blk w6 w1.heap.size #[.slice ra' rl rc', .slice ca' sn cc'] 30) := Hb5.out.more m6
    have Hp6 : Hid (Blk w6 w.heap.size #[.slice ra rl rc, .slice ca cl cc] 30) := Hp5.out.more m6
    clear m6 b0 b1 c0 c1
    have b1 : w6.cell? ⟨w1.heap.size, 1, none⟩ = some (.slice ca' sn cc') := Hb6.out.cell rfl
    have c1 : w6.cell? ⟨w.heap.size, 1, none⟩ = some (.slice ca cl cc) := Hp6.out.cell rfl
    have hw : wrap64 (4 * (cl : Int)) = 4 * (cl : Int) := by have := hl.1; unfold wrap64; omega
    have hd : decide ((sn : Int) ≤ 4 * (cl : Int)) = true := by have := hl.2; simp; omega
    go_wp2
    exact Hend.out
  · obtain ⟨h0, rfl⟩ := hB
    obtain ⟨f1, f2⟩ := f
    dsimp only at h0 ⊢
    have e0 : (f1 == 0) = false := by simp [h0]
    have e1 : (f1 != 0) = true := by simp [h0]
    have HT : Hid (∀ g, Told p g → g = (f1, f2)) := fun g hg => hg.one hT
    have Hm1 : Hid (More w w1) := ((More.refl _).alloc _ _).trans m1
    have Hp1 : Hid (Blk w1 w.heap.size #[.slice ra rl rc, .slice ca cl cc] 30) := (Blk.last _ _ _).more m1
    clear m1 CH HL C1 hT h0
    obtain ⟨w2, Hw2⟩ : ∃ w_ : World, Hid (w_ = (w1.alloc (.cells #[.slice none 0 0, .slice none 0 0] 30)).alloc (.cells #[.int .i64 f1, .int .i64 f2] 33)) := ⟨_, rfl⟩
    have Hm2 : Hid (More w1 w2) := by rw [Hw2.out]; exact ((More.refl _).alloc _ _).alloc _ _
    have Hb2 : Hid (Blk w2 w1.heap.size #[.slice none 0 0, .slice none 0 0] 30) := by rw [Hw2.out]; exact (Blk.last _ _ _).alloc _ _
    have Hf2 : Hid (Blk w2 (w1.heap.size + 1) #[.int .i64 f1, .int .i64 f2] 33) := by rw [Hw2.out]; show Blk _ _ _ _; simpa using Blk.last (w1.alloc (.cells #[.slice none 0 0, .slice none 0 0] 30)) #[.int .i64 f1, .int .i64 f2] 33
    have c0 : w1.cell? ⟨w.heap.size, 0, none⟩ = some (.slice ra rl rc) := Hp1.out.cell rfl
    have c1 : w1.cell? ⟨w.heap.size, 1, none⟩ = some (.slice ca cl cc) := Hp1.out.cell rfl
    have z1 := Hp1.out.lt
    go_wp2_with (fail)
    rw [← Hw2.out]
    refine (C2.out w2 (Hm1.out.trans Hm2.out)).mono ?_
    rintro e w3 ⟨g, hg, rfl, m3⟩
    obtain rfl := HT.out g hg
    dsimp only
    have Hm3 : Hid (More w1 w3) := Hm2.out.trans m3
    have Hb3 : Hid (Blk w3 w1.heap.size #[.slice none 0 0, .slice none 0 0] 30) := Hb2.out.more m3
    have Hf3 : Hid (Blk w3 (w1.heap.size + 1) #[.int .i64 f1, .int .i64 f2] 33) := Hf2.out.more m3
    clear m3 hg c0 c1 z1 C2
    obtain ⟨w4, Hw4⟩ : ∃ w_ : World, Hid (w_ = w3.alloc (.cells #[.int .i64 f1, .int .i64 f2] 33)) := ⟨_, rfl⟩
    have Hm4 : Hid (More w3 w4) := by rw [Hw4.out]; exact (More.refl _).alloc _ _
    have u0 : w3.cell? ⟨w1.heap.size + 1, 0, none⟩ = some (.int .i64 f1) := Hf3.out.cell rfl
    have u1 : w3.cell? ⟨w1.heap.size + 1, 1, none⟩ = some (.int .i64 f2) := Hf3.out.cell rfl
    have b0 : w3.cell? ⟨w1.heap.size, 0, none⟩ = some (.slice none 0 0) := Hb3.out.cell rfl
    have b1 : w3.cell? ⟨w1.heap.size, 1, none⟩ = some (.slice none 0 0) := Hb3.out.cell rfl
    have z2 := Hb3.out.lt
    have z3 := Hf3.out.lt
    go_wp2_with (fail)
    rw [← Hw4.out]
    refine (C0.out w4).mono ?_
    rintro e w5 ⟨rfl, m5⟩
    have Hend : Hid (P (.returned (.bool true)) w5) := HP.out _ (Hm1.out.trans (Hm3.out.trans (Hm4.out.trans m5)))
    clear m5 u0 u1 b0 b1 z2 z3
    go_wp2
    exact Hend.out

/-! ### THE ROW's STEP -/
set_option maxRecDepth 100000 in
theorem lifted (os : Os) (started : os.Started) (H : Type) (enc : TypeId × Value → H) :
    ReturnsInHanded {} Try.checked os 7 .any (Rows.hardenMakesSpec.pre6 enc Try.prog Try.f7 Rows.hardenMakesRow.domain false) (Rows.hardenMakesSpec.post enc Try.prog Try.f7 false true false false) := by
  refine returnsInHanded_of_change (C := Try.checked) own started (by kernel_rfl) Try.func7
    (ChangeSpec.witness6 (enc := enc) (C := Try.checked) false ⟨#[], #[.agg #[.slice none 0 0, .slice none 0 0]], []⟩ 8 (by kernel_rfl) (by kernel_rfl) (by kernel_rfl) (by kernel_rfl)) ?_
  intro W base args ds gs before hval0 hW hcnd _
  have hval : ∀ (j : Nat) t v, Try.f7.params[j]? = some t → args[j]? = some v → Value.okWide Try.prog W .any base t v := hval0
  have hW' := hW
  obtain ⟨p, q, hA0, hV, rfl, hfz, hnd⟩ := hW
  have hA : DataW.TrodAll enc Try.prog W 0 (fun _ => true) true Try.f7.params.toList args.toList ds p := hA0
  rw [Try.params7] at hA hval
  obtain ⟨v0, vs0, d0, ds0, p0, q0, hargs, rfl, rfl, h0, r0⟩ := trodAll_cons hA
  obtain ⟨rfl, rfl, rfl⟩ := trodAll_nil r0
  obtain rfl : args = #[v0] := by cases args; simp_all
  obtain ⟨rfl, rfl⟩ := trodVars_none hV
  have lt0 : ∀ x ∈ p0, x.block < W.heap.size := by obtain ⟨m, hm⟩ := h0; exact DataW.trod_lt m _ _ _ hm
  obtain ⟨P0, l0, rfl, hin0, hfit0⟩ := open_prog (hval 0 30 v0 rfl rfl) h0
  clear hA0 hval0
  refine (walk P0 l0 W hin0 hfit0).mono fun e W' ⟨he, bel⟩ => ?_
  subst he
  exact ⟨_, rfl, _, _, _, [], _, [], hW', trodAll_mk1 (shut_bool Try.underlying4 _), (trodAll_cons_mk (Below.trod laidOut (by kernel_rfl) (of_decide_eq_true (by kernel_rfl)) h0 bel lt0) trodAll_mk0), rfl, Below.frame bel _, fun h => by cases h⟩

theorem over : Rows.hardenMakesRow.holds Try.pinned (OpenSpec.ofChange Rows.hardenMakesSpec) :=
  OpenClaim.holds_of_wide 7 Try.f7 rfl rfl rfl rfl rfl rfl rfl ⟨rfl, rfl, rfl, rfl, rfl⟩ rfl rfl rfl rfl rfl (by kernel_rfl) Try.func7 (by kernel_rfl)
    (of_decide_eq_true (by kernel_rfl)) (by unfold Func.isWrapper; first | (rw [if_pos (by decide +kernel)]; kernel_rfl) | (rw [if_neg (by decide +kernel)]; exact ⟨rfl, rfl⟩))
    (fun os started H enc _ => lifted os started H enc)

end hardenMakes

/-- The given statement. -/
theorem hardenMakes_holds : Rows.HardenMakesSaid :=
  hardenMakes.over
#print axioms hardenMakes_holds
end Go.Proofs.Ytnppcfkmiddaeab
