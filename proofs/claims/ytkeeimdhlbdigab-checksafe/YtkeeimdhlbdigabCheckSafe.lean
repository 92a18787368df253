/-
  Proved: for every program, every memory and every fuel, CheckSafe returns true (of a program without fault and a memory that fits no run of up to 4000 steps ends by EndFault; the faults told are such as may be) and leaves its arguments as they were; no conditions.
-/
import Derived.Test.YtkeeimdhlbdigabRows
import Derived.WalkKit
import Derived.ProofKit
import Derived.OpenShut
import Derived.Test.YtkeeimdhlbdigabJoined9
namespace Go.Proofs.Ytkeeimdhlbdigab
open Go.ChangeShapes Go.WideShapes Go.ChangeAt Go.RowKit Go.Deep
set_option linter.unusedVariables false
set_option linter.unusedSimpArgs false
set_option maxRecDepth 8000

namespace checkSafe

theorem own : ownKnob Try.prog.godebug = none := by kernel_rfl
theorem laidOut : laidOutB Try.prog = true := by kernel_rfl

set_option maxHeartbeats 2000000 in
theorem walk (p : Prg) (l : Loc) (m : Mem) (ml : MLoc) (fuel : Int) (w : World) (hp : PIn w p l) (hf : p.Fit) (hm : MRaw w m ml) (hwd : ∀ j, j < m.ml → ∀ i, i < m.len j → B64 (m.wd j i)) :
    Calls Try.prog 5 #[.agg #[.slice l.ra p.rl l.rc, .slice l.ca p.cl l.cc], .slice ml.ma m.ml ml.mc, .int .i64 fuel] w fun e w' => e = .returned (.bool true) ∧ More w w' := by
  suffices hP : ∀ P : Ending → World → Prop, (∀ w', More w w' → P (.returned (.bool true)) w') → Calls Try.prog 5 #[.agg #[.slice l.ra p.rl l.rc, .slice l.ca p.cl l.cc], .slice ml.ma m.ml ml.mc, .int .i64 fuel] w P from hP _ (fun w' m => ⟨rfl, m⟩)
  intro P hP0
  have HP : Hid (∀ w', More w w' → P (.returned (.bool true)) w') := hP0
  have H : Hid (PIn w p l ∧ p.Fit ∧ MRaw w m ml ∧ ∀ j, j < m.ml → ∀ i, i < m.len j → B64 (m.wd j i)) := ⟨hp, hf, hm, hwd⟩
  clear hP0 hp hf hm hwd
  have C1 : Hid (∀ w1 : World, More w w1 → Calls Try.prog 12 #[.agg #[.slice l.ra p.rl l.rc, .slice l.ca p.cl l.cc]] w1 fun e w' => ∃ f : Int × Int, Told p f ∧ e = .returned (.agg #[.int .i64 f.1, .int .i64 f.2]) ∧ More w1 w') := fun w1 m1 => check_told p l w1 (H.out.1.more m1) H.out.2.1
  have CM : Hid (p.Ok 200 8 → ∀ w1 : World, More w w1 → Calls Try.prog 15 #[.agg #[.slice l.ra p.rl l.rc, .slice l.ca p.cl l.cc]] w1 fun e w' => e = .returned (.bool true) ∧ More w1 w') := fun hok w1 m1 => may_true p l w1 (H.out.1.more m1) hok
  have CF : Hid (∀ r : Bool, (r = true ↔ FitsOk p.rl p.log m.ml m.len) → ∀ w1 : World, More w w1 → Calls Try.prog 16 #[.agg #[.slice l.ra p.rl l.rc, .slice l.ca p.cl l.cc], .slice ml.ma m.ml ml.mc] w1 fun e w' => e = .returned (.bool r) ∧ More w1 w') := fun r hr w1 m1 => fits_says p l m ml w1 (H.out.1.more m1) (H.out.2.2.1.more m1) r hr
  have CP : Hid (p.Ok 200 8 → FitsOk p.rl p.log m.ml m.len → fuel ≤ 4000 → ∀ w1 : World, More w w1 → Calls Try.prog 17 #[.agg #[.slice l.ra p.rl l.rc, .slice l.ca p.cl l.cc], .slice ml.ma m.ml ml.mc, .int .i64 fuel] w1 fun e w' => ∃ v, e = .returned v ∧ ShownAt w' v (playI p m fuel.toNat) ∧ More w1 w') := fun hok hfit hfu w1 m1 => by
    obtain ⟨f1, f2, f3, f4⟩ := fits_in hok hfit
    exact ref_play_int p l m ml fuel w1 (H.out.1.more m1) ((H.out.2.2.1.more m1).in_ f2 f4) hok.hard H.out.2.1 f1 f3 H.out.2.2.2 (by omega)
  have HS : Hid (∀ lk, Known p lk → (checkK p lk).1 = 0 → p.Ok 200 8 → FitsOk p.rl p.log m.ml m.len → ¬ (playI p m fuel.toNat).fin = 2) := fun lk hk h0 hok hfit =>
    Good.safe ⟨hok, fun i hi => (H.out.2.1.ins i hi).2.2.2.2, hfit, hk, h0⟩ H.out.2.2.2 fuel.toNat
  clear H
  obtain ⟨ra, Hra⟩ : ∃ x, Hid (l.ra = x) := ⟨_, rfl⟩
  obtain ⟨rl, Hrl⟩ : ∃ x, Hid (p.rl = x) := ⟨_, rfl⟩
  obtain ⟨rc, Hrc⟩ : ∃ x, Hid (l.rc = x) := ⟨_, rfl⟩
  obtain ⟨ca, Hca⟩ : ∃ x, Hid (l.ca = x) := ⟨_, rfl⟩
  obtain ⟨cl, Hcl⟩ : ∃ x, Hid (p.cl = x) := ⟨_, rfl⟩
  obtain ⟨cc, Hcc⟩ : ∃ x, Hid (l.cc = x) := ⟨_, rfl⟩
  obtain ⟨ma, Hma⟩ : ∃ x, Hid (ml.ma = x) := ⟨_, rfl⟩
  obtain ⟨mn, Hmn⟩ : ∃ x, Hid (m.ml = x) := ⟨_, rfl⟩
  obtain ⟨mc, Hmc⟩ : ∃ x, Hid (ml.mc = x) := ⟨_, rfl⟩
  rw [Hra.out, Hrl.out, Hrc.out, Hca.out, Hcl.out, Hcc.out] at C1 CM
  rw [Hra.out, Hrc.out, Hca.out, Hcl.out, Hcc.out, Hma.out, Hmc.out] at CF CP
  rw [Hra.out, Hrl.out, Hrc.out, Hca.out, Hcl.out, Hcc.out, Hma.out, Hmn.out, Hmc.out]
  go_enter Try.func5, Try.ntmps5
  go_wp2_with (fail)
  refine (C1.out _ ((More.refl _).alloc _ _)).mono ?_
  rintro e w1 ⟨⟨f1, f2⟩, hT, rfl, m1⟩
  dsimp only at hT ⊢
  have Hm1 : Hid (More w w1) := ((More.refl _).alloc _ _).trans m1
  have Hp1 : Hid (Blk w1 w.heap.size #[.slice ra rl rc, .slice ca cl cc] 30) := (Blk.last _ _ _).more m1
  have HT : Hid (Told p (f1, f2)) := hT
  clear m1 hT
  by_cases h0 : f1 = 0
  · subst h0
    obtain ⟨hok, lk, hk, hk0⟩ := HT.out.ok rfl
    have HO : Hid (p.Ok 200 8 ∧ Known p lk ∧ (checkK p lk).1 = 0) := ⟨hok, hk, hk0⟩
    clear hok hk hk0
    have c0 : w1.cell? ⟨w.heap.size, 0, none⟩ = some (.slice ra rl rc) := Hp1.out.cell rfl
    have c1 : w1.cell? ⟨w.heap.size, 1, none⟩ = some (.slice ca cl cc) := Hp1.out.cell rfl
    have z1 := Hp1.out.lt
    go_wp2_with (fail)
    refine (CM.out HO.out.1 _ (Hm1.out.alloc _ _)).mono ?_
    rintro e w2 ⟨rfl, m2⟩
    have Hm2 : Hid (More w w2) := (Hm1.out.alloc _ _).trans m2
    have Hp2 : Hid (Blk w2 w.heap.size #[.slice ra rl rc, .slice ca cl cc] 30) := (Hp1.out.alloc _ _).more m2
    clear m2 c0 c1 z1
    have c0 : w2.cell? ⟨w.heap.size, 0, none⟩ = some (.slice ra rl rc) := Hp2.out.cell rfl
    have c1 : w2.cell? ⟨w.heap.size, 1, none⟩ = some (.slice ca cl cc) := Hp2.out.cell rfl
    by_cases hfit : FitsOk p.rl p.log m.ml m.len
    · have cf : ∀ w1 : World, More w w1 → Calls Try.prog 16 #[.agg #[.slice ra rl rc, .slice ca cl cc], .slice ma mn mc] w1 fun e w' => e = .returned (.bool true) ∧ More w1 w' := by
        have := CF.out true ⟨fun _ => hfit, fun _ => rfl⟩
        rw [Hrl.out, Hmn.out] at this
        exact this
      have CF1 : Hid (∀ w1 : World, More w w1 → Calls Try.prog 16 #[.agg #[.slice ra rl rc, .slice ca cl cc], .slice ma mn mc] w1 fun e w' => e = .returned (.bool true) ∧ More w1 w') := cf
      have Hfit : Hid (FitsOk p.rl p.log m.ml m.len) := hfit
      clear cf hfit CF
      by_cases hfu : fuel ≤ 4000
      · have d4 : decide (4000 < fuel) = false := by simp; omega
        have CP1 : Hid (∀ w1 : World, More w w1 → Calls Try.prog 17 #[.agg #[.slice ra rl rc, .slice ca cl cc], .slice ma mn mc, .int .i64 fuel] w1 fun e w' => ∃ v, e = .returned v ∧ ShownAt w' v (playI p m fuel.toNat) ∧ More w1 w') := by
          have := CP.out HO.out.1 Hfit.out hfu
          rw [Hrl.out, Hmn.out] at this
          exact this
        clear hfu CP
        go_wp2_with (fail)
        refine (CF1.out _ Hm2.out).mono ?_
        rintro e w3 ⟨rfl, m3⟩
        have Hm3 : Hid (More w w3) := Hm2.out.trans m3
        have Hp3 : Hid (Blk w3 w.heap.size #[.slice ra rl rc, .slice ca cl cc] 30) := Hp2.out.more m3
        clear m3 c0 c1
        have c0 : w3.cell? ⟨w.heap.size, 0, none⟩ = some (.slice ra rl rc) := Hp3.out.cell rfl
        have c1 : w3.cell? ⟨w.heap.size, 1, none⟩ = some (.slice ca cl cc) := Hp3.out.cell rfl
        go_wp2_with (fail)
        refine (CP1.out _ Hm3.out).mono ?_
        rintro e w4 ⟨v, rfl, hsh, m4⟩
        obtain ⟨sv, ml', rfl, hs1, hs2⟩ := hsh
        obtain ⟨sa, sb, so, sc, rfl, _⟩ := hs1
        have hfin : ¬ (playI p m fuel.toNat).fin = 2 := HS.out lk HO.out.2.1 HO.out.2.2 HO.out.1 Hfit.out
        have Hend : Hid (∀ w', More w4 w' → P (.returned (.bool true)) w') := fun w' m' => HP.out _ ((Hm3.out.trans m4).trans m')
        obtain ⟨fn, hfn⟩ : ∃ x, (playI p m fuel.toNat).fin = x := ⟨_, rfl⟩
        rw [hfn] at hfin ⊢
        have e2 : (fn == 2) = false := by simp [hfin]
        have e3 : (fn != 2) = true := by simp [hfin]
        clear hs2 m4 hfin hfn c0 c1 CM C1 CF1 CP1 HS HT
        go_wp2
        exact Hend.out _ ((More.refl _).alloc _ _)
      · have d4 : decide (4000 < fuel) = true := by simp; omega
        have d5 : 4000 < fuel := by omega
        clear hfu CP
        go_wp2_with (fail)
        refine (CF1.out _ Hm2.out).mono ?_
        rintro e w3 ⟨rfl, m3⟩
        have Hend : Hid (P (.returned (.bool true)) w3) := HP.out _ (Hm2.out.trans m3)
        clear m3 CM C1 CF1 HS HT
        go_wp2
        exact Hend.out
    · have CF1 : Hid (∀ w1 : World, More w w1 → Calls Try.prog 16 #[.agg #[.slice ra rl rc, .slice ca cl cc], .slice ma mn mc] w1 fun e w' => e = .returned (.bool false) ∧ More w1 w') := by
        have := CF.out false ⟨fun q => absurd q (by simp), fun q => absurd q hfit⟩
        rw [Hrl.out, Hmn.out] at this
        exact this
      clear hfit CF CP
      go_wp2_with (fail)
      refine (CF1.out _ Hm2.out).mono ?_
      rintro e w3 ⟨rfl, m3⟩
      have Hend : Hid (P (.returned (.bool true)) w3) := HP.out _ (Hm2.out.trans m3)
      clear m3 CM C1 CF1 HS HT
      go_wp2
      exact Hend.out
  · have e0 : (f1 == 0) = false := by simp [h0]
    have e1 : (f1 != 0) = true := by simp [h0]
    have CT : Hid (∀ w1 : World, Calls Try.prog 14 #[.agg #[.int .i64 f1, .int .i64 f2]] w1 fun e w' => e = .returned (.bool true) ∧ More w1 w') := fun w1 => told_calls f1 f2 (HT.out.bad h0) w1
    clear h0 CM C1 CF CP HS HT
    go_wp2_with (fail)
    refine (CT.out _).mono ?_
    rintro e w2 ⟨rfl, m2⟩
    have Hend : Hid (P (.returned (.bool true)) w2) := HP.out _ ((Hm1.out.alloc _ _).trans m2)
    clear m2 CT
    go_wp2
    exact Hend.out

/-! ### THE ROW's STEP -/
set_option maxRecDepth 100000 in
theorem lifted (os : Os) (started : os.Started) (H : Type) (enc : TypeId × Value → H) :
    ReturnsInHanded {} Try.checked os 5 .any (Rows.checkSafeSpec.pre6 enc Try.prog Try.f5 Rows.checkSafeRow.domain false) (Rows.checkSafeSpec.post enc Try.prog Try.f5 false true false false) := by
  refine returnsInHanded_of_change (C := Try.checked) own started (by kernel_rfl) Try.func5
    (ChangeSpec.witness6 (enc := enc) (C := Try.checked) false ⟨#[], #[.agg #[.slice none 0 0, .slice none 0 0], .slice none 0 0, .int .i64 0], []⟩ 8 (by kernel_rfl) (by kernel_rfl) (by kernel_rfl) (by kernel_rfl)) ?_
  intro W base args ds gs before hval0 hW hcnd _
  have hval : ∀ (j : Nat) t v, Try.f5.params[j]? = some t → args[j]? = some v → Value.okWide Try.prog W .any base t v := hval0
  have hW' := hW
  obtain ⟨p, q, hA0, hV, rfl, hfz, hnd⟩ := hW
  have hA : DataW.TrodAll enc Try.prog W 0 (fun _ => true) true Try.f5.params.toList args.toList ds p := hA0
  rw [Try.params5] at hA hval
  obtain ⟨v0, vs0, d0, ds0, p0, q0, hargs, rfl, rfl, h0, r0⟩ := trodAll_cons hA
  obtain ⟨v1, vs1, d1, ds1, p1, q1, rfl, rfl, rfl, h1, r1⟩ := trodAll_cons r0
  obtain ⟨v2, vs2, d2, ds2, p2, q2, rfl, rfl, rfl, h2, r2⟩ := trodAll_cons r1
  obtain ⟨rfl, rfl, rfl⟩ := trodAll_nil r2
  obtain rfl : args = #[v0, v1, v2] := by cases args; simp_all
  obtain ⟨rfl, rfl⟩ := trodVars_none hV
  have lt0 : ∀ x ∈ p0, x.block < W.heap.size := by obtain ⟨m, hm⟩ := h0; exact DataW.trod_lt m _ _ _ hm
  have lt1 : ∀ x ∈ p1, x.block < W.heap.size := by obtain ⟨m, hm⟩ := h1; exact DataW.trod_lt m _ _ _ hm
  have lt2 : ∀ x ∈ p2, x.block < W.heap.size := by obtain ⟨m, hm⟩ := h2; exact DataW.trod_lt m _ _ _ hm
  obtain ⟨P0, l0, rfl, hin0, hfit0⟩ := open_prog (hval 0 30 v0 rfl rfl) h0
  obtain ⟨m1, ml1, rfl, hm1, hwd1⟩ := open_memw (hval 1 36 v1 rfl rfl) h1
  obtain ⟨n2, rfl, _, _, hwf2⟩ := open_int Try.underlying3 (hval 2 3 v2 rfl rfl) h2
  clear hA0 hval0
  refine (walk P0 l0 m1 ml1 n2 W hin0 hfit0 hm1 hwd1).mono fun e W' ⟨he, bel⟩ => ?_
  subst he
  exact ⟨_, rfl, _, _, _, [], _, [], hW', trodAll_mk1 (shut_bool Try.underlying4 _), (trodAll_cons_mk (Below.trod laidOut (by kernel_rfl) (of_decide_eq_true (by kernel_rfl)) h0 bel lt0) (trodAll_cons_mk (Below.trod laidOut (by kernel_rfl) (of_decide_eq_true (by kernel_rfl)) h1 bel lt1) (trodAll_cons_mk (Below.trod laidOut (by kernel_rfl) (of_decide_eq_true (by kernel_rfl)) h2 bel lt2) trodAll_mk0))), rfl, Below.frame bel _, fun h => by cases h⟩

theorem over : Rows.checkSafeRow.holds Try.pinned (OpenSpec.ofChange Rows.checkSafeSpec) :=
  OpenClaim.holds_of_wide 5 Try.f5 rfl rfl rfl rfl rfl rfl rfl ⟨rfl, rfl, rfl, rfl, rfl⟩ rfl rfl rfl rfl rfl (by kernel_rfl) Try.func5 (by kernel_rfl)
    (of_decide_eq_true (by kernel_rfl)) (by unfold Func.isWrapper; first | (rw [if_pos (by decide +kernel)]; kernel_rfl) | (rw [if_neg (by decide +kernel)]; exact ⟨rfl, rfl⟩))
    (fun os started H enc _ => lifted os started H enc)

end checkSafe

/-- The given statement. -/
theorem checkSafe_holds : Rows.CheckSafeSaid :=
  checkSafe.over
#print axioms checkSafe_holds
end Go.Proofs.Ytkeeimdhlbdigab
