/-
  Proved: for every program, every two memories and every fuel, CheckQuiet returns true (of a program without fault and two memories that fit, and have the same public words, both runs of up to 4000 steps show the same, end alike, and leave the same public words; the faults told are such as may be) and leaves its arguments as they were; no conditions.
-/
import Derived.Test.YtkeeimdhlbdigabRows
import Derived.WalkKit
import Derived.ProofKit
import Derived.OpenShut
import Derived.Test.YtkeeimdhlbdigabJoined9
namespace Go.Proofs.Ytkeeimdhlbdigab
open Go.ChangeShapes Go.WideShapes Go.ChangeAt Go.RowKit Go.Deep
set_option linter.unusedVariables false
set_option linter.unusedSimpArgs false
set_option maxRecDepth 8000

namespace checkQuiet

theorem own : ownKnob Try.prog.godebug = none := by kernel_rfl
theorem laidOut : laidOutB Try.prog = true := by kernel_rfl

theorem step_len (p : Prg) (s : St) : (stepI p s).1.m.ml = s.m.ml ∧ ∀ j, (stepI p s).1.m.len j = s.m.len j := by
  unfold stepI
  repeat' split
  all_goals exact ⟨rfl, fun _ => rfl⟩
theorem run_len (p : Prg) : ∀ (f k : Nat) (s : St), (runI p f k s).mem.ml = s.m.ml ∧ ∀ j, (runI p f k s).mem.len j = s.m.len j
  | 0, k, s => ⟨rfl, fun _ => rfl⟩
  | f + 1, k, s => by
    rw [runI]
    have h1 := step_len p s
    split
    · exact ⟨rfl, fun _ => rfl⟩
    · split
      · exact h1
      · have h2 := run_len p f (k + 1) (stepI p s).1
        exact ⟨h2.1.trans h1.1, fun j => (h2.2 j).trans (h1.2 j)⟩
theorem play_len (p : Prg) (m : Mem) (f : Nat) : (playI p m f).mem.ml = m.ml ∧ ∀ j, (playI p m f).mem.len j = m.len j := run_len p f 0 _

set_option maxHeartbeats 2000000 in
theorem quiet_of (rv cv : Value) (hrv : ∃ a n c, rv = .slice a n c) (hcv : ∃ a n c, cv = .slice a n c) (e v t : Int) (su sv mu mv : Value) (w : World) (hsu : ∃ a n c, su = .slice a n c) (hsv : ∃ a n c, sv = .slice a n c) (hmu : ∃ a n c, mu = .slice a n c) (hmv : ∃ a n c, mv = .slice a n c)
    (c1 : ∀ w1 : World, More w w1 → Calls Try.prog 44 #[su, sv] w1 fun e w' => e = .returned (.bool true) ∧ More w1 w')
    (c2 : ∀ w1 : World, More w w1 → Calls Try.prog 18 #[.agg #[rv, cv], mu, mv] w1 fun e w' => e = .returned (.bool true) ∧ More w1 w') :
    Calls Try.prog 19 #[.agg #[rv, cv], .agg #[.int .i64 e, .int .i64 v, .int .i64 t, su, mu], .agg #[.int .i64 e, .int .i64 v, .int .i64 t, sv, mv]] w fun e w' => e = .returned (.bool true) ∧ More w w' := by
  obtain ⟨a, n, c, rfl⟩ := hrv
  obtain ⟨a2, n2, cc2, rfl⟩ := hcv
  obtain ⟨a3, n3, cc3, rfl⟩ := hsu
  obtain ⟨a4, n4, cc4, rfl⟩ := hsv
  obtain ⟨a5, n5, cc5, rfl⟩ := hmu
  obtain ⟨a6, n6, cc6, rfl⟩ := hmv
  have C1 : Hid (∀ w1 : World, More w w1 → Calls Try.prog 44 #[.slice a3 n3 cc3, .slice a4 n4 cc4] w1 fun e w' => e = .returned (.bool true) ∧ More w1 w') := c1
  have C2 : Hid (∀ w1 : World, More w w1 → Calls Try.prog 18 #[.agg #[.slice a n c, .slice a2 n2 cc2], .slice a5 n5 cc5, .slice a6 n6 cc6] w1 fun e w' => e = .returned (.bool true) ∧ More w1 w') := c2
  clear c1 c2
  go_enter Try.func19, Try.ntmps19
  go_wp2_with (fail)
  refine (C1.out _ ((((More.refl _).alloc _ _).alloc _ _).alloc _ _)).mono ?_
  rintro e1 w1 ⟨rfl, m1⟩
  have Hm1 : Hid (More w w1) := ((((More.refl _).alloc _ _).alloc _ _).alloc _ _).trans m1
  have B0 : Hid (Blk w1 w.heap.size #[.slice a n c, .slice a2 n2 cc2] 30) := (((Blk.last _ _ _).alloc _ _).alloc _ _).more m1
  have B1 : Hid (Blk w1 (w.heap.size + 1) #[.int .i64 e, .int .i64 v, .int .i64 t, .slice a3 n3 cc3, .slice a5 n5 cc5] 41) := ((by simpa using Blk.last (w.alloc (.cells #[.slice a n c, .slice a2 n2 cc2] 30)) #[.int .i64 e, .int .i64 v, .int .i64 t, .slice a3 n3 cc3, .slice a5 n5 cc5] 41 : Blk _ (w.heap.size + 1) _ _).alloc _ _).more m1
  have B2 : Hid (Blk w1 (w.heap.size + 1 + 1) #[.int .i64 e, .int .i64 v, .int .i64 t, .slice a4 n4 cc4, .slice a6 n6 cc6] 41) := (by simpa using Blk.last ((w.alloc (.cells #[.slice a n c, .slice a2 n2 cc2] 30)).alloc (.cells #[.int .i64 e, .int .i64 v, .int .i64 t, .slice a3 n3 cc3, .slice a5 n5 cc5] 41)) #[.int .i64 e, .int .i64 v, .int .i64 t, .slice a4 n4 cc4, .slice a6 n6 cc6] 41 : Blk _ (w.heap.size + 1 + 1) _ _).more m1
  clear m1 C1
  have p0 : w1.cell? ⟨w.heap.size, 0, none⟩ = some (.slice a n c) := B0.out.cell rfl
  have p1 : w1.cell? ⟨w.heap.size, 1, none⟩ = some (.slice a2 n2 cc2) := B0.out.cell rfl
  have x0 : w1.cell? ⟨w.heap.size + 1, 0, none⟩ = some (.int .i64 e) := B1.out.cell rfl
  have x1 : w1.cell? ⟨w.heap.size + 1, 1, none⟩ = some (.int .i64 v) := B1.out.cell rfl
  have x2 : w1.cell? ⟨w.heap.size + 1, 2, none⟩ = some (.int .i64 t) := B1.out.cell rfl
  have x4 : w1.cell? ⟨w.heap.size + 1, 4, none⟩ = some (.slice a5 n5 cc5) := B1.out.cell rfl
  have y0 : w1.cell? ⟨w.heap.size + 1 + 1, 0, none⟩ = some (.int .i64 e) := B2.out.cell rfl
  have y1 : w1.cell? ⟨w.heap.size + 1 + 1, 1, none⟩ = some (.int .i64 v) := B2.out.cell rfl
  have y2 : w1.cell? ⟨w.heap.size + 1 + 1, 2, none⟩ = some (.int .i64 t) := B2.out.cell rfl
  have y4 : w1.cell? ⟨w.heap.size + 1 + 1, 4, none⟩ = some (.slice a6 n6 cc6) := B2.out.cell rfl
  go_wp2_with (fail)
  refine (C2.out _ Hm1.out).mono ?_
  rintro e1 w2 ⟨rfl, m2⟩
  have Hm2 : Hid (More w w2) := Hm1.out.trans m2
  clear m2 C2
  go_wp2
  go_ret
  exact ⟨rfl, Hm2.out⟩

theorem public_true (p : Prg) (lo : Loc) (x y : Mem) (l l' : MLoc) (w : World) (hp : PIn w p lo) (hx : MIn w x l) (hy : MIn w y l') (hlx : x.ml = p.rl) (hly : y.ml = p.rl) (hrl : p.rl ≤ 6) (hlen : ∀ c, c < p.rl → x.len c = y.len c ∧ x.len c ≤ 64) (r : Bool) (hr : r = true ↔ PubI p x y) :
    Calls Try.prog 18 #[.agg #[.slice lo.ra p.rl lo.rc, .slice lo.ca p.cl lo.cc], .slice l.ma x.ml l.mc, .slice l'.ma y.ml l'.mc] w fun e w' => e = .returned (.bool r) ∧ More w w' := by
  refine (public_calls p lo x y l l' w hp hx hy hlx hly hrl hlen ⟨_, _, _, rfl⟩).mono ?_
  rintro e w' ⟨q, rfl, hq, mm⟩
  have : q = r := Bool.eq_iff_iff.2 (hq.trans hr.symm)
  rw [this]
  exact ⟨rfl, mm⟩

theorem seen_slice {w : World} {v : Value} {l : List Se} (h : SeenAt w v l) : ∃ a n c, v = .slice a n c := by
  obtain ⟨a, b, o, c, rfl, _⟩ := h
  exact ⟨_, _, _, rfl⟩

set_option maxHeartbeats 4000000 in
theorem walk (p : Prg) (l : Loc) (m m' : Mem) (ml ml' : MLoc) (fuel : Int) (w : World) (hp : PIn w p l) (hf : p.Fit) (hm : MRaw w m ml) (hwd : ∀ j, j < m.ml → ∀ i, i < m.len j → B64 (m.wd j i)) (hm' : MRaw w m' ml') (hwd' : ∀ j, j < m'.ml → ∀ i, i < m'.len j → B64 (m'.wd j i)) :
    Calls Try.prog 6 #[.agg #[.slice l.ra p.rl l.rc, .slice l.ca p.cl l.cc], .slice ml.ma m.ml ml.mc, .slice ml'.ma m'.ml ml'.mc, .int .i64 fuel] w fun e w' => e = .returned (.bool true) ∧ More w w' := by
  suffices hP : ∀ P : Ending → World → Prop, (∀ w', More w w' → P (.returned (.bool true)) w') → Calls Try.prog 6 #[.agg #[.slice l.ra p.rl l.rc, .slice l.ca p.cl l.cc], .slice ml.ma m.ml ml.mc, .slice ml'.ma m'.ml ml'.mc, .int .i64 fuel] w P from hP _ (fun w' m => ⟨rfl, m⟩)
  intro P hP0
  have HP : Hid (∀ w', More w w' → P (.returned (.bool true)) w') := hP0
  have H : Hid (PIn w p l ∧ p.Fit ∧ MRaw w m ml ∧ (∀ j, j < m.ml → ∀ i, i < m.len j → B64 (m.wd j i)) ∧ MRaw w m' ml' ∧ ∀ j, j < m'.ml → ∀ i, i < m'.len j → B64 (m'.wd j i)) := ⟨hp, hf, hm, hwd, hm', hwd'⟩
  clear hP0 hp hf hm hwd hm' hwd'
  have C1 : Hid (∀ w1 : World, More w w1 → Calls Try.prog 12 #[.agg #[.slice l.ra p.rl l.rc, .slice l.ca p.cl l.cc]] w1 fun e w' => ∃ f : Int × Int, Told p f ∧ e = .returned (.agg #[.int .i64 f.1, .int .i64 f.2]) ∧ More w1 w') := fun w1 m1 => check_told p l w1 (H.out.1.more m1) H.out.2.1
  have CM : Hid (p.Ok 200 8 → ∀ w1 : World, More w w1 → Calls Try.prog 15 #[.agg #[.slice l.ra p.rl l.rc, .slice l.ca p.cl l.cc]] w1 fun e w' => e = .returned (.bool true) ∧ More w1 w') := fun hok w1 m1 => may_true p l w1 (H.out.1.more m1) hok
  have CF : Hid (∀ r : Bool, (r = true ↔ FitsOk p.rl p.log m.ml m.len) → ∀ w1 : World, More w w1 → Calls Try.prog 16 #[.agg #[.slice l.ra p.rl l.rc, .slice l.ca p.cl l.cc], .slice ml.ma m.ml ml.mc] w1 fun e w' => e = .returned (.bool r) ∧ More w1 w') := fun r hr w1 m1 => fits_says p l m ml w1 (H.out.1.more m1) (H.out.2.2.1.more m1) r hr
  have CG : Hid (∀ r : Bool, (r = true ↔ FitsOk p.rl p.log m'.ml m'.len) → ∀ w1 : World, More w w1 → Calls Try.prog 16 #[.agg #[.slice l.ra p.rl l.rc, .slice l.ca p.cl l.cc], .slice ml'.ma m'.ml ml'.mc] w1 fun e w' => e = .returned (.bool r) ∧ More w1 w') := fun r hr w1 m1 => fits_says p l m' ml' w1 (H.out.1.more m1) (H.out.2.2.2.2.1.more m1) r hr
  have CU : Hid (p.Ok 200 8 → FitsOk p.rl p.log m.ml m.len → FitsOk p.rl p.log m'.ml m'.len → ∀ r : Bool, (r = true ↔ PubI p m m') → ∀ w1 : World, More w w1 → Calls Try.prog 18 #[.agg #[.slice l.ra p.rl l.rc, .slice l.ca p.cl l.cc], .slice ml.ma m.ml ml.mc, .slice ml'.ma m'.ml ml'.mc] w1 fun e w' => e = .returned (.bool r) ∧ More w1 w') := fun hok hf1 hf2 r hr w1 m1 => by
    obtain ⟨f1, f2, f3, f4⟩ := fits_in hok hf1
    obtain ⟨g1, g2, g3, g4⟩ := fits_in hok hf2
    exact public_true p l m m' ml ml' w1 (H.out.1.more m1) ((H.out.2.2.1.more m1).in_ f2 f4) ((H.out.2.2.2.2.1.more m1).in_ g2 g4) f1 g1 hok.1.1 (fun c hc => ⟨by have := f3 c (by omega); have := g3 c (by omega); omega, f4 c (by omega)⟩) r hr
  have CP : Hid (p.Ok 200 8 → FitsOk p.rl p.log m.ml m.len → fuel ≤ 4000 → ∀ w1 : World, More w w1 → Calls Try.prog 17 #[.agg #[.slice l.ra p.rl l.rc, .slice l.ca p.cl l.cc], .slice ml.ma m.ml ml.mc, .int .i64 fuel] w1 fun e w' => ∃ v, e = .returned v ∧ ShownAt w' v (playI p m fuel.toNat) ∧ More w1 w') := fun hok hfit hfu w1 m1 => by
    obtain ⟨f1, f2, f3, f4⟩ := fits_in hok hfit
    exact ref_play_int p l m ml fuel w1 (H.out.1.more m1) ((H.out.2.2.1.more m1).in_ f2 f4) hok.hard H.out.2.1 f1 f3 H.out.2.2.2.1 (by omega)
  have CQ : Hid (p.Ok 200 8 → FitsOk p.rl p.log m'.ml m'.len → fuel ≤ 4000 → ∀ w1 : World, More w w1 → Calls Try.prog 17 #[.agg #[.slice l.ra p.rl l.rc, .slice l.ca p.cl l.cc], .slice ml'.ma m'.ml ml'.mc, .int .i64 fuel] w1 fun e w' => ∃ v, e = .returned v ∧ ShownAt w' v (playI p m' fuel.toNat) ∧ More w1 w') := fun hok hfit hfu w1 m1 => by
    obtain ⟨f1, f2, f3, f4⟩ := fits_in hok hfit
    exact ref_play_int p l m' ml' fuel w1 (H.out.1.more m1) ((H.out.2.2.2.2.1.more m1).in_ f2 f4) hok.hard H.out.2.1 f1 f3 H.out.2.2.2.2.2 (by omega)
  have HS : Hid (∀ lk, Known p lk → (checkK p lk).1 = 0 → p.Ok 200 8 → FitsOk p.rl p.log m.ml m.len → FitsOk p.rl p.log m'.ml m'.len → PubI p m m' → ∀ u v w1, More w w1 → ShownAt w1 u (playI p m fuel.toNat) → ShownAt w1 v (playI p m' fuel.toNat) →
      Calls Try.prog 19 #[.agg #[.slice l.ra p.rl l.rc, .slice l.ca p.cl l.cc], u, v] w1 fun e w' => e = .returned (.bool true) ∧ More w1 w') := fun lk hk h0 hok hf1 hf2 hpub u v w1 m1 hu hv => by
    obtain ⟨q1, q2, q3, q4, q5⟩ := Good.quiet ⟨hok, fun i hi => (H.out.2.1.ins i hi).2.2.2.2, hf1, hk, h0⟩ ⟨hok, fun i hi => (H.out.2.1.ins i hi).2.2.2.2, hf2, hk, h0⟩ H.out.2.2.2.1 H.out.2.2.2.2.2 hpub fuel.toNat
    obtain ⟨su, lu, rfl, hu1, hu2⟩ := hu
    obtain ⟨sv, lv, rfl, hv1, hv2⟩ := hv
    obtain ⟨f1, f2, f3, f4⟩ := fits_in hok hf1
    obtain ⟨g1, g2, g3, g4⟩ := fits_in hok hf2
    have p1 := play_len p m fuel.toNat
    have p2 := play_len p m' fuel.toNat
    rw [← q1, ← q2, ← q3]
    rw [← q4] at hv1
    refine quiet_of _ _ ⟨_, _, _, rfl⟩ ⟨_, _, _, rfl⟩ _ _ _ su sv _ _ w1 (seen_slice hu1) (seen_slice hv1) ⟨_, _, _, rfl⟩ ⟨_, _, _, rfl⟩ (fun w2 m2 => ref_seen su sv _ w2 (hu1.more m2) (hv1.more m2)) (fun w2 m2 => ?_)
    exact public_true p l _ _ lu lv w2 ((H.out.1.more m1).more m2) (hu2.more m2) (hv2.more m2) (p1.1.trans f1) (p2.1.trans g1) hok.1.1 (fun c hc => by
      rw [p1.2, p2.2]
      exact ⟨by have := f3 c (by omega); have := g3 c (by omega); omega, f4 c (by omega)⟩) true ⟨fun _ => q5, fun _ => rfl⟩
  clear H
  obtain ⟨ra, Hra⟩ : ∃ x, Hid (l.ra = x) := ⟨_, rfl⟩
  obtain ⟨rl, Hrl⟩ : ∃ x, Hid (p.rl = x) := ⟨_, rfl⟩
  obtain ⟨rc, Hrc⟩ : ∃ x, Hid (l.rc = x) := ⟨_, rfl⟩
  obtain ⟨ca, Hca⟩ : ∃ x, Hid (l.ca = x) := ⟨_, rfl⟩
  obtain ⟨cl, Hcl⟩ : ∃ x, Hid (p.cl = x) := ⟨_, rfl⟩
  obtain ⟨cc, Hcc⟩ : ∃ x, Hid (l.cc = x) := ⟨_, rfl⟩
  obtain ⟨mv, Hmv⟩ : ∃ x, Hid (Value.slice ml.ma m.ml ml.mc = x) := ⟨_, rfl⟩
  obtain ⟨nv, Hnv⟩ : ∃ x, Hid (Value.slice ml'.ma m'.ml ml'.mc = x) := ⟨_, rfl⟩
  obtain ⟨FA, HFA⟩ : ∃ x : Prop, Hid (FitsOk p.rl p.log m.ml m.len = x) := ⟨_, rfl⟩
  obtain ⟨FB, HFB⟩ : ∃ x : Prop, Hid (FitsOk p.rl p.log m'.ml m'.len = x) := ⟨_, rfl⟩
  rw [HFA.out] at CF CU CP HS
  rw [HFB.out] at CG CU CQ HS
  rw [Hmv.out] at CF CU CP
  rw [Hnv.out] at CG CU CQ
  rw [Hra.out, Hrl.out, Hrc.out, Hca.out, Hcl.out, Hcc.out] at C1 CM CF CG CU CP CQ HS
  rw [Hra.out, Hrl.out, Hrc.out, Hca.out, Hcl.out, Hcc.out, Hmv.out, Hnv.out]
  clear Hmv Hnv HFA HFB Hra Hrl Hrc Hca Hcl Hcc
  go_enter Try.func6, Try.ntmps6
  go_wp2_with (fail)
  refine (C1.out _ ((More.refl _).alloc _ _)).mono ?_
  rintro e w1 ⟨⟨f1, f2⟩, hT, rfl, m1⟩
  dsimp only at hT ⊢
  have Hm1 : Hid (More w w1) := ((More.refl _).alloc _ _).trans m1
  have Hp1 : Hid (Blk w1 w.heap.size #[.slice ra rl rc, .slice ca cl cc] 30) := (Blk.last _ _ _).more m1
  have HT : Hid (Told p (f1, f2)) := hT
  clear m1 hT C1
  by_cases h0 : f1 = 0
  · subst h0
    obtain ⟨hok, lk, hk, hk0⟩ := HT.out.ok rfl
    have HO : Hid (p.Ok 200 8 ∧ Known p lk ∧ (checkK p lk).1 = 0) := ⟨hok, hk, hk0⟩
    clear hok hk hk0 HT
    have c0 : w1.cell? ⟨w.heap.size, 0, none⟩ = some (.slice ra rl rc) := Hp1.out.cell rfl
    have c1 : w1.cell? ⟨w.heap.size, 1, none⟩ = some (.slice ca cl cc) := Hp1.out.cell rfl
    have z1 := Hp1.out.lt
    go_wp2_with (fail)
    refine (CM.out HO.out.1 _ (Hm1.out.alloc _ _)).mono ?_
    rintro e w2 ⟨rfl, m2⟩
    have Hm2 : Hid (More w w2) := (Hm1.out.alloc _ _).trans m2
    have Hp2 : Hid (Blk w2 w.heap.size #[.slice ra rl rc, .slice ca cl cc] 30) := (Hp1.out.alloc _ _).more m2
    clear m2 c0 c1 z1 CM
    have c0 : w2.cell? ⟨w.heap.size, 0, none⟩ = some (.slice ra rl rc) := Hp2.out.cell rfl
    have c1 : w2.cell? ⟨w.heap.size, 1, none⟩ = some (.slice ca cl cc) := Hp2.out.cell rfl
    by_cases hA : FA
    · have CF1 : Hid (∀ w1 : World, More w w1 → Calls Try.prog 16 #[.agg #[.slice ra rl rc, .slice ca cl cc], mv] w1 fun e w' => e = .returned (.bool true) ∧ More w1 w') := CF.out true ⟨fun _ => hA, fun _ => rfl⟩
      clear CF
      go_wp2_with (fail)
      refine (CF1.out _ Hm2.out).mono ?_
      rintro e w3 ⟨rfl, m3⟩
      have Hm3 : Hid (More w w3) := Hm2.out.trans m3
      have Hp3 : Hid (Blk w3 w.heap.size #[.slice ra rl rc, .slice ca cl cc] 30) := Hp2.out.more m3
      clear m3 c0 c1
      have c0 : w3.cell? ⟨w.heap.size, 0, none⟩ = some (.slice ra rl rc) := Hp3.out.cell rfl
      have c1 : w3.cell? ⟨w.heap.size, 1, none⟩ = some (.slice ca cl cc) := Hp3.out.cell rfl
      by_cases hB : FB
      · have CG1 : Hid (∀ w1 : World, More w w1 → Calls Try.prog 16 #[.agg #[.slice ra rl rc, .slice ca cl cc], nv] w1 fun e w' => e = .returned (.bool true) ∧ More w1 w') := CG.out true ⟨fun _ => hB, fun _ => rfl⟩
        clear CG
        go_wp2_with (fail)
        refine (CG1.out _ Hm3.out).mono ?_
        rintro e w4 ⟨rfl, m4⟩
        have Hm4 : Hid (More w w4) := Hm3.out.trans m4
        have Hp4 : Hid (Blk w4 w.heap.size #[.slice ra rl rc, .slice ca cl cc] 30) := Hp3.out.more m4
        clear m4 c0 c1
        have c0 : w4.cell? ⟨w.heap.size, 0, none⟩ = some (.slice ra rl rc) := Hp4.out.cell rfl
        have c1 : w4.cell? ⟨w.heap.size, 1, none⟩ = some (.slice ca cl cc) := Hp4.out.cell rfl
        by_cases hU : PubI p m m'
        · have CU1 : Hid (∀ w1 : World, More w w1 → Calls Try.prog 18 #[.agg #[.slice ra rl rc, .slice ca cl cc], mv, nv] w1 fun e w' => e = .returned (.bool true) ∧ More w1 w') := CU.out HO.out.1 hA hB true ⟨fun _ => hU, fun _ => rfl⟩
          clear CU
          by_cases hfu : fuel ≤ 4000
          · have d4 : decide (4000 < fuel) = false := by simp; omega
            have CP1 : Hid (∀ w1 : World, More w w1 → Calls Try.prog 17 #[.agg #[.slice ra rl rc, .slice ca cl cc], mv, .int .i64 fuel] w1 fun e w' => ∃ v, e = .returned v ∧ ShownAt w' v (playI p m fuel.toNat) ∧ More w1 w') := CP.out HO.out.1 hA hfu
            have CQ1 : Hid (∀ w1 : World, More w w1 → Calls Try.prog 17 #[.agg #[.slice ra rl rc, .slice ca cl cc], nv, .int .i64 fuel] w1 fun e w' => ∃ v, e = .returned v ∧ ShownAt w' v (playI p m' fuel.toNat) ∧ More w1 w') := CQ.out HO.out.1 hB hfu
            have HS1 : Hid (∀ u v w1, More w w1 → ShownAt w1 u (playI p m fuel.toNat) → ShownAt w1 v (playI p m' fuel.toNat) → Calls Try.prog 19 #[.agg #[.slice ra rl rc, .slice ca cl cc], u, v] w1 fun e w' => e = .returned (.bool true) ∧ More w1 w') := HS.out lk HO.out.2.1 HO.out.2.2 HO.out.1 hA hB hU
            clear hfu CP CQ HS
            go_wp2_with (fail)
            refine (CU1.out _ Hm4.out).mono ?_
            rintro e w5 ⟨rfl, m5⟩
            have Hm5 : Hid (More w w5) := Hm4.out.trans m5
            have Hp5 : Hid (Blk w5 w.heap.size #[.slice ra rl rc, .slice ca cl cc] 30) := Hp4.out.more m5
            clear m5 c0 c1
            have c0 : w5.cell? ⟨w.heap.size, 0, none⟩ = some (.slice ra rl rc) := Hp5.out.cell rfl
            have c1 : w5.cell? ⟨w.heap.size, 1, none⟩ = some (.slice ca cl cc) := Hp5.out.cell rfl
            go_wp2_with (fail)
            refine (CP1.out _ Hm5.out).mono ?_
            rintro e w6 ⟨u, rfl, hu, m6⟩
            have hu0 := hu
            obtain ⟨su, lu, rfl, hu1, hu2⟩ := hu
            obtain ⟨sa, sb, so, sc, rfl, _⟩ := hu1
            obtain ⟨x1, hx1⟩ : ∃ x, (playI p m fuel.toNat).fin = x := ⟨_, rfl⟩
            obtain ⟨x2, hx2⟩ : ∃ x, (playI p m fuel.toNat).val = x := ⟨_, rfl⟩
            obtain ⟨x3, hx3⟩ : ∃ x, (playI p m fuel.toNat).steps = x := ⟨_, rfl⟩
            obtain ⟨x4, hx4⟩ : ∃ x, (playI p m fuel.toNat).seen.length = x := ⟨_, rfl⟩
            obtain ⟨x5, hx5⟩ : ∃ x, (playI p m fuel.toNat).mem.ml = x := ⟨_, rfl⟩
            rw [hx1, hx2, hx3, hx4, hx5] at hu0 ⊢
            have Hu : Hid (ShownAt w6 (.agg #[.int .i64 x1, .int .i64 x2, .int .i64 x3, .slice sa x4 sc, .slice lu.ma x5 lu.mc]) (playI p m fuel.toNat)) := hu0
            have Hm6 : Hid (More w w6) := Hm5.out.trans m6
            have Hp6 : Hid (Blk w6 w.heap.size #[.slice ra rl rc, .slice ca cl cc] 30) := Hp5.out.more m6
            clear hu0 hu2 m6 hx1 hx2 hx3 hx4 hx5 c0 c1
            have c0 : w6.cell? ⟨w.heap.size, 0, none⟩ = some (.slice ra rl rc) := Hp6.out.cell rfl
            have c1 : w6.cell? ⟨w.heap.size, 1, none⟩ = some (.slice ca cl cc) := Hp6.out.cell rfl
            have z6 := Hp6.out.lt
            obtain ⟨w7, Hw7⟩ : ∃ w_ : World, Hid (w_ = w6.alloc (.cells #[.int .i64 x1, .int .i64 x2, .int .i64 x3, .slice sa x4 sc, .slice lu.ma x5 lu.mc] 41)) := ⟨_, rfl⟩
            have Hm7 : Hid (More w6 w7) := Hw7.out ▸ (More.refl _).alloc _ _
            have Hb7 : Hid (Blk w7 w6.heap.size #[.int .i64 x1, .int .i64 x2, .int .i64 x3, .slice sa x4 sc, .slice lu.ma x5 lu.mc] 41) := Hw7.out ▸ Blk.last _ _ _
            go_wp2_with (fail)
            rw [← Hw7.out]
            refine (CQ1.out _ (Hm6.out.trans Hm7.out)).mono ?_
            rintro e w8 ⟨v, rfl, hv, m8⟩
            have hv0 := hv
            obtain ⟨sv, lv, rfl, hv1, hv2⟩ := hv
            obtain ⟨ta, tb, to_, tc, rfl, _⟩ := hv1
            obtain ⟨y1, hy1⟩ : ∃ x, (playI p m' fuel.toNat).fin = x := ⟨_, rfl⟩
            obtain ⟨y2, hy2⟩ : ∃ x, (playI p m' fuel.toNat).val = x := ⟨_, rfl⟩
            obtain ⟨y3, hy3⟩ : ∃ x, (playI p m' fuel.toNat).steps = x := ⟨_, rfl⟩
            obtain ⟨y4, hy4⟩ : ∃ x, (playI p m' fuel.toNat).seen.length = x := ⟨_, rfl⟩
            obtain ⟨y5, hy5⟩ : ∃ x, (playI p m' fuel.toNat).mem.ml = x := ⟨_, rfl⟩
            rw [hy1, hy2, hy3, hy4, hy5] at hv0 ⊢
            obtain ⟨w9, Hw9⟩ : ∃ w_ : World, Hid (w_ = w8.alloc (.cells #[.int .i64 y1, .int .i64 y2, .int .i64 y3, .slice ta y4 tc, .slice lv.ma y5 lv.mc] 41)) := ⟨_, rfl⟩
            have Hm9 : Hid (More w8 w9) := Hw9.out ▸ (More.refl _).alloc _ _
            have Hb9 : Hid (Blk w9 w8.heap.size #[.int .i64 y1, .int .i64 y2, .int .i64 y3, .slice ta y4 tc, .slice lv.ma y5 lv.mc] 41) := Hw9.out ▸ Blk.last _ _ _
            have HB9 : Hid (Blk w9 w6.heap.size #[.int .i64 x1, .int .i64 x2, .int .i64 x3, .slice sa x4 sc, .slice lu.ma x5 lu.mc] 41) := Hb7.out.more (m8.trans Hm9.out)
            have Hp9 : Hid (Blk w9 w.heap.size #[.slice ra rl rc, .slice ca cl cc] 30) := Hp6.out.more (Hm7.out.trans (m8.trans Hm9.out))
            have HM9 : Hid (More w w9) := (Hm6.out.trans Hm7.out).trans (m8.trans Hm9.out)
            have CS : Hid (Calls Try.prog 19 #[.agg #[.slice ra rl rc, .slice ca cl cc], .agg #[.int .i64 x1, .int .i64 x2, .int .i64 x3, .slice sa x4 sc, .slice lu.ma x5 lu.mc], .agg #[.int .i64 y1, .int .i64 y2, .int .i64 y3, .slice ta y4 tc, .slice lv.ma y5 lv.mc]] w9 fun e w' => e = .returned (.bool true) ∧ More w9 w') :=
              HS1.out _ _ w9 HM9.out (Hu.out.more (Hm7.out.trans (m8.trans Hm9.out))) (hv0.more Hm9.out)
            have Hp8 : Hid (Blk w8 w.heap.size #[.slice ra rl rc, .slice ca cl cc] 30) := Hp6.out.more (Hm7.out.trans m8)
            have Hb8 : Hid (Blk w8 w6.heap.size #[.int .i64 x1, .int .i64 x2, .int .i64 x3, .slice sa x4 sc, .slice lu.ma x5 lu.mc] 41) := Hb7.out.more m8
            clear hv0 hv2 m8 hy1 hy2 hy3 hy4 hy5 c0 c1 z6 HS1 CP1 CQ1 CU1 CG1 CF1
            have c0 : w8.cell? ⟨w.heap.size, 0, none⟩ = some (.slice ra rl rc) := Hp8.out.cell rfl
            have c1 : w8.cell? ⟨w.heap.size, 1, none⟩ = some (.slice ca cl cc) := Hp8.out.cell rfl
            have a0 : w8.cell? ⟨w6.heap.size, 0, none⟩ = some (.int .i64 x1) := Hb8.out.cell rfl
            have a1 : w8.cell? ⟨w6.heap.size, 1, none⟩ = some (.int .i64 x2) := Hb8.out.cell rfl
            have a2 : w8.cell? ⟨w6.heap.size, 2, none⟩ = some (.int .i64 x3) := Hb8.out.cell rfl
            have a3 : w8.cell? ⟨w6.heap.size, 3, none⟩ = some (.slice sa x4 sc) := Hb8.out.cell rfl
            have a4 : w8.cell? ⟨w6.heap.size, 4, none⟩ = some (.slice lu.ma x5 lu.mc) := Hb8.out.cell rfl
            have z8 := Hp8.out.lt
            have z9 := Hb8.out.lt
            go_wp2_with (fail)
            rw [← Hw9.out]
            refine CS.out.mono ?_
            rintro e wz ⟨rfl, mz⟩
            have Hend : Hid (P (.returned (.bool true)) wz) := HP.out _ (HM9.out.trans mz)
            clear mz CS a0 a1 a2 a3 a4 c0 c1
            go_wp2
            exact Hend.out
          · have d4 : decide (4000 < fuel) = true := by simp; omega
            have d5 : 4000 < fuel := by omega
            clear hfu CP CQ HS
            go_wp2_with (fail)
            refine (CU1.out _ Hm4.out).mono ?_
            rintro e w5 ⟨rfl, m5⟩
            have Hend : Hid (P (.returned (.bool true)) w5) := HP.out _ (Hm4.out.trans m5)
            clear m5 CU1 CG1 CF1
            go_wp2
            exact Hend.out
        · have CU1 : Hid (∀ w1 : World, More w w1 → Calls Try.prog 18 #[.agg #[.slice ra rl rc, .slice ca cl cc], mv, nv] w1 fun e w' => e = .returned (.bool false) ∧ More w1 w') := CU.out HO.out.1 hA hB false ⟨fun q => absurd q (by simp), fun q => absurd q hU⟩
          clear CU CP CQ HS
          go_wp2_with (fail)
          refine (CU1.out _ Hm4.out).mono ?_
          rintro e w5 ⟨rfl, m5⟩
          have Hend : Hid (P (.returned (.bool true)) w5) := HP.out _ (Hm4.out.trans m5)
          clear m5 CU1 CG1 CF1
          go_wp2
          exact Hend.out
      · have CG1 : Hid (∀ w1 : World, More w w1 → Calls Try.prog 16 #[.agg #[.slice ra rl rc, .slice ca cl cc], nv] w1 fun e w' => e = .returned (.bool false) ∧ More w1 w') := CG.out false ⟨fun q => absurd q (by simp), fun q => absurd q hB⟩
        clear CG CU CP CQ HS
        go_wp2_with (fail)
        refine (CG1.out _ Hm3.out).mono ?_
        rintro e w4 ⟨rfl, m4⟩
        have Hend : Hid (P (.returned (.bool true)) w4) := HP.out _ (Hm3.out.trans m4)
        clear m4 CG1 CF1
        go_wp2
        exact Hend.out
    · have CF1 : Hid (∀ w1 : World, More w w1 → Calls Try.prog 16 #[.agg #[.slice ra rl rc, .slice ca cl cc], mv] w1 fun e w' => e = .returned (.bool false) ∧ More w1 w') := CF.out false ⟨fun q => absurd q (by simp), fun q => absurd q hA⟩
      clear CF CG CU CP CQ HS
      go_wp2_with (fail)
      refine (CF1.out _ Hm2.out).mono ?_
      rintro e w3 ⟨rfl, m3⟩
      have Hend : Hid (P (.returned (.bool true)) w3) := HP.out _ (Hm2.out.trans m3)
      clear m3 CF1
      go_wp2
      exact Hend.out
  · have e0 : (f1 == 0) = false := by simp [h0]
    have e1 : (f1 != 0) = true := by simp [h0]
    have CT : Hid (∀ w1 : World, Calls Try.prog 14 #[.agg #[.int .i64 f1, .int .i64 f2]] w1 fun e w' => e = .returned (.bool true) ∧ More w1 w') := fun w1 => told_calls f1 f2 (HT.out.bad h0) w1
    clear h0 CM CF CG CU CP CQ HS HT
    go_wp2_with (fail)
    refine (CT.out _).mono ?_
    rintro e w2 ⟨rfl, m2⟩
    have Hend : Hid (P (.returned (.bool true)) w2) := HP.out _ ((Hm1.out.alloc _ _).trans m2)
    clear m2 CT
    go_wp2
    exact Hend.out

/-! ### THE ROW's STEP -/
set_option maxRecDepth 100000 in
theorem lifted (os : Os) (started : os.Started) (H : Type) (enc : TypeId × Value → H) :
    ReturnsInHanded {} Try.checked os 6 .any (Rows.checkQuietSpec.pre6 enc Try.prog Try.f6 Rows.checkQuietRow.domain false) (Rows.checkQuietSpec.post enc Try.prog Try.f6 false true false false) := by
  refine returnsInHanded_of_change (C := Try.checked) own started (by kernel_rfl) Try.func6
    (ChangeSpec.witness6 (enc := enc) (C := Try.checked) false ⟨#[], #[.agg #[.slice none 0 0, .slice none 0 0], .slice none 0 0, .slice none 0 0, .int .i64 0], []⟩ 8 (by kernel_rfl) (by kernel_rfl) (by kernel_rfl) (by kernel_rfl)) ?_
  intro W base args ds gs before hval0 hW hcnd _
  have hval : ∀ (j : Nat) t v, Try.f6.params[j]? = some t → args[j]? = some v → Value.okWide Try.prog W .any base t v := hval0
  have hW' := hW
  obtain ⟨p, q, hA0, hV, rfl, hfz, hnd⟩ := hW
  have hA : DataW.TrodAll enc Try.prog W 0 (fun _ => true) true Try.f6.params.toList args.toList ds p := hA0
  rw [Try.params6] at hA hval
  obtain ⟨v0, vs0, d0, ds0, p0, q0, hargs, rfl, rfl, h0, r0⟩ := trodAll_cons hA
  obtain ⟨v1, vs1, d1, ds1, p1, q1, rfl, rfl, rfl, h1, r1⟩ := trodAll_cons r0
  obtain ⟨v2, vs2, d2, ds2, p2, q2, rfl, rfl, rfl, h2, r2⟩ := trodAll_cons r1
  obtain ⟨v3, vs3, d3, ds3, p3, q3, rfl, rfl, rfl, h3, r3⟩ := trodAll_cons r2
  obtain ⟨rfl, rfl, rfl⟩ := trodAll_nil r3
  obtain rfl : args = #[v0, v1, v2, v3] := by cases args; simp_all
  obtain ⟨rfl, rfl⟩ := trodVars_none hV
  have lt0 : ∀ x ∈ p0, x.block < W.heap.size := by obtain ⟨m, hm⟩ := h0; exact DataW.trod_lt m _ _ _ hm
  have lt1 : ∀ x ∈ p1, x.block < W.heap.size := by obtain ⟨m, hm⟩ := h1; exact DataW.trod_lt m _ _ _ hm
  have lt2 : ∀ x ∈ p2, x.block < W.heap.size := by obtain ⟨m, hm⟩ := h2; exact DataW.trod_lt m _ _ _ hm
  have lt3 : ∀ x ∈ p3, x.block < W.heap.size := by obtain ⟨m, hm⟩ := h3; exact DataW.trod_lt m _ _ _ hm
  obtain ⟨P0, l0, rfl, hin0, hfit0⟩ := open_prog (hval 0 30 v0 rfl rfl) h0
  obtain ⟨m1, ml1, rfl, hm1, hwd1⟩ := open_memw (hval 1 36 v1 rfl rfl) h1
  obtain ⟨m2, ml2, rfl, hm2, hwd2⟩ := open_memw (hval 2 36 v2 rfl rfl) h2
  obtain ⟨n3, rfl, _, _, hwf3⟩ := open_int Try.underlying3 (hval 3 3 v3 rfl rfl) h3
  clear hA0 hval0
  refine (walk P0 l0 m1 m2 ml1 ml2 n3 W hin0 hfit0 hm1 hwd1 hm2 hwd2).mono fun e W' ⟨he, bel⟩ => ?_
  subst he
  exact ⟨_, rfl, _, _, _, [], _, [], hW', trodAll_mk1 (shut_bool Try.underlying4 _), (trodAll_cons_mk (Below.trod laidOut (by kernel_rfl) (of_decide_eq_true (by kernel_rfl)) h0 bel lt0) (trodAll_cons_mk (Below.trod laidOut (by kernel_rfl) (of_decide_eq_true (by kernel_rfl)) h1 bel lt1) (trodAll_cons_mk (Below.trod laidOut (by kernel_rfl) (of_decide_eq_true (by kernel_rfl)) h2 bel lt2) (trodAll_cons_mk (Below.trod laidOut (by kernel_rfl) (of_decide_eq_true (by kernel_rfl)) h3 bel lt3) trodAll_mk0)))), rfl, Below.frame bel _, fun h => by cases h⟩

theorem over : Rows.checkQuietRow.holds Try.pinned (OpenSpec.ofChange Rows.checkQuietSpec) :=
  OpenClaim.holds_of_wide 6 Try.f6 rfl rfl rfl rfl rfl rfl rfl ⟨rfl, rfl, rfl, rfl, rfl⟩ rfl rfl rfl rfl rfl (by kernel_rfl) Try.func6 (by kernel_rfl)
    (of_decide_eq_true (by kernel_rfl)) (by unfold Func.isWrapper; first | (rw [if_pos (by decide +kernel)]; kernel_rfl) | (rw [if_neg (by decide +kernel)]; exact ⟨rfl, rfl⟩))
    (fun os started H enc _ => lifted os started H enc)

end checkQuiet

/-- The given statement. -/
theorem checkQuiet_holds : Rows.CheckQuietSaid :=
  checkQuiet.over
#print axioms checkQuiet_holds
end Go.Proofs.Ytkeeimdhlbdigab
