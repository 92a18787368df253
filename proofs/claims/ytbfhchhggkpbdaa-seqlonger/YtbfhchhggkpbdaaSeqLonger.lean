/-
  Proved: for every program, every memory and every two fuels, SeqLonger returns true (up to 4000 steps, who has more goes on as the other one began, and who has ended stays so) and leaves its arguments as they were; no conditions.
-/
import Derived.Test.YtbfhchhggkpbdaaRows
import Derived.WalkKit
import Derived.ProofKit
import Derived.OpenShut
import Derived.Test.YtbfhchhggkpbdaaJoined3
namespace Go.Proofs.Ytbfhchhggkpbdaa
open Go.ChangeShapes Go.WideShapes Go.ChangeAt Go.RowKit Go.Deep
set_option linter.unusedVariables false
set_option linter.unusedSimpArgs false
set_option maxRecDepth 8000

theorem ShownAt.seen_ {w : World} {a b c sv d : Value} {x : Sh} (h : ShownAt w (.agg #[a, b, c, sv, d]) x) : SeenAt w sv x.seen := by
  obtain ⟨sv', l, he, hs, _⟩ := h
  simp at he
  rw [he.2.2.2.1]
  exact hs

namespace seqLonger

theorem own : ownKnob Try.prog.godebug = none := by kernel_rfl
theorem laidOut : laidOutB Try.prog = true := by kernel_rfl

theorem like_refl (m : Mem) : m.Like m := ⟨rfl, fun _ _ => rfl, fun _ _ _ _ => rfl⟩
theorem like_symm {x y : Mem} (h : x.Like y) : y.Like x :=
  ⟨h.ml.symm, fun i hi => (h.len i (by rw [h.ml]; exact hi)).symm, fun i hi j hj => (h.wd i (by rw [h.ml]; exact hi) j (by rw [h.len i (by rw [h.ml]; exact hi)]; exact hj)).symm⟩
theorem like_trans {x y z : Mem} (h : x.Like y) (k : y.Like z) : x.Like z :=
  ⟨h.ml.trans k.ml, fun i hi => (h.len i hi).trans (k.len i (by rw [← h.ml]; exact hi)), fun i hi j hj => (h.wd i hi j hj).trans (k.wd i (by rw [← h.ml]; exact hi) j (by rw [← h.len i hi]; exact hj))⟩

theorem skip (few more : Int) (v0 v1 rv cv : Value) (hv0 : v0 = .agg #[rv, cv]) (w : World) (h : few < 0 ∨ more < few ∨ 4000 < more) :
    Calls Try.prog 9 #[v0, v1, .int .i64 few, .int .i64 more] w fun e w' => e = .returned (.bool true) ∧ More w w' := by
  subst hv0
  by_cases h1 : few < 0
  · clear h
    go_enter Try.func9, Try.ntmps9
    go_wp2
    go_ret
    exact ⟨rfl, (More.refl _).alloc _ _⟩
  have d1 : decide (few < 0) = false := by simp; omega
  by_cases h2 : more < few
  · clear h
    go_enter Try.func9, Try.ntmps9
    go_wp2
    go_ret
    exact ⟨rfl, (More.refl _).alloc _ _⟩
  have d2 : decide (more < few) = false := by simp; omega
  have h3 : 4000 < more := by omega
  clear h
  go_enter Try.func9, Try.ntmps9
  go_wp2
  go_ret
  exact ⟨rfl, (More.refl _).alloc _ _⟩

/-- What Run tells, as this law asks. -/
def Told (w : World) (R : Sh) (e : Ending) (w' : World) : Prop :=
  ∃ (sa : Option Addr) (sc : Nat) (la : Option Addr) (lc : Nat) (mm : Mem), e = .returned (.tuple #[.agg #[.int .i64 R.fin, .int .i64 R.val, .int .i64 R.steps, .slice sa R.seen.length sc, .slice la mm.ml lc], .int .i64 0]) ∧
    ShownAt w' (.agg #[.int .i64 R.fin, .int .i64 R.val, .int .i64 R.steps, .slice sa R.seen.length sc, .slice la mm.ml lc]) ⟨R.fin, R.val, R.steps, R.seen, mm⟩ ∧ mm.Like R.mem ∧ More w w'

theorem told {w : World} {R : Sh} {e : Ending} {w' : World} (h : ∃ (v : Value) (mm : Mem), e = .returned (.tuple #[v, .int .i64 0]) ∧ ShownAt w' v ⟨R.fin, R.val, R.steps, R.seen, mm⟩ ∧ mm.Like R.mem ∧ More w w') : Told w R e w' := by
  obtain ⟨v, mm, rfl, hs, hl, m⟩ := h
  have hs' := hs
  obtain ⟨sv, lm, rfl, hse, _⟩ := hs
  obtain ⟨sa, sb, so, sc, rfl, _⟩ := hse
  exact ⟨sa, sc, lm.ma, lm.mc, mm, rfl, hs', hl, m⟩

set_option maxHeartbeats 1000000 in
theorem bad (f g : Nat) (rv cv mv : Value) (w : World) (fg : f ≤ g) (g0 : g ≤ 4000)
    (hrun : ∀ (fuel : Nat) (w1 : World), More w w1 → Calls Try.prog 23 #[.agg #[rv, cv], mv, .int .i64 fuel] w1 fun e w' => e = .returned (.tuple #[.agg #[.int .i64 0, .int .i64 0, .int .i64 0, .slice none 0 0, .slice none 0 0], .int .i64 2]) ∧ More w1 w') :
    Calls Try.prog 9 #[.agg #[rv, cv], mv, .int .i64 f, .int .i64 g] w fun e w' => e = .returned (.bool true) ∧ More w w' := by
  have H := hid_of hrun
  have d1 : decide ((f : Int) < 0) = false := by simp
  have d2 : decide ((g : Int) < (f : Int)) = false := by simp; omega
  have d3 : decide (4000 < (g : Int)) = false := by simp; omega
  have n1 : ¬ (f : Int) < 0 := by omega
  have n2 : ¬ (g : Int) < (f : Int) := by omega
  have n3 : ¬ 4000 < (g : Int) := by omega
  clear hrun fg g0
  go_enter Try.func9, Try.ntmps9
  go_wp2_with (fail)
  refine (H.out f _ ((More.refl _).alloc _ _)).mono ?_
  rintro e w1 ⟨rfl, m1⟩
  have e0 : w1.cell? ⟨w.heap.size, 0, none⟩ = some rv := m1.cell (by go_simp)
  have e1 : w1.cell? ⟨w.heap.size, 1, none⟩ = some cv := m1.cell (by go_simp)
  have Hm1 : Hid (More w w1) := ((More.refl _).alloc _ _).trans m1
  have b1 : ¬ w.heap.size = w1.heap.size := by have := m1.size; simp at this; omega
  have b2 : ¬ w1.heap.size = w.heap.size := by omega
  have b5 : w.heap.size < w1.heap.size := by have := m1.size; simp at this; omega
  clear m1
  go_wp2_with (fail)
  refine (H.out g _ (Hm1.out.alloc _ _)).mono ?_
  rintro e w2 ⟨rfl, m2⟩
  have s3 : w2.cell? ⟨w1.heap.size, 3, none⟩ = some (.slice none 0 0) := m2.cell (by go_simp)
  have Hm2 : Hid (More w w2) := (Hm1.out.alloc _ _).trans m2
  have b3 : ¬ w1.heap.size = w2.heap.size := by have := m2.size; simp at this; omega
  have b4 : ¬ w2.heap.size = w1.heap.size := by omega
  have b6 : w1.heap.size < w2.heap.size := by have := m2.size; simp at this; omega
  clear m2 e0 e1
  go_wp2
  go_ret
  exact ⟨rfl, Hm2.out.alloc _ _⟩

set_option maxHeartbeats 2000000 in
theorem good (f g : Nat) (rv cv mv : Value) (A B : Sh) (w : World) (fg : f ≤ g) (g0 : g ≤ 4000)
    (hA : ∀ (w1 : World), More w w1 → Calls Try.prog 23 #[.agg #[rv, cv], mv, .int .i64 f] w1 (Told w1 A)) (hB : ∀ (w1 : World), More w w1 → Calls Try.prog 23 #[.agg #[rv, cv], mv, .int .i64 g] w1 (Told w1 B))
    (h0 : A.fin = 0 → A.steps = (f : Int) ∧ (f : Int) ≤ B.steps ∧ ∃ t, B.seen = A.seen ++ t) (h1 : ¬ A.fin = 0 → B = A) :
    Calls Try.prog 9 #[.agg #[rv, cv], mv, .int .i64 f, .int .i64 g] w fun e w' => e = .returned (.bool true) ∧ More w w' := by
  have HA := hid_of hA
  have HB := hid_of hB
  have H0 := hid_of h0
  have H1 := hid_of h1
  have d1 : decide ((f : Int) < 0) = false := by simp
  have d2 : decide ((g : Int) < (f : Int)) = false := by simp; omega
  have d3 : decide (4000 < (g : Int)) = false := by simp; omega
  have n1 : ¬ (f : Int) < 0 := by omega
  have n2 : ¬ (g : Int) < (f : Int) := by omega
  have n3 : ¬ 4000 < (g : Int) := by omega
  clear hA hB h0 h1 fg g0
  go_enter Try.func9, Try.ntmps9
  go_wp2_with (fail)
  refine (HA.out _ ((More.refl _).alloc _ _)).mono ?_
  rintro e w1 ⟨sa, sc, la, lc, mm, rfl, hs1, hl1, m1⟩
  have e0 : w1.cell? ⟨w.heap.size, 0, none⟩ = some rv := m1.cell (by go_simp)
  have e1 : w1.cell? ⟨w.heap.size, 1, none⟩ = some cv := m1.cell (by go_simp)
  have Hm1 : Hid (More w w1) := ((More.refl _).alloc _ _).trans m1
  have HS1 := hid_of (And.intro hs1 hl1)
  have b1 : ¬ w.heap.size = w1.heap.size := by have := m1.size; simp at this; omega
  have b2 : ¬ w1.heap.size = w.heap.size := by omega
  have b5 : w.heap.size < w1.heap.size := by have := m1.size; simp at this; omega
  clear m1 hs1 hl1
  go_wp2_with (fail)
  refine (HB.out _ (Hm1.out.alloc _ _)).mono ?_
  rintro e w2 ⟨ta, tc, ka, kc, nn, rfl, hs2, hl2, m2⟩
  have s0 : w2.cell? ⟨w1.heap.size, 0, none⟩ = some (.int .i64 A.fin) := m2.cell (by go_simp)
  have s1 : w2.cell? ⟨w1.heap.size, 1, none⟩ = some (.int .i64 A.val) := m2.cell (by go_simp)
  have s2 : w2.cell? ⟨w1.heap.size, 2, none⟩ = some (.int .i64 A.steps) := m2.cell (by go_simp)
  have s3 : w2.cell? ⟨w1.heap.size, 3, none⟩ = some (.slice sa A.seen.length sc) := m2.cell (by go_simp)
  have s4 : w2.cell? ⟨w1.heap.size, 4, none⟩ = some (.slice la mm.ml lc) := m2.cell (by go_simp)
  have Hm2 : Hid (More w w2) := (Hm1.out.alloc _ _).trans m2
  have HS1' : Hid (ShownAt w2 (.agg #[.int .i64 A.fin, .int .i64 A.val, .int .i64 A.steps, .slice sa A.seen.length sc, .slice la mm.ml lc]) ⟨A.fin, A.val, A.steps, A.seen, mm⟩ ∧ mm.Like A.mem) := ⟨HS1.out.1.more (((More.refl _).alloc _ _).trans m2), HS1.out.2⟩
  have HS2 := hid_of (And.intro hs2 hl2)
  have b3 : ¬ w1.heap.size = w2.heap.size := by have := m2.size; simp at this; omega
  have b4 : ¬ w2.heap.size = w1.heap.size := by omega
  have b6 : w1.heap.size < w2.heap.size := by have := m2.size; simp at this; omega
  clear m2 e0 e1 HS1 hs2 hl2 HA HB
  by_cases hf : A.fin = 0
  · obtain ⟨q1, q2, t, q3⟩ := H0.out hf
    have Hq3 := hid_of q3
    rw [q1] at s2
    rw [hf] at s0
    clear q3 H0 H1
    have q2' : decide ((f : Int) ≤ B.steps) = true := by simp; exact q2
    go_wp2_with (fail)
    refine (begins_calls _ _ A.seen t _ (by rw [← Hq3.out]; exact (HS2.out.1.more ((More.refl _).alloc _ _)).seen_) ((HS1'.out.1.more ((More.refl _).alloc _ _)).seen_)).mono ?_
    rintro e w3 ⟨rfl, m3⟩
    have Hm3 : Hid (More w w3) := (Hm2.out.alloc _ _).trans m3
    clear m3
    go_wp2
    go_ret
    exact ⟨rfl, Hm3.out⟩
  · have hBA := H1.out hf
    have Hl := hid_of (like_trans HS1'.out.2 (by rw [← hBA]; exact like_symm HS2.out.2))
    have Hs := hid_of HS2.out.1
    have HB2 := hid_of hBA
    clear H0 H1 hBA HS2
    go_wp2_with (fail)
    refine (ref_same _ _ ⟨A.fin, A.val, A.steps, A.seen, mm⟩ ⟨B.fin, B.val, B.steps, B.seen, nn⟩ _ (HS1'.out.1.more ((More.refl _).alloc _ _)) (Hs.out.more ((More.refl _).alloc _ _)) (by rw [HB2.out]) (by rw [HB2.out]) (by rw [HB2.out]) (by rw [HB2.out]) Hl.out).mono ?_
    rintro e w3 ⟨rfl, m3⟩
    have Hm3 : Hid (More w w3) := (Hm2.out.alloc _ _).trans m3
    clear m3
    go_wp2
    go_ret
    exact ⟨rfl, Hm3.out⟩

theorem walk (p : Prg) (l : Loc) (m : Mem) (ml : MLoc) (few more : Int) (w : World) (hp : PIn w p l) (hfit : p.Fit) (hm : MRaw w m ml) (hwd : ∀ j, j < m.ml → ∀ i, i < m.len j → B64 (m.wd j i)) :
    Calls Try.prog 9 #[.agg #[.slice l.ra p.rl l.rc, .slice l.ca p.cl l.cc], .slice ml.ma m.ml ml.mc, .int .i64 few, .int .i64 more] w fun e w' => e = .returned (.bool true) ∧ More w w' := by
  by_cases hs : few < 0 ∨ more < few ∨ 4000 < more
  · exact skip few more _ _ _ _ rfl w hs
  obtain ⟨f, rfl⟩ : ∃ f : Nat, few = f := ⟨few.toNat, by omega⟩
  obtain ⟨g, rfl⟩ : ∃ g : Nat, more = g := ⟨more.toNat, by omega⟩
  by_cases hok : p.Ok 8000 10 ∧ FitsOk p.rl p.log m.ml m.len
  · have hpos : ∀ i, i < m.ml → m.len i ≤ 64 := fun i hi => by
      have h0 := hok.2.2.1
      have h1 := hok.2.2.2 i (by omega)
      have h2 := hok.1.1.2 i (by omega)
      have h3 := two_pow_le (k := (p.log i).toNat) (by omega)
      unfold wordsI at h1
      omega
    have hin := hm.in_ (by have h0 := hok.2.2.1; have := hok.1.1.1; omega) hpos
    have hn : ∀ i, i < p.cl → B64 (p.ins i).n := fun i hi => (hfit.ins i hi).2.2.2.2
    refine good f g _ _ _ (playI p m f) (playI p m g) w (by omega) (by omega) (fun w1 m1 => ?_) (fun w1 m1 => ?_) (fun h => ?_) (fun h => ?_)
    · exact (seq_run_ok p l m ml f w1 (hp.more m1) (hin.more m1) hok.1 hn hok.2 hwd (by omega)).mono fun e w' h => told h
    · exact (seq_run_ok p l m ml g w1 (hp.more m1) (hin.more m1) hok.1 hn hok.2 hwd (by omega)).mono fun e w' h => told h
    · have := run_fuel p f g 0 ⟨0, fun _ => 0, m, []⟩ (by omega) h
      refine ⟨by have := this.1; unfold playI; rw [this]; simp, by have := this.2.1; unfold playI; simpa using this, this.2.2⟩
    · exact run_ended p f g 0 ⟨0, fun _ => 0, m, []⟩ (by omega) h
  · exact bad f g _ _ _ w (by omega) (by omega) (fun fuel w1 m1 => seq_run_wrong p l ml.ma m.ml ml.mc fuel 2 w1 (by decide) (fun w2 m2 => seq_new_form p l ml.ma m.ml ml.mc ml.mb ml.mo ml.A m.len ml.C fuel w2 ((hp.more m1).more m2) hm.hm ((hm.lists.more m1).more m2) hok))

/-! ### THE ROW's STEP -/
set_option maxRecDepth 100000 in
theorem lifted (os : Os) (started : os.Started) (H : Type) (enc : TypeId × Value → H) :
    ReturnsInHanded {} Try.checked os 9 .any (Rows.seqLongerSpec.pre6 enc Try.prog Try.f9 Rows.seqLongerRow.domain false) (Rows.seqLongerSpec.post enc Try.prog Try.f9 false true false false) := by
  refine returnsInHanded_of_change (C := Try.checked) own started (by kernel_rfl) Try.func9
    (ChangeSpec.witness6 (enc := enc) (C := Try.checked) false ⟨#[], #[.agg #[.slice none 0 0, .slice none 0 0], .slice none 0 0, .int .i64 0, .int .i64 0], []⟩ 8 (by kernel_rfl) (by kernel_rfl) (by kernel_rfl) (by kernel_rfl)) ?_
  intro W base args ds gs before hval0 hW hcnd _
  have hval : ∀ (j : Nat) t v, Try.f9.params[j]? = some t → args[j]? = some v → Value.okWide Try.prog W .any base t v := hval0
  have hW' := hW
  obtain ⟨p, q, hA0, hV, rfl, hfz, hnd⟩ := hW
  have hA : DataW.TrodAll enc Try.prog W 0 (fun _ => true) true Try.f9.params.toList args.toList ds p := hA0
  rw [Try.params9] at hA hval
  obtain ⟨v0, vs0, d0, ds0, p0, q0, hargs, rfl, rfl, h0, r0⟩ := trodAll_cons hA
  obtain ⟨v1, vs1, d1, ds1, p1, q1, rfl, rfl, rfl, h1, r1⟩ := trodAll_cons r0
  obtain ⟨v2, vs2, d2, ds2, p2, q2, rfl, rfl, rfl, h2, r2⟩ := trodAll_cons r1
  obtain ⟨v3, vs3, d3, ds3, p3, q3, rfl, rfl, rfl, h3, r3⟩ := trodAll_cons r2
  obtain ⟨rfl, rfl, rfl⟩ := trodAll_nil r3
  obtain rfl : args = #[v0, v1, v2, v3] := by cases args; simp_all
  obtain ⟨rfl, rfl⟩ := trodVars_none hV
  have lt0 : ∀ x ∈ p0, x.block < W.heap.size := by obtain ⟨m, hm⟩ := h0; exact DataW.trod_lt m _ _ _ hm
  have lt1 : ∀ x ∈ p1, x.block < W.heap.size := by obtain ⟨m, hm⟩ := h1; exact DataW.trod_lt m _ _ _ hm
  have lt2 : ∀ x ∈ p2, x.block < W.heap.size := by obtain ⟨m, hm⟩ := h2; exact DataW.trod_lt m _ _ _ hm
  have lt3 : ∀ x ∈ p3, x.block < W.heap.size := by obtain ⟨m, hm⟩ := h3; exact DataW.trod_lt m _ _ _ hm
  obtain ⟨P, l, rfl, hin, hfit⟩ := open_prog (hval 0 29 v0 rfl rfl) h0
  obtain ⟨m, ml, rfl, hm, hwd⟩ := open_memw (hval 1 30 v1 rfl rfl) h1
  obtain ⟨n2, rfl, _, _, _⟩ := open_int Try.underlying3 (hval 2 3 v2 rfl rfl) h2
  obtain ⟨n3, rfl, _, _, _⟩ := open_int Try.underlying3 (hval 3 3 v3 rfl rfl) h3
  clear hA0 hval0
  refine (walk P l m ml n2 n3 W hin hfit hm hwd).mono fun e W' ⟨he, bel⟩ => ?_
  subst he
  exact ⟨_, rfl, _, _, _, [], _, [], hW', trodAll_mk1 (shut_bool Try.underlying4 _), (trodAll_cons_mk (Below.trod laidOut (by kernel_rfl) (of_decide_eq_true (by kernel_rfl)) h0 bel lt0) (trodAll_cons_mk (Below.trod laidOut (by kernel_rfl) (of_decide_eq_true (by kernel_rfl)) h1 bel lt1) (trodAll_cons_mk (Below.trod laidOut (by kernel_rfl) (of_decide_eq_true (by kernel_rfl)) h2 bel lt2) (trodAll_cons_mk (Below.trod laidOut (by kernel_rfl) (of_decide_eq_true (by kernel_rfl)) h3 bel lt3) trodAll_mk0)))), rfl, Below.frame bel _, fun h => by cases h⟩

theorem over : Rows.seqLongerRow.holds Try.pinned (OpenSpec.ofChange Rows.seqLongerSpec) :=
  OpenClaim.holds_of_wide 9 Try.f9 rfl rfl rfl rfl rfl rfl rfl ⟨rfl, rfl, rfl, rfl, rfl⟩ rfl rfl rfl rfl rfl (by kernel_rfl) Try.func9 (by kernel_rfl)
    (of_decide_eq_true (by kernel_rfl)) (by unfold Func.isWrapper; first | (rw [if_pos (by decide +kernel)]; kernel_rfl) | (rw [if_neg (by decide +kernel)]; exact ⟨rfl, rfl⟩))
    (fun os started H enc _ => lifted os started H enc)

end seqLonger

/-- The given statement. -/
theorem seqLonger_holds : Rows.SeqLongerSaid :=
  seqLonger.over
#print axioms seqLonger_holds
end Go.Proofs.Ytbfhchhggkpbdaa
