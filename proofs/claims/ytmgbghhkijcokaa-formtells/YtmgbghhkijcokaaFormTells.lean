/-
  Proved: for every program and every memory, FormTells returns true (May, Hard and Fits tell what the document says) and leaves its arguments as they were; no conditions.
-/
import Derived.Test.YtmgbghhkijcokaaRows
import Derived.WalkKit
import Derived.ProofKit
import Derived.OpenShut
import Derived.Test.YtmgbghhkijcokaaOpen
import Derived.Test.YtmgbghhkijcokaaCode
import Derived.Test.YtmgbghhkijcokaaRefForm
namespace Go.Proofs.Ytmgbghhkijcokaa
open Go.ChangeShapes Go.WideShapes Go.ChangeAt Go.RowKit Go.Deep

/-- What a memory that is handed in lies like. -/
theorem open_mem {H : Type} {enc : TypeId × Value → H} {W : World} {base : Nat} {held : Bool} {v : Value} {d : DataW H} {ps : List MemPlace} {r : Reach} {b0 : Nat}
    (hv : Value.okWide Try.prog W r b0 30 v) (h : DataW.Trod enc Try.prog W base (fun _ => true) held 30 v d ps) :
    ∃ (ma : Option Addr) (mb mo ml mc : Nat) (A : Nat → Option Addr) (L C : Nat → Nat), v = .slice ma ml mc ∧ (0 < ml → ma = some ⟨mb, mo, none⟩) ∧ ListsAt W mb mo ml A L C ∧ ml ≤ mc ∧ mc ≤ maxLen := by
  obtain ⟨a0, len, cap, rfl⟩ := okWide_slice Try.underlying30 hv
  obtain ⟨fuel, hf⟩ := h
  rcases open_int_rows Try.underlying30 Try.underlying48 Try.underlying2 cells48 cells2 hf with ⟨hcs, _⟩ | ⟨a, len', cap', A, L, C, Z, hcs, _, hl, hm, _, hrow⟩
  · simp [Value.cells] at hcs
    obtain ⟨rfl, rfl, rfl⟩ := hcs
    exact ⟨none, 0, 0, 0, 0, fun _ => none, fun _ => 0, fun _ => 0, rfl, fun h => by omega, fun i hi => by omega, Nat.le_refl _, Nat.zero_le _⟩
  · simp [Value.cells] at hcs
    obtain ⟨rfl, rfl, rfl⟩ := hcs
    refine ⟨_, a.block, a.off, _, _, A, L, C, rfl, fun h0 => ?_, fun i hi => ?_, hl, hm⟩
    · have h1 := (hrow 0 (by omega)).1
      simp [Addr.add] at h1
      rw [← plain_addr h1]
    · have h1 := (hrow 0 (by omega)).1
      simp [Addr.add] at h1
      have ha := plain_addr h1
      obtain ⟨b, o, s⟩ := a
      simp at ha
      subst ha
      have := (hrow i (by omega)).1
      rw [add_plain] at this
      exact this

namespace formTells

theorem own : ownKnob Try.prog.godebug = none := by kernel_rfl
theorem laidOut : laidOutB Try.prog = true := by kernel_rfl

theorem says_eq {P : Prop} {r s : Bool} (h : r = true ↔ P) (k : s = true ↔ P) : r = s := by
  cases r <;> cases s <;> simp_all

theorem walk (p : Prg) (l : Loc) (ma : Option Addr) (mb mo ml mc : Nat) (A : Nat → Option Addr) (L C : Nat → Nat) (w : World) (h : PIn w p l) (hma : 0 < ml → ma = some ⟨mb, mo, none⟩) (hm : ListsAt w mb mo ml A L C) :
    Calls Try.prog 6 #[.agg #[.slice l.ra p.rl l.rc, .slice l.ca p.cl l.cc], .slice ma ml mc] w fun e w' => e = .returned (.bool true) ∧ More w w' := by
  have H : Hid (PIn w p l) := h
  have Hl : Hid ((0 < ml → ma = some ⟨mb, mo, none⟩) ∧ ListsAt w mb mo ml A L C) := ⟨hma, hm⟩
  clear h hma hm
  go_enter Try.func6, Try.ntmps6
  go_wp2_with (fail)
  refine (may_calls p l _ (H.out.more ((More.refl _).alloc _ _))).mono ?_
  rintro e w1 ⟨r1, rfl, h1, m1⟩
  have e0 : w1.cell? ⟨w.heap.size, 0, none⟩ = some (.slice l.ra p.rl l.rc) := m1.cell (by go_simp)
  have e1 : w1.cell? ⟨w.heap.size, 1, none⟩ = some (.slice l.ca p.cl l.cc) := m1.cell (by go_simp)
  have H1 : Hid ((r1 = true ↔ p.Ok 200 8) ∧ More w w1) := ⟨h1, ((More.refl _).alloc _ _).trans m1⟩
  clear h1 m1
  go_wp2_with (fail)
  refine (hard_calls p l _ (H.out.more H1.out.2)).mono ?_
  rintro e w2 ⟨r2, rfl, h2, m2⟩
  replace e0 := m2.cell e0
  replace e1 := m2.cell e1
  have H2 : Hid ((r2 = true ↔ p.Ok 8000 10) ∧ More w w2) := ⟨h2, H1.out.2.trans m2⟩
  clear h2 m2
  go_wp2_with (fail)
  refine (fits_calls l.ra p.rl l.rc l.ca p.cl l.cc ma ml mc l.rb l.ro mb mo p.log p.sec A L C _ H.out.hr (H.out.regs.more H2.out.2) Hl.out.1 (Hl.out.2.more H2.out.2)).mono ?_
  rintro e w3 ⟨r3, rfl, h3, m3⟩
  replace e0 := m3.cell e0
  replace e1 := m3.cell e1
  have H3 : Hid ((r3 = true ↔ FitsOk p.rl p.log ml L) ∧ More w w3) := ⟨h3, H2.out.2.trans m3⟩
  clear h3 m3
  go_wp2_with (fail)
  refine (ref_may p l _ (H.out.more H3.out.2)).mono ?_
  rintro e w4 ⟨s1, rfl, h4, m4⟩
  obtain rfl := says_eq h4 H1.out.1
  replace e0 := m4.cell e0
  replace e1 := m4.cell e1
  have H4 : Hid (More w w4) := H3.out.2.trans m4
  clear h4 m4 H1
  have t1 : (s1 == s1) = true := by simp
  go_wp2_with (fail)
  refine (ref_hard p l _ (H.out.more H4.out)).mono ?_
  rintro e w5 ⟨s2, rfl, h5, m5⟩
  obtain rfl := says_eq h5 H2.out.1
  replace e0 := m5.cell e0
  replace e1 := m5.cell e1
  have H5 : Hid (More w w5) := H4.out.trans m5
  clear h5 m5 H2 t1
  have t2 : (s2 == s2) = true := by simp
  go_wp2_with (fail)
  refine (ref_fits l.ra p.rl l.rc l.ca p.cl l.cc ma ml mc l.rb l.ro mb mo p.log p.sec A L C _ H.out.hr (H.out.regs.more H5.out) Hl.out.1 (Hl.out.2.more H5.out)).mono ?_
  rintro e w6 ⟨s3, rfl, h6, m6⟩
  obtain rfl := says_eq h6 H3.out.1
  have H6 : Hid (More w w6) := H5.out.trans m6
  clear h6 m6 H3 t2 e0 e1
  have t3 : (s3 == s3) = true := by simp
  go_wp2
  go_ret
  exact ⟨rfl, H6.out⟩

/-! ### THE ROW's STEP -/
set_option maxRecDepth 100000 in
theorem lifted (os : Os) (started : os.Started) (H : Type) (enc : TypeId × Value → H) :
    ReturnsInHanded {} Try.checked os 6 .any (Rows.formTellsSpec.pre6 enc Try.prog Try.f6 Rows.formTellsRow.domain false) (Rows.formTellsSpec.post enc Try.prog Try.f6 false true false false) := by
  refine returnsInHanded_of_change (C := Try.checked) own started (by kernel_rfl) Try.func6
    (ChangeSpec.witness6 (enc := enc) (C := Try.checked) false ⟨#[], #[.agg #[.slice none 0 0, .slice none 0 0], .slice none 0 0], []⟩ 8 (by kernel_rfl) (by kernel_rfl) (by kernel_rfl) (by kernel_rfl)) ?_
  intro W base args ds gs before hval0 hW hcnd _
  have hval : ∀ (j : Nat) t v, Try.f6.params[j]? = some t → args[j]? = some v → Value.okWide Try.prog W .any base t v := hval0
  have hW' := hW
  obtain ⟨p, q, hA0, hV, rfl, hfz, hnd⟩ := hW
  have hA : DataW.TrodAll enc Try.prog W 0 (fun _ => true) true Try.f6.params.toList args.toList ds p := hA0
  rw [Try.params6] at hA hval
  obtain ⟨v0, vs0, d0, ds0, p0, q0, hargs, rfl, rfl, h0, r0⟩ := trodAll_cons hA
  obtain ⟨v1, vs1, d1, ds1, p1, q1, rfl, rfl, rfl, h1, r1⟩ := trodAll_cons r0
  obtain ⟨rfl, rfl, rfl⟩ := trodAll_nil r1
  obtain rfl : args = #[v0, v1] := by cases args; simp_all
  obtain ⟨rfl, rfl⟩ := trodVars_none hV
  have lt0 : ∀ x ∈ p0, x.block < W.heap.size := by obtain ⟨m, hm⟩ := h0; exact DataW.trod_lt m _ _ _ hm
  have lt1 : ∀ x ∈ p1, x.block < W.heap.size := by obtain ⟨m, hm⟩ := h1; exact DataW.trod_lt m _ _ _ hm
  obtain ⟨P, l, rfl, hin, _⟩ := open_prog (hval 0 29 v0 rfl rfl) h0
  obtain ⟨ma, mb, mo, ml, mc, A, L, C, rfl, hma, hm, _, _⟩ := open_mem (hval 1 30 v1 rfl rfl) h1
  clear hA0 hval0
  refine (walk P l ma mb mo ml mc A L C W hin hma hm).mono fun e W' ⟨he, bel⟩ => ?_
  subst he
  exact ⟨_, rfl, _, _, _, [], _, [], hW', trodAll_mk1 (shut_bool Try.underlying4 _), (trodAll_cons_mk (Below.trod laidOut (by kernel_rfl) (of_decide_eq_true (by kernel_rfl)) h0 bel.1 lt0) (trodAll_cons_mk (Below.trod laidOut (by kernel_rfl) (of_decide_eq_true (by kernel_rfl)) h1 bel.1 lt1) trodAll_mk0)), rfl, bel.1.frame _, fun h => by cases h⟩

theorem over : Rows.formTellsRow.holds Try.pinned (OpenSpec.ofChange Rows.formTellsSpec) :=
  OpenClaim.holds_of_wide 6 Try.f6 rfl rfl rfl rfl rfl rfl rfl ⟨rfl, rfl, rfl, rfl, rfl⟩ rfl rfl rfl rfl rfl (by kernel_rfl) Try.func6 (by kernel_rfl)
    (of_decide_eq_true (by kernel_rfl)) (by unfold Func.isWrapper; first | (rw [if_pos (by decide +kernel)]; kernel_rfl) | (rw [if_neg (by decide +kernel)]; exact ⟨rfl, rfl⟩))
    (fun os started H enc _ => lifted os started H enc)

end formTells

/-- The given statement. -/
theorem formTells_holds : Rows.FormTellsSaid :=
  formTells.over
#print axioms formTells_holds
end Go.Proofs.Ytmgbghhkijcokaa
