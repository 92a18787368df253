/-
  Proved: for every regions and every words, where what is handed in is of bulk at most 1048576, WordGets returns true (Get tells the program that the words are, or that they are none, as the document says) and leaves its arguments as they were.
-/
import Derived.Test.YtifdalddchmlmaaRows
import Derived.WalkKit
import Derived.ProofKit
import Derived.OpenShut
import Derived.JoinedCond
import Derived.Test.YtifdalddchmlmaaWdOpen
import Derived.Test.YtifdalddchmlmaaWdGetD
import Derived.Test.YtifdalddchmlmaaR8
namespace Go.Proofs.Ytifdalddchmlmaa
open Go.ChangeShapes Go.WideShapes Go.ChangeAt Go.RowKit Go.Deep
set_option linter.unusedVariables false
set_option linter.unusedSimpArgs false
set_option maxRecDepth 8000

theorem hid_8 {P : Prop} (h : P) : Hid P := h

namespace wordGets

theorem own : ownKnob Try.prog.godebug = none := by kernel_rfl
theorem laidOut : laidOutB Try.prog = true := by kernel_rfl

set_option maxHeartbeats 2000000 in
theorem body (q : Prg) (ra : Option Addr) (rl rc : Nat) (wa : Option Addr) (n wc : Nat) (w : World)
    (c1 : ∀ w1 : World, More w w1 → Calls Try.prog 10 #[.slice ra rl rc, .slice wa n wc] w1 (GetAns q w1)) (c2 : ∀ w1 : World, More w w1 → Calls Try.prog 11 #[.slice ra rl rc, .slice wa n wc] w1 (GetAns q w1)) :
    Calls Try.prog 4 #[.slice ra rl rc, .slice wa n wc] w fun e w' => e = .returned (.bool true) ∧ More w w' := by
  suffices hP : ∀ P : Ending → World → Prop, (∀ w', More w w' → P (.returned (.bool true)) w') → Calls Try.prog 4 #[.slice ra rl rc, .slice wa n wc] w P from hP _ (fun w' m => ⟨rfl, m⟩)
  intro P hP0
  have HP : Hid (∀ w', More w w' → P (.returned (.bool true)) w') := hP0
  have C1 : Hid (∀ w1 : World, More w w1 → Calls Try.prog 10 #[.slice ra rl rc, .slice wa n wc] w1 (GetAns q w1)) := c1
  have C2 : Hid (∀ w1 : World, More w w1 → Calls Try.prog 11 #[.slice ra rl rc, .slice wa n wc] w1 (GetAns q w1)) := c2
  have HS : Hid (q.Ok 8000 10 → ∀ (l l' : Loc) (w1 : World), PIn w1 q l → PIn w1 q l' → Calls Try.prog 12 #[.agg #[.slice l.ra q.rl l.rc, .slice l.ca q.cl l.cc], .agg #[.slice l'.ra q.rl l'.rc, .slice l'.ca q.cl l'.cc]] w1 fun e w' => e = .returned (.bool true) ∧ More w1 w') := fun ok l l' w1 h1 h2 =>
    same8_true q q l l' w1 h1 h2 ⟨rfl, fun _ _ => ⟨rfl, rfl⟩, rfl, fun _ _ => rfl⟩ (by have := ok.1.1; omega) (by have := ok.2.2.1; omega)
  have H0 : Hid (∀ w1 : World, Calls Try.prog 12 #[.agg #[.slice none 0 0, .slice none 0 0], .agg #[.slice none 0 0, .slice none 0 0]] w1 fun e w' => e = .returned (.bool true) ∧ More w1 w') := fun w1 =>
    same8_true ⟨0, fun _ => 0, fun _ => false, 0, q.ins⟩ ⟨0, fun _ => 0, fun _ => false, 0, q.ins⟩ ⟨none, 0, 0, 0, none, 0, 0, 0⟩ ⟨none, 0, 0, 0, none, 0, 0, 0⟩ w1
      ⟨fun h => absurd h (Nat.lt_irrefl _), fun h => absurd h (Nat.lt_irrefl _), fun i hi => absurd hi (Nat.not_lt_zero _), fun i hi => absurd hi (Nat.not_lt_zero _)⟩
      ⟨fun h => absurd h (Nat.lt_irrefl _), fun h => absurd h (Nat.lt_irrefl _), fun i hi => absurd hi (Nat.not_lt_zero _), fun i hi => absurd hi (Nat.not_lt_zero _)⟩
      ⟨rfl, fun i hi => absurd hi (Nat.not_lt_zero _), rfl, fun i hi => absurd hi (Nat.not_lt_zero _)⟩ (by show 0 < 4611686018427387904; decide) (by show 0 < 4611686018427387904; decide)
  clear hP0 c1 c2
  go_enter Try.func4, Try.ntmps4
  go_wp2_with (fail)
  refine (C1.out _ (More.refl _)).mono ?_
  rintro e w1 ⟨m1, ⟨hok, l1, h1, rfl⟩ | ⟨hno, rfl⟩⟩
  · have Hm1 : Hid (More w w1) := m1
    have Hin1 : Hid (PIn w1 q l1) := h1
    have Hok : Hid (q.Ok 8000 10) := hok
    clear m1 h1 hok H0
    obtain ⟨a1, A1⟩ : ∃ x, Hid (l1.ra = x) := ⟨_, rfl⟩
    obtain ⟨a2, A2⟩ : ∃ x, Hid (q.rl = x) := ⟨_, rfl⟩
    obtain ⟨a3, A3⟩ : ∃ x, Hid (l1.rc = x) := ⟨_, rfl⟩
    obtain ⟨a4, A4⟩ : ∃ x, Hid (l1.ca = x) := ⟨_, rfl⟩
    obtain ⟨a5, A5⟩ : ∃ x, Hid (q.cl = x) := ⟨_, rfl⟩
    obtain ⟨a6, A6⟩ : ∃ x, Hid (l1.cc = x) := ⟨_, rfl⟩
    have HS1 := HS.out Hok.out l1
    rw [A1.out, A2.out, A3.out, A4.out, A5.out, A6.out] at HS1
    rw [A1.out, A2.out, A3.out, A4.out, A5.out, A6.out]
    have HS2 := hid_8 HS1
    clear HS HS1
    obtain ⟨w2, Hw2⟩ : ∃ w_ : World, Hid (w_ = (w1.alloc (.cells #[.slice a1 a2 a3, .slice a4 a5 a6] 25)).alloc (.cells #[.int .i64 0, .int .i64 0] 29)) := ⟨_, rfl⟩
    have Hm2 : Hid (More w1 w2) := by rw [Hw2.out]; exact ((More.refl _).alloc _ _).alloc _ _
    have Hb2 : Hid (Blk w2 w1.heap.size #[.slice a1 a2 a3, .slice a4 a5 a6] 25) := by rw [Hw2.out]; exact (Blk.last _ _ _).alloc _ _
    have Hf2 : Hid (Blk w2 (w1.heap.size + 1) #[.int .i64 0, .int .i64 0] 29) := by rw [Hw2.out]; show Blk _ _ _ _; simpa using Blk.last (w1.alloc (.cells #[.slice a1 a2 a3, .slice a4 a5 a6] 25)) #[.int .i64 0, .int .i64 0] 29
    go_wp2_with (fail)
    rw [← Hw2.out]
    refine (C2.out w2 (Hm1.out.trans Hm2.out)).mono ?_
    rintro e w3 ⟨m3, ⟨_, l2, h2, rfl⟩ | ⟨hno, _⟩⟩
    · rw [A2.out, A5.out]
      have Hm3 : Hid (More w1 w3) := Hm2.out.trans m3
      have Hb3 : Hid (Blk w3 w1.heap.size #[.slice a1 a2 a3, .slice a4 a5 a6] 25) := Hb2.out.more m3
      have Hf3 : Hid (Blk w3 (w1.heap.size + 1) #[.int .i64 0, .int .i64 0] 29) := Hf2.out.more m3
      have Hin3 : Hid (PIn w3 q l2) := h2
      clear m3 h2
      obtain ⟨b1, B1⟩ : ∃ x, Hid (l2.ra = x) := ⟨_, rfl⟩
      obtain ⟨b3, B3⟩ : ∃ x, Hid (l2.rc = x) := ⟨_, rfl⟩
      obtain ⟨b4, B4⟩ : ∃ x, Hid (l2.ca = x) := ⟨_, rfl⟩
      obtain ⟨b6, B6⟩ : ∃ x, Hid (l2.cc = x) := ⟨_, rfl⟩
      have HS3 := HS2.out l2
      rw [B1.out, B3.out, B4.out, B6.out] at HS3
      rw [B1.out, B3.out, B4.out, B6.out]
      have HS4 := hid_8 HS3
      clear HS2 HS3
      obtain ⟨w4, Hw4⟩ : ∃ w_ : World, Hid (w_ = (w3.alloc (.cells #[.slice b1 a2 b3, .slice b4 a5 b6] 25)).alloc (.cells #[.int .i64 0, .int .i64 0] 29)) := ⟨_, rfl⟩
      have Hm4 : Hid (More w3 w4) := by rw [Hw4.out]; exact ((More.refl _).alloc _ _).alloc _ _
      have x0 : w3.cell? ⟨w1.heap.size, 0, none⟩ = some (.slice a1 a2 a3) := Hb3.out.cell rfl
      have x1 : w3.cell? ⟨w1.heap.size, 1, none⟩ = some (.slice a4 a5 a6) := Hb3.out.cell rfl
      have x2 : w3.cell? ⟨w1.heap.size + 1, 0, none⟩ = some (.int .i64 0) := Hf3.out.cell rfl
      have x3 : w3.cell? ⟨w1.heap.size + 1, 1, none⟩ = some (.int .i64 0) := Hf3.out.cell rfl
      have z0 := Hb3.out.lt
      have z1 := Hf3.out.lt
      go_wp2_with (fail)
      rw [← Hw4.out]
      refine (HS4.out w4 (Hin1.out.more (Hm3.out.trans Hm4.out)) (Hin3.out.more Hm4.out)).mono ?_
      rintro e w5 ⟨rfl, m5⟩
      have Hend : Hid (P (.returned (.bool true)) w5) := HP.out _ (Hm1.out.trans (Hm3.out.trans (Hm4.out.trans m5)))
      clear m5 x0 x1 x2 x3 z0 z1
      go_wp2
      exact Hend.out
    · exact absurd Hok.out hno
  · have Hm1 : Hid (More w w1) := m1
    have Hno : Hid (¬ q.Ok 8000 10) := hno
    clear m1 hno HS
    obtain ⟨w2, Hw2⟩ : ∃ w_ : World, Hid (w_ = (w1.alloc (.cells #[.slice none 0 0, .slice none 0 0] 25)).alloc (.cells #[.int .i64 2, .int .i64 0] 29)) := ⟨_, rfl⟩
    have Hm2 : Hid (More w1 w2) := by rw [Hw2.out]; exact ((More.refl _).alloc _ _).alloc _ _
    have Hb2 : Hid (Blk w2 w1.heap.size #[.slice none 0 0, .slice none 0 0] 25) := by rw [Hw2.out]; exact (Blk.last _ _ _).alloc _ _
    have Hf2 : Hid (Blk w2 (w1.heap.size + 1) #[.int .i64 2, .int .i64 0] 29) := by rw [Hw2.out]; show Blk _ _ _ _; simpa using Blk.last (w1.alloc (.cells #[.slice none 0 0, .slice none 0 0] 25)) #[.int .i64 2, .int .i64 0] 29
    go_wp2_with (fail)
    rw [← Hw2.out]
    refine (C2.out w2 (Hm1.out.trans Hm2.out)).mono ?_
    rintro e w3 ⟨m3, ⟨hok, _⟩ | ⟨_, rfl⟩⟩
    · exact absurd hok Hno.out
    · have Hm3 : Hid (More w1 w3) := Hm2.out.trans m3
      have Hb3 : Hid (Blk w3 w1.heap.size #[.slice none 0 0, .slice none 0 0] 25) := Hb2.out.more m3
      have Hf3 : Hid (Blk w3 (w1.heap.size + 1) #[.int .i64 2, .int .i64 0] 29) := Hf2.out.more m3
      clear m3
      obtain ⟨w4, Hw4⟩ : ∃ w_ : World, Hid (w_ = (w3.alloc (.cells #[.slice none 0 0, .slice none 0 0] 25)).alloc (.cells #[.int .i64 2, .int .i64 0] 29)) := ⟨_, rfl⟩
      have Hm4 : Hid (More w3 w4) := by rw [Hw4.out]; exact ((More.refl _).alloc _ _).alloc _ _
      have x0 : w3.cell? ⟨w1.heap.size, 0, none⟩ = some (.slice none 0 0) := Hb3.out.cell rfl
      have x1 : w3.cell? ⟨w1.heap.size, 1, none⟩ = some (.slice none 0 0) := Hb3.out.cell rfl
      have x2 : w3.cell? ⟨w1.heap.size + 1, 0, none⟩ = some (.int .i64 2) := Hf3.out.cell rfl
      have x3 : w3.cell? ⟨w1.heap.size + 1, 1, none⟩ = some (.int .i64 0) := Hf3.out.cell rfl
      have z0 := Hb3.out.lt
      have z1 := Hf3.out.lt
      go_wp2_with (fail)
      rw [← Hw4.out]
      refine (H0.out w4).mono ?_
      rintro e w5 ⟨rfl, m5⟩
      have Hend : Hid (P (.returned (.bool true)) w5) := HP.out _ (Hm1.out.trans (Hm3.out.trans (Hm4.out.trans m5)))
      clear m5 x0 x1 x2 x3 z0 z1
      go_wp2
      exact Hend.out

theorem walk (ra : Option Addr) (rl rc rb ro : Nat) (log : Nat → Int) (sec : Nat → Bool) (wa : Option Addr) (n wc wb wo : Nat) (f : Nat → Int) (w : World) (hra : 0 < rl → ra = some ⟨rb, ro, none⟩) (hr : RegsAt w rb ro rl log sec) (hrl : rl ≤ maxLen)
    (hwa : 0 < n → wa = some ⟨wb, wo, none⟩) (hw : WordsAt w wb wo n f) (hf : ∀ i, i < n → W32 (f i)) (hn : n ≤ 1048576) :
    Calls Try.prog 4 #[.slice ra rl rc, .slice wa n wc] w fun e w' => e = .returned (.bool true) ∧ More w w' := by
  have c2 : ∀ w1 : World, More w w1 → Calls Try.prog 11 #[.slice ra rl rc, .slice wa n wc] w1 (GetAns (getP rl log sec n f) w1) := fun w1 m1 => ref8_get ra rl rc rb ro log sec wa n wc wb wo f w1 hra (hr.more m1) hwa (hw.more m1) hf (by omega)
  exact body (getP rl log sec n f) ra rl rc wa n wc w (fun w1 m1 => get_calls ra rl rc rb ro log sec wa n wc wb wo f w1 hra (hr.more m1) hwa (hw.more m1) hf) c2

/-- What is handed in is so much at most. -/
theorem short {H : Type} {d0 d1 : DataW H} {gs : List (DataW H)} (hk : Rows.uptoSmall H ([d0, d1] ++ gs) = true) : Rows.uptoBulk d1 ≤ 1048576 := by
  have h : Rows.uptoBulkAll ([d0, d1] ++ gs) ≤ 1048576 := of_decide_eq_true hk
  simp only [List.cons_append, List.nil_append, Rows.uptoBulkAll] at h
  omega

/-! ### THE ROW's STEP -/
set_option maxRecDepth 100000 in
theorem lifted (os : Os) (started : os.Started) (H : Type) (enc : TypeId × Value → H) (F : Stop.Interp) :
    ReturnsInHanded {} Try.checked os 4 .any ((Rows.OpenSpec.upto Rows.wordGetsSpec).pre6 enc Try.prog Try.f4 Rows.wordGetsUptoRow.domain false) (((Rows.OpenSpec.upto Rows.wordGetsSpec).at F).post enc Try.prog Try.f4 false true false false) := by
  refine returnsInHanded_of_cond (C := Try.checked) (s := Rows.OpenSpec.upto Rows.wordGetsSpec) (k := Rows.uptoSmall) rfl own started (by kernel_rfl) Try.func4
    (OpenSpec.witness (enc := enc) (C := Try.checked) (s := Rows.OpenSpec.upto Rows.wordGetsSpec) (k := Rows.uptoSmall) rfl false ⟨#[], #[.slice none 0 0, .slice none 0 0], []⟩ 8 (by kernel_rfl) (by kernel_rfl) (by kernel_rfl)
      (x := ([.nil, .nil], [], [])) (by kernel_rfl) rfl (by kernel_rfl)) ?_
  intro W base args ds gs before hval0 hW _ hk _
  have hval : ∀ (j : Nat) t v, Try.f4.params[j]? = some t → args[j]? = some v → Value.okWide Try.prog W .any base t v := hval0
  have hW' := hW
  obtain ⟨p, q, hA0, hV, rfl, hfz, hnd⟩ := hW
  have hA : DataW.TrodAll enc Try.prog W 0 (fun _ => true) true Try.f4.params.toList args.toList ds p := hA0
  rw [Try.params4] at hA hval
  obtain ⟨v0, vs0, d0, ds0, p0, q0, hargs, rfl, rfl, h0, r0⟩ := trodAll_cons hA
  obtain ⟨v1, vs1, d1, ds1, p1, q1, rfl, rfl, rfl, h1, r1⟩ := trodAll_cons r0
  obtain ⟨rfl, rfl, rfl⟩ := trodAll_nil r1
  obtain rfl : args = #[v0, v1] := by cases args; simp_all
  obtain ⟨rfl, rfl⟩ := trodVars_none hV
  have lt0 : ∀ x ∈ p0, x.block < W.heap.size := by obtain ⟨m, hm⟩ := h0; exact DataW.trod_lt m _ _ _ hm
  have lt1 : ∀ x ∈ p1, x.block < W.heap.size := by obtain ⟨m, hm⟩ := h1; exact DataW.trod_lt m _ _ _ hm
  obtain ⟨ra0, rb0, ro0, rl0, rc0, log0, sec0, rfl, hra0, hr0, hrl0, hlog0⟩ := open_regions (hval 0 22 v0 rfl rfl) h0
  obtain ⟨wa1, wb1, wo1, n1, wc1, f1, rfl, hwa1, hw1, hf1, hm1, hb1⟩ := open_words (hval 1 26 v1 rfl rfl) h1
  have hsm := Nat.le_trans hb1 (short hk)
  clear hA0 hval0
  refine (walk ra0 rl0 rc0 rb0 ro0 log0 sec0 wa1 n1 wc1 wb1 wo1 f1 W hra0 hr0 hrl0 hwa1 hw1 hf1 hsm).mono fun e W' ⟨he, bel⟩ => ?_
  subst he
  exact ⟨_, rfl, _, _, _, [], _, [], hW', trodAll_mk1 (shut_bool Try.underlying4 _), (trodAll_cons_mk (Below.trod laidOut (by kernel_rfl) (of_decide_eq_true (by kernel_rfl)) h0 bel lt0) (trodAll_cons_mk (Below.trod laidOut (by kernel_rfl) (of_decide_eq_true (by kernel_rfl)) h1 bel lt1) trodAll_mk0)), rfl, Below.frame bel _, fun h => by cases h⟩

theorem over : Rows.WordGetsUptoSaid :=
  OpenClaim.holds_of_cond 4 Try.f4 rfl rfl rfl rfl rfl rfl rfl ⟨rfl, rfl, rfl, rfl, rfl⟩ rfl rfl rfl rfl rfl (by kernel_rfl) Try.func4 (by kernel_rfl)
    (of_decide_eq_true (by kernel_rfl)) (by unfold Func.isWrapper; first | (rw [if_pos (by decide +kernel)]; kernel_rfl) | (rw [if_neg (by decide +kernel)]; exact ⟨rfl, rfl⟩))
    (fun os started H enc _ F => lifted os started H enc F)

end wordGets

/-- The given statement. -/
theorem wordGets_holds : Rows.WordGetsUptoSaid :=
  wordGets.over
#print axioms wordGets_holds
end Go.Proofs.Ytifdalddchmlmaa
