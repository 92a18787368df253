/-
  The laws WordBack and WordThere, given what Put and Get answer.
-/
import Derived.Test.YtifdalddchmlmaaWdGet
import Derived.Test.YtifdalddchmlmaaR8
namespace Go.Proofs.Ytifdalddchmlmaa
open Go.RowKit
set_option linter.unusedVariables false
set_option linter.unusedSimpArgs false
set_option maxRecDepth 8000

theorem hid_b {P : Prop} (h : P) : Hid P := h

/-- The program that a program's words are. -/
def backP (p : Prg) : Prg := getP p.rl p.log p.sec p.cl (fun j => encW (p.ins j))
theorem back_ins {p : Prg} (ok : p.Ok 8000 10) (hn : ∀ j, j < p.cl → N14 (p.ins j).n) {j : Nat} (hj : j < p.cl) : (backP p).ins j = p.ins j := dec_enc (small_of ok.1.1 (ok.2.2.2 j hj)) (hn j hj)
theorem back_ok {p : Prg} (ok : p.Ok 8000 10) (hn : ∀ j, j < p.cl → N14 (p.ins j).n) : (backP p).Ok 8000 10 := by
  refine ⟨ok.1, ok.2.1, ok.2.2.1, fun i hi => ?_⟩
  have hi' : i < p.cl := hi
  rw [back_ins ok hn hi']
  exact ok.2.2.2 i hi'
theorem back_eq {p : Prg} (ok : p.Ok 8000 10) (hn : ∀ j, j < p.cl → N14 (p.ins j).n) : p.Eq8 (backP p) := ⟨rfl, fun _ _ => ⟨rfl, rfl⟩, rfl, fun j hj => (back_ins ok hn hj).symm⟩

set_option maxHeartbeats 4000000 in
theorem word_back_body (p : Prg) (l : Loc) (w : World) (hp : PIn w p l)
    (c1 : ∀ (q : Prg) (lq : Loc) (w1 : World), More w w1 → PIn w1 q lq → Calls Try.prog 7 #[.agg #[.slice lq.ra q.rl lq.rc, .slice lq.ca q.cl lq.cc]] w1 (PutAns q w1))
    (c2 : ∀ (w1 : World) (wa : Option Addr) (n wc wb wo : Nat) (f : Nat → Int), More w w1 → (0 < n → wa = some ⟨wb, wo, none⟩) → WordsAt w1 wb wo n f → (∀ i, i < n → W32 (f i)) → n ≤ 8000 → Calls Try.prog 10 #[.slice l.ra p.rl l.rc, .slice wa n wc] w1 (GetAns (getP p.rl p.log p.sec n f) w1)) :
    Calls Try.prog 5 #[.agg #[.slice l.ra p.rl l.rc, .slice l.ca p.cl l.cc]] w fun e w' => e = .returned (.bool true) ∧ More w w' := by
  suffices hP : ∀ P : Ending → World → Prop, (∀ w', More w w' → P (.returned (.bool true)) w') → Calls Try.prog 5 #[.agg #[.slice l.ra p.rl l.rc, .slice l.ca p.cl l.cc]] w P from hP _ (fun w' m => ⟨rfl, m⟩)
  intro P hP0
  have HP : Hid (∀ w', More w w' → P (.returned (.bool true)) w') := hP0
  have C1 := hid_b (fun (w1 : World) (m1 : More w w1) => c1 p l w1 m1 (hp.more m1))
  have C2 := hid_b c2
  have C3 := hid_b c1
  have Hp : Hid (PIn w p l) := hp
  clear hP0 c1 c2 hp
  obtain ⟨ra, Hra⟩ : ∃ x, Hid (l.ra = x) := ⟨_, rfl⟩
  obtain ⟨rl, Hrl⟩ : ∃ x, Hid (p.rl = x) := ⟨_, rfl⟩
  obtain ⟨rc, Hrc⟩ : ∃ x, Hid (l.rc = x) := ⟨_, rfl⟩
  obtain ⟨ca, Hca⟩ : ∃ x, Hid (l.ca = x) := ⟨_, rfl⟩
  obtain ⟨cl, Hcl⟩ : ∃ x, Hid (p.cl = x) := ⟨_, rfl⟩
  obtain ⟨cc, Hcc⟩ : ∃ x, Hid (l.cc = x) := ⟨_, rfl⟩
  rw [Hra.out, Hrl.out, Hrc.out, Hca.out, Hcl.out, Hcc.out] at C1 ⊢
  go_enter Try.func5, Try.ntmps5
  go_wp2_with (fail)
  refine (C1.out _ ((More.refl _).alloc _ _)).mono ?_
  rintro e w1 ⟨f, hR, m1, hA⟩
  have Hm1 : Hid (More w w1) := ((More.refl _).alloc _ _).trans m1
  have Hp1 : Hid (Blk w1 w.heap.size #[.slice ra rl rc, .slice ca cl cc] 25) := (Blk.last _ _ _).more m1
  have c0 : w1.cell? ⟨w.heap.size, 0, none⟩ = some (.slice ra rl rc) := Hp1.out.cell rfl
  have c1 : w1.cell? ⟨w.heap.size, 1, none⟩ = some (.slice ca cl cc) := Hp1.out.cell rfl
  have z1 := Hp1.out.lt
  have HR : Hid (PutR p f) := hR
  clear m1 hR C1
  rcases hA with ⟨h0, g, c, rfl, hg, hw⟩ | ⟨h0, rfl⟩
  · obtain ⟨ok, hn, _⟩ := HR.out.ok h0
    have HO : Hid (p.Ok 8000 10 ∧ ∀ j, j < p.cl → N14 (p.ins j).n) := ⟨ok, hn⟩
    have hcl0 : 1 ≤ cl := by rw [← Hcl.out]; exact ok.2.1
    have hcl1 : cl ≤ 8000 := by rw [← Hcl.out]; exact ok.2.2.1
    have hci : (0 : Int) < cl := by omega
    have hd0 : decide (0 < cl) = true := by simp; omega
    have Hw1 : Hid (WordsAt w1 g 0 cl (fun j => encW (p.ins j))) := Hcl.out ▸ hw
    have HQ : Hid ((backP p).Ok 8000 10 ∧ p.Eq8 (backP p)) := ⟨back_ok ok hn, back_eq ok hn⟩
    rw [Hcl.out]
    clear hw hg ok hn
    obtain ⟨w2, Hw2⟩ : ∃ w_ : World, Hid (w_ = w1.alloc (.cells #[.int .i64 0, .int .i64 0] 29)) := ⟨_, rfl⟩
    have Hm2 : Hid (More w1 w2) := by rw [Hw2.out]; exact (More.refl _).alloc _ _
    have C2' : Calls Try.prog 10 #[.slice ra rl rc, .slice (some ⟨g, 0, none⟩) cl c] w2 (GetAns (backP p) w2) := by
      have := C2.out w2 (some ⟨g, 0, none⟩) cl c g 0 (fun j => encW (p.ins j)) (Hm1.out.trans Hm2.out) (fun _ => rfl) (Hw1.out.more Hm2.out) (fun i hi => enc_w32 (small_of HO.out.1.1.1 (HO.out.1.2.2.2 i (by rw [Hcl.out]; exact hi))) (HO.out.2 i (by rw [Hcl.out]; exact hi))) hcl1
      rw [Hra.out, Hrc.out] at this
      have e : getP p.rl p.log p.sec cl (fun j => encW (p.ins j)) = backP p := by unfold backP; rw [Hcl.out]
      rw [e, Hrl.out] at this
      exact this
    clear C2
    go_wp2_with (fail)
    rw [← Hw2.out]
    refine C2'.mono ?_
    rintro e w3 ⟨m3, ⟨_, lq, hq, rfl⟩ | ⟨hno, _⟩⟩
    · have e1 : (backP p).rl = rl := Hrl.out
      have e2 : (backP p).cl = cl := Hcl.out
      have C3' := C3.out (backP p) lq
      rw [e1, e2] at C3' ⊢
      have Hm3 : Hid (More w1 w3) := Hm2.out.trans m3
      have Hin3 : Hid (PIn w3 (backP p) lq) := hq
      have Hp3 : Hid (Blk w3 w.heap.size #[.slice ra rl rc, .slice ca cl cc] 25) := Hp1.out.more Hm3.out
      have Hsame : Hid (∀ w4 : World, More w3 w4 → Calls Try.prog 12 #[.agg #[.slice ra rl rc, .slice ca cl cc], .agg #[.slice lq.ra rl lq.rc, .slice lq.ca cl lq.cc]] w4 fun e w' => e = .returned (.bool true) ∧ More w4 w') := fun w4 m4 => by
        have := same8_true p (backP p) l lq w4 (Hp.out.more (Hm1.out.trans (Hm3.out.trans m4))) (Hin3.out.more m4) HQ.out.2 (by have := HO.out.1.1.1; omega) (by rw [Hcl.out]; omega)
        rw [e1, e2, Hra.out, Hrl.out, Hrc.out, Hca.out, Hcl.out, Hcc.out] at this
        exact this
      clear m3 hq c0 c1 z1 C2' C3
      obtain ⟨b1, B1⟩ : ∃ x, Hid (lq.ra = x) := ⟨_, rfl⟩
      obtain ⟨b3, B3⟩ : ∃ x, Hid (lq.rc = x) := ⟨_, rfl⟩
      obtain ⟨b4, B4⟩ : ∃ x, Hid (lq.ca = x) := ⟨_, rfl⟩
      obtain ⟨b6, B6⟩ : ∃ x, Hid (lq.cc = x) := ⟨_, rfl⟩
      rw [B1.out, B3.out, B4.out, B6.out] at C3' Hsame ⊢
      obtain ⟨w4, Hw4⟩ : ∃ w_ : World, Hid (w_ = (w3.alloc (.cells #[.slice b1 rl b3, .slice b4 cl b6] 25)).alloc (.cells #[.int .i64 0, .int .i64 0] 29)) := ⟨_, rfl⟩
      have Hm4 : Hid (More w3 w4) := by rw [Hw4.out]; exact ((More.refl _).alloc _ _).alloc _ _
      have Hb4 : Hid (Blk w4 w3.heap.size #[.slice b1 rl b3, .slice b4 cl b6] 25) := by rw [Hw4.out]; exact (Blk.last _ _ _).alloc _ _
      have Hf4 : Hid (Blk w4 (w3.heap.size + 1) #[.int .i64 0, .int .i64 0] 29) := by rw [Hw4.out]; show Blk _ _ _ _; simpa using Blk.last (w3.alloc (.cells #[.slice b1 rl b3, .slice b4 cl b6] 25)) #[.int .i64 0, .int .i64 0] 29
      have C3 := hid_b (C3' w4 (Hm1.out.trans (Hm3.out.trans Hm4.out)) (Hin3.out.more Hm4.out))
      clear C3'
      go_wp2_with (fail)
      rw [← Hw4.out]
      refine C3.out.mono ?_
      rintro e w5 ⟨f', hR', m5, ⟨h0', g', c', rfl, hg', hw'⟩ | ⟨h0', rfl⟩⟩
      · rw [e2]
        have Hm5 : Hid (More w3 w5) := Hm4.out.trans m5
        have Hb5 : Hid (Blk w5 w3.heap.size #[.slice b1 rl b3, .slice b4 cl b6] 25) := Hb4.out.more m5
        have Hf5 : Hid (Blk w5 (w3.heap.size + 1) #[.int .i64 0, .int .i64 0] 29) := Hf4.out.more m5
        have Hp5 : Hid (Blk w5 w.heap.size #[.slice ra rl rc, .slice ca cl cc] 25) := Hp3.out.more Hm5.out
        have Hw5 : Hid (WordsAt w5 g' 0 cl (fun j => encW (p.ins j))) := fun i hi => by
          have h1 := hw' i (by rw [e2]; exact hi)
          dsimp only at h1
          rw [back_ins HO.out.1 HO.out.2 (by rw [Hcl.out]; exact hi)] at h1
          exact h1
        clear m5 hw' hg' hR' C3 h0'
        obtain ⟨w6, Hw6⟩ : ∃ w_ : World, Hid (w_ = w5.alloc (.cells #[.int .i64 0, .int .i64 0] 29)) := ⟨_, rfl⟩
        have Hm6 : Hid (More w5 w6) := by rw [Hw6.out]; exact (More.refl _).alloc _ _
        have x0 : w5.cell? ⟨w.heap.size, 0, none⟩ = some (.slice ra rl rc) := Hp5.out.cell rfl
        have x1 : w5.cell? ⟨w.heap.size, 1, none⟩ = some (.slice ca cl cc) := Hp5.out.cell rfl
        have x2 : w5.cell? ⟨w3.heap.size, 0, none⟩ = some (.slice b1 rl b3) := Hb5.out.cell rfl
        have x3 : w5.cell? ⟨w3.heap.size, 1, none⟩ = some (.slice b4 cl b6) := Hb5.out.cell rfl
        have x4 : w5.cell? ⟨w3.heap.size + 1, 0, none⟩ = some (.int .i64 0) := Hf5.out.cell rfl
        have z1 := Hp5.out.lt
        have z2 := Hb5.out.lt
        have z3 := Hf5.out.lt
        go_wp2_with (fail)
        rw [← Hw6.out]
        refine (Hsame.out w6 (Hm5.out.trans Hm6.out)).mono ?_
        rintro e w7 ⟨rfl, m7⟩
        have Hm7 : Hid (More w5 w7) := Hm6.out.trans m7
        have Hp7 : Hid (Blk w7 w.heap.size #[.slice ra rl rc, .slice ca cl cc] 25) := Hp5.out.more Hm7.out
        clear m7 x0 x1 x2 x3 x4 z1 z2 z3
        have CW := words_true (some ⟨g, 0, none⟩) cl c (some ⟨g', 0, none⟩) c' g 0 g' 0 (fun j => encW (p.ins j)) w7 (fun _ => rfl) (fun _ => rfl) (Hw1.out.more (Hm3.out.trans (Hm5.out.trans Hm7.out))) (Hw5.out.more Hm7.out) (by omega)
        go_wp2_with (fail)
        refine CW.mono ?_
        rintro e w8 ⟨rfl, m8⟩
        have Hend : Hid (P (.returned (.bool true)) w8) := HP.out _ (Hm1.out.trans (Hm3.out.trans (Hm5.out.trans (Hm7.out.trans m8))))
        have Hp8 : Hid (Blk w8 w.heap.size #[.slice ra rl rc, .slice ca cl cc] 25) := Hp7.out.more m8
        have x1 : w8.cell? ⟨w.heap.size, 1, none⟩ = some (.slice ca cl cc) := Hp8.out.cell rfl
        clear m8 CW
        go_wp2
        exact Hend.out
      · have hn2 : ∀ j, j < (backP p).cl → N14 ((backP p).ins j).n := fun j hj => by
          have hj' : j < p.cl := hj
          rw [back_ins HO.out.1 HO.out.2 hj']; exact HO.out.2 j hj'
        have := hR'.one (.inr (.inr ⟨HQ.out.1, hn2, rfl⟩))
        exact absurd (by rw [this]) h0'
    · exact absurd HQ.out.1 hno
  · obtain ⟨f1, f2⟩ := f
    dsimp only at h0 ⊢
    have e0 : (f1 == 0) = false := by simp [h0]
    have e1 : (f1 != 0) = true := by simp [h0]
    have Hend : Hid (∀ w', More w1 w' → P (.returned (.bool true)) w') := fun w' m' => HP.out _ (Hm1.out.trans m')
    clear h0 C2 C3
    go_wp2
    exact Hend.out _ ((More.refl _).alloc _ _)

set_option maxHeartbeats 4000000 in
theorem word_there_body (ra : Option Addr) (rl rc : Nat) (log : Nat → Int) (sec : Nat → Bool) (wa : Option Addr) (n wc wb wo : Nat) (f : Nat → Int) (w : World) (hwa : 0 < n → wa = some ⟨wb, wo, none⟩) (hw : WordsAt w wb wo n f) (hf : ∀ i, i < n → W32 (f i))
    (c1 : ∀ w1 : World, More w w1 → Calls Try.prog 10 #[.slice ra rl rc, .slice wa n wc] w1 (GetAns (getP rl log sec n f) w1))
    (c2 : ∀ (q : Prg) (lq : Loc) (w1 : World), More w w1 → PIn w1 q lq → Calls Try.prog 7 #[.agg #[.slice lq.ra q.rl lq.rc, .slice lq.ca q.cl lq.cc]] w1 (PutAns q w1)) :
    Calls Try.prog 6 #[.slice ra rl rc, .slice wa n wc] w fun e w' => e = .returned (.bool true) ∧ More w w' := by
  suffices hP : ∀ P : Ending → World → Prop, (∀ w', More w w' → P (.returned (.bool true)) w') → Calls Try.prog 6 #[.slice ra rl rc, .slice wa n wc] w P from hP _ (fun w' m => ⟨rfl, m⟩)
  intro P hP0
  have HP : Hid (∀ w', More w w' → P (.returned (.bool true)) w') := hP0
  have C1 := hid_b c1
  have C2 := hid_b (c2 (getP rl log sec n f))
  have H : Hid ((0 < n → wa = some ⟨wb, wo, none⟩) ∧ WordsAt w wb wo n f ∧ ∀ i, i < n → W32 (f i)) := ⟨hwa, hw, hf⟩
  clear hP0 c1 c2 hwa hw hf
  go_enter Try.func6, Try.ntmps6
  go_wp2_with (fail)
  refine (C1.out _ (More.refl _)).mono ?_
  rintro e w1 ⟨m1, ⟨hok, lq, hq, rfl⟩ | ⟨hno, rfl⟩⟩
  · have e1 : (getP rl log sec n f).rl = rl := rfl
    have e2 : (getP rl log sec n f).cl = n := rfl
    have hn0 : 1 ≤ n := hok.2.1
    have hn1 : n ≤ 8000 := hok.2.2.1
    have hd0 : decide (0 < n) = true := by simp; omega
    have hci : (0 : Int) < n := by omega
    have Hm1 : Hid (More w w1) := m1
    have Hin1 : Hid (PIn w1 (getP rl log sec n f) lq) := hq
    have Hok : Hid ((getP rl log sec n f).Ok 8000 10) := hok
    have C2' := C2.out lq
    rw [e1, e2] at C2' ⊢
    clear m1 hq hok C1 C2
    obtain ⟨b1, B1⟩ : ∃ x, Hid (lq.ra = x) := ⟨_, rfl⟩
    obtain ⟨b3, B3⟩ : ∃ x, Hid (lq.rc = x) := ⟨_, rfl⟩
    obtain ⟨b4, B4⟩ : ∃ x, Hid (lq.ca = x) := ⟨_, rfl⟩
    obtain ⟨b6, B6⟩ : ∃ x, Hid (lq.cc = x) := ⟨_, rfl⟩
    rw [B1.out, B3.out, B4.out, B6.out] at C2' ⊢
    obtain ⟨w2, Hw2⟩ : ∃ w_ : World, Hid (w_ = (w1.alloc (.cells #[.slice b1 rl b3, .slice b4 n b6] 25)).alloc (.cells #[.int .i64 0, .int .i64 0] 29)) := ⟨_, rfl⟩
    have Hm2 : Hid (More w1 w2) := by rw [Hw2.out]; exact ((More.refl _).alloc _ _).alloc _ _
    have C3 := hid_b (C2' w2 (Hm1.out.trans Hm2.out) (Hin1.out.more Hm2.out))
    clear C2'
    go_wp2_with (fail)
    rw [← Hw2.out]
    refine C3.out.mono ?_
    rintro e w3 ⟨g, hR, m3, ⟨h0, g', c', rfl, hg', hw'⟩ | ⟨h0, rfl⟩⟩
    · rw [e2]
      have Hm3 : Hid (More w1 w3) := Hm2.out.trans m3
      have Hw3 : Hid (WordsAt w3 g' 0 n f) := fun i hi => by
        have h1 := hw' i hi
        have h2 : encW ((getP rl log sec n f).ins i) = f i := enc_dec (H.out.2.2 i hi)
        dsimp only at h1
        rw [h2] at h1
        exact h1
      clear m3 hw' hg' hR C3 h0
      obtain ⟨w4, Hw4⟩ : ∃ w_ : World, Hid (w_ = w3.alloc (.cells #[.int .i64 0, .int .i64 0] 29)) := ⟨_, rfl⟩
      have Hm4 : Hid (More w3 w4) := by rw [Hw4.out]; exact (More.refl _).alloc _ _
      have CW := words_true (some ⟨g', 0, none⟩) n c' wa wc g' 0 wb wo f w4 (fun _ => rfl) H.out.1 (Hw3.out.more Hm4.out) (H.out.2.1.more (Hm1.out.trans (Hm3.out.trans Hm4.out))) (by omega)
      go_wp2_with (fail)
      rw [← Hw4.out]
      refine CW.mono ?_
      rintro e w5 ⟨rfl, m5⟩
      have Hend : Hid (P (.returned (.bool true)) w5) := HP.out _ (Hm1.out.trans (Hm3.out.trans (Hm4.out.trans m5)))
      clear m5 CW
      go_wp2
      exact Hend.out
    · have := hR.one (.inr (.inr ⟨Hok.out, fun j _ => dec_n14 _, rfl⟩))
      exact absurd (by rw [this]) h0
  · have Hend : Hid (∀ w', More w1 w' → P (.returned (.bool true)) w') := fun w' m' => HP.out _ (m1.trans m')
    clear C1 C2
    go_wp2
    exact Hend.out _ (((More.refl _).alloc _ _).alloc _ _)

end Go.Proofs.Ytifdalddchmlmaa
