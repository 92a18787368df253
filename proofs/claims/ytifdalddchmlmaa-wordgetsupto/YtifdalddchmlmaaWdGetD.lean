/-
  What word.Get comes to.
-/
import Derived.Test.YtifdalddchmlmaaWdPutD
import Derived.Test.YtifdalddchmlmaaWdClone
namespace Go.Proofs.Ytifdalddchmlmaa
open Go.RowKit
set_option linter.unusedVariables false
set_option linter.unusedSimpArgs false
set_option maxRecDepth 8000

/-- What the row of instructions holds. -/
def codeF (f : Nat → Int) (k j : Nat) : Ins := if j < k then decW (f j) else ⟨0, 0, 0, 0, 0⟩
theorem codeF_next (f : Nat → Int) {k j : Nat} (h : j ≠ k) : codeF f (k + 1) j = codeF f k j := by
  unfold codeF
  by_cases q : j < k
  · rw [if_pos q, if_pos (by omega)]
  · rw [if_neg q, if_neg (by omega)]

/-- Where the loop stands. -/
structure G7 (w : World) (n : Nat) (f : Nat → Int) (g k : Nat) (wr : World) : Prop where
  res : Blk wr w.heap.size #[.slice none 0 0, .slice none 0 0] 25
  flt : Blk wr (w.heap.size + 1) #[.int .i64 0, .int .i64 0] 29
  row : ∀ j, j < n → InsWr wr g j (codeF f k j)
  lo : w.heap.size + 2 ≤ g
  hi : g < wr.heap.size
  more : More w wr

theorem made5_at (n j : Nat) (h : j < n) : ∀ i, i < 5 → (madeCells (Value.agg #[.int .i64 0, .int .i64 0, .int .i64 0, .int .i64 0, .int .i64 0]).cells (n * 5))[j * 5 + i]? = some (.int .i64 0) := by
  intro i hi
  have e : (Value.agg #[.int .i64 0, .int .i64 0, .int .i64 0, .int .i64 0, .int .i64 0]).cells = #[.int .i64 0, .int .i64 0, .int .i64 0, .int .i64 0, .int .i64 0] := by simp [Value.cells]
  rw [e]
  unfold madeCells
  have h2 : j * 5 + i < n * 5 := by omega
  have h3 : (j * 5 + i) % 5 = i := by omega
  have : i = 0 ∨ i = 1 ∨ i = 2 ∨ i = 3 ∨ i = 4 := by omega
  have h4 : (Array.range (n * 5))[j * 5 + i]? = some (j * 5 + i) := by rw [Array.getElem?_range]; simp [h2]
  rw [Array.getElem?_map, h4]
  show some _ = _
  rcases this with rfl | rfl | rfl | rfl | rfl <;> simp [h3] <;> (first | rfl | (rw [h3]; rfl) | skip)

/-- Five stores. -/
def put5 (w : World) (g o : Nat) (i : Ins) : World := ((((w.setCell ⟨g, o, none⟩ (.int .i64 i.op)).setCell ⟨g, o + 1, none⟩ (.int .i64 i.a)).setCell ⟨g, o + 2, none⟩ (.int .i64 i.b)).setCell ⟨g, o + 3, none⟩ (.int .i64 i.c)).setCell ⟨g, o + 4, none⟩ (.int .i64 i.n)

theorem InsWr.put {w : World} {g j : Nat} {i : Ins} (h : InsWr w g j i) (i' : Ins) : InsWr (put5 w g (j * 5) i') g j i' := by
  unfold put5
  refine ⟨?_, ?_, ?_, ?_, ?_⟩
  · exact ((((h.op.same _).other _ _ _ (.inr (by omega))).other _ _ _ (.inr (by omega))).other _ _ _ (.inr (by omega))).other _ _ _ (.inr (by omega))
  · exact ((((h.a.other _ _ _ (.inr (by omega))).same _).other _ _ _ (.inr (by omega))).other _ _ _ (.inr (by omega))).other _ _ _ (.inr (by omega))
  · exact ((((h.b.other _ _ _ (.inr (by omega))).other _ _ _ (.inr (by omega))).same _).other _ _ _ (.inr (by omega))).other _ _ _ (.inr (by omega))
  · exact ((((h.c.other _ _ _ (.inr (by omega))).other _ _ _ (.inr (by omega))).other _ _ _ (.inr (by omega))).same _).other _ _ _ (.inr (by omega))
  · exact ((((h.n.other _ _ _ (.inr (by omega))).other _ _ _ (.inr (by omega))).other _ _ _ (.inr (by omega))).other _ _ _ (.inr (by omega))).same _
theorem Wr.put5 {w : World} {b o : Nat} {v : Value} (h : Wr w b o v) {g k : Nat} (i : Ins) (hne : g ≠ b ∨ o < k ∨ k + 5 ≤ o) : Wr (put5 w g k i) b o v := by
  unfold Go.Proofs.Ytifdalddchmlmaa.put5
  exact ((((h.other _ _ _ (by omega)).other _ _ _ (by omega)).other _ _ _ (by omega)).other _ _ _ (by omega)).other _ _ _ (by omega)
theorem InsWr.far {w : World} {g j : Nat} {i : Ins} (h : InsWr w g j i) {k : Nat} (i' : Ins) (hne : k ≠ j) : InsWr (put5 w g (k * 5) i') g j i :=
  ⟨h.op.put5 _ (by omega), h.a.put5 _ (by omega), h.b.put5 _ (by omega), h.c.put5 _ (by omega), h.n.put5 _ (by omega)⟩
theorem Blk.put5 {w : World} {n : Nat} {cs : Array Value} {T : TypeId} (h : Blk w n cs T) {g : Nat} (hg : g ≠ n) (o : Nat) (i : Ins) : Blk (put5 w g o i) n cs T := by
  unfold Go.Proofs.Ytifdalddchmlmaa.put5
  exact ((((h.other hg _ _).other hg _ _).other hg _ _).other hg _ _).other hg _ _
theorem More.put5 {w w1 : World} (h : More w w1) {g : Nat} (hg : w.heap.size ≤ g) (o : Nat) (i : Ins) : More w (put5 w1 g o i) := by
  unfold Go.Proofs.Ytifdalddchmlmaa.put5
  exact ((((h.setCell hg _).setCell hg _).setCell hg _).setCell hg _).setCell hg _

theorem G7.step {w : World} {n : Nat} {f : Nat → Int} {g k : Nat} {wr w1 w2 : World} (h : G7 w n f g k wr) (m1 : More wr w1) (e2 : w2 = put5 w1 g (k * 5) (decW (f k))) : G7 w n f g (k + 1) w2 := by
  have hlo := h.lo
  subst e2
  refine ⟨(h.res.more m1).put5 (by omega) _ _, (h.flt.more m1).put5 (by omega) _ _, fun j hj => ?_, hlo, ?_, (h.more.trans m1).put5 (by omega) _ _⟩
  · have h1 := (h.row j hj).more m1
    by_cases e : j = k
    · subst e
      have h2 := h1.put (decW (f j))
      have e3 : codeF f (j + 1) j = decW (f j) := by unfold codeF; rw [if_pos (by omega)]
      rw [e3]
      exact h2
    · rw [codeF_next f e]
      exact h1.far _ (fun q => e q.symm)
  · have := m1.size; have := h.hi; unfold Go.Proofs.Ytifdalddchmlmaa.put5; simp; omega

theorem insWr_code {w : World} {g n : Nat} {ins : Nat → Ins} (h : ∀ j, j < n → InsWr w g j (ins j)) : CodeAt w g 0 n ins := fun j hj => by
  have := h j hj
  simp only [Nat.zero_add]
  exact ⟨this.op.1, this.a.1, this.b.1, this.c.1, this.n.1⟩

set_option maxHeartbeats 2000000 in
theorem get_calls (ra : Option Addr) (rl rc rb ro : Nat) (log : Nat → Int) (sec : Nat → Bool) (wa : Option Addr) (n wc wb wo : Nat) (f : Nat → Int) (w : World) (hra : 0 < rl → ra = some ⟨rb, ro, none⟩) (hr : RegsAt w rb ro rl log sec)
    (hwa : 0 < n → wa = some ⟨wb, wo, none⟩) (hw : WordsAt w wb wo n f) (hf : ∀ i, i < n → W32 (f i)) :
    Calls Try.prog 10 #[.slice ra rl rc, .slice wa n wc] w (GetAns (getP rl log sec n f) w) := by
  have H : Hid ((0 < rl → ra = some ⟨rb, ro, none⟩) ∧ RegsAt w rb ro rl log sec ∧ (0 < n → wa = some ⟨wb, wo, none⟩) ∧ WordsAt w wb wo n f ∧ ∀ i, i < n → W32 (f i)) := ⟨hra, hr, hwa, hw, hf⟩
  clear hra hr hwa hw hf
  obtain ⟨W0, HW0⟩ : ∃ W : World, Hid (W = (w.alloc (.cells #[.slice none 0 0, .slice none 0 0] 25)).alloc (.cells #[.int .i64 0, .int .i64 0] 29)) := ⟨_, rfl⟩
  have Hm0 : Hid (More w W0) := by rw [HW0.out]; exact ((More.refl _).alloc _ _).alloc _ _
  have E0 : Hid (Blk W0 w.heap.size #[.slice none 0 0, .slice none 0 0] 25) := by rw [HW0.out]; exact (Blk.last _ _ _).alloc _ _
  have E1 : Hid (Blk W0 (w.heap.size + 1) #[.int .i64 0, .int .i64 0] 29) := by rw [HW0.out]; show Blk _ _ _ _; simpa using Blk.last (w.alloc (.cells #[.slice none 0 0, .slice none 0 0] 25)) #[.int .i64 0, .int .i64 0] 29
  by_cases hn : 8000 < n
  · have d : decide (8000 < (n : Int)) = true := by simp; omega
    go_enter Try.func10, Try.ntmps10
    go_wp2
    refine bodyPost_ret (v := .tuple #[.agg #[.slice none 0 0, .slice none 0 0], .agg #[.int .i64 2, .int .i64 0]]) (by simp [results, Try.results10, go_sem, *]) rfl ?_
    refine ⟨?_, .inr ⟨fun h => by have h1 : n ≤ 8000 := h.2.2.1; omega, rfl⟩⟩
    exact ((More.refl _).alloc _ _).alloc _ _
  · have d : decide (8000 < (n : Int)) = false := by simp; omega
    obtain ⟨i0, hi, hz0, hz1, hz2⟩ := info_parts info39z
    have hmk : ∀ w : World, (Instr.makeSlice 23 (.int .i64 (n : Int)) (.int .i64 (n : Int))).run Try.prog w = .ok (.slice (some ⟨w.heap.size, 0, none⟩) n n) (w.alloc (.cells (madeCells (Value.agg #[.int .i64 0, .int .i64 0, .int .i64 0, .int .i64 0, .int .i64 0]).cells (n * 5)) 39)) := fun w => by
      have := run_make (P := Try.prog) w 23 39 i0 _ Try.underlying23 hi hz0 .i64 .i64 n n (by omega) (Int.le_refl _) (by rw [hz2]; omega) (by omega)
      simp only [Int.toNat_natCast, hz1] at this
      exact this
    clear hi hz0 hz1 hz2
    obtain ⟨w2, Hw2⟩ : ∃ w_ : World, Hid (w_ = W0.alloc (.cells (madeCells (Value.agg #[.int .i64 0, .int .i64 0, .int .i64 0, .int .i64 0, .int .i64 0]).cells (n * 5)) 39)) := ⟨_, rfl⟩
    obtain ⟨g0, Hg0⟩ : ∃ x, Hid (x = W0.heap.size) := ⟨_, rfl⟩
    have HS0 : Hid (G7 w n f g0 0 w2) := by
      have hsz := E1.out.lt
      have e := Hg0.out
      rw [Hw2.out]
      refine ⟨E0.out.alloc _ _, E1.out.alloc _ _, fun j hj => ?_, by omega, by rw [e]; simp, Hm0.out.alloc _ _⟩
      have hb := Blk.last W0 (madeCells (Value.agg #[.int .i64 0, .int .i64 0, .int .i64 0, .int .i64 0, .int .i64 0]).cells (n * 5)) 39
      rw [e]
      have k : codeF f 0 j = ⟨0, 0, 0, 0, 0⟩ := by unfold codeF; rw [if_neg (Nat.not_lt_zero _)]
      rw [k]
      have h5 := made5_at n j hj
      exact ⟨⟨hb.cell (h5 0 (by decide)), hb.frozen _⟩, ⟨hb.cell (h5 1 (by decide)), hb.frozen _⟩, ⟨hb.cell (h5 2 (by decide)), hb.frozen _⟩, ⟨hb.cell (h5 3 (by decide)), hb.frozen _⟩, ⟨hb.cell (h5 4 (by decide)), hb.frozen _⟩⟩
    obtain ⟨mc, Hmc⟩ : ∃ x, Hid (madeCells (Value.agg #[.int .i64 0, .int .i64 0, .int .i64 0, .int .i64 0, .int .i64 0]).cells (n * 5) = x) := ⟨_, rfl⟩
    rw [Hmc.out] at hmk Hw2
    have Hg1 : Hid (W0.heap.size = w.heap.size + 2) := by rw [HW0.out]; show _ = _; simp
    go_enter Try.func10, Try.ntmps10
    go_wp2_with (fail)
    rw [← HW0.out, ← Hw2.out, ← Hg1.out, ← Hg0.out]
    clear hmk
    go_loopg [19] n (fun g iv wr => ∃ (k : Nat), k + g = n ∧ iv = .int .i64 k ∧ Hid (G7 w n f g0 k wr))
    case atStart => exact ⟨0, by omega, rfl, HS0.out⟩
    case round =>
      obtain ⟨k, hkg, rfl, Hr⟩ := hrel
      clear HS0
      cases gk with
      | zero =>
        obtain rfl : k = n := by omega
        have hg := Hr.out.lo
        have hin : PIn wr (getP rl log sec k f) ⟨ra, rb, ro, rc, some ⟨g0, 0, none⟩, g0, 0, k⟩ := by
          refine ⟨H.out.1, fun _ => rfl, H.out.2.1.more Hr.out.more, ?_⟩
          refine insWr_code fun j hj => ?_
          have h1 := Hr.out.row j hj
          have hj' : j < k := hj
          unfold codeF at h1
          rw [if_pos hj'] at h1
          exact h1
        have CH : Calls Try.prog 13 #[.agg #[.slice ra rl rc, .slice (some ⟨g0, 0, none⟩) k k]] wr fun e w' => ∃ r : Bool, e = .returned (.bool r) ∧ (r = true ↔ (getP rl log sec k f).Ok 8000 10) ∧ More wr w' := hard_calls (getP rl log sec k f) ⟨ra, rb, ro, rc, some ⟨g0, 0, none⟩, g0, 0, k⟩ wr hin
        have Hin : Hid (PIn wr (getP rl log sec k f) ⟨ra, rb, ro, rc, some ⟨g0, 0, none⟩, g0, 0, k⟩) := hin
        clear hin
        go_wp2_with (fail)
        refine CH.mono ?_
        rintro e w3 ⟨r, rfl, hr, m3⟩
        have F0 : Hid (Blk w3 w.heap.size #[.slice none 0 0, .slice none 0 0] 25) := Hr.out.res.more m3
        have F1 : Hid (Blk w3 (w.heap.size + 1) #[.int .i64 0, .int .i64 0] 29) := Hr.out.flt.more m3
        have Hm3 : Hid (More w w3) := Hr.out.more.trans m3
        have Hin3 : Hid (PIn w3 (getP rl log sec k f) ⟨ra, rb, ro, rc, some ⟨g0, 0, none⟩, g0, 0, k⟩) := Hin.out.more m3
        clear m3 CH
        cases r with
        | false =>
          have Hno : Hid (¬ (getP rl log sec k f).Ok 8000 10) := fun h => by simpa using hr.2 h
          clear hr
          have a0 : w3.cell? ⟨w.heap.size, 0, none⟩ = some (.slice none 0 0) := F0.out.cell rfl
          have a1 : w3.cell? ⟨w.heap.size, 1, none⟩ = some (.slice none 0 0) := F0.out.cell rfl
          have a2 : w3.cell? ⟨w.heap.size + 1, 0, none⟩ = some (.int .i64 0) := F1.out.cell rfl
          have a3 : w3.cell? ⟨w.heap.size + 1, 1, none⟩ = some (.int .i64 0) := F1.out.cell rfl
          have z0 := F0.out.frozen 0
          have z1 := F0.out.frozen 1
          have z2 := F1.out.frozen 0
          have z3 := F1.out.frozen 1
          go_wp2
          refine bodyPost_ret (v := .tuple #[.agg #[.slice none 0 0, .slice none 0 0], .agg #[.int .i64 2, .int .i64 0]]) (by simp [results, Try.results10, go_sem, *]) rfl ?_
          refine ⟨?_, .inr ⟨Hno.out, rfl⟩⟩
          exact (((Hm3.out.setCell (by show w.heap.size ≤ _; simp) _).setCell (by show w.heap.size ≤ _; simp) _).setCell (by show w.heap.size ≤ _; simp) _).setCell (by show w.heap.size ≤ _; simp) _
        | true =>
          have Hok : Hid ((getP rl log sec k f).Ok 8000 10) := hr.1 rfl
          clear hr
          have hrl : rl ≤ 6 := Hok.out.1.1
          go_wp2_with (fail)
          refine (clone_calls ra rl rc rb ro log sec w3 H.out.1 (H.out.2.1.more Hm3.out) hrl).mono ?_
          rintro e w4 ⟨a', g', c', rfl, ha', hg', hr', m4⟩
          have G0 : Hid (Blk w4 w.heap.size #[.slice none 0 0, .slice none 0 0] 25) := F0.out.more m4
          have G1 : Hid (Blk w4 (w.heap.size + 1) #[.int .i64 0, .int .i64 0] 29) := F1.out.more m4
          have Hm4 : Hid (More w w4) := Hm3.out.trans m4
          have HR : Hid ((0 < rl → a' = some ⟨g', 0, none⟩) ∧ w3.heap.size ≤ g' ∧ RegsAt w4 g' 0 rl log sec) := ⟨ha', hg', hr'⟩
          have HC4 : Hid (CodeAt w4 g0 0 k (fun j => decW (f j))) := Hin3.out.code.more m4
          have hz := F1.out.lt
          clear m4 ha' hg' hr' hrl
          have a0 : w4.cell? ⟨w.heap.size, 0, none⟩ = some (.slice none 0 0) := G0.out.cell rfl
          have a1 : w4.cell? ⟨w.heap.size, 1, none⟩ = some (.slice none 0 0) := G0.out.cell rfl
          have a2 : w4.cell? ⟨w.heap.size + 1, 0, none⟩ = some (.int .i64 0) := G1.out.cell rfl
          have a3 : w4.cell? ⟨w.heap.size + 1, 1, none⟩ = some (.int .i64 0) := G1.out.cell rfl
          have z0 := G0.out.frozen 0
          have z1 := G0.out.frozen 1
          have z2 := G1.out.frozen 0
          have z3 := G1.out.frozen 1
          go_wp2
          refine bodyPost_ret (v := .tuple #[.agg #[.slice a' rl c', .slice (some ⟨g0, 0, none⟩) k k], .agg #[.int .i64 0, .int .i64 0]]) (by simp [results, Try.results10, go_sem, *]) rfl ?_
          have hm : More w ((((w4.setCell ⟨w.heap.size, 0, none⟩ (.slice a' rl c')).setCell ⟨w.heap.size, 1, none⟩ (.slice (some ⟨g0, 0, none⟩) k k)).setCell ⟨w.heap.size + 1, 0, none⟩ (.int .i64 0)).setCell ⟨w.heap.size + 1, 1, none⟩ (.int .i64 0)) :=
            (((Hm4.out.setCell (by show w.heap.size ≤ _; simp) _).setCell (by show w.heap.size ≤ _; simp) _).setCell (by show w.heap.size ≤ _; simp) _).setCell (by show w.heap.size ≤ _; simp) _
          have hg2 := HR.out.2.1
          refine ⟨hm, .inl ⟨Hok.out, ⟨a', g', 0, c', some ⟨g0, 0, none⟩, g0, 0, k⟩, ⟨HR.out.1, fun _ => rfl, ?_, ?_⟩, rfl⟩⟩
          · exact (((HR.out.2.2.other (b' := w.heap.size) (by show _ ≠ g'; omega) _ _).other (b' := w.heap.size) (by show _ ≠ g'; omega) _ _).other (b' := w.heap.size + 1) (by show _ ≠ g'; omega) _ _).other (b' := w.heap.size + 1) (by show _ ≠ g'; omega) _ _
          · exact (((HC4.out.other (b' := w.heap.size) (by show _ ≠ g0; omega) _ _).other (b' := w.heap.size) (by show _ ≠ g0; omega) _ _).other (b' := w.heap.size + 1) (by show _ ≠ g0; omega) _ _).other (b' := w.heap.size + 1) (by show _ ≠ g0; omega) _ _
      | succ g =>
        have hk : k < n := by omega
        have hki : (k : Int) < n := by omega
        have hk63 : wrap64 ((k : Int) + 1) = (k : Int) + 1 := by unfold wrap64; omega
        obtain rfl := H.out.2.2.1 (by omega)
        have q0 := (H.out.2.2.2.1.more Hr.out.more) k hk
        have HU : Hid (W32 (f k)) := H.out.2.2.2.2 k hk
        have Hst : Hid (∀ (w1 w2 : World), More wr w1 → w2 = put5 w1 g0 (k * 5) (decW (f k)) → G7 w n f g0 (k + 1) w2) := fun w1 w2 m1 e => Hr.out.step m1 e
        have Hrow : Hid (∀ w1 : World, More wr w1 → InsWr w1 g0 k (codeF f k k)) := fun w1 m1 => (Hr.out.row k hk).more m1
        obtain ⟨u, Hu⟩ : ∃ x, Hid (f k = x) := ⟨_, rfl⟩
        rw [Hu.out] at q0 HU Hst
        go_wp2_with (fail)
        refine (read_calls u wr HU.out).mono ?_
        rintro e w3 ⟨rfl, m3⟩
        have Hm3 : Hid (More wr w3) := m3
        clear m3
        obtain ⟨⟨x0, y0⟩, ⟨x1, y1⟩, ⟨x2, y2⟩, ⟨x3, y3⟩, ⟨x4, y4⟩⟩ := Hrow.out w3 Hm3.out
        obtain ⟨⟨op, a, b, c, m⟩, HI⟩ : ∃ x, Hid (decW u = x) := ⟨_, rfl⟩
        rw [HI.out] at Hst ⊢
        have Hn3 : Hid (G7 w n f g0 (k + 1) (put5 w3 g0 (k * 5) ⟨op, a, b, c, m⟩)) := Hst.out w3 _ Hm3.out rfl
        unfold Go.Proofs.Ytifdalddchmlmaa.put5 at Hn3
        unfold insV
        dsimp only at Hn3 ⊢
        clear Hst Hrow
        go_wp2
        go_roundg g
        case measure => omega
        case rel => exact ⟨k + 1, by omega, by first | rfl | simp, Hn3.out⟩

end Go.Proofs.Ytifdalddchmlmaa
