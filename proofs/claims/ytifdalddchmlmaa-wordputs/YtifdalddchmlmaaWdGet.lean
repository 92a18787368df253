/-
  What evenkeelref8.Get comes to.
-/
import Derived.Test.YtifdalddchmlmaaWdPut
import Derived.Test.YtifdalddchmlmaaOrd
namespace Go.Proofs.Ytifdalddchmlmaa
open Go.RowKit
set_option linter.unusedVariables false
set_option linter.unusedSimpArgs false
set_option maxRecDepth 8000

theorem info39z : (Try.prog.info? 39).map (fun i => (i.zero, i.size, i.bytes)) = some (some (.agg #[.int .i64 0, .int .i64 0, .int .i64 0, .int .i64 0, .int .i64 0]), 5, 40) := by kernel_rfl

/-- The program that words are. -/
def getP (rl : Nat) (log : Nat → Int) (sec : Nat → Bool) (n : Nat) (f : Nat → Int) : Prg := ⟨rl, log, sec, n, fun j => decW (f j)⟩
def insL (f : Nat → Int) (n : Nat) : List Ins := (List.range n).map fun j => decW (f j)
theorem insL_length (f : Nat → Int) (n : Nat) : (insL f n).length = n := by simp [insL]
theorem insL_next (f : Nat → Int) (n : Nat) : insL f (n + 1) = insL f n ++ [decW (f n)] := by simp [insL, List.range_succ]
theorem insL_get (f : Nat → Int) (n j : Nat) (h : j < n) : (insL f n)[j]? = some (decW (f j)) := by simp [insL, h]

/-- Where the loop stands. -/
structure G8 (w : World) (rv : Value) (f : Nat → Int) (k : Nat) (lv : Value) (wr : World) : Prop where
  res : Blk wr w.heap.size #[.slice none 0 0, .slice none 0 0] 25
  flt : Blk wr (w.heap.size + 1) #[.int .i64 0, .int .i64 0] 29
  prg : Blk wr (w.heap.size + 2) #[rv, lv] 25
  own : wr.ownsRow (w.heap.size + 3) 39 5 lv k (flatI (insL f k))
  more : More w wr

theorem Blk.put {w : World} {n : Nat} {cs : Array Value} {T : TypeId} (h : Blk w n cs T) (j : Nat) (v : Value) : Blk (w.setCell ⟨n, j, none⟩ v) n (cs.setIfInBounds j v) T := by
  unfold Blk at h ⊢
  unfold World.setCell
  simp [Array.getElem?_modify, h]
theorem Blk.put1 {w : World} {n : Nat} {x y z : Value} {T : TypeId} (h : Blk w n #[x, y] T) : Blk (w.setCell ⟨n, 1, none⟩ z) n #[x, z] T := by
  simpa using h.put 1 z

theorem G8.step {w : World} {rv : Value} {f : Nat → Int} {k : Nat} {lv : Value} {wr w1 w2 w3 : World} (h : G8 w rv f k lv wr) (m1 : More wr w1) (g2 : w1.grownBy w2 lv.ownBlock) {g c : Nat}
    (own : w2.ownsRow (w.heap.size + 3) 39 5 (.slice (some ⟨g, 0, none⟩) (k + 1) c) (k + 1) (flatI (insL f (k + 1)))) (e3 : w3 = w2.setCell ⟨w.heap.size + 2, 1, none⟩ (.slice (some ⟨g, 0, none⟩) (k + 1) c)) : G8 w rv f (k + 1) (.slice (some ⟨g, 0, none⟩) (k + 1) c) w3 := by
  have hb : ∀ b, lv.ownBlock = some b → w.heap.size + 3 ≤ b := fun b hb => (h.own.lt b hb).1
  have n3 : ∀ b, b < w.heap.size + 3 → some b ≠ lv.ownBlock := fun b hlt e => by have := hb b e.symm; omega
  have hg := (own.lt g rfl).1
  have up : ∀ {n cs T}, n < w.heap.size + 3 → Blk wr n cs T → Blk w2 n cs T := fun hn hB => by
    have h2 := hB.more m1
    exact (g2.block _ h2.lt (n3 _ hn)).trans h2
  subst e3
  refine ⟨(up (by omega) h.res).other (by omega) _ _, (up (by omega) h.flt).other (by omega) _ _, (up (by omega) h.prg).put1, ?_, ?_⟩
  · exact World.ownsRow.kept own (grown_set _ _ _ _) (.inr (by simp [Value.ownBlock]; omega))
  · exact ((h.more.trans m1).grownBy g2 (fun b e => by have := hb b e; omega)).setCell (by show w.heap.size ≤ _; simp) _

/-- What Get answers. -/
def GetAns (q : Prg) (w : World) (e : Ending) (w' : World) : Prop :=
  More w w' ∧ ((q.Ok 8000 10 ∧ ∃ lq : Loc, PIn w' q lq ∧ e = .returned (.tuple #[.agg #[.slice lq.ra q.rl lq.rc, .slice lq.ca q.cl lq.cc], .agg #[.int .i64 0, .int .i64 0]])) ∨
    (¬ q.Ok 8000 10 ∧ e = .returned (.tuple #[.agg #[.slice none 0 0, .slice none 0 0], .agg #[.int .i64 2, .int .i64 0]])))

set_option maxHeartbeats 2000000 in
theorem ref8_get (ra : Option Addr) (rl rc rb ro : Nat) (log : Nat → Int) (sec : Nat → Bool) (wa : Option Addr) (n wc wb wo : Nat) (f : Nat → Int) (w : World) (hra : 0 < rl → ra = some ⟨rb, ro, none⟩) (hr : RegsAt w rb ro rl log sec)
    (hwa : 0 < n → wa = some ⟨wb, wo, none⟩) (hw : WordsAt w wb wo n f) (hf : ∀ i, i < n → W32 (f i)) (hn : n ≤ 3000000000000) :
    Calls Try.prog 11 #[.slice ra rl rc, .slice wa n wc] w (GetAns (getP rl log sec n f) w) := by
  have H : Hid ((0 < rl → ra = some ⟨rb, ro, none⟩) ∧ RegsAt w rb ro rl log sec ∧ (0 < n → wa = some ⟨wb, wo, none⟩) ∧ WordsAt w wb wo n f ∧ ∀ i, i < n → W32 (f i)) := ⟨hra, hr, hwa, hw, hf⟩
  clear hra hr hwa hw hf
  obtain ⟨i0, hi, hz0, hz1, hz2⟩ := info_parts info39z
  have Hi : Hid (Try.prog.info? 39 = some i0 ∧ i0.zero = some (.agg #[.int .i64 0, .int .i64 0, .int .i64 0, .int .i64 0, .int .i64 0]) ∧ i0.size = 5 ∧ i0.bytes = 40) := ⟨hi, hz0, hz1, hz2⟩
  clear hi hz0 hz1 hz2
  have HS0 : Hid (G8 w (.slice ra rl rc) f 0 (.slice none 0 0) (((w.alloc (.cells #[.slice none 0 0, .slice none 0 0] 25)).alloc (.cells #[.int .i64 0, .int .i64 0] 29)).alloc (.cells #[.slice ra rl rc, .slice none 0 0] 25))) := by
    refine ⟨((Blk.last _ _ _).alloc _ _).alloc _ _, ?_, ?_, World.ownsRow_nil _ _ _ _, (((More.refl _).alloc _ _).alloc _ _).alloc _ _⟩
    · exact (by simpa using Blk.last (w.alloc (.cells #[.slice none 0 0, .slice none 0 0] 25)) #[.int .i64 0, .int .i64 0] 29 : Blk _ (w.heap.size + 1) _ _).alloc _ _
    · simpa using Blk.last ((w.alloc (.cells #[.slice none 0 0, .slice none 0 0] 25)).alloc (.cells #[.int .i64 0, .int .i64 0] 29)) #[.slice ra rl rc, .slice none 0 0] 25
  go_enter Try.func11, Try.ntmps11
  go_wp2_with (fail)
  go_loopg [7] n (fun g iv wr => ∃ (k : Nat) (va : Option Addr) (vc : Nat), k + g = n ∧ iv = .int .i64 k ∧ Hid (G8 w (.slice ra rl rc) f k (.slice va k vc) wr))
  case atStart => exact ⟨0, none, 0, by omega, rfl, HS0.out⟩
  case round =>
    obtain ⟨k, va, vc, hkg, rfl, Hr⟩ := hrel
    clear HS0
    have p0 : wr.cell? ⟨w.heap.size + 2, 0, none⟩ = some (.slice ra rl rc) := Hr.out.prg.cell rfl
    have p1 : wr.cell? ⟨w.heap.size + 2, 1, none⟩ = some (.slice va k vc) := Hr.out.prg.cell rfl
    have zp := Hr.out.prg.lt
    have zf := Hr.out.prg.frozen 1
    cases gk with
    | zero =>
      obtain rfl : k = n := by omega
      have hin : ∃ g, PIn wr (getP rl log sec k f) ⟨ra, rb, ro, rc, va, g, 0, vc⟩ ∧ (0 < k → w.heap.size + 3 ≤ g) := by
        by_cases h0 : 0 < k
        · obtain ⟨g, c, hv, hlo, _⟩ := Hr.out.own.form h0
          cases hv
          refine ⟨g, ⟨H.out.1, fun _ => rfl, H.out.2.1.more Hr.out.more, fun i hi => ?_⟩, fun _ => hlo⟩
          have hi' : i < k := hi
          have e := flatI_at (insL f k) i _ (insL_get f k i hi')
          simp only [Nat.zero_add]
          exact ⟨by rw [World.ownsRow.cellAt Hr.out.own _ (by omega)]; exact e.1, by rw [World.ownsRow.cellAt Hr.out.own _ (by omega)]; exact e.2.1, by rw [World.ownsRow.cellAt Hr.out.own _ (by omega)]; exact e.2.2.1, by rw [World.ownsRow.cellAt Hr.out.own _ (by omega)]; exact e.2.2.2.1, by rw [World.ownsRow.cellAt Hr.out.own _ (by omega)]; exact e.2.2.2.2⟩
        · exact ⟨0, ⟨H.out.1, fun h => absurd h h0, H.out.2.1.more Hr.out.more, fun i hi => absurd hi (by show ¬ i < k; omega)⟩, fun h => absurd h h0⟩
      obtain ⟨g, hin, hg⟩ := hin
      have Hin : Hid (PIn wr (getP rl log sec k f) ⟨ra, rb, ro, rc, va, g, 0, vc⟩ ∧ (0 < k → w.heap.size + 3 ≤ g)) := ⟨hin, hg⟩
      have CH : Calls Try.prog 15 #[.agg #[.slice ra rl rc, .slice va k vc]] wr fun e w' => ∃ r : Bool, e = .returned (.bool r) ∧ (r = true ↔ (getP rl log sec k f).Ok 8000 10) ∧ More wr w' := ref_hard (getP rl log sec k f) ⟨ra, rb, ro, rc, va, g, 0, vc⟩ wr hin
      clear hin hg
      go_wp2_with (fail)
      refine CH.mono ?_
      rintro e w1 ⟨r, rfl, hr, m1⟩
      have E0 : Hid (Blk w1 w.heap.size #[.slice none 0 0, .slice none 0 0] 25) := Hr.out.res.more m1
      have E1 : Hid (Blk w1 (w.heap.size + 1) #[.int .i64 0, .int .i64 0] 29) := Hr.out.flt.more m1
      have E2 : Hid (Blk w1 (w.heap.size + 2) #[.slice ra rl rc, .slice va k vc] 25) := Hr.out.prg.more m1
      have Hm1 : Hid (More w w1) := Hr.out.more.trans m1
      have Hin1 : Hid (PIn w1 (getP rl log sec k f) ⟨ra, rb, ro, rc, va, g, 0, vc⟩) := Hin.out.1.more m1
      clear m1 CH p0 p1 zp zf
      have p0 : w1.cell? ⟨w.heap.size + 2, 0, none⟩ = some (.slice ra rl rc) := E2.out.cell rfl
      have p1 : w1.cell? ⟨w.heap.size + 2, 1, none⟩ = some (.slice va k vc) := E2.out.cell rfl
      have a0 : w1.cell? ⟨w.heap.size, 0, none⟩ = some (.slice none 0 0) := E0.out.cell rfl
      have a1 : w1.cell? ⟨w.heap.size, 1, none⟩ = some (.slice none 0 0) := E0.out.cell rfl
      have a2 : w1.cell? ⟨w.heap.size + 1, 0, none⟩ = some (.int .i64 0) := E1.out.cell rfl
      have a3 : w1.cell? ⟨w.heap.size + 1, 1, none⟩ = some (.int .i64 0) := E1.out.cell rfl
      have z0 := E0.out.frozen 0
      have z1 := E0.out.frozen 1
      have z2 := E1.out.frozen 0
      have z3 := E1.out.frozen 1
      cases r with
      | false =>
        have Hno : Hid (¬ (getP rl log sec k f).Ok 8000 10) := fun h => by simpa using hr.2 h
        clear hr
        go_wp2
        refine bodyPost_ret (v := .tuple #[.agg #[.slice none 0 0, .slice none 0 0], .agg #[.int .i64 2, .int .i64 0]]) (by simp [results, Try.results11, go_sem, *]) rfl ?_
        refine ⟨?_, .inr ⟨Hno.out, rfl⟩⟩
        exact (((Hm1.out.setCell (by show w.heap.size ≤ _; simp) _).setCell (by show w.heap.size ≤ _; simp) _).setCell (by show w.heap.size ≤ _; simp) _).setCell (by show w.heap.size ≤ _; simp) _
      | true =>
        have Hok : Hid ((getP rl log sec k f).Ok 8000 10) := hr.1 rfl
        clear hr
        go_wp2
        refine bodyPost_ret (v := .tuple #[.agg #[.slice ra rl rc, .slice va k vc], .agg #[.int .i64 0, .int .i64 0]]) (by simp [results, Try.results11, go_sem, *]) rfl ?_
        have hm : More w ((((w1.setCell ⟨w.heap.size, 0, none⟩ (.slice ra rl rc)).setCell ⟨w.heap.size, 1, none⟩ (.slice va k vc)).setCell ⟨w.heap.size + 1, 0, none⟩ (.int .i64 0)).setCell ⟨w.heap.size + 1, 1, none⟩ (.int .i64 0)) :=
          (((Hm1.out.setCell (by show w.heap.size ≤ _; simp) _).setCell (by show w.heap.size ≤ _; simp) _).setCell (by show w.heap.size ≤ _; simp) _).setCell (by show w.heap.size ≤ _; simp) _
        refine ⟨hm, .inl ⟨Hok.out, ⟨ra, rb, ro, rc, va, g, 0, vc⟩, ⟨H.out.1, Hin1.out.hc, H.out.2.1.more hm, ?_⟩, rfl⟩⟩
        by_cases h0 : 0 < k
        · have hg := Hin.out.2 h0
          exact (((Hin1.out.code.other (b' := w.heap.size) (by show _ ≠ g; omega) _ _).other (b' := w.heap.size) (by show _ ≠ g; omega) _ _).other (b' := w.heap.size + 1) (by show _ ≠ g; omega) _ _).other (b' := w.heap.size + 1) (by show _ ≠ g; omega) _ _
        · exact fun i hi => absurd hi (by show ¬ i < k; omega)
    | succ g =>
      have hk : k < n := by omega
      have hki : (k : Int) < n := by omega
      have hk63 : wrap64 ((k : Int) + 1) = (k : Int) + 1 := by unfold wrap64; omega
      obtain rfl := H.out.2.2.1 (by omega)
      have q0 := (H.out.2.2.2.1.more Hr.out.more) k hk
      have hu := H.out.2.2.2.2 k hk
      have HL : Hid (insL f (k + 1) = insL f k ++ [decW (f k)]) := insL_next f k
      obtain ⟨u, Hu⟩ : ∃ x, Hid (f k = x) := ⟨_, rfl⟩
      rw [Hu.out] at q0 hu HL
      unfold W32 at hu
      obtain ⟨u0, u1⟩ := hu
      by_cases h8 : 8192 ≤ u % 16384
      · have hd : decide (8192 ≤ u % 16384) = true := by simp [h8]
        obtain ⟨W2, HW2⟩ : ∃ w_ : World, Hid (w_ = (wr.alloc (.cells #[.int .i64 (u / 16384 / 16 / 16 / 16), .int .i64 (u / 16384 / 16 / 16 % 16), .int .i64 (u / 16384 / 16 % 16), .int .i64 (u / 16384 % 16), .int .i64 (u % 16384 - 16384)] 39)).alloc (.cells #[.int .i64 (u / 16384 / 16 / 16 / 16), .int .i64 (u / 16384 / 16 / 16 % 16), .int .i64 (u / 16384 / 16 % 16), .int .i64 (u / 16384 % 16), .int .i64 (u % 16384 - 16384)] 39)) := ⟨_, rfl⟩
        have Hm2 : Hid (More wr W2) := by rw [HW2.out]; exact ((More.refl _).alloc _ _).alloc _ _
        have Hown : Hid (W2.ownsRow (w.heap.size + 3) 39 5 (.slice va k vc) k (flatI (insL f k))) := by
          refine World.ownsRow.kept Hr.out.own (Hm2.out.grow none) ?_
          cases (Value.slice va k vc).ownBlock with
          | none => left; rfl
          | some b => right; simp
        have Hnews : Hid (∀ j v, (flatI [decW u])[j]? = some v → W2.cell? ((⟨wr.heap.size + 1, 0, none⟩ : Addr).add j) = some v) := by
          have hb : Blk W2 (wr.heap.size + 1) #[.int .i64 (u / 16384 / 16 / 16 / 16), .int .i64 (u / 16384 / 16 / 16 % 16), .int .i64 (u / 16384 / 16 % 16), .int .i64 (u / 16384 % 16), .int .i64 (u % 16384 - 16384)] 39 := by
            rw [HW2.out]
            simpa using Blk.last (wr.alloc (.cells #[.int .i64 (u / 16384 / 16 / 16 / 16), .int .i64 (u / 16384 / 16 / 16 % 16), .int .i64 (u / 16384 / 16 % 16), .int .i64 (u / 16384 % 16), .int .i64 (u % 16384 - 16384)] 39)) #[.int .i64 (u / 16384 / 16 / 16 / 16), .int .i64 (u / 16384 / 16 / 16 % 16), .int .i64 (u / 16384 / 16 % 16), .int .i64 (u / 16384 % 16), .int .i64 (u % 16384 - 16384)] 39
          refine NewsAt.of hb ?_
          unfold decW
          rw [if_pos h8]
          rfl
        have Hsz : Hid (w.heap.size + 3 ≤ W2.heap.size) := by have := Hm2.out.size; show _ ≤ _; omega
        have Hst : Hid (∀ (w3 w4 : World) (g3 c3 : Nat), W2.grownBy w3 (Value.slice va k vc).ownBlock → w3.ownsRow (w.heap.size + 3) 39 5 (.slice (some ⟨g3, 0, none⟩) (k + 1) c3) (k + 1) (flatI (insL f (k + 1))) → w4 = w3.setCell ⟨w.heap.size + 2, 1, none⟩ (.slice (some ⟨g3, 0, none⟩) (k + 1) c3) → G8 w (.slice ra rl rc) f (k + 1) (.slice (some ⟨g3, 0, none⟩) (k + 1) c3) w4) := fun w3 w4 g3 c3 g2 own e => Hr.out.step Hm2.out g2 own e
        have Hp2 : Hid (Blk W2 (w.heap.size + 2) #[.slice ra rl rc, .slice va k vc] 25 ∧ ∀ b, (Value.slice va k vc).ownBlock = some b → w.heap.size + 3 ≤ b) := ⟨Hr.out.prg.more Hm2.out, fun b hb => (Hr.out.own.lt b hb).1⟩
        go_wp2_with (at_builtin; rw [← HW2.out]; refine wpList_append_lies _ rfl (.tmp 53) (.tmp 55) 23 rfl (w.heap.size + 3) 39 i0 (.agg #[.int .i64 0, .int .i64 0, .int .i64 0, .int .i64 0, .int .i64 0]) 5 40 Try.underlying23 Hi.out.1 Hi.out.2.1 Hi.out.2.2.1 Hi.out.2.2.2 rfl (by decide) (.slice va k vc) k (flatI (insL f k)) rfl Hown.out ⟨wr.heap.size + 1, 0, none⟩ 1 1 (flatI [decW u]) rfl (by rw [flatI_length]; rfl) Hnews.out (flatI_one _) (by decide) (by unfold maxLen; omega) (by omega) Hsz.out _ rfl ?_; intro g3 cap3 w3 own3 gr3 hat3 hlt3; have B3 : Blk w3 (w.heap.size + 2) #[.slice ra rl rc, .slice va k vc] 25 := (gr3.block _ Hp2.out.1.lt (fun e => by have := Hp2.out.2 _ e.symm; omega)).trans Hp2.out.1; have x1 := B3.cell (j := 1) rfl; have x2 := B3.frozen 1)
        have Hr3 : Hid (G8 w (.slice ra rl rc) f (k + 1) (.slice (some ⟨g3, 0, none⟩) (k + 1) cap3) (w3.setCell ⟨w.heap.size + 2, 1, none⟩ (.slice (some ⟨g3, 0, none⟩) (k + 1) cap3))) := by
          rw [← flatI_append, ← HL.out] at own3
          exact Hst.out _ _ _ _ gr3 own3 rfl
        go_roundg g
        case measure => omega
        case rel => exact ⟨k + 1, _, cap3, by omega, by first | rfl | simp, Hr3.out⟩
      · have hd : decide (8192 ≤ u % 16384) = false := by simp; omega
        obtain ⟨W2, HW2⟩ : ∃ w_ : World, Hid (w_ = (wr.alloc (.cells #[.int .i64 (u / 16384 / 16 / 16 / 16), .int .i64 (u / 16384 / 16 / 16 % 16), .int .i64 (u / 16384 / 16 % 16), .int .i64 (u / 16384 % 16), .int .i64 (u % 16384)] 39)).alloc (.cells #[.int .i64 (u / 16384 / 16 / 16 / 16), .int .i64 (u / 16384 / 16 / 16 % 16), .int .i64 (u / 16384 / 16 % 16), .int .i64 (u / 16384 % 16), .int .i64 (u % 16384)] 39)) := ⟨_, rfl⟩
        have Hm2 : Hid (More wr W2) := by rw [HW2.out]; exact ((More.refl _).alloc _ _).alloc _ _
        have Hown : Hid (W2.ownsRow (w.heap.size + 3) 39 5 (.slice va k vc) k (flatI (insL f k))) := by
          refine World.ownsRow.kept Hr.out.own (Hm2.out.grow none) ?_
          cases (Value.slice va k vc).ownBlock with
          | none => left; rfl
          | some b => right; simp
        have Hnews : Hid (∀ j v, (flatI [decW u])[j]? = some v → W2.cell? ((⟨wr.heap.size + 1, 0, none⟩ : Addr).add j) = some v) := by
          have hb : Blk W2 (wr.heap.size + 1) #[.int .i64 (u / 16384 / 16 / 16 / 16), .int .i64 (u / 16384 / 16 / 16 % 16), .int .i64 (u / 16384 / 16 % 16), .int .i64 (u / 16384 % 16), .int .i64 (u % 16384)] 39 := by
            rw [HW2.out]
            simpa using Blk.last (wr.alloc (.cells #[.int .i64 (u / 16384 / 16 / 16 / 16), .int .i64 (u / 16384 / 16 / 16 % 16), .int .i64 (u / 16384 / 16 % 16), .int .i64 (u / 16384 % 16), .int .i64 (u % 16384)] 39)) #[.int .i64 (u / 16384 / 16 / 16 / 16), .int .i64 (u / 16384 / 16 / 16 % 16), .int .i64 (u / 16384 / 16 % 16), .int .i64 (u / 16384 % 16), .int .i64 (u % 16384)] 39
          refine NewsAt.of hb ?_
          unfold decW
          rw [if_neg h8]
          rfl
        have Hsz : Hid (w.heap.size + 3 ≤ W2.heap.size) := by have := Hm2.out.size; show _ ≤ _; omega
        have Hst : Hid (∀ (w3 w4 : World) (g3 c3 : Nat), W2.grownBy w3 (Value.slice va k vc).ownBlock → w3.ownsRow (w.heap.size + 3) 39 5 (.slice (some ⟨g3, 0, none⟩) (k + 1) c3) (k + 1) (flatI (insL f (k + 1))) → w4 = w3.setCell ⟨w.heap.size + 2, 1, none⟩ (.slice (some ⟨g3, 0, none⟩) (k + 1) c3) → G8 w (.slice ra rl rc) f (k + 1) (.slice (some ⟨g3, 0, none⟩) (k + 1) c3) w4) := fun w3 w4 g3 c3 g2 own e => Hr.out.step Hm2.out g2 own e
        have Hp2 : Hid (Blk W2 (w.heap.size + 2) #[.slice ra rl rc, .slice va k vc] 25 ∧ ∀ b, (Value.slice va k vc).ownBlock = some b → w.heap.size + 3 ≤ b) := ⟨Hr.out.prg.more Hm2.out, fun b hb => (Hr.out.own.lt b hb).1⟩
        go_wp2_with (at_builtin; rw [← HW2.out]; refine wpList_append_lies _ rfl (.tmp 53) (.tmp 55) 23 rfl (w.heap.size + 3) 39 i0 (.agg #[.int .i64 0, .int .i64 0, .int .i64 0, .int .i64 0, .int .i64 0]) 5 40 Try.underlying23 Hi.out.1 Hi.out.2.1 Hi.out.2.2.1 Hi.out.2.2.2 rfl (by decide) (.slice va k vc) k (flatI (insL f k)) rfl Hown.out ⟨wr.heap.size + 1, 0, none⟩ 1 1 (flatI [decW u]) rfl (by rw [flatI_length]; rfl) Hnews.out (flatI_one _) (by decide) (by unfold maxLen; omega) (by omega) Hsz.out _ rfl ?_; intro g3 cap3 w3 own3 gr3 hat3 hlt3; have B3 : Blk w3 (w.heap.size + 2) #[.slice ra rl rc, .slice va k vc] 25 := (gr3.block _ Hp2.out.1.lt (fun e => by have := Hp2.out.2 _ e.symm; omega)).trans Hp2.out.1; have x1 := B3.cell (j := 1) rfl; have x2 := B3.frozen 1)
        have Hr3 : Hid (G8 w (.slice ra rl rc) f (k + 1) (.slice (some ⟨g3, 0, none⟩) (k + 1) cap3) (w3.setCell ⟨w.heap.size + 2, 1, none⟩ (.slice (some ⟨g3, 0, none⟩) (k + 1) cap3))) := by
          rw [← flatI_append, ← HL.out] at own3
          exact Hst.out _ _ _ _ gr3 own3 rfl
        go_roundg g
        case measure => omega
        case rel => exact ⟨k + 1, _, cap3, by omega, by first | rfl | simp, Hr3.out⟩

/-- evenkeelref8.Words, of the same words. -/
theorem words_true (a : Option Addr) (n c : Nat) (a' : Option Addr) (c' b o b' o' : Nat) (f : Nat → Int) (w : World) (ha : 0 < n → a = some ⟨b, o, none⟩) (ha' : 0 < n → a' = some ⟨b', o', none⟩) (hw : WordsAt w b o n f) (hw' : WordsAt w b' o' n f) (hn : n < 4611686018427387904) :
    Calls Try.prog 9 #[.slice a n c, .slice a' n c'] w fun e w' => e = .returned (.bool true) ∧ More w w' := by
  have H : Hid ((0 < n → a = some ⟨b, o, none⟩) ∧ (0 < n → a' = some ⟨b', o', none⟩) ∧ WordsAt w b o n f ∧ WordsAt w b' o' n f) := ⟨ha, ha', hw, hw'⟩
  clear ha ha' hw hw'
  go_enter Try.func9, Try.ntmps9
  go_wp2_with (fail)
  go_loopg [5] n (fun g iv wr => ∃ k : Nat, k + g = n ∧ iv = .int .i64 k ∧ Hid (More w wr))
  case atStart => exact ⟨0, by omega, rfl, More.refl _⟩
  case round =>
    obtain ⟨k, hkg, rfl, Hr⟩ := hrel
    cases gk with
    | zero =>
      obtain rfl : k = n := by omega
      go_wp2
      go_ret
      exact ⟨rfl, Hr.out⟩
    | succ g =>
      have hk : k < n := by omega
      have hki : (k : Int) < n := by omega
      have hk63 : wrap64 ((k : Int) + 1) = (k : Int) + 1 := by unfold wrap64; omega
      obtain rfl := H.out.1 (by omega)
      obtain rfl := H.out.2.1 (by omega)
      have q0 := (H.out.2.2.1.more Hr.out) k hk
      have q1 := (H.out.2.2.2.more Hr.out) k hk
      obtain ⟨u, Hu⟩ : ∃ x, Hid (f k = x) := ⟨_, rfl⟩
      rw [Hu.out] at q0 q1
      obtain ⟨S, HS⟩ : ∃ S : World → Prop, Hid (∀ w', S w' ↔ More wr w') := ⟨_, fun _ => Iff.rfl⟩
      have HS0 : S wr.drew := (HS.out _).2 (More.refl _).drew
      have k0 : ∀ i : { w' // S w' }, i.val.cell? ⟨b, o + k, none⟩ = some (.int .u32 u) := fun i => ((HS.out _).1 i.property).cell q0
      have k1 : ∀ i : { w' // S w' }, i.val.cell? ⟨b', o' + k, none⟩ = some (.int .u32 u) := fun i => ((HS.out _).1 i.property).cell q1
      have hne : Nonempty { w' // S w' } := ⟨⟨_, HS0⟩⟩
      clear q0 q1
      go_wp2_with (fail)
      refine wp_region_ord (S := S) [(0, true), (1, true), (2, true), (3, true), (4, true), (5, true), (6, true), (7, true), (8, true)] (by kernel_rfl) (by kernel_rfl) (by kernel_rfl) HS0 ?_
      iterate 9 (refine wpOrd_take rfl (by kernel_rfl) (fun K hK => ?_); go_simp; refine hK _ _ ?_; clear hK K)
      refine wpOrd_done ?_
      clear k0 k1 hne HS0
      go_wp2
      go_roundg g
      case measure => omega
      case rel => exact ⟨k + 1, by omega, by first | rfl | simp, Hr.out.drew⟩

end Go.Proofs.Ytifdalddchmlmaa
