/-
  What slices.Clone comes to, of words that lie somewhere; and the machine's Told.
-/
import Derived.Test.YtdlhlhbbhjbkpaaMeth
import Derived.Lib.SliceRun
namespace Go.Proofs.Ytdlhlhbbhjbkpaa
open Go.RowKit
set_option linter.unusedVariables false
set_option linter.unusedSimpArgs false
set_option maxRecDepth 8000

def intsL (f : Nat → Int) (n : Nat) : List Value := (List.range n).map fun j => .int .i64 (f j)
theorem intsL_length (f : Nat → Int) (n : Nat) : (intsL f n).length = n := by simp [intsL]
theorem intsL_at (f : Nat → Int) (n j : Nat) (h : j < n) : (intsL f n)[j]? = some (.int .i64 (f j)) := by simp [intsL, h]

set_option maxHeartbeats 400000 in
theorem seq_clone (w : World) (b o n c : Nat) (f : Nat → Int) (n0 : 0 < n) (n1 : n ≤ 64) (hc : ∀ j, j < n → w.cell? ⟨b, o + j, none⟩ = some (.int .i64 (f j))) :
    Calls Try.prog 63 #[.slice (some ⟨b, o, none⟩) n c] w fun e w' => ∃ g cap : Nat, e = .returned (.slice (some ⟨g, 0, none⟩) n cap) ∧ w'.ownsRow w.heap.size 2 1 (.slice (some ⟨g, 0, none⟩) n cap) n (intsL f n) ∧ More w w' := by
  obtain ⟨i0, hi, hz0, hz1, hz2⟩ := info_parts info2
  have Hi : Hid (Try.prog.info? 2 = some i0 ∧ i0.zero = some (.int .i64 0) ∧ i0.size = 1 ∧ i0.bytes = 8) := ⟨hi, hz0, hz1, hz2⟩
  have Hn : Hid (0 < n ∧ n ≤ 64) := ⟨n0, n1⟩
  have Hown1 : Hid ((w.alloc (.cells #[] 2)).ownsRow w.heap.size 2 1 (.slice (some ⟨w.heap.size, 0, none⟩) 0 0) 0 []) := World.ownsRow_made _ #[] 0 (Nat.le_refl _) (by unfold maxLen; omega) rfl
  have Hnews : Hid (∀ j u, (intsL f n)[j]? = some u → (w.alloc (.cells #[] 2)).cell? ((⟨b, o, none⟩ : Addr).add j) = some u) := by
    intro j u hu
    have hj : j < n := by have := (List.getElem?_eq_some_iff.1 hu).1; rw [intsL_length] at this; exact this
    rw [intsL_at f n j hj] at hu
    rw [Go.WideShapes.add_plain, ← Option.some.inj hu]
    exact ((More.refl _).alloc _ _).cell (hc j hj)
  have Hone : Hid (∀ v ∈ intsL f n, v.oneCell' = true) := by intro v hv; simp [intsL] at hv; obtain ⟨j, _, rfl⟩ := hv; rfl
  clear hi hz0 hz1 hz2 n0 n1 hc
  have q60 : ∀ (w : World) (a : Option Addr) (n c n' c' : Nat), (binOp .eql 60 (.slice a n c) (.slice none n' c')).run Try.prog w = .ok (.bool a.isNone) w := fun w a n c n' c' => Lib.run_eql_slice_nil w _ _ a n c n' c' Try.underlying60
  go_enter Try.func63, Try.ntmps63
  go_wp2_with (at_builtin; refine wpList_append_lies _ rfl (.tmp 5) (.tmp 6) 60 rfl w.heap.size 2 i0 (.int .i64 0) 1 8 Try.underlying60 Hi.out.1 Hi.out.2.1 Hi.out.2.2.1 Hi.out.2.2.2 rfl (by decide) (.slice (some ⟨w.heap.size, 0, none⟩) 0 0) 0 [] rfl Hown1.out ⟨b, o, none⟩ n c (intsL f n) rfl (by rw [intsL_length, Nat.mul_one]) Hnews.out Hone.out Hn.out.1 (by have := Hn.out.2; unfold maxLen; omega) (by have := Hn.out.2; omega) (by simp) (w.heap.size + 1) (by simp) ?_; intro g cap w2 own2 gr2 hat2 hlt2)
  go_ret
  refine ⟨g, cap, by simp, by simpa using own2, ((More.refl _).alloc _ _).grownBy gr2 (fun k hk => ?_)⟩
  have : w.heap.size = k := by simpa [Value.ownBlock] using hk
  omega

theorem info60 : (Try.prog.info? 60).map (fun i => (i.zero, i.size, i.bytes)) = some (some (.slice none 0 0), 1, 24) := by kernel_rfl
theorem madeNil_at (n j : Nat) (h : j < n) : (madeCells #[.slice none 0 0] n)[j]? = some (.slice none 0 0) := by
  unfold madeCells
  simp [h, Nat.mod_one]

/-- Where Told stands: so many regions are laid. -/
structure Tld (w wr : World) (M : Nat) (rv cv : Value) (x : Ms) (gm rl k : Nat) (base G C : Nat → Nat) : Prop where
  at_ : MAt wr M rv cv { x with mv := .slice (some ⟨gm, 0, none⟩) rl rl }
  grew : w.grownBy wr (some M)
  lo : w.heap.size < gm
  hi : gm < wr.heap.size
  cells : ∀ j, j < rl → ∃ v, Wr wr gm j v
  done : ∀ j, j < k → Wr wr gm j (.slice (some ⟨G j, 0, none⟩) (base (j + 1) - base j) (C j))
  words : ∀ j, j < k → ∀ i, i < base (j + 1) - base j → wr.cell? ⟨G j, i, none⟩ = some (.int .i64 (x.wd (base j + i)))
  apart : ∀ j, j < k → gm < G j ∧ G j < wr.heap.size
  r0 : Wr wr w.heap.size 0 (.int .i64 0)
  r1 : Wr wr w.heap.size 1 (.int .i64 0)
  r2 : Wr wr w.heap.size 2 (.int .i64 0)
  r3 : Wr wr w.heap.size 3 (.slice none 0 0)
  r4 : Wr wr w.heap.size 4 (.slice none 0 0)

theorem Tld.start {w : World} {M : Nat} {rv cv : Value} {x : Ms} (hm : MAt w M rv cv x) (rl : Nat) (base G C : Nat → Nat) :
    Tld w (((w.setCell ⟨M, 6, none⟩ (.slice (some ⟨w.heap.size + 1, 0, none⟩) rl rl)).alloc (.cells #[.int .i64 0, .int .i64 0, .int .i64 0, .slice none 0 0, .slice none 0 0] 37)).alloc (.cells (madeCells #[.slice none 0 0] rl) 60)) M rv cv x (w.heap.size + 1) rl 0 base G C := by
  have hlt := hm.lt
  refine ⟨((hm.setMv _).alloc _).alloc _, gr_alloc (gr_alloc (grown_set _ _ _ _) _) _, by omega, by simp, fun j hj => ⟨.slice none 0 0, ?_⟩, fun j hj => by omega, fun j hj => by omega, fun j hj => by omega, ⟨by go_simp, by go_simp⟩, ⟨by go_simp, by go_simp⟩, ⟨by go_simp, by go_simp⟩, ⟨by go_simp, by go_simp⟩, ⟨by go_simp, by go_simp⟩⟩
  have hj2 := madeNil_at rl j hj
  exact ⟨by go_simp, by go_simp⟩

theorem Tld.step {w wr w5 : World} {M : Nat} {rv cv : Value} {x : Ms} {gm rl k : Nat} {base G C : Nat → Nat} (h : Tld w wr M rv cv x gm rl k base G C) (hM : M < w.heap.size) (hk : k < rl) (m : More wr w5) (g cap : Nat)
    (own : w5.ownsRow wr.heap.size 2 1 (.slice (some ⟨g, 0, none⟩) (base (k + 1) - base k) cap) (base (k + 1) - base k) (intsL (fun i => x.wd (base k + i)) (base (k + 1) - base k))) :
    Tld w (w5.setCell ⟨gm, k, none⟩ (.slice (some ⟨g, 0, none⟩) (base (k + 1) - base k) cap)) M rv cv x gm rl (k + 1) base (fun j => if j = k then g else G j) (fun j => if j = k then cap else C j) := by
  have hg := own.lt g rfl
  have hlo := h.lo
  have hhi := h.hi
  have hgs := grown_set w5 gm k (.slice (some ⟨g, 0, none⟩) (base (k + 1) - base k) cap)
  have hb : w.grownBy w5 (some M) := grown_trans h.grew (m.grow _)
  have hsz : w5.heap.size ≤ (w5.setCell ⟨gm, k, none⟩ (.slice (some ⟨g, 0, none⟩) (base (k + 1) - base k) cap)).heap.size := hgs.size
  have hres : ∀ j v, Wr wr w.heap.size j v → Wr (w5.setCell ⟨gm, k, none⟩ (.slice (some ⟨g, 0, none⟩) (base (k + 1) - base k) cap)) w.heap.size j v := fun j v hw => (hw.kept (m.grow none) (by simp)).other _ _ _ (by omega)
  refine ⟨(h.at_.more m).kept hgs (by simp; omega), ⟨hb.os, hb.tape, hb.output, Nat.le_trans hb.size hgs.size, fun i hi hne => ?_⟩, h.lo, by have := m.size; omega, fun j hj => ?_, fun j hj => ?_, fun j hj i hi => ?_, fun j hj => ?_, hres _ _ h.r0, hres _ _ h.r1, hres _ _ h.r2, hres _ _ h.r3, hres _ _ h.r4⟩
  · rw [hgs.block i (by have := hb.size; omega) (by simp; omega)]
    exact hb.block i hi hne
  · obtain ⟨v, hv⟩ := h.cells j hj
    have hv5 := hv.kept (m.grow none) (by simp)
    by_cases e : j = k
    · subst e; exact ⟨_, hv5.same _⟩
    · exact ⟨v, hv5.other _ _ _ (by omega)⟩
  · by_cases e : j = k
    · subst e
      obtain ⟨v, hv⟩ := h.cells j hk
      simp only [if_true]
      exact (hv.kept (m.grow none) (by simp)).same _
    · simp only [e, if_false]
      exact ((h.done j (by omega)).kept (m.grow none) (by simp)).other _ _ _ (by omega)
  · by_cases e : j = k
    · subst e
      simp only [if_true]
      rw [hgs.cell (v := .int .i64 (x.wd (base j + i))) ?_ (by simp; omega)]
      rw [World.ownsRow.cellAt own i (by omega)]
      exact intsL_at _ _ i hi
    · simp only [e, if_false]
      have := h.apart j (by omega)
      exact hgs.cell (m.cell (h.words j (by omega) i hi)) (by simp; omega)
  · have := m.size
    by_cases e : j = k
    · simp only [e, if_true]; omega
    · simp only [e, if_false]
      have := h.apart j (by omega)
      omega

theorem Tld.mem {w wr : World} {M : Nat} {rv cv : Value} {x : Ms} {gm rl : Nat} {base G C : Nat → Nat} (h : Tld w wr M rv cv x gm rl rl base G C) (hrl : rl ≤ 6) (hb : ∀ j, j < rl → base (j + 1) - base j ≤ 64) {w' : World} (hg : ∀ b o v, gm ≤ b → wr.cell? ⟨b, o, none⟩ = some v → w'.cell? ⟨b, o, none⟩ = some v) :
    MIn w' ⟨rl, fun j => base (j + 1) - base j, fun j i => x.wd (base j + i)⟩ ⟨some ⟨gm, 0, none⟩, gm, 0, rl, fun j => some ⟨G j, 0, none⟩, C, G, fun _ => 0⟩ := by
  have hlo := h.lo
  refine ⟨fun _ => rfl, fun j hj => ?_, fun j hj _ => rfl, fun j hj i hi => ?_, by dsimp only; omega, fun j hj => by have := hb j hj; dsimp only; omega⟩
  · dsimp only
    rw [Nat.zero_add]
    exact hg _ _ _ (Nat.le_refl _) (h.done j hj).1
  · dsimp only
    rw [Nat.zero_add]
    have := h.apart j hj
    exact hg _ _ _ (by omega) (h.words j hj i hi)

set_option maxHeartbeats 1000000 in
theorem seq_told (w : World) (M : Nat) (ra : Option Addr) (rl rc : Nat) (cv : Value) (x : Ms) (se : List Se) (base : Nat → Nat) (h : Run w M (.slice ra rl rc) cv x se) (hrl : rl ≤ 6) (hst : ∀ j, j ≤ rl → x.st j = (base j : Int)) (hb0 : ∀ j, j < rl → base j < base (j + 1)) (hb : ∀ j, j < rl → base (j + 1) - base j ≤ 64) (hb1 : ∀ j, j ≤ rl → base j ≤ 384) (hl : se.length ≤ 200000) :
    Calls Try.prog 42 #[.pointer (some ⟨M, 0, none⟩)] w fun e w' => ∃ v, e = .returned v ∧ (∀ (B : Nat) (w'' : World), B < M → w'.grownBy w'' (some B) → ShownAt w'' v ⟨x.fin, x.val, x.steps, se, ⟨rl, fun j => base (j + 1) - base j, fun j i => x.wd (base j + i)⟩⟩) ∧ Below M w w' := by
  obtain ⟨sv, hm, ho⟩ := h.out
  obtain ⟨sa, sc, rfl⟩ := own_form ho
  have hM := hm.lt
  have hn : ¬ M = w.heap.size := by omega
  have hn' : ¬ w.heap.size = M := by omega
  have hn1 : ¬ M = w.heap.size + 1 := by omega
  have hn1' : ¬ w.heap.size + 1 = M := by omega
  have H : Hid (MAt w M (.slice ra rl rc) cv { x with sv := .slice sa se.length sc } ∧ SeenOwn w (M + 1) (.slice sa se.length sc) se ∧ rl ≤ 6 ∧ (∀ j, j ≤ rl → x.st j = (base j : Int)) ∧ (∀ j, j < rl → base j < base (j + 1)) ∧ (∀ j, j < rl → base (j + 1) - base j ≤ 64) ∧ (∀ j, j ≤ rl → base j ≤ 384) ∧ se.length ≤ 200000) := ⟨hm, ho, hrl, hst, hb0, hb, hb1, hl⟩
  have HM : Hid (M < w.heap.size) := hM
  have c0 := hm.p0.1
  obtain ⟨c6, f6⟩ := hm.mv
  have Hst := Tld.start hm rl base (fun _ => 0) (fun _ => 0)
  have HT : Hid (Tld w (((w.setCell ⟨M, 6, none⟩ (.slice (some ⟨w.heap.size + 1, 0, none⟩) rl rl)).alloc (.cells #[.int .i64 0, .int .i64 0, .int .i64 0, .slice none 0 0, .slice none 0 0] 37)).alloc (.cells (madeCells #[.slice none 0 0] rl) 60)) M (.slice ra rl rc) cv { x with sv := .slice sa se.length sc } (w.heap.size + 1) rl 0 base (fun _ => 0) (fun _ => 0)) := Hst
  have hmk := run_make_row' (P := Try.prog) 30 60 (.slice none 0 0) 24 Try.underlying30 info60 rfl .i64 .i64 rl (by omega) (by omega)
  clear h hm ho hrl hst hb0 hb hb1 hl Hst
  go_enter Try.func42, Try.ntmps42
  go_wp2
  go_loopg [21] rl (fun q i wr => ∃ (k : Nat) (G C : Nat → Nat), k + q = rl ∧ i = .int .i64 k ∧ Tld w wr M (.slice ra rl rc) cv { x with sv := .slice sa se.length sc } (w.heap.size + 1) rl k base G C)
  case atStart => exact ⟨0, _, _, by omega, rfl, HT.out⟩
  case round =>
    obtain ⟨k, G, C, hkq, rfl, hT⟩ := hrel
    have HTk : Hid (Tld w wr M (.slice ra rl rc) cv { x with sv := .slice sa se.length sc } (w.heap.size + 1) rl k base G C) := hT
    have d6 := hT.at_.mv.1
    dsimp only at d6
    clear hT HT hmk c0 c6 f6
    cases gk with
    | zero =>
      obtain rfl : k = rl := by omega
      have d2 := HTk.out.at_.fin.1
      have d3 := HTk.out.at_.val.1
      have d4 := HTk.out.at_.steps.1
      have d5 := HTk.out.at_.sv.1
      dsimp only at d2 d3 d4 d5
      obtain ⟨z0, g0⟩ := HTk.out.r0
      obtain ⟨z1, g1⟩ := HTk.out.r1
      obtain ⟨z2, g2⟩ := HTk.out.r2
      obtain ⟨z3, g3⟩ := HTk.out.r3
      obtain ⟨z4, g4⟩ := HTk.out.r4
      go_wp2
      refine bodyPost_ret (v := .agg #[.int .i64 x.fin, .int .i64 x.val, .int .i64 x.steps, .slice sa se.length sc, .slice (some ⟨w.heap.size + 1, 0, none⟩) k k]) (by simp [results, Try.results42, go_sem, *]) rfl ⟨_, rfl, ?_⟩
      have hg : wr.grownBy (((((wr.setCell ⟨w.heap.size, 0, none⟩ (.int .i64 x.fin)).setCell ⟨w.heap.size, 1, none⟩ (.int .i64 x.val)).setCell ⟨w.heap.size, 2, none⟩ (.int .i64 x.steps)).setCell ⟨w.heap.size, 3, none⟩ (.slice sa se.length sc)).setCell ⟨w.heap.size, 4, none⟩ (.slice (some ⟨w.heap.size + 1, 0, none⟩) k k)) (some w.heap.size) := gr_set (gr_set (gr_set (gr_set (gr_set (grown_refl _ _) _ _) _ _) _ _) _ _) _ _
      have hw : w.grownBy (((((wr.setCell ⟨w.heap.size, 0, none⟩ (.int .i64 x.fin)).setCell ⟨w.heap.size, 1, none⟩ (.int .i64 x.val)).setCell ⟨w.heap.size, 2, none⟩ (.int .i64 x.steps)).setCell ⟨w.heap.size, 3, none⟩ (.slice sa se.length sc)).setCell ⟨w.heap.size, 4, none⟩ (.slice (some ⟨w.heap.size + 1, 0, none⟩) k k)) (some M) :=
        ⟨hg.os.trans HTk.out.grew.os, hg.tape.trans HTk.out.grew.tape, hg.output.trans HTk.out.grew.output, Nat.le_trans HTk.out.grew.size hg.size, fun i hi hne => by rw [hg.block i (by have := HTk.out.grew.size; omega) (by simp; omega)]; exact HTk.out.grew.block i hi hne⟩
      refine ⟨fun B w2 hB hg2 => ⟨.slice sa se.length sc, ⟨some ⟨w.heap.size + 1, 0, none⟩, w.heap.size + 1, 0, k, fun j => some ⟨G j, 0, none⟩, C, G, fun _ => 0⟩, rfl, ((H.out.2.1.kept hw (fun b hb => by have := Option.some.inj hb; omega)).kept hg2 (fun b hb => by have := Option.some.inj hb; omega)).at_ (by have := H.out.2.2.2.2.2.2.2; omega), HTk.out.mem H.out.2.2.1 H.out.2.2.2.2.2.1 (fun b o v hb hc => hg2.cell (hg.cell hc (by simp; omega)) (by have := HM.out; simp; omega))⟩, ?_⟩
      exact Below.grown (Below.refl _ _) hw (Nat.le_of_lt HM.out) (fun b hb => by have := Option.some.inj hb; omega)
    | succ q =>
      have hk : k < rl := by omega
      have hk' : (k : Int) < (rl : Int) := by omega
      have hk0 : (0 : Int) ≤ (k : Int) := by omega
      have Hk : Hid (k < rl ∧ rl ≤ 6 ∧ base k < base (k + 1) ∧ base (k + 1) - base k ≤ 64 ∧ base (k + 1) ≤ 384) := ⟨hk, H.out.2.2.1, H.out.2.2.2.2.1 k hk, H.out.2.2.2.2.2.1 k hk, H.out.2.2.2.2.2.2.1 (k + 1) (by omega)⟩
      have t0 : wr.cell? ⟨M, 404 + k, none⟩ = some (.int .i64 (base k : Int)) := by have := (HTk.out.at_.st k (by have := Hk.out; omega)).1; dsimp only at this; rw [H.out.2.2.2.1 k (by omega)] at this; exact this
      have t1 : wr.cell? ⟨M, 404 + (k + 1), none⟩ = some (.int .i64 (base (k + 1) : Int)) := by have := (HTk.out.at_.st (k + 1) (by have := Hk.out; omega)).1; dsimp only at this; rw [H.out.2.2.2.1 (k + 1) (by omega)] at this; exact this
      obtain ⟨lo, hlo⟩ : ∃ lo, base k = lo := ⟨_, rfl⟩
      obtain ⟨hi, hhi⟩ : ∃ hi, base (k + 1) = hi := ⟨_, rfl⟩
      rw [hlo] at t0
      rw [hhi] at t1
      have Hlo : Hid (base k = lo ∧ base (k + 1) = hi) := ⟨hlo, hhi⟩
      have b1 : (lo : Int) ≤ (hi : Int) := by have := Hk.out; omega
      have b2 : (hi : Int) ≤ 384 := by have := Hk.out; omega
      have b3 : (0 : Int) ≤ (lo : Int) := by omega
      have b4 : (0 : Int) ≤ (hi : Int) := by omega
      have b5 : (lo : Int) ≤ 384 := by omega
      have b6 : ¬ 384 = lo := by have := Hk.out; omega
      have hk7 : (k : Int) < 7 := by have := Hk.out; omega
      have hk17 : (k : Int) + 1 < 7 := by have := Hk.out; omega
      have hk10 : (0 : Int) ≤ (k : Int) + 1 := by omega
      have hkw : wrap64 ((k : Int) + 1) = (k : Int) + 1 := by unfold wrap64; have := Hk.out; omega
      have ht : ((k : Int) + 1).toNat = k + 1 := by omega
      obtain ⟨v0, hv0⟩ := HTk.out.cells k hk
      obtain ⟨y0, f0⟩ := hv0
      have hwr := wrapEq
      obtain ⟨S, HS⟩ : ∃ S : World → Prop, Hid (∀ w', S w' ↔ w'.cell? ⟨M, 6, none⟩ = some (.slice (some ⟨w.heap.size + 1, 0, none⟩) rl rl) ∧ w'.cell? ⟨M, 404 + k, none⟩ = some (.int .i64 (lo : Int)) ∧ w'.cell? ⟨M, 404 + (k + 1), none⟩ = some (.int .i64 (hi : Int))) := ⟨_, fun _ => Iff.rfl⟩
      have k6 : ∀ i : { w' // S w' }, i.val.cell? ⟨M, 6, none⟩ = some (.slice (some ⟨w.heap.size + 1, 0, none⟩) rl rl) := fun i => ((HS.out _).1 i.property).1
      have kl : ∀ i : { w' // S w' }, i.val.cell? ⟨M, 404 + k, none⟩ = some (.int .i64 (lo : Int)) := fun i => ((HS.out _).1 i.property).2.1
      have kh : ∀ i : { w' // S w' }, i.val.cell? ⟨M, 404 + (k + 1), none⟩ = some (.int .i64 (hi : Int)) := fun i => ((HS.out _).1 i.property).2.2
      have hne : Nonempty { w' // S w' } := ⟨⟨wr, (HS.out _).2 ⟨d6, t0, t1⟩⟩⟩
      go_wp2_with (fail)
      refine wp_region_ord (S := S) [(0, true), (1, true), (2, true), (3, true), (4, true), (5, true), (6, true), (7, true), (8, true), (9, true), (10, true), (11, true), (12, true), (13, true), (14, true), (15, true), (16, true), (17, true), (18, true), (19, true), (20, true), (21, true), (22, true), (23, true), (24, false), (25, true), (26, false)] (by kernel_rfl) (by kernel_rfl) (by kernel_rfl) ?_ ?_
      · exact (HS.out _).2 ⟨d6, t0, t1⟩
      iterate 23 (refine wpOrd_take rfl (by kernel_rfl) (fun K hK => ?_); go_simp; refine hK _ _ ?_; clear hK K)
      refine wpOrd_take rfl (by kernel_rfl) (fun K hK => ?_); go_simp; refine hK _ _ ?_; clear hK K
      refine wpOrd_busy rfl (by kernel_rfl) (fun K hK => ?_); go_simp
      refine (seq_clone _ M (17 + lo) (hi - lo) _ (fun i => x.wd (lo + i)) (by have := Hk.out; have := Hlo.out; omega) (by have := Hk.out; have := Hlo.out; omega) (fun j hj => ?_)).mono ?_
      · have := (HTk.out.at_.drew.wd (lo + j) (by have := Hk.out; have := Hlo.out; omega)).1
        rw [Nat.add_assoc]
        exact this
      rintro e w5 ⟨g, cap, rfl, own5, m5⟩
      have H5 : Hid (w5.ownsRow wr.heap.size 2 1 (.slice (some ⟨g, 0, none⟩) (hi - lo) cap) (hi - lo) (intsL (fun i => x.wd (lo + i)) (hi - lo)) ∧ More wr w5) := ⟨own5, (More.refl _).drew.trans m5⟩
      have y5 := H5.out.2.cell y0
      have f5 := (Wr.kept (H5.out.2.grow none) (⟨y0, f0⟩ : Wr wr (w.heap.size + 1) k v0) (by simp)).2
      have e6 := H5.out.2.cell d6
      have e0 := H5.out.2.cell t0
      have e1 := H5.out.2.cell t1
      clear own5 m5
      go_simp
      refine hK _ _ ((HS.out _).2 ⟨e6, e0, e1⟩) ?_; clear hK K
      refine wpOrd_take rfl (by kernel_rfl) (fun K hK => ?_); go_simp; refine hK _ _ ?_; clear hK K
      refine wpOrd_busy rfl (by kernel_rfl) (fun K hK => ?_); go_simp
      refine hK _ _ ((HS.out _).2 (by go_simp)) ?_; clear hK K
      refine wpOrd_done ?_
      clear k6 kl kh hne
      go_wp2
      go_roundg q
      case measure => omega
      case rel =>
        have hst := HTk.out.step HM.out Hk.out.1 H5.out.2 g cap (by rw [Hlo.out.1, Hlo.out.2]; exact H5.out.1)
        rw [Hlo.out.1, Hlo.out.2] at hst
        exact ⟨k + 1, _, _, by omega, by first | rfl | (push_cast; rfl), hst⟩
end Go.Proofs.Ytdlhlhbbhjbkpaa
