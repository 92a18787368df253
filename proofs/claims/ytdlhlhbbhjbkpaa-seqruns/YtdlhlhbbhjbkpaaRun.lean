/-
  What package seq's Run comes to: the run that chapter 3 says, or what is wrong.
-/
import Derived.Test.YtdlhlhbbhjbkpaaWay
import Derived.Test.YtdlhlhbbhjbkpaaNew
import Derived.Test.YtdlhlhbbhjbkpaaTold
namespace Go.Proofs.Ytdlhlhbbhjbkpaa
open Go.RowKit
set_option linter.unusedVariables false
set_option linter.unusedSimpArgs false
set_option maxRecDepth 8000

theorem hid_of {P : Prop} (h : P) : Hid P := h

/-- The machine at the end, as what is told. -/
theorem fin_like {m : Mem} {R : Sh} {x : Ms} {se : List Se} (h : Fin_ m R x se) : Mem.Like ⟨m.ml, fun j => baseN m.len (j + 1) - baseN m.len j, fun j i => x.wd (baseN m.len j + i)⟩ R.mem := by
  have hl : ∀ j, baseN m.len (j + 1) - baseN m.len j = m.len j := fun j => by simp only [baseN]; omega
  refine ⟨h.ml.symm, fun i hi => ?_, fun i hi j hj => ?_⟩
  · dsimp only; rw [hl, h.len]
  · dsimp only at hj ⊢
    rw [hl] at hj
    exact h.w.wd i hi j hj

set_option maxHeartbeats 1000000 in
theorem seq_run_wrong (p : Prg) (l : Loc) (ma : Option Addr) (ml mc : Nat) (fuel code : Int) (w : World) (hc : ¬ code = 0)
    (hnew : ∀ w1, More w w1 → Calls Try.prog 38 #[.agg #[.slice l.ra p.rl l.rc, .slice l.ca p.cl l.cc], .slice ma ml mc, .int .i64 fuel] w1 fun e w' => ∃ z, MC z (.slice none 0 0) (.slice none 0 0) (ms0 0) ∧ e = .returned (.tuple #[.agg z, .int .i64 code]) ∧ More w1 w') :
    Calls Try.prog 20 #[.agg #[.slice l.ra p.rl l.rc, .slice l.ca p.cl l.cc], .slice ma ml mc, .int .i64 fuel] w fun e w' => e = .returned (.tuple #[.agg #[.int .i64 0, .int .i64 0, .int .i64 0, .slice none 0 0, .slice none 0 0], .int .i64 code]) ∧ More w w' := by
  obtain ⟨z, z1, z2, z3, z4⟩ := zrow
  have HN : Hid (∀ w1, More w w1 → Calls Try.prog 38 #[.agg #[.slice l.ra p.rl l.rc, .slice l.ca p.cl l.cc], .slice ma ml mc, .int .i64 fuel] w1 fun e w' => ∃ z, MC z (.slice none 0 0) (.slice none 0 0) (ms0 0) ∧ e = .returned (.tuple #[.agg z, .int .i64 code]) ∧ More w1 w') := hnew
  have Hz : Hid (MC z (.slice none 0 0) (.slice none 0 0) (ms0 0) ∧ (Try.prog.info? 70).map (·.size) = some 411 ∧ z.size = 411) := ⟨z3, z4, z3.size⟩
  clear hnew z3 z4
  go_enter Try.func20, Try.ntmps20
  go_wp2_with (fail)
  refine (HN.out _ (((More.refl _).alloc _ _).alloc _ _)).mono ?_
  rintro e w1 ⟨c, mcc, rfl, m1⟩
  have Hc : Hid (MC c (.slice none 0 0) (.slice none 0 0) (ms0 0)) := mcc
  have s1 : w.heap.size + 2 ≤ w1.heap.size := by have := m1.size; have := size_alloc2 w (.cells #[.slice l.ra p.rl l.rc, .slice l.ca p.cl l.cc] 29) (.cells #[.int .i64 0, .int .i64 0, .int .i64 0, .slice none 0 0, .slice none 0 0] 37); omega
  have Hm1 : Hid (More w w1) := (((More.refl _).alloc _ _).alloc _ _).trans m1
  obtain ⟨w3, hw3⟩ : ∃ w3, w3 = w1.alloc (.cells c 70) := ⟨_, rfl⟩
  have Hw3 : Hid (w3 = w1.alloc (.cells c 70)) := hw3
  have zz : ∀ j v, Wr ((w.alloc (.cells #[.slice l.ra p.rl l.rc, .slice l.ca p.cl l.cc] 29)).alloc (.cells #[.int .i64 0, .int .i64 0, .int .i64 0, .slice none 0 0, .slice none 0 0] 37)) (w.heap.size + 1) j v → Wr w3 (w.heap.size + 1) j v := fun j v hv => by rw [hw3]; exact (hv.kept (m1.grow none) (by simp)).kept (World.grownBy_alloc w1 _ none) (by simp)
  obtain ⟨y0, g0⟩ := zz 0 (.int .i64 0) ⟨by go_simp, by go_simp⟩
  obtain ⟨y1, g1⟩ := zz 1 (.int .i64 0) ⟨by go_simp, by go_simp⟩
  obtain ⟨y2, g2⟩ := zz 2 (.int .i64 0) ⟨by go_simp, by go_simp⟩
  obtain ⟨y3, g3⟩ := zz 3 (.slice none 0 0) ⟨by go_simp, by go_simp⟩
  obtain ⟨y4, g4⟩ := zz 4 (.slice none 0 0) ⟨by go_simp, by go_simp⟩
  have n1 : ¬ w1.heap.size = w.heap.size + 1 := by omega
  have n2 : ¬ w.heap.size + 1 = w1.heap.size := by omega
  clear m1 mcc zz hw3
  go_wp2_with (refine wpList_store_row rfl 70 (.tmp 8) (.tmp 15) rfl w1.heap.size c rfl rfl 70 z (heap_alloc_last _ _) (by rw [Hc.out.size]; exact Hz.out.2.1) (by rw [Hc.out.size, Hz.out.2.2]) (Hc.out.one rfl rfl rfl rfl) ?_; rw [World.setRow_alloc_new, ← Hw3.out])
  refine bodyPost_ret (v := .tuple #[.agg #[.int .i64 0, .int .i64 0, .int .i64 0, .slice none 0 0, .slice none 0 0], .int .i64 code]) (by simp [results, Try.results20, go_sem, *]) rfl ⟨rfl, ?_⟩
  have hg : w3.grownBy (((((w3.setCell ⟨w.heap.size + 1, 0, none⟩ (.int .i64 0)).setCell ⟨w.heap.size + 1, 1, none⟩ (.int .i64 0)).setCell ⟨w.heap.size + 1, 2, none⟩ (.int .i64 0)).setCell ⟨w.heap.size + 1, 3, none⟩ (.slice none 0 0)).setCell ⟨w.heap.size + 1, 4, none⟩ (.slice none 0 0)) (some (w.heap.size + 1)) := gr_set (gr_set (gr_set (gr_set (gr_set (grown_refl _ _) _ _) _ _) _ _) _ _) _ _
  have h3 : More w w3 := by rw [Hw3.out]; exact Hm1.out.alloc _ _
  exact h3.grownBy hg (fun b hb => by have := Option.some.inj hb; omega)

set_option maxHeartbeats 2000000 in
theorem seq_run_ok (p : Prg) (l : Loc) (m : Mem) (ml : MLoc) (fuel : Nat) (w : World) (hp : PIn w p l) (hm : MIn w m ml) (hok : p.Ok 8000 10) (hn64 : ∀ i, i < p.cl → B64 (p.ins i).n) (hfit : FitsOk p.rl p.log m.ml m.len) (hwd : ∀ j, j < m.ml → ∀ i, i < m.len j → B64 (m.wd j i)) (hfuel : fuel ≤ 40000) :
    Calls Try.prog 20 #[.agg #[.slice l.ra p.rl l.rc, .slice l.ca p.cl l.cc], .slice ml.ma m.ml ml.mc, .int .i64 fuel] w fun e w' => ∃ (v : Value) (mm : Mem), e = .returned (.tuple #[v, .int .i64 0]) ∧ ShownAt w' v ⟨(playI p m fuel).fin, (playI p m fuel).val, (playI p m fuel).steps, (playI p m fuel).seen, mm⟩ ∧ mm.Like (playI p m fuel).mem ∧ More w w' := by
  have hml : m.ml = p.rl := hfit.2.1
  have hlen : ∀ i, i < m.ml → (m.len i : Int) = wordsI (p.log i) := fun i hi => hfit.2.2 i (by omega)
  have hpos : ∀ i, i < m.ml → 0 < m.len i ∧ m.len i ≤ 64 := fun i hi => by
    have h1 := hlen i hi
    have h2 := hok.1.2 i (by omega)
    have h3 := two_pow_le (k := (p.log i).toNat) (by omega)
    unfold wordsI at h1
    omega
  have hm6 : m.ml ≤ 6 := by rw [hml]; exact hok.1.1
  have hcl : 1 ≤ p.cl ∧ p.cl ≤ 8000 := ⟨hok.2.1, hok.2.2.1⟩
  have hinv : Inv p m 0 ⟨0, fun _ => 0, m, []⟩ := ⟨Nat.zero_le _, fun _ _ => B64_zero, rfl, fun _ => rfl, hwd, by simp⟩
  obtain ⟨z, z1, z2, z3, z4⟩ := zrow
  have Hz : Hid (MC z (.slice none 0 0) (.slice none 0 0) (ms0 0) ∧ (Try.prog.info? 70).map (·.size) = some 411 ∧ z.size = 411) := ⟨z3, z4, z3.size⟩
  obtain ⟨ra, rb, ro, rc, ca, cb, co, cc⟩ := l
  obtain rfl : ca = some ⟨cb, co, none⟩ := hp.hc (by omega)
  dsimp only
  have H : Hid (PIn w p ⟨ra, rb, ro, rc, some ⟨cb, co, none⟩, cb, co, cc⟩ ∧ (∀ i, i < p.cl → InsOk p.rl p.log p.cl 10 (p.ins i)) ∧ (∀ i, i < p.cl → B64 (p.ins i).n) ∧ m.ml = p.rl ∧ (∀ i, i < m.ml → (m.len i : Int) = wordsI (p.log i)) ∧ (∀ i, i < m.ml → 0 < m.len i ∧ m.len i ≤ 64) ∧ m.ml ≤ 6 ∧ (1 ≤ p.cl ∧ p.cl ≤ 8000) ∧ fuel ≤ 40000 ∧ Inv p m 0 ⟨0, fun _ => 0, m, []⟩) :=
    ⟨hp, hok.2.2.2, hn64, hml, hlen, hpos, hm6, hcl, hfuel, hinv⟩
  have HN : Hid (∀ w1, More w w1 → Calls Try.prog 38 #[.agg #[.slice ra p.rl rc, .slice (some ⟨cb, co, none⟩) p.cl cc], .slice ml.ma m.ml ml.mc, .int .i64 fuel] w1 fun e w' => ∃ (c : Array Value) (W S : Nat → Int), e = .returned (.tuple #[.agg c, .int .i64 0]) ∧ MC c (.slice ra p.rl rc) (.slice (some ⟨cb, co, none⟩) p.cl cc) { ms0 fuel with wd := W, st := S } ∧
      (∀ j, j ≤ m.ml → S j = (baseN m.len j : Int)) ∧ (∀ j, j < m.ml → ∀ i, i < m.len j → W (baseN m.len j + i) = m.wd j i) ∧ More w1 w') :=
    fun w1 m1 => seq_new p ⟨ra, rb, ro, rc, some ⟨cb, co, none⟩, cb, co, cc⟩ m ml fuel w1 (hp.more m1) (hm.more m1) hok hfit hpos (by omega) (by omega)
  obtain ⟨R, HR⟩ : ∃ R, Hid (playI p m fuel = R) := ⟨_, rfl⟩
  rw [HR.out]
  obtain ⟨P, hP⟩ : ∃ P, P = fun (e : Ending) (w' : World) => ∃ (v : Value) (mm : Mem), e = .returned (.tuple #[v, .int .i64 0]) ∧ ShownAt w' v ⟨R.fin, R.val, R.steps, R.seen, mm⟩ ∧ mm.Like R.mem ∧ More w w' := ⟨_, rfl⟩
  rw [← hP]
  have HP : Hid (P = fun (e : Ending) (w' : World) => ∃ (v : Value) (mm : Mem), e = .returned (.tuple #[v, .int .i64 0]) ∧ ShownAt w' v ⟨R.fin, R.val, R.steps, R.seen, mm⟩ ∧ mm.Like R.mem ∧ More w w') := hP
  obtain ⟨va, hva⟩ : ∃ va, ml.ma = va := ⟨_, rfl⟩
  obtain ⟨vc, hvc⟩ : ∃ vc, ml.mc = vc := ⟨_, rfl⟩
  rw [hva, hvc] at HN ⊢
  clear hp hm hok hn64 hfit hwd hfuel hml hlen hpos hm6 hcl hinv z3 z4 hP hva hvc
  go_enter Try.func20, Try.ntmps20
  go_wp2_with (fail)
  refine (HN.out _ (((More.refl _).alloc _ _).alloc _ _)).mono ?_
  rintro e w1 ⟨c, W, S, rfl, mcc, hS, hW, m1⟩
  obtain ⟨w3, hw3⟩ : ∃ w3, w3 = w1.alloc (.cells c 70) := ⟨_, rfl⟩
  have Hw3 : Hid (w3 = w1.alloc (.cells c 70)) := hw3
  have Hc : Hid (MC c (.slice ra p.rl rc) (.slice (some ⟨cb, co, none⟩) p.cl cc) { ms0 fuel with wd := W, st := S } ∧ (∀ j, j ≤ m.ml → S j = (baseN m.len j : Int)) ∧ (∀ j, j < m.ml → ∀ i, i < m.len j → W (baseN m.len j + i) = m.wd j i)) := ⟨mcc, hS, hW⟩
  have s1 : w.heap.size + 2 ≤ w1.heap.size := by have := m1.size; have := size_alloc2 w (.cells #[.slice ra p.rl rc, .slice (some ⟨cb, co, none⟩) p.cl cc] 29) (.cells #[.int .i64 0, .int .i64 0, .int .i64 0, .slice none 0 0, .slice none 0 0] 37); omega
  have Hm3 : Hid (More w w3) := by rw [show Hid (More w w3) = More w w3 from rfl, hw3]; exact ((((More.refl _).alloc _ _).alloc _ _).trans m1).alloc _ _
  have zz : ∀ j v, Wr ((w.alloc (.cells #[.slice ra p.rl rc, .slice (some ⟨cb, co, none⟩) p.cl cc] 29)).alloc (.cells #[.int .i64 0, .int .i64 0, .int .i64 0, .slice none 0 0, .slice none 0 0] 37)) (w.heap.size + 1) j v → Wr w3 (w.heap.size + 1) j v := fun j v hv => by rw [hw3]; exact (hv.kept (m1.grow none) (by simp)).kept (World.grownBy_alloc w1 _ none) (by simp)
  have HZ : Hid (Wr w3 (w.heap.size + 1) 0 (.int .i64 0) ∧ Wr w3 (w.heap.size + 1) 1 (.int .i64 0) ∧ Wr w3 (w.heap.size + 1) 2 (.int .i64 0) ∧ Wr w3 (w.heap.size + 1) 3 (.slice none 0 0) ∧ Wr w3 (w.heap.size + 1) 4 (.slice none 0 0)) :=
    ⟨zz 0 _ ⟨by go_simp, by go_simp⟩, zz 1 _ ⟨by go_simp, by go_simp⟩, zz 2 _ ⟨by go_simp, by go_simp⟩, zz 3 _ ⟨by go_simp, by go_simp⟩, zz 4 _ ⟨by go_simp, by go_simp⟩⟩
  have HA : Hid ((∃ (x : Ms) (se : List Se), Run w3 w1.heap.size (.slice ra p.rl rc) (.slice (some ⟨cb, co, none⟩) p.cl cc) x se ∧ ((∃ k s, Way p m fuel fuel R x se k s) ∨ (x.ended = true ∧ Fin_ m R x se)))) := by
    refine ⟨{ ms0 fuel with wd := W, st := S }, [], ⟨.slice none 0 0, ⟨c, by rw [hw3]; exact heap_alloc_last _ _, mcc⟩, World.ownsRow_nil _ _ _ _⟩, .inl ⟨0, ⟨0, fun _ => 0, m, []⟩, by omega, ⟨rfl, ⟨hW, hS⟩, rfl, rfl, rfl, rfl, rfl, rfl⟩, rfl, H.out.2.2.2.2.2.2.2.2.2, HR.out⟩⟩
  clear m1 mcc zz hw3 hS hW HN
  go_wp2_with (refine wpList_store_row rfl 70 (.tmp 8) (.tmp 15) rfl w1.heap.size c rfl rfl 70 z (heap_alloc_last _ _) (by rw [Hc.out.1.size]; exact Hz.out.2.1) (by rw [Hc.out.1.size, Hz.out.2.2]) (Hc.out.1.one rfl rfl rfl rfl) ?_; rw [World.setRow_alloc_new, ← Hw3.out])
  go_loopg [] fuel (fun g wr => ∃ (x : Ms) (se : List Se), Run wr w1.heap.size (.slice ra p.rl rc) (.slice (some ⟨cb, co, none⟩) p.cl cc) x se ∧ Below w1.heap.size w3 wr ∧ ((∃ k s, Way p m fuel g R x se k s) ∨ (x.ended = true ∧ Fin_ m R x se)))
  case atStart =>
    obtain ⟨x, se, h1, h2⟩ := HA.out
    exact ⟨x, se, h1, Below.refl _ _, h2⟩
  case round =>
    obtain ⟨x, se, hrun, hbel, hway⟩ := hrel
    have HB : Hid (Below w1.heap.size w3 wr) := hbel
    have HG : Hid (Calls Try.prog 39 #[.pointer (some ⟨w1.heap.size, 0, none⟩)] wr fun e w' => Below w1.heap.size wr w' ∧ ∃ (b : Bool) (x' : Ms), e = .returned (.bool b) ∧ Run w' w1.heap.size (.slice ra p.rl rc) (.slice (some ⟨cb, co, none⟩) p.cl cc) x' se ∧ ((b = false ∧ Fin_ m R x' se) ∨ (b = true ∧ ∃ g' k s, gk = g' + 1 ∧ Way p m fuel gk R x' se k s ∧ s.at_ < p.cl))) :=
      goesOn_all p m fuel gk R wr w1.heap.size (.slice ra p.rl rc) (some ⟨cb, co, none⟩) cc x se H.out.2.2.2.2.2.2.2.2.1 hrun hway
    clear hrun hbel hway HA
    go_wp2_with (fail)
    refine HG.out.mono ?_
    rintro e w4 ⟨b4, b, x', rfl, r4, hcase⟩
    have HB4 : Hid (Below w1.heap.size w3 w4) := Below.trans HB.out b4
    have HR4 : Hid (Run w4 w1.heap.size (.slice ra p.rl rc) (.slice (some ⟨cb, co, none⟩) p.cl cc) x' se) := r4
    clear b4 r4 HG HB
    rcases hcase with ⟨rfl, hfin⟩ | ⟨rfl, g', k, s, rfl, hway, hat⟩
    · have HF : Hid (Fin_ m R x' se) := hfin
      clear hfin
      go_wp2_with (fail)
      refine (seq_told w4 w1.heap.size ra p.rl rc _ x' se (baseN m.len) HR4.out (by rw [← H.out.2.2.2.1]; exact H.out.2.2.2.2.2.2.1) (fun j hj => HF.out.w.st j (by rw [H.out.2.2.2.1]; exact hj)) (fun j hj => by have := (H.out.2.2.2.2.2.1 j (by rw [H.out.2.2.2.1]; exact hj)).1; simp only [baseN]; omega) (fun j hj => by have := (H.out.2.2.2.2.2.1 j (by rw [H.out.2.2.2.1]; exact hj)).2; simp only [baseN]; omega) (fun j hj => by have h1 := baseN_le m.len j (fun i hi => (H.out.2.2.2.2.2.1 i (by rw [H.out.2.2.2.1]; omega)).2); have h2 := H.out.2.2.2.2.2.2.1; have h3 := H.out.2.2.2.1; omega) (by have := HF.out.short; omega)).mono ?_
      rintro e w5 ⟨v, rfl, hsh, b5⟩
      have hb5 : Below w1.heap.size w3 w5 := Below.trans HB4.out b5
      have HSH : Hid (∀ (B : Nat) (w'' : World), B < w1.heap.size → w5.grownBy w'' (some B) → ShownAt w'' v ⟨x'.fin, x'.val, x'.steps, se, ⟨p.rl, fun j => baseN m.len (j + 1) - baseN m.len j, fun j i => x'.wd (baseN m.len j + i)⟩⟩) := hsh
      obtain ⟨sv, lm, hv, hs1, hs2⟩ := hsh (w.heap.size + 1) w5 (by omega) (grown_refl _ _)
      clear hsh
      dsimp only at hv
      subst hv
      have HB5 : Hid (Below w1.heap.size w3 w5) := hb5
      obtain ⟨sa, sb, so, sc, rfl, _, _, _⟩ := hs1
      have kept : ∀ j v, Wr w3 (w.heap.size + 1) j v → Wr w5 (w.heap.size + 1) j v := fun j v hv => ⟨by rw [Below.cell hb5 (by dsimp only; omega)]; exact hv.1, by rw [World.frozen?_of_block (Below.block hb5 _ (by dsimp only; omega))]; exact hv.2⟩
      obtain ⟨y0, g0⟩ := kept _ _ HZ.out.1
      obtain ⟨y1, g1⟩ := kept _ _ HZ.out.2.1
      obtain ⟨y2, g2⟩ := kept _ _ HZ.out.2.2.1
      obtain ⟨y3, g3⟩ := kept _ _ HZ.out.2.2.2.1
      obtain ⟨y4, g4⟩ := kept _ _ HZ.out.2.2.2.2
      clear hs2 hb5 b5 kept
      obtain ⟨la, hla⟩ : ∃ la, lm.ma = la := ⟨_, rfl⟩
      obtain ⟨lc, hlc⟩ : ∃ lc, lm.mc = lc := ⟨_, rfl⟩
      rw [hla, hlc] at HSH ⊢
      clear hla hlc
      go_wp2
      refine bodyPost_ret (v := .tuple #[.agg #[.int .i64 x'.fin, .int .i64 x'.val, .int .i64 x'.steps, .slice sa se.length sc, .slice la p.rl lc], .int .i64 0]) (by simp [results, Try.results20, go_sem, *]) rfl ?_
      rw [HP.out]
      have hg : w5.grownBy (((((w5.setCell ⟨w.heap.size + 1, 0, none⟩ (.int .i64 x'.fin)).setCell ⟨w.heap.size + 1, 1, none⟩ (.int .i64 x'.val)).setCell ⟨w.heap.size + 1, 2, none⟩ (.int .i64 x'.steps)).setCell ⟨w.heap.size + 1, 3, none⟩ (.slice sa se.length sc)).setCell ⟨w.heap.size + 1, 4, none⟩ (.slice la p.rl lc)) (some (w.heap.size + 1)) := gr_set (gr_set (gr_set (gr_set (gr_set (grown_refl _ _) _ _) _ _) _ _) _ _) _ _
      have hsh := HSH.out (w.heap.size + 1) _ (by omega) hg
      have esh : (⟨x'.fin, x'.val, x'.steps, se, ⟨p.rl, fun j => baseN m.len (j + 1) - baseN m.len j, fun j i => x'.wd (baseN m.len j + i)⟩⟩ : Sh) = ⟨R.fin, R.val, R.steps, R.seen, ⟨p.rl, fun j => baseN m.len (j + 1) - baseN m.len j, fun j i => x'.wd (baseN m.len j + i)⟩⟩ := by rw [HF.out.fin, HF.out.val, HF.out.steps, HF.out.seen]
      rw [esh] at hsh
      have hmore : More w w5 := Below.trans Hm3.out (Below.mono HB5.out (by omega))
      refine ⟨.agg #[.int .i64 x'.fin, .int .i64 x'.val, .int .i64 x'.steps, .slice sa se.length sc, .slice la p.rl lc], _, rfl, hsh, ?_, hmore.grownBy hg (fun b hb => by have := Option.some.inj hb; omega)⟩
      have := fin_like HF.out
      rw [H.out.2.2.2.1] at this
      exact this
    · have HW : Hid (Way p m fuel (g' + 1) R x' se k s ∧ s.at_ < p.cl) := ⟨hway, hat⟩
      clear hway hat
      have hcb : cb < w1.heap.size := by
        have h0 := (H.out.1.code 0 (by have := H.out.2.2.2.2.2.2.2.1; omega)).1
        have := cell_block h0
        dsimp only at this
        omega
      have hcode := H.out.1.code s.at_ HW.out.2
      have cellsB : ∀ (a : Addr) (v : Value), a.block < w.heap.size → w.cell? a = some v → w4.cell? a = some v := fun a v ha hc => by
        rw [Below.cell HB4.out (by omega)]; exact Hm3.out.cell hc
      have hcb2 : cb < w.heap.size := cell_block hcode.1
      have q0 := cellsB _ _ hcb2 hcode.1
      have q1 := cellsB _ _ hcb2 hcode.2.1
      have q2 := cellsB _ _ hcb2 hcode.2.2.1
      have q3 := cellsB _ _ hcb2 hcode.2.2.2.1
      have q4 := cellsB _ _ hcb2 hcode.2.2.2.2
      dsimp only at q0 q1 q2 q3 q4
      have hkk := HW.out.1.kg
      have hsl := HW.out.1.inv.seen
      have hB0 := seq_begin _ _ _ _ _ w4 w1.heap.size (.slice ra p.rl rc) cb co p.cl cc s.at_ x' se (by rw [HW.out.1.seen]; have := H.out.2.2.2.2.2.2.2.2.1; omega) HW.out.1.rel.next HW.out.2 H.out.2.2.2.2.2.2.2.1.2 (by rw [HW.out.1.rel.steps]; omega) (by rw [HW.out.1.rel.steps]; have := H.out.2.2.2.2.2.2.2.2.1; omega) hcb q0 q1 q2 q3 q4 HR4.out
      have hD0 : ∀ w6, Run w6 w1.heap.size (.slice ra p.rl rc) (.slice (some ⟨cb, co, none⟩) p.cl cc) { x' with steps := x'.steps + 1, next := (s.at_ : Int) + 1 } (se ++ [⟨1, s.at_, 0⟩]) → Calls Try.prog 40 #[.pointer (some ⟨w1.heap.size, 0, none⟩), .agg #[.int .i64 (p.ins s.at_).op, .int .i64 (p.ins s.at_).a, .int .i64 (p.ins s.at_).b, .int .i64 (p.ins s.at_).c, .int .i64 (p.ins s.at_).n]] w6 fun e w' =>
          e = .returned (.tuple #[]) ∧ Below w1.heap.size w6 w' ∧ ∃ x2, Run w' w1.heap.size (.slice ra p.rl rc) (.slice (some ⟨cb, co, none⟩) p.cl cc) x2 (stepI p s).1.seen ∧ ((∃ k s', Way p m fuel g' R x2 (stepI p s).1.seen k s') ∨ (x2.ended = true ∧ Fin_ m R x2 (stepI p s).1.seen)) := by
        intro w6 r6
        have hrel := HW.out.1.rel
        rw [HW.out.1.seen] at r6
        refine (seq_do p m fuel s (k + 1) { x' with steps := x'.steps + 1, next := (s.at_ : Int) + 1 } w6 w1.heap.size _ _ (H.out.2.1 _ HW.out.2) H.out.2.2.2.1 H.out.2.2.2.2.2.2.1 H.out.2.2.2.2.1 H.out.2.2.2.2.2.1 HW.out.1.inv.len (by have := H.out.2.2.2.2.2.2.2.2.1; omega) ⟨hrel.r, ⟨hrel.w.wd, hrel.w.st⟩, by push_cast; rfl, hrel.fin, hrel.val, by dsimp only; rw [hrel.steps]; push_cast; rfl, hrel.fuel, hrel.ended⟩ r6).mono ?_
        rintro e w7 ⟨rfl, b7, x2, r7, ha⟩
        exact ⟨rfl, b7, x2, r7, way_next HW.out.1 HW.out.2 (H.out.2.1 _ HW.out.2) (H.out.2.2.1 _ HW.out.2) H.out.2.2.2.1 H.out.2.2.2.2.2.2.2.2.1 ha⟩
      clear q0 q1 q2 q3 q4 hcode cellsB hcb hcb2 hkk hsl
      obtain ⟨I, hI⟩ : ∃ I, p.ins s.at_ = I := ⟨_, rfl⟩
      rw [hI] at hB0 hD0
      obtain ⟨op, a, b, c', n⟩ := I
      dsimp only at hB0 hD0
      obtain ⟨se2, hse2⟩ : ∃ se2, (stepI p s).1.seen = se2 := ⟨_, rfl⟩
      rw [hse2] at hD0
      have HB0 := hid_of hB0
      have HD0 := hid_of hD0
      clear hB0 hD0 hI hse2
      go_wp2_with (fail)
      refine HB0.out.mono ?_
      rintro e w6 ⟨rfl, r6, b6⟩
      have HD1 := hid_of (HD0.out w6 r6)
      have HB6 : Hid (Below w1.heap.size w3 w6) := Below.trans HB4.out b6
      clear r6 b6 HB0 HD0
      go_wp2_with (fail)
      refine HD1.out.mono ?_
      rintro e w7 ⟨rfl, b7, x2, r7, hway⟩
      have HB7 : Hid (Below w1.heap.size w3 w7) := Below.trans HB6.out b7
      have HW7 := hid_of (And.intro r7 hway)
      clear r7 b7 hway HD1
      go_wp2
      go_roundg g'
      case measure => omega
      case rel => exact ⟨x2, se2, HW7.out.1, HB7.out, HW7.out.2⟩
end Go.Proofs.Ytdlhlhbbhjbkpaa
