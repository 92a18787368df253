/-
  The texts SRunOk, FdRun, FdFind, one behind the other, with what is used of them.
-/
import Derived.Test.YtapagihngaiebaaJoined0
import Derived.Test.YtapagihngaiebaaJoined7
namespace Go.Proofs.Ytapagihngaiebaa
section
open Go.RowKit
set_option linter.unusedSimpArgs false
set_option linter.unusedVariables false
set_option maxRecDepth 8000
theorem wpList_build_eq {P : Program} {ops : Array Oper} {rest : List Oper} {o : Oper} {a : Act} {w : World} {Q : Exit → Act → World → Prop} (hg : o.guard = none) (t : TypeId) (parts : Array (Nat × Operand)) (ho : o.op = .build t parts) (C : Array Value)
    (hf : P.built t (parts.map fun (i, x) => (i, a.eval x)).toList = some C) (h : wpList P ops Q rest (a.put o.dst (.agg C)) w) : wpList P ops Q (o :: rest) a w := by
  refine wpList_plain hg fun K hK => ?_
  unfold Oper.wp execOp
  simp only [ho, Sem.run_bind, run_build w t _ C hf, Result.andThen_ok]
  exact hK _ _ h

theorem zrow96 : ∃ Z : Array Value, (∀ w, (zeroValue 62).run Try.prog w = .ok (.agg Z) w) ∧ Z.size = 1578 ∧ (Try.prog.info? 62).map (·.size) = some 1578 := by
  obtain ⟨h1, h2⟩ := zero_of_info zero96
  exact ⟨_, h1, by simp [rowS], h2⟩

theorem cellF_one {rv cv : Value} {x : Ms} (i : Nat) (h0 : rv.oneCell' = true) (h1 : cv.oneCell' = true) (h2 : x.sv.oneCell' = true) (h3 : x.mv.oneCell' = true) : (cellF rv cv x i).oneCell' = true := by
  unfold cellF
  by_cases e0 : i = 0
  · rw [if_pos e0]; exact h0
  rw [if_neg e0]
  by_cases e1 : i = 1
  · rw [if_pos e1]; exact h1
  rw [if_neg e1]
  by_cases e2 : i = 2
  · rw [if_pos e2]; rfl
  rw [if_neg e2]
  by_cases e3 : i = 3
  · rw [if_pos e3]; rfl
  rw [if_neg e3]
  by_cases e4 : i = 4
  · rw [if_pos e4]; rfl
  rw [if_neg e4]
  by_cases e5 : i = 5
  · rw [if_pos e5]; exact h2
  rw [if_neg e5]
  by_cases e6 : i = 6
  · rw [if_pos e6]; exact h3
  rw [if_neg e6]
  by_cases e7 : i < 17
  · rw [if_pos e7]; rfl
  rw [if_neg e7]
  by_cases e8 : i < 401
  · rw [if_pos e8]; rfl
  rw [if_neg e8]
  by_cases e9 : i = 401
  · rw [if_pos e9]; rfl
  rw [if_neg e9]
  by_cases e10 : i = 402
  · rw [if_pos e10]; rfl
  rw [if_neg e10]
  by_cases e11 : i = 403
  · rw [if_pos e11]; rfl
  rw [if_neg e11]
  rfl
theorem tlV_one {q : Tl} (i : Nat) (h : q.sc.oneCell' = true) : (tlV q i).oneCell' = true := by
  unfold tlV
  by_cases e0 : i = 411
  · rw [if_pos e0]; exact h
  rw [if_neg e0]
  by_cases e1 : i = 412
  · rw [if_pos e1]; rfl
  rw [if_neg e1]
  by_cases e2 : i < 797
  · rw [if_pos e2]; rfl
  rw [if_neg e2]
  by_cases e3 : i = 797
  · rw [if_pos e3]; rfl
  rw [if_neg e3]
  by_cases e4 : i < 808
  · rw [if_pos e4]; rfl
  rw [if_neg e4]
  by_cases e5 : i < 1192
  · rw [if_pos e5]; rfl
  rw [if_neg e5]
  by_cases e6 : i = 1192
  · rw [if_pos e6]; rfl
  rw [if_neg e6]
  by_cases e7 : i < 1577
  · rw [if_pos e7]; rfl
  rw [if_neg e7]
  rfl
theorem MC.oneS {c : Array Value} {rv cv : Value} {x : Ms} {q : Tl} (h : MC c rv cv { x with T := 62, tl := tlF q }) (hs : c.size = 1578) (h0 : rv.oneCell' = true) (h1 : cv.oneCell' = true) (h2 : x.sv.oneCell' = true) (h3 : x.mv.oneCell' = true) (h4 : q.sc.oneCell' = true) : c.all (·.oneCell') = true := by
  rw [Array.all_eq_true]
  intro i hi
  by_cases e : i < 411
  · have h5 := h.at_ i e
    rw [Array.getElem?_eq_getElem hi] at h5
    rw [Option.some.inj h5]
    exact cellF_one i h0 h1 h2 h3
  · have h5 := h.tail i (by omega)
    dsimp only at h5
    rw [Array.getElem?_eq_getElem hi, tlF_at q i (by omega)] at h5
    rw [Option.some.inj h5]
    exact tlV_one i h4

set_option maxHeartbeats 2000000 in
theorem spec_run_ok (p : Prg) (l : Loc) (m : Mem) (ml : MLoc) (sa : Option Addr) (sb so sn sc : Nat) (L : List Int) (fuel : Nat) (w : World) (hp : PIn w p l) (hm : MIn w m ml) (hok : p.Ok 8000 10) (hn64 : ∀ i, i < p.cl → B64 (p.ins i).n) (hfit : FitsOk p.rl p.log m.ml m.len) (hwd : ∀ j, j < m.ml → ∀ i, i < m.len j → B64 (m.wd j i)) (hfuel : fuel ≤ 40000) (hL : L.length = sn) (hcap : sn ≤ sc) (hs : SIn w sa sb so L) (hsok : ScOk L) :
    Calls Try.prog 7 #[.agg #[.slice l.ra p.rl l.rc, .slice l.ca p.cl l.cc], .slice ml.ma m.ml ml.mc, .slice sa sn sc, Value.int .i64 fuel] w fun e w' => ∃ (v : Value) (mm : Mem), e = .returned (.tuple #[v, Value.int .i64 0]) ∧ ShownAt w' v ⟨(playS p (flatM m) L fuel).fin, (playS p (flatM m) L fuel).val, (playS p (flatM m) L fuel).steps, (playS p (flatM m) L fuel).seen, mm⟩ ∧ mm.ml = m.ml ∧ (∀ j, mm.len j = m.len j) ∧ (∀ j, j < m.ml → ∀ i, i < m.len j → mm.wd j i = (playS p (flatM m) L fuel).wd (baseN m.len j + i)) ∧ More w w' := by
  have hml : m.ml = p.rl := hfit.2.1
  have hlen : ∀ i, i < m.ml → (m.len i : Int) = wordsI (p.log i) := fun i hi => hfit.2.2 i (by omega)
  have hpos : ∀ i, i < m.ml → 0 < m.len i ∧ m.len i ≤ 64 := fun i hi => by
    have h1 := hlen i hi
    have h2 := hok.1.2 i (by omega)
    have h3 := two_pow_le (k := (p.log i).toNat) (by omega)
    unfold wordsI at h1
    omega
  have hm6 : m.ml ≤ 6 := by rw [hml]; exact hok.1.1
  have hcl : 1 ≤ p.cl ∧ p.cl ≤ 8000 := ⟨hok.2.1, hok.2.2.1⟩
  have hall : allI p = (baseN m.len m.ml : Int) := allI_N hml hlen
  have hble : ∀ j, j ≤ m.ml → baseN m.len j ≤ 384 := fun j hj => by
    have h1 := baseN_le m.len j (fun i hi => (hpos i (by omega)).2)
    omega
  have hall384 : allI p ≤ 384 := by rw [hall]; have := hble m.ml (Nat.le_refl _); omega
  have hbase : ∀ j, j < p.rl → 0 ≤ baseI p.log j ∧ baseI p.log (j + 1) = baseI p.log j + wordsI (p.log j) ∧ 0 ≤ wordsI (p.log j) ∧ baseI p.log (j + 1) ≤ 384 := fun j hj => by
    have h1 := base_eq p m hlen j (by omega)
    have h2 := base_eq p m hlen (j + 1) (by omega)
    have h3 := hlen j (by omega)
    have h4 := hble (j + 1) (by omega)
    exact ⟨by omega, rfl, by omega, by omega⟩
  have hinv : InvS p 0 (4 * 0) ⟨⟨0, fun _ => 0, flatM m, fun _ => []⟩, false, 0, ⟨0, fun _ => 0, flatM m, fun _ => []⟩, L, []⟩ := by
    refine ⟨⟨Nat.zero_le _, fun _ _ => B64_zero, fun j hj => ?_, fun j => Nat.le_refl _, fun j hj v hv => by simp at hv⟩, fun a => by simp at a, Nat.le_refl _, fun c hc => ?_⟩
    · rw [hall] at hj
      obtain ⟨c, i, h1, h2, rfl⟩ := base_find m.len m.ml j (by omega)
      dsimp only
      rw [flatM_at m c i h1 h2]
      exact hwd c h1 i h2
    · obtain ⟨j, hj⟩ := List.getElem?_of_mem hc
      exact hsok.2 j c hj
  obtain ⟨z, z1, z2, z3, z4⟩ := zrow
  obtain ⟨Z, Z1, Z2, Z3⟩ := zrow96
  have Hz : Hid (MC z (.slice none 0 0) (.slice none 0 0) (ms0 0) ∧ (Try.prog.info? 52).map (·.size) = some 411 ∧ z.size = 411) := ⟨z3, z4, z3.size rfl⟩
  have HZ9 : Hid (Z.size = 1578 ∧ (Try.prog.info? 62).map (·.size) = some 1578) := ⟨Z2, Z3⟩
  obtain ⟨ra, rb, ro, rc, ca, cb, co, cc⟩ := l
  obtain rfl : ca = some ⟨cb, co, none⟩ := hp.hc (by omega)
  dsimp only
  have HP0 := hid_of (And.intro hp (And.intro hok.2.2.2 hn64))
  have HM0 := hid_of (And.intro hml (And.intro hlen (And.intro hpos (And.intro hm6 (And.intro hcl (And.intro hall (And.intro hble (And.intro hall384 (And.intro hbase hinv)))))))))
  have HS0 := hid_of (And.intro hL (And.intro hcap (And.intro hs (And.intro hsok hfuel))))
  have HN : Hid (∀ w1, More w w1 → Calls Try.prog 11 #[.agg #[.slice ra p.rl rc, .slice (some ⟨cb, co, none⟩) p.cl cc], .slice ml.ma m.ml ml.mc, Value.int .i64 fuel] w1 fun e w' => ∃ (c : Array Value) (W S : Nat → Int), e = .returned (.tuple #[.agg c, Value.int .i64 0]) ∧ MC c (.slice ra p.rl rc) (.slice (some ⟨cb, co, none⟩) p.cl cc) { ms0 fuel with wd := W, st := S } ∧
      (∀ j, j ≤ m.ml → S j = (baseN m.len j : Int)) ∧ (∀ j, j < m.ml → ∀ i, i < m.len j → W (baseN m.len j + i) = m.wd j i) ∧ More w1 w') :=
    fun w1 m1 => seq_new p ⟨ra, rb, ro, rc, some ⟨cb, co, none⟩, cb, co, cc⟩ m ml fuel w1 (hp.more m1) (hm.more m1) hok hfit hpos (by omega) (by omega)
  obtain ⟨R, HR⟩ : ∃ R, Hid (playS p (flatM m) L fuel = R) := ⟨_, rfl⟩
  rw [HR.out]
  suffices H0 : ∀ P : Ending → World → Prop, (∀ e w', (∃ (v : Value) (mm : Mem), e = .returned (.tuple #[v, Value.int .i64 0]) ∧ ShownAt w' v ⟨R.fin, R.val, R.steps, R.seen, mm⟩ ∧ mm.ml = m.ml ∧ (∀ j, mm.len j = m.len j) ∧ (∀ j, j < m.ml → ∀ i, i < m.len j → mm.wd j i = R.wd (baseN m.len j + i)) ∧ More w w') → P e w') → Calls Try.prog 7 #[.agg #[.slice ra p.rl rc, .slice (some ⟨cb, co, none⟩) p.cl cc], .slice ml.ma m.ml ml.mc, .slice sa sn sc, Value.int .i64 fuel] w P from H0 _ (fun _ _ h => h)
  intro P hP
  have HP := hid_of hP
  obtain ⟨va, hva⟩ : ∃ va, ml.ma = va := ⟨_, rfl⟩
  obtain ⟨vc, hvc⟩ : ∃ vc, ml.mc = vc := ⟨_, rfl⟩
  rw [hva, hvc] at HN ⊢
  clear hp hm hok hn64 hfit hwd hfuel hml hlen hpos hm6 hcl hinv z3 z4 hP hva hvc hall hble hall384 hbase hL hcap hs hsok Z2 Z3
  go_enter Try.func7, Try.ntmps7
  go_wp2_with (fail)
  refine (HN.out _ (((More.refl _).alloc _ _).alloc _ _)).mono ?_
  rintro e w1 ⟨c, W, S, rfl, mcc, hS, hW, m1⟩
  obtain ⟨w3, hw3⟩ : ∃ w3, w3 = w1.alloc (.cells c 52) := ⟨_, rfl⟩
  have Hw3 : Hid (w3 = w1.alloc (.cells c 52)) := hw3
  have Hc := hid_of (And.intro mcc (And.intro hS (And.intro hW (And.intro (mcc.size rfl) (mcc.one rfl rfl rfl rfl rfl)))))
  have s1 : w.heap.size + 2 ≤ w1.heap.size := by have := m1.size; have := size_alloc2 w (.cells #[.slice ra p.rl rc, .slice (some ⟨cb, co, none⟩) p.cl cc] 25) (.cells #[Value.int .i64 0, Value.int .i64 0, Value.int .i64 0, .slice none 0 0, .slice none 0 0] 34); omega
  have Hm3 : Hid (More w w3) := by rw [show Hid (More w w3) = More w w3 from rfl, hw3]; exact ((((More.refl _).alloc _ _).alloc _ _).trans m1).alloc _ _
  have zz : ∀ j v, Wr ((w.alloc (.cells #[.slice ra p.rl rc, .slice (some ⟨cb, co, none⟩) p.cl cc] 25)).alloc (.cells #[Value.int .i64 0, Value.int .i64 0, Value.int .i64 0, .slice none 0 0, .slice none 0 0] 34)) (w.heap.size + 1) j v → Wr w3 (w.heap.size + 1) j v := fun j v hv => by rw [hw3]; exact (hv.kept (m1.grow none) (by simp)).kept (World.grownBy_alloc w1 _ none) (by simp)
  have HZ : Hid (Wr w3 (w.heap.size + 1) 0 (Value.int .i64 0) ∧ Wr w3 (w.heap.size + 1) 1 (Value.int .i64 0) ∧ Wr w3 (w.heap.size + 1) 2 (Value.int .i64 0) ∧ Wr w3 (w.heap.size + 1) 3 (.slice none 0 0) ∧ Wr w3 (w.heap.size + 1) 4 (.slice none 0 0)) :=
    ⟨zz 0 _ ⟨by go_simp, by go_simp⟩, zz 1 _ ⟨by go_simp, by go_simp⟩, zz 2 _ ⟨by go_simp, by go_simp⟩, zz 3 _ ⟨by go_simp, by go_simp⟩, zz 4 _ ⟨by go_simp, by go_simp⟩⟩
  have hrow3 : w3.heap[w1.heap.size]? = some (.cells c 52 (0, 0)) := by rw [hw3]; exact heap_alloc_last _ _
  have hsz3 : w3.heap.size = w1.heap.size + 1 := by rw [hw3]; simp
  have hA := spec_allowed sa sb so sn sc L HS0.out.1 w3 (HS0.out.2.2.1.more Hm3.out)
  have HA := hid_of hA
  obtain ⟨C, hC1, hC2, hC3⟩ := built96 c _ _ _ Hc.out.1 rfl sa sn sc (w1.heap.size + 1)
  have HC := hid_of (And.intro hC1 (And.intro hC2 (And.intro hC3 (hC3.oneS hC2 rfl rfl rfl rfl rfl))))
  have i77 : Hid ((Try.prog.info? 52).map (·.size) = some c.size) := by rw [show Hid ((Try.prog.info? 52).map (·.size) = some c.size) = ((Try.prog.info? 52).map (·.size) = some c.size) from rfl, Hc.out.2.2.2.1]; exact Hz.out.2.1
  have hmm := @run_makeMap Try.prog
  clear m1 mcc zz hw3 hS hW HN hA hC1 hC2 hC3
  go_wp2_with (refine wpList_store_row rfl 52 (.tmp 10) (.tmp 18) rfl w1.heap.size c rfl rfl 52 z (heap_alloc_last _ _) (by rw [Hc.out.2.2.2.1]; exact Hz.out.2.1) (by rw [Hc.out.2.2.2.1, Hz.out.2.2]) Hc.out.2.2.2.2 ?_; rw [World.setRow_alloc_new, ← Hw3.out])
  refine HA.out.mono ?_
  rintro e w4 ⟨r, rfl, hr, rfl⟩
  obtain rfl : r = true := hr.2 HS0.out.2.2.2.1
  obtain ⟨w5, hw5⟩ : ∃ w5, w5 = (w4.alloc (.map #[] 0)).alloc (.cells C 62) := ⟨_, rfl⟩
  have hset : ((w4.alloc (.map #[] 0)).alloc (.cells Z 62)).setRow (w1.heap.size + 1 + 1) C = w5 := by
    rw [hw5, show w1.heap.size + 1 + 1 = (w4.alloc (.map #[] 0)).heap.size by simp [hsz3]]
    exact World.setRow_alloc_new _ _ _ _
  have hrowZ : ((w4.alloc (.map #[] 0)).alloc (.cells Z 62)).heap[w1.heap.size + 1 + 1]? = some (.cells Z 62 (0, 0)) := by rw [← hsz3]; exact heap_alloc2_last _ _ _
  have Hset := hid_of (And.intro hset hrowZ)
  have b34 : Below (w1.heap.size + 1) w4 w5 := by rw [hw5]; exact below_alloc (below_alloc (Below.refl _ _) (by omega) _) (by simp [hsz3]) _
  have HW5 := hid_of b34
  have hmap5 : MapAt w5 (w1.heap.size + 1) (fun _ _ => 0) := by
    rw [hw5]
    have h1 := MapAt.made w4
    rw [hsz3] at h1
    exact h1.block ((World.grownBy_alloc _ _ none).block _ h1.lt (by simp))
  have hrun5 : RunS w5 (w1.heap.size + 1 + 1) (.slice ra p.rl rc) (.slice (some ⟨cb, co, none⟩) p.cl cc) { ms0 fuel with wd := W, st := S } (zTl (.slice sa sn sc) (w1.heap.size + 1)) [] := by
    refine ⟨⟨.slice none 0 0, ⟨C, ?_, HC.out.2.2.1⟩, World.ownsRow_nil _ _ _ _, fun q e => by cases e⟩⟩
    rw [hw5, ← hsz3]
    exact heap_alloc2_last _ _ _
  have hsc5 : ScAt w5 (w1.heap.size + 1) (.slice sa sn sc) L := by
    refine ⟨sa, sc, by rw [HS0.out.1], by rw [HS0.out.1]; exact HS0.out.2.1, fun hne => ?_⟩
    have hpos : 0 < L.length := List.length_pos_iff.2 hne
    have hc0 := HS0.out.2.2.1.cells 0 (L[0]) (List.getElem?_eq_getElem hpos)
    have hlt := cell_block hc0
    dsimp only at hlt
    refine ⟨sb, so, HS0.out.2.2.1.ha hpos, by omega, fun j c hj => ?_⟩
    rw [Below.cell b34 (by dsimp only; omega)]
    exact Hm3.out.cell (HS0.out.2.2.1.cells j c hj)
  have HA5 : Hid (∃ (x : Ms) (q : Tl) (se : List Se) (f : Int → Int → Int), RunS w5 (w1.heap.size + 1 + 1) (.slice ra p.rl rc) (.slice (some ⟨cb, co, none⟩) p.cl cc) x q se ∧ x.mo = [] ∧ q.mb = w1.heap.size + 1 ∧ MapAt w5 (w1.heap.size + 1) f ∧ ((∃ s k, WayS p fuel fuel R x q f se s k ∧ ScAt w5 (w1.heap.size + 1) q.sc s.script) ∨ (x.ended = true ∧ q.ahead = false ∧ FinS p R x q se))) := by
    refine ⟨_, _, _, _, hrun5, rfl, rfl, hmap5, .inl ⟨⟨⟨0, fun _ => 0, flatM m, fun _ => []⟩, false, 0, ⟨0, fun _ => 0, flatM m, fun _ => []⟩, L, []⟩, 0, ⟨by omega, ⟨rfl, fun j hj => ?_, rfl, rfl, rfl, rfl, rfl, rfl, fun j hj => ?_, fun _ _ => rfl, fun j hj t v hv => by simp at hv, rfl, fun a => by simp at a, fun a => by simp at a, fun a => by simp at a, fun a => by simp at a, fun a => by simp at a, fun a => by simp at a, fun a => by simp at a⟩, rfl, HM0.out.2.2.2.2.2.2.2.2.2, HR.out⟩, hsc5⟩⟩
    · rw [HM0.out.2.2.2.2.2.1] at hj
      exact flat_same Hc.out.2.2.1 j (by omega)
    · show S j = _
      rw [Hc.out.2.1 j (by rw [HM0.out.1]; exact hj)]
      exact base_eq p m HM0.out.2.1 j (by rw [HM0.out.1]; exact hj)
  clear hr HA hw5 hset hrowZ b34 hmap5 hrun5 hsc5
  go_wp2_with (first
    | (refine wpList_load_row rfl 52 (.tmp 10) rfl w1.heap.size rfl 52 c (0, 0) _ hrow3 Try.underlying52 rfl i77.out ?_)
    | (refine wpList_build_eq rfl 62 #[(0, .tmp 28), (1, .tmp 29), (2, .tmp 30)] rfl C (by simp [Act.eval]; exact HC.out.1) ?_)
    | (refine wpList_store_row rfl 62 (.tmp 12) (.tmp 31) rfl (w1.heap.size + 1 + 1) C rfl rfl 62 Z Hset.out.2 (by rw [HC.out.2.1]; exact HZ9.out.2) (by rw [HC.out.2.1, HZ9.out.1]) HC.out.2.2.2 ?_; rw [Hset.out.1]))
  go_simp
  obtain ⟨M, hM⟩ : ∃ M, M = w1.heap.size + 1 + 1 := ⟨_, rfl⟩
  obtain ⟨mb, hmb⟩ : ∃ mb, mb = w1.heap.size + 1 := ⟨_, rfl⟩
  rw [← hM, ← hmb] at HA5
  rw [← hmb] at HW5
  have HMM : Hid (M = w1.heap.size + 1 + 1 ∧ mb = w1.heap.size + 1 ∧ w.heap.size + 2 ≤ w1.heap.size) := ⟨hM, hmb, s1⟩
  rw [← hM, ← hmb]
  clear hM hmb hrow3 hsz3 s1 hmm Hset HC HZ9 Hz Hw3 i77 Z1 z1 z2
  go_loopg [] fuel (fun g wr => ∃ (x : Ms) (q : Tl) (se : List Se) (f : Int → Int → Int), RunS wr M (.slice ra p.rl rc) (.slice (some ⟨cb, co, none⟩) p.cl cc) x q se ∧ x.mo = [] ∧ q.mb = mb ∧ MapAt wr mb f ∧ Below mb w4 wr ∧ ((∃ s k, WayS p fuel g R x q f se s k ∧ ScAt wr mb q.sc s.script) ∨ (x.ended = true ∧ q.ahead = false ∧ FinS p R x q se)))
  case atStart =>
    obtain ⟨x, q, se, f, h1, h2, h3, h4, h5⟩ := HA5.out
    exact ⟨x, q, se, f, h1, h2, h3, h4, HW5.out, h5⟩
  case round =>
    obtain ⟨x, q, se, f, hrun, hmo, hqm, hmap, hbel, hway⟩ := hrel
    have hlt : mb < M := by have := HMM.out; omega
    have Hst := hid_of (And.intro hrun (And.intro hmo (And.intro hqm (And.intro hmap (And.intro hbel hlt)))))
    have HWy := hid_of hway
    have HG := hid_of (spec_goesOn_all (p := p) (fuel := fuel) (g := gk) (R := R) (f := f) (.slice ra p.rl rc) (some ⟨cb, co, none⟩) cc HS0.out.2.2.2.2 hrun (fun s => ScAt wr mb q.sc s.script) hway)
    clear hrun hmo hqm hmap hbel hway HA5 hlt
    go_wp2_with (fail)
    refine HG.out.mono ?_
    rintro e w6 ⟨b6, b, x', q', se', rfl, r6, hq1, hq2, hx1, hcase⟩
    have H6 := hid_of (And.intro r6 (And.intro b6 (And.intro hq1 (And.intro hq2 hx1))))
    clear b6 r6 HG hq1 hq2 hx1
    rcases hcase with ⟨rfl, hfin⟩ | ⟨rfl, g', s, k, rfl, hkg, hsim, hse, hinv, hat, hsc, hw, hphi⟩
    · have HF := hid_of hfin
      clear hfin
      have hst2 : ∀ j, j ≤ p.rl → x'.st j = (baseN m.len j : Int) := fun j hj => by
        rw [HF.out.st j hj]
        exact (base_eq p m HM0.out.2.1 j (by rw [HM0.out.1]; exact hj)).symm
      have HT := hid_of (spec_told w6 M ra p.rl rc _ x' q' se' (baseN m.len) H6.out.1 (by rw [← HM0.out.1]; exact HM0.out.2.2.2.1) hst2 (fun j hj => by have := (HM0.out.2.2.1 j (by rw [HM0.out.1]; exact hj)).1; simp only [baseN]; omega) (fun j hj => by have := (HM0.out.2.2.1 j (by rw [HM0.out.1]; exact hj)).2; simp only [baseN]; omega) (fun j hj => HM0.out.2.2.2.2.2.2.1 j (by rw [HM0.out.1]; exact hj)) HF.out.short)
      clear hst2
      go_wp2_with (fail)
      refine HT.out.mono ?_
      rintro e w7 ⟨v, rfl, hsh, b7⟩
      have hb7 : Below mb w4 w7 := Below.trans Hst.out.2.2.2.2.1 (Below.mono (Below.trans H6.out.2.1 b7) (Nat.le_of_lt Hst.out.2.2.2.2.2))
      have HSH := hid_of hsh
      have hlt1 : w.heap.size + 1 < M := by have := HMM.out; omega
      have hlt2 : w.heap.size + 1 < mb := by have := HMM.out; omega
      obtain ⟨sv, lm, hv, hs1, hs2⟩ := hsh (w.heap.size + 1) w7 hlt1 (grown_refl _ _)
      clear hsh
      dsimp only at hv
      subst hv
      have HB7 := hid_of (And.intro hb7 (And.intro hlt1 hlt2))
      obtain ⟨sa', sb', so', sc', rfl, _, _, _⟩ := hs1
      have kept : ∀ j v, Wr w4 (w.heap.size + 1) j v → Wr w7 (w.heap.size + 1) j v := fun j v hv => ⟨by rw [Below.cell hb7 hlt2]; exact hv.1, by rw [World.frozen?_of_block (Below.block hb7 _ hlt2)]; exact hv.2⟩
      obtain ⟨y0, g0⟩ := kept _ _ HZ.out.1
      obtain ⟨y1, g1⟩ := kept _ _ HZ.out.2.1
      obtain ⟨y2, g2⟩ := kept _ _ HZ.out.2.2.1
      obtain ⟨y3, g3⟩ := kept _ _ HZ.out.2.2.2.1
      obtain ⟨y4, g4⟩ := kept _ _ HZ.out.2.2.2.2
      clear hs2 hb7 b7 kept hlt1 hlt2 HT
      obtain ⟨la, hla⟩ : ∃ la, lm.ma = la := ⟨_, rfl⟩
      obtain ⟨lc, hlc⟩ : ∃ lc, lm.mc = lc := ⟨_, rfl⟩
      rw [hla, hlc] at HSH ⊢
      clear hla hlc
      go_wp2
      refine bodyPost_ret (v := .tuple #[.agg #[Value.int .i64 x'.fin, Value.int .i64 x'.val, Value.int .i64 x'.steps, .slice sa' se'.length sc', .slice la p.rl lc], Value.int .i64 0]) (by simp [results, Try.results7, go_sem, *]) rfl ?_
      have hg : w7.grownBy (((((w7.setCell ⟨w.heap.size + 1, 0, none⟩ (Value.int .i64 x'.fin)).setCell ⟨w.heap.size + 1, 1, none⟩ (Value.int .i64 x'.val)).setCell ⟨w.heap.size + 1, 2, none⟩ (Value.int .i64 x'.steps)).setCell ⟨w.heap.size + 1, 3, none⟩ (.slice sa' se'.length sc')).setCell ⟨w.heap.size + 1, 4, none⟩ (.slice la p.rl lc)) (some (w.heap.size + 1)) := gr_set (gr_set (gr_set (gr_set (gr_set (grown_refl _ _) _ _) _ _) _ _) _ _) _ _
      have hsh := HSH.out (w.heap.size + 1) _ HB7.out.2.1 hg
      have esh : (⟨x'.fin, x'.val, x'.steps, se', ⟨p.rl, fun j => baseN m.len (j + 1) - baseN m.len j, fun j i => (if q'.ahead = true then q'.bw else x'.wd) (baseN m.len j + i)⟩⟩ : Sh) = ⟨R.fin, R.val, R.steps, R.seen, ⟨p.rl, fun j => baseN m.len (j + 1) - baseN m.len j, fun j i => (if q'.ahead = true then q'.bw else x'.wd) (baseN m.len j + i)⟩⟩ := by rw [HF.out.fin, HF.out.val, HF.out.steps, HF.out.seen]
      rw [esh] at hsh
      have hmore : More w w7 := Below.trans Hm3.out (Below.mono HB7.out.1 (by have := HB7.out.2.2; omega))
      refine HP.out _ _ ⟨.agg #[Value.int .i64 x'.fin, Value.int .i64 x'.val, Value.int .i64 x'.steps, .slice sa' se'.length sc', .slice la p.rl lc], _, rfl, hsh, HM0.out.1.symm, fun j => by simp only [baseN]; omega, fun j hj i hi => ?_, hmore.grownBy hg (fun b hb => by have := Option.some.inj hb; omega)⟩
      refine HF.out.wd _ ?_
      rw [HM0.out.2.2.2.2.2.1]
      have := baseN_mono m.len (j + 1) m.ml hj
      simp only [baseN] at this
      omega
    · have hb46 : Below mb w4 w6 := Below.trans Hst.out.2.2.2.2.1 (Below.mono H6.out.2.1 (Nat.le_of_lt Hst.out.2.2.2.2.2))
      have hscx : ScAt w6 mb q'.sc (s.noneLeft p.cl).script := by
        rw [H6.out.2.2.2.1, hsc]
        exact hphi.below (Below.mono H6.out.2.1 (Nat.le_of_lt Hst.out.2.2.2.2.2))
      have hB : Bgn p fuel w6 M mb x' q' f (s.noneLeft p.cl) k := ⟨hsim, by rw [H6.out.2.2.1]; exact Hst.out.2.2.1, Hst.out.2.2.2.2.2, Hst.out.2.2.2.1.below H6.out.2.1 Hst.out.2.2.2.2.2, hscx, hinv, by omega, HS0.out.2.2.2.2, HM0.out.2.2.2.2.2.2.2.1, HM0.out.2.2.2.2.2.2.2.2.1, by rw [← HM0.out.1]; exact HM0.out.2.2.2.1⟩
      have hcode := HP0.out.1.code (s.noneLeft p.cl).pl.at_ hat
      have hcbw : cb < w.heap.size := cell_block hcode.1
      have hcbm : cb < mb := by have := HMM.out; omega
      have cellsB : ∀ (o : Nat) (v : Value), w.cell? ⟨cb, o, none⟩ = some v → w6.cell? ⟨cb, o, none⟩ = some v := fun o v hc => by
        rw [Below.cell hb46 hcbm]; exact Hm3.out.cell hc
      rw [hse] at H6
      have HSp := hid_of (spec_step_all ra rc cb co cc hB hat HM0.out.2.2.2.2.1.2 (by have := Hst.out.2.2.2.2.2; omega) (HP0.out.2.1 _ hat) (HP0.out.2.2 _ hat) ⟨cellsB _ _ hcode.1, cellsB _ _ hcode.2.1, cellsB _ _ hcode.2.2.1, cellsB _ _ hcode.2.2.2.1, cellsB _ _ hcode.2.2.2.2⟩ H6.out.1)
      have HWW := hid_of (And.intro hw (And.intro hat hb46))
      clear hw hat hsim hse hinv hsc hphi hB hcode hcbw hcbm cellsB hscx hb46 hkg
      go_wp2_with (fail)
      refine HSp.out.mono ?_
      rintro e w8 ⟨rfl, b8, x2, q2, se2, ht, r8⟩
      have hnx := wayS_next HS0.out.2.2.2.2 HWW.out.1 HWW.out.2.1 (HP0.out.2.1 _ HWW.out.2.1) (HP0.out.2.2 _ HWW.out.2.1) ht
      have H8 := hid_of (And.intro r8 (And.intro (Below.trans HWW.out.2.2 b8) hnx))
      clear r8 b8 ht hnx HSp
      go_wp2
      go_roundg g'
      case measure => omega
      case rel =>
        obtain ⟨f', h1, h2, h3⟩ := H8.out.2.2
        refine ⟨{ x2 with mo := x'.mo }, q2, se2, f', H8.out.1, ?_, h1, h2, H8.out.2.1, ?_⟩
        · show x'.mo = []
          rw [H6.out.2.2.2.2]; exact Hst.out.2.1
        · rcases h3 with ⟨s', k', h4, h5⟩ | ⟨h4, h5, h6⟩
          · exact .inl ⟨s', k', h4.mos _, h5⟩
          · exact .inr ⟨h4, h5, h6.mos _⟩
theorem spec_run_all (p : Prg) (l : Loc) (m : Mem) (ml : MLoc) (sa : Option Addr) (sb so sn sc : Nat) (L : List Int) (fuel : Int) (w : World) (hp : PIn w p l) (hfit : p.Fit) (hm : MRaw w m ml) (hwd : ∀ j, j < m.ml → ∀ i, i < m.len j → B64 (m.wd j i)) (hL : L.length = sn) (hcap : sn ≤ sc) (hsin : SIn w sa sb so L) :
    Calls Try.prog 7 #[.agg #[.slice l.ra p.rl l.rc, .slice l.ca p.cl l.cc], .slice ml.ma m.ml ml.mc, .slice sa sn sc, .int .i64 fuel] w (RunAns p m L fuel w) := by
  have bad : ∀ code : Int, ¬ code = 0 → Wr1 p m L fuel code → ∀ e w', e = .returned (.tuple #[.agg #[.int .i64 0, .int .i64 0, .int .i64 0, .slice none 0 0, .slice none 0 0], .int .i64 code]) ∧ More w w' → RunAns p m L fuel w e w' := by
    rintro code hc hw e w' ⟨rfl, mm⟩
    exact ⟨0, 0, 0, code, none, 0, 0, none, 0, 0, rfl, hw, fun h => absurd h hc, mm⟩
  by_cases hok : p.Ok 8000 10 ∧ FitsOk p.rl p.log m.ml m.len
  · by_cases hf : fuel < 0 ∨ 40000 < fuel
    · exact (spec_run_wrong p l ml.ma m.ml ml.mc _ fuel 3 w (by decide) (fun w2 m2 => seq_new_range p l ml.ma m.ml ml.mc ml.mb ml.mo ml.A m.len ml.C fuel w2 (hp.more m2) hm.hm (hm.lists.more m2) hok.1 hok.2 hf)).mono (bad 3 (by decide) (.inr (.inl ⟨hok, .inl hf, rfl⟩)))
    · obtain ⟨f, rfl⟩ : ∃ f : Nat, fuel = f := ⟨fuel.toNat, by omega⟩
      obtain ⟨hpos, h6⟩ := fits_pos hok.1 hok.2
      have hin := hm.in_ h6 (fun i hi => (hpos i hi).2)
      have hn : ∀ i, i < p.cl → B64 (p.ins i).n := fun i hi => (hfit.ins i hi).2.2.2.2
      by_cases hsok : ScOk L
      · refine (spec_run_ok p l m ml sa sb so sn sc L f w hp hin hok.1 hn hok.2 hwd (by omega) hL hcap hsin hsok).mono ?_
        rintro e w' ⟨v, mm, rfl, ⟨sv, lv, rfl, hs, _⟩, _, _, _, m2⟩
        have hs0 := hs
        obtain ⟨a, b, o, c, rfl, _⟩ := hs
        exact ⟨_, _, _, _, _, _, _, _, _, _, rfl, .inr (.inr ⟨hok, hf, hsok, rfl⟩), fun _ => ⟨rfl, hs0⟩, m2⟩
      · refine (spec_run_script p l ml.ma m.ml ml.mc sa sb so sn sc L f w hL hsin hsok (fun w2 m2 => ?_)).mono (bad 3 (by decide) (.inr (.inl ⟨hok, .inr hsok, rfl⟩)))
        refine (seq_new p l m ml f w2 (hp.more m2) (hin.more m2) hok.1 hok.2 hpos (by omega) (by omega)).mono ?_
        rintro e w' ⟨c, W, S, rfl, mcc, hS, hW, m3⟩
        exact ⟨c, _, _, _, rfl, rfl, rfl, rfl, rfl, mcc, rfl, m3⟩
  · exact (spec_run_wrong p l ml.ma m.ml ml.mc _ fuel 2 w (by decide) (fun w2 m2 => seq_new_form p l ml.ma m.ml ml.mc ml.mb ml.mo ml.A m.len ml.C fuel w2 (hp.more m2) hm.hm (hm.lists.more m2) hok)).mono (bad 2 (by decide) (.inl ⟨hok, rfl⟩))
/-- A store into a block of slices leaves what was shown. -/
theorem SeenAt.put {w : World} {n : Nat} {a a' : Option Addr} {k c k' c' : Nat} {T : TypeId} {u : Value} {l : List Se} (hs : SeenAt w u l) (h : Blk w n #[.slice a k c, .slice a' k' c'] T) (j : Nat) (v : Value) : SeenAt (w.setCell ⟨n, j, none⟩ v) u l := by
  obtain ⟨x, b, o, y, e, h1, h2, h3⟩ := hs
  refine ⟨x, b, o, y, e, h1, fun i s hi => ?_, h3⟩
  have q := h2 i s hi
  have key : ∀ (f : Nat) (z : Int), w.cell? ⟨b, f, none⟩ = some (.int .i64 z) → (w.setCell ⟨n, j, none⟩ v).cell? ⟨b, f, none⟩ = some (.int .i64 z) := fun f z hz => by
    have hne : b ≠ n := by
      rintro rfl
      rw [cell_of_row _ _ _ _ _ _ h] at hz
      match f with
      | 0 => simp at hz
      | 1 => simp at hz
      | f + 2 => simp at hz
    have e1 : (w.setCell ⟨n, j, none⟩ v).heap[b]? = w.heap[b]? := Below.heap_setCell _ _ _ _ hne
    unfold World.cell? at hz ⊢
    rw [e1]; exact hz
  exact ⟨key _ _ q.1, key _ _ q.2.1, key _ _ q.2.2⟩

/-- What the loop of find.Find has laid by. -/
def FAt (N : Nat) (A B : Prop) (X Y : List Se) (w : World) (k : Nat) (wr : World) : Prop :=
  More w wr ∧ ∃ (a a' : Option Addr) (n c n' c' : Nat), Blk wr N #[.slice a n c, .slice a' n' c'] 38 ∧ (0 < k → A ∧ SeenAt wr (.slice a n c) X) ∧ (1 < k → B ∧ SeenAt wr (.slice a' n' c') Y)

set_option maxHeartbeats 4000000 in
theorem find_calls (p : Prg) (l : Loc) (m m' : Mem) (ml ml' : MLoc) (sa : Option Addr) (sb so sn sc : Nat) (L : List Int) (fuel : Int) (w : World) (hp : PIn w p l) (hfit : p.Fit) (hm : MRaw w m ml) (hwd : ∀ j, j < m.ml → ∀ i, i < m.len j → B64 (m.wd j i)) (hm' : MRaw w m' ml') (hwd' : ∀ j, j < m'.ml → ∀ i, i < m'.len j → B64 (m'.wd j i)) (hL : L.length = sn) (hcap : sn ≤ sc) (hsin : SIn w sa sb so L) :
    Calls Try.prog 5 #[.agg #[.slice l.ra p.rl l.rc, .slice l.ca p.cl l.cc], .slice ml.ma m.ml ml.mc, .slice ml'.ma m'.ml ml'.mc, .slice sa sn sc, .int .i64 fuel] w (FindAns p m m' L fuel w) := by
  suffices hP : ∀ P : Ending → World → Prop, (∀ k is c w', FindOf p m m' L fuel k is c → More w w' → P (.returned (.tuple #[.int .i64 k, .bool is, .int .i64 c])) w') → Calls Try.prog 5 #[.agg #[.slice l.ra p.rl l.rc, .slice l.ca p.cl l.cc], .slice ml.ma m.ml ml.mc, .slice ml'.ma m'.ml ml'.mc, .slice sa sn sc, .int .i64 fuel] w P from hP _ (fun k is c w' h1 h2 => ⟨k, is, c, rfl, h1, h2⟩)
  intro P hP0
  have HP : Hid (∀ k is c w', FindOf p m m' L fuel k is c → More w w' → P (.returned (.tuple #[.int .i64 k, .bool is, .int .i64 c])) w') := hP0
  have CA : Hid (∀ w1, More w w1 → Calls Try.prog 7 #[.agg #[.slice l.ra p.rl l.rc, .slice l.ca p.cl l.cc], .slice ml.ma m.ml ml.mc, .slice sa sn sc, .int .i64 fuel] w1 (RunAns p m L fuel w1)) := fun w1 m1 => spec_run_all p l m ml sa sb so sn sc L fuel w1 (hp.more m1) hfit (hm.more m1) hwd hL hcap (hsin.more m1)
  have CB : Hid (∀ w1, More w w1 → Calls Try.prog 7 #[.agg #[.slice l.ra p.rl l.rc, .slice l.ca p.cl l.cc], .slice ml'.ma m'.ml ml'.mc, .slice sa sn sc, .int .i64 fuel] w1 (RunAns p m' L fuel w1)) := fun w1 m1 => spec_run_all p l m' ml' sa sb so sn sc L fuel w1 (hp.more m1) hfit (hm'.more m1) hwd' hL hcap (hsin.more m1)
  clear hP0 hp hfit hm hwd hm' hwd' hL hcap hsin
  obtain ⟨ra, Hra⟩ : ∃ x, Hid (l.ra = x) := ⟨_, rfl⟩
  obtain ⟨rl, Hrl⟩ : ∃ x, Hid (p.rl = x) := ⟨_, rfl⟩
  obtain ⟨rc, Hrc⟩ : ∃ x, Hid (l.rc = x) := ⟨_, rfl⟩
  obtain ⟨ca, Hca⟩ : ∃ x, Hid (l.ca = x) := ⟨_, rfl⟩
  obtain ⟨cl, Hcl⟩ : ∃ x, Hid (p.cl = x) := ⟨_, rfl⟩
  obtain ⟨cc, Hcc⟩ : ∃ x, Hid (l.cc = x) := ⟨_, rfl⟩
  obtain ⟨a1, Ha1⟩ : ∃ x, Hid (ml.ma = x) := ⟨_, rfl⟩
  obtain ⟨n1, Hn1⟩ : ∃ x, Hid (m.ml = x) := ⟨_, rfl⟩
  obtain ⟨c1, Hc1⟩ : ∃ x, Hid (ml.mc = x) := ⟨_, rfl⟩
  obtain ⟨a2, Ha2⟩ : ∃ x, Hid (ml'.ma = x) := ⟨_, rfl⟩
  obtain ⟨n2, Hn2⟩ : ∃ x, Hid (m'.ml = x) := ⟨_, rfl⟩
  obtain ⟨c2, Hc2⟩ : ∃ x, Hid (ml'.mc = x) := ⟨_, rfl⟩
  obtain ⟨sv, Hsv⟩ : ∃ x, Hid (Value.slice sa sn sc = x) := ⟨_, rfl⟩
  rw [Hra.out, Hrl.out, Hrc.out, Hca.out, Hcl.out, Hcc.out, Hsv.out] at CA CB ⊢
  rw [Ha1.out, Hn1.out, Hc1.out] at CA ⊢
  rw [Ha2.out, Hn2.out, Hc2.out] at CB ⊢
  obtain ⟨N, hN⟩ : ∃ x, w.heap.size = x := ⟨_, rfl⟩
  obtain ⟨w0, Hw0⟩ : ∃ w_ : World, Hid (w_ = (w.alloc (.cells #[.slice ra rl rc, .slice ca cl cc] 25)).alloc (.cells #[.slice none 0 0, .slice none 0 0] 38)) := ⟨_, rfl⟩
  have Hm0 : Hid (More w w0) := Hw0.out ▸ ((More.refl _).alloc _ _).alloc _ _
  have Hp0 : Hid (Blk w0 N #[.slice ra rl rc, .slice ca cl cc] 25) := hN ▸ Hw0.out ▸ (Blk.last _ _ _).alloc _ _
  have Hs0 : Hid (Blk w0 (N + 1) #[.slice none 0 0, .slice none 0 0] 38) := by
    have q := Blk.last (w.alloc (.cells #[.slice ra rl rc, .slice ca cl cc] 25)) #[.slice none 0 0, .slice none 0 0] 38
    rw [← Hw0.out, show (w.alloc (.cells #[.slice ra rl rc, .slice ca cl cc] 25)).heap.size = N + 1 from by simp [hN]] at q
    exact q
  have HN : Hid (w.heap.size = N) := hN
  go_enter Try.func5, Try.ntmps5
  go_wp2
  try simp only [hN]
  rw [← Hw0.out]
  clear hN
  obtain ⟨X, HX⟩ : ∃ x, Hid ((playS p (flatM m) L fuel.toNat).seen = x) := ⟨_, rfl⟩
  obtain ⟨Y, HY⟩ : ∃ x, Hid ((playS p (flatM m') L fuel.toNat).seen = x) := ⟨_, rfl⟩
  have hi0 : ∀ w, (Instr.index 39 (.agg #[.slice a1 n1 c1, .slice a2 n2 c2]) (.int .i64 0)).run Try.prog w = .ok (.slice a1 n1 c1) w := fun _ => by kernel_rfl
  have hi1 : ∀ w, (Instr.index 39 (.agg #[.slice a1 n1 c1, .slice a2 n2 c2]) (.int .i64 1)).run Try.prog w = .ok (.slice a2 n2 c2) w := fun _ => by kernel_rfl
  go_loopg [23] 2 (fun g iv wr => ∃ k : Nat, k + g = 2 ∧ iv = .int .i64 k ∧ Hid (FAt (N + 1) (Wr1 p m L fuel 0) (Wr1 p m' L fuel 0) X Y w k wr ∧ Blk wr N #[.slice ra rl rc, .slice ca cl cc] 25))
  case atStart => exact ⟨0, rfl, rfl, ⟨Hm0.out, _, _, _, _, _, _, Hs0.out, fun h => absurd h (by decide), fun h => absurd h (by decide)⟩, Hp0.out⟩
  case round =>
    obtain ⟨k, hkg, rfl, Hr⟩ := hrel
    have hcase : gk = 0 ∧ k = 2 ∨ ∃ (q : Nat) (v : Value) (W : Int → Prop) (Z : List Se), gk = q + 1 ∧ ((k = 0 ∧ v = .slice a1 n1 c1) ∨ (k = 1 ∧ v = .slice a2 n2 c2)) ∧ Hid ((∀ w1, More w w1 → Calls Try.prog 7 #[.agg #[.slice ra rl rc, .slice ca cl cc], v, sv, .int .i64 fuel] w1 fun e w' => ∃ (x1 x2 x3 code : Int) (a : Option Addr) (n c : Nat) (a' : Option Addr) (n' c' : Nat), e = .returned (.tuple #[.agg #[.int .i64 x1, .int .i64 x2, .int .i64 x3, .slice a n c, .slice a' n' c'], .int .i64 code]) ∧ W code ∧ (code = 0 → SeenAt w' (.slice a n c) Z) ∧ More w1 w') ∧ (∀ c w', ¬ c = 0 → W c → More w w' → P (.returned (.tuple #[.int .i64 0, .bool false, .int .i64 c])) w') ∧ ∀ (w1 : World) (a : Option Addr) (n c : Nat) (T : TypeId) (cs : Array Value), W 0 → More wr w1 → SeenAt w1 (.slice a n c) Z → FAt (N + 1) (Wr1 p m L fuel 0) (Wr1 p m' L fuel 0) X Y w (k + 1) ((w1.setCell ⟨N + 1, k, none⟩ (.slice a n c)).alloc (.cells cs T))) := by
      have hm0 := Hr.out.1.1
      have hN : w.heap.size ≤ N + 1 := by have := HN.out; omega
      rcases gk with _ | q
      · exact .inl ⟨rfl, by omega⟩
      · have hk : k = 0 ∨ k = 1 := by omega
        rcases hk with rfl | rfl
        · refine .inr ⟨q, _, Wr1 p m L fuel, X, rfl, .inl ⟨rfl, rfl⟩, fun w1 m1 => (CA.out w1 m1).mono ?_, fun c w' h0 hw mm => HP.out 0 false c w' ⟨c, hw, .inl ⟨h0, rfl, rfl, rfl⟩⟩ mm, ?_⟩
          · rintro e w' ⟨x1, x2, x3, code, a, n, c, a', n', c', rfl, hw, h0, mm⟩
            exact ⟨x1, x2, x3, code, a, n, c, a', n', c', rfl, hw, fun h => HX.out ▸ (h0 h).2, mm⟩
          · intro w1 a n c T cs hw mm hs
            obtain ⟨⟨_, b, b', e, f, e', f', hb, _⟩, _⟩ := Hr.out
            have hb1 := hb.more mm
            exact ⟨((hm0.trans mm).setCell hN _).alloc _ _, a, b', n, c, e', f', (hb1.put 0 _).alloc _ _, fun _ => ⟨hw, (hs.put hb1 0 _).more ((More.refl _).alloc _ _)⟩, fun h => absurd h (by decide)⟩
        · refine .inr ⟨q, _, Wr1 p m' L fuel, Y, rfl, .inr ⟨rfl, rfl⟩, fun w1 m1 => (CB.out w1 m1).mono ?_, fun c w' h0 hw mm => HP.out 0 false c w' ?_ mm, ?_⟩
          · rintro e w' ⟨x1, x2, x3, code, a, n, c, a', n', c', rfl, hw, h0, mm⟩
            exact ⟨x1, x2, x3, code, a, n, c, a', n', c', rfl, hw, fun h => HY.out ▸ (h0 h).2, mm⟩
          · obtain ⟨⟨_, b, b', e, f, e', f', hb, hA, _⟩, _⟩ := Hr.out
            exact ⟨0, (hA (by decide)).1, .inr ⟨rfl, c, hw, .inl ⟨h0, rfl, rfl, rfl⟩⟩⟩
          · intro w1 a n c T cs hw mm hs
            obtain ⟨⟨_, b, b', e, f, e', f', hb, hA, _⟩, _⟩ := Hr.out
            have hb1 := hb.more mm
            have hA1 := hA (by decide)
            exact ⟨((hm0.trans mm).setCell hN _).alloc _ _, b, a, e, f, n, c, (hb1.put 1 _).alloc _ _, fun _ => ⟨hA1.1, ((hA1.2.more mm).put hb1 1 _).more ((More.refl _).alloc _ _)⟩, fun _ => ⟨hw, (hs.put hb1 1 _).more ((More.refl _).alloc _ _)⟩⟩
    rcases hcase with ⟨rfl, rfl⟩ | ⟨q, v, W, Z, rfl, hkv, HQ⟩
    · obtain ⟨⟨mr, a, a', n, c, n', c', hb, h1, h2⟩, _⟩ := Hr.out
      have z1 := h1 (by decide)
      have z2 := h2 (by decide)
      have Hmr : Hid (More w wr) := mr
      have Hfo : Hid (Calls Try.prog 8 #[.agg #[.slice a n c, .slice a' n' c']] wr fun e w' => ∃ k is, e = .returned (.tuple #[.int .i64 k, .bool is]) ∧ Diff X Y k is ∧ More wr w') := first_calls X Y a a' n n' c c' wr z1.2 z2.2
      have HF : Hid (∀ k is, Diff X Y k is → FindOf p m m' L fuel k is 0) := fun k is hd => ⟨0, z1.1, .inr ⟨rfl, 0, z2.1, .inr ⟨rfl, rfl, by rw [HX.out, HY.out]; exact hd⟩⟩⟩
      have p0 : wr.cell? ⟨N + 1, 0, none⟩ = some (.slice a n c) := hb.cell rfl
      have p1 : wr.cell? ⟨N + 1, 1, none⟩ = some (.slice a' n' c') := hb.cell rfl
      clear z1 z2 hb h1 h2 mr CA CB hkg Hr
      go_wp2_with (fail)
      refine Hfo.out.mono ?_
      rintro e w1 ⟨k, is, rfl, hd, m1⟩
      have Hend : Hid (P (.returned (.tuple #[.int .i64 k, .bool is, .int .i64 0])) w1) := HP.out k is 0 w1 (HF.out k is hd) (Hmr.out.trans m1)
      clear HF hd m1 p0 p1 HP Hfo
      go_wp2
      exact bodyPost_ret (by simp [results, Try.results5, go_sem]) rfl Hend.out
    · have p0 : wr.cell? ⟨N, 0, none⟩ = some (.slice ra rl rc) := Hr.out.2.cell rfl
      have p1 : wr.cell? ⟨N, 1, none⟩ = some (.slice ca cl cc) := Hr.out.2.cell rfl
      have Hmr : Hid (More w wr) := Hr.out.1.1
      clear CA CB HP
      rcases hkv with ⟨rfl, rfl⟩ | ⟨rfl, rfl⟩
      all_goals
        go_wp2_with (fail)
        refine (HQ.out.1 _ Hmr.out).mono ?_
        rintro e w1 ⟨x1, x2, x3, code, a, n, c, a', n', c', rfl, hw, hs, m1⟩
        by_cases h0 : code = 0
        · subst h0
          obtain ⟨⟨_, b, b', e, f, e', f', hb, _⟩, hb2⟩ := Hr.out
          have Hn := HQ.out.2.2 w1 a n c 34 #[.int .i64 x1, .int .i64 x2, .int .i64 x3, .slice a n c, .slice a' n' c'] hw m1 (hs rfl)
          have p0 : w1.cell? ⟨N + 1, 0, none⟩ = some (.slice b e f) := (hb.more m1).cell rfl
          have p1 : w1.cell? ⟨N + 1, 1, none⟩ = some (.slice b' e' f') := (hb.more m1).cell rfl
          have f0 : w1.frozen? ⟨N + 1, 0, none⟩ = false := (hb.more m1).frozen 0
          have f1 : w1.frozen? ⟨N + 1, 1, none⟩ = false := (hb.more m1).frozen 1
          have z0 := (hb.more m1).lt
          have HB : Hid (Blk w1 N #[.slice ra rl rc, .slice ca cl cc] 25) := hb2.more m1
          have HA : Hid (FAt _ _ _ _ _ _ _ _) := Hn
          clear hb hb2 hw hs m1 Hr HQ Hn
          go_wp2
          go_roundg q
          case measure => omega
          case rel => first | exact ⟨1, by omega, rfl, HA.out, (HB.out.other (by omega) _ _).alloc _ _⟩ | exact ⟨2, by omega, rfl, HA.out, (HB.out.other (by omega) _ _).alloc _ _⟩
        · have e0 : (code == 0) = false := by simp [h0]
          have e1 : (code != 0) = true := by simp [h0]
          have Hend : Hid (P (.returned (.tuple #[.int .i64 0, .bool false, .int .i64 code])) w1) := HQ.out.2.1 code w1 h0 hw (Hmr.out.trans m1)
          have HE : Hid (∀ w', More w w' → P (.returned (.tuple #[.int .i64 0, .bool false, .int .i64 code])) w') := fun w' mm => HQ.out.2.1 code w' h0 hw mm
          have Hm1 : Hid (More w w1) := Hmr.out.trans m1
          clear hw hs m1 h0 HQ
          go_wp2
          exact bodyPost_ret (by simp [results, Try.results5, go_sem]) rfl (HE.out _ (Hm1.out.alloc _ _))
end
end Go.Proofs.Ytapagihngaiebaa
