/-
  The texts RPlay, FdRef, FdFirst, ScriptD, Step, WayD, Hard, NewBad, New, Run, SRun, one behind the other, with what is used of them.
-/
import Derived.Test.YtapagihngaiebaaJoined6
import Derived.Test.YtapagihngaiebaaJoined0
import Derived.Test.YtapagihngaiebaaJoined5
import Derived.Test.YtapagihngaiebaaRows
import Derived.WalkKit
import Derived.Deep.LoopGhost
import Derived.Test.YtapagihngaiebaaJoined2
import Derived.Test.YtapagihngaiebaaJoined1
import Derived.Test.YtapagihngaiebaaJoined3
namespace Go.Proofs.Ytapagihngaiebaa
section
open Go.RowKit
set_option linter.unusedSimpArgs false
set_option linter.unusedVariables false
set_option maxRecDepth 8000
/-- What is told. -/
def PlayPost (m : Mem) (R : ShF) (w : World) (e : Ending) (w' : World) : Prop :=
  ∃ (v : Value) (mm : Mem), e = .returned v ∧ ShownAt w' v ⟨R.fin, R.val, R.steps, R.seen, mm⟩ ∧ mm.ml = m.ml ∧ (∀ j, mm.len j = m.len j) ∧ (∀ j, j < m.ml → ∀ i, i < m.len j → mm.wd j i = R.wd (baseN m.len j + i)) ∧ More w w'

theorem made_nil (j N : Nat) (h : j < N) : (madeCells #[.slice none 0 0] N)[j]? = some (.slice none 0 0) := by
  unfold madeCells
  simp [h, Nat.mod_one]

theorem toNat_add (a b : Nat) : ((a : Int) + (b : Int)).toNat = a + b := by omega

theorem r4_world (w : World) (ra : Option Addr) (rl rc : Nat) (ca : Option Addr) (cl cc : Nat) (sa : Option Addr) (sn sc : Nat) (f : Nat → Int) (L : List Int) (G : Nat) (hG : w.heap.size + 1 + 1 = G) (W3 : World) (hW : W3 = (((w.alloc (.cells #[.slice ra rl rc, .slice ca cl cc] 25)).alloc (.cells #[.int .i64 0, .int .i64 0, .int .i64 0, .slice none 0 0, .slice none 0 0] 34)).alloc (.cells #[.slice (some ⟨w.heap.size + 1 + 1 + 1, 0, none⟩) 10 10, .slice none 0 0, .slice none 0 0, .int .i64 0, .slice ra rl rc, .slice ca cl cc, .int .i64 0, .int .i64 0, .int .i64 0, .slice none 0 0, .slice none 0 0, .slice sa sn sc, .bool false, .int .i64 0, .slice none 0 0, .slice none 0 0, .slice none 0 0, .int .i64 0] 71)).alloc (.cells (madeCells #[.int .i64 0] 10) 2)) :
    More w W3 ∧ W3.heap.size = G + 2 ∧ (W3.cell? ⟨w.heap.size, 0, none⟩ = some (.slice ra rl rc) ∧ W3.cell? ⟨w.heap.size, 1, none⟩ = some (.slice ca cl cc)) ∧
      (Wr W3 (w.heap.size + 1) 0 (.int .i64 0) ∧ Wr W3 (w.heap.size + 1) 1 (.int .i64 0) ∧ Wr W3 (w.heap.size + 1) 2 (.int .i64 0) ∧ Wr W3 (w.heap.size + 1) 3 (.slice none 0 0) ∧ Wr W3 (w.heap.size + 1) 4 (.slice none 0 0)) ∧
      (∀ j, j < 18 → Wr W3 G j (gV 0 ⟨.slice ra rl rc, .slice ca cl cc, .slice none 0 0, 0, 0, 0⟩ ⟨⟨0, fun _ => 0, f, fun _ => []⟩, false, 0, ⟨0, fun _ => 0, f, fun _ => []⟩, L, []⟩ ⟨.slice none 0 0, .slice sa sn sc, .slice none 0 0, .slice none 0 0, .slice none 0 0, .int .i64 0, ⟨G + 1, 10, 0, none, 0, 0, none, 0, fun _ => .slice none 0 0⟩, ⟨0, 0, 0, none, 0, 0, none, 0, fun _ => .slice none 0 0⟩, fun _ => 0⟩ j)) ∧ RegsR W3 (G + 1) (fun _ => 0) := by
  subst hG hW
  refine ⟨((((More.refl _).alloc _ _).alloc _ _).alloc _ _).alloc _ _, by simp, ⟨by go_simp, by go_simp⟩, ⟨⟨by go_simp, by go_simp⟩, ⟨by go_simp, by go_simp⟩, ⟨by go_simp, by go_simp⟩, ⟨by go_simp, by go_simp⟩, ⟨by go_simp, by go_simp⟩⟩, ?_, fun j hj => ?_⟩
  · refine lt18 ?_ ?_ ?_ ?_ ?_ ?_ ?_ ?_ ?_ ?_ ?_ ?_ ?_ ?_ ?_ ?_ ?_ ?_ <;> exact ⟨by dsimp only [gV, PV.regs, PV.words, PV.past]; go_simp, by go_simp⟩
  · have hj2 := made_at j hj
    exact ⟨by go_simp, by go_simp⟩

set_option maxHeartbeats 2000000 in
theorem r4_play (p : Prg) (l : Loc) (m : Mem) (ml : MLoc) (sa : Option Addr) (sb so sn sc : Nat) (L : List Int) (fuel : Nat) (w : World) (hp : PIn w p l) (hm : MIn w m ml) (hok : p.Ok 8000 10) (hn64 : ∀ i, i < p.cl → B64 (p.ins i).n) (hfit : FitsOk p.rl p.log m.ml m.len) (hwd : ∀ j, j < m.ml → ∀ i, i < m.len j → B64 (m.wd j i)) (hfuel : fuel ≤ 40000) (hL : L.length = sn) (hcap : sn ≤ sc) (hs : SIn w sa sb so L) (hsok : ScOk L) :
    Calls Try.prog 10 #[.agg #[.slice l.ra p.rl l.rc, .slice l.ca p.cl l.cc], .slice ml.ma m.ml ml.mc, .slice sa sn sc, .int .i64 fuel] w (PlayPost m (playS p (flatM m) L fuel) w) := by
  have hml : m.ml = p.rl := hfit.2.1
  have hlen : ∀ i, i < m.ml → (m.len i : Int) = wordsI (p.log i) := fun i hi => hfit.2.2 i (by omega)
  have hpos : ∀ i, i < m.ml → 0 < m.len i ∧ m.len i ≤ 64 := fun i hi => by
    have h1 := hlen i hi
    have h2 := hok.1.2 i (by omega)
    have h3 := two_pow_le (k := (p.log i).toNat) (by omega)
    unfold wordsI at h1
    omega
  have hm6 : m.ml ≤ 6 := by rw [hml]; exact hok.1.1
  have hcl : 1 ≤ p.cl ∧ p.cl ≤ 8000 := ⟨hok.2.1, hok.2.2.1⟩
  have hall : allI p = (baseN m.len m.ml : Int) := allI_N hml hlen
  have hble : ∀ j, j ≤ m.ml → baseN m.len j ≤ 384 := fun j hj => by
    have h1 := baseN_le m.len j (fun i hi => (hpos i (by omega)).2)
    omega
  have hinv : InvS p 0 (4 * 0) ⟨⟨0, fun _ => 0, flatM m, fun _ => []⟩, false, 0, ⟨0, fun _ => 0, flatM m, fun _ => []⟩, L, []⟩ := by
    refine ⟨⟨Nat.zero_le _, fun _ _ => B64_zero, fun j hj => ?_, fun j => Nat.le_refl _, fun j hj v hv => by simp at hv⟩, fun a => by simp at a, Nat.le_refl _, fun c hc => ?_⟩
    · rw [hall] at hj
      obtain ⟨c, i, h1, h2, rfl⟩ := base_find m.len m.ml j (by omega)
      dsimp only
      rw [flatM_at m c i h1 h2]
      exact hwd c h1 i h2
    · obtain ⟨j, hj⟩ := List.getElem?_of_mem hc
      exact hsok.2 j c hj
  obtain ⟨ra, rb, ro, rc, ca, cb, co, cc⟩ := l
  obtain rfl : ca = some ⟨cb, co, none⟩ := hp.hc (by omega)
  obtain ⟨ma, mb, mo', mc, MA, MC0, gb, go⟩ := ml
  dsimp only
  obtain ⟨R, HR⟩ : ∃ R, Hid (playS p (flatM m) L fuel = R) := ⟨_, rfl⟩
  rw [HR.out]
  obtain ⟨P, HP⟩ : ∃ P, Hid (P = PlayPost m R w) := ⟨_, rfl⟩
  rw [← HP.out]
  have H0 := hid_of' (And.intro hp (And.intro hok (And.intro hn64 (And.intro hml (And.intro hlen (And.intro hpos (And.intro hm6 (And.intro hcl (And.intro hall (And.intro hble hinv))))))))))
  have HM := hid_of' hm
  have HS := hid_of' (And.intro hfuel (And.intro hL (And.intro hcap (And.intro hs hsok))))
  obtain ⟨i0, hi, hz0, hz1, hz2⟩ := info_parts info2
  have Hi : Hid (Try.prog.info? 2 = some i0 ∧ i0.zero = some (.int .i64 0) ∧ i0.size = 1 ∧ i0.bytes = 8) := ⟨hi, hz0, hz1, hz2⟩
  obtain ⟨nn, hnn⟩ : ∃ n, m.ml = n := ⟨_, rfl⟩
  rw [hnn]
  have Hnn := hid_of' hnn
  clear hp hok hn64 hml hlen hpos hm6 hcl hall hble hinv hm hfuel hL hcap hs hsok hfit hwd hi hz0 hz1 hz2 hnn
  have hmk := run_make_row' (P := Try.prog) 67 2 (.int .i64 0) 8 Try.underlying67 info2 rfl .i64 .i64 10 (by decide) (by decide)
  push_cast at hmk
  obtain ⟨W3, hW3⟩ : ∃ W3, (((w.alloc (.cells #[.slice ra p.rl rc, .slice (some ⟨cb, co, none⟩) p.cl cc] 25)).alloc (.cells #[.int .i64 0, .int .i64 0, .int .i64 0, .slice none 0 0, .slice none 0 0] 34)).alloc (.cells #[.slice (some ⟨w.heap.size + 1 + 1 + 1, 0, none⟩) 10 10, .slice none 0 0, .slice none 0 0, .int .i64 0, .slice ra p.rl rc, .slice (some ⟨cb, co, none⟩) p.cl cc, .int .i64 0, .int .i64 0, .int .i64 0, .slice none 0 0, .slice none 0 0, .slice sa sn sc, .bool false, .int .i64 0, .slice none 0 0, .slice none 0 0, .slice none 0 0, .int .i64 0] 71)).alloc (.cells (madeCells #[.int .i64 0] 10) 2) = W3 := ⟨_, rfl⟩
  obtain ⟨G, hG⟩ : ∃ G, w.heap.size + 1 + 1 = G := ⟨_, rfl⟩
  obtain ⟨y0, hy0⟩ : ∃ y : Ys, y = ⟨.slice ra p.rl rc, .slice (some ⟨cb, co, none⟩) p.cl cc, .slice none 0 0, 0, 0, 0⟩ := ⟨_, rfl⟩
  obtain ⟨g0, hg0⟩ : ∃ g0 : Nat → Value, g0 = gV 0 y0 ⟨⟨0, fun _ => 0, flatM m, fun _ => []⟩, false, 0, ⟨0, fun _ => 0, flatM m, fun _ => []⟩, L, []⟩ ⟨.slice none 0 0, .slice sa sn sc, .slice none 0 0, .slice none 0 0, .slice none 0 0, .int .i64 0, ⟨G + 1, 10, 0, none, 0, 0, none, 0, fun _ => .slice none 0 0⟩, ⟨0, 0, 0, none, 0, 0, none, 0, fun _ => .slice none 0 0⟩, fun _ => 0⟩ := ⟨_, rfl⟩
  have HW : Hid (More w W3 ∧ W3.heap.size = G + 2 ∧ (W3.cell? ⟨w.heap.size, 0, none⟩ = some (.slice ra p.rl rc) ∧ W3.cell? ⟨w.heap.size, 1, none⟩ = some (.slice (some ⟨cb, co, none⟩) p.cl cc)) ∧
      (Wr W3 (w.heap.size + 1) 0 (.int .i64 0) ∧ Wr W3 (w.heap.size + 1) 1 (.int .i64 0) ∧ Wr W3 (w.heap.size + 1) 2 (.int .i64 0) ∧ Wr W3 (w.heap.size + 1) 3 (.slice none 0 0) ∧ Wr W3 (w.heap.size + 1) 4 (.slice none 0 0)) ∧
      (∀ j, j < 18 → Wr W3 G j (g0 j)) ∧ RegsR W3 (G + 1) (fun _ => 0)) := by
    rw [hg0, hy0]
    exact r4_world w ra p.rl rc (some ⟨cb, co, none⟩) p.cl cc sa sn sc (flatM m) L G hG W3 hW3.symm
  have HG := hid_of' (And.intro hG (And.intro hg0 hy0))
  have HW3 := hid_of' hW3
  clear hW3 hg0 hy0 hG
  go_enter Try.func10, Try.ntmps10
  go_wp2
  rw [HW3.out]
  rw [HG.out.1]
  clear hmk
  go_loopg [10] nn (fun g i wr => ∃ (k : Nat) (v : Value), k + g = nn ∧ i = .int .i64 k ∧ wr.ownsRow (G + 2) 2 1 v (baseN m.len k) ((List.range (baseN m.len k)).map fun j => .int .i64 (flatM m j)) ∧ W3.grownBy wr (some G) ∧ Wr wr G 1 v ∧ ∀ j, j < 18 → j ≠ 1 → Wr wr G j (g0 j))
  case atStart =>
    obtain ⟨_, _, _, _, h1, _⟩ := HW.out
    refine ⟨0, .slice none 0 0, by omega, rfl, World.ownsRow_nil _ _ _ _, grown_refl _ _, ?_, fun j hj _ => h1 j hj⟩
    have := h1 1 (by omega)
    rw [HG.out.2.1] at this
    exact this
  case round =>
    obtain ⟨k, v, hkg, rfl, hown, hgr, hv, hcs⟩ := hrel
    obtain ⟨va, vc, rfl⟩ := own_form hown
    have Hm := hid_of' (And.intro hown (And.intro hgr (And.intro hv hcs)))
    clear hown hgr hv hcs
    cases gk with
    | zero =>
      obtain rfl : k = nn := by omega
      obtain ⟨N, hN⟩ : ∃ N, baseN m.len k = N := ⟨_, rfl⟩
      rw [hN] at Hm
      have HN : Hid (N ≤ 384 ∧ baseN m.len m.ml = N) := ⟨by rw [← hN]; exact H0.out.2.2.2.2.2.2.2.2.2.1 k (by rw [Hnn.out]; exact Nat.le_refl _), by rw [Hnn.out]; exact hN⟩
      have hmk := run_make_row' (P := Try.prog) 26 67 (.slice none 0 0) 24 Try.underlying26 info60 rfl .i64 .i64 N (by have := HN.out.1; omega) (by have := HN.out.1; omega)
      have v1 := Hm.out.2.2.1.1
      have v2 := (Hm.out.2.2.2 2 (by omega) (by omega)).1
      have f2 := (Hm.out.2.2.2 2 (by omega) (by omega)).2
      have hn0 : (0 : Int) ≤ (N : Int) := by omega
      have hGl : G < wr.heap.size := cell_block v1
      clear hN
      rw [HG.out.2.1] at v2
      dsimp only [gV, PV.past] at v2
      go_wp2
      obtain ⟨W7, hW7⟩ : ∃ W7, (wr.setCell ⟨G, 2, none⟩ (.slice (some ⟨wr.heap.size, 0, none⟩) N N)).alloc (.cells (madeCells #[.slice none 0 0] N) 67) = W7 := ⟨_, rfl⟩
      rw [hW7]
      have HW7 := hid_of' hW7
      clear hW7
      have hsz := HW.out.2.1
      have hgs := grown_set wr G 2 (.slice (some ⟨wr.heap.size, 0, none⟩) N N)
      have b7 : Below G W3 W7 := by
        rw [← HW7.out]
        exact below_alloc (below_put (Below.grown (Below.refl _ _) Hm.out.2.1 (by omega) (fun b hb => by have := Option.some.inj hb; omega)) _ _) (by have := hgs.size; omega) _
      have kw : ∀ b o u, b ≠ G → Wr wr b o u → Wr W7 b o u := fun b o u hb h => by rw [← HW7.out]; exact (h.kept hgs (fun e => hb (Option.some.inj e))).kept (World.grownBy_alloc _ _ none) (by simp)
      have kg : ∀ o u, o ≠ 2 → Wr wr G o u → Wr W7 G o u := fun o u ho h => by rw [← HW7.out]; exact (h.other _ _ _ (by omega)).kept (World.grownBy_alloc _ _ none) (by simp)
      have hszr : G + 2 ≤ wr.heap.size := by have := Hm.out.2.1.size; omega
      have hrs : ∃ z, RS W7 G N y0 ⟨⟨0, fun _ => 0, flatM m, fun _ => []⟩, false, 0, ⟨0, fun _ => 0, flatM m, fun _ => []⟩, L, []⟩ [] z := by
        refine ⟨_, RS.begin (rg := G + 1) (pg := wr.heap.size) (pc := N) (sc := .slice sa sn sc) (wa := va) (wc := vc) HN.out.1 (by omega) (fun j hj => ?_) ?_ ?_ (fun b hb => (World.ownsRow.lt Hm.out.1 b hb).2) (by omega) (fun j hj => ?_) ?_ rfl ?_⟩
        · exact kw _ _ _ (by omega) (Wr.kept Hm.out.2.1 (HW.out.2.2.2.2.2 j hj) (fun e => by have := Option.some.inj e; omega))
        · refine ⟨sa, sc, by rw [HS.out.2.1], by rw [HS.out.2.1]; exact HS.out.2.2.1, fun hne => ?_⟩
          have hpos : 0 < L.length := List.length_pos_iff.2 hne
          have hc0 := HS.out.2.2.2.1.cells 0 (L[0]) (List.getElem?_eq_getElem hpos)
          have hlt := cell_block hc0
          dsimp only at hlt
          have hG1 := HG.out.1
          refine ⟨sb, so, HS.out.2.2.2.1.ha hpos, by omega, fun j c hj => ?_⟩
          rw [Below.cell b7 (by dsimp only; omega)]
          exact HW.out.1.cell (HS.out.2.2.2.1.cells j c hj)
        · rw [← HW7.out]
          refine World.ownsRow.kept (World.ownsRow.kept Hm.out.1 hgs ?_) (World.grownBy_alloc _ _ none) ?_
          · cases hv : (Value.slice va N vc).ownBlock with
            | none => left; rfl
            | some b => right; have := (World.ownsRow.lt Hm.out.1 b hv).1; simp; omega
          · cases (Value.slice va N vc).ownBlock with
            | none => left; rfl
            | some b => right; simp
        · rw [← HW7.out]
          have hj2 := made_nil j N hj
          exact ⟨by go_simp, by go_simp⟩
        · rw [← HW7.out]; simp
        · intro j hj
          by_cases e1 : j = 1
          · subst e1
            exact kg _ _ (by omega) Hm.out.2.2.1
          by_cases e2 : j = 2
          · subst e2
            rw [← HW7.out]
            exact ((Hm.out.2.2.2 2 (by omega) (by omega)).same _).kept (World.grownBy_alloc _ _ none) (by simp)
          · have h1 := kg _ _ e2 (Hm.out.2.2.2 j hj e1)
            have eq : g0 j = gV N y0 ⟨⟨0, fun _ => 0, flatM m, fun _ => []⟩, false, 0, ⟨0, fun _ => 0, flatM m, fun _ => []⟩, L, []⟩ ⟨.slice none 0 0, .slice sa sn sc, .slice none 0 0, .slice none 0 0, .slice none 0 0, .int .i64 0, ⟨G + 1, 10, wgOf va, va, vc, wr.heap.size, some ⟨wr.heap.size, 0, none⟩, N, fun _ => .slice none 0 0⟩, ⟨0, 0, 0, none, 0, 0, none, 0, fun _ => .slice none 0 0⟩, fun c => if c = G + 1 then 1 else if 0 < N ∧ (Value.slice va N vc).ownBlock = some c then 2 else if c = wr.heap.size then 3 else 0⟩ j := by
              rw [HG.out.2.1]
              revert j
              refine lt18 ?_ ?_ ?_ ?_ ?_ ?_ ?_ ?_ ?_ ?_ ?_ ?_ ?_ ?_ ?_ ?_ ?_ ?_ <;> intros <;> first | rfl | omega
            rw [← eq]
            exact h1
      have Hrs : Hid (R4 W7 G N y0 ⟨⟨0, fun _ => 0, flatM m, fun _ => []⟩, false, 0, ⟨0, fun _ => 0, flatM m, fun _ => []⟩, L, []⟩ []) := ⟨HN.out.1, hrs⟩
      have H7 : Hid (Below G W3 W7 ∧ W3.heap.size = G + 2 ∧ w.heap.size + 1 + 1 = G) := ⟨b7, hsz, HG.out.1⟩
      clear hgs b7 kw kg hszr hrs hsz v1 v2 f2 hmk hn0 hGl Hm
      have hRP : ∀ wx, Below G W3 wx → ∀ y : Ys, y.rv = y0.rv → y.cv = y0.cv → RP wx G N p ⟨ra, rb, ro, rc, some ⟨cb, co, none⟩, cb, co, cc⟩ y := fun wx hb y e1 e2 => by
        have hlt : 0 < p.rl → rb < w.heap.size := fun h0 => cell_block (H0.out.1.regs 0 h0).1
        refine ⟨by rw [e1, HG.out.2.2], by rw [e2, HG.out.2.2], H0.out.1.hr, fun i hi => ⟨?_, ?_⟩, fun h0 => by have := hlt h0; have := HG.out.1; dsimp only; omega, H0.out.2.1.1, by rw [H0.out.2.2.2.2.2.2.2.2.1, HN.out.2]⟩
        · rw [Below.cell hb (by have := hlt (by omega); have := HG.out.1; dsimp only; omega)]; exact HW.out.1.cell (H0.out.1.regs i hi).1
        · rw [Below.cell hb (by have := hlt (by omega); have := HG.out.1; dsimp only; omega)]; exact HW.out.1.cell (H0.out.1.regs i hi).2
      have HRP := hid_of' hRP
      clear hRP
      apply by_tail
      · intro key
        go_loopg [] (2 * fuel) (fun g wr => ∃ (y : Ys) (s : Sp), R4 wr G N y s [] ∧ (y.rv = y0.rv ∧ y.cv = y0.cv ∧ y.mv = .slice none 0 0) ∧ Below G W3 wr ∧ ((y.e = 0 ∧ y.v = 0 ∧ ∃ g' k : Nat, y.k = k ∧ k + g' = fuel ∧ InvS p k (4 * k + (if s.ahead = true then 0 else 1)) s ∧ runS p g' k s = R ∧ g = 2 * g' + (if s.ahead = true then 1 else 0) ∧ (s.ahead = true → 0 ≤ s.since ∧ s.since ≤ 11)) ∨ (¬ y.e = 0 ∧ R = ⟨y.e, y.v, y.k, s.seen, s.real.wd⟩ ∧ s.seen.length ≤ 200000 ∧ s.ahead = false)))
        case atStart =>
          refine ⟨y0, _, Hrs.out, ⟨rfl, rfl, by rw [HG.out.2.2]⟩, H7.out.1, .inl ⟨by rw [HG.out.2.2], by rw [HG.out.2.2], fuel, 0, by rw [HG.out.2.2]; rfl, by omega, H0.out.2.2.2.2.2.2.2.2.2.2.mono (Nat.le_refl _) (by omega), HR.out, ?_, fun h => absurd h (by simp)⟩⟩
          rw [if_neg (by simp)]
          rfl
        case round =>
          obtain ⟨y, s, hr4, hy, hbel, hst⟩ := hrel
          have Hs := hid_of' (And.intro hr4 (And.intro hy hbel))
          obtain ⟨c8, f8⟩ := hr4.k
          have c6 := hr4.e.1
          have c12 := hr4.ahead.1
          obtain ⟨w6, hw6⟩ : ∃ w6, wr = w6 := ⟨_, rfl⟩
          subst hw6
          clear hr4 hy hbel
          rcases hst with ⟨he, hv, g', k, hyk, hkg, hinv, hrun, hgk, hsin⟩ | ⟨he, hR, hsl, haf⟩
          · cases g' with
            | zero =>
              -- no fuel is left
              have hk : ¬ y.k < (fuel : Int) := by omega
              have HE : Hid (R4 wr G N y s [] ∧ Below G W3 wr ∧ R = ⟨y.e, y.v, y.k, s.seen, s.real.wd⟩ ∧ s.seen.length ≤ 200000 ∧ y.mv = .slice none 0 0) := ⟨Hs.out.1, Hs.out.2.2, by rw [← hrun, he, hv, hyk]; rfl, by have h1 := hinv.seen; have h2 := HS.out.1; split at h1 <;> omega, Hs.out.2.1.2.2⟩
              clear hinv hrun hgk hyk hkg he hv f8 hsin
              cases ha : s.ahead with
              | false =>
                rw [ha] at c12
                go_wp2
                obtain ⟨W8, hW8⟩ : ∃ W8, wr = W8 := ⟨_, rfl⟩
                rw [hW8]
                obtain ⟨sv, wa, wc, wg, hts⟩ := HE.out.1.here ha
                rw [hW8] at hts HE
                have TSH := hid_of' hts
                have HT := hid_of' HE.out.2
                clear hts hW8 c6 c8 c12 hk
                refine wp_slots deadSlots (by kernel_rfl) (fun f => ?_)
                simp only [deadSlots, List.foldl]
                go_simp
                rename_i K a
                clear HE ha Hs
                revert y s K a W8 sv wa wc wg TSH HT f
                exact key.out
              | true =>
                rw [ha] at c12
                obtain ⟨hN_, z, hz⟩ := HE.out.1.out
                obtain ⟨c0, f0⟩ := hz.cells 0 (by omega)
                obtain ⟨c1, f1⟩ := hz.cells 1 (by omega)
                obtain ⟨c2, f2⟩ := hz.cells 2 (by omega)
                obtain ⟨c3, f3⟩ := hz.cells 3 (by omega)
                obtain ⟨c14, _⟩ := hz.cells 14 (by omega)
                obtain ⟨c15, _⟩ := hz.cells 15 (by omega)
                obtain ⟨c16, _⟩ := hz.cells 16 (by omega)
                obtain ⟨c17, _⟩ := hz.cells 17 (by omega)
                obtain ⟨sv, wa, wc, wg, hts⟩ := hz.there hN_ ha
                obtain ⟨_, e0, e1, e2, e3⟩ := hz.rest.back ha
                dsimp only [gV, PV.regs, PV.words, PV.past] at c0 c1 c2 c3 c14 c15 c16 c17 e0 e1 e2 e3
                rw [e0] at c14
                rw [e1] at c15
                rw [e2] at c16
                rw [e3] at c17
                rw [e0, e1, e2, e3] at hts
                obtain ⟨W8, hW8⟩ : ∃ W8, (((wr.setCell ⟨G, 0, none⟩ (.slice (some ⟨z.b.rg, 0, none⟩) 10 z.b.rc)).setCell ⟨G, 1, none⟩ (.slice z.b.wa N z.b.wc)).setCell ⟨G, 2, none⟩ (.slice z.b.pa N z.b.pc)).setCell ⟨G, 3, none⟩ (.int .i64 s.back.at_) = W8 := ⟨_, rfl⟩
                rw [hW8] at hts
                have TSH := hid_of' hts
                have HT : Hid (Below G W3 W8 ∧ R = ⟨y.e, y.v, y.k, s.seen, s.real.wd⟩ ∧ s.seen.length ≤ 200000 ∧ y.mv = .slice none 0 0) := by
                  refine ⟨?_, HE.out.2.2⟩
                  rw [← hW8]
                  exact below_put (below_put (below_put (below_put HE.out.2.1 _ _) _ _) _ _) _ _
                have HW8 := hid_of' hW8
                clear hts hz hW8 e0 e1 e2 e3
                go_wp2
                rw [HW8.out]
                clear c0 c1 c2 c3 c14 c15 c16 c17 f0 f1 f2 f3 c6 c8 c12 hk
                refine wp_slots deadSlots (by kernel_rfl) (fun f => ?_)
                simp only [deadSlots, List.foldl]
                go_simp
                rename_i K a
                exact key.out y s K a W8 sv wa wc wg TSH HT f
            | succ g' =>
              have hk : y.k < (fuel : Int) := by omega
              have hB : w.heap.size < G := by have := HG.out.1; omega
              have hb1 : wr.cell? ⟨w.heap.size, 1, none⟩ = some (.slice (some ⟨cb, co, none⟩) p.cl cc) := by rw [Below.cell Hs.out.2.2 (by dsimp only; omega)]; exact HW.out.2.2.1.2
              have c3 := Hs.out.1.at_.1
              obtain ⟨S, HS9⟩ := s_more wr
              have j3 := s_cell HS9 c3
              have jb := s_cell HS9 hb1
              have hne := s_ne HS9
              have hS := s_drew HS9
              have Hrun := hid_of' (And.intro he (And.intro hv (And.intro hyk (And.intro hkg (And.intro hinv (And.intro hrun hgk))))))
              have he0 := he
              clear hv hyk hinv hrun hkg
              rw [he] at c6
              clear he
              by_cases hcl : p.cl ≤ s.pl.at_
              · have hcl' : (p.cl : Int) ≤ (s.pl.at_ : Int) := by omega
                cases ha : s.ahead with
                | false =>
                  rw [ha] at c12
                  have f6 := Hs.out.1.e.2
                  have HE : Hid (R4 (wr.setCell ⟨G, 6, none⟩ (.int .i64 2)).drew G N { y with e := 2 } s [] ∧ Below G W3 (wr.setCell ⟨G, 6, none⟩ (.int .i64 2)).drew ∧ R = ⟨2, y.v, y.k, s.seen, s.real.wd⟩ ∧ s.seen.length ≤ 200000 ∧ y.mv = .slice none 0 0) := by
                    obtain ⟨h1, h2, h3, h4, h5, h6, h7⟩ := Hrun.out
                    exact ⟨(Hs.out.1.setE 2).drew, below_drew (below_put Hs.out.2.2 _ _), by rw [← h6, runS_fault hcl ha, h2, h3], by have q1 := h5.seen; have q2 := HS.out.1; split at q1 <;> omega, Hs.out.2.1.2.2⟩
                  go_wp2_with (fail)
                  refine wp_region_ord (S := S) [(0, true), (1, true), (2, true), (3, true), (4, true), (5, true), (6, true), (7, false), (8, true)] (by kernel_rfl) (by kernel_rfl) (by kernel_rfl) hS ?_
                  iterate 7 (refine wpOrd_take rfl (by kernel_rfl) (fun K hK => ?_); go_simp; refine hK _ _ ?_; clear hK K)
                  refine wpOrd_busy rfl (by kernel_rfl) (fun K hK => ?_); go_simp
                  refine hK _ _ ((HS9.out _).2 (More.refl _).drew) ?_; clear hK K
                  refine wpOrd_take rfl (by kernel_rfl) (fun K hK => ?_); go_simp; refine hK _ _ ?_; clear hK K
                  refine wpOrd_done ?_
                  clear j3 jb hne hS HS9 S
                  go_wp2
                  obtain ⟨y2, hy2⟩ : ∃ y2 : Ys, ({ y with e := 2 } : Ys) = y2 := ⟨_, rfl⟩
                  have HE2 : Hid (R4 (wr.setCell ⟨G, 6, none⟩ (.int .i64 2)).drew G N y2 s [] ∧ Below G W3 (wr.setCell ⟨G, 6, none⟩ (.int .i64 2)).drew ∧ R = ⟨y2.e, y2.v, y2.k, s.seen, s.real.wd⟩ ∧ s.seen.length ≤ 200000 ∧ y2.mv = .slice none 0 0) := by rw [← hy2]; exact HE.out
                  clear HE hy2
                  have HE := HE2
                  clear HE2
                  obtain ⟨W8, hW8⟩ : ∃ W8, (wr.setCell ⟨G, 6, none⟩ (.int .i64 2)).drew = W8 := ⟨_, rfl⟩
                  rw [hW8]
                  obtain ⟨sv, wa, wc, wg, hts⟩ := HE.out.1.here ha
                  rw [hW8] at hts HE
                  have TSH := hid_of' hts
                  have HT := hid_of' HE.out.2
                  clear hts hW8 c6 c8 c12 f6 f8
                  refine wp_slots deadSlots (by kernel_rfl) (fun f => ?_)
                  simp only [deadSlots, List.foldl]
                  go_simp
                  rename_i K a
                  exact key.out y2 s K a W8 sv wa wc wg TSH HT f
                | true =>
                  rw [ha] at c12
                  have HV := hid_of' (r4_returns wr.drew G N y s [] (by have q1 := Hrun.out.2.2.2.2.1.seen; have q2 := HS.out.1; have q3 := Hrun.out.2.2.2.1; split at q1 <;> omega) ha Hs.out.1.drew)
                  go_wp2_with (fail)
                  refine wp_region_ord (S := S) [(0, true), (1, true), (2, true), (3, true), (4, true), (5, true), (6, true), (7, false), (8, true)] (by kernel_rfl) (by kernel_rfl) (by kernel_rfl) hS ?_
                  iterate 7 (refine wpOrd_take rfl (by kernel_rfl) (fun K hK => ?_); go_simp; refine hK _ _ ?_; clear hK K)
                  refine wpOrd_busy rfl (by kernel_rfl) (fun K hK => ?_); go_simp
                  refine hK _ _ ((HS9.out _).2 (More.refl _).drew) ?_; clear hK K
                  refine wpOrd_take rfl (by kernel_rfl) (fun K hK => ?_); go_simp; refine hK _ _ ?_; clear hK K
                  refine wpOrd_done ?_
                  clear j3 jb hne hS HS9 S
                  go_wp2_with (fail)
                  refine HV.out.mono ?_
                  rintro e w9 ⟨rfl, r9, b9⟩
                  have H9 := hid_of' (And.intro r9 (Below.trans (below_drew Hs.out.2.2) b9))
                  clear r9 b9 HV
                  go_wp2
                  go_roundg (2 * (g' + 1))
                  case measure => rw [ha, if_pos rfl] at hgk; omega
                  case rel =>
                    obtain ⟨h1, h2, h3, h4, h5, h6, h7⟩ := Hrun.out
                    rw [ha, if_pos rfl] at h5
                    exact ⟨y, s.returns, H9.out.1, Hs.out.2.1, H9.out.2, .inl ⟨h1, h2, g' + 1, k, h3, h4, h5.returns ha, by rw [← runS_none hcl ha]; exact h6, rfl, fun h => absurd h (by simp [Sp.returns])⟩⟩
              · have hat : s.pl.at_ < p.cl := by omega
                have hat' : ¬ (p.cl : Int) ≤ (s.pl.at_ : Int) := by omega
                have hat2 : (s.pl.at_ : Int) < (p.cl : Int) := by omega
                have hat3 : (0 : Int) ≤ (s.pl.at_ : Int) := by omega
                have hk1 : wrap64 (y.k + 1) = y.k + 1 := by have h1 := Hrun.out.2.2.1; have h2 := Hrun.out.2.2.2.1; have h3 := HS.out.1; unfold wrap64; omega
                have hwr := wrapEq
                have Hat := hid_of' (And.intro hat hsin)
                have h10 := ((Hs.out.1.setK (y.k + 1)).drew)
                have HV := hid_of' (r4_see _ G N _ s [] 1 (s.pl.at_ : Int) 0 (by have q1 := Hrun.out.2.2.2.2.1.seen; have q2 := HS.out.1; have q3 := Hrun.out.2.2.2.1; split at q1 <;> omega) h10)
                have H10 := hid_of' (below_drew (below_put Hs.out.2.2 8 (.int .i64 (y.k + 1))))
                obtain ⟨y1, hy1⟩ : ∃ y1 : Ys, ({ y with k := y.k + 1 } : Ys) = y1 := ⟨_, rfl⟩
                rw [hy1] at HV
                have Hy1 : Hid (y1.rv = y0.rv ∧ y1.cv = y0.cv ∧ y1.mv = .slice none 0 0 ∧ y1.e = 0 ∧ y1.v = 0 ∧ y1.k = y.k + 1) := by rw [← hy1]; exact ⟨Hs.out.2.1.1, Hs.out.2.1.2.1, Hs.out.2.1.2.2, Hrun.out.1, Hrun.out.2.1, rfl⟩
                clear h10 hy1 hat hsin hcl hgk he0
                go_wp2_with (fail)
                refine wp_region_ord (S := S) [(0, true), (1, true), (2, true), (3, true), (4, true), (5, true), (6, true), (7, false), (8, true)] (by kernel_rfl) (by kernel_rfl) (by kernel_rfl) hS ?_
                iterate 7 (refine wpOrd_take rfl (by kernel_rfl) (fun K hK => ?_); go_simp; refine hK _ _ ?_; clear hK K)
                refine wpOrd_busy rfl (by kernel_rfl) (fun K hK => ?_); go_simp
                refine hK _ _ ((HS9.out _).2 (More.refl _).drew) ?_; clear hK K
                refine wpOrd_take rfl (by kernel_rfl) (fun K hK => ?_); go_simp; refine hK _ _ ?_; clear hK K
                refine wpOrd_done ?_
                clear j3 jb hne hS HS9 S
                go_wp2_with (fail)
                refine HV.out.mono ?_
                rintro e w11 ⟨rfl, r11, b11⟩
                have hb11 := Below.trans H10.out b11
                have H11 := hid_of' (And.intro r11 hb11)
                clear HV H10 hb1 c3
                have c3 := H11.out.1.at_.1
                replace c3 : w11.cell? ⟨G, 3, none⟩ = some (.int .i64 (s.pl.at_ : Int)) := c3
                have hcode := H0.out.1.code s.pl.at_ Hat.out.1
                have hcb : cb < G := by have := cell_block hcode.1; have := HG.out.1; dsimp only at *; omega
                obtain ⟨S, HSB⟩ : ∃ S : World → Prop, Hid (∀ w', S w' ↔ Below G w11 w') := ⟨_, fun _ => Iff.rfl⟩
                have jl : ∀ (b o : Nat) (u : Value), w11.cell? ⟨b, o, none⟩ = some u → b < G → ∀ i : { w' // S w' }, i.val.cell? ⟨b, o, none⟩ = some u := fun b o u h hb i => by rw [Below.cell ((HSB.out _).1 i.property) hb]; exact h
                have jw : ∀ (b o : Nat) (u : Value), W3.cell? ⟨b, o, none⟩ = some u → b < G → w11.cell? ⟨b, o, none⟩ = some u := fun b o u h hb => by rw [Below.cell hb11 hb]; exact h
                have jb := jl _ _ _ (jw _ _ _ HW.out.2.2.1.2 hB) hB
                have n0 := jl _ _ _ (jw _ _ _ (HW.out.1.cell hcode.1) hcb) hcb
                have n1 := jl _ _ _ (jw _ _ _ (HW.out.1.cell hcode.2.1) hcb) hcb
                have n2 := jl _ _ _ (jw _ _ _ (HW.out.1.cell hcode.2.2.1) hcb) hcb
                have n3 := jl _ _ _ (jw _ _ _ (HW.out.1.cell hcode.2.2.2.1) hcb) hcb
                have n4 := jl _ _ _ (jw _ _ _ (HW.out.1.cell hcode.2.2.2.2) hcb) hcb
                have hne : Nonempty { w' // S w' } := ⟨⟨w11, (HSB.out _).2 (Below.refl _ _)⟩⟩
                have hS : S w11.drew := (HSB.out _).2 (below_drew (Below.refl _ _))
                have HX := hid_of' (r4_step p ⟨ra, rb, ro, rc, some ⟨cb, co, none⟩, cb, co, cc⟩ w11.drew G N y1 s [] k (4 * k + 1) H11.out.1.drew (HRP.out _ (below_drew hb11) y1 Hy1.out.1 Hy1.out.2.1) (Hrun.out.2.2.2.2.1.mono (Nat.le_refl _) (by split <;> omega)) Hat.out.1 H0.out.2.2.2.2.2.2.2.1.2 (H0.out.2.1.2.2.2 _ Hat.out.1) (by have h2 := Hrun.out.2.2.2.1; have h3 := HS.out.1; omega) (by have h2 := Hrun.out.2.2.2.1; have h3 := HS.out.1; omega) Hy1.out.2.2.2.2.1)
                obtain ⟨i, hI⟩ : ∃ i, p.ins s.pl.at_ = i := ⟨_, rfl⟩
                obtain ⟨iop, ia, ib, ic, in_⟩ := i
                rw [hI] at n0 n1 n2 n3 n4 HX
                have hi64 : B64 in_ := by have := H0.out.2.2.1 s.pl.at_ Hat.out.1; rw [hI] at this; exact this
                have HI := hid_of' (And.intro hI hi64)
                dsimp only at n0 n1 n2 n3 n4 HX
                clear hcode hcb jl jw r11 b11 hb11 hI hi64
                go_wp2_with (fail)
                refine wp_region_ord (S := S) [(0, true), (1, true), (2, true), (3, true), (4, true), (5, true), (6, true), (7, false), (8, true), (9, true), (10, false), (11, true)] (by kernel_rfl) (by kernel_rfl) (by kernel_rfl) hS ?_
                iterate 7 (refine wpOrd_take rfl (by kernel_rfl) (fun K hK => ?_); go_simp; refine hK _ _ ?_; clear hK K)
                refine wpOrd_busy rfl (by kernel_rfl) (fun K hK => ?_); go_simp
                refine hK _ _ hS ?_; clear hK K
                iterate 2 (refine wpOrd_take rfl (by kernel_rfl) (fun K hK => ?_); go_simp; refine hK _ _ ?_; clear hK K)
                refine wpOrd_busy rfl (by kernel_rfl) (fun K hK => ?_); go_simp
                refine HX.out.mono ?_
                rintro e w12 ⟨rfl, b12, r12⟩
                go_simp
                refine hK _ _ ((HSB.out _).2 (Below.trans (below_drew (Below.refl _ _)) b12)) ?_; clear hK K
                refine wpOrd_take rfl (by kernel_rfl) (fun K hK => ?_); go_simp; refine hK _ _ ?_; clear hK K
                refine wpOrd_done ?_
                have hinv2 := (Hrun.out.2.2.2.2.1.mono (k' := k) (n' := 4 * k + 1) (Nat.le_refl _) (by split <;> omega)).step Hat.out.1 (H0.out.2.1.2.2.2 _ Hat.out.1) (H0.out.2.2.1 _ Hat.out.1)
                have hsi := stepS_since p s
                have hru : runS p (g' + 1) k s = R := Hrun.out.2.2.2.2.2.1
                have H12 := hid_of' (And.intro r12 (And.intro (Below.trans (below_drew H11.out.2) b12) (And.intro hinv2 hsi)))
                clear jb n0 n1 n2 n3 n4 hne hS HSB S HX b12 r12 hinv2 hsi c3 c8 f8 c6 c12
                cases ho : (stepS p s).2.2 with
                | some e =>
                  have ha := stepS_here ho
                  have hs1 := stepS_end ho
                  have hef := stepS_fin ho
                  have HR2 : Hid (R = ⟨e.1, e.2, (k : Int) + 1, (stepS p s).1.seen, (stepS p s).1.real.wd⟩) := by rw [← hru]; exact runS_end Hat.out.1 ho
                  have c12 := H12.out.1.ahead.1
                  rw [hs1] at c12
                  replace c12 : w12.cell? ⟨G, 12, none⟩ = some (.bool s.ahead) := c12
                  rw [ha] at c12
                  have Ho := hid_of' (And.intro ho hef)
                  clear hru hs1 hef ho
                  go_wp2
                  go_roundg 0
                  case measure => have := Hrun.out.2.2.2.2.2.2; split at this <;> omega
                  case rel =>
                    obtain ⟨r12, b12, i12, _⟩ := H12.out
                    rw [Ho.out.1] at r12
                    refine ⟨_, _, r12, ⟨Hy1.out.1, Hy1.out.2.1, Hy1.out.2.2.1⟩, b12, .inr ⟨?_, ?_, ?_, ?_⟩⟩
                    · show ¬ e.1 = 0
                      have := Ho.out.2
                      omega
                    · rw [HR2.out]
                      show _ = (⟨e.1, e.2, y1.k, _, _⟩ : ShF)
                      rw [Hy1.out.2.2.2.2.2, Hrun.out.2.2.1]
                    · have h1 := i12.seen
                      have h2 := Hrun.out.2.2.2.1
                      have h3 := HS.out.1
                      omega
                    · rw [stepS_end Ho.out.1]
                      exact ha
                | none =>
                  obtain ⟨s2, hs2⟩ : ∃ s2, (stepS p s).1 = s2 := ⟨_, rfl⟩
                  obtain ⟨ov, hov⟩ : ∃ ov, (stepS p s).2.1 = ov := ⟨_, rfl⟩
                  have HR2 : Hid (runS p g' (k + 1) (s2.after ov) = R) := by rw [← hru, ← hs2, ← hov]; exact (runS_go Hat.out.1 ho).symm
                  rw [ho, hs2] at H12
                  replace H12 : Hid (R4 w12 G N y1 s2 [] ∧ Below G W3 w12 ∧ InvS p (k + 1) (4 * k + 1 + 2) s2 ∧ ((s2.ahead = s.ahead ∧ s2.since = s.since) ∨ (s.ahead = false ∧ s2.since = -1))) := H12
                  rw [hov]
                  have c12 := H12.out.1.ahead.1
                  have Hk2 : Hid (∀ g2, g2 = 2 * g' + (if (s2.after ov).ahead = true then 1 else 0) → True) := fun _ _ => trivial
                  clear hru hs2 hov ho
                  cases ha : s2.ahead with
                  | false =>
                    rw [ha] at c12
                    have Ha := hid_of' ha
                    go_wp2
                    go_roundg (2 * g')
                    case measure => have := Hrun.out.2.2.2.2.2.2; split at this <;> omega
                    case rel =>
                      obtain ⟨r12, b12, i12, _⟩ := H12.out
                      have hr := HR2.out
                      rw [after_none Ha.out] at hr
                      exact ⟨y1, s2, r12, ⟨Hy1.out.1, Hy1.out.2.1, Hy1.out.2.2.1⟩, b12, .inl ⟨Hy1.out.2.2.2.1, Hy1.out.2.2.2.2.1, g', k + 1, by rw [Hy1.out.2.2.2.2.2, Hrun.out.2.2.1]; push_cast; rfl, by have := Hrun.out.2.2.2.1; omega, i12.mono (Nat.le_refl _) (by omega), hr, by rw [Ha.out]; rfl, fun h => absurd (h.symm.trans Ha.out) (by simp)⟩⟩
                  | true =>
                    rw [ha] at c12
                    obtain ⟨c13, f13⟩ := H12.out.1.since
                    have hsb : -1 ≤ s2.since ∧ s2.since ≤ 11 := by
                      rcases H12.out.2.2.2 with ⟨h1, h2⟩ | ⟨h1, h2⟩
                      · have := Hat.out.2 (by rw [← h1]; exact ha)
                        omega
                      · omega
                    have h13 := H12.out.1.setSince (s2.since + 1)
                    have Ha := hid_of' (And.intro ha hsb)
                    have hi4 := H12.out.2.2.1.after ov
                    have Hi4 := hid_of' hi4
                    obtain ⟨q, hq⟩ : ∃ q, s2.since + 1 = q := ⟨_, rfl⟩
                    rw [hq] at h13
                    have hsw : wrap64 (s2.since + 1) = q := by unfold wrap64; omega
                    have Hq := hid_of' hq
                    have hlen2 : s2.seen.length ≤ 200000 := by have h1 := H12.out.2.2.1.seen; have h2 := Hrun.out.2.2.2.1; have h3 := HS.out.1; omega
                    have H13 := hid_of' (And.intro h13 (below_put H12.out.2.1 13 (.int .i64 q)))
                    by_cases hret : ov = true ∨ q = 12
                    · have HV := hid_of' (r4_returns _ G N y1 { s2 with since := q } [] hlen2 ha h13)
                      have HA := hid_of' (show s2.after ov = ({ s2 with since := q }).returns by unfold Sp.after; rw [if_pos Ha.out.1, Hq.out, if_pos hret])
                      clear h13 hi4 hq hlen2 hsb ha
                      have hmain : ∀ w14, R4 w14 G N y1 ({ s2 with since := q }).returns [] → Below G (w12.setCell ⟨G, 13, none⟩ (.int .i64 q)) w14 → ∃ (y : Ys) (s : Sp), R4 w14 G N y s [] ∧ (y.rv = y0.rv ∧ y.cv = y0.cv ∧ y.mv = .slice none 0 0) ∧ Below G W3 w14 ∧ ((y.e = 0 ∧ y.v = 0 ∧ ∃ g'' k : Nat, y.k = k ∧ k + g'' = fuel ∧ InvS p k (4 * k + (if s.ahead = true then 0 else 1)) s ∧ runS p g'' k s = R ∧ 2 * g' = 2 * g'' + (if s.ahead = true then 1 else 0) ∧ (s.ahead = true → 0 ≤ s.since ∧ s.since ≤ 11)) ∨ (¬ y.e = 0 ∧ R = ⟨y.e, y.v, y.k, s.seen, s.real.wd⟩ ∧ s.seen.length ≤ 200000 ∧ s.ahead = false)) := fun w14 r14 b14 => by
                        have hr := HR2.out
                        have hi := Hi4.out
                        rw [HA.out] at hr hi
                        exact ⟨y1, _, r14, ⟨Hy1.out.1, Hy1.out.2.1, Hy1.out.2.2.1⟩, Below.trans H13.out.2 b14, .inl ⟨Hy1.out.2.2.2.1, Hy1.out.2.2.2.2.1, g', k + 1, by rw [Hy1.out.2.2.2.2.2, Hrun.out.2.2.1]; push_cast; rfl, by have := Hrun.out.2.2.2.1; omega, hi.mono (Nat.le_refl _) (by omega), hr, rfl, fun h => absurd h (by simp [Sp.returns])⟩⟩
                      have Hmain := hid_of' hmain
                      clear hmain
                      cases ov with
                      | true =>
                        clear hret
                        go_wp2_with (fail)
                        refine HV.out.mono ?_
                        rintro e w14 ⟨rfl, r14, b14⟩
                        have H14 := hid_of' (And.intro r14 b14)
                        clear r14 b14 HV
                        go_wp2
                        go_roundg (2 * g')
                        case measure => have := Hrun.out.2.2.2.2.2.2; split at this <;> omega
                        case rel => exact Hmain.out _ H14.out.1 H14.out.2
                      | false =>
                        have hq12 : q = 12 := hret.resolve_left (by simp)
                        clear hret
                        subst hq12
                        go_wp2_with (fail)
                        refine HV.out.mono ?_
                        rintro e w14 ⟨rfl, r14, b14⟩
                        have H14 := hid_of' (And.intro r14 b14)
                        clear r14 b14 HV
                        go_wp2
                        go_roundg (2 * g')
                        case measure => have := Hrun.out.2.2.2.2.2.2; split at this <;> omega
                        case rel => exact Hmain.out _ H14.out.1 H14.out.2
                    · have hov : ov = false := by
                        cases ov with
                        | false => rfl
                        | true => exact absurd (.inl rfl) hret
                      have hq12 : ¬ q = 12 := fun e => hret (.inr e)
                      have HA := hid_of' (show s2.after ov = { s2 with since := q } by unfold Sp.after; rw [if_pos Ha.out.1, Hq.out, if_neg hret])
                      have Hq12 := hid_of' hq12
                      subst hov
                      clear h13 hi4 hq hlen2 hsb ha hret
                      go_wp2
                      go_roundg (2 * g' + 1)
                      case measure => have := Hrun.out.2.2.2.2.2.2; split at this <;> omega
                      case rel =>
                        have hr := HR2.out
                        have hi := Hi4.out
                        rw [HA.out] at hr hi
                        refine ⟨y1, _, H13.out.1, ⟨Hy1.out.1, Hy1.out.2.1, Hy1.out.2.2.1⟩, H13.out.2, .inl ⟨Hy1.out.2.2.2.1, Hy1.out.2.2.2.2.1, g', k + 1, by rw [Hy1.out.2.2.2.2.2, Hrun.out.2.2.1]; push_cast; rfl, by have := Hrun.out.2.2.2.1; omega, hi.mono (Nat.le_refl _) (by split <;> omega), hr, ?_, fun _ => ?_⟩⟩
                        · show _ = 2 * g' + (if s2.ahead = true then 1 else 0)
                          rw [if_pos Ha.out.1]
                        · have h1 := Ha.out.2
                          have h2 := Hq.out
                          have h3 := Hq12.out
                          show 0 ≤ q ∧ q ≤ 11
                          omega
          · have HE : Hid (R4 wr G N y s [] ∧ Below G W3 wr ∧ R = ⟨y.e, y.v, y.k, s.seen, s.real.wd⟩ ∧ s.seen.length ≤ 200000 ∧ y.mv = .slice none 0 0) := ⟨Hs.out.1, Hs.out.2.2, hR, hsl, Hs.out.2.1.2.2⟩
            rw [haf] at c12
            clear hR
            have he' : (y.e == 0) = false := by simp [he]
            by_cases hk : y.k < (fuel : Int)
            · go_wp2
              obtain ⟨W8, hW8⟩ : ∃ W8, wr = W8 := ⟨_, rfl⟩
              rw [hW8]
              obtain ⟨sv, wa, wc, wg, hts⟩ := HE.out.1.here haf
              rw [hW8] at hts HE
              have TSH := hid_of' hts
              have HT := hid_of' HE.out.2
              clear hts hW8 c6 c8 c12 hk
              refine wp_slots deadSlots (by kernel_rfl) (fun f => ?_)
              simp only [deadSlots, List.foldl]
              go_simp
              rename_i K a
              exact key.out y s K a W8 sv wa wc wg TSH HT f
            · go_wp2
              obtain ⟨W8, hW8⟩ : ∃ W8, wr = W8 := ⟨_, rfl⟩
              rw [hW8]
              obtain ⟨sv, wa, wc, wg, hts⟩ := HE.out.1.here haf
              rw [hW8] at hts HE
              have TSH := hid_of' hts
              have HT := hid_of' HE.out.2
              clear hts hW8 c6 c8 c12 hk
              refine wp_slots deadSlots (by kernel_rfl) (fun f => ?_)
              simp only [deadSlots, List.foldl]
              go_simp
              rename_i K a
              exact key.out y s K a W8 sv wa wc wg TSH HT f
      · intro y s K a W8 sv wa wc wg TSH HT f
        have hB : w.heap.size < G := by have := HG.out.1; omega
        go_loopg [12] p.rl (fun g i wr => ∃ (k : Nat) (v : Value) (G' C' : Nat → Nat), k + g = p.rl ∧ i = .int .i64 k ∧ CpAt wr W8.heap.size ⟨p.rl, m.len, fun j i => s.real.wd (baseN m.len j + i)⟩ k v G' C' ∧ W8.grownBy wr (some G) ∧ Wr wr G 10 v ∧ ∀ j u, j ≠ 10 → Wr W8 G j u → Wr wr G j u)
        case atStart =>
          refine ⟨0, .slice none 0 0, _, _, by omega, rfl, CpAt.start _ _ _, grown_refl _ _, ?_, fun j u _ h => h⟩
          have := TSH.out.mv
          rw [HT.out.2.2.2] at this
          exact this
        case round =>
          obtain ⟨k3, v3, G3, C3, hkg3, rfl, hc3, hg3, hv3, hj3⟩ := hrel
          obtain ⟨xa, xc, rfl⟩ := own_form hc3.own
          have hGl8 : G < W8.heap.size := cell_block TSH.out.words.1
          have hb3 : Below G W3 wr := Below.grown HT.out.1 hg3 (Nat.le_of_lt hGl8) (fun b hb => by have := Option.some.inj hb; omega)
          have Hm3 := hid_of' (And.intro hc3 (And.intro hg3 (And.intro hv3 (And.intro hj3 hb3))))
          have x0 : wr.cell? ⟨w.heap.size, 0, none⟩ = some (.slice ra p.rl rc) := by rw [Below.cell hb3 hB]; exact HW.out.2.2.1.1
          have x1 : wr.cell? ⟨w.heap.size, 1, none⟩ = some (.slice (some ⟨cb, co, none⟩) p.cl cc) := by rw [Below.cell hb3 hB]; exact HW.out.2.2.1.2
          clear hc3 hg3 hv3 hj3 hb3
          cases gk with
          | zero =>
            obtain rfl : k3 = p.rl := by omega
            obtain ⟨q6, _⟩ := Hm3.out.2.2.2.1 6 _ (by omega) TSH.out.e
            obtain ⟨q7, _⟩ := Hm3.out.2.2.2.1 7 _ (by omega) TSH.out.v
            obtain ⟨q8, _⟩ := Hm3.out.2.2.2.1 8 _ (by omega) TSH.out.k
            obtain ⟨q9, _⟩ := Hm3.out.2.2.2.1 9 _ (by omega) TSH.out.csv
            obtain ⟨q10, _⟩ := Hm3.out.2.2.1
            obtain ⟨sva, svc, hsv⟩ := own_form TSH.out.seen
            subst hsv
            have l1 : w.heap.size + 1 < G := by have := HG.out.1; omega
            have KR : ∀ o u, Wr W3 (w.heap.size + 1) o u → Wr wr (w.heap.size + 1) o u := fun o u h => ⟨by rw [Below.cell Hm3.out.2.2.2.2 l1]; exact h.1, by rw [Below.frozen Hm3.out.2.2.2.2 l1]; exact h.2⟩
            obtain ⟨⟨r0, r0'⟩, ⟨r1, r1'⟩, ⟨r2, r2'⟩, ⟨r3, r3'⟩, ⟨r4, r4'⟩⟩ : Wr wr (w.heap.size + 1) 0 _ ∧ Wr wr (w.heap.size + 1) 1 _ ∧ Wr wr (w.heap.size + 1) 2 _ ∧ Wr wr (w.heap.size + 1) 3 _ ∧ Wr wr (w.heap.size + 1) 4 _ := ⟨KR _ _ HW.out.2.2.2.1.1, KR _ _ HW.out.2.2.2.1.2.1, KR _ _ HW.out.2.2.2.1.2.2.1, KR _ _ HW.out.2.2.2.1.2.2.2.1, KR _ _ HW.out.2.2.2.1.2.2.2.2⟩
            have n3 : ¬ w.heap.size + 1 = G := by omega
            have n3' : ¬ G = w.heap.size + 1 := by omega
            clear KR
            go_wp2
            try simp only [Exit.inBlock, Exit.then]
            refine bodyPost_ret (v := .agg #[.int .i64 y.e, .int .i64 y.v, .int .i64 y.k, .slice sva s.seen.length svc, .slice xa p.rl xc]) (by simp [results, Try.results10, go_sem, *]) rfl ?_
            have hgf := gr_set (gr_set (gr_set (gr_set (gr_set (grown_refl wr (some (w.heap.size + 1))) 0 (.int .i64 y.e)) 1 (.int .i64 y.v)) 2 (.int .i64 y.k)) 3 (.slice sva s.seen.length svc)) 4 (.slice xa p.rl xc)
            rw [HP.out]
            obtain ⟨hbel, hR, hsl, _⟩ := HT.out
            obtain ⟨hc, hg, _, _, hb3⟩ := Hm3.out
            have hcf := hc.kept hgf (by omega)
            obtain ⟨mb_, mc_, hmo⟩ := hcf.own_
            obtain ⟨lm, hv, hin⟩ := hmo.in_ (by show p.rl < _; have := H0.out.2.1.1.1; omega) (fun i hi => by have := (H0.out.2.2.2.2.2.1 i (by have := H0.out.2.2.2.1; dsimp only at hi; omega)).2; show m.len i < _; omega)
            have hmore : More w wr := Below.trans HW.out.1 (Below.mono hb3 (by omega))
            rw [hR]
            refine ⟨_, ⟨p.rl, m.len, fun j i => s.real.wd (baseN m.len j + i)⟩, rfl, ⟨.slice sva s.seen.length svc, lm, by dsimp only; rw [← hv], ?_, hin⟩, H0.out.2.2.2.1.symm, fun _ => rfl, fun _ _ _ _ => rfl, hmore.grownBy hgf (fun b hb => by have := Option.some.inj hb; omega)⟩
            have hso := (TSH.out.seen.kept hg (fun b hb => by have := Option.some.inj hb; omega)).kept hgf (fun b hb => by have := Option.some.inj hb; omega)
            exact hso.at_ (by omega)
          | succ g3 =>
            have hk3 : k3 < p.rl := by omega
            have hk3' : (k3 : Int) < (p.rl : Int) := by omega
            have hk30 : (0 : Int) ≤ (k3 : Int) := by omega
            have hkm : k3 < m.ml := by have := H0.out.2.2.2.1; omega
            have hra : ra = some ⟨rb, ro, none⟩ := H0.out.1.hr (by show 0 < p.rl; omega)
            subst hra
            have hrp := HRP.out wr Hm3.out.2.2.2.2 y0 rfl rfl
            have HX := hid_of' (ref_base (some ⟨rb, ro, none⟩) p.rl rc (some ⟨cb, co, none⟩) p.cl cc k3 rb ro p.log p.sec wr hk30 hk3' (fun _ => rfl) hrp.regs hrp.ok)
            rw [Int.toNat_natCast, ← base_eq p m H0.out.2.2.2.2.1 k3 (Nat.le_of_lt hkm)] at HX
            have Hlog : Hid (0 ≤ p.log k3 ∧ p.log k3 ≤ 6) := hrp.ok.2 k3 hk3
            have hwk := H0.out.2.2.2.2.1 k3 hkm
            obtain ⟨lc, hlc⟩ : ∃ x, p.log k3 = x := ⟨_, rfl⟩
            obtain ⟨sec, hsec⟩ : ∃ x, p.sec k3 = x := ⟨_, rfl⟩
            have Hrr := hid_of' (hrp.regs k3 hk3)
            rw [hlc, hsec] at Hrr
            rw [hlc] at Hlog hwk
            obtain ⟨F, hF⟩ : ∃ x, baseN m.len k3 = x := ⟨_, rfl⟩
            obtain ⟨nw, hnw⟩ : ∃ x, m.len k3 = x := ⟨_, rfl⟩
            rw [hF] at HX
            rw [hnw] at hwk
            have HF : Hid (baseN m.len k3 = F ∧ m.len k3 = nw ∧ (nw : Int) = wordsI lc ∧ k3 < m.ml ∧ 0 < nw ∧ nw ≤ 64 ∧ F + nw ≤ N ∧ N ≤ 384 ∧ N ≤ wc) := by
              have h1 := H0.out.2.2.2.2.2.1 k3 hkm
              have h2 := baseN_mono m.len (k3 + 1) m.ml hkm
              simp only [baseN] at h2
              have h3 := HN.out.2
              exact ⟨hF, hnw, hwk, hkm, by omega, by omega, by omega, HN.out.1, TSH.out.cap⟩
            clear hrp hlc hsec hF hnw hwk hkm
            go_wp2_with (fail)
            refine HX.out.mono ?_
            rintro e w4 ⟨rfl, m4⟩
            have x4 := m4.cell x0
            have r0 := m4.cell Hrr.out.1
            have r1 := m4.cell Hrr.out.2
            have HX2 := hid_of' (ref_words lc Hlog.out.1 Hlog.out.2 sec w4)
            rw [← HF.out.2.2.1] at HX2
            have H4 := hid_of' m4
            clear x0 x1 m4 HX
            go_wp2_with (fail)
            refine HX2.out.mono ?_
            rintro e w5 ⟨rfl, m5⟩
            have hm5 : More wr w5 := H4.out.trans m5
            have hN0 : 0 < N := by have := HF.out; omega
            have hwa := TSH.out.hwa hN0
            subst hwa
            have d10 := hm5.cell Hm3.out.2.2.1.1
            have d10f := (Hm3.out.2.2.1.kept (hm5.grow none) (by simp)).2
            have d1 : w5.cell? ⟨G, 1, none⟩ = some (.slice (some ⟨wg, 0, none⟩) N wc) := hm5.cell (Hm3.out.2.2.2.1 1 _ (by omega) TSH.out.words).1
            have H5 := hid_of' (And.intro hm5 (And.intro d10 (And.intro d10f d1)))
            clear x4 r0 r1 m5 hm5 HX2 H4
            obtain ⟨S, HS5⟩ : ∃ S : World → Prop, Hid (∀ w', S w' ↔ (w'.cell? ⟨G, 10, none⟩ = some (.slice xa k3 xc) ∧ w'.cell? ⟨G, 1, none⟩ = some (.slice (some ⟨wg, 0, none⟩) N wc))) := ⟨_, fun _ => Iff.rfl⟩
            have j1 : ∀ i : { w' // S w' }, i.val.cell? ⟨G, 10, none⟩ = some (.slice xa k3 xc) := fun i => ((HS5.out _).1 i.property).1
            have j2 : ∀ i : { w' // S w' }, i.val.cell? ⟨G, 1, none⟩ = some (.slice (some ⟨wg, 0, none⟩) N wc) := fun i => ((HS5.out _).1 i.property).2
            have hS5 : S w5.drew := (HS5.out _).2 ⟨d10, d1⟩
            have hne : Nonempty { w' // S w' } := ⟨⟨_, hS5⟩⟩
            have z1 : (F : Int) ≤ (F : Int) + (nw : Int) := by omega
            have z2 : (F : Int) + (nw : Int) ≤ (wc : Int) := by have := HF.out; omega
            have z3 : (0 : Int) ≤ (F : Int) := by omega
            have z4 : (0 : Int) ≤ (F : Int) + (nw : Int) := by omega
            have z5 : (F : Int) ≤ (wc : Int) := by omega
            have z6 : ¬ wc = F := by have := HF.out; omega
            have z7 : wrap64 ((F : Int) + (nw : Int)) = (F : Int) + (nw : Int) := by have := HF.out; unfold wrap64; omega
            have z8 := toNat_add F nw
            have hwr := wrapEq
            clear d10 d10f d1
            go_wp2_with (fail)
            refine wp_region_lastM (S := S) [20, 21] [(0, true), (1, true), (2, true), (3, true), (4, true), (5, true), (7, true), (8, true), (9, true), (10, true), (11, true), (12, true), (13, true), (14, true), (15, true), (16, true), (6, false), (17, false), (18, false), (19, false), (20, true), (21, true), (22, true), (23, false)] (by kernel_rfl) (by kernel_rfl) (by kernel_rfl) hS5 ?_
            iterate 16 (refine wpOrdM_take rfl (by kernel_rfl) (by kernel_rfl) (fun K hK => ?_); go_simp; refine hK _ _ ?_; clear hK K)
            clear j1 j2 z1 z2 z3 z4 z5 z6 z7 z8
            have hwsz : W8.heap.size ≤ w5.heap.size := by have h1 := Hm3.out.2.1.size; have h2 := H5.out.1.size; omega
            have hc5 : CpAt w5 W8.heap.size ⟨p.rl, m.len, fun j i => s.real.wd (baseN m.len j + i)⟩ k3 (.slice xa k3 xc) G3 C3 := Hm3.out.1.kept (H5.out.1.grow (some G)) hGl8
            have Hc5 := hid_of' (And.intro hc5 hwsz)
            have HA : Hid (More w5 (w5.alloc (.cells #[] 2)).drew) := ((More.refl w5).alloc _ _).drew
            have Hown1 : Hid ((w5.alloc (.cells #[] 2)).drew.ownsRow W8.heap.size 2 1 (.slice (some ⟨w5.heap.size, 0, none⟩) 0 0) 0 []) := World.ownsRow_made w5 #[] 0 hwsz (by unfold maxLen; omega) rfl
            have Hlen : Hid ((wordsL ⟨p.rl, m.len, fun j i => s.real.wd (baseN m.len j + i)⟩ k3).length = nw) := by rw [show Hid _ = ((wordsL ⟨p.rl, m.len, fun j i => s.real.wd (baseN m.len j + i)⟩ k3).length = nw) from rfl, wordsL_length]; exact HF.out.2.1
            have Hnews : Hid (∀ j u, (wordsL ⟨p.rl, m.len, fun j i => s.real.wd (baseN m.len j + i)⟩ k3)[j]? = some u → (w5.alloc (.cells #[] 2)).drew.cell? ((⟨wg, F, none⟩ : Addr).add j) = some u) := by
              intro j u hu
              have hj : j < nw := by have := (List.getElem?_eq_some_iff.1 hu).1; rw [Hlen.out] at this; exact this
              rw [wordsL_at _ k3 j (by show j < m.len k3; rw [HF.out.2.1]; exact hj)] at hu
              rw [Go.WideShapes.add_plain, ← Option.some.inj hu]
              dsimp only
              rw [HF.out.1]
              have hlt : G < wg := TSH.out.lt hN0
              exact HA.out.cell (H5.out.1.cell (Hm3.out.2.1.cell (TSH.out.cells (F + j) (by have := HF.out; omega)) (fun e => by have := Option.some.inj e; dsimp only at this; omega)))
            clear hwsz hc5
            refine wpOrdM_busy rfl (by kernel_rfl) (fun K hK => ?_)
            go_simp
            refine hK _ _ ((HS5.out _).2 ⟨HA.out.cell H5.out.2.1, HA.out.cell H5.out.2.2.2⟩) ?_
            clear hK K
            refine wpOrdM_busy rfl (by kernel_rfl) (fun K hK => ?_)
            refine wp_append_lies _ (.tmp 171) (.tmp 181) 67 rfl W8.heap.size 2 i0 (.int .i64 0) 1 8 Try.underlying67 Hi.out.1 Hi.out.2.1 Hi.out.2.2.1 Hi.out.2.2.2 rfl (by decide) (.slice (some ⟨w5.heap.size, 0, none⟩) 0 0) 0 [] rfl Hown1.out ⟨wg, F, none⟩ nw (wc - F) (wordsL ⟨p.rl, m.len, fun j i => s.real.wd (baseN m.len j + i)⟩ k3) rfl (by rw [Hlen.out, Nat.mul_one]) Hnews.out (wordsL_one _ _) HF.out.2.2.2.2.1 (by have := HF.out; unfold maxLen; omega) (by have := HF.out; omega) (by have := Hc5.out.2; simp; omega) (w5.heap.size + 1) (by simp) ?_
            intro ga ca6 w6 own6 gr6 at6 lt6
            simp only [Nat.zero_add, List.nil_append] at own6 ⊢
            have hgl : w5.heap.size ≤ ga := by
              rcases at6 with h | h
              · have := Option.some.inj h; dsimp only at this; omega
              · omega
            have gr6' : (w5.alloc (.cells #[] 2)).grownBy w6 (some w5.heap.size) := ⟨gr6.os, gr6.tape, gr6.output, gr6.size, gr6.block⟩
            have hs6 : w5.heap.size + 1 ≤ w6.heap.size := by have := gr6'.size; simpa using this
            have H6 := hid_of' (And.intro own6 (And.intro gr6' (And.intro hgl hs6)))
            have kp6 : ∀ a u, w5.cell? a = some u → w6.cell? a = some u := fun a u h => gr6'.cell (((More.refl w5).alloc _ _).cell h) (fun e => by have h1 := cell_block h; have := Option.some.inj e; omega)
            have HK6 := hid_of' kp6
            refine hK _ _ ((HS5.out _).2 ⟨kp6 _ _ H5.out.2.1, kp6 _ _ H5.out.2.2.2⟩) ?_
            clear hK K own6 gr6 at6 lt6 hgl gr6' hs6 kp6
            refine wpOrdM_busy rfl (by kernel_rfl) (fun K hK => ?_)
            go_simp
            have HA6 : Hid (More w6 (w6.alloc (.cells #[.slice (some ⟨ga, 0, none⟩) nw ca6] 67))) := (More.refl w6).alloc _ _
            refine hK _ _ ((HS5.out _).2 ⟨HA6.out.cell (HK6.out _ _ H5.out.2.1), HA6.out.cell (HK6.out _ _ H5.out.2.2.2)⟩) ?_
            clear hK K
            obtain ⟨i1, hi', hz0', hz1', hz2'⟩ := info_parts info43
            have Hi' : Hid (Try.prog.info? 67 = some i1 ∧ i1.zero = some (.slice none 0 0) ∧ i1.size = 1 ∧ i1.bytes = 24) := ⟨hi', hz0', hz1', hz2'⟩
            clear hi' hz0' hz1' hz2'
            refine wpOrdM_busy rfl (by kernel_rfl) (fun K hK => ?_)
            refine wp_append_lies _ (.tmp 170) (.tmp 183) 26 rfl W8.heap.size 67 i1 (.slice none 0 0) 1 24 Try.underlying26 Hi'.out.1 Hi'.out.2.1 Hi'.out.2.2.1 Hi'.out.2.2.2 rfl (by decide) (.slice xa k3 xc) k3 ((List.range k3).map fun j => .slice (some ⟨G3 j, 0, none⟩) (m.len j) (C3 j)) rfl (Hc5.out.1.own3 _ _ H6.out.2.1) ⟨w6.heap.size, 0, none⟩ 1 1 [.slice (some ⟨ga, 0, none⟩) nw ca6] rfl rfl (cell_one_new _ _ _) (fun x hx => by simp at hx; subst hx; rfl) (by decide) (by have := H0.out.2.2.2.2.2.2.1; have := HF.out; unfold maxLen; omega) (by have := H0.out.2.2.2.2.2.2.1; have := HF.out; omega) (by have := H6.out.2.2.2; have := Hc5.out.2; simp; omega) (w6.heap.size + 1) (by simp) ?_
            intro g7 cap7 w7 own7 gr7 at7 lt7
            have hc7 := Hc5.out.1.step (.cells #[] 2) (.cells #[.slice (some ⟨ga, 0, none⟩) nw ca6] 67) ga ca6 g7 cap7 (by show w6.ownsRow _ 2 1 (.slice _ (m.len k3) ca6) (m.len k3) _; rw [HF.out.2.1]; exact H6.out.1) H6.out.2.1 H6.out.2.2.1 (by show w7.ownsRow _ 67 1 _ _ (_ ++ [.slice _ (m.len k3) ca6]); rw [HF.out.2.1]; exact own7) gr7 at7
            have hvb : ∀ b, (Value.slice xa k3 xc).ownBlock = some b → W8.heap.size ≤ b := fun b hb => (Hc5.out.1.own.lt b hb).1
            have kp7 : ∀ b, b < W8.heap.size → some b ≠ (Value.slice xa k3 xc).ownBlock := fun b hb e => by have := hvb b e.symm; omega
            have g57 : W8.grownBy w7 (some G) := grown_then (grown_then (grown_then (grown_then (grown_then Hm3.out.2.1 (H5.out.1.grow none) (fun j h => by cases h)) (World.grownBy_alloc w5 _ none) (fun j h => by cases h)) H6.out.2.1 (fun j h => by have := Option.some.inj h; have := Hc5.out.2; omega)) (World.grownBy_alloc w6 _ none) (fun j h => by cases h)) gr7 hvb
            have kw : ∀ o u, Wr wr G o u → Wr w7 G o u := fun o u h => ((((h.kept (H5.out.1.grow none) (by simp)).kept (World.grownBy_alloc w5 _ none) (by simp)).kept H6.out.2.1 (fun e => by have := Option.some.inj e; have := Hc5.out.2; omega)).kept (World.grownBy_alloc w6 _ none) (by simp)).kept gr7 (kp7 _ hGl8)
            have c10 := (kw _ _ Hm3.out.2.2.1).1
            have f10 := (kw _ _ Hm3.out.2.2.1).2
            have H7' := hid_of' (And.intro hc7 (And.intro g57 kw))
            refine hK _ _ ((HS5.out _).2 ⟨c10, (kw _ _ (Hm3.out.2.2.2.1 1 _ (by omega) TSH.out.words)).1⟩) ?_
            clear hK K own7 gr7 at7 lt7 hc7 hvb kp7 kw g57
            have hnw : Nonempty World := ⟨w⟩
            iterate 2 (refine wpOrdM_pure rfl (by kernel_rfl) (fun K hK => ?_); go_simp; refine hK _ _ ?_; clear hK K)
            clear hnw
            refine wpOrdM_take rfl (by kernel_rfl) (by kernel_rfl) (fun K hK => ?_); go_simp; refine hK _ _ ?_; clear hK K
            refine wpOrdM_last rfl (by kernel_rfl) (by kernel_rfl) (fun K hK => ?_)
            go_simp
            refine hK _ _ ?_
            clear hK K hne hS5
            refine NoPanic.normal ?_
            have hk63 : wrap64 ((k3 : Int) + 1) = (k3 : Int) + 1 := by have := H0.out.2.2.2.2.2.2.1; have := HF.out; unfold wrap64; omega
            go_wp2
            go_roundg g3
            case measure => omega
            case rel =>
              obtain ⟨hc7, g57, kw⟩ := H7'.out
              have hgs := grown_set w7 G 10 (.slice (some ⟨g7, 0, none⟩) (k3 + 1) cap7)
              exact ⟨k3 + 1, _, _, _, by omega, by first | rfl | (push_cast; rfl), hc7.kept hgs hGl8, grown_trans g57 hgs, (kw _ _ Hm3.out.2.2.1).same _, fun j u hj h => (kw _ _ (Hm3.out.2.2.2.1 j u hj h)).other _ _ _ (by omega)⟩

    | succ g =>
      have hk : k < nn := by omega
      have hk' : (k : Int) < (nn : Int) := by omega
      have hk0 : (0 : Int) ≤ (k : Int) := by omega
      have Hk : Hid (k < m.ml) := by rw [show Hid (k < m.ml) = (k < m.ml) from rfl, Hnn.out]; exact hk
      obtain rfl : ma = some ⟨mb, mo', none⟩ := HM.out.hm (by have := Hk.out; omega)
      obtain ⟨l0, l1⟩ := H0.out.2.2.2.2.2.1 k Hk.out
      have hsz := HW.out.2.1
      have q1w := HM.out.lists k Hk.out
      dsimp only at q1w
      rw [show MA k = some ⟨gb k, go k, none⟩ from HM.out.hg k Hk.out l0] at q1w
      have hold : ∀ a v, w.cell? a = some v → wr.cell? a = some v := fun a v h => by
        have := cell_block h
        have h2 := HW.out.1.cell h
        exact Hm.out.2.1.cell h2 (fun e => by have := Option.some.inj e; have := HG.out.1; omega)
      have q1 := hold _ _ q1w
      have qv := Hm.out.2.2.1.1
      have Hnews : Hid (∀ j u, (wordsL m k)[j]? = some u → wr.drew.cell? ((⟨gb k, go k, none⟩ : Addr).add j) = some u) := by
        intro j u hu
        have hj : j < m.len k := by have := (List.getElem?_eq_some_iff.1 hu).1; rw [wordsL_length] at this; exact this
        rw [wordsL_at m k j hj] at hu
        rw [Go.WideShapes.add_plain, ← Option.some.inj hu]
        exact hold _ _ (HM.out.words k Hk.out j hj)
      have hmbl : mb < w.heap.size := cell_block q1w
      obtain ⟨S, HS1⟩ : ∃ S : World → Prop, Hid (∀ w', S w' ↔ (w'.cell? ⟨G, 1, none⟩ = some (.slice va (baseN m.len k) vc) ∧ w'.cell? ⟨mb, mo' + k, none⟩ = some (.slice (some ⟨gb k, go k, none⟩) (m.len k) (MC0 k)))) := ⟨_, fun _ => Iff.rfl⟩
      have j1 : ∀ i : { w' // S w' }, i.val.cell? ⟨G, 1, none⟩ = some (.slice va (baseN m.len k) vc) := fun i => ((HS1.out _).1 i.property).1
      have j2 : ∀ i : { w' // S w' }, i.val.cell? ⟨mb, mo' + k, none⟩ = some (.slice (some ⟨gb k, go k, none⟩) (m.len k) (MC0 k)) := fun i => ((HS1.out _).1 i.property).2
      have hS1 : S wr.drew := (HS1.out _).2 ⟨qv, q1⟩
      have hne : Nonempty { w' // S w' } := ⟨⟨_, hS1⟩⟩
      have HX := hid_of' (And.intro qv (And.intro q1 (And.intro l0 (And.intro l1 (And.intro hmbl hsz)))))
      obtain ⟨r, hr⟩ : ∃ r, m.len k = r := ⟨_, rfl⟩
      obtain ⟨bk, hbk⟩ : ∃ r, baseN m.len k = r := ⟨_, rfl⟩
      rw [hr] at j2 HX HS1
      rw [hbk] at j1 HX HS1 Hm
      have Hr := hid_of' (And.intro hr hbk)
      have Hbk : Hid (bk ≤ 384 ∧ r ≤ 64 ∧ 0 < r) := ⟨by rw [← hbk]; exact H0.out.2.2.2.2.2.2.2.2.2.1 k (Nat.le_of_lt Hk.out), by rw [← hr]; exact l1, by rw [← hr]; exact l0⟩
      clear hr hbk qv q1 q1w hold hmbl l0 l1 hsz
      go_wp2_with (fail)
      refine wp_region_lastM (S := S) [11, 12] [(0, true), (1, true), (2, true), (3, true), (4, true), (5, true), (6, true), (7, true), (8, true), (9, true), (10, false), (11, true), (12, true), (13, true), (14, false)] (by kernel_rfl) (by kernel_rfl) (by kernel_rfl) hS1 ?_
      iterate 10 (refine wpOrdM_take rfl (by kernel_rfl) (by kernel_rfl) (fun K hK => ?_); go_simp; refine hK _ _ ?_; clear hK K)
      refine wpOrdM_busy rfl (by kernel_rfl) (fun K hK => ?_)
      refine wp_append_lies _ (.tmp 35) (.tmp 39) 67 rfl (G + 2) 2 i0 (.int .i64 0) 1 8 Try.underlying67 Hi.out.1 Hi.out.2.1 Hi.out.2.2.1 Hi.out.2.2.2 rfl (by decide) (.slice va bk vc) bk ((List.range bk).map fun j => .int .i64 (flatM m j)) rfl Hm.out.1 ⟨gb k, go k, none⟩ r (MC0 k) (wordsL m k) rfl (by rw [wordsL_length, Hr.out.1, Nat.mul_one]) Hnews.out (wordsL_one m k) Hbk.out.2.2 (by have := Hbk.out; unfold maxLen; omega) (by have := Hbk.out; omega) (by have := Hm.out.2.1.size; have := HX.out.2.2.2.2.2; simp; omega) wr.drew.heap.size rfl ?_
      intro g2 cap2 w5 own5 gr5 at5 lt5
      have kp5 : ∀ b, b < G + 2 → some b ≠ (Value.slice va bk vc).ownBlock := fun b hb e => by have := (World.ownsRow.lt Hm.out.1 b e.symm).1; omega
      have gr5' : wr.grownBy w5 (Value.slice va bk vc).ownBlock := ⟨gr5.os, gr5.tape, gr5.output, gr5.size, gr5.block⟩
      have h5 : ∀ o u, Wr wr G o u → Wr w5 G o u := fun o u h => h.kept gr5' (kp5 G (by omega))
      obtain ⟨t1c, t1f⟩ := h5 _ _ Hm.out.2.2.1
      have g05 : W3.grownBy w5 (some G) := grown_then Hm.out.2.1 gr5' (fun j h => by have := (World.ownsRow.lt Hm.out.1 j h).1; have := HX.out.2.2.2.2.2; omega)
      have H5 := hid_of' (And.intro own5 (And.intro g05 (And.intro (show Wr w5 G 1 (.slice va bk vc) from ⟨t1c, t1f⟩) (fun j (hj : j < 18) (h1 : j ≠ 1) => h5 _ _ (Hm.out.2.2.2 j hj h1)))))
      refine hK _ _ ((HS1.out _).2 ⟨t1c, gr5'.cell HX.out.2.1 (kp5 _ (by have := HX.out.2.2.2.2.1; have := HG.out.1; dsimp only; omega))⟩) ?_
      clear hK K own5 gr5 at5 lt5 kp5 gr5' h5 g05
      have hnw : Nonempty World := ⟨w⟩
      iterate 2 (refine wpOrdM_pure rfl (by kernel_rfl) (fun K hK => ?_); go_simp; refine hK _ _ ?_; clear hK K)
      clear hnw
      refine wpOrdM_take rfl (by kernel_rfl) (by kernel_rfl) (fun K hK => ?_); go_simp; refine hK _ _ ?_; clear hK K
      refine wpOrdM_last rfl (by kernel_rfl) (by kernel_rfl) (fun K hK => ?_)
      go_simp
      refine hK _ _ ?_
      clear hK K hne j1 j2 hS1
      refine NoPanic.normal ?_
      have hk63 : wrap64 ((k : Int) + 1) = (k : Int) + 1 := by have := H0.out.2.2.2.2.2.2.1; have := Hk.out; unfold wrap64; omega
      have hwr := wrapEq
      go_wp2
      go_roundg g
      case measure => omega
      case rel =>
        obtain ⟨own5, g05, m1, mj⟩ := H5.out
        have hgs := grown_set w5 G 1 (.slice (some ⟨g2, 0, none⟩) (bk + r) cap2)
        have eb : baseN m.len (k + 1) = bk + r := by simp only [baseN]; rw [Hr.out.1, Hr.out.2]
        refine ⟨k + 1, .slice (some ⟨g2, 0, none⟩) (bk + r) cap2, by omega, by first | rfl | (push_cast; rfl), ?_, grown_trans g05 hgs, m1.same _, fun j hj h1 => (mj j hj h1).other _ _ _ (by omega)⟩
        rw [← flat_next m k Hk.out, eb, Hr.out.2]
        refine World.ownsRow.kept own5 hgs (.inr ?_)
        have := (World.ownsRow.lt own5 g2 rfl).1
        simp [Value.ownBlock]
        omega
set_option maxHeartbeats 1000000 in
theorem wrong11_calls (p : Prg) (l : Loc) (m : Mem) (ml : MLoc) (sa : Option Addr) (sb so sn sc : Nat) (L : List Int) (fuel : Int) (w : World) (hp : PIn w p l) (hm : MRaw w m ml) (hL : L.length = sn) (hsin : SIn w sa sb so L) :
    Calls Try.prog 9 #[.agg #[.slice l.ra p.rl l.rc, .slice l.ca p.cl l.cc], .slice ml.ma m.ml ml.mc, .slice sa sn sc, .int .i64 fuel] w fun e w' => ∃ c, e = .returned (.int .i64 c) ∧ Wr1 p m L fuel c ∧ More w w' := by
  suffices hP : ∀ P : Ending → World → Prop, (∀ c w', Wr1 p m L fuel c → More w w' → P (.returned (.int .i64 c)) w') → Calls Try.prog 9 #[.agg #[.slice l.ra p.rl l.rc, .slice l.ca p.cl l.cc], .slice ml.ma m.ml ml.mc, .slice sa sn sc, .int .i64 fuel] w P from hP _ (fun c w' h1 h2 => ⟨c, rfl, h1, h2⟩)
  intro P hP0
  have HP : Hid (∀ c w', Wr1 p m L fuel c → More w w' → P (.returned (.int .i64 c)) w') := hP0
  have dO : Decidable (p.Ok 8000 10) := Classical.propDecidable _
  have dF : Decidable (FitsOk p.rl p.log m.ml m.len) := Classical.propDecidable _
  have CW : Hid (∀ (R : Int), wrongI (p.Ok 8000 10) (FitsOk p.rl p.log m.ml m.len) fuel = R → ∀ w1, More w w1 → Calls Try.prog 16 #[.agg #[.slice l.ra p.rl l.rc, .slice l.ca p.cl l.cc], .slice ml.ma m.ml ml.mc, .int .i64 fuel] w1 fun e w' => e = .returned (.int .i64 R) ∧ More w1 w') :=
    fun R hR w1 m1 => ref_wrong p l ml.ma m.ml ml.mc ml.mb ml.mo ml.A m.len ml.C fuel w1 (hp.more m1) hm.hm (hm.lists.more m1) R hR
  have CS : Hid (∀ w1, More w w1 → Calls Try.prog 17 #[.slice sa sn sc] w1 fun e w' => ∃ r : Bool, e = .returned (.bool r) ∧ (r = true ↔ ScOk L) ∧ w' = w1) := fun w1 m1 => ref_script sa sb so sn sc L hL w1 (hsin.more m1)
  obtain ⟨R, hR, hcase⟩ : ∃ R, wrongI (p.Ok 8000 10) (FitsOk p.rl p.log m.ml m.len) fuel = R ∧ ((¬ R = 0 ∧ Wr1 p m L fuel R) ∨ (R = 0 ∧ (p.Ok 8000 10 ∧ FitsOk p.rl p.log m.ml m.len) ∧ ¬ (fuel < 0 ∨ 40000 < fuel))) := by
    refine ⟨_, rfl, ?_⟩
    unfold wrongI
    by_cases h1 : ¬ p.Ok 8000 10 ∨ ¬ FitsOk p.rl p.log m.ml m.len
    · rw [if_pos h1]
      exact .inl ⟨by decide, .inl ⟨fun h => by rcases h1 with h1 | h1; exact h1 h.1; exact h1 h.2, rfl⟩⟩
    · rw [if_neg h1]
      have h2 : p.Ok 8000 10 ∧ FitsOk p.rl p.log m.ml m.len := by
        constructor
        · exact Classical.byContradiction fun h => h1 (.inl h)
        · exact Classical.byContradiction fun h => h1 (.inr h)
      by_cases h3 : fuel < 0 ∨ 40000 < fuel
      · rw [if_pos h3]; exact .inl ⟨by decide, .inr (.inl ⟨h2, .inl h3, rfl⟩)⟩
      · rw [if_neg h3]; exact .inr ⟨rfl, h2, h3⟩
  have CW1 := CW.out R hR
  have CW2 : Hid (∀ w1, More w w1 → Calls Try.prog 16 #[.agg #[.slice l.ra p.rl l.rc, .slice l.ca p.cl l.cc], .slice ml.ma m.ml ml.mc, .int .i64 fuel] w1 fun e w' => e = .returned (.int .i64 R) ∧ More w1 w') := CW1
  have HR : Hid ((¬ R = 0 ∧ Wr1 p m L fuel R) ∨ (R = 0 ∧ (p.Ok 8000 10 ∧ FitsOk p.rl p.log m.ml m.len) ∧ ¬ (fuel < 0 ∨ 40000 < fuel))) := hcase
  clear hP0 CW CW1 hR hcase dO dF hp hm hL hsin
  go_enter Try.func9, Try.ntmps9
  go_wp2_with (fail)
  refine (CW2.out _ ((More.refl _).alloc _ _)).mono ?_
  rintro e w1 ⟨rfl, m1⟩
  have Hm1 : Hid (More w w1) := ((More.refl _).alloc _ _).trans m1
  clear m1 CW2
  rcases HR.out with ⟨h0, hw⟩ | ⟨rfl, h2, h3⟩
  · have e0 : (R == 0) = false := by simp [h0]
    have Hend : Hid (P (.returned (.int .i64 R)) w1) := HP.out R w1 hw Hm1.out
    clear HP HR h0 hw
    go_wp2
    exact Hend.out
  · have H2 : Hid ((p.Ok 8000 10 ∧ FitsOk p.rl p.log m.ml m.len) ∧ ¬ (fuel < 0 ∨ 40000 < fuel)) := ⟨h2, h3⟩
    clear h2 h3 HR
    go_wp2_with (fail)
    refine (CS.out _ Hm1.out).mono ?_
    rintro e w2 ⟨r, rfl, hr, rfl⟩
    cases r with
    | true =>
      have Hend : Hid (P (.returned (.int .i64 0)) w2) := HP.out 0 w2 (.inr (.inr ⟨H2.out.1, H2.out.2, hr.1 rfl, rfl⟩)) Hm1.out
      clear HP hr
      go_wp2
      exact Hend.out
    | false =>
      have Hend : Hid (P (.returned (.int .i64 3)) w2) := HP.out 3 w2 (.inr (.inl ⟨H2.out.1, .inr (fun h => absurd (hr.2 h) (by simp)), rfl⟩)) Hm1.out
      clear HP hr
      go_wp2
      exact Hend.out
/-- What is shown, a run ahead. -/
theorem diff_end {x y : List Se} {k : Nat} (h : ∀ j, j < k → x[j]? = y[j]?) (hx : x.length ≤ k) (hy : y.length ≤ k) : x = y := by
  apply List.ext_getElem?
  intro j
  by_cases c : j < k
  · exact h j c
  · rw [List.getElem?_eq_none (by omega), List.getElem?_eq_none (by omega)]

set_option maxHeartbeats 4000000 in
theorem find11_calls (p : Prg) (l : Loc) (m m' : Mem) (ml ml' : MLoc) (sa : Option Addr) (sb so sn sc : Nat) (L : List Int) (fuel : Int) (w : World) (hp : PIn w p l) (hfit : p.Fit) (hm : MRaw w m ml) (hwd : ∀ j, j < m.ml → ∀ i, i < m.len j → B64 (m.wd j i)) (hm' : MRaw w m' ml') (hwd' : ∀ j, j < m'.ml → ∀ i, i < m'.len j → B64 (m'.wd j i)) (hL : L.length = sn) (hcap : sn ≤ sc) (hsin : SIn w sa sb so L) :
    Calls Try.prog 6 #[.agg #[.slice l.ra p.rl l.rc, .slice l.ca p.cl l.cc], .slice ml.ma m.ml ml.mc, .slice ml'.ma m'.ml ml'.mc, .slice sa sn sc, .int .i64 fuel] w (FindAns p m m' L fuel w) := by
  suffices hP : ∀ P : Ending → World → Prop, (∀ k is c w', FindOf p m m' L fuel k is c → More w w' → P (.returned (.tuple #[.int .i64 k, .bool is, .int .i64 c])) w') → Calls Try.prog 6 #[.agg #[.slice l.ra p.rl l.rc, .slice l.ca p.cl l.cc], .slice ml.ma m.ml ml.mc, .slice ml'.ma m'.ml ml'.mc, .slice sa sn sc, .int .i64 fuel] w P from hP _ (fun k is c w' h1 h2 => ⟨k, is, c, rfl, h1, h2⟩)
  intro P hP0
  have HP : Hid (∀ k is c w', FindOf p m m' L fuel k is c → More w w' → P (.returned (.tuple #[.int .i64 k, .bool is, .int .i64 c])) w') := hP0
  have CA : Hid (∀ w1, More w w1 → Calls Try.prog 9 #[.agg #[.slice l.ra p.rl l.rc, .slice l.ca p.cl l.cc], .slice ml.ma m.ml ml.mc, .slice sa sn sc, .int .i64 fuel] w1 fun e w' => ∃ c, e = .returned (.int .i64 c) ∧ Wr1 p m L fuel c ∧ More w1 w') := fun w1 m1 => wrong11_calls p l m ml sa sb so sn sc L fuel w1 (hp.more m1) (hm.more m1) hL (hsin.more m1)
  have CB : Hid (∀ w1, More w w1 → Calls Try.prog 9 #[.agg #[.slice l.ra p.rl l.rc, .slice l.ca p.cl l.cc], .slice ml'.ma m'.ml ml'.mc, .slice sa sn sc, .int .i64 fuel] w1 fun e w' => ∃ c, e = .returned (.int .i64 c) ∧ Wr1 p m' L fuel c ∧ More w1 w') := fun w1 m1 => wrong11_calls p l m' ml' sa sb so sn sc L fuel w1 (hp.more m1) (hm'.more m1) hL (hsin.more m1)
  have hn : ∀ i, i < p.cl → B64 (p.ins i).n := fun i hi => (hfit.ins i hi).2.2.2.2
  have PA : Hid (Wr1 p m L fuel 0 → ∀ w1, More w w1 → Calls Try.prog 10 #[.agg #[.slice l.ra p.rl l.rc, .slice l.ca p.cl l.cc], .slice ml.ma m.ml ml.mc, .slice sa sn sc, .int .i64 fuel] w1 fun e w' => ∃ (x1 x2 x3 : Int) (a : Option Addr) (n c : Nat) (a' : Option Addr) (n' c' : Nat), e = .returned (.agg #[.int .i64 x1, .int .i64 x2, .int .i64 x3, .slice a n c, .slice a' n' c']) ∧ SeenAt w' (.slice a n c) (playS p (flatM m) L fuel.toNat).seen ∧ More w1 w') := fun h w1 m1 => by
    obtain ⟨hok, hf, hs⟩ := wr1_zero h
    obtain ⟨f, rfl⟩ : ∃ f : Nat, fuel = f := ⟨fuel.toNat, by omega⟩
    obtain ⟨hpos, h6⟩ := fits_pos hok.1 hok.2
    refine (r4_play p l m ml sa sb so sn sc L f w1 (hp.more m1) ((hm.more m1).in_ h6 (fun i hi => (hpos i hi).2)) hok.1 hn hok.2 hwd (by omega) hL hcap (hsin.more m1) hs).mono ?_
    rintro e w' ⟨v, mm, rfl, ⟨sv, lv, rfl, hs, _⟩, _, _, _, m2⟩
    have hs0 := hs
    obtain ⟨a, b, o, c, rfl, _⟩ := hs
    exact ⟨_, _, _, _, _, _, _, _, _, rfl, hs0, m2⟩
  have PB : Hid (Wr1 p m' L fuel 0 → ∀ w1, More w w1 → Calls Try.prog 10 #[.agg #[.slice l.ra p.rl l.rc, .slice l.ca p.cl l.cc], .slice ml'.ma m'.ml ml'.mc, .slice sa sn sc, .int .i64 fuel] w1 fun e w' => ∃ (x1 x2 x3 : Int) (a : Option Addr) (n c : Nat) (a' : Option Addr) (n' c' : Nat), e = .returned (.agg #[.int .i64 x1, .int .i64 x2, .int .i64 x3, .slice a n c, .slice a' n' c']) ∧ SeenAt w' (.slice a n c) (playS p (flatM m') L fuel.toNat).seen ∧ More w1 w') := fun h w1 m1 => by
    obtain ⟨hok, hf, hs⟩ := wr1_zero h
    obtain ⟨f, rfl⟩ : ∃ f : Nat, fuel = f := ⟨fuel.toNat, by omega⟩
    obtain ⟨hpos, h6⟩ := fits_pos hok.1 hok.2
    refine (r4_play p l m' ml' sa sb so sn sc L f w1 (hp.more m1) ((hm'.more m1).in_ h6 (fun i hi => (hpos i hi).2)) hok.1 hn hok.2 hwd' (by omega) hL hcap (hsin.more m1) hs).mono ?_
    rintro e w' ⟨v, mm, rfl, ⟨sv, lv, rfl, hs, _⟩, _, _, _, m2⟩
    have hs0 := hs
    obtain ⟨a, b, o, c, rfl, _⟩ := hs
    exact ⟨_, _, _, _, _, _, _, _, _, rfl, hs0, m2⟩
  clear hP0 hp hfit hm hwd hm' hwd' hL hcap hsin hn
  obtain ⟨X, HX⟩ : ∃ x, Hid ((playS p (flatM m) L fuel.toNat).seen = x) := ⟨_, rfl⟩
  obtain ⟨Y, HY⟩ : ∃ x, Hid ((playS p (flatM m') L fuel.toNat).seen = x) := ⟨_, rfl⟩
  rw [HX.out] at PA
  rw [HY.out] at PB
  have HF : Hid (Wr1 p m L fuel 0 → Wr1 p m' L fuel 0 → ∀ k is, Diff X Y k is → FindOf p m m' L fuel k is 0) := fun h1 h2 k is hd => ⟨0, h1, .inr ⟨rfl, 0, h2, .inr ⟨rfl, rfl, by rw [HX.out, HY.out]; exact hd⟩⟩⟩
  obtain ⟨ra, Hra⟩ : ∃ x, Hid (l.ra = x) := ⟨_, rfl⟩
  obtain ⟨rl, Hrl⟩ : ∃ x, Hid (p.rl = x) := ⟨_, rfl⟩
  obtain ⟨rc, Hrc⟩ : ∃ x, Hid (l.rc = x) := ⟨_, rfl⟩
  obtain ⟨ca, Hca⟩ : ∃ x, Hid (l.ca = x) := ⟨_, rfl⟩
  obtain ⟨cl, Hcl⟩ : ∃ x, Hid (p.cl = x) := ⟨_, rfl⟩
  obtain ⟨cc, Hcc⟩ : ∃ x, Hid (l.cc = x) := ⟨_, rfl⟩
  obtain ⟨mv, Hmv⟩ : ∃ x, Hid (Value.slice ml.ma m.ml ml.mc = x) := ⟨_, rfl⟩
  obtain ⟨mw, Hmw⟩ : ∃ x, Hid (Value.slice ml'.ma m'.ml ml'.mc = x) := ⟨_, rfl⟩
  obtain ⟨sv, Hsv⟩ : ∃ x, Hid (Value.slice sa sn sc = x) := ⟨_, rfl⟩
  rw [Hra.out, Hrl.out, Hrc.out, Hca.out, Hcl.out, Hcc.out, Hsv.out] at CA CB PA PB ⊢
  rw [Hmv.out] at CA PA ⊢
  rw [Hmw.out] at CB PB ⊢
  go_enter Try.func6, Try.ntmps6
  go_wp2_with (fail)
  refine (CA.out _ ((More.refl _).alloc _ _)).mono ?_
  rintro e w1 ⟨c1, rfl, hw1, m1⟩
  have Hm1 : Hid (More w w1) := ((More.refl _).alloc _ _).trans m1
  have Hp1 : Hid (Blk w1 w.heap.size #[.slice ra rl rc, .slice ca cl cc] 25) := (Blk.last _ _ _).more m1
  have HW1 : Hid (Wr1 p m L fuel c1) := hw1
  clear m1 hw1 CA
  by_cases h1 : c1 = 0
  · subst h1
    have p0 : w1.cell? ⟨w.heap.size, 0, none⟩ = some (.slice ra rl rc) := Hp1.out.cell rfl
    have p1 : w1.cell? ⟨w.heap.size, 1, none⟩ = some (.slice ca cl cc) := Hp1.out.cell rfl
    have PA1 : Hid (∀ w1, More w w1 → Calls Try.prog 10 #[.agg #[.slice ra rl rc, .slice ca cl cc], mv, sv, .int .i64 fuel] w1 fun e w' => ∃ (x1 x2 x3 : Int) (a : Option Addr) (n c : Nat) (a' : Option Addr) (n' c' : Nat), e = .returned (.agg #[.int .i64 x1, .int .i64 x2, .int .i64 x3, .slice a n c, .slice a' n' c']) ∧ SeenAt w' (.slice a n c) X ∧ More w1 w') := PA.out HW1.out
    clear PA
    go_wp2_with (fail)
    refine (CB.out _ Hm1.out).mono ?_
    rintro e w2 ⟨c2, rfl, hw2, m2⟩
    have Hm2 : Hid (More w w2) := Hm1.out.trans m2
    have Hp2 : Hid (Blk w2 w.heap.size #[.slice ra rl rc, .slice ca cl cc] 25) := Hp1.out.more m2
    have HW2 : Hid (Wr1 p m' L fuel c2) := hw2
    clear m2 hw2 CB p0 p1
    by_cases h2 : c2 = 0
    · subst h2
      have PB1 : Hid (∀ w1, More w w1 → Calls Try.prog 10 #[.agg #[.slice ra rl rc, .slice ca cl cc], mw, sv, .int .i64 fuel] w1 fun e w' => ∃ (x1 x2 x3 : Int) (a : Option Addr) (n c : Nat) (a' : Option Addr) (n' c' : Nat), e = .returned (.agg #[.int .i64 x1, .int .i64 x2, .int .i64 x3, .slice a n c, .slice a' n' c']) ∧ SeenAt w' (.slice a n c) Y ∧ More w1 w') := PB.out HW2.out
      have HF1 : Hid (∀ k is, Diff X Y k is → ∀ w', More w w' → P (.returned (.tuple #[.int .i64 k, .bool is, .int .i64 0])) w') := fun k is hd w' mm => HP.out k is 0 w' (HF.out HW1.out HW2.out k is hd) mm
      clear PB HP HF HW1 HW2
      have p0 : w2.cell? ⟨w.heap.size, 0, none⟩ = some (.slice ra rl rc) := Hp2.out.cell rfl
      have p1 : w2.cell? ⟨w.heap.size, 1, none⟩ = some (.slice ca cl cc) := Hp2.out.cell rfl
      go_wp2_with (fail)
      refine (PA1.out _ Hm2.out).mono ?_
      rintro e w3 ⟨x1, x2, x3, xa, xn, xc, xa', xn', xc', rfl, hX, m3⟩
      have Hm3 : Hid (More w w3) := Hm2.out.trans m3
      have Hp3 : Hid (Blk w3 w.heap.size #[.slice ra rl rc, .slice ca cl cc] 25) := Hp2.out.more m3
      have HX3 : Hid (SeenAt w3 (.slice xa xn xc) X) := hX
      clear m3 hX p0 p1 PA1
      obtain ⟨w4, Hw4⟩ : ∃ w_ : World, Hid (w_ = w3.alloc (.cells #[.int .i64 x1, .int .i64 x2, .int .i64 x3, .slice xa xn xc, .slice xa' xn' xc'] 34)) := ⟨_, rfl⟩
      have Hm4 : Hid (More w3 w4) := Hw4.out ▸ (More.refl _).alloc _ _
      have Hx4 : Hid (Blk w4 w3.heap.size #[.int .i64 x1, .int .i64 x2, .int .i64 x3, .slice xa xn xc, .slice xa' xn' xc'] 34) := Hw4.out ▸ Blk.last _ _ _
      have p0 : w3.cell? ⟨w.heap.size, 0, none⟩ = some (.slice ra rl rc) := Hp3.out.cell rfl
      have p1 : w3.cell? ⟨w.heap.size, 1, none⟩ = some (.slice ca cl cc) := Hp3.out.cell rfl
      have z3 := Hp3.out.lt
      go_wp2_with (fail)
      rw [← Hw4.out]
      refine (PB1.out _ (Hm3.out.trans Hm4.out)).mono ?_
      rintro e w5 ⟨y1, y2, y3, ya, yn, yc, ya', yn', yc', rfl, hY, m5⟩
      obtain ⟨w6, Hw6⟩ : ∃ w_ : World, Hid (w_ = w5.alloc (.cells #[.int .i64 y1, .int .i64 y2, .int .i64 y3, .slice ya yn yc, .slice ya' yn' yc'] 34)) := ⟨_, rfl⟩
      have Hm6 : Hid (More w5 w6) := Hw6.out ▸ (More.refl _).alloc _ _
      have Hy6 : Hid (Blk w6 w5.heap.size #[.int .i64 y1, .int .i64 y2, .int .i64 y3, .slice ya yn yc, .slice ya' yn' yc'] 34) := Hw6.out ▸ Blk.last _ _ _
      have Hx6 : Hid (Blk w6 w3.heap.size #[.int .i64 x1, .int .i64 x2, .int .i64 x3, .slice xa xn xc, .slice xa' xn' xc'] 34) := Hx4.out.more (m5.trans Hm6.out)
      have Hmm : Hid (More w w6) := (Hm3.out.trans Hm4.out).trans (m5.trans Hm6.out)
      obtain ⟨xa0, xb, xo, xc0, ex, hxa, hXs, hXl⟩ := HX3.out.more ((Hm4.out.trans m5).trans Hm6.out)
      obtain ⟨ya0, yb, yo, yc0, ey, hya, hYs, hYl⟩ := hY.more Hm6.out
      obtain ⟨rfl, rfl, rfl⟩ : xa = xa0 ∧ xn = X.length ∧ xc = xc0 := by simpa using ex
      obtain ⟨rfl, rfl, rfl⟩ : ya = ya0 ∧ yn = Y.length ∧ yc = yc0 := by simpa using ey
      obtain ⟨xn, Hxn⟩ : ∃ x, Hid (X.length = x) := ⟨_, rfl⟩
      obtain ⟨yn, Hyn⟩ : ∃ x, Hid (Y.length = x) := ⟨_, rfl⟩
      rw [Hxn.out] at Hx6 hxa hXl Hw4 Hx4 ⊢
      rw [Hyn.out] at Hy6 hya hYl Hw6 ⊢
      have HS6 : Hid ((0 < xn → xa = some ⟨xb, xo, none⟩) ∧ SeesAt w6 xb xo X ∧ (0 < yn → ya = some ⟨yb, yo, none⟩) ∧ SeesAt w6 yb yo Y ∧ xn < 4611686018427387904 ∧ yn < 4611686018427387904) := ⟨hxa, hXs, hya, hYs, hXl, hYl⟩
      clear hY m5 p0 p1 z3 PB1 ex ey hxa hXs hXl hya hYs hYl HX3
      go_wp2_with (fail)
      rw [← Hw6.out]
      go_loopg [16] xn (fun g iv wr => ∃ k : Nat, k + g = xn ∧ iv = .int .i64 k ∧ Hid (More w6 wr ∧ k ≤ yn ∧ ∀ j, j < k → X[j]? = Y[j]?))
      case atStart => exact ⟨0, by omega, rfl, More.refl _, Nat.zero_le _, fun j hj => absurd hj (Nat.not_lt_zero _)⟩
      case round =>
        obtain ⟨k, hkg, rfl, Hr⟩ := hrel
        have hk63 : wrap64 ((k : Int) + 1) = (k : Int) + 1 := by have := HS6.out.2.2.2.2.1; unfold wrap64; omega
        have hv63 : IntKind.i64.wrap ((k : Int) + 1) = (k : Int) + 1 := by have := HS6.out.2.2.2.2.1; rw [IntKind.wrap_i64]; omega
        obtain ⟨S, HS⟩ : ∃ S : World → Prop, Hid (∀ w', S w' ↔ More wr w') := ⟨fun w' => More wr w', fun _ => Iff.rfl⟩
        have HS0 : S wr.drew := (HS.out _).2 (More.refl _).drew
        have k0 : ∀ i : { w' // S w' }, i.val.cell? ⟨w3.heap.size, 3, none⟩ = some (.slice xa xn xc) := fun i => ((Hx6.out.more Hr.out.1).more ((HS.out _).1 i.property)).cell rfl
        have k1 : ∀ i : { w' // S w' }, i.val.cell? ⟨w5.heap.size, 3, none⟩ = some (.slice ya yn yc) := fun i => ((Hy6.out.more Hr.out.1).more ((HS.out _).1 i.property)).cell rfl
        have hne : Nonempty { w' // S w' } := ⟨⟨_, HS0⟩⟩
        obtain ⟨wd, Hwd⟩ : ∃ w_ : World, Hid (w_ = wr.drew) := ⟨_, rfl⟩
        have HSd : S wd := Hwd.out ▸ HS0
        have Hmd : Hid (More w6 wd) := Hwd.out ▸ Hr.out.1.drew
        have x3c : wd.cell? ⟨w3.heap.size, 3, none⟩ = some (.slice xa xn xc) := (Hx6.out.more Hmd.out).cell rfl
        have y3c : wd.cell? ⟨w5.heap.size, 3, none⟩ = some (.slice ya yn yc) := (Hy6.out.more Hmd.out).cell rfl
        cases gk with
        | zero =>
          obtain rfl : k = xn := by omega
          have d0 : decide ((k : Int) < (k : Int)) = false := by simp
          go_wp2_with (fail)
          refine wp_region_ord (S := S) [(0, true), (1, true), (2, true), (3, true), (4, true), (5, true), (6, true), (7, true), (8, true), (9, true), (10, true), (11, true), (12, true), (13, true), (14, true), (15, true), (16, true), (17, true), (18, true), (19, true), (20, true), (21, true), (22, true), (23, true), (24, true)] (by kernel_rfl) (by kernel_rfl) (by kernel_rfl) HS0 ?_
          rw [← Hwd.out]
          iterate 6 (refine wpOrd_take rfl (by kernel_rfl) (fun K hK => ?_); go_simp; refine hK _ _ ?_; clear hK K)
          iterate 5 (refine wpOrd_pass rfl HSd (by kernel_rfl) (fun K hK => ?_); go_simp; refine hK _ _ ?_; clear hK K)
          refine wpOrd_pickF rfl rfl (by kernel_rfl) rfl (fun K hK => ?_); go_simp; refine hK _ _ ?_; clear hK K
          refine wpOrd_take rfl (by kernel_rfl) (fun K hK => ?_); go_simp; refine hK _ _ ?_; clear hK K
          iterate 11 (refine wpOrd_pass rfl HSd (by kernel_rfl) (fun K hK => ?_); go_simp; refine hK _ _ ?_; clear hK K)
          refine wpOrd_pickF rfl rfl (by kernel_rfl) rfl (fun K hK => ?_); go_simp; refine hK _ _ ?_; clear hK K
          refine wpOrd_done ?_
          clear k0 k1 hne HS0
          by_cases hy : k < yn
          · have d1 : decide ((k : Int) < (yn : Int)) = true := by simp [hy]
            have Hend : Hid (P (.returned (.tuple #[.int .i64 k, .bool true, .int .i64 0])) wd) := HF1.out k true (.inr ⟨k, rfl, rfl, Hr.out.2.2, by rw [List.getElem?_eq_none (by rw [Hxn.out]; exact Nat.le_refl _), List.getElem?_eq_getElem (by rw [Hyn.out]; exact hy)]; simp⟩) wd (Hmm.out.trans Hmd.out)
            clear HF1
            go_wp2
            exact bodyPost_ret (by simp [results, Try.results6, go_sem]) rfl Hend.out
          · have d1 : decide ((k : Int) < (yn : Int)) = false := by simp; omega
            have Hend : Hid (P (.returned (.tuple #[.int .i64 0, .bool false, .int .i64 0])) wd) := HF1.out 0 false (.inl ⟨diff_end Hr.out.2.2 (by rw [Hxn.out]; exact Nat.le_refl _) (by rw [Hyn.out]; omega), rfl, rfl⟩) wd (Hmm.out.trans Hmd.out)
            clear HF1
            go_wp2
            exact bodyPost_ret (by simp [results, Try.results6, go_sem]) rfl Hend.out
        | succ g =>
          have hk : k < xn := by omega
          have hki : (k : Int) < (xn : Int) := by omega
          have dk : decide ((k : Int) < (xn : Int)) = true := by simp [hk]
          by_cases hy : k < yn
          · have hyi : (k : Int) < (yn : Int) := by omega
            have dy : decide ((k : Int) < (yn : Int)) = true := by simp [hy]
            obtain rfl := HS6.out.1 (by omega)
            obtain rfl := HS6.out.2.2.1 (by omega)
            obtain ⟨s, Hs⟩ : ∃ s, Hid (X[k]? = some s) := ⟨_, List.getElem?_eq_getElem (by rw [Hxn.out]; exact hk)⟩
            obtain ⟨t, Ht⟩ : ∃ s, Hid (Y[k]? = some s) := ⟨_, List.getElem?_eq_getElem (by rw [Hyn.out]; exact hy)⟩
            have q1 := (HS6.out.2.1.more Hr.out.1) k s Hs.out
            have q2 := (HS6.out.2.2.2.1.more Hr.out.1) k t Ht.out
            obtain ⟨s1, s2, s3⟩ := s
            obtain ⟨t1, t2, t3⟩ := t
            dsimp only at q1 q2
            have j0 : ∀ i : { w' // S w' }, i.val.cell? ⟨xb, xo + k * 3, none⟩ = some (.int .i64 s1) := fun i => ((HS.out _).1 i.property).cell q1.1
            have j1 : ∀ i : { w' // S w' }, i.val.cell? ⟨xb, xo + k * 3 + 1, none⟩ = some (.int .i64 s2) := fun i => ((HS.out _).1 i.property).cell q1.2.1
            have j2 : ∀ i : { w' // S w' }, i.val.cell? ⟨xb, xo + k * 3 + 2, none⟩ = some (.int .i64 s3) := fun i => ((HS.out _).1 i.property).cell q1.2.2
            have j3 : ∀ i : { w' // S w' }, i.val.cell? ⟨yb, yo + k * 3, none⟩ = some (.int .i64 t1) := fun i => ((HS.out _).1 i.property).cell q2.1
            have j4 : ∀ i : { w' // S w' }, i.val.cell? ⟨yb, yo + k * 3 + 1, none⟩ = some (.int .i64 t2) := fun i => ((HS.out _).1 i.property).cell q2.2.1
            have j5 : ∀ i : { w' // S w' }, i.val.cell? ⟨yb, yo + k * 3 + 2, none⟩ = some (.int .i64 t3) := fun i => ((HS.out _).1 i.property).cell q2.2.2
            clear q1 q2
            go_wp2_with (fail)
            refine wp_region_ord (S := S) [(0, true), (1, true), (2, true), (3, true), (4, true), (5, true), (6, true), (7, true), (8, true), (9, true), (10, true), (11, true), (12, true), (13, true), (14, true), (15, true), (16, true), (17, true), (18, true), (19, true), (20, true), (21, true), (22, true), (23, true), (24, true)] (by kernel_rfl) (by kernel_rfl) (by kernel_rfl) HS0 ?_
            rw [← Hwd.out]
            iterate 11 (refine wpOrd_take rfl (by kernel_rfl) (fun K hK => ?_); go_simp; refine hK _ _ ?_; clear hK K)
            refine wpOrd_pickT rfl rfl (by kernel_rfl) rfl (fun K hK => ?_); go_simp; refine hK _ _ ?_; clear hK K
            iterate 11 (refine wpOrd_take rfl (by kernel_rfl) (fun K hK => ?_); go_simp; refine hK _ _ ?_; clear hK K)
            by_cases hst : s1 = t1 ∧ s2 = t2 ∧ s3 = t3
            · obtain ⟨rfl, rfl, rfl⟩ := hst
              refine wpOrd_take rfl (by kernel_rfl) (fun K hK => ?_); go_simp; refine hK _ _ ?_; clear hK K
              refine wpOrd_pickT rfl rfl (by kernel_rfl) rfl (fun K hK => ?_); go_simp; refine hK _ _ ?_; clear hK K
              refine wpOrd_done ?_
              have Hn : Hid (More w6 wd ∧ k + 1 ≤ yn ∧ ∀ j, j < k + 1 → X[j]? = Y[j]?) := ⟨Hmd.out, hy, fun j hj => by
                by_cases c : j = k
                · subst c; rw [Hs.out, Ht.out]
                · exact Hr.out.2.2 j (by omega)⟩
              clear k0 k1 hne HS0 j0 j1 j2 j3 j4 j5 HF1
              go_wp2
              go_roundg g
              case measure => omega
              case rel => exact ⟨k + 1, by omega, by first | rfl | simp [hk63], Hn.out⟩
            · have Hend : Hid (P (.returned (.tuple #[.int .i64 k, .bool true, .int .i64 0])) wd) := HF1.out k true (.inr ⟨k, rfl, rfl, Hr.out.2.2, by rw [Hs.out, Ht.out]; intro e; simp at e; exact hst e⟩) wd (Hmm.out.trans Hmd.out)
              have h3 : ¬ s1 = t1 ∨ (s1 = t1 ∧ ¬ s2 = t2) ∨ (s1 = t1 ∧ s2 = t2 ∧ ¬ s3 = t3) := by
                by_cases a1 : s1 = t1
                · by_cases a2 : s2 = t2
                  · exact .inr (.inr ⟨a1, a2, fun a3 => hst ⟨a1, a2, a3⟩⟩)
                  · exact .inr (.inl ⟨a1, a2⟩)
                · exact .inl a1
              clear HF1 hst Hs Ht
              rcases h3 with a1 | ⟨rfl, a2⟩ | ⟨rfl, rfl, a3⟩
              all_goals
                refine wpOrd_take rfl (by kernel_rfl) (fun K hK => ?_); go_simp; refine hK _ _ ?_; clear hK K
                refine wpOrd_pickT rfl rfl (by kernel_rfl) rfl (fun K hK => ?_); go_simp; refine hK _ _ ?_; clear hK K
                refine wpOrd_done ?_
                clear k0 k1 hne HS0 j0 j1 j2 j3 j4 j5
                go_wp2
                exact bodyPost_ret (by simp [results, Try.results6, go_sem]) rfl Hend.out
          · have dy : decide ((k : Int) < (yn : Int)) = false := by simp; omega
            have Hend : Hid (P (.returned (.tuple #[.int .i64 k, .bool true, .int .i64 0])) wd) := HF1.out k true (.inr ⟨k, rfl, rfl, Hr.out.2.2, by rw [List.getElem?_eq_getElem (by rw [Hxn.out]; exact hk), List.getElem?_eq_none (by rw [Hyn.out]; omega)]; simp⟩) wd (Hmm.out.trans Hmd.out)
            clear HF1
            go_wp2_with (fail)
            refine wp_region_ord (S := S) [(0, true), (1, true), (2, true), (3, true), (4, true), (5, true), (6, true), (7, true), (8, true), (9, true), (10, true), (11, true), (12, true), (13, true), (14, true), (15, true), (16, true), (17, true), (18, true), (19, true), (20, true), (21, true), (22, true), (23, true), (24, true)] (by kernel_rfl) (by kernel_rfl) (by kernel_rfl) HS0 ?_
            rw [← Hwd.out]
            iterate 11 (refine wpOrd_take rfl (by kernel_rfl) (fun K hK => ?_); go_simp; refine hK _ _ ?_; clear hK K)
            refine wpOrd_pickT rfl rfl (by kernel_rfl) rfl (fun K hK => ?_); go_simp; refine hK _ _ ?_; clear hK K
            refine wpOrd_take rfl (by kernel_rfl) (fun K hK => ?_); go_simp; refine hK _ _ ?_; clear hK K
            iterate 11 (refine wpOrd_pass rfl HSd (by kernel_rfl) (fun K hK => ?_); go_simp; refine hK _ _ ?_; clear hK K)
            refine wpOrd_pickF rfl rfl (by kernel_rfl) rfl (fun K hK => ?_); go_simp; refine hK _ _ ?_; clear hK K
            refine wpOrd_done ?_
            clear k0 k1 hne HS0
            go_wp2
            exact bodyPost_ret (by simp [results, Try.results6, go_sem]) rfl Hend.out
    · have e0 : (c2 == 0) = false := by simp [h2]
      have e1 : (c2 != 0) = true := by simp [h2]
      have Hend : Hid (P (.returned (.tuple #[.int .i64 0, .bool false, .int .i64 c2])) w2) := HP.out 0 false c2 w2 ⟨0, HW1.out, .inr ⟨rfl, c2, HW2.out, .inl ⟨h2, rfl, rfl, rfl⟩⟩⟩ Hm2.out
      clear HP HF h2 PB PA1 HW1 HW2
      go_wp2
      exact bodyPost_ret (by simp [results, Try.results6, go_sem]) rfl Hend.out
  · have e0 : (c1 == 0) = false := by simp [h1]
    have e1 : (c1 != 0) = true := by simp [h1]
    have Hend : Hid (P (.returned (.tuple #[.int .i64 0, .bool false, .int .i64 c1])) w1) := HP.out 0 false c1 w1 ⟨c1, HW1.out, .inl ⟨h1, rfl, rfl, rfl⟩⟩ Hm1.out
    clear HP HF h1 PA PB CB HW1
    go_wp2
    exact bodyPost_ret (by simp [results, Try.results6, go_sem]) rfl Hend.out
theorem diff_all {x y : List Se} {k : Nat} (h : ∀ j, j < k → x[j]? = y[j]?) (hx : x.length ≤ k) (hy : y.length ≤ k) : x = y := by
  apply List.ext_getElem?
  intro j
  by_cases c : j < k
  · exact h j c
  · rw [List.getElem?_eq_none (by omega), List.getElem?_eq_none (by omega)]

set_option maxHeartbeats 4000000 in
theorem first_calls (X Y : List Se) (xa ya : Option Addr) (xn yn xc yc : Nat) (w : World) (hX : SeenAt w (.slice xa xn xc) X) (hY : SeenAt w (.slice ya yn yc) Y) :
    Calls Try.prog 8 #[.agg #[.slice xa xn xc, .slice ya yn yc]] w fun e w' => ∃ k is, e = .returned (.tuple #[.int .i64 k, .bool is]) ∧ Diff X Y k is ∧ More w w' := by
  suffices hP : ∀ P : Ending → World → Prop, (∀ k is w', Diff X Y k is → More w w' → P (.returned (.tuple #[.int .i64 k, .bool is])) w') → Calls Try.prog 8 #[.agg #[.slice xa xn xc, .slice ya yn yc]] w P from hP _ (fun k is w' h1 h2 => ⟨k, is, rfl, h1, h2⟩)
  intro P hP0
  have HP : Hid (∀ k is w', Diff X Y k is → More w w' → P (.returned (.tuple #[.int .i64 k, .bool is])) w') := hP0
  obtain ⟨xa0, xb, xo, xc0, ex, hxa, hXs, hXl⟩ := hX
  obtain ⟨ya0, yb, yo, yc0, ey, hya, hYs, hYl⟩ := hY
  obtain ⟨rfl, rfl, rfl⟩ : xa = xa0 ∧ xn = X.length ∧ xc = xc0 := by simpa using ex
  obtain ⟨rfl, rfl, rfl⟩ : ya = ya0 ∧ yn = Y.length ∧ yc = yc0 := by simpa using ey
  obtain ⟨xn, Hxn⟩ : ∃ x, Hid (X.length = x) := ⟨_, rfl⟩
  obtain ⟨yn, Hyn⟩ : ∃ x, Hid (Y.length = x) := ⟨_, rfl⟩
  rw [Hxn.out] at hxa hXl ⊢
  rw [Hyn.out] at hya hYl ⊢
  have HS6 : Hid ((0 < xn → xa = some ⟨xb, xo, none⟩) ∧ SeesAt w xb xo X ∧ (0 < yn → ya = some ⟨yb, yo, none⟩) ∧ SeesAt w yb yo Y ∧ xn < 4611686018427387904 ∧ yn < 4611686018427387904) := ⟨hxa, hXs, hya, hYs, hXl, hYl⟩
  obtain ⟨bn, hbx, hby, hmin⟩ : ∃ bn : Nat, bn ≤ xn ∧ bn ≤ yn ∧ (bn = xn ∨ bn = yn) := ⟨min xn yn, by omega, by omega, by omega⟩
  have Hb : Hid (bn ≤ xn ∧ bn ≤ yn ∧ (bn = xn ∨ bn = yn)) := ⟨hbx, hby, hmin⟩
  clear ex ey hxa hXs hXl hya hYs hYl hbx hby hmin hP0
  go_enter Try.func8, Try.ntmps8
  obtain ⟨w1, Hw1⟩ : ∃ w_ : World, Hid (w_ = w.alloc (.cells #[.slice xa xn xc, .slice ya yn yc] 38)) := ⟨_, rfl⟩
  have Hm1 : Hid (More w w1) := Hw1.out ▸ (More.refl _).alloc _ _
  have Hb1 : Hid (Blk w1 w.heap.size #[.slice xa xn xc, .slice ya yn yc] 38) := Hw1.out ▸ Blk.last _ _ _
  obtain ⟨S, HS⟩ : ∃ S : World → Prop, Hid (∀ w', S w' ↔ More w1 w') := ⟨fun w' => More w1 w', fun _ => Iff.rfl⟩
  have k0 : ∀ i : { w' // S w' }, i.val.cell? ⟨w.heap.size, 0, none⟩ = some (.slice xa xn xc) := fun i => (Hb1.out.more ((HS.out _).1 i.property)).cell rfl
  have k1 : ∀ i : { w' // S w' }, i.val.cell? ⟨w.heap.size, 1, none⟩ = some (.slice ya yn yc) := fun i => (Hb1.out.more ((HS.out _).1 i.property)).cell rfl
  have hne : Nonempty { w' // S w' } := ⟨⟨w1, (HS.out _).2 (More.refl _)⟩⟩
  go_wp2_with (fail)
  rw [← Hw1.out]
  refine wp_region_ord (S := S) [(0, true), (1, true), (2, true), (3, true), (4, true), (5, true)] (by kernel_rfl) (by kernel_rfl) (by kernel_rfl) ((HS.out _).2 (More.refl _).drew) ?_
  iterate 6 (refine wpOrd_take rfl (by kernel_rfl) (fun K hK => ?_); go_simp; refine hK _ _ ?_; clear hK K)
  refine wpOrd_done ?_
  clear k0 k1 hne HS S
  have hcase : (yn < xn ∧ Hid ((yn : Int) = (bn : Int))) ∨ (¬ yn < xn ∧ Hid ((xn : Int) = (bn : Int))) := by
    have hb := Hb.out
    by_cases c : yn < xn
    · exact .inl ⟨c, show (yn : Int) = (bn : Int) by omega⟩
    · exact .inr ⟨c, show (xn : Int) = (bn : Int) by omega⟩
  rcases hcase with ⟨hyx, he⟩ | ⟨hyx, he⟩
  all_goals
    go_wp2
    rw [he.out]
    clear he hyx
    go_loopg [18] bn (fun g iv wr => ∃ k : Nat, k + g = bn ∧ iv = .int .i64 k ∧ Hid (More w wr ∧ ∀ j, j < k → X[j]? = Y[j]?))
    case atStart => exact ⟨0, by omega, rfl, Hm1.out.drew, fun j hj => absurd hj (Nat.not_lt_zero _)⟩
    case round =>
      obtain ⟨k, hkg, rfl, Hr⟩ := hrel
      cases gk with
      | zero =>
        obtain rfl : k = bn := by omega
        have d0 : decide ((k : Int) < (k : Int)) = false := by simp
        by_cases hl : xn = yn
        · have hkx : xn = k := by have := Hb.out; omega
          have e0 : ((xn : Int) == (yn : Int)) = true := by simp [hl]
          have e1 : ((xn : Int) != (yn : Int)) = false := by simp [hl]
          have Hend : Hid (P (.returned (.tuple #[.int .i64 0, .bool false])) wr) := HP.out 0 false wr (.inl ⟨diff_all Hr.out.2 (by rw [Hxn.out]; omega) (by rw [Hyn.out]; omega), rfl, rfl⟩) Hr.out.1
          clear HP hkx
          go_wp2
          exact Hend.out
        · have e0 : ((xn : Int) == (yn : Int)) = false := by simp; omega
          have e1 : ((xn : Int) != (yn : Int)) = true := by simp; omega
          have hk : k ≤ xn ∧ k ≤ yn ∧ (k = xn ∨ k = yn) := Hb.out
          have Hend : Hid (P (.returned (.tuple #[.int .i64 k, .bool true])) wr) := HP.out k true wr (.inr ⟨k, rfl, rfl, Hr.out.2, by
            rcases hk with ⟨a1, a2, rfl | rfl⟩
            · rw [List.getElem?_eq_none (by rw [Hxn.out]; exact Nat.le_refl _), List.getElem?_eq_getElem (by rw [Hyn.out]; omega)]; simp
            · rw [List.getElem?_eq_getElem (by rw [Hxn.out]; omega), List.getElem?_eq_none (by rw [Hyn.out]; exact Nat.le_refl _)]; simp⟩) Hr.out.1
          clear HP hk
          go_wp2
          exact Hend.out
      | succ g =>
        have hk : k < bn := by omega
        have hki : (k : Int) < (bn : Int) := by omega
        have hkx : k < xn := by have := Hb.out; omega
        have hky : k < yn := by have := Hb.out; omega
        have hkxi : (k : Int) < (xn : Int) := by omega
        have hkyi : (k : Int) < (yn : Int) := by omega
        have hk0 : (0 : Int) ≤ (k : Int) := by omega
        have hk63 : wrap64 ((k : Int) + 1) = (k : Int) + 1 := by have := HS6.out.2.2.2.2.1; unfold wrap64; omega
        obtain rfl := HS6.out.1 (by omega)
        obtain rfl := HS6.out.2.2.1 (by omega)
        obtain ⟨s, Hs⟩ : ∃ s, Hid (X[k]? = some s) := ⟨_, List.getElem?_eq_getElem (by rw [Hxn.out]; exact hkx)⟩
        obtain ⟨t, Ht⟩ : ∃ s, Hid (Y[k]? = some s) := ⟨_, List.getElem?_eq_getElem (by rw [Hyn.out]; exact hky)⟩
        have q1 := (HS6.out.2.1.more Hr.out.1) k s Hs.out
        have q2 := (HS6.out.2.2.2.1.more Hr.out.1) k t Ht.out
        obtain ⟨s1, s2, s3⟩ := s
        obtain ⟨t1, t2, t3⟩ := t
        dsimp only at q1 q2
        obtain ⟨S, HS⟩ : ∃ S : World → Prop, Hid (∀ w', S w' ↔ More wr w') := ⟨fun w' => More wr w', fun _ => Iff.rfl⟩
        have HS0 : S wr.drew := (HS.out _).2 (More.refl _).drew
        have hne : Nonempty { w' // S w' } := ⟨⟨_, HS0⟩⟩
        have j0 : ∀ i : { w' // S w' }, i.val.cell? ⟨xb, xo + k * 3, none⟩ = some (.int .i64 s1) := fun i => ((HS.out _).1 i.property).cell q1.1
        have j1 : ∀ i : { w' // S w' }, i.val.cell? ⟨xb, xo + k * 3 + 1, none⟩ = some (.int .i64 s2) := fun i => ((HS.out _).1 i.property).cell q1.2.1
        have j2 : ∀ i : { w' // S w' }, i.val.cell? ⟨xb, xo + k * 3 + 2, none⟩ = some (.int .i64 s3) := fun i => ((HS.out _).1 i.property).cell q1.2.2
        have j3 : ∀ i : { w' // S w' }, i.val.cell? ⟨yb, yo + k * 3, none⟩ = some (.int .i64 t1) := fun i => ((HS.out _).1 i.property).cell q2.1
        have j4 : ∀ i : { w' // S w' }, i.val.cell? ⟨yb, yo + k * 3 + 1, none⟩ = some (.int .i64 t2) := fun i => ((HS.out _).1 i.property).cell q2.2.1
        have j5 : ∀ i : { w' // S w' }, i.val.cell? ⟨yb, yo + k * 3 + 2, none⟩ = some (.int .i64 t3) := fun i => ((HS.out _).1 i.property).cell q2.2.2
        obtain ⟨wd, Hwd⟩ : ∃ w_ : World, Hid (w_ = wr.drew) := ⟨_, rfl⟩
        have Hmd : Hid (More w wd) := Hwd.out ▸ Hr.out.1.drew
        clear q1 q2
        go_wp2_with (fail)
        refine wp_region_ord (S := S) [(0, true), (1, true), (2, true), (3, true), (4, true), (5, true), (6, true), (7, true), (8, true)] (by kernel_rfl) (by kernel_rfl) (by kernel_rfl) HS0 ?_
        rw [← Hwd.out]
        iterate 8 (refine wpOrd_take rfl (by kernel_rfl) (fun K hK => ?_); go_simp; refine hK _ _ ?_; clear hK K)
        by_cases hst : s1 = t1 ∧ s2 = t2 ∧ s3 = t3
        · obtain ⟨rfl, rfl, rfl⟩ := hst
          refine wpOrd_take rfl (by kernel_rfl) (fun K hK => ?_); go_simp; refine hK _ _ ?_; clear hK K
          refine wpOrd_done ?_
          have Hn : Hid (More w wd ∧ ∀ j, j < k + 1 → X[j]? = Y[j]?) := ⟨Hmd.out, fun j hj => by
            by_cases c : j = k
            · subst c; rw [Hs.out, Ht.out]
            · exact Hr.out.2 j (by omega)⟩
          clear hne HS0 j0 j1 j2 j3 j4 j5 HP
          go_wp2
          go_roundg g
          case measure => omega
          case rel => exact ⟨k + 1, by omega, by first | rfl | simp [hk63], Hn.out⟩
        · have Hend : Hid (P (.returned (.tuple #[.int .i64 k, .bool true])) wd) := HP.out k true wd (.inr ⟨k, rfl, rfl, Hr.out.2, by rw [Hs.out, Ht.out]; intro e; simp at e; exact hst e⟩) Hmd.out
          have h3 : ¬ s1 = t1 ∨ (s1 = t1 ∧ ¬ s2 = t2) ∨ (s1 = t1 ∧ s2 = t2 ∧ ¬ s3 = t3) := by
            by_cases a1 : s1 = t1
            · by_cases a2 : s2 = t2
              · exact .inr (.inr ⟨a1, a2, fun a3 => hst ⟨a1, a2, a3⟩⟩)
              · exact .inr (.inl ⟨a1, a2⟩)
            · exact .inl a1
          clear HP hst Hs Ht
          rcases h3 with a1 | ⟨rfl, a2⟩ | ⟨rfl, rfl, a3⟩
          all_goals
            refine wpOrd_take rfl (by kernel_rfl) (fun K hK => ?_); go_simp; refine hK _ _ ?_; clear hK K
            refine wpOrd_done ?_
            clear hne HS0 j0 j1 j2 j3 j4 j5
            go_wp2
            exact Hend.out
theorem below_zero (c : Int) (w : World) : Calls Try.prog 25 #[.int .i64 c] w fun e w' => e = .returned (.bool (decide (c < 0))) ∧ w' = w := by
  go_enter Try.func25, Try.ntmps25
  go_wp2
  go_ret
  exact ⟨rfl, rfl⟩

set_option maxHeartbeats 400000 in
theorem index_below (sa : Option Addr) (sb so n cap : Nat) (L : List Int) (hn : L.length = n) (h2 : n ≤ 2000) (w : World) (h : SIn w sa sb so L) :
    Calls Try.prog 51 #[.slice sa n cap, .func (.func 25) #[] #[]] w fun e w' => ∃ r : Int, e = .returned (.int .i64 r) ∧ (0 ≤ r ↔ ∃ (j : Nat) (c : Int), L[j]? = some c ∧ c < 0) ∧ w' = w := by
  have H := hid_of2 (And.intro h hn)
  clear h hn
  go_enter Try.func51, Try.ntmps51
  go_wp2
  go_loopg [8] n (fun g i wr => ∃ k : Nat, k + g = n ∧ i = .int .i64 k ∧ (∀ (j : Nat) (c : Int), j < k → L[j]? = some c → 0 ≤ c) ∧ wr = w)
  case atStart => exact ⟨0, by omega, rfl, fun j c hj => by omega, rfl⟩
  case round =>
    obtain ⟨k, hkg, rfl, hok, rfl⟩ := hrel
    have Hok := hid_of2 hok
    clear hok
    cases gk with
    | zero =>
      obtain rfl : k = n := by omega
      go_wp2
      go_ret
      refine ⟨-1, rfl, ⟨fun h => by omega, ?_⟩, rfl⟩
      rintro ⟨j, c, h1, h2⟩
      have hj : j < L.length := (List.getElem?_eq_some_iff.1 h1).1
      have := Hok.out j c (by have := H.out.2; omega) h1
      omega
    | succ g =>
      have hk : k < n := by omega
      have hk' : (k : Int) < (n : Int) := by omega
      have hkw : wrap64 ((k : Int) + 1) = (k : Int) + 1 := by unfold wrap64; omega
      obtain rfl := H.out.1.ha (by have := H.out.2; omega)
      obtain ⟨c, hc⟩ : ∃ c, L[k]? = some c := ⟨L[k]'(by have := H.out.2; omega), List.getElem?_eq_getElem _⟩
      have hcell := H.out.1.cells k c hc
      have Hc := hid_of2 hc
      clear hc
      by_cases c0 : c < 0
      · have hB := below_zero c wr
        rw [decide_eq_true c0] at hB
        have HB := hid_of2 hB
        clear hB
        go_wp2_with (fail)
        refine HB.out.mono ?_
        rintro e w2 ⟨rfl, rfl⟩
        go_wp2
        go_ret
        exact ⟨k, rfl, ⟨fun _ => ⟨k, c, Hc.out, c0⟩, fun _ => by omega⟩, rfl⟩
      · have hB := below_zero c wr
        rw [decide_eq_false c0] at hB
        have HB := hid_of2 hB
        clear hB
        go_wp2_with (fail)
        refine HB.out.mono ?_
        rintro e w2 ⟨rfl, rfl⟩
        go_wp2
        go_roundg g
        case measure => omega
        case rel =>
          refine ⟨k + 1, by omega, by first | rfl | (push_cast; rfl) | simp, fun j c' hj hc' => ?_, rfl⟩
          by_cases e : j = k
          · subst e
            rw [Hc.out] at hc'
            obtain rfl := Option.some.inj hc'
            omega
          · exact Hok.out j c' (by omega) hc'

theorem contains_below (sa : Option Addr) (sb so n cap : Nat) (L : List Int) (hn : L.length = n) (h2 : n ≤ 2000) (w : World) (h : SIn w sa sb so L) :
    Calls Try.prog 26 #[.slice sa n cap, .func (.func 25) #[] #[]] w fun e w' => ∃ r : Bool, e = .returned (.bool r) ∧ (r = true ↔ ∃ (j : Nat) (c : Int), L[j]? = some c ∧ c < 0) ∧ w' = w := by
  have HI := hid_of2 (index_below sa sb so n cap L hn h2 w h)
  clear h hn
  go_enter Try.func26, Try.ntmps26
  go_wp2_with (fail)
  refine HI.out.mono ?_
  rintro e w2 ⟨r, rfl, hr, rfl⟩
  have Hr := hid_of2 hr
  clear hr HI
  go_wp2
  go_ret
  exact ⟨decide (0 ≤ r), rfl, by rw [decide_eq_true_eq]; exact Hr.out, rfl⟩

theorem spec_allowed (sa : Option Addr) (sb so n cap : Nat) (L : List Int) (hn : L.length = n) (w : World) (h : SIn w sa sb so L) :
    Calls Try.prog 12 #[.slice sa n cap] w fun e w' => ∃ r : Bool, e = .returned (.bool r) ∧ (r = true ↔ ScOk L) ∧ w' = w := by
  have Hn := hid_of2 hn
  by_cases h2 : n ≤ 2000
  · have h2' : (n : Int) ≤ 2000 := by omega
    have HI := hid_of2 (contains_below sa sb so n cap L hn h2 w h)
    clear h hn
    go_enter Try.func12, Try.ntmps12
    go_wp2_with (fail)
    refine HI.out.mono ?_
    rintro e w2 ⟨r, rfl, hr, rfl⟩
    have Hr := hid_of2 hr
    clear hr HI
    go_wp2
    go_ret
    refine ⟨!r, by simp, ?_, rfl⟩
    constructor
    · intro h
      refine ⟨by rw [Hn.out]; exact h2, fun j c hc => ?_⟩
      by_cases c0 : 0 ≤ c
      · exact c0
      · have := Hr.out.2 ⟨j, c, hc, by omega⟩
        rw [this] at h
        cases h
    · intro h
      cases r with
      | false => rfl
      | true =>
        obtain ⟨j, c, h3, h4⟩ := Hr.out.1 rfl
        have := h.2 j c h3
        omega
  · have h2' : decide ((n : Int) ≤ 2000) = false := by simp; omega
    clear h hn
    go_enter Try.func12, Try.ntmps12
    go_wp2
    go_ret
    exact ⟨false, by first | rfl | (simp; done) | (simp; omega), ⟨(fun h => by cases h), fun h => by have := h.1; rw [Hn.out] at this; omega⟩, rfl⟩
theorem hard_calls (p : Prg) (l : Loc) (w : World) (h : PIn w p l) :
    Calls Try.prog 23 #[.agg #[.slice l.ra p.rl l.rc, .slice l.ca p.cl l.cc]] w (Says (p.Ok 8000 10) w) := by
  have H : Hid (PIn w p l) := h
  clear h
  go_enter Try.func23, Try.ntmps23
  go_wp2_with (fail)
  have m0 : More w (w.alloc (.cells #[.slice l.ra p.rl l.rc, .slice l.ca p.cl l.cc] 25)) := (More.refl _).alloc _ _
  refine (allowed_calls l.ra p.rl l.rc l.ca p.cl l.cc 8000 10 l.rb l.ro l.cb l.co p.log p.sec p.ins _ 8000 rfl (by omega) H.out.hr (H.out.regs.more m0) H.out.hc (H.out.code.more m0)).mono ?_
  rintro e w1 ⟨r, rfl, h1, m1⟩
  have H1 : Hid ((r = true ↔ p.Ok 8000 10) ∧ More w w1) := ⟨h1, m0.trans m1⟩
  clear h1 m1 m0
  go_wp2
  go_ret
  exact ⟨r, rfl, H1.out.1, H1.out.2⟩
theorem heap_alloc2_last (w : World) (a b : Obj) : ((w.alloc a).alloc b).heap[w.heap.size + 1]? = some b := by
  have := heap_alloc_last (w.alloc a) b
  rwa [show (w.alloc a).heap.size = w.heap.size + 1 from by simp] at this
theorem size_alloc2 (w : World) (a b : Obj) : w.heap.size + 1 < ((w.alloc a).alloc b).heap.size := by simp

theorem zrow : ∃ z : Array Value, (∀ w, (zeroValue 52).run Try.prog w = .ok (.agg z) w) ∧ (∀ w, (Instr.build 52 #[]).run Try.prog w = .ok (.agg z) w) ∧ MC z (.slice none 0 0) (.slice none 0 0) (ms0 0) ∧ (Try.prog.info? 52).map (·.size) = some 411 := by
  obtain ⟨h1, h2⟩ := zero_of_info info70
  exact ⟨_, h1, fun w => run_build w 52 #[] _ (by simpa using built70_none), rowOf_mc _ _ (ms0 0), h2⟩

set_option maxHeartbeats 1000000 in
theorem seq_new_form (p : Prg) (l : Loc) (ma : Option Addr) (ml mc mb mo : Nat) (A : Nat → Option Addr) (L C : Nat → Nat) (fuel : Int) (w : World) (h : PIn w p l) (hma : 0 < ml → ma = some ⟨mb, mo, none⟩) (hm : ListsAt w mb mo ml A L C) (hbad : ¬ (p.Ok 8000 10 ∧ FitsOk p.rl p.log ml L)) :
    Calls Try.prog 11 #[.agg #[.slice l.ra p.rl l.rc, .slice l.ca p.cl l.cc], .slice ma ml mc, .int .i64 fuel] w fun e w' => ∃ z, MC z (.slice none 0 0) (.slice none 0 0) (ms0 0) ∧ e = .returned (.tuple #[.agg z, .int .i64 2]) ∧ More w w' := by
  obtain ⟨z, z1, z2, z3, z4⟩ := zrow
  have H : Hid (PIn w p l ∧ (0 < ml → ma = some ⟨mb, mo, none⟩) ∧ ListsAt w mb mo ml A L C ∧ ¬ (p.Ok 8000 10 ∧ FitsOk p.rl p.log ml L)) := ⟨h, hma, hm, hbad⟩
  have Hz : Hid (MC z (.slice none 0 0) (.slice none 0 0) (ms0 0) ∧ (Try.prog.info? 52).map (·.size) = some 411 ∧ z.size = 411) := ⟨z3, z4, z3.size rfl⟩
  obtain ⟨P, hP⟩ : ∃ P, P = fun (e : Ending) (w' : World) => ∃ z, MC z (.slice none 0 0) (.slice none 0 0) (ms0 0) ∧ e = .returned (.tuple #[.agg z, .int .i64 2]) ∧ More w w' := ⟨_, rfl⟩
  rw [← hP]
  have HP : Hid (P = fun (e : Ending) (w' : World) => ∃ z, MC z (.slice none 0 0) (.slice none 0 0) (ms0 0) ∧ e = .returned (.tuple #[.agg z, .int .i64 2]) ∧ More w w') := hP
  clear h hma hm z3 z4 hP hbad
  go_enter Try.func11, Try.ntmps11
  go_wp2_with (fail)
  refine (hard_calls p l _ (H.out.1.more (((More.refl _).alloc _ _).alloc _ _))).mono ?_
  rintro e w1 ⟨r1, rfl, h1, m1⟩
  have hrow : w1.heap[w.heap.size + 1]? = some (.cells z 52 (0, 0)) := by rw [m1.block (w.heap.size + 1) (size_alloc2 _ _ _)]; exact heap_alloc2_last _ _ _
  have e0 : w1.cell? ⟨w.heap.size, 0, none⟩ = some (.slice l.ra p.rl l.rc) := m1.cell (by go_simp)
  have e1 : w1.cell? ⟨w.heap.size, 1, none⟩ = some (.slice l.ca p.cl l.cc) := m1.cell (by go_simp)
  have Hm1 : Hid (More w w1) := (((More.refl _).alloc _ _).alloc _ _).trans m1
  clear m1
  cases r1 with
  | false =>
    clear h1
    go_wp2_with (refine wpList_store_row rfl 52 (.tmp 6) (.tmp 20) rfl (w.heap.size + 1) z rfl rfl 52 z hrow (by rw [Hz.out.2.2]; exact Hz.out.2.1) rfl (Hz.out.1.one rfl rfl rfl rfl rfl) ?_; rw [setRow_self _ _ _ _ _ hrow])
    refine bodyPost_ret (results_row_tmp rfl _ _ (w.heap.size + 1) 52 z (0, 0) _ rfl hrow Try.underlying52 rfl (by rw [Hz.out.2.2]; exact Hz.out.2.1)) rfl ?_
    rw [HP.out]
    exact ⟨z, Hz.out.1, rfl, Hm1.out⟩
  | true =>
    have HA : Hid (p.Ok 8000 10) := h1.1 rfl
    clear h1
    go_wp2_with (fail)
    refine (lfits_calls l.ra p.rl l.rc l.ca p.cl l.cc ma ml mc l.rb l.ro mb mo p.log p.sec A L C _ H.out.1.hr (H.out.1.regs.more Hm1.out) H.out.2.1 (H.out.2.2.1.more Hm1.out)).mono ?_
    rintro e w2 ⟨r2, rfl, h2, m2⟩
    have Hm2 : Hid (More w w2) := Hm1.out.trans m2
    have hrow2 : w2.heap[w.heap.size + 1]? = some (.cells z 52 (0, 0)) := by rw [m2.block (w.heap.size + 1) (by rcases Nat.lt_or_ge (w.heap.size + 1) w1.heap.size with h' | h'; exact h'; rw [Array.getElem?_eq_none h'] at hrow; cases hrow)]; exact hrow
    clear hrow
    have hrow := hrow2
    clear m2 e0 e1 hrow2
    cases r2 with
    | true => exact absurd ⟨HA.out, h2.1 rfl⟩ H.out.2.2.2
    | false =>
      clear h2
      go_wp2_with (refine wpList_store_row rfl 52 (.tmp 6) (.tmp 20) rfl (w.heap.size + 1) z rfl rfl 52 z hrow (by rw [Hz.out.2.2]; exact Hz.out.2.1) rfl (Hz.out.1.one rfl rfl rfl rfl rfl) ?_; rw [setRow_self _ _ _ _ _ hrow])
      refine bodyPost_ret (results_row_tmp rfl _ _ (w.heap.size + 1) 52 z (0, 0) _ rfl hrow Try.underlying52 rfl (by rw [Hz.out.2.2]; exact Hz.out.2.1)) rfl ?_
      rw [HP.out]
      exact ⟨z, Hz.out.1, rfl, Hm2.out⟩

set_option maxHeartbeats 1000000 in
theorem seq_new_range (p : Prg) (l : Loc) (ma : Option Addr) (ml mc mb mo : Nat) (A : Nat → Option Addr) (L C : Nat → Nat) (fuel : Int) (w : World) (h : PIn w p l) (hma : 0 < ml → ma = some ⟨mb, mo, none⟩) (hm : ListsAt w mb mo ml A L C) (hok : p.Ok 8000 10) (hfit : FitsOk p.rl p.log ml L) (hf : fuel < 0 ∨ 40000 < fuel) :
    Calls Try.prog 11 #[.agg #[.slice l.ra p.rl l.rc, .slice l.ca p.cl l.cc], .slice ma ml mc, .int .i64 fuel] w fun e w' => ∃ z, MC z (.slice none 0 0) (.slice none 0 0) (ms0 0) ∧ e = .returned (.tuple #[.agg z, .int .i64 3]) ∧ More w w' := by
  have hb3 : p.Ok 8000 10 ∧ FitsOk p.rl p.log ml L ∧ (fuel < 0 ∨ 40000 < fuel) := ⟨hok, hfit, hf⟩
  clear hok hfit hf
  obtain ⟨z, z1, z2, z3, z4⟩ := zrow
  have H : Hid (PIn w p l ∧ (0 < ml → ma = some ⟨mb, mo, none⟩) ∧ ListsAt w mb mo ml A L C ∧ (p.Ok 8000 10 ∧ FitsOk p.rl p.log ml L ∧ (fuel < 0 ∨ 40000 < fuel))) := ⟨h, hma, hm, hb3⟩
  have Hz : Hid (MC z (.slice none 0 0) (.slice none 0 0) (ms0 0) ∧ (Try.prog.info? 52).map (·.size) = some 411 ∧ z.size = 411) := ⟨z3, z4, z3.size rfl⟩
  obtain ⟨P, hP⟩ : ∃ P, P = fun (e : Ending) (w' : World) => ∃ z, MC z (.slice none 0 0) (.slice none 0 0) (ms0 0) ∧ e = .returned (.tuple #[.agg z, .int .i64 3]) ∧ More w w' := ⟨_, rfl⟩
  rw [← hP]
  have HP : Hid (P = fun (e : Ending) (w' : World) => ∃ z, MC z (.slice none 0 0) (.slice none 0 0) (ms0 0) ∧ e = .returned (.tuple #[.agg z, .int .i64 3]) ∧ More w w') := hP
  clear h hma hm z3 z4 hP hb3
  go_enter Try.func11, Try.ntmps11
  go_wp2_with (fail)
  refine (hard_calls p l _ (H.out.1.more (((More.refl _).alloc _ _).alloc _ _))).mono ?_
  rintro e w1 ⟨r1, rfl, h1, m1⟩
  have hrow : w1.heap[w.heap.size + 1]? = some (.cells z 52 (0, 0)) := by rw [m1.block (w.heap.size + 1) (size_alloc2 _ _ _)]; exact heap_alloc2_last _ _ _
  have e0 : w1.cell? ⟨w.heap.size, 0, none⟩ = some (.slice l.ra p.rl l.rc) := m1.cell (by go_simp)
  have e1 : w1.cell? ⟨w.heap.size, 1, none⟩ = some (.slice l.ca p.cl l.cc) := m1.cell (by go_simp)
  have Hm1 : Hid (More w w1) := (((More.refl _).alloc _ _).alloc _ _).trans m1
  clear m1
  obtain rfl : r1 = true := h1.2 H.out.2.2.2.1
  clear h1
  go_wp2_with (fail)
  refine (lfits_calls l.ra p.rl l.rc l.ca p.cl l.cc ma ml mc l.rb l.ro mb mo p.log p.sec A L C _ H.out.1.hr (H.out.1.regs.more Hm1.out) H.out.2.1 (H.out.2.2.1.more Hm1.out)).mono ?_
  rintro e w2 ⟨r2, rfl, h2, m2⟩
  have Hm2 : Hid (More w w2) := Hm1.out.trans m2
  have hrow2 : w2.heap[w.heap.size + 1]? = some (.cells z 52 (0, 0)) := by rw [m2.block (w.heap.size + 1) (by rcases Nat.lt_or_ge (w.heap.size + 1) w1.heap.size with h' | h'; exact h'; rw [Array.getElem?_eq_none h'] at hrow; cases hrow)]; exact hrow
  clear hrow
  have hrow := hrow2
  obtain rfl : r2 = true := h2.2 H.out.2.2.2.2.1
  clear m2 e0 e1 hrow2 h2
  by_cases hf : fuel < 0
  · go_wp2_with (refine wpList_store_row rfl 52 (.tmp 6) (.tmp 27) rfl (w.heap.size + 1) z rfl rfl 52 z hrow (by rw [Hz.out.2.2]; exact Hz.out.2.1) rfl (Hz.out.1.one rfl rfl rfl rfl rfl) ?_; rw [setRow_self _ _ _ _ _ hrow])
    refine bodyPost_ret (results_row_tmp rfl _ _ (w.heap.size + 1) 52 z (0, 0) _ rfl hrow Try.underlying52 rfl (by rw [Hz.out.2.2]; exact Hz.out.2.1)) rfl ?_
    rw [HP.out]
    exact ⟨z, Hz.out.1, rfl, Hm2.out⟩
  · have hf2 : 40000 < fuel := by have := H.out.2.2.2.2.2; omega
    have hf1 : decide (fuel < 0) = false := by simp; omega
    go_wp2_with (refine wpList_store_row rfl 52 (.tmp 6) (.tmp 27) rfl (w.heap.size + 1) z rfl rfl 52 z hrow (by rw [Hz.out.2.2]; exact Hz.out.2.1) rfl (Hz.out.1.one rfl rfl rfl rfl rfl) ?_; rw [setRow_self _ _ _ _ _ hrow])
    refine bodyPost_ret (results_row_tmp rfl _ _ (w.heap.size + 1) 52 z (0, 0) _ rfl hrow Try.underlying52 rfl (by rw [Hz.out.2.2]; exact Hz.out.2.1)) rfl ?_
    rw [HP.out]
    exact ⟨z, Hz.out.1, rfl, Hm2.out⟩
theorem MC.set {c : Array Value} {rv cv rv' cv' : Value} {x x' : Ms} (h : MC c rv cv x) (j : Nat) (v : Value) (hj : j < 411) (ht : x'.tl = x.tl) (hx : ∀ i, i < 411 → cellF rv' cv' x' i = if i = j then v else cellF rv cv x i) : MC (c.setIfInBounds j v) rv' cv' x' := by
  refine ⟨by simp [h.big], fun i hi => ?_, fun i hi => ?_⟩
  · rw [hx i hi, Array.getElem?_setIfInBounds]
    by_cases e : i = j
    · subst e
      rw [if_pos rfl, if_pos rfl, if_pos (by have := h.big; omega)]
    · rw [if_neg (fun h => e h.symm), if_neg e]
      exact h.at_ i hi
  · rw [Array.getElem?_setIfInBounds, if_neg (by omega), ht]
    exact h.tail i hi
theorem MC.first {z : Array Value} (h : MC z (.slice none 0 0) (.slice none 0 0) (ms0 0)) (rv cv : Value) (fuel : Int) : MC (((z.setIfInBounds 0 rv).setIfInBounds 1 cv).setIfInBounds 402 (.int .i64 fuel)) rv cv (ms0 fuel) := by
  have h1 : MC (z.setIfInBounds 0 rv) rv (.slice none 0 0) (ms0 0) := h.set 0 rv (by omega) rfl fun i hi => by unfold cellF; by_cases e : i = 0 <;> simp [e]
  have h2 : MC ((z.setIfInBounds 0 rv).setIfInBounds 1 cv) rv cv (ms0 0) := h1.set 1 cv (by omega) rfl fun i hi => by unfold cellF; by_cases e : i = 1 <;> simp [e]
  exact h2.set 402 _ (by omega) rfl fun i hi => by unfold cellF ms0; by_cases e : i = 402 <;> simp [e]

theorem info2s : (Try.prog.info? 2).map (·.size) = some 1 := by kernel_rfl
theorem More.trans_setRow {w w' : World} {g : Nat} {c : Array Value} (h : More w w') (hg : w.heap.size ≤ g) : More w (w'.setRow g c) :=
  Below.trans h ⟨rfl, rfl, rfl, by simp [World.setRow], fun k hk => setRow_other w' g k c (by omega)⟩

set_option maxHeartbeats 2000000 in
theorem seq_new (p : Prg) (l : Loc) (m : Mem) (ml : MLoc) (fuel : Int) (w : World) (h : PIn w p l) (hm : MIn w m ml) (hok : p.Ok 8000 10) (hfit : FitsOk p.rl p.log m.ml m.len) (hlen : ∀ i, i < m.ml → 0 < m.len i ∧ m.len i ≤ 64) (f0 : 0 ≤ fuel) (f1 : fuel ≤ 40000) :
    Calls Try.prog 11 #[.agg #[.slice l.ra p.rl l.rc, .slice l.ca p.cl l.cc], .slice ml.ma m.ml ml.mc, .int .i64 fuel] w fun e w' => ∃ (c : Array Value) (W S : Nat → Int), e = .returned (.tuple #[.agg c, .int .i64 0]) ∧ MC c (.slice l.ra p.rl l.rc) (.slice l.ca p.cl l.cc) { ms0 fuel with wd := W, st := S } ∧
      (∀ j, j ≤ m.ml → S j = (baseN m.len j : Int)) ∧ (∀ j, j < m.ml → ∀ i, i < m.len j → W (baseN m.len j + i) = m.wd j i) ∧ More w w' := by
  obtain ⟨z, z1, z2, z3, z4⟩ := zrow
  obtain ⟨ma, mb, mo, mc, A, C0, gb, go⟩ := ml
  have H : Hid (PIn w p l ∧ MIn w m ⟨ma, mb, mo, mc, A, C0, gb, go⟩ ∧ p.Ok 8000 10 ∧ FitsOk p.rl p.log m.ml m.len ∧ (∀ i, i < m.ml → 0 < m.len i ∧ m.len i ≤ 64)) := ⟨h, hm, hok, hfit, hlen⟩
  have Hz : Hid (MC z (.slice none 0 0) (.slice none 0 0) (ms0 0) ∧ (Try.prog.info? 52).map (·.size) = some 411 ∧ z.size = 411) := ⟨z3, z4, z3.size rfl⟩
  have hzs : z.size = 411 := z3.size rfl
  have Hc : Hid (MC (((z.setIfInBounds 0 (.slice l.ra p.rl l.rc)).setIfInBounds 1 (.slice l.ca p.cl l.cc)).setIfInBounds 402 (.int .i64 fuel)) (.slice l.ra p.rl l.rc) (.slice l.ca p.cl l.cc) (ms0 fuel)) := z3.first _ _ _
  obtain ⟨P, hP⟩ : ∃ P, P = fun (e : Ending) (w' : World) => ∃ (c : Array Value) (W S : Nat → Int), e = .returned (.tuple #[.agg c, .int .i64 0]) ∧ MC c (.slice l.ra p.rl l.rc) (.slice l.ca p.cl l.cc) { ms0 fuel with wd := W, st := S } ∧
      (∀ j, j ≤ m.ml → S j = (baseN m.len j : Int)) ∧ (∀ j, j < m.ml → ∀ i, i < m.len j → W (baseN m.len j + i) = m.wd j i) ∧ More w w' := ⟨_, rfl⟩
  rw [← hP]
  have HP : Hid (P = fun (e : Ending) (w' : World) => ∃ (c : Array Value) (W S : Nat → Int), e = .returned (.tuple #[.agg c, .int .i64 0]) ∧ MC c (.slice l.ra p.rl l.rc) (.slice l.ca p.cl l.cc) { ms0 fuel with wd := W, st := S } ∧
      (∀ j, j ≤ m.ml → S j = (baseN m.len j : Int)) ∧ (∀ j, j < m.ml → ∀ i, i < m.len j → W (baseN m.len j + i) = m.wd j i) ∧ More w w') := hP
  dsimp only
  obtain ⟨n, hn⟩ : ∃ n, m.ml = n := ⟨_, rfl⟩
  rw [hn]
  have Hn : Hid (m.ml = n) := hn
  clear h hm hok hfit hlen z3 z4 hP hn
  have f2 : ¬ fuel < 0 := by omega
  have f3 : ¬ 40000 < fuel := by omega
  have f2' : decide (fuel < 0) = false := by simp; omega
  have f3' : decide (40000 < fuel) = false := by simp; omega
  go_enter Try.func11, Try.ntmps11
  go_wp2_with (fail)
  refine (hard_calls p l _ (H.out.1.more (((More.refl _).alloc _ _).alloc _ _))).mono ?_
  rintro e w1 ⟨r1, rfl, h1, m1⟩
  obtain rfl : r1 = true := h1.2 H.out.2.2.1
  have hrow1 : w1.heap[w.heap.size + 1]? = some (.cells z 52 (0, 0)) := by rw [m1.block (w.heap.size + 1) (size_alloc2 _ _ _)]; exact heap_alloc2_last _ _ _
  have e0 : w1.cell? ⟨w.heap.size, 0, none⟩ = some (.slice l.ra p.rl l.rc) := m1.cell (by go_simp)
  have e1 : w1.cell? ⟨w.heap.size, 1, none⟩ = some (.slice l.ca p.cl l.cc) := m1.cell (by go_simp)
  have Hm1 : Hid (More w w1) := (((More.refl _).alloc _ _).alloc _ _).trans m1
  have s1 : w.heap.size + 2 ≤ w1.heap.size := by have := m1.size; have := size_alloc2 w (.cells #[.slice l.ra p.rl l.rc, .slice l.ca p.cl l.cc] 25) (.cells z 52); omega
  clear m1 h1
  go_wp2_with (fail)
  refine (lfits_calls l.ra p.rl l.rc l.ca p.cl l.cc ma n mc l.rb l.ro mb mo p.log p.sec A m.len C0 _ H.out.1.hr (H.out.1.regs.more Hm1.out) (by rw [← Hn.out]; exact H.out.2.1.hm) (by rw [← Hn.out]; exact H.out.2.1.lists.more Hm1.out)).mono ?_
  rintro e w2 ⟨r2, rfl, h2, m2⟩
  obtain rfl : r2 = true := h2.2 (by rw [← Hn.out]; exact H.out.2.2.2.1)
  have hrow2 : w2.heap[w.heap.size + 1]? = some (.cells z 52 (0, 0)) := by rw [m2.block (w.heap.size + 1) (by omega)]; exact hrow1
  have e0' := m2.cell e0
  have e1' := m2.cell e1
  have Hm2 : Hid (More w w2) := Hm1.out.trans m2
  have s2 : w.heap.size + 2 ≤ w2.heap.size := by have := m2.size; omega
  clear m2 h2 e0 e1 hrow1
  go_wp2_with (refine wpList_store_row rfl 52 (.tmp 8) (.tmp 30) rfl w2.heap.size (((z.setIfInBounds 0 (.slice l.ra p.rl l.rc)).setIfInBounds 1 (.slice l.ca p.cl l.cc)).setIfInBounds 402 (.int .i64 fuel)) rfl rfl 52 z (heap_alloc_last _ _) (by rw [Hc.out.size rfl]; exact Hz.out.2.1) (by rw [Hc.out.size rfl, Hz.out.2.2]) (Hc.out.one rfl rfl rfl rfl rfl) ?_; rw [World.setRow_alloc_new])
  have HN0 : Hid (Nw w (w2.alloc (.cells (((z.setIfInBounds 0 (.slice l.ra p.rl l.rc)).setIfInBounds 1 (.slice l.ca p.cl l.cc)).setIfInBounds 402 (.int .i64 fuel)) 52)) (.slice l.ra p.rl l.rc) (.slice l.ca p.cl l.cc) w2.heap.size m fuel z 0 (fun _ => 0) (fun _ => 0)) :=
    ⟨Hm2.out.alloc _ _, s2, ⟨_, heap_alloc_last _ _, Hc.out⟩, fun j hj => by obtain rfl : j = 0 := by omega
                                                                             rfl, fun j hj => by omega, by rw [(World.grownBy_alloc w2 _ none).block _ (by omega) (by simp)]; exact hrow2⟩
  clear hrow2 e0' e1' hzs
  go_loopg [33] n (fun q i wr => ∃ (k : Nat) (W S : Nat → Int), k + q = n ∧ i = .int .i64 k ∧ Nw w wr (.slice l.ra p.rl l.rc) (.slice l.ca p.cl l.cc) w2.heap.size m fuel z k W S)
  case atStart => exact ⟨0, _, _, by omega, rfl, HN0.out⟩
  case round =>
    obtain ⟨k, W, S, hkq, rfl, hN⟩ := hrel
    have HNk : Hid (Nw w wr (.slice l.ra p.rl l.rc) (.slice l.ca p.cl l.cc) w2.heap.size m fuel z k W S) := hN
    clear hN HN0
    cases gk with
    | zero =>
      obtain rfl : k = n := by omega
      obtain ⟨c, hh, mc⟩ := HNk.out.at_.out
      have Hcc : Hid (MC c (.slice l.ra p.rl l.rc) (.slice l.ca p.cl l.cc) { ms0 fuel with wd := W, st := S }) := mc
      have hres := HNk.out.res
      have i70 : Hid ((Try.prog.info? 52).map (·.size) = some c.size) := by rw [show Hid ((Try.prog.info? 52).map (·.size) = some c.size) = ((Try.prog.info? 52).map (·.size) = some c.size) from rfl, Hcc.out.size rfl]; exact Hz.out.2.1
      clear mc
      go_wp2_with (first
        | (refine wpList_load_row rfl 52 (.tmp 8) rfl w2.heap.size rfl 52 c (0, 0) _ hh Try.underlying52 rfl i70.out ?_)
        | (refine wpList_store_row rfl 52 (.tmp 6) (.tmp 57) rfl (w.heap.size + 1) c rfl rfl 52 z hres i70.out (by rw [Hcc.out.size rfl, Hz.out.2.2]) (Hcc.out.one rfl rfl rfl rfl rfl) ?_))
      refine bodyPost_ret (results_row_tmp rfl _ _ (w.heap.size + 1) 52 c (0, 0) _ rfl (setRow_heap _ _ _ _ _ _ hres) Try.underlying52 rfl i70.out) rfl ?_
      rw [HP.out]
      refine ⟨c, W, S, rfl, Hcc.out, by rw [Hn.out]; exact HNk.out.st, by rw [Hn.out]; exact HNk.out.wd, ?_⟩
      exact HNk.out.more.trans_setRow (by omega)
    | succ q =>
      have hk : k < n := by omega
      have hk' : (k : Int) < (n : Int) := by omega
      have hk0 : (0 : Int) ≤ (k : Int) := by omega
      have Hk : Hid (k < m.ml ∧ m.ml ≤ 6) := ⟨by rw [Hn.out]; exact hk, by have := H.out.2.2.2.1; have h1 := this.2.1; have h2 := this.1.1; omega⟩
      obtain rfl : ma = some ⟨mb, mo, none⟩ := H.out.2.1.hm (by have := Hk.out; omega)
      have q1 := (H.out.2.1.lists.more HNk.out.more) k Hk.out.1
      dsimp only at q1
      rw [show A k = some ⟨gb k, go k, none⟩ from H.out.2.1.hg k Hk.out.1 (H.out.2.2.2.2 k Hk.out.1).1] at q1
      have Hb : Hid (baseN m.len (k + 1) ≤ 384 ∧ 0 < m.len k ∧ m.len k ≤ 64) := by
        refine ⟨?_, H.out.2.2.2.2 k Hk.out.1⟩
        have := baseN_le m.len (k + 1) (fun j hj => (H.out.2.2.2.2 j (by have := Hk.out; omega)).2)
        have := Hk.out
        omega
      have t0 : wr.cell? ⟨w2.heap.size, 404 + k, none⟩ = some (.int .i64 (baseN m.len k : Int)) := by have := (HNk.out.at_.st k (by have := Hk.out; omega)).1; dsimp only at this; rw [HNk.out.st k (Nat.le_refl _)] at this; exact this
      have Hd : Hid (∀ j, j < m.len k → Wr wr w2.heap.size (17 + (baseN m.len k + j)) (.int .i64 (W (baseN m.len k + j)))) := fun j hj => HNk.out.at_.wd _ (by have := Hb.out; simp only [baseN] at this; omega)
      obtain ⟨t1, f1'⟩ := HNk.out.at_.st (k + 1) (by have := Hk.out; omega)
      dsimp only at t1
      have Hstep : Hid (∀ v, v = (baseN m.len (k + 1) : Int) → ∃ W' S', Nw w (((wr.drew).setCells w2.heap.size (17 + baseN m.len k) (intsN (m.wd k) (m.len k))).setCell ⟨w2.heap.size, 404 + (k + 1), none⟩ (.int .i64 v)) (.slice l.ra p.rl l.rc) (.slice l.ca p.cl l.cc) w2.heap.size m fuel z (k + 1) W' S') := fun v hv => HNk.out.step (by have := Hk.out; omega) Hb.out.1 v hv
      have Hsrc : Hid (∀ j v, (intsN (m.wd k) (m.len k))[j]? = some v → wr.drew.cell? ((⟨gb k, go k, none⟩ : Addr).add j) = some v) := by
        intro j u hu
        have hj : j < m.len k := by have := (List.getElem?_eq_some_iff.1 hu).1; rw [intsN_length] at this; exact this
        rw [intsN_at _ _ j hj] at hu
        rw [Go.WideShapes.add_plain, ← Option.some.inj hu]
        exact HNk.out.more.drew.cell (H.out.2.1.words k Hk.out.1 j hj)
      obtain ⟨lo, hlo⟩ : ∃ lo, baseN m.len k = lo := ⟨_, rfl⟩
      obtain ⟨r, hr⟩ : ∃ r, m.len k = r := ⟨_, rfl⟩
      have hhi : baseN m.len (k + 1) = lo + r := by simp only [baseN, hlo, hr]
      rw [hhi, hr] at Hb
      rw [hhi, hlo, hr] at Hstep
      rw [hr] at Hsrc q1
      rw [hlo] at t0
      rw [hlo, hr] at Hd
      have Hcl : Hid (∀ j v, j < r → wr.drew.cell? ⟨w2.heap.size, 404 + k, none⟩ = some v → True) := fun _ _ _ _ => trivial
      clear hlo hr hhi
      have b1 : (lo : Int) ≤ 384 := by have := Hb.out; omega
      have b3 : (0 : Int) ≤ (lo : Int) := by omega
      have b6 : ¬ 384 = lo := by have := Hb.out; omega
      have hk7 : (k : Int) < 7 := by have := Hk.out; omega
      have hk17 : (k : Int) + 1 < 7 := by have := Hk.out; omega
      have hk10 : (0 : Int) ≤ (k : Int) + 1 := by omega
      have hkw : wrap64 ((k : Int) + 1) = (k : Int) + 1 := by unfold wrap64; have := Hk.out; omega
      have hlr : wrap64 ((lo : Int) + (r : Int)) = (lo : Int) + (r : Int) := by unfold wrap64; have := Hb.out; omega
      have ht : ((k : Int) + 1).toNat = k + 1 := by omega
      have hwr := wrapEq
      obtain ⟨y1, hy1⟩ : ∃ y, S (k + 1) = y := ⟨_, rfl⟩
      rw [hy1] at t1
      clear hy1
      have a404 : (wr.drew.setCells w2.heap.size (17 + lo) (intsN (m.wd k) r)).cell? ⟨w2.heap.size, 404 + k, none⟩ = some (.int .i64 (lo : Int)) := by
        rw [World.cell?_setCells_out _ _ _ _ _ (fun _ _ => .inr (by rw [intsN_length]; have := Hb.out; dsimp only; omega))]; exact t0
      have a405 : (wr.drew.setCells w2.heap.size (17 + lo) (intsN (m.wd k) r)).cell? ⟨w2.heap.size, 404 + (k + 1), none⟩ = some (.int .i64 y1) := by
        rw [World.cell?_setCells_out _ _ _ _ _ (fun _ _ => .inr (by rw [intsN_length]; have := Hb.out; dsimp only; omega))]; exact t1
      have g405 : (wr.drew.setCells w2.heap.size (17 + lo) (intsN (m.wd k) r)).frozen? ⟨w2.heap.size, 404 + (k + 1), none⟩ = false := by
        rw [World.frozen?_setCells]; exact f1'
      obtain ⟨SS, HS⟩ : ∃ S : World → Prop, Hid (∀ w', S w' ↔ w'.cell? ⟨w2.heap.size, 404 + k, none⟩ = some (.int .i64 (lo : Int))) := ⟨_, fun _ => Iff.rfl⟩
      have kl : ∀ i : { w' // SS w' }, i.val.cell? ⟨w2.heap.size, 404 + k, none⟩ = some (.int .i64 (lo : Int)) := fun i => (HS.out _).1 i.property
      have hne : Nonempty { w' // SS w' } := ⟨⟨wr, (HS.out _).2 t0⟩⟩
      go_wp2_with (fail)
      refine wp_region_ord (S := SS) [(0, true), (1, true), (2, true), (3, true), (4, true), (5, true), (6, true), (7, true), (8, true), (9, true), (10, true), (11, true), (12, true), (13, true), (16, true), (14, false), (15, true), (17, true), (18, false)] (by kernel_rfl) (by kernel_rfl) (by kernel_rfl) ?_ ?_
      · exact (HS.out _).2 t0
      iterate 15 (refine wpOrd_take rfl (by kernel_rfl) (fun K hK => ?_); go_simp; refine hK _ _ ?_; clear hK K)
      refine wpOrd_busy rfl (by kernel_rfl) (fun K hK => ?_)
      refine wp_copy_cells (.tmp 50) (.tmp 51) 67 67 rfl 2 Try.underlying67 info2s w2.heap.size (17 + lo) (384 - lo) (384 - lo) ⟨gb k, go k, none⟩ r (C0 k) rfl rfl (intsN (m.wd k) r) (by rw [intsN_length]; have := Hb.out; simp only [Nat.min_def]; split <;> omega) Hsrc.out (fun j hj => ?_) (fun j hj => ?_) (fun v hv => ?_) ?_
      · rw [intsN_length] at hj; rw [Nat.add_assoc]; rw [(Hd.out j hj).kept (grown_drew wr none) (by simp) |>.1]; rfl
      · rw [intsN_length] at hj; rw [Nat.add_assoc]; exact ((Hd.out j hj).kept (grown_drew wr none) (by simp)).2
      · simp [intsN] at hv; obtain ⟨j, _, rfl⟩ := hv; rfl
      rw [intsN_length]
      go_simp
      refine hK _ _ ((HS.out _).2 a404) ?_; clear hK K
      iterate 2 (refine wpOrd_take rfl (by kernel_rfl) (fun K hK => ?_); go_simp; refine hK _ _ ?_; clear hK K)
      refine wpOrd_busy rfl (by kernel_rfl) (fun K hK => ?_); go_simp
      refine hK _ _ ((HS.out _).2 (by go_simp)) ?_; clear hK K
      refine wpOrd_done ?_
      clear kl hne
      go_wp2
      go_roundg q
      case measure => omega
      case rel =>
        obtain ⟨W', S', hst⟩ := Hstep.out ((lo : Int) + (r : Int)) (by push_cast; rfl)
        exact ⟨k + 1, W', S', by omega, by first | rfl | (push_cast; rfl), hst⟩
theorem hid_of {P : Prop} (h : P) : Hid P := h
set_option maxHeartbeats 1000000 in
theorem spec_run_wrong (p : Prg) (l : Loc) (ma : Option Addr) (ml mc : Nat) (sv : Value) (fuel code : Int) (w : World) (hc : ¬ code = 0)
    (hnew : ∀ w1, More w w1 → Calls Try.prog 11 #[.agg #[.slice l.ra p.rl l.rc, .slice l.ca p.cl l.cc], .slice ma ml mc, Value.int .i64 fuel] w1 fun e w' => ∃ z, MC z (.slice none 0 0) (.slice none 0 0) (ms0 0) ∧ e = .returned (.tuple #[.agg z, Value.int .i64 code]) ∧ More w1 w') :
    Calls Try.prog 7 #[.agg #[.slice l.ra p.rl l.rc, .slice l.ca p.cl l.cc], .slice ma ml mc, sv, Value.int .i64 fuel] w fun e w' => e = .returned (.tuple #[.agg #[Value.int .i64 0, Value.int .i64 0, Value.int .i64 0, .slice none 0 0, .slice none 0 0], Value.int .i64 code]) ∧ More w w' := by
  obtain ⟨z, z1, z2, z3, z4⟩ := zrow
  have HN := hid_of hnew
  have Hz : Hid (MC z (.slice none 0 0) (.slice none 0 0) (ms0 0) ∧ (Try.prog.info? 52).map (·.size) = some 411 ∧ z.size = 411) := ⟨z3, z4, z3.size rfl⟩
  clear hnew z3 z4
  go_enter Try.func7, Try.ntmps7
  go_wp2_with (fail)
  refine (HN.out _ (((More.refl _).alloc _ _).alloc _ _)).mono ?_
  rintro e w1 ⟨c, mcc, rfl, m1⟩
  have Hc : Hid (MC c (.slice none 0 0) (.slice none 0 0) (ms0 0)) := mcc
  have s1 : w.heap.size + 2 ≤ w1.heap.size := by have := m1.size; have := size_alloc2 w (.cells #[.slice l.ra p.rl l.rc, .slice l.ca p.cl l.cc] 25) (.cells #[Value.int .i64 0, Value.int .i64 0, Value.int .i64 0, .slice none 0 0, .slice none 0 0] 34); omega
  have Hm1 : Hid (More w w1) := (((More.refl _).alloc _ _).alloc _ _).trans m1
  obtain ⟨w3, hw3⟩ : ∃ w3, w3 = w1.alloc (.cells c 52) := ⟨_, rfl⟩
  have Hw3 : Hid (w3 = w1.alloc (.cells c 52)) := hw3
  have zz : ∀ j v, Wr ((w.alloc (.cells #[.slice l.ra p.rl l.rc, .slice l.ca p.cl l.cc] 25)).alloc (.cells #[Value.int .i64 0, Value.int .i64 0, Value.int .i64 0, .slice none 0 0, .slice none 0 0] 34)) (w.heap.size + 1) j v → Wr w3 (w.heap.size + 1) j v := fun j v hv => by rw [hw3]; exact (hv.kept (m1.grow none) (by simp)).kept (World.grownBy_alloc w1 _ none) (by simp)
  obtain ⟨y0, g0⟩ := zz 0 (Value.int .i64 0) ⟨by go_simp, by go_simp⟩
  obtain ⟨y1, g1⟩ := zz 1 (Value.int .i64 0) ⟨by go_simp, by go_simp⟩
  obtain ⟨y2, g2⟩ := zz 2 (Value.int .i64 0) ⟨by go_simp, by go_simp⟩
  obtain ⟨y3, g3⟩ := zz 3 (.slice none 0 0) ⟨by go_simp, by go_simp⟩
  obtain ⟨y4, g4⟩ := zz 4 (.slice none 0 0) ⟨by go_simp, by go_simp⟩
  have n1 : ¬ w1.heap.size = w.heap.size + 1 := by omega
  have n2 : ¬ w.heap.size + 1 = w1.heap.size := by omega
  clear m1 mcc zz hw3
  go_wp2_with (refine wpList_store_row rfl 52 (.tmp 10) (.tmp 18) rfl w1.heap.size c rfl rfl 52 z (heap_alloc_last _ _) (by rw [Hc.out.size rfl]; exact Hz.out.2.1) (by rw [Hc.out.size rfl, Hz.out.2.2]) (Hc.out.one rfl rfl rfl rfl rfl) ?_; rw [World.setRow_alloc_new, ← Hw3.out])
  refine bodyPost_ret (v := .tuple #[.agg #[Value.int .i64 0, Value.int .i64 0, Value.int .i64 0, .slice none 0 0, .slice none 0 0], Value.int .i64 code]) (by simp [results, Try.results7, go_sem, *]) rfl ⟨rfl, ?_⟩
  have hg : w3.grownBy (((((w3.setCell ⟨w.heap.size + 1, 0, none⟩ (Value.int .i64 0)).setCell ⟨w.heap.size + 1, 1, none⟩ (Value.int .i64 0)).setCell ⟨w.heap.size + 1, 2, none⟩ (Value.int .i64 0)).setCell ⟨w.heap.size + 1, 3, none⟩ (.slice none 0 0)).setCell ⟨w.heap.size + 1, 4, none⟩ (.slice none 0 0)) (some (w.heap.size + 1)) := gr_set (gr_set (gr_set (gr_set (gr_set (grown_refl _ _) _ _) _ _) _ _) _ _) _ _
  have h3 : More w w3 := by rw [Hw3.out]; exact Hm1.out.alloc _ _
  exact h3.grownBy hg (fun b hb => by have := Option.some.inj hb; omega)

set_option maxHeartbeats 1000000 in
theorem spec_run_script (p : Prg) (l : Loc) (ma : Option Addr) (ml mc : Nat) (sa : Option Addr) (sb so sn sc : Nat) (L : List Int) (fuel : Int) (w : World) (hL : L.length = sn) (hs : SIn w sa sb so L) (hbad : ¬ ScOk L)
    (hnew : ∀ w1, More w w1 → Calls Try.prog 11 #[.agg #[.slice l.ra p.rl l.rc, .slice l.ca p.cl l.cc], .slice ma ml mc, Value.int .i64 fuel] w1 fun e w' => ∃ c rv cv x, x.tl 411 = none ∧ rv.oneCell' = true ∧ cv.oneCell' = true ∧ x.sv.oneCell' = true ∧ x.mv.oneCell' = true ∧ MC c rv cv x ∧ e = .returned (.tuple #[.agg c, Value.int .i64 0]) ∧ More w1 w') :
    Calls Try.prog 7 #[.agg #[.slice l.ra p.rl l.rc, .slice l.ca p.cl l.cc], .slice ma ml mc, .slice sa sn sc, Value.int .i64 fuel] w fun e w' => e = .returned (.tuple #[.agg #[Value.int .i64 0, Value.int .i64 0, Value.int .i64 0, .slice none 0 0, .slice none 0 0], Value.int .i64 3]) ∧ More w w' := by
  obtain ⟨z, z1, z2, z3, z4⟩ := zrow
  have HN := hid_of hnew
  have HS := hid_of (And.intro hL (And.intro hs hbad))
  have Hz : Hid (MC z (.slice none 0 0) (.slice none 0 0) (ms0 0) ∧ (Try.prog.info? 52).map (·.size) = some 411 ∧ z.size = 411) := ⟨z3, z4, z3.size rfl⟩
  clear hnew z3 z4 hL hs hbad
  go_enter Try.func7, Try.ntmps7
  go_wp2_with (fail)
  refine (HN.out _ (((More.refl _).alloc _ _).alloc _ _)).mono ?_
  rintro e w1 ⟨c, rv, cv, x, hx1, hx2, hx3, hx4, hx5, mcc, rfl, m1⟩
  have Hc := hid_of (And.intro mcc (And.intro (mcc.size hx1) (mcc.one hx2 hx3 hx4 hx5 hx1)))
  have s1 : w.heap.size + 2 ≤ w1.heap.size := by have := m1.size; have := size_alloc2 w (.cells #[.slice l.ra p.rl l.rc, .slice l.ca p.cl l.cc] 25) (.cells #[Value.int .i64 0, Value.int .i64 0, Value.int .i64 0, .slice none 0 0, .slice none 0 0] 34); omega
  have Hm1 : Hid (More w w1) := (((More.refl _).alloc _ _).alloc _ _).trans m1
  obtain ⟨w3, hw3⟩ : ∃ w3, w3 = w1.alloc (.cells c 52) := ⟨_, rfl⟩
  have Hw3 : Hid (w3 = w1.alloc (.cells c 52)) := hw3
  have zz : ∀ j v, Wr ((w.alloc (.cells #[.slice l.ra p.rl l.rc, .slice l.ca p.cl l.cc] 25)).alloc (.cells #[Value.int .i64 0, Value.int .i64 0, Value.int .i64 0, .slice none 0 0, .slice none 0 0] 34)) (w.heap.size + 1) j v → Wr w3 (w.heap.size + 1) j v := fun j v hv => by rw [hw3]; exact (hv.kept (m1.grow none) (by simp)).kept (World.grownBy_alloc w1 _ none) (by simp)
  obtain ⟨y0, g0⟩ := zz 0 (Value.int .i64 0) ⟨by go_simp, by go_simp⟩
  obtain ⟨y1, g1⟩ := zz 1 (Value.int .i64 0) ⟨by go_simp, by go_simp⟩
  obtain ⟨y2, g2⟩ := zz 2 (Value.int .i64 0) ⟨by go_simp, by go_simp⟩
  obtain ⟨y3, g3⟩ := zz 3 (.slice none 0 0) ⟨by go_simp, by go_simp⟩
  obtain ⟨y4, g4⟩ := zz 4 (.slice none 0 0) ⟨by go_simp, by go_simp⟩
  have n1 : ¬ w1.heap.size = w.heap.size + 1 := by omega
  have n2 : ¬ w.heap.size + 1 = w1.heap.size := by omega
  have h3 : More w w3 := by rw [hw3]; exact Hm1.out.alloc _ _
  have hA := spec_allowed sa sb so sn sc L HS.out.1 w3 (HS.out.2.1.more h3)
  have HA := hid_of hA
  have H3 := hid_of h3
  clear m1 mcc zz hw3 hx1 hx2 hx3 hx4 hx5 hA h3
  go_wp2_with (refine wpList_store_row rfl 52 (.tmp 10) (.tmp 18) rfl w1.heap.size c rfl rfl 52 z (heap_alloc_last _ _) (by rw [Hc.out.2.1]; exact Hz.out.2.1) (by rw [Hc.out.2.1, Hz.out.2.2]) Hc.out.2.2 ?_; rw [World.setRow_alloc_new, ← Hw3.out])
  refine HA.out.mono ?_
  rintro e w4 ⟨r, rfl, hr, rfl⟩
  cases r with
  | true => exact absurd (hr.1 rfl) HS.out.2.2
  | false =>
    clear hr HA
    go_wp2
    refine bodyPost_ret (v := .tuple #[.agg #[Value.int .i64 0, Value.int .i64 0, Value.int .i64 0, .slice none 0 0, .slice none 0 0], Value.int .i64 3]) (by simp [results, Try.results7, go_sem, *]) rfl ⟨rfl, ?_⟩
    have hg : w4.grownBy (((((w4.setCell ⟨w.heap.size + 1, 0, none⟩ (Value.int .i64 0)).setCell ⟨w.heap.size + 1, 1, none⟩ (Value.int .i64 0)).setCell ⟨w.heap.size + 1, 2, none⟩ (Value.int .i64 0)).setCell ⟨w.heap.size + 1, 3, none⟩ (.slice none 0 0)).setCell ⟨w.heap.size + 1, 4, none⟩ (.slice none 0 0)) (some (w.heap.size + 1)) := gr_set (gr_set (gr_set (gr_set (gr_set (grown_refl _ _) _ _) _ _) _ _) _ _) _ _
    exact H3.out.grownBy hg (fun b hb => by have := Option.some.inj hb; omega)
end
end Go.Proofs.Ytapagihngaiebaa
