/-
  The texts RPlay, FnQuiet, HdShape, FnShape, HdPlain, FnPlain, FnLed, HdMask, HdCode, one behind the other, with what is used of them.
-/
import Derived.Test.YtmpafeoileonjaaJoined9
import Derived.Test.YtmpafeoileonjaaJoined0
import Derived.Test.YtmpafeoileonjaaJoined8
import Derived.Test.YtmpafeoileonjaaJoined5
import Derived.Test.YtmpafeoileonjaaJoined7
import Derived.Test.YtmpafeoileonjaaProg
import Derived.Deep.LoopGhost
import Derived.Deep.OwnRows
namespace Go.Proofs.Ytmpafeoileonjaa
section
open Go.RowKit
set_option linter.unusedSimpArgs false
set_option linter.unusedVariables false
set_option maxRecDepth 8000
def J5l (m : Mem) (R : ShF) (w : World) (e : Ending) (w' : World) : Prop :=
 ∃ (v : Value) (mm : Mem), e = .returned v ∧ ShownAt w' v ⟨R.fin, R.val, R.steps, R.seen, mm⟩ ∧ mm.ml = m.ml ∧ (∀ j, mm.len j = m.len j) ∧ (∀ j, j < m.ml → ∀ i, i < m.len j → mm.wd j i = R.wd (baseN m.len j + i)) ∧ More w w'

theorem Jg7 (j N : Nat) (h : j < N) : (madeCells #[.slice none 0 0] N)[j]? = some (.slice none 0 0) := by
 unfold madeCells
 simp [h, Nat.mod_one]

theorem Jer (a b : Nat) : ((a : Int) + (b : Int)).toNat = a + b := by omega

theorem Jgv (w : World) (ra : Option Addr) (rl rc : Nat) (ca : Option Addr) (cl cc : Nat) (sa : Option Addr) (sn sc : Nat) (f : Nat → Int) (L : List Int) (G : Nat) (hG : w.heap.size + 1 + 1 = G) (W3 : World) (hW : W3 = (((w.alloc (.cells #[.slice ra rl rc, .slice ca cl cc] 25)).alloc (.cells #[.int .i64 0, .int .i64 0, .int .i64 0, .slice none 0 0, .slice none 0 0] 39)).alloc (.cells #[.slice (some ⟨w.heap.size + 1 + 1 + 1, 0, none⟩) 10 10, .slice none 0 0, .slice none 0 0, .int .i64 0, .slice ra rl rc, .slice ca cl cc, .int .i64 0, .int .i64 0, .int .i64 0, .slice none 0 0, .slice none 0 0, .slice sa sn sc, .bool false, .int .i64 0, .slice none 0 0, .slice none 0 0, .slice none 0 0, .int .i64 0] 84)).alloc (.cells (madeCells #[.int .i64 0] 10) 2)) :
  More w W3 ∧ W3.heap.size = G + 2 ∧ (W3.cell? ⟨w.heap.size, 0, none⟩ = some (.slice ra rl rc) ∧ W3.cell? ⟨w.heap.size, 1, none⟩ = some (.slice ca cl cc)) ∧
   (Wr W3 (w.heap.size + 1) 0 (.int .i64 0) ∧ Wr W3 (w.heap.size + 1) 1 (.int .i64 0) ∧ Wr W3 (w.heap.size + 1) 2 (.int .i64 0) ∧ Wr W3 (w.heap.size + 1) 3 (.slice none 0 0) ∧ Wr W3 (w.heap.size + 1) 4 (.slice none 0 0)) ∧
   (∀ j, j < 18 → Wr W3 G j (gV 0 ⟨.slice ra rl rc, .slice ca cl cc, .slice none 0 0, 0, 0, 0⟩ ⟨⟨0, fun _ => 0, f, fun _ => []⟩, false, 0, ⟨0, fun _ => 0, f, fun _ => []⟩, L, []⟩ ⟨.slice none 0 0, .slice sa sn sc, .slice none 0 0, .slice none 0 0, .slice none 0 0, .int .i64 0, ⟨G + 1, 10, 0, none, 0, 0, none, 0, fun _ => .slice none 0 0⟩, ⟨0, 0, 0, none, 0, 0, none, 0, fun _ => .slice none 0 0⟩, fun _ => 0⟩ j)) ∧ RegsR W3 (G + 1) (fun _ => 0) := by
 subst hG hW
 refine ⟨((((More.refl _).alloc _ _).alloc _ _).alloc _ _).alloc _ _, by simp, ⟨by go_simp, by go_simp⟩, ⟨⟨by go_simp, by go_simp⟩, ⟨by go_simp, by go_simp⟩, ⟨by go_simp, by go_simp⟩, ⟨by go_simp, by go_simp⟩, ⟨by go_simp, by go_simp⟩⟩, ?_, fun j hj => ?_⟩
 ·refine lt18 ?_ ?_ ?_ ?_ ?_ ?_ ?_ ?_ ?_ ?_ ?_ ?_ ?_ ?_ ?_ ?_ ?_ ?_ <;> exact ⟨by dsimp only [gV, PV.regs, PV.words, PV.past]; go_simp, by go_simp⟩
 ·have hj2 := Jiu j hj
  exact ⟨by go_simp, by go_simp⟩

set_option maxHeartbeats 2000000 in
theorem Jdw (p : Prg) (l : Loc) (m : Mem) (ml : MLoc) (sa : Option Addr) (sb so sn sc : Nat) (L : List Int) (fuel : Nat) (w : World) (hp : PIn w p l) (hm : MIn w m ml) (hok : p.Ok 8000 10) (hn64 : ∀ i, i < p.cl → B64 (p.ins i).n) (hfit : J1m p.rl p.log m.ml m.len) (hwd : ∀ j, j < m.ml → ∀ i, i < m.len j → B64 (m.wd j i)) (hfuel : fuel ≤ 40000) (hL : L.length = sn) (hcap : sn ≤ sc) (hs : SIn w sa sb so L) (hsok : ScOk L) :
  Calls Try.prog 17 #[.agg #[.slice l.ra p.rl l.rc, .slice l.ca p.cl l.cc], .slice ml.ma m.ml ml.mc, .slice sa sn sc, .int .i64 fuel] w (J5l m (playS p (flatM m) L fuel) w) := by
 have hml : m.ml = p.rl := hfit.2.1
 have hlen : ∀ i, i < m.ml → (m.len i : Int) = J0h (p.log i) := fun i hi => hfit.2.2 i (by omega)
 have hpos : ∀ i, i < m.ml → 0 < m.len i ∧ m.len i ≤ 64 := fun i hi => by
  have h1 := hlen i hi
  have h2 := hok.1.2 i (by omega)
  have h3 := J2j (k := (p.log i).toNat) (by omega)
  unfold J0h at h1
  omega
 have hm6 : m.ml ≤ 6 := by rw [hml]; exact hok.1.1
 have hcl : 1 ≤ p.cl ∧ p.cl ≤ 8000 := ⟨hok.2.1, hok.2.2.1⟩
 have hall : allI p = (baseN m.len m.ml : Int) := Jjz hml hlen
 have hble : ∀ j, j ≤ m.ml → baseN m.len j ≤ 384 := fun j hj => by
  have h1 := Jap m.len j (fun i hi => (hpos i (by omega)).2)
  omega
 have hinv : InvS p 0 (4 * 0) ⟨⟨0, fun _ => 0, flatM m, fun _ => []⟩, false, 0, ⟨0, fun _ => 0, flatM m, fun _ => []⟩, L, []⟩ := by
  refine ⟨⟨Nat.zero_le _, fun _ _ => J1e, fun j hj => ?_, fun j => Nat.le_refl _, fun j hj v hv => by simp at hv⟩, fun a => by simp at a, Nat.le_refl _, fun c hc => ?_⟩
  ·rw [hall] at hj
   obtain ⟨c, i, h1, h2, rfl⟩ := J88 m.len m.ml j (by omega)
   dsimp only
   rw [J5m m c i h1 h2]
   exact hwd c h1 i h2
  ·obtain ⟨j, hj⟩ := List.getElem?_of_mem hc
   exact hsok.2 j c hj
 obtain ⟨ra, rb, ro, rc, ca, cb, co, cc⟩ := l
 obtain rfl : ca = some ⟨cb, co, none⟩ := hp.hc (by omega)
 obtain ⟨ma, mb, mo', mc, MA, MC0, gb, go⟩ := ml
 dsimp only
 obtain ⟨R, HR⟩ : ∃ R, Hid (playS p (flatM m) L fuel = R) := ⟨_, rfl⟩
 rw [HR.out]
 obtain ⟨P, HP⟩ : ∃ P, Hid (P = J5l m R w) := ⟨_, rfl⟩
 rw [← HP.out]
 have H0 := J03 (And.intro hp (And.intro hok (And.intro hn64 (And.intro hml (And.intro hlen (And.intro hpos (And.intro hm6 (And.intro hcl (And.intro hall (And.intro hble hinv))))))))))
 have HM := J03 hm
 have HS := J03 (And.intro hfuel (And.intro hL (And.intro hcap (And.intro hs hsok))))
 obtain ⟨i0, hi, hz0, hz1, hz2⟩ := info_parts info2
 have Hi : Hid (Try.prog.info? 2 = some i0 ∧ i0.zero = some (.int .i64 0) ∧ i0.size = 1 ∧ i0.bytes = 8) := ⟨hi, hz0, hz1, hz2⟩
 obtain ⟨nn, hnn⟩ : ∃ n, m.ml = n := ⟨_, rfl⟩
 rw [hnn]
 have Hnn := J03 hnn
 clear hp hok hn64 hml hlen hpos hm6 hcl hall hble hinv hm hfuel hL hcap hs hsok hfit hwd hi hz0 hz1 hz2 hnn
 have hmk := run_make_row' (P := Try.prog) 70 2 (.int .i64 0) 8 Try.underlying70 info2 rfl .i64 .i64 10 (by decide) (by decide)
 push_cast at hmk
 obtain ⟨W3, hW3⟩ : ∃ W3, (((w.alloc (.cells #[.slice ra p.rl rc, .slice (some ⟨cb, co, none⟩) p.cl cc] 25)).alloc (.cells #[.int .i64 0, .int .i64 0, .int .i64 0, .slice none 0 0, .slice none 0 0] 39)).alloc (.cells #[.slice (some ⟨w.heap.size + 1 + 1 + 1, 0, none⟩) 10 10, .slice none 0 0, .slice none 0 0, .int .i64 0, .slice ra p.rl rc, .slice (some ⟨cb, co, none⟩) p.cl cc, .int .i64 0, .int .i64 0, .int .i64 0, .slice none 0 0, .slice none 0 0, .slice sa sn sc, .bool false, .int .i64 0, .slice none 0 0, .slice none 0 0, .slice none 0 0, .int .i64 0] 84)).alloc (.cells (madeCells #[.int .i64 0] 10) 2) = W3 := ⟨_, rfl⟩
 obtain ⟨G, hG⟩ : ∃ G, w.heap.size + 1 + 1 = G := ⟨_, rfl⟩
 obtain ⟨y0, hy0⟩ : ∃ y : Ys, y = ⟨.slice ra p.rl rc, .slice (some ⟨cb, co, none⟩) p.cl cc, .slice none 0 0, 0, 0, 0⟩ := ⟨_, rfl⟩
 obtain ⟨g0, hg0⟩ : ∃ g0 : Nat → Value, g0 = gV 0 y0 ⟨⟨0, fun _ => 0, flatM m, fun _ => []⟩, false, 0, ⟨0, fun _ => 0, flatM m, fun _ => []⟩, L, []⟩ ⟨.slice none 0 0, .slice sa sn sc, .slice none 0 0, .slice none 0 0, .slice none 0 0, .int .i64 0, ⟨G + 1, 10, 0, none, 0, 0, none, 0, fun _ => .slice none 0 0⟩, ⟨0, 0, 0, none, 0, 0, none, 0, fun _ => .slice none 0 0⟩, fun _ => 0⟩ := ⟨_, rfl⟩
 have HW : Hid (More w W3 ∧ W3.heap.size = G + 2 ∧ (W3.cell? ⟨w.heap.size, 0, none⟩ = some (.slice ra p.rl rc) ∧ W3.cell? ⟨w.heap.size, 1, none⟩ = some (.slice (some ⟨cb, co, none⟩) p.cl cc)) ∧
   (Wr W3 (w.heap.size + 1) 0 (.int .i64 0) ∧ Wr W3 (w.heap.size + 1) 1 (.int .i64 0) ∧ Wr W3 (w.heap.size + 1) 2 (.int .i64 0) ∧ Wr W3 (w.heap.size + 1) 3 (.slice none 0 0) ∧ Wr W3 (w.heap.size + 1) 4 (.slice none 0 0)) ∧
   (∀ j, j < 18 → Wr W3 G j (g0 j)) ∧ RegsR W3 (G + 1) (fun _ => 0)) := by
  rw [hg0, hy0]
  exact Jgv w ra p.rl rc (some ⟨cb, co, none⟩) p.cl cc sa sn sc (flatM m) L G hG W3 hW3.symm
 have HG := J03 (And.intro hG (And.intro hg0 hy0))
 have HW3 := J03 hW3
 clear hW3 hg0 hy0 hG
 go_enter Try.func17, Try.ntmps17
 go_wp2
 rw [HW3.out]
 rw [HG.out.1]
 clear hmk
 go_loopg [10] nn (fun g i wr => ∃ (k : Nat) (v : Value), k + g = nn ∧ i = .int .i64 k ∧ wr.ownsRow (G + 2) 2 1 v (baseN m.len k) ((List.range (baseN m.len k)).map fun j => .int .i64 (flatM m j)) ∧ W3.grownBy wr (some G) ∧ Wr wr G 1 v ∧ ∀ j, j < 18 → j ≠ 1 → Wr wr G j (g0 j))
 case atStart =>
  obtain ⟨_, _, _, _, h1, _⟩ := HW.out
  refine ⟨0, .slice none 0 0, by omega, rfl, World.ownsRow_nil _ _ _ _, J0n _ _, ?_, fun j hj _ => h1 j hj⟩
  have := h1 1 (by omega)
  rw [HG.out.2.1] at this
  exact this
 case round =>
  obtain ⟨k, v, hkg, rfl, hown, hgr, hv, hcs⟩ := hrel
  obtain ⟨va, vc, rfl⟩ := J23 hown
  have Hm := J03 (And.intro hown (And.intro hgr (And.intro hv hcs)))
  clear hown hgr hv hcs
  cases gk with
  | zero =>
   obtain rfl : k = nn := by omega
   obtain ⟨N, hN⟩ : ∃ N, baseN m.len k = N := ⟨_, rfl⟩
   rw [hN] at Hm
   have HN : Hid (N ≤ 384 ∧ baseN m.len m.ml = N) := ⟨by rw [← hN]; exact H0.out.2.2.2.2.2.2.2.2.2.1 k (by rw [Hnn.out]; exact Nat.le_refl _), by rw [Hnn.out]; exact hN⟩
   have hmk := run_make_row' (P := Try.prog) 35 70 (.slice none 0 0) 24 Try.underlying35 Jk4 rfl .i64 .i64 N (by have := HN.out.1; omega) (by have := HN.out.1; omega)
   have v1 := Hm.out.2.2.1.1
   have v2 := (Hm.out.2.2.2 2 (by omega) (by omega)).1
   have f2 := (Hm.out.2.2.2 2 (by omega) (by omega)).2
   have hn0 : (0 : Int) ≤ (N : Int) := by omega
   have hGl : G < wr.heap.size := J05 v1
   clear hN
   rw [HG.out.2.1] at v2
   dsimp only [gV, PV.past] at v2
   go_wp2
   obtain ⟨W7, hW7⟩ : ∃ W7, (wr.setCell ⟨G, 2, none⟩ (.slice (some ⟨wr.heap.size, 0, none⟩) N N)).alloc (.cells (madeCells #[.slice none 0 0] N) 70) = W7 := ⟨_, rfl⟩
   rw [hW7]
   have HW7 := J03 hW7
   clear hW7
   have hsz := HW.out.2.1
   have hgs := J0p wr G 2 (.slice (some ⟨wr.heap.size, 0, none⟩) N N)
   have b7 : Below G W3 W7 := by
    rw [← HW7.out]
    exact J4g (J0a (Below.grown (Below.refl _ _) Hm.out.2.1 (by omega) (fun b hb => by have := Option.some.inj hb; omega)) _ _) (by have := hgs.size; omega) _
   have kw : ∀ b o u, b ≠ G → Wr wr b o u → Wr W7 b o u := fun b o u hb h => by rw [← HW7.out]; exact (h.kept hgs (fun e => hb (Option.some.inj e))).kept (World.grownBy_alloc _ _ none) (by simp)
   have kg : ∀ o u, o ≠ 2 → Wr wr G o u → Wr W7 G o u := fun o u ho h => by rw [← HW7.out]; exact (h.other _ _ _ (by omega)).kept (World.grownBy_alloc _ _ none) (by simp)
   have hszr : G + 2 ≤ wr.heap.size := by have := Hm.out.2.1.size; omega
   have hrs : ∃ z, RS W7 G N y0 ⟨⟨0, fun _ => 0, flatM m, fun _ => []⟩, false, 0, ⟨0, fun _ => 0, flatM m, fun _ => []⟩, L, []⟩ [] z := by
    refine ⟨_, RS.begin (rg := G + 1) (pg := wr.heap.size) (pc := N) (sc := .slice sa sn sc) (wa := va) (wc := vc) HN.out.1 (by omega) (fun j hj => ?_) ?_ ?_ (fun b hb => (World.ownsRow.lt Hm.out.1 b hb).2) (by omega) (fun j hj => ?_) ?_ rfl ?_⟩
    ·exact kw _ _ _ (by omega) (Wr.kept Hm.out.2.1 (HW.out.2.2.2.2.2 j hj) (fun e => by have := Option.some.inj e; omega))
    ·refine ⟨sa, sc, by rw [HS.out.2.1], by rw [HS.out.2.1]; exact HS.out.2.2.1, fun hne => ?_⟩
     have hpos : 0 < L.length := List.length_pos_iff.2 hne
     have hc0 := HS.out.2.2.2.1.cells 0 (L[0]) (List.getElem?_eq_getElem hpos)
     have hlt := J05 hc0
     dsimp only at hlt
     have hG1 := HG.out.1
     refine ⟨sb, so, HS.out.2.2.2.1.ha hpos, by omega, fun j c hj => ?_⟩
     rw [Below.cell b7 (by dsimp only; omega)]
     exact HW.out.1.cell (HS.out.2.2.2.1.cells j c hj)
    ·rw [← HW7.out]
     refine World.ownsRow.kept (World.ownsRow.kept Hm.out.1 hgs ?_) (World.grownBy_alloc _ _ none) ?_
     ·cases hv : (Value.slice va N vc).ownBlock with
      | none => left; rfl
      | some b => right; have := (World.ownsRow.lt Hm.out.1 b hv).1; simp; omega
     ·cases (Value.slice va N vc).ownBlock with
      | none => left; rfl
      | some b => right; simp
    ·rw [← HW7.out]
     have hj2 := Jg7 j N hj
     exact ⟨by go_simp, by go_simp⟩
    ·rw [← HW7.out]; simp
    ·intro j hj
     by_cases e1 : j = 1
     ·subst e1
      exact kg _ _ (by omega) Hm.out.2.2.1
     by_cases e2 : j = 2
     ·subst e2
      rw [← HW7.out]
      exact ((Hm.out.2.2.2 2 (by omega) (by omega)).same _).kept (World.grownBy_alloc _ _ none) (by simp)
     ·have h1 := kg _ _ e2 (Hm.out.2.2.2 j hj e1)
      have eq : g0 j = gV N y0 ⟨⟨0, fun _ => 0, flatM m, fun _ => []⟩, false, 0, ⟨0, fun _ => 0, flatM m, fun _ => []⟩, L, []⟩ ⟨.slice none 0 0, .slice sa sn sc, .slice none 0 0, .slice none 0 0, .slice none 0 0, .int .i64 0, ⟨G + 1, 10, wgOf va, va, vc, wr.heap.size, some ⟨wr.heap.size, 0, none⟩, N, fun _ => .slice none 0 0⟩, ⟨0, 0, 0, none, 0, 0, none, 0, fun _ => .slice none 0 0⟩, fun c => if c = G + 1 then 1 else if 0 < N ∧ (Value.slice va N vc).ownBlock = some c then 2 else if c = wr.heap.size then 3 else 0⟩ j := by
       rw [HG.out.2.1]
       revert j
       refine lt18 ?_ ?_ ?_ ?_ ?_ ?_ ?_ ?_ ?_ ?_ ?_ ?_ ?_ ?_ ?_ ?_ ?_ ?_ <;> intros <;> first | rfl | omega
      rw [← eq]
      exact h1
   have Hrs : Hid (R4 W7 G N y0 ⟨⟨0, fun _ => 0, flatM m, fun _ => []⟩, false, 0, ⟨0, fun _ => 0, flatM m, fun _ => []⟩, L, []⟩ []) := ⟨HN.out.1, hrs⟩
   have H7 : Hid (Below G W3 W7 ∧ W3.heap.size = G + 2 ∧ w.heap.size + 1 + 1 = G) := ⟨b7, hsz, HG.out.1⟩
   clear hgs b7 kw kg hszr hrs hsz v1 v2 f2 hmk hn0 hGl Hm
   have hRP : ∀ wx, Below G W3 wx → ∀ y : Ys, y.rv = y0.rv → y.cv = y0.cv → RP wx G N p ⟨ra, rb, ro, rc, some ⟨cb, co, none⟩, cb, co, cc⟩ y := fun wx hb y e1 e2 => by
    have hlt : 0 < p.rl → rb < w.heap.size := fun h0 => J05 (H0.out.1.regs 0 h0).1
    refine ⟨by rw [e1, HG.out.2.2], by rw [e2, HG.out.2.2], H0.out.1.hr, fun i hi => ⟨?_, ?_⟩, fun h0 => by have := hlt h0; have := HG.out.1; dsimp only; omega, H0.out.2.1.1, by rw [H0.out.2.2.2.2.2.2.2.2.1, HN.out.2]⟩
    ·rw [Below.cell hb (by have := hlt (by omega); have := HG.out.1; dsimp only; omega)]; exact HW.out.1.cell (H0.out.1.regs i hi).1
    ·rw [Below.cell hb (by have := hlt (by omega); have := HG.out.1; dsimp only; omega)]; exact HW.out.1.cell (H0.out.1.regs i hi).2
   have HRP := J03 hRP
   clear hRP
   apply Ji2
   ·intro key
    go_loopg [] (2 * fuel) (fun g wr => ∃ (y : Ys) (s : Sp), R4 wr G N y s [] ∧ (y.rv = y0.rv ∧ y.cv = y0.cv ∧ y.mv = .slice none 0 0) ∧ Below G W3 wr ∧ ((y.e = 0 ∧ y.v = 0 ∧ ∃ g' k : Nat, y.k = k ∧ k + g' = fuel ∧ InvS p k (4 * k + (if s.ahead = true then 0 else 1)) s ∧ runS p g' k s = R ∧ g = 2 * g' + (if s.ahead = true then 1 else 0) ∧ (s.ahead = true → 0 ≤ s.since ∧ s.since ≤ 11)) ∨ (¬ y.e = 0 ∧ R = ⟨y.e, y.v, y.k, s.seen, s.real.wd⟩ ∧ s.seen.length ≤ 200000 ∧ s.ahead = false)))
    case atStart =>
     refine ⟨y0, _, Hrs.out, ⟨rfl, rfl, by rw [HG.out.2.2]⟩, H7.out.1, .inl ⟨by rw [HG.out.2.2], by rw [HG.out.2.2], fuel, 0, by rw [HG.out.2.2]; rfl, by omega, H0.out.2.2.2.2.2.2.2.2.2.2.mono (Nat.le_refl _) (by omega), HR.out, ?_, fun h => absurd h (by simp)⟩⟩
     rw [if_neg (by simp)]
     rfl
    case round =>
     obtain ⟨y, s, hr4, hy, hbel, hst⟩ := hrel
     have Hs := J03 (And.intro hr4 (And.intro hy hbel))
     obtain ⟨c8, f8⟩ := hr4.k
     have c6 := hr4.e.1
     have c12 := hr4.ahead.1
     obtain ⟨w6, hw6⟩ : ∃ w6, wr = w6 := ⟨_, rfl⟩
     subst hw6
     clear hr4 hy hbel
     rcases hst with ⟨he, hv, g', k, hyk, hkg, hinv, hrun, hgk, hsin⟩ | ⟨he, hR, hsl, haf⟩
     ·cases g' with
      | zero =>
       have hk : ¬ y.k < (fuel : Int) := by omega
       have HE : Hid (R4 wr G N y s [] ∧ Below G W3 wr ∧ R = ⟨y.e, y.v, y.k, s.seen, s.real.wd⟩ ∧ s.seen.length ≤ 200000 ∧ y.mv = .slice none 0 0) := ⟨Hs.out.1, Hs.out.2.2, by rw [← hrun, he, hv, hyk]; rfl, by have h1 := hinv.seen; have h2 := HS.out.1; split at h1 <;> omega, Hs.out.2.1.2.2⟩
       clear hinv hrun hgk hyk hkg he hv f8 hsin
       cases ha : s.ahead with
       | false =>
        rw [ha] at c12
        go_wp2
        obtain ⟨W8, hW8⟩ : ∃ W8, wr = W8 := ⟨_, rfl⟩
        rw [hW8]
        obtain ⟨sv, wa, wc, wg, hts⟩ := HE.out.1.here ha
        rw [hW8] at hts HE
        have TSH := J03 hts
        have HT := J03 HE.out.2
        clear hts hW8 c6 c8 c12 hk
        refine J50 J1t (by kernel_rfl) (fun f => ?_)
        simp only [J1t, List.foldl]
        go_simp
        rename_i K a
        clear HE ha Hs
        revert y s K a W8 sv wa wc wg TSH HT f
        exact key.out
       | true =>
        rw [ha] at c12
        obtain ⟨hN_, z, hz⟩ := HE.out.1.out
        obtain ⟨c0, f0⟩ := hz.cells 0 (by omega)
        obtain ⟨c1, f1⟩ := hz.cells 1 (by omega)
        obtain ⟨c2, f2⟩ := hz.cells 2 (by omega)
        obtain ⟨c3, f3⟩ := hz.cells 3 (by omega)
        obtain ⟨c14, _⟩ := hz.cells 14 (by omega)
        obtain ⟨c15, _⟩ := hz.cells 15 (by omega)
        obtain ⟨c16, _⟩ := hz.cells 16 (by omega)
        obtain ⟨c17, _⟩ := hz.cells 17 (by omega)
        obtain ⟨sv, wa, wc, wg, hts⟩ := hz.there hN_ ha
        obtain ⟨_, e0, e1, e2, e3⟩ := hz.rest.back ha
        dsimp only [gV, PV.regs, PV.words, PV.past] at c0 c1 c2 c3 c14 c15 c16 c17 e0 e1 e2 e3
        rw [e0] at c14
        rw [e1] at c15
        rw [e2] at c16
        rw [e3] at c17
        rw [e0, e1, e2, e3] at hts
        obtain ⟨W8, hW8⟩ : ∃ W8, (((wr.setCell ⟨G, 0, none⟩ (.slice (some ⟨z.b.rg, 0, none⟩) 10 z.b.rc)).setCell ⟨G, 1, none⟩ (.slice z.b.wa N z.b.wc)).setCell ⟨G, 2, none⟩ (.slice z.b.pa N z.b.pc)).setCell ⟨G, 3, none⟩ (.int .i64 s.back.at_) = W8 := ⟨_, rfl⟩
        rw [hW8] at hts
        have TSH := J03 hts
        have HT : Hid (Below G W3 W8 ∧ R = ⟨y.e, y.v, y.k, s.seen, s.real.wd⟩ ∧ s.seen.length ≤ 200000 ∧ y.mv = .slice none 0 0) := by
         refine ⟨?_, HE.out.2.2⟩
         rw [← hW8]
         exact J0a (J0a (J0a (J0a HE.out.2.1 _ _) _ _) _ _) _ _
        have HW8 := J03 hW8
        clear hts hz hW8 e0 e1 e2 e3
        go_wp2
        rw [HW8.out]
        clear c0 c1 c2 c3 c14 c15 c16 c17 f0 f1 f2 f3 c6 c8 c12 hk
        refine J50 J1t (by kernel_rfl) (fun f => ?_)
        simp only [J1t, List.foldl]
        go_simp
        rename_i K a
        exact key.out y s K a W8 sv wa wc wg TSH HT f
      | succ g' =>
       have hk : y.k < (fuel : Int) := by omega
       have hB : w.heap.size < G := by have := HG.out.1; omega
       have hb1 : wr.cell? ⟨w.heap.size, 1, none⟩ = some (.slice (some ⟨cb, co, none⟩) p.cl cc) := by rw [Below.cell Hs.out.2.2 (by dsimp only; omega)]; exact HW.out.2.2.1.2
       have c3 := Hs.out.1.at_.1
       obtain ⟨S, HS9⟩ := J4f wr
       have j3 := J0v HS9 c3
       have jb := J0v HS9 hb1
       have hne := s_ne HS9
       have hS := J4e HS9
       have Hrun := J03 (And.intro he (And.intro hv (And.intro hyk (And.intro hkg (And.intro hinv (And.intro hrun hgk))))))
       have he0 := he
       clear hv hyk hinv hrun hkg
       rw [he] at c6
       clear he
       by_cases hcl : p.cl ≤ s.pl.at_
       ·have hcl' : (p.cl : Int) ≤ (s.pl.at_ : Int) := by omega
        cases ha : s.ahead with
        | false =>
         rw [ha] at c12
         have f6 := Hs.out.1.e.2
         have HE : Hid (R4 (wr.setCell ⟨G, 6, none⟩ (.int .i64 2)).drew G N { y with e := 2 } s [] ∧ Below G W3 (wr.setCell ⟨G, 6, none⟩ (.int .i64 2)).drew ∧ R = ⟨2, y.v, y.k, s.seen, s.real.wd⟩ ∧ s.seen.length ≤ 200000 ∧ y.mv = .slice none 0 0) := by
          obtain ⟨h1, h2, h3, h4, h5, h6, h7⟩ := Hrun.out
          exact ⟨(Hs.out.1.setE 2).drew, J0t (J0a Hs.out.2.2 _ _), by rw [← h6, Jcg hcl ha, h2, h3], by have q1 := h5.seen; have q2 := HS.out.1; split at q1 <;> omega, Hs.out.2.1.2.2⟩
         go_wp2_with (fail)
         refine J01 (S := S) [(0, true), (1, true), (2, true), (3, true), (4, true), (5, true), (6, true), (7, false), (8, true)] (by kernel_rfl) (by kernel_rfl) (by kernel_rfl) hS ?_
         iterate 7 (refine J00 rfl (by kernel_rfl) (fun K hK => ?_); go_simp; refine hK _ _ ?_; clear hK K)
         refine J02 rfl (by kernel_rfl) (fun K hK => ?_); go_simp
         refine hK _ _ ((HS9.out _).2 (More.refl _).drew) ?_; clear hK K
         refine J00 rfl (by kernel_rfl) (fun K hK => ?_); go_simp; refine hK _ _ ?_; clear hK K
         refine J04 ?_
         clear j3 jb hne hS HS9 S
         go_wp2
         obtain ⟨y2, hy2⟩ : ∃ y2 : Ys, ({ y with e := 2 } : Ys) = y2 := ⟨_, rfl⟩
         have HE2 : Hid (R4 (wr.setCell ⟨G, 6, none⟩ (.int .i64 2)).drew G N y2 s [] ∧ Below G W3 (wr.setCell ⟨G, 6, none⟩ (.int .i64 2)).drew ∧ R = ⟨y2.e, y2.v, y2.k, s.seen, s.real.wd⟩ ∧ s.seen.length ≤ 200000 ∧ y2.mv = .slice none 0 0) := by rw [← hy2]; exact HE.out
         clear HE hy2
         have HE := HE2
         clear HE2
         obtain ⟨W8, hW8⟩ : ∃ W8, (wr.setCell ⟨G, 6, none⟩ (.int .i64 2)).drew = W8 := ⟨_, rfl⟩
         rw [hW8]
         obtain ⟨sv, wa, wc, wg, hts⟩ := HE.out.1.here ha
         rw [hW8] at hts HE
         have TSH := J03 hts
         have HT := J03 HE.out.2
         clear hts hW8 c6 c8 c12 f6 f8
         refine J50 J1t (by kernel_rfl) (fun f => ?_)
         simp only [J1t, List.foldl]
         go_simp
         rename_i K a
         exact key.out y2 s K a W8 sv wa wc wg TSH HT f
        | true =>
         rw [ha] at c12
         have HV := J03 (J7d wr.drew G N y s [] (by have q1 := Hrun.out.2.2.2.2.1.seen; have q2 := HS.out.1; have q3 := Hrun.out.2.2.2.1; split at q1 <;> omega) ha Hs.out.1.drew)
         go_wp2_with (fail)
         refine J01 (S := S) [(0, true), (1, true), (2, true), (3, true), (4, true), (5, true), (6, true), (7, false), (8, true)] (by kernel_rfl) (by kernel_rfl) (by kernel_rfl) hS ?_
         iterate 7 (refine J00 rfl (by kernel_rfl) (fun K hK => ?_); go_simp; refine hK _ _ ?_; clear hK K)
         refine J02 rfl (by kernel_rfl) (fun K hK => ?_); go_simp
         refine hK _ _ ((HS9.out _).2 (More.refl _).drew) ?_; clear hK K
         refine J00 rfl (by kernel_rfl) (fun K hK => ?_); go_simp; refine hK _ _ ?_; clear hK K
         refine J04 ?_
         clear j3 jb hne hS HS9 S
         go_wp2_with (fail)
         refine HV.out.mono ?_
         rintro e w9 ⟨rfl, r9, b9⟩
         have H9 := J03 (And.intro r9 (Below.trans (J0t Hs.out.2.2) b9))
         clear r9 b9 HV
         go_wp2
         go_roundg (2 * (g' + 1))
         case measure => rw [ha, if_pos rfl] at hgk; omega
         case rel =>
          obtain ⟨h1, h2, h3, h4, h5, h6, h7⟩ := Hrun.out
          rw [ha, if_pos rfl] at h5
          exact ⟨y, s.returns, H9.out.1, Hs.out.2.1, H9.out.2, .inl ⟨h1, h2, g' + 1, k, h3, h4, h5.returns ha, by rw [← Jee hcl ha]; exact h6, rfl, fun h => absurd h (by simp [Sp.returns])⟩⟩
       ·have hat : s.pl.at_ < p.cl := by omega
        have hat' : ¬ (p.cl : Int) ≤ (s.pl.at_ : Int) := by omega
        have hat2 : (s.pl.at_ : Int) < (p.cl : Int) := by omega
        have hat3 : (0 : Int) ≤ (s.pl.at_ : Int) := by omega
        have hk1 : wrap64 (y.k + 1) = y.k + 1 := by have h1 := Hrun.out.2.2.1; have h2 := Hrun.out.2.2.2.1; have h3 := HS.out.1; unfold wrap64; omega
        have hwr := J27
        have Hat := J03 (And.intro hat hsin)
        have h10 := ((Hs.out.1.setK (y.k + 1)).drew)
        have HV := J03 (Jdx _ G N _ s [] 1 (s.pl.at_ : Int) 0 (by have q1 := Hrun.out.2.2.2.2.1.seen; have q2 := HS.out.1; have q3 := Hrun.out.2.2.2.1; split at q1 <;> omega) h10)
        have H10 := J03 (J0t (J0a Hs.out.2.2 8 (.int .i64 (y.k + 1))))
        obtain ⟨y1, hy1⟩ : ∃ y1 : Ys, ({ y with k := y.k + 1 } : Ys) = y1 := ⟨_, rfl⟩
        rw [hy1] at HV
        have Hy1 : Hid (y1.rv = y0.rv ∧ y1.cv = y0.cv ∧ y1.mv = .slice none 0 0 ∧ y1.e = 0 ∧ y1.v = 0 ∧ y1.k = y.k + 1) := by rw [← hy1]; exact ⟨Hs.out.2.1.1, Hs.out.2.1.2.1, Hs.out.2.1.2.2, Hrun.out.1, Hrun.out.2.1, rfl⟩
        clear h10 hy1 hat hsin hcl hgk he0
        go_wp2_with (fail)
        refine J01 (S := S) [(0, true), (1, true), (2, true), (3, true), (4, true), (5, true), (6, true), (7, false), (8, true)] (by kernel_rfl) (by kernel_rfl) (by kernel_rfl) hS ?_
        iterate 7 (refine J00 rfl (by kernel_rfl) (fun K hK => ?_); go_simp; refine hK _ _ ?_; clear hK K)
        refine J02 rfl (by kernel_rfl) (fun K hK => ?_); go_simp
        refine hK _ _ ((HS9.out _).2 (More.refl _).drew) ?_; clear hK K
        refine J00 rfl (by kernel_rfl) (fun K hK => ?_); go_simp; refine hK _ _ ?_; clear hK K
        refine J04 ?_
        clear j3 jb hne hS HS9 S
        go_wp2_with (fail)
        refine HV.out.mono ?_
        rintro e w11 ⟨rfl, r11, b11⟩
        have hb11 := Below.trans H10.out b11
        have H11 := J03 (And.intro r11 hb11)
        clear HV H10 hb1 c3
        have c3 := H11.out.1.at_.1
        replace c3 : w11.cell? ⟨G, 3, none⟩ = some (.int .i64 (s.pl.at_ : Int)) := c3
        have hcode := H0.out.1.code s.pl.at_ Hat.out.1
        have hcb : cb < G := by have := J05 hcode.1; have := HG.out.1; dsimp only at *; omega
        obtain ⟨S, HSB⟩ : ∃ S : World → Prop, Hid (∀ w', S w' ↔ Below G w11 w') := ⟨_, fun _ => Iff.rfl⟩
        have jl : ∀ (b o : Nat) (u : Value), w11.cell? ⟨b, o, none⟩ = some u → b < G → ∀ i : { w' // S w' }, i.val.cell? ⟨b, o, none⟩ = some u := fun b o u h hb i => by rw [Below.cell ((HSB.out _).1 i.property) hb]; exact h
        have jw : ∀ (b o : Nat) (u : Value), W3.cell? ⟨b, o, none⟩ = some u → b < G → w11.cell? ⟨b, o, none⟩ = some u := fun b o u h hb => by rw [Below.cell hb11 hb]; exact h
        have jb := jl _ _ _ (jw _ _ _ HW.out.2.2.1.2 hB) hB
        have n0 := jl _ _ _ (jw _ _ _ (HW.out.1.cell hcode.1) hcb) hcb
        have n1 := jl _ _ _ (jw _ _ _ (HW.out.1.cell hcode.2.1) hcb) hcb
        have n2 := jl _ _ _ (jw _ _ _ (HW.out.1.cell hcode.2.2.1) hcb) hcb
        have n3 := jl _ _ _ (jw _ _ _ (HW.out.1.cell hcode.2.2.2.1) hcb) hcb
        have n4 := jl _ _ _ (jw _ _ _ (HW.out.1.cell hcode.2.2.2.2) hcb) hcb
        have hne : Nonempty { w' // S w' } := ⟨⟨w11, (HSB.out _).2 (Below.refl _ _)⟩⟩
        have hS : S w11.drew := (HSB.out _).2 (J0t (Below.refl _ _))
        have HX := J03 (Jjc p ⟨ra, rb, ro, rc, some ⟨cb, co, none⟩, cb, co, cc⟩ w11.drew G N y1 s [] k (4 * k + 1) H11.out.1.drew (HRP.out _ (J0t hb11) y1 Hy1.out.1 Hy1.out.2.1) (Hrun.out.2.2.2.2.1.mono (Nat.le_refl _) (by split <;> omega)) Hat.out.1 H0.out.2.2.2.2.2.2.2.1.2 (H0.out.2.1.2.2.2 _ Hat.out.1) (by have h2 := Hrun.out.2.2.2.1; have h3 := HS.out.1; omega) (by have h2 := Hrun.out.2.2.2.1; have h3 := HS.out.1; omega) Hy1.out.2.2.2.2.1)
        obtain ⟨i, hI⟩ : ∃ i, p.ins s.pl.at_ = i := ⟨_, rfl⟩
        obtain ⟨iop, ia, ib, ic, in_⟩ := i
        rw [hI] at n0 n1 n2 n3 n4 HX
        have hi64 : B64 in_ := by have := H0.out.2.2.1 s.pl.at_ Hat.out.1; rw [hI] at this; exact this
        have HI := J03 (And.intro hI hi64)
        dsimp only at n0 n1 n2 n3 n4 HX
        clear hcode hcb jl jw r11 b11 hb11 hI hi64
        go_wp2_with (fail)
        refine J01 (S := S) [(0, true), (1, true), (2, true), (3, true), (4, true), (5, true), (6, true), (7, false), (8, true), (9, true), (10, false), (11, true)] (by kernel_rfl) (by kernel_rfl) (by kernel_rfl) hS ?_
        iterate 7 (refine J00 rfl (by kernel_rfl) (fun K hK => ?_); go_simp; refine hK _ _ ?_; clear hK K)
        refine J02 rfl (by kernel_rfl) (fun K hK => ?_); go_simp
        refine hK _ _ hS ?_; clear hK K
        iterate 2 (refine J00 rfl (by kernel_rfl) (fun K hK => ?_); go_simp; refine hK _ _ ?_; clear hK K)
        refine J02 rfl (by kernel_rfl) (fun K hK => ?_); go_simp
        refine HX.out.mono ?_
        rintro e w12 ⟨rfl, b12, r12⟩
        go_simp
        refine hK _ _ ((HSB.out _).2 (Below.trans (J0t (Below.refl _ _)) b12)) ?_; clear hK K
        refine J00 rfl (by kernel_rfl) (fun K hK => ?_); go_simp; refine hK _ _ ?_; clear hK K
        refine J04 ?_
        have hinv2 := (Hrun.out.2.2.2.2.1.mono (k' := k) (n' := 4 * k + 1) (Nat.le_refl _) (by split <;> omega)).step Hat.out.1 (H0.out.2.1.2.2.2 _ Hat.out.1) (H0.out.2.2.1 _ Hat.out.1)
        have hsi := Jah p s
        have hru : runS p (g' + 1) k s = R := Hrun.out.2.2.2.2.2.1
        have H12 := J03 (And.intro r12 (And.intro (Below.trans (J0t H11.out.2) b12) (And.intro hinv2 hsi)))
        clear jb n0 n1 n2 n3 n4 hne hS HSB S HX b12 r12 hinv2 hsi c3 c8 f8 c6 c12
        cases ho : (stepS p s).2.2 with
        | some e =>
         have ha := Jck ho
         have hs1 := J9h ho
         have hef := Jel ho
         have HR2 : Hid (R = ⟨e.1, e.2, (k : Int) + 1, (stepS p s).1.seen, (stepS p s).1.real.wd⟩) := by rw [← hru]; exact Jh6 Hat.out.1 ho
         have c12 := H12.out.1.ahead.1
         rw [hs1] at c12
         replace c12 : w12.cell? ⟨G, 12, none⟩ = some (.bool s.ahead) := c12
         rw [ha] at c12
         have Ho := J03 (And.intro ho hef)
         clear hru hs1 hef ho
         go_wp2
         go_roundg 0
         case measure => have := Hrun.out.2.2.2.2.2.2; split at this <;> omega
         case rel =>
          obtain ⟨r12, b12, i12, _⟩ := H12.out
          rw [Ho.out.1] at r12
          refine ⟨_, _, r12, ⟨Hy1.out.1, Hy1.out.2.1, Hy1.out.2.2.1⟩, b12, .inr ⟨?_, ?_, ?_, ?_⟩⟩
          ·show ¬ e.1 = 0
           have := Ho.out.2
           omega
          ·rw [HR2.out]
           show _ = (⟨e.1, e.2, y1.k, _, _⟩ : ShF)
           rw [Hy1.out.2.2.2.2.2, Hrun.out.2.2.1]
          ·have h1 := i12.seen
           have h2 := Hrun.out.2.2.2.1
           have h3 := HS.out.1
           omega
          ·rw [J9h Ho.out.1]
           exact ha
        | none =>
         obtain ⟨s2, hs2⟩ : ∃ s2, (stepS p s).1 = s2 := ⟨_, rfl⟩
         obtain ⟨ov, hov⟩ : ∃ ov, (stepS p s).2.1 = ov := ⟨_, rfl⟩
         have HR2 : Hid (runS p g' (k + 1) (s2.after ov) = R) := by rw [← hru, ← hs2, ← hov]; exact (Jjf Hat.out.1 ho).symm
         rw [ho, hs2] at H12
         replace H12 : Hid (R4 w12 G N y1 s2 [] ∧ Below G W3 w12 ∧ InvS p (k + 1) (4 * k + 1 + 2) s2 ∧ ((s2.ahead = s.ahead ∧ s2.since = s.since) ∨ (s.ahead = false ∧ s2.since = -1))) := H12
         rw [hov]
         have c12 := H12.out.1.ahead.1
         have Hk2 : Hid (∀ g2, g2 = 2 * g' + (if (s2.after ov).ahead = true then 1 else 0) → True) := fun _ _ => trivial
         clear hru hs2 hov ho
         cases ha : s2.ahead with
         | false =>
          rw [ha] at c12
          have Ha := J03 ha
          go_wp2
          go_roundg (2 * g')
          case measure => have := Hrun.out.2.2.2.2.2.2; split at this <;> omega
          case rel =>
           obtain ⟨r12, b12, i12, _⟩ := H12.out
           have hr := HR2.out
           rw [Jbo Ha.out] at hr
           exact ⟨y1, s2, r12, ⟨Hy1.out.1, Hy1.out.2.1, Hy1.out.2.2.1⟩, b12, .inl ⟨Hy1.out.2.2.2.1, Hy1.out.2.2.2.2.1, g', k + 1, by rw [Hy1.out.2.2.2.2.2, Hrun.out.2.2.1]; push_cast; rfl, by have := Hrun.out.2.2.2.1; omega, i12.mono (Nat.le_refl _) (by omega), hr, by rw [Ha.out]; rfl, fun h => absurd (h.symm.trans Ha.out) (by simp)⟩⟩
         | true =>
          rw [ha] at c12
          obtain ⟨c13, f13⟩ := H12.out.1.since
          have hsb : -1 ≤ s2.since ∧ s2.since ≤ 11 := by
           rcases H12.out.2.2.2 with ⟨h1, h2⟩ | ⟨h1, h2⟩
           ·have := Hat.out.2 (by rw [← h1]; exact ha)
            omega
           ·omega
          have h13 := H12.out.1.setSince (s2.since + 1)
          have Ha := J03 (And.intro ha hsb)
          have hi4 := H12.out.2.2.1.after ov
          have Hi4 := J03 hi4
          obtain ⟨q, hq⟩ : ∃ q, s2.since + 1 = q := ⟨_, rfl⟩
          rw [hq] at h13
          have hsw : wrap64 (s2.since + 1) = q := by unfold wrap64; omega
          have Hq := J03 hq
          have hlen2 : s2.seen.length ≤ 200000 := by have h1 := H12.out.2.2.1.seen; have h2 := Hrun.out.2.2.2.1; have h3 := HS.out.1; omega
          have H13 := J03 (And.intro h13 (J0a H12.out.2.1 13 (.int .i64 q)))
          by_cases hret : ov = true ∨ q = 12
          ·have HV := J03 (J7d _ G N y1 { s2 with since := q } [] hlen2 ha h13)
           have HA := J03 (show s2.after ov = ({ s2 with since := q }).returns by unfold Sp.after; rw [if_pos Ha.out.1, Hq.out, if_pos hret])
           clear h13 hi4 hq hlen2 hsb ha
           have hmain : ∀ w14, R4 w14 G N y1 ({ s2 with since := q }).returns [] → Below G (w12.setCell ⟨G, 13, none⟩ (.int .i64 q)) w14 → ∃ (y : Ys) (s : Sp), R4 w14 G N y s [] ∧ (y.rv = y0.rv ∧ y.cv = y0.cv ∧ y.mv = .slice none 0 0) ∧ Below G W3 w14 ∧ ((y.e = 0 ∧ y.v = 0 ∧ ∃ g'' k : Nat, y.k = k ∧ k + g'' = fuel ∧ InvS p k (4 * k + (if s.ahead = true then 0 else 1)) s ∧ runS p g'' k s = R ∧ 2 * g' = 2 * g'' + (if s.ahead = true then 1 else 0) ∧ (s.ahead = true → 0 ≤ s.since ∧ s.since ≤ 11)) ∨ (¬ y.e = 0 ∧ R = ⟨y.e, y.v, y.k, s.seen, s.real.wd⟩ ∧ s.seen.length ≤ 200000 ∧ s.ahead = false)) := fun w14 r14 b14 => by
            have hr := HR2.out
            have hi := Hi4.out
            rw [HA.out] at hr hi
            exact ⟨y1, _, r14, ⟨Hy1.out.1, Hy1.out.2.1, Hy1.out.2.2.1⟩, Below.trans H13.out.2 b14, .inl ⟨Hy1.out.2.2.2.1, Hy1.out.2.2.2.2.1, g', k + 1, by rw [Hy1.out.2.2.2.2.2, Hrun.out.2.2.1]; push_cast; rfl, by have := Hrun.out.2.2.2.1; omega, hi.mono (Nat.le_refl _) (by omega), hr, rfl, fun h => absurd h (by simp [Sp.returns])⟩⟩
           have Hmain := J03 hmain
           clear hmain
           cases ov with
           | true =>
            clear hret
            go_wp2_with (fail)
            refine HV.out.mono ?_
            rintro e w14 ⟨rfl, r14, b14⟩
            have H14 := J03 (And.intro r14 b14)
            clear r14 b14 HV
            go_wp2
            go_roundg (2 * g')
            case measure => have := Hrun.out.2.2.2.2.2.2; split at this <;> omega
            case rel => exact Hmain.out _ H14.out.1 H14.out.2
           | false =>
            have hq12 : q = 12 := hret.resolve_left (by simp)
            clear hret
            subst hq12
            go_wp2_with (fail)
            refine HV.out.mono ?_
            rintro e w14 ⟨rfl, r14, b14⟩
            have H14 := J03 (And.intro r14 b14)
            clear r14 b14 HV
            go_wp2
            go_roundg (2 * g')
            case measure => have := Hrun.out.2.2.2.2.2.2; split at this <;> omega
            case rel => exact Hmain.out _ H14.out.1 H14.out.2
          ·have hov : ov = false := by
            cases ov with
            | false => rfl
            | true => exact absurd (.inl rfl) hret
           have hq12 : ¬ q = 12 := fun e => hret (.inr e)
           have HA := J03 (show s2.after ov = { s2 with since := q } by unfold Sp.after; rw [if_pos Ha.out.1, Hq.out, if_neg hret])
           have Hq12 := J03 hq12
           subst hov
           clear h13 hi4 hq hlen2 hsb ha hret
           go_wp2
           go_roundg (2 * g' + 1)
           case measure => have := Hrun.out.2.2.2.2.2.2; split at this <;> omega
           case rel =>
            have hr := HR2.out
            have hi := Hi4.out
            rw [HA.out] at hr hi
            refine ⟨y1, _, H13.out.1, ⟨Hy1.out.1, Hy1.out.2.1, Hy1.out.2.2.1⟩, H13.out.2, .inl ⟨Hy1.out.2.2.2.1, Hy1.out.2.2.2.2.1, g', k + 1, by rw [Hy1.out.2.2.2.2.2, Hrun.out.2.2.1]; push_cast; rfl, by have := Hrun.out.2.2.2.1; omega, hi.mono (Nat.le_refl _) (by split <;> omega), hr, ?_, fun _ => ?_⟩⟩
            ·show _ = 2 * g' + (if s2.ahead = true then 1 else 0)
             rw [if_pos Ha.out.1]
            ·have h1 := Ha.out.2
             have h2 := Hq.out
             have h3 := Hq12.out
             show 0 ≤ q ∧ q ≤ 11
             omega
     ·have HE : Hid (R4 wr G N y s [] ∧ Below G W3 wr ∧ R = ⟨y.e, y.v, y.k, s.seen, s.real.wd⟩ ∧ s.seen.length ≤ 200000 ∧ y.mv = .slice none 0 0) := ⟨Hs.out.1, Hs.out.2.2, hR, hsl, Hs.out.2.1.2.2⟩
      rw [haf] at c12
      clear hR
      have he' : (y.e == 0) = false := by simp [he]
      by_cases hk : y.k < (fuel : Int)
      ·go_wp2
       obtain ⟨W8, hW8⟩ : ∃ W8, wr = W8 := ⟨_, rfl⟩
       rw [hW8]
       obtain ⟨sv, wa, wc, wg, hts⟩ := HE.out.1.here haf
       rw [hW8] at hts HE
       have TSH := J03 hts
       have HT := J03 HE.out.2
       clear hts hW8 c6 c8 c12 hk
       refine J50 J1t (by kernel_rfl) (fun f => ?_)
       simp only [J1t, List.foldl]
       go_simp
       rename_i K a
       exact key.out y s K a W8 sv wa wc wg TSH HT f
      ·go_wp2
       obtain ⟨W8, hW8⟩ : ∃ W8, wr = W8 := ⟨_, rfl⟩
       rw [hW8]
       obtain ⟨sv, wa, wc, wg, hts⟩ := HE.out.1.here haf
       rw [hW8] at hts HE
       have TSH := J03 hts
       have HT := J03 HE.out.2
       clear hts hW8 c6 c8 c12 hk
       refine J50 J1t (by kernel_rfl) (fun f => ?_)
       simp only [J1t, List.foldl]
       go_simp
       rename_i K a
       exact key.out y s K a W8 sv wa wc wg TSH HT f
   ·intro y s K a W8 sv wa wc wg TSH HT f
    have hB : w.heap.size < G := by have := HG.out.1; omega
    go_loopg [12] p.rl (fun g i wr => ∃ (k : Nat) (v : Value) (G' C' : Nat → Nat), k + g = p.rl ∧ i = .int .i64 k ∧ CpAt wr W8.heap.size ⟨p.rl, m.len, fun j i => s.real.wd (baseN m.len j + i)⟩ k v G' C' ∧ W8.grownBy wr (some G) ∧ Wr wr G 10 v ∧ ∀ j u, j ≠ 10 → Wr W8 G j u → Wr wr G j u)
    case atStart =>
     refine ⟨0, .slice none 0 0, _, _, by omega, rfl, CpAt.start _ _ _, J0n _ _, ?_, fun j u _ h => h⟩
     have := TSH.out.mv
     rw [HT.out.2.2.2] at this
     exact this
    case round =>
     obtain ⟨k3, v3, G3, C3, hkg3, rfl, hc3, hg3, hv3, hj3⟩ := hrel
     obtain ⟨xa, xc, rfl⟩ := J23 hc3.own
     have hGl8 : G < W8.heap.size := J05 TSH.out.words.1
     have hb3 : Below G W3 wr := Below.grown HT.out.1 hg3 (Nat.le_of_lt hGl8) (fun b hb => by have := Option.some.inj hb; omega)
     have Hm3 := J03 (And.intro hc3 (And.intro hg3 (And.intro hv3 (And.intro hj3 hb3))))
     have x0 : wr.cell? ⟨w.heap.size, 0, none⟩ = some (.slice ra p.rl rc) := by rw [Below.cell hb3 hB]; exact HW.out.2.2.1.1
     have x1 : wr.cell? ⟨w.heap.size, 1, none⟩ = some (.slice (some ⟨cb, co, none⟩) p.cl cc) := by rw [Below.cell hb3 hB]; exact HW.out.2.2.1.2
     clear hc3 hg3 hv3 hj3 hb3
     cases gk with
     | zero =>
      obtain rfl : k3 = p.rl := by omega
      obtain ⟨q6, _⟩ := Hm3.out.2.2.2.1 6 _ (by omega) TSH.out.e
      obtain ⟨q7, _⟩ := Hm3.out.2.2.2.1 7 _ (by omega) TSH.out.v
      obtain ⟨q8, _⟩ := Hm3.out.2.2.2.1 8 _ (by omega) TSH.out.k
      obtain ⟨q9, _⟩ := Hm3.out.2.2.2.1 9 _ (by omega) TSH.out.csv
      obtain ⟨q10, _⟩ := Hm3.out.2.2.1
      obtain ⟨sva, svc, hsv⟩ := J23 TSH.out.seen
      subst hsv
      have l1 : w.heap.size + 1 < G := by have := HG.out.1; omega
      have KR : ∀ o u, Wr W3 (w.heap.size + 1) o u → Wr wr (w.heap.size + 1) o u := fun o u h => ⟨by rw [Below.cell Hm3.out.2.2.2.2 l1]; exact h.1, by rw [Below.frozen Hm3.out.2.2.2.2 l1]; exact h.2⟩
      obtain ⟨⟨r0, r0'⟩, ⟨r1, r1'⟩, ⟨r2, r2'⟩, ⟨r3, r3'⟩, ⟨r4, r4'⟩⟩ : Wr wr (w.heap.size + 1) 0 _ ∧ Wr wr (w.heap.size + 1) 1 _ ∧ Wr wr (w.heap.size + 1) 2 _ ∧ Wr wr (w.heap.size + 1) 3 _ ∧ Wr wr (w.heap.size + 1) 4 _ := ⟨KR _ _ HW.out.2.2.2.1.1, KR _ _ HW.out.2.2.2.1.2.1, KR _ _ HW.out.2.2.2.1.2.2.1, KR _ _ HW.out.2.2.2.1.2.2.2.1, KR _ _ HW.out.2.2.2.1.2.2.2.2⟩
      have n3 : ¬ w.heap.size + 1 = G := by omega
      have n3' : ¬ G = w.heap.size + 1 := by omega
      clear KR
      go_wp2
      try simp only [Exit.inBlock, Exit.then]
      refine bodyPost_ret (v := .agg #[.int .i64 y.e, .int .i64 y.v, .int .i64 y.k, .slice sva s.seen.length svc, .slice xa p.rl xc]) (by simp [results, Try.results17, go_sem, *]) rfl ?_
      have hgf := J10 (J10 (J10 (J10 (J10 (J0n wr (some (w.heap.size + 1))) 0 (.int .i64 y.e)) 1 (.int .i64 y.v)) 2 (.int .i64 y.k)) 3 (.slice sva s.seen.length svc)) 4 (.slice xa p.rl xc)
      rw [HP.out]
      obtain ⟨hbel, hR, hsl, _⟩ := HT.out
      obtain ⟨hc, hg, _, _, hb3⟩ := Hm3.out
      have hcf := hc.kept hgf (by omega)
      obtain ⟨mb_, mc_, hmo⟩ := hcf.own_
      obtain ⟨lm, hv, hin⟩ := hmo.in_ (by show p.rl < _; have := H0.out.2.1.1.1; omega) (fun i hi => by have := (H0.out.2.2.2.2.2.1 i (by have := H0.out.2.2.2.1; dsimp only at hi; omega)).2; show m.len i < _; omega)
      have hmore : More w wr := Below.trans HW.out.1 (Below.mono hb3 (by omega))
      rw [hR]
      refine ⟨_, ⟨p.rl, m.len, fun j i => s.real.wd (baseN m.len j + i)⟩, rfl, ⟨.slice sva s.seen.length svc, lm, by dsimp only; rw [← hv], ?_, hin⟩, H0.out.2.2.2.1.symm, fun _ => rfl, fun _ _ _ _ => rfl, hmore.grownBy hgf (fun b hb => by have := Option.some.inj hb; omega)⟩
      have hso := (TSH.out.seen.kept hg (fun b hb => by have := Option.some.inj hb; omega)).kept hgf (fun b hb => by have := Option.some.inj hb; omega)
      exact hso.at_ (by omega)
     | succ g3 =>
      have hk3 : k3 < p.rl := by omega
      have hk3' : (k3 : Int) < (p.rl : Int) := by omega
      have hk30 : (0 : Int) ≤ (k3 : Int) := by omega
      have hkm : k3 < m.ml := by have := H0.out.2.2.2.1; omega
      have hra : ra = some ⟨rb, ro, none⟩ := H0.out.1.hr (by show 0 < p.rl; omega)
      subst hra
      have hrp := HRP.out wr Hm3.out.2.2.2.2 y0 rfl rfl
      have HX := J03 (Jbb (some ⟨rb, ro, none⟩) p.rl rc (some ⟨cb, co, none⟩) p.cl cc k3 rb ro p.log p.sec wr hk30 hk3' (fun _ => rfl) hrp.regs hrp.ok)
      rw [Int.toNat_natCast, ← J7m p m H0.out.2.2.2.2.1 k3 (Nat.le_of_lt hkm)] at HX
      have Hlog : Hid (0 ≤ p.log k3 ∧ p.log k3 ≤ 6) := hrp.ok.2 k3 hk3
      have hwk := H0.out.2.2.2.2.1 k3 hkm
      obtain ⟨lc, hlc⟩ : ∃ x, p.log k3 = x := ⟨_, rfl⟩
      obtain ⟨sec, hsec⟩ : ∃ x, p.sec k3 = x := ⟨_, rfl⟩
      have Hrr := J03 (hrp.regs k3 hk3)
      rw [hlc, hsec] at Hrr
      rw [hlc] at Hlog hwk
      obtain ⟨F, hF⟩ : ∃ x, baseN m.len k3 = x := ⟨_, rfl⟩
      obtain ⟨nw, hnw⟩ : ∃ x, m.len k3 = x := ⟨_, rfl⟩
      rw [hF] at HX
      rw [hnw] at hwk
      have HF : Hid (baseN m.len k3 = F ∧ m.len k3 = nw ∧ (nw : Int) = J0h lc ∧ k3 < m.ml ∧ 0 < nw ∧ nw ≤ 64 ∧ F + nw ≤ N ∧ N ≤ 384 ∧ N ≤ wc) := by
       have h1 := H0.out.2.2.2.2.2.1 k3 hkm
       have h2 := J44 m.len (k3 + 1) m.ml hkm
       simp only [baseN] at h2
       have h3 := HN.out.2
       exact ⟨hF, hnw, hwk, hkm, by omega, by omega, by omega, HN.out.1, TSH.out.cap⟩
      clear hrp hlc hsec hF hnw hwk hkm
      go_wp2_with (fail)
      refine HX.out.mono ?_
      rintro e w4 ⟨rfl, m4⟩
      have x4 := m4.cell x0
      have r0 := m4.cell Hrr.out.1
      have r1 := m4.cell Hrr.out.2
      have HX2 := J03 (J32 lc Hlog.out.1 Hlog.out.2 sec w4)
      rw [← HF.out.2.2.1] at HX2
      have H4 := J03 m4
      clear x0 x1 m4 HX
      go_wp2_with (fail)
      refine HX2.out.mono ?_
      rintro e w5 ⟨rfl, m5⟩
      have hm5 : More wr w5 := H4.out.trans m5
      have hN0 : 0 < N := by have := HF.out; omega
      have hwa := TSH.out.hwa hN0
      subst hwa
      have d10 := hm5.cell Hm3.out.2.2.1.1
      have d10f := (Hm3.out.2.2.1.kept (hm5.grow none) (by simp)).2
      have d1 : w5.cell? ⟨G, 1, none⟩ = some (.slice (some ⟨wg, 0, none⟩) N wc) := hm5.cell (Hm3.out.2.2.2.1 1 _ (by omega) TSH.out.words).1
      have H5 := J03 (And.intro hm5 (And.intro d10 (And.intro d10f d1)))
      clear x4 r0 r1 m5 hm5 HX2 H4
      obtain ⟨S, HS5⟩ : ∃ S : World → Prop, Hid (∀ w', S w' ↔ (w'.cell? ⟨G, 10, none⟩ = some (.slice xa k3 xc) ∧ w'.cell? ⟨G, 1, none⟩ = some (.slice (some ⟨wg, 0, none⟩) N wc))) := ⟨_, fun _ => Iff.rfl⟩
      have j1 : ∀ i : { w' // S w' }, i.val.cell? ⟨G, 10, none⟩ = some (.slice xa k3 xc) := fun i => ((HS5.out _).1 i.property).1
      have j2 : ∀ i : { w' // S w' }, i.val.cell? ⟨G, 1, none⟩ = some (.slice (some ⟨wg, 0, none⟩) N wc) := fun i => ((HS5.out _).1 i.property).2
      have hS5 : S w5.drew := (HS5.out _).2 ⟨d10, d1⟩
      have hne : Nonempty { w' // S w' } := ⟨⟨_, hS5⟩⟩
      have z1 : (F : Int) ≤ (F : Int) + (nw : Int) := by omega
      have z2 : (F : Int) + (nw : Int) ≤ (wc : Int) := by have := HF.out; omega
      have z3 : (0 : Int) ≤ (F : Int) := by omega
      have z4 : (0 : Int) ≤ (F : Int) + (nw : Int) := by omega
      have z5 : (F : Int) ≤ (wc : Int) := by omega
      have z6 : ¬ wc = F := by have := HF.out; omega
      have z7 : wrap64 ((F : Int) + (nw : Int)) = (F : Int) + (nw : Int) := by have := HF.out; unfold wrap64; omega
      have z8 := Jer F nw
      have hwr := J27
      clear d10 d10f d1
      go_wp2_with (fail)
      refine J42 (S := S) [20, 21] [(0, true), (1, true), (2, true), (3, true), (4, true), (5, true), (7, true), (8, true), (9, true), (10, true), (11, true), (12, true), (13, true), (14, true), (15, true), (16, true), (6, false), (17, false), (18, false), (19, false), (20, true), (21, true), (22, true), (23, false)] (by kernel_rfl) (by kernel_rfl) (by kernel_rfl) hS5 ?_
      iterate 16 (refine J3j rfl (by kernel_rfl) (by kernel_rfl) (fun K hK => ?_); go_simp; refine hK _ _ ?_; clear hK K)
      clear j1 j2 z1 z2 z3 z4 z5 z6 z7 z8
      have hwsz : W8.heap.size ≤ w5.heap.size := by have h1 := Hm3.out.2.1.size; have h2 := H5.out.1.size; omega
      have hc5 : CpAt w5 W8.heap.size ⟨p.rl, m.len, fun j i => s.real.wd (baseN m.len j + i)⟩ k3 (.slice xa k3 xc) G3 C3 := Hm3.out.1.kept (H5.out.1.grow (some G)) hGl8
      have Hc5 := J03 (And.intro hc5 hwsz)
      have HA : Hid (More w5 (w5.alloc (.cells #[] 2)).drew) := ((More.refl w5).alloc _ _).drew
      have Hown1 : Hid ((w5.alloc (.cells #[] 2)).drew.ownsRow W8.heap.size 2 1 (.slice (some ⟨w5.heap.size, 0, none⟩) 0 0) 0 []) := World.ownsRow_made w5 #[] 0 hwsz (by unfold maxLen; omega) rfl
      have Hlen : Hid ((J2d ⟨p.rl, m.len, fun j i => s.real.wd (baseN m.len j + i)⟩ k3).length = nw) := by rw [show Hid _ = ((J2d ⟨p.rl, m.len, fun j i => s.real.wd (baseN m.len j + i)⟩ k3).length = nw) from rfl, J2i]; exact HF.out.2.1
      have Hnews : Hid (∀ j u, (J2d ⟨p.rl, m.len, fun j i => s.real.wd (baseN m.len j + i)⟩ k3)[j]? = some u → (w5.alloc (.cells #[] 2)).drew.cell? ((⟨wg, F, none⟩ : Addr).add j) = some u) := by
       intro j u hu
       have hj : j < nw := by have := (List.getElem?_eq_some_iff.1 hu).1; rw [Hlen.out] at this; exact this
       rw [J3z _ k3 j (by show j < m.len k3; rw [HF.out.2.1]; exact hj)] at hu
       rw [Go.WideShapes.add_plain, ← Option.some.inj hu]
       dsimp only
       rw [HF.out.1]
       have hlt : G < wg := TSH.out.lt hN0
       exact HA.out.cell (H5.out.1.cell (Hm3.out.2.1.cell (TSH.out.cells (F + j) (by have := HF.out; omega)) (fun e => by have := Option.some.inj e; dsimp only at this; omega)))
      clear hwsz hc5
      refine J2q rfl (by kernel_rfl) (fun K hK => ?_)
      go_simp
      refine hK _ _ ((HS5.out _).2 ⟨HA.out.cell H5.out.2.1, HA.out.cell H5.out.2.2.2⟩) ?_
      clear hK K
      refine J2q rfl (by kernel_rfl) (fun K hK => ?_)
      refine wp_append_lies _ (.tmp 171) (.tmp 181) 70 rfl W8.heap.size 2 i0 (.int .i64 0) 1 8 Try.underlying70 Hi.out.1 Hi.out.2.1 Hi.out.2.2.1 Hi.out.2.2.2 rfl (by decide) (.slice (some ⟨w5.heap.size, 0, none⟩) 0 0) 0 [] rfl Hown1.out ⟨wg, F, none⟩ nw (wc - F) (J2d ⟨p.rl, m.len, fun j i => s.real.wd (baseN m.len j + i)⟩ k3) rfl (by rw [Hlen.out, Nat.mul_one]) Hnews.out (J7j _ _) HF.out.2.2.2.2.1 (by have := HF.out; unfold maxLen; omega) (by have := HF.out; omega) (by have := Hc5.out.2; simp; omega) (w5.heap.size + 1) (by simp) ?_
      intro ga ca6 w6 own6 gr6 at6 lt6
      simp only [Nat.zero_add, List.nil_append] at own6 ⊢
      have hgl : w5.heap.size ≤ ga := by
       rcases at6 with h | h
       ·have := Option.some.inj h; dsimp only at this; omega
       ·omega
      have gr6' : (w5.alloc (.cells #[] 2)).grownBy w6 (some w5.heap.size) := ⟨gr6.os, gr6.tape, gr6.output, gr6.size, gr6.block⟩
      have hs6 : w5.heap.size + 1 ≤ w6.heap.size := by have := gr6'.size; simpa using this
      have H6 := J03 (And.intro own6 (And.intro gr6' (And.intro hgl hs6)))
      have kp6 : ∀ a u, w5.cell? a = some u → w6.cell? a = some u := fun a u h => gr6'.cell (((More.refl w5).alloc _ _).cell h) (fun e => by have h1 := J05 h; have := Option.some.inj e; omega)
      have HK6 := J03 kp6
      refine hK _ _ ((HS5.out _).2 ⟨kp6 _ _ H5.out.2.1, kp6 _ _ H5.out.2.2.2⟩) ?_
      clear hK K own6 gr6 at6 lt6 hgl gr6' hs6 kp6
      refine J2q rfl (by kernel_rfl) (fun K hK => ?_)
      go_simp
      have HA6 : Hid (More w6 (w6.alloc (.cells #[.slice (some ⟨ga, 0, none⟩) nw ca6] 70))) := (More.refl w6).alloc _ _
      refine hK _ _ ((HS5.out _).2 ⟨HA6.out.cell (HK6.out _ _ H5.out.2.1), HA6.out.cell (HK6.out _ _ H5.out.2.2.2)⟩) ?_
      clear hK K
      obtain ⟨i1, hi', hz0', hz1', hz2'⟩ := info_parts Jhv
      have Hi' : Hid (Try.prog.info? 70 = some i1 ∧ i1.zero = some (.slice none 0 0) ∧ i1.size = 1 ∧ i1.bytes = 24) := ⟨hi', hz0', hz1', hz2'⟩
      clear hi' hz0' hz1' hz2'
      refine J2q rfl (by kernel_rfl) (fun K hK => ?_)
      refine wp_append_lies _ (.tmp 170) (.tmp 183) 35 rfl W8.heap.size 70 i1 (.slice none 0 0) 1 24 Try.underlying35 Hi'.out.1 Hi'.out.2.1 Hi'.out.2.2.1 Hi'.out.2.2.2 rfl (by decide) (.slice xa k3 xc) k3 ((List.range k3).map fun j => .slice (some ⟨G3 j, 0, none⟩) (m.len j) (C3 j)) rfl (Hc5.out.1.own3 _ _ H6.out.2.1) ⟨w6.heap.size, 0, none⟩ 1 1 [.slice (some ⟨ga, 0, none⟩) nw ca6] rfl rfl (cell_one_new _ _ _) (fun x hx => by simp at hx; subst hx; rfl) (by decide) (by have := H0.out.2.2.2.2.2.2.1; have := HF.out; unfold maxLen; omega) (by have := H0.out.2.2.2.2.2.2.1; have := HF.out; omega) (by have := H6.out.2.2.2; have := Hc5.out.2; simp; omega) (w6.heap.size + 1) (by simp) ?_
      intro g7 cap7 w7 own7 gr7 at7 lt7
      have hc7 := Hc5.out.1.step (.cells #[] 2) (.cells #[.slice (some ⟨ga, 0, none⟩) nw ca6] 70) ga ca6 g7 cap7 (by show w6.ownsRow _ 2 1 (.slice _ (m.len k3) ca6) (m.len k3) _; rw [HF.out.2.1]; exact H6.out.1) H6.out.2.1 H6.out.2.2.1 (by show w7.ownsRow _ 70 1 _ _ (_ ++ [.slice _ (m.len k3) ca6]); rw [HF.out.2.1]; exact own7) gr7 at7
      have hvb : ∀ b, (Value.slice xa k3 xc).ownBlock = some b → W8.heap.size ≤ b := fun b hb => (Hc5.out.1.own.lt b hb).1
      have kp7 : ∀ b, b < W8.heap.size → some b ≠ (Value.slice xa k3 xc).ownBlock := fun b hb e => by have := hvb b e.symm; omega
      have g57 : W8.grownBy w7 (some G) := J1h (J1h (J1h (J1h (J1h Hm3.out.2.1 (H5.out.1.grow none) (fun j h => by cases h)) (World.grownBy_alloc w5 _ none) (fun j h => by cases h)) H6.out.2.1 (fun j h => by have := Option.some.inj h; have := Hc5.out.2; omega)) (World.grownBy_alloc w6 _ none) (fun j h => by cases h)) gr7 hvb
      have kw : ∀ o u, Wr wr G o u → Wr w7 G o u := fun o u h => ((((h.kept (H5.out.1.grow none) (by simp)).kept (World.grownBy_alloc w5 _ none) (by simp)).kept H6.out.2.1 (fun e => by have := Option.some.inj e; have := Hc5.out.2; omega)).kept (World.grownBy_alloc w6 _ none) (by simp)).kept gr7 (kp7 _ hGl8)
      have c10 := (kw _ _ Hm3.out.2.2.1).1
      have f10 := (kw _ _ Hm3.out.2.2.1).2
      have H7' := J03 (And.intro hc7 (And.intro g57 kw))
      refine hK _ _ ((HS5.out _).2 ⟨c10, (kw _ _ (Hm3.out.2.2.2.1 1 _ (by omega) TSH.out.words)).1⟩) ?_
      clear hK K own7 gr7 at7 lt7 hc7 hvb kp7 kw g57
      have hnw : Nonempty World := ⟨w⟩
      iterate 2 (refine J6v rfl (by kernel_rfl) (fun K hK => ?_); go_simp; refine hK _ _ ?_; clear hK K)
      clear hnw
      refine J3j rfl (by kernel_rfl) (by kernel_rfl) (fun K hK => ?_); go_simp; refine hK _ _ ?_; clear hK K
      refine J6u rfl (by kernel_rfl) (by kernel_rfl) (fun K hK => ?_)
      go_simp
      refine hK _ _ ?_
      clear hK K hne hS5
      refine NoPanic.normal ?_
      have hk63 : wrap64 ((k3 : Int) + 1) = (k3 : Int) + 1 := by have := H0.out.2.2.2.2.2.2.1; have := HF.out; unfold wrap64; omega
      go_wp2
      go_roundg g3
      case measure => omega
      case rel =>
       obtain ⟨hc7, g57, kw⟩ := H7'.out
       have hgs := J0p w7 G 10 (.slice (some ⟨g7, 0, none⟩) (k3 + 1) cap7)
       exact ⟨k3 + 1, _, _, _, by omega, by first | rfl | (push_cast; rfl), hc7.kept hgs hGl8, J0x g57 hgs, (kw _ _ Hm3.out.2.2.1).same _, fun j u hj h => (kw _ _ (Hm3.out.2.2.2.1 j u hj h)).other _ _ _ (by omega)⟩

  | succ g =>
   have hk : k < nn := by omega
   have hk' : (k : Int) < (nn : Int) := by omega
   have hk0 : (0 : Int) ≤ (k : Int) := by omega
   have Hk : Hid (k < m.ml) := by rw [show Hid (k < m.ml) = (k < m.ml) from rfl, Hnn.out]; exact hk
   obtain rfl : ma = some ⟨mb, mo', none⟩ := HM.out.hm (by have := Hk.out; omega)
   obtain ⟨l0, l1⟩ := H0.out.2.2.2.2.2.1 k Hk.out
   have hsz := HW.out.2.1
   have q1w := HM.out.lists k Hk.out
   dsimp only at q1w
   rw [show MA k = some ⟨gb k, go k, none⟩ from HM.out.hg k Hk.out l0] at q1w
   have hold : ∀ a v, w.cell? a = some v → wr.cell? a = some v := fun a v h => by
    have := J05 h
    have h2 := HW.out.1.cell h
    exact Hm.out.2.1.cell h2 (fun e => by have := Option.some.inj e; have := HG.out.1; omega)
   have q1 := hold _ _ q1w
   have qv := Hm.out.2.2.1.1
   have Hnews : Hid (∀ j u, (J2d m k)[j]? = some u → wr.drew.cell? ((⟨gb k, go k, none⟩ : Addr).add j) = some u) := by
    intro j u hu
    have hj : j < m.len k := by have := (List.getElem?_eq_some_iff.1 hu).1; rw [J2i] at this; exact this
    rw [J3z m k j hj] at hu
    rw [Go.WideShapes.add_plain, ← Option.some.inj hu]
    exact hold _ _ (HM.out.words k Hk.out j hj)
   have hmbl : mb < w.heap.size := J05 q1w
   obtain ⟨S, HS1⟩ : ∃ S : World → Prop, Hid (∀ w', S w' ↔ (w'.cell? ⟨G, 1, none⟩ = some (.slice va (baseN m.len k) vc) ∧ w'.cell? ⟨mb, mo' + k, none⟩ = some (.slice (some ⟨gb k, go k, none⟩) (m.len k) (MC0 k)))) := ⟨_, fun _ => Iff.rfl⟩
   have j1 : ∀ i : { w' // S w' }, i.val.cell? ⟨G, 1, none⟩ = some (.slice va (baseN m.len k) vc) := fun i => ((HS1.out _).1 i.property).1
   have j2 : ∀ i : { w' // S w' }, i.val.cell? ⟨mb, mo' + k, none⟩ = some (.slice (some ⟨gb k, go k, none⟩) (m.len k) (MC0 k)) := fun i => ((HS1.out _).1 i.property).2
   have hS1 : S wr.drew := (HS1.out _).2 ⟨qv, q1⟩
   have hne : Nonempty { w' // S w' } := ⟨⟨_, hS1⟩⟩
   have HX := J03 (And.intro qv (And.intro q1 (And.intro l0 (And.intro l1 (And.intro hmbl hsz)))))
   obtain ⟨r, hr⟩ : ∃ r, m.len k = r := ⟨_, rfl⟩
   obtain ⟨bk, hbk⟩ : ∃ r, baseN m.len k = r := ⟨_, rfl⟩
   rw [hr] at j2 HX HS1
   rw [hbk] at j1 HX HS1 Hm
   have Hr := J03 (And.intro hr hbk)
   have Hbk : Hid (bk ≤ 384 ∧ r ≤ 64 ∧ 0 < r) := ⟨by rw [← hbk]; exact H0.out.2.2.2.2.2.2.2.2.2.1 k (Nat.le_of_lt Hk.out), by rw [← hr]; exact l1, by rw [← hr]; exact l0⟩
   clear hr hbk qv q1 q1w hold hmbl l0 l1 hsz
   go_wp2_with (fail)
   refine J42 (S := S) [11, 12] [(0, true), (1, true), (2, true), (3, true), (4, true), (5, true), (6, true), (7, true), (8, true), (9, true), (10, false), (11, true), (12, true), (13, true), (14, false)] (by kernel_rfl) (by kernel_rfl) (by kernel_rfl) hS1 ?_
   iterate 10 (refine J3j rfl (by kernel_rfl) (by kernel_rfl) (fun K hK => ?_); go_simp; refine hK _ _ ?_; clear hK K)
   refine J2q rfl (by kernel_rfl) (fun K hK => ?_)
   refine wp_append_lies _ (.tmp 35) (.tmp 39) 70 rfl (G + 2) 2 i0 (.int .i64 0) 1 8 Try.underlying70 Hi.out.1 Hi.out.2.1 Hi.out.2.2.1 Hi.out.2.2.2 rfl (by decide) (.slice va bk vc) bk ((List.range bk).map fun j => .int .i64 (flatM m j)) rfl Hm.out.1 ⟨gb k, go k, none⟩ r (MC0 k) (J2d m k) rfl (by rw [J2i, Hr.out.1, Nat.mul_one]) Hnews.out (J7j m k) Hbk.out.2.2 (by have := Hbk.out; unfold maxLen; omega) (by have := Hbk.out; omega) (by have := Hm.out.2.1.size; have := HX.out.2.2.2.2.2; simp; omega) wr.drew.heap.size rfl ?_
   intro g2 cap2 w5 own5 gr5 at5 lt5
   have kp5 : ∀ b, b < G + 2 → some b ≠ (Value.slice va bk vc).ownBlock := fun b hb e => by have := (World.ownsRow.lt Hm.out.1 b e.symm).1; omega
   have gr5' : wr.grownBy w5 (Value.slice va bk vc).ownBlock := ⟨gr5.os, gr5.tape, gr5.output, gr5.size, gr5.block⟩
   have h5 : ∀ o u, Wr wr G o u → Wr w5 G o u := fun o u h => h.kept gr5' (kp5 G (by omega))
   obtain ⟨t1c, t1f⟩ := h5 _ _ Hm.out.2.2.1
   have g05 : W3.grownBy w5 (some G) := J1h Hm.out.2.1 gr5' (fun j h => by have := (World.ownsRow.lt Hm.out.1 j h).1; have := HX.out.2.2.2.2.2; omega)
   have H5 := J03 (And.intro own5 (And.intro g05 (And.intro (show Wr w5 G 1 (.slice va bk vc) from ⟨t1c, t1f⟩) (fun j (hj : j < 18) (h1 : j ≠ 1) => h5 _ _ (Hm.out.2.2.2 j hj h1)))))
   refine hK _ _ ((HS1.out _).2 ⟨t1c, gr5'.cell HX.out.2.1 (kp5 _ (by have := HX.out.2.2.2.2.1; have := HG.out.1; dsimp only; omega))⟩) ?_
   clear hK K own5 gr5 at5 lt5 kp5 gr5' h5 g05
   have hnw : Nonempty World := ⟨w⟩
   iterate 2 (refine J6v rfl (by kernel_rfl) (fun K hK => ?_); go_simp; refine hK _ _ ?_; clear hK K)
   clear hnw
   refine J3j rfl (by kernel_rfl) (by kernel_rfl) (fun K hK => ?_); go_simp; refine hK _ _ ?_; clear hK K
   refine J6u rfl (by kernel_rfl) (by kernel_rfl) (fun K hK => ?_)
   go_simp
   refine hK _ _ ?_
   clear hK K hne j1 j2 hS1
   refine NoPanic.normal ?_
   have hk63 : wrap64 ((k : Int) + 1) = (k : Int) + 1 := by have := H0.out.2.2.2.2.2.2.1; have := Hk.out; unfold wrap64; omega
   have hwr := J27
   go_wp2
   go_roundg g
   case measure => omega
   case rel =>
    obtain ⟨own5, g05, m1, mj⟩ := H5.out
    have hgs := J0p w5 G 1 (.slice (some ⟨g2, 0, none⟩) (bk + r) cap2)
    have eb : baseN m.len (k + 1) = bk + r := by simp only [baseN]; rw [Hr.out.1, Hr.out.2]
    refine ⟨k + 1, .slice (some ⟨g2, 0, none⟩) (bk + r) cap2, by omega, by first | rfl | (push_cast; rfl), ?_, J0x g05 hgs, m1.same _, fun j hj h1 => (mj j hj h1).other _ _ _ (by omega)⟩
    rw [← Jd0 m k Hk.out, eb, Hr.out.2]
    refine World.ownsRow.kept own5 hgs (.inr ?_)
    have := (World.ownsRow.lt own5 g2 rfl).1
    simp [Value.ownBlock]
    omega
theorem J4l {p : Prg} {m : Mem} (h : J1m p.rl p.log m.ml m.len) (c : Nat) (hc : c ≤ m.ml) : (baseN m.len c : Int) = baseI p.log c :=
 J7m p m (fun i hi => h.2.2 i (by rw [← h.2.1]; exact hi)) c hc
theorem Jaz {m : Mem} (h : ∀ j, j < m.ml → ∀ i, i < m.len j → B64 (m.wd j i)) (n : Nat) : B64 (flatM m n) := by
 have key : ∀ k, k ≤ m.ml → B64 (J77 m n k) := fun k => by
  induction k with
  | zero => intro _; exact J1e
  | succ k ih =>
   intro hk
   unfold J77
   by_cases c : baseN m.len k ≤ n ∧ n < baseN m.len k + m.len k
   ·rw [if_pos c]; exact h k (by omega) _ (by omega)
   ·rw [if_neg c]; exact ih (by omega)
 exact key m.ml (Nat.le_refl _)
theorem Jgr {p : Prg} {m m' : Mem} (h : J1m p.rl p.log m.ml m.len) (h' : J1m p.rl p.log m'.ml m'.len) (hp : PubI p m m') : ∀ n, PubW p n → flatM m n = flatM m' n := by
 rintro n ⟨c, hc, hs, h1, h2⟩
 have e := J4l h c (by have := h.2.1; omega)
 have e' := J4l h' c (by have := h'.2.1; omega)
 have l1 := h.2.2 c hc
 have l2 := h'.2.2 c hc
 obtain ⟨i, hi⟩ : ∃ i : Nat, n = baseN m.len c + i := ⟨n - baseN m.len c, by omega⟩
 have hi' : n = baseN m'.len c + i := by omega
 rw [hi, J5m m c i (by have := h.2.1; omega) (by omega), ← hi, hi', J5m m' c i (by have := h'.2.1; omega) (by omega)]
 exact hp c hc hs i (by omega)
theorem Jgq {p : Prg} {m m' x y : Mem} {R R' : Nat → Int} (h : J1m p.rl p.log m.ml m.len) (h' : J1m p.rl p.log m'.ml m'.len) (hx : ∀ j, x.len j = m.len j) (hw : ∀ j, j < m.ml → ∀ i, i < m.len j → x.wd j i = R (baseN m.len j + i)) (hw' : ∀ j, j < m'.ml → ∀ i, i < m'.len j → y.wd j i = R' (baseN m'.len j + i))
  (hR : ∀ n, PubW p n → R n = R' n) : PubI p x y := by
 intro c hc hs i hi
 rw [hx] at hi
 have e := J4l h c (by have := h.2.1; omega)
 have e' := J4l h' c (by have := h'.2.1; omega)
 have l1 := h.2.2 c hc
 have l2 := h'.2.2 c hc
 have eb : baseN m.len c = baseN m'.len c := by omega
 rw [hw c (by have := h.2.1; omega) i hi, hw' c (by have := h'.2.1; omega) i (by omega), ← eb]
 exact hR _ ⟨c, hc, hs, by omega, by omega⟩

set_option maxHeartbeats 4000000 in
theorem J5j (p : Prg) (l : Loc) (m m' : Mem) (ml ml' : MLoc) (sa : Option Addr) (sb so sn sc : Nat) (L : List Int) (fuel : Int) (w : World) (hp : PIn w p l) (hf : p.Fit) (hm : MRaw w m ml) (hwd : ∀ j, j < m.ml → ∀ i, i < m.len j → B64 (m.wd j i)) (hm' : MRaw w m' ml') (hwd' : ∀ j, j < m'.ml → ∀ i, i < m'.len j → B64 (m'.wd j i)) (hL : L.length = sn) (hcap : sn ≤ sc) (hs : SIn w sa sb so L)
  (Q : Prg → Prop) (hQ : ∀ h, Q h → Like8 p h ∧ Still h) (MK : p.Ok 200 8 → ∀ lk, Known p lk → (J0c p lk).1 = 0 → ∀ w1 : World, More w w1 → Makes 6 p l Q w1) :
  Calls Try.prog 5 #[.agg #[.slice l.ra p.rl l.rc, .slice l.ca p.cl l.cc], .slice ml.ma m.ml ml.mc, .slice ml'.ma m'.ml ml'.mc, .slice sa sn sc, .int .i64 fuel] w fun e w' => e = .returned (.bool true) ∧ More w w' := by
 suffices hP : ∀ P : Ending → World → Prop, (∀ w', More w w' → P (.returned (.bool true)) w') → Calls Try.prog 5 #[.agg #[.slice l.ra p.rl l.rc, .slice l.ca p.cl l.cc], .slice ml.ma m.ml ml.mc, .slice ml'.ma m'.ml ml'.mc, .slice sa sn sc, .int .i64 fuel] w P from hP _ (fun w' m => ⟨rfl, m⟩)
 intro P hP0
 have HP : Hid (∀ w', More w w' → P (.returned (.bool true)) w') := hP0
 have H : Hid (PIn w p l ∧ p.Fit ∧ MRaw w m ml ∧ (∀ j, j < m.ml → ∀ i, i < m.len j → B64 (m.wd j i)) ∧ MRaw w m' ml' ∧ (∀ j, j < m'.ml → ∀ i, i < m'.len j → B64 (m'.wd j i)) ∧ (L.length = sn ∧ sn ≤ sc ∧ SIn w sa sb so L) ∧ ∀ h, Q h → Like8 p h ∧ Still h) := ⟨hp, hf, hm, hwd, hm', hwd', ⟨hL, hcap, hs⟩, hQ⟩
 have CK : Hid (p.Ok 200 8 → ∀ lk, Known p lk → (J0c p lk).1 = 0 → ∀ w1 : World, More w w1 → Makes 6 p l Q w1) := MK
 clear hP0 hp hf hm hwd hm' hwd' hQ MK hL hcap hs
 have C1 : Hid (∀ w1 : World, More w w1 → Calls Try.prog 7 #[.agg #[.slice l.ra p.rl l.rc, .slice l.ca p.cl l.cc]] w1 fun e w' => ∃ f : Int × Int, Told p f ∧ e = .returned (.agg #[.int .i64 f.1, .int .i64 f.2]) ∧ More w1 w') := fun w1 m1 => J9p p l w1 (H.out.1.more m1) H.out.2.1
 have CF : Hid (∀ r : Bool, (r = true ↔ J1m p.rl p.log m.ml m.len) → ∀ w1 : World, More w w1 → Calls Try.prog 12 #[.agg #[.slice l.ra p.rl l.rc, .slice l.ca p.cl l.cc], .slice ml.ma m.ml ml.mc] w1 fun e w' => e = .returned (.bool r) ∧ More w1 w') := fun r hr w1 m1 => J8i p l m ml w1 (H.out.1.more m1) (H.out.2.2.1.more m1) r hr
 have CG : Hid (∀ r : Bool, (r = true ↔ J1m p.rl p.log m'.ml m'.len) → ∀ w1 : World, More w w1 → Calls Try.prog 12 #[.agg #[.slice l.ra p.rl l.rc, .slice l.ca p.cl l.cc], .slice ml'.ma m'.ml ml'.mc] w1 fun e w' => e = .returned (.bool r) ∧ More w1 w') := fun r hr w1 m1 => J8i p l m' ml' w1 (H.out.1.more m1) (H.out.2.2.2.2.1.more m1) r hr
 have CU : Hid (p.Ok 200 8 → J1m p.rl p.log m.ml m.len → J1m p.rl p.log m'.ml m'.len → ∀ r : Bool, (r = true ↔ PubI p m m') → ∀ w1 : World, More w w1 → Calls Try.prog 15 #[.agg #[.slice l.ra p.rl l.rc, .slice l.ca p.cl l.cc], .slice ml.ma m.ml ml.mc, .slice ml'.ma m'.ml ml'.mc] w1 fun e w' => e = .returned (.bool r) ∧ More w1 w') := fun hok hf1 hf2 r hr w1 m1 => by
  obtain ⟨f1, f2, f3, f4⟩ := J7p hok hf1
  obtain ⟨g1, g2, g3, g4⟩ := J7p hok hf2
  exact J6i p l m m' ml ml' w1 (H.out.1.more m1) ((H.out.2.2.1.more m1).in_ f2 f4) ((H.out.2.2.2.2.1.more m1).in_ g2 g4) f1 g1 hok.1.1 (fun c hc => ⟨by have := f3 c (by omega); have := g3 c (by omega); omega, f4 c (by omega)⟩) r hr
 have CS : Hid (∀ r : Bool, (r = true ↔ ScOk L) → ∀ w1 : World, More w w1 → Calls Try.prog 16 #[.slice sa sn sc] w1 fun e w' => e = .returned (.bool r) ∧ More w1 w') := fun r hr w1 m1 => by
  refine (Jca sa sb so sn sc L H.out.2.2.2.2.2.2.1.1 w1 (H.out.2.2.2.2.2.2.1.2.2.more m1)).mono ?_
  rintro e w' ⟨q, rfl, hq, rfl⟩
  have : q = r := Bool.eq_iff_iff.2 (hq.trans hr.symm)
  rw [this]
  exact ⟨rfl, More.refl _⟩
 have CH : Hid (∀ h lh, Q h → p.Ok 200 8 → J1m p.rl p.log m.ml m.len → J1m p.rl p.log m'.ml m'.len → PubI p m m' → ScOk L → 0 ≤ fuel → fuel ≤ 4000 → ∀ w1 : World, More w w1 → PIn w1 h lh →
   (Calls Try.prog 9 #[.agg #[.slice lh.ra h.rl lh.rc, .slice lh.ca h.cl lh.cc]] w1 fun e w' => e = .returned (.bool true) ∧ More w1 w') ∧
   (Calls Try.prog 10 #[.agg #[.slice l.ra p.rl l.rc, .slice l.ca p.cl l.cc], .agg #[.slice lh.ra h.rl lh.rc, .slice lh.ca h.cl lh.cc]] w1 fun e w' => e = .returned (.bool true) ∧ More w1 w') ∧
   (Calls Try.prog 17 #[.agg #[.slice lh.ra h.rl lh.rc, .slice lh.ca h.cl lh.cc], .slice ml.ma m.ml ml.mc, .slice sa sn sc, .int .i64 fuel] w1 (J5l m (playS h (flatM m) L fuel.toNat) w1)) ∧
   (Calls Try.prog 17 #[.agg #[.slice lh.ra h.rl lh.rc, .slice lh.ca h.cl lh.cc], .slice ml'.ma m'.ml ml'.mc, .slice sa sn sc, .int .i64 fuel] w1 (J5l m' (playS h (flatM m') L fuel.toNat) w1))) := fun h lh q hok hf1 hf2 hpub hsc f0 f1 w1 m1 hin => by
  obtain ⟨k, _⟩ := H.out.2.2.2.2.2.2.2 h q
  obtain ⟨g1, g2, g3, g4⟩ := J7p hok hf1
  obtain ⟨i1, i2, i3, i4⟩ := J7p hok hf2
  obtain ⟨fu, rfl⟩ : ∃ fu : Nat, fuel = fu := ⟨fuel.toNat, by omega⟩
  rw [Int.toNat_natCast]
  have hn64 : ∀ i, i < h.cl → B64 (h.ins i).n := fun i hi => (k.fit.ins i hi).2.2.2.2
  refine ⟨Jd5 h lh w1 hin k.ok, J95 p h l lh w1 (H.out.1.more m1) hin k.rl k.reg (by have := hok.1.1; omega), ?_, ?_⟩
  ·exact Jdw h lh m ml sa sb so sn sc L fu w1 hin ((H.out.2.2.1.more m1).in_ g2 g4) k.ok hn64 (k.fits hf1) H.out.2.2.2.1 (by omega) H.out.2.2.2.2.2.2.1.1 H.out.2.2.2.2.2.2.1.2.1 (H.out.2.2.2.2.2.2.1.2.2.more m1) hsc
  ·exact Jdw h lh m' ml' sa sb so sn sc L fu w1 hin ((H.out.2.2.2.2.1.more m1).in_ i2 i4) k.ok hn64 (k.fits hf2) H.out.2.2.2.2.2.1 (by omega) H.out.2.2.2.2.2.2.1.1 H.out.2.2.2.2.2.2.1.2.1 (H.out.2.2.2.2.2.2.1.2.2.more m1) hsc
 have HS : Hid (∀ h lh, Q h → p.Ok 200 8 → J1m p.rl p.log m.ml m.len → J1m p.rl p.log m'.ml m'.len → PubI p m m' → ∀ u v mm mm' w1, PIn w1 h lh →
   ShownAt w1 u ⟨(playS h (flatM m) L fuel.toNat).fin, (playS h (flatM m) L fuel.toNat).val, (playS h (flatM m) L fuel.toNat).steps, (playS h (flatM m) L fuel.toNat).seen, mm⟩ → mm.ml = m.ml → (∀ j, mm.len j = m.len j) → (∀ j, j < m.ml → ∀ i, i < m.len j → mm.wd j i = (playS h (flatM m) L fuel.toNat).wd (baseN m.len j + i)) →
   ShownAt w1 v ⟨(playS h (flatM m') L fuel.toNat).fin, (playS h (flatM m') L fuel.toNat).val, (playS h (flatM m') L fuel.toNat).steps, (playS h (flatM m') L fuel.toNat).seen, mm'⟩ → mm'.ml = m'.ml → (∀ j, mm'.len j = m'.len j) → (∀ j, j < m'.ml → ∀ i, i < m'.len j → mm'.wd j i = (playS h (flatM m') L fuel.toNat).wd (baseN m'.len j + i)) →
   Calls Try.prog 18 #[.agg #[.slice lh.ra h.rl lh.rc, .slice lh.ca h.cl lh.cc], u, v] w1 fun e w' => e = .returned (.bool true) ∧ More w1 w') := fun h lh q hok hf1 hf2 hpub u v mm mm' w1 hin hu u1 u2 u3 hv v1 v2 v3 => by
  obtain ⟨k, W, lab, I, hW, T, I0⟩ := H.out.2.2.2.2.2.2.2 h q
  have hV := fun n => hW _ (Jaz H.out.2.2.2.1 n)
  have hV' := fun n => hW _ (Jaz H.out.2.2.2.2.2.1 n)
  have hpub' : PubI h m m' := fun c hc hs i hi => hpub c (by rw [k.rl]; exact hc) (by rw [(k.reg c (by rw [k.rl]; exact hc)).2]; exact hs) i hi
  have g1 := k.fits hf1
  have g2 := k.fits hf2
  obtain ⟨q1, q2, q3, q4, q5⟩ := Jak T I0 (flatM m) (flatM m') (Jgr g1 g2 hpub') hV hV' L fuel.toNat
  obtain ⟨su, lu, rfl, hu1, hu2⟩ := hu
  obtain ⟨sv, lv, rfl, hv1, hv2⟩ := hv
  dsimp only at hu1 hu2 hv1 hv2 ⊢
  have hrl6 : h.rl ≤ 6 := k.ok.1.1
  rw [← q1, ← q2, ← q3]
  rw [← q4] at hv1
  refine Jgu _ _ ⟨_, _, _, rfl⟩ ⟨_, _, _, rfl⟩ _ _ _ su sv _ _ w1 (J7f hu1) (J7f hv1) ⟨_, _, _, rfl⟩ ⟨_, _, _, rfl⟩ (fun w2 m2 => Jh1 su sv _ w2 (hu1.more m2) (hv1.more m2)) (fun w2 m2 => ?_)
  refine J6i h lh mm mm' lu lv w2 (hin.more m2) (hu2.more m2) (hv2.more m2) (u1.trans g1.2.1) (v1.trans g2.2.1) hrl6 (fun c hc => ?_) true ⟨fun _ => Jgq g1 g2 u2 u3 v3 q5, fun _ => rfl⟩
  rw [u2, v2]
  have e1 := g1.2.2 c hc
  have e2 := g2.2.2 c hc
  have e3 := k.ok.1.2 c hc
  have e4 := J2j (k := (h.log c).toNat) (by omega)
  unfold J0h at e1 e2
  exact ⟨by omega, by omega⟩
 clear H
 obtain ⟨ra, Hra⟩ : ∃ x, Hid (l.ra = x) := ⟨_, rfl⟩
 obtain ⟨rl, Hrl⟩ : ∃ x, Hid (p.rl = x) := ⟨_, rfl⟩
 obtain ⟨rc, Hrc⟩ : ∃ x, Hid (l.rc = x) := ⟨_, rfl⟩
 obtain ⟨ca, Hca⟩ : ∃ x, Hid (l.ca = x) := ⟨_, rfl⟩
 obtain ⟨cl, Hcl⟩ : ∃ x, Hid (p.cl = x) := ⟨_, rfl⟩
 obtain ⟨cc, Hcc⟩ : ∃ x, Hid (l.cc = x) := ⟨_, rfl⟩
 obtain ⟨mv, Hmv⟩ : ∃ x, Hid (Value.slice ml.ma m.ml ml.mc = x) := ⟨_, rfl⟩
 obtain ⟨nv, Hnv⟩ : ∃ x, Hid (Value.slice ml'.ma m'.ml ml'.mc = x) := ⟨_, rfl⟩
 obtain ⟨sv, Hsv⟩ : ∃ x, Hid (Value.slice sa sn sc = x) := ⟨_, rfl⟩
 obtain ⟨FA, HFA⟩ : ∃ x : Prop, Hid (J1m p.rl p.log m.ml m.len = x) := ⟨_, rfl⟩
 obtain ⟨FB, HFB⟩ : ∃ x : Prop, Hid (J1m p.rl p.log m'.ml m'.len = x) := ⟨_, rfl⟩
 unfold Makes at CK
 rw [HFA.out] at CF CU CH HS
 rw [HFB.out] at CG CU CH HS
 rw [Hmv.out] at CF CU CH
 rw [Hnv.out] at CG CU CH
 rw [Hsv.out] at CS CH
 rw [Hra.out, Hrl.out, Hrc.out, Hca.out, Hcl.out, Hcc.out] at C1 CF CG CU CK CH
 rw [Hra.out, Hrl.out, Hrc.out, Hca.out, Hcl.out, Hcc.out, Hmv.out, Hnv.out, Hsv.out]
 clear Hmv Hnv Hsv HFA HFB Hra Hrl Hrc Hca Hcl Hcc
 go_enter Try.func5, Try.ntmps5
 go_wp2_with (fail)
 refine (C1.out _ ((More.refl _).alloc _ _)).mono ?_
 rintro e w1 ⟨⟨f1, f2⟩, hT, rfl, m1⟩
 dsimp only at hT ⊢
 have Hm1 : Hid (More w w1) := ((More.refl _).alloc _ _).trans m1
 have Hp1 : Hid (Blk w1 w.heap.size #[.slice ra rl rc, .slice ca cl cc] 25) := (Blk.last _ _ _).more m1
 have HT : Hid (Told p (f1, f2)) := hT
 clear m1 hT C1
 by_cases h0 : f1 = 0
 ·subst h0
  obtain ⟨hok, lk, hk, hk0⟩ := HT.out.ok rfl
  have HO : Hid (p.Ok 200 8 ∧ Known p lk ∧ (J0c p lk).1 = 0) := ⟨hok, hk, hk0⟩
  clear hok hk hk0 HT
  have c0 : w1.cell? ⟨w.heap.size, 0, none⟩ = some (.slice ra rl rc) := Hp1.out.cell rfl
  have c1 : w1.cell? ⟨w.heap.size, 1, none⟩ = some (.slice ca cl cc) := Hp1.out.cell rfl
  have z1 := Hp1.out.lt
  by_cases hA : FA
  ·have D : Hid (∀ w1 : World, More w w1 → Calls Try.prog 12 #[.agg #[.slice ra rl rc, .slice ca cl cc], mv] w1 fun e w' => e = .returned (.bool true) ∧ More w1 w') := CF.out true ⟨fun _ => hA, fun _ => rfl⟩
   clear CF
   go_wp2_with (fail)
   refine (D.out _ (Hm1.out.alloc _ _)).mono ?_
   rintro e w2 ⟨rfl, m_⟩
   have Hm2 : Hid (More w w2) := (Hm1.out.alloc _ _).trans m_
   have Hp2 : Hid (Blk w2 w.heap.size #[.slice ra rl rc, .slice ca cl cc] 25) := (Hp1.out.alloc _ _).more m_
   clear m_ c0 c1 z1 D
   have c0 : w2.cell? ⟨w.heap.size, 0, none⟩ = some (.slice ra rl rc) := Hp2.out.cell rfl
   have c1 : w2.cell? ⟨w.heap.size, 1, none⟩ = some (.slice ca cl cc) := Hp2.out.cell rfl
   by_cases hB : FB
   ·have D : Hid (∀ w1 : World, More w w1 → Calls Try.prog 12 #[.agg #[.slice ra rl rc, .slice ca cl cc], nv] w1 fun e w' => e = .returned (.bool true) ∧ More w1 w') := CG.out true ⟨fun _ => hB, fun _ => rfl⟩
    clear CG
    go_wp2_with (fail)
    refine (D.out _ Hm2.out).mono ?_
    rintro e w3 ⟨rfl, m_⟩
    have Hm3 : Hid (More w w3) := Hm2.out.trans m_
    have Hp3 : Hid (Blk w3 w.heap.size #[.slice ra rl rc, .slice ca cl cc] 25) := Hp2.out.more m_
    clear m_ c0 c1 D
    have c0 : w3.cell? ⟨w.heap.size, 0, none⟩ = some (.slice ra rl rc) := Hp3.out.cell rfl
    have c1 : w3.cell? ⟨w.heap.size, 1, none⟩ = some (.slice ca cl cc) := Hp3.out.cell rfl
    by_cases hU : PubI p m m'
    ·have D : Hid (∀ w1 : World, More w w1 → Calls Try.prog 15 #[.agg #[.slice ra rl rc, .slice ca cl cc], mv, nv] w1 fun e w' => e = .returned (.bool true) ∧ More w1 w') := CU.out HO.out.1 hA hB true ⟨fun _ => hU, fun _ => rfl⟩
     clear CU
     go_wp2_with (fail)
     refine (D.out _ Hm3.out).mono ?_
     rintro e w4 ⟨rfl, m_⟩
     have Hm4 : Hid (More w w4) := Hm3.out.trans m_
     have Hp4 : Hid (Blk w4 w.heap.size #[.slice ra rl rc, .slice ca cl cc] 25) := Hp3.out.more m_
     clear m_ c0 c1 D
     have c0 : w4.cell? ⟨w.heap.size, 0, none⟩ = some (.slice ra rl rc) := Hp4.out.cell rfl
     have c1 : w4.cell? ⟨w.heap.size, 1, none⟩ = some (.slice ca cl cc) := Hp4.out.cell rfl
     by_cases hS : ScOk L
     ·have D : Hid (∀ w1 : World, More w w1 → Calls Try.prog 16 #[sv] w1 fun e w' => e = .returned (.bool true) ∧ More w1 w') := CS.out true ⟨fun _ => hS, fun _ => rfl⟩
      clear CS
      go_wp2_with (fail)
      refine (D.out _ Hm4.out).mono ?_
      rintro e w5 ⟨rfl, m_⟩
      have Hm5 : Hid (More w w5) := Hm4.out.trans m_
      have Hp5 : Hid (Blk w5 w.heap.size #[.slice ra rl rc, .slice ca cl cc] 25) := Hp4.out.more m_
      clear m_ c0 c1 D
      have c0 : w5.cell? ⟨w.heap.size, 0, none⟩ = some (.slice ra rl rc) := Hp5.out.cell rfl
      have c1 : w5.cell? ⟨w.heap.size, 1, none⟩ = some (.slice ca cl cc) := Hp5.out.cell rfl
      by_cases hf0 : fuel < 0
      ·have d0 : decide (fuel < 0) = true := by simp [hf0]
       have Hend : Hid (P (.returned (.bool true)) w5) := HP.out _ Hm5.out
       clear CK CH HS HP
       go_wp2
       exact Hend.out
      have d0 : decide (fuel < 0) = false := by simp; omega
      by_cases hf1 : 4000 < fuel
      ·have d1 : decide (4000 < fuel) = true := by simp [hf1]
       have Hend : Hid (P (.returned (.bool true)) w5) := HP.out _ Hm5.out
       clear CK CH HS HP
       go_wp2
       exact Hend.out
      have d1 : decide (4000 < fuel) = false := by simp; omega
      have CK1 := CK.out HO.out.1 lk HO.out.2.1 HO.out.2.2
      have CK2 : Hid (∀ w1 : World, More w w1 → Calls Try.prog 6 #[.agg #[.slice ra rl rc, .slice ca cl cc]] w1 fun e w' => ∃ (h : Prg) (lh : Loc), Q h ∧ PIn w' h lh ∧ e = .returned (.tuple #[.agg #[.slice lh.ra h.rl lh.rc, .slice lh.ca h.cl lh.cc], .agg #[.int .i64 0, .int .i64 0]]) ∧ More w1 w') := CK1
      clear CK CK1
      go_wp2_with (fail)
      refine (CK2.out _ Hm5.out).mono ?_
      rintro e w6 ⟨h, lh, hq, hin, rfl, m6⟩
      have CH1 : Hid (∀ w1 : World, More w w1 → PIn w1 h lh → _) := CH.out h lh hq HO.out.1 hA hB hU hS (by omega) (by omega)
      have HS1 := HS.out h lh hq HO.out.1 hA hB hU
      obtain ⟨X, HX⟩ : ∃ X, Hid (playS h (flatM m) L fuel.toNat = X) := ⟨_, rfl⟩
      obtain ⟨Y, HY⟩ : ∃ Y, Hid (playS h (flatM m') L fuel.toNat = Y) := ⟨_, rfl⟩
      rw [HX.out, HY.out] at CH1 HS1
      have HS2 : Hid (∀ u v mm mm' w1, PIn w1 h lh → ShownAt w1 u ⟨X.fin, X.val, X.steps, X.seen, mm⟩ → mm.ml = m.ml → (∀ j, mm.len j = m.len j) → (∀ j, j < m.ml → ∀ i, i < m.len j → mm.wd j i = X.wd (baseN m.len j + i)) →
        ShownAt w1 v ⟨Y.fin, Y.val, Y.steps, Y.seen, mm'⟩ → mm'.ml = m'.ml → (∀ j, mm'.len j = m'.len j) → (∀ j, j < m'.ml → ∀ i, i < m'.len j → mm'.wd j i = Y.wd (baseN m'.len j + i)) →
        Calls Try.prog 18 #[.agg #[.slice lh.ra h.rl lh.rc, .slice lh.ca h.cl lh.cc], u, v] w1 fun e w' => e = .returned (.bool true) ∧ More w1 w') := HS1
      clear CH HS HS1
      have Hm6 : Hid (More w w6) := Hm5.out.trans m6
      have Hp6 : Hid (Blk w6 w.heap.size #[.slice ra rl rc, .slice ca cl cc] 25) := Hp5.out.more m6
      have Hin6 : Hid (PIn w6 h lh) := hin
      obtain ⟨ra', Hra'⟩ : ∃ x, Hid (lh.ra = x) := ⟨_, rfl⟩
      obtain ⟨rl', Hrl'⟩ : ∃ x, Hid (h.rl = x) := ⟨_, rfl⟩
      obtain ⟨rc', Hrc'⟩ : ∃ x, Hid (lh.rc = x) := ⟨_, rfl⟩
      obtain ⟨ca', Hca'⟩ : ∃ x, Hid (lh.ca = x) := ⟨_, rfl⟩
      obtain ⟨cl', Hcl'⟩ : ∃ x, Hid (h.cl = x) := ⟨_, rfl⟩
      obtain ⟨cc', Hcc'⟩ : ∃ x, Hid (lh.cc = x) := ⟨_, rfl⟩
      rw [Hra'.out, Hrl'.out, Hrc'.out, Hca'.out, Hcl'.out, Hcc'.out] at CH1 HS2 ⊢
      clear hin hq m6 c0 c1 CK2 HX HY
      have c0 : w6.cell? ⟨w.heap.size, 0, none⟩ = some (.slice ra rl rc) := Hp6.out.cell rfl
      have c1 : w6.cell? ⟨w.heap.size, 1, none⟩ = some (.slice ca cl cc) := Hp6.out.cell rfl
      have z6 := Hp6.out.lt
      obtain ⟨w7, Hw7⟩ : ∃ w_ : World, Hid (w_ = (w6.alloc (.cells #[.slice ra' rl' rc', .slice ca' cl' cc'] 25)).alloc (.cells #[.int .i64 0, .int .i64 0] 28)) := ⟨_, rfl⟩
      have Hm7 : Hid (More w6 w7) := by rw [Hw7.out]; exact ((More.refl _).alloc _ _).alloc _ _
      have Hb7 : Hid (Blk w7 w6.heap.size #[.slice ra' rl' rc', .slice ca' cl' cc'] 25) := by rw [Hw7.out]; exact (Blk.last _ _ _).alloc _ _
      go_wp2_with (fail)
      rw [← Hw7.out]
      refine (CH1.out w7 (Hm6.out.trans Hm7.out) (Hin6.out.more Hm7.out)).1.mono ?_
      rintro e w8 ⟨rfl, m8⟩
      have Hm8 : Hid (More w6 w8) := Hm7.out.trans m8
      have Hb8 : Hid (Blk w8 w6.heap.size #[.slice ra' rl' rc', .slice ca' cl' cc'] 25) := Hb7.out.more m8
      have Hp8 : Hid (Blk w8 w.heap.size #[.slice ra rl rc, .slice ca cl cc] 25) := Hp6.out.more Hm8.out
      clear m8 c0 c1 z6
      have c0 : w8.cell? ⟨w.heap.size, 0, none⟩ = some (.slice ra rl rc) := Hp8.out.cell rfl
      have c1 : w8.cell? ⟨w.heap.size, 1, none⟩ = some (.slice ca cl cc) := Hp8.out.cell rfl
      have b0 : w8.cell? ⟨w6.heap.size, 0, none⟩ = some (.slice ra' rl' rc') := Hb8.out.cell rfl
      have b1 : w8.cell? ⟨w6.heap.size, 1, none⟩ = some (.slice ca' cl' cc') := Hb8.out.cell rfl
      go_wp2_with (fail)
      refine (CH1.out w8 (Hm6.out.trans Hm8.out) (Hin6.out.more Hm8.out)).2.1.mono ?_
      rintro e w9 ⟨rfl, m9⟩
      have Hm9 : Hid (More w6 w9) := Hm8.out.trans m9
      have Hb9 : Hid (Blk w9 w6.heap.size #[.slice ra' rl' rc', .slice ca' cl' cc'] 25) := Hb8.out.more m9
      clear m9 c0 c1 b0 b1
      have b0 : w9.cell? ⟨w6.heap.size, 0, none⟩ = some (.slice ra' rl' rc') := Hb9.out.cell rfl
      have b1 : w9.cell? ⟨w6.heap.size, 1, none⟩ = some (.slice ca' cl' cc') := Hb9.out.cell rfl
      go_wp2_with (fail)
      refine (CH1.out w9 (Hm6.out.trans Hm9.out) (Hin6.out.more Hm9.out)).2.2.1.mono ?_
      rintro e wa ⟨u, mm, rfl, hu, u1, u2, u3, ma⟩
      have hu0 := hu
      obtain ⟨su, lu, rfl, hu1, hu2⟩ := hu
      obtain ⟨xa, xb, xo, xc, rfl, _⟩ := hu1
      dsimp only at hu0 ⊢
      obtain ⟨x1, hx1⟩ : ∃ x, X.fin = x := ⟨_, rfl⟩
      obtain ⟨x2, hx2⟩ : ∃ x, X.val = x := ⟨_, rfl⟩
      obtain ⟨x3, hx3⟩ : ∃ x, X.steps = x := ⟨_, rfl⟩
      obtain ⟨x4, hx4⟩ : ∃ x, X.seen.length = x := ⟨_, rfl⟩
      obtain ⟨x5, hx5⟩ : ∃ x, mm.ml = x := ⟨_, rfl⟩
      have Hx : Hid (X.fin = x1 ∧ X.val = x2 ∧ X.steps = x3) := ⟨hx1, hx2, hx3⟩
      have Hu3 : Hid (mm.ml = m.ml ∧ (∀ j, mm.len j = m.len j) ∧ ∀ j, j < m.ml → ∀ i, i < m.len j → mm.wd j i = X.wd (baseN m.len j + i)) := ⟨u1, u2, u3⟩
      have Hu : Hid (ShownAt wa (.agg #[.int .i64 x1, .int .i64 x2, .int .i64 x3, .slice xa x4 xc, .slice lu.ma x5 lu.mc]) ⟨X.fin, X.val, X.steps, X.seen, mm⟩) := by
       have q := hu0
       rw [hx4, hx5] at q
       rw [← hx1, ← hx2, ← hx3]
       exact q
      rw [hx1, hx2, hx3, hx4, hx5]
      have Hma : Hid (More w6 wa) := Hm9.out.trans ma
      have Hba : Hid (Blk wa w6.heap.size #[.slice ra' rl' rc', .slice ca' cl' cc'] 25) := Hb9.out.more ma
      obtain ⟨wb, Hwb⟩ : ∃ w_ : World, Hid (w_ = wa.alloc (.cells #[.int .i64 x1, .int .i64 x2, .int .i64 x3, .slice xa x4 xc, .slice lu.ma x5 lu.mc] 39)) := ⟨_, rfl⟩
      have Hmb : Hid (More wa wb) := Hwb.out ▸ (More.refl _).alloc _ _
      have Hcb : Hid (Blk wb wa.heap.size #[.int .i64 x1, .int .i64 x2, .int .i64 x3, .slice xa x4 xc, .slice lu.ma x5 lu.mc] 39) := Hwb.out ▸ Blk.last _ _ _
      clear hu0 hu2 ma hx1 hx2 hx3 hx4 hx5 u1 u2 u3 b0 b1
      have b0 : wa.cell? ⟨w6.heap.size, 0, none⟩ = some (.slice ra' rl' rc') := Hba.out.cell rfl
      have b1 : wa.cell? ⟨w6.heap.size, 1, none⟩ = some (.slice ca' cl' cc') := Hba.out.cell rfl
      have za := Hba.out.lt
      go_wp2_with (fail)
      rw [← Hwb.out]
      refine (CH1.out wb (Hm6.out.trans (Hma.out.trans Hmb.out)) (Hin6.out.more (Hma.out.trans Hmb.out))).2.2.2.mono ?_
      rintro e wc ⟨v, mm', rfl, hv, v1, v2, v3, mc⟩
      have hv0 := hv
      obtain ⟨sv_, lv, rfl, hv1, hv2⟩ := hv
      obtain ⟨ya, yb, yo, yc, rfl, _⟩ := hv1
      dsimp only at hv0 ⊢
      obtain ⟨y1, hy1⟩ : ∃ x, Y.fin = x := ⟨_, rfl⟩
      obtain ⟨y2, hy2⟩ : ∃ x, Y.val = x := ⟨_, rfl⟩
      obtain ⟨y3, hy3⟩ : ∃ x, Y.steps = x := ⟨_, rfl⟩
      obtain ⟨y4, hy4⟩ : ∃ x, Y.seen.length = x := ⟨_, rfl⟩
      obtain ⟨y5, hy5⟩ : ∃ x, mm'.ml = x := ⟨_, rfl⟩
      have Hv : ShownAt wc (.agg #[.int .i64 y1, .int .i64 y2, .int .i64 y3, .slice ya y4 yc, .slice lv.ma y5 lv.mc]) ⟨Y.fin, Y.val, Y.steps, Y.seen, mm'⟩ := by
       have q := hv0
       rw [hy4, hy5] at q
       rw [← hy1, ← hy2, ← hy3]
       exact q
      rw [hy1, hy2, hy3, hy4, hy5]
      obtain ⟨wd, Hwd⟩ : ∃ w_ : World, Hid (w_ = wc.alloc (.cells #[.int .i64 y1, .int .i64 y2, .int .i64 y3, .slice ya y4 yc, .slice lv.ma y5 lv.mc] 39)) := ⟨_, rfl⟩
      have Hmd : Hid (More wc wd) := Hwd.out ▸ (More.refl _).alloc _ _
      have HMd : Hid (More w6 wd) := (Hma.out.trans Hmb.out).trans (mc.trans Hmd.out)
      have CQ : Hid (Calls Try.prog 18 #[.agg #[.slice ra' rl' rc', .slice ca' cl' cc'], .agg #[.int .i64 x1, .int .i64 x2, .int .i64 x3, .slice xa x4 xc, .slice lu.ma x5 lu.mc], .agg #[.int .i64 y1, .int .i64 y2, .int .i64 y3, .slice ya y4 yc, .slice lv.ma y5 lv.mc]] wd fun e w' => e = .returned (.bool true) ∧ More wd w') :=
       HS2.out _ _ mm mm' wd (Hin6.out.more HMd.out) (Hu.out.more (Hmb.out.trans (mc.trans Hmd.out))) Hu3.out.1 Hu3.out.2.1 Hu3.out.2.2 (Hv.more Hmd.out) v1 v2 v3
      have Hcc_ : Hid (Blk wc wa.heap.size #[.int .i64 x1, .int .i64 x2, .int .i64 x3, .slice xa x4 xc, .slice lu.ma x5 lu.mc] 39) := Hcb.out.more mc
      have Hbc : Hid (Blk wc w6.heap.size #[.slice ra' rl' rc', .slice ca' cl' cc'] 25) := Hba.out.more (Hmb.out.trans mc)
      clear hv0 hv2 mc hy1 hy2 hy3 hy4 hy5 v1 v2 v3 Hv b0 b1 za CH1 HS2
      have a0 : wc.cell? ⟨wa.heap.size, 0, none⟩ = some (.int .i64 x1) := Hcc_.out.cell rfl
      have a1 : wc.cell? ⟨wa.heap.size, 1, none⟩ = some (.int .i64 x2) := Hcc_.out.cell rfl
      have a2 : wc.cell? ⟨wa.heap.size, 2, none⟩ = some (.int .i64 x3) := Hcc_.out.cell rfl
      have a3 : wc.cell? ⟨wa.heap.size, 3, none⟩ = some (.slice xa x4 xc) := Hcc_.out.cell rfl
      have a4 : wc.cell? ⟨wa.heap.size, 4, none⟩ = some (.slice lu.ma x5 lu.mc) := Hcc_.out.cell rfl
      have b0 : wc.cell? ⟨w6.heap.size, 0, none⟩ = some (.slice ra' rl' rc') := Hbc.out.cell rfl
      have b1 : wc.cell? ⟨w6.heap.size, 1, none⟩ = some (.slice ca' cl' cc') := Hbc.out.cell rfl
      have zc := Hcc_.out.lt
      have zd := Hbc.out.lt
      go_wp2_with (fail)
      rw [← Hwd.out]
      refine CQ.out.mono ?_
      rintro e wz ⟨rfl, mz⟩
      have Hend : Hid (P (.returned (.bool true)) wz) := HP.out _ ((Hm6.out.trans HMd.out).trans mz)
      clear mz CQ a0 a1 a2 a3 a4 b0 b1
      go_wp2
      exact Hend.out
     ·have D : Hid (∀ w1 : World, More w w1 → Calls Try.prog 16 #[sv] w1 fun e w' => e = .returned (.bool false) ∧ More w1 w') := CS.out false ⟨fun q => absurd q (by simp), fun q => absurd q hS⟩
      clear CS CK CH HS
      go_wp2_with (fail)
      refine (D.out _ Hm4.out).mono ?_
      rintro e w5 ⟨rfl, m_⟩
      have Hend : Hid (P (.returned (.bool true)) w5) := HP.out _ (Hm4.out.trans m_)
      clear m_ D
      go_wp2
      exact Hend.out
    ·have D : Hid (∀ w1 : World, More w w1 → Calls Try.prog 15 #[.agg #[.slice ra rl rc, .slice ca cl cc], mv, nv] w1 fun e w' => e = .returned (.bool false) ∧ More w1 w') := CU.out HO.out.1 hA hB false ⟨fun q => absurd q (by simp), fun q => absurd q hU⟩
     clear CU CS CK CH HS
     go_wp2_with (fail)
     refine (D.out _ Hm3.out).mono ?_
     rintro e w4 ⟨rfl, m_⟩
     have Hend : Hid (P (.returned (.bool true)) w4) := HP.out _ (Hm3.out.trans m_)
     clear m_ D
     go_wp2
     exact Hend.out
   ·have D : Hid (∀ w1 : World, More w w1 → Calls Try.prog 12 #[.agg #[.slice ra rl rc, .slice ca cl cc], nv] w1 fun e w' => e = .returned (.bool false) ∧ More w1 w') := CG.out false ⟨fun q => absurd q (by simp), fun q => absurd q hB⟩
    clear CG CU CS CK CH HS
    go_wp2_with (fail)
    refine (D.out _ Hm2.out).mono ?_
    rintro e w3 ⟨rfl, m_⟩
    have Hend : Hid (P (.returned (.bool true)) w3) := HP.out _ (Hm2.out.trans m_)
    clear m_ D
    go_wp2
    exact Hend.out
  ·have D : Hid (∀ w1 : World, More w w1 → Calls Try.prog 12 #[.agg #[.slice ra rl rc, .slice ca cl cc], mv] w1 fun e w' => e = .returned (.bool false) ∧ More w1 w') := CF.out false ⟨fun q => absurd q (by simp), fun q => absurd q hA⟩
   clear CF CG CU CS CK CH HS
   go_wp2_with (fail)
   refine (D.out _ (Hm1.out.alloc _ _)).mono ?_
   rintro e w2 ⟨rfl, m_⟩
   have Hend : Hid (P (.returned (.bool true)) w2) := HP.out _ ((Hm1.out.alloc _ _).trans m_)
   clear m_ D
   go_wp2
   exact Hend.out
 ·have e0 : (f1 == 0) = false := by simp [h0]
  have e1 : (f1 != 0) = true := by simp [h0]
  have Hend : Hid (∀ w', More w1 w' → P (.returned (.bool true)) w') := fun w' m' => HP.out _ (Hm1.out.trans m')
  clear h0 CF CG CU CS CK CH HS HT
  go_wp2
  exact Hend.out _ ((More.refl _).alloc _ _)
end
section
open Go.RowKit
set_option linter.unusedSimpArgs false
set_option linter.unusedVariables false
section
variable {p h : Prg} {st : Nat → Nat} {X : Int} {l : KV}

variable {lab : Nat → Nat → Bool}
theorem Jdj (x y : Kn) : (Kn.less x y).s = x.s := rfl
theorem Jek {s : KS} {a : Int} {v : Kn} (hv : v.s = (s a.toNat).s) (j : Nat) : (setK s a v j).s = (s j).s := by
 unfold setK
 split
 ·rename_i e; rw [e]; exact hv
 ·rfl
theorem J7o (i : Ins) (s : KS) (j : Nat) : (J1c i s j).s = (s j).s := Jek (Jdj _ _) j
theorem Jbh (i : Ins) (s : KS) (j : Nat) : (J12 i s j).s = (s j).s := Jek (Jdj _ _) j
theorem Jho (i : Ins) (s : KS) (j : Nat) : (bothK i s j).s = (s j).s := by
 unfold bothK
 rw [Jek (by rw [Jdj]; exact (J7o i s _).symm) j, J7o]
theorem yes_s (i : Ins) (s : KS) (j : Nat) : (yesK i s j).s = (s j).s := by
 unfold yesK
 split
 ·exact Jho i s j
 split
 ·rfl
 split
 ·exact J7o i s j
 ·exact Jbh i s j
theorem no_s (i : Ins) (s : KS) (j : Nat) : (noK i s j).s = (s j).s := by
 unfold noK
 split
 ·rfl
 split
 ·exact Jho i s j
 split
 ·exact Jbh i s j
 ·exact J7o i s j

structure Here (p : Prg) (l : KV) (k : Nat) (s : KS) : Prop where
 at_ : k < p.cl
 e : l k = some s
 ins : InsOk p.rl p.log p.cl 8 (p.ins k)
 out : outK p k = false
 bound : J19 p (p.ins k) s = false
 secret : J0f p (p.ins k) s = false
 leads : ∀ x ∈ J0d p k s, x.1 < p.cl → ∃ u, l x.1 = some u ∧ leS x.2 u
theorem J3t (ok : p.Ok 200 8) (hk : Known p l) (hc : (J0c p l).1 = 0) {k : Nat} {s : KS} (ha : k < p.cl) (e : l k = some s) : Here p l k s := by
 have hf := Jat hc ha e
 have : (outK p k || J19 p (p.ins k) s) = false ∧ J0f p (p.ins k) s = false := by
  unfold J0r at hf
  cases h1 : (outK p k || J19 p (p.ins k) s)
  ·cases h2 : J0f p (p.ins k) s
   ·exact ⟨rfl, rfl⟩
   ·rw [h1, h2] at hf; simp at hf
  ·rw [h1] at hf; simp at hf
 have h1 := Bool.or_eq_false_iff.1 this.1
 exact ⟨ha, e, ok.2.2.2 k ha, h1.1, h1.2, this.2, hk.closed.leads k s ha e⟩
theorem Here.next {k : Nat} {s : KS} (H : Here p l k s) (h7 : ¬ (p.ins k).op = 7) (h9 : ¬ (p.ins k).op = 9) : k + 1 < p.cl := by
 have := H.out
 unfold outK at this
 simp [h7, h9] at this
 omega
theorem Here.plain {k : Nat} {s : KS} (H : Here p l k s) (h7 : ¬ (p.ins k).op = 7) (h8 : ¬ (p.ins k).op = 8) (h9 : ¬ (p.ins k).op = 9) : ∃ u, l (k + 1) = some u ∧ leS (nextK p (p.ins k) s) u := by
 have := H.leads (k + 1, nextK p (p.ins k) s) (by unfold J0d; rw [if_neg h7, if_neg h9, if_neg h8]; simp) (H.next h7 h9)
 exact this

theorem J97 {i : Ins} (ha : i.a.toNat < 8) (r : Nat → Int) (j : Nat) (hj : 8 ≤ j) : (regsI r i).1 j = r j := by
 have hs : ∀ v, setR r i.a v j = r j := fun v => by unfold setR; rw [if_neg (by omega)]
 unfold regsI
 split
 ·exact hs _
 split
 ·exact hs _
 split
 ·exact hs _
 split
 ·dsimp only; split
  ·exact hs _
  ·rfl
 split
 ·rfl
 ·exact hs _

end
end
section
open Go.RowKit
set_option linter.unusedSectionVars false
set_option linter.unusedSimpArgs false
set_option linter.unusedVariables false
def sizeF (pre post : Nat → Bool) (k : Nat) : Nat := (pre k).toNat + 1 + (post k).toNat
def J1x : Ins := ⟨12, 0, 0, 0, 0⟩

structure Fnc (p h : Prg) (st : Nat → Nat) (pre post : Nat → Bool) : Prop where
 rl : p.rl = h.rl
 reg : ∀ i, i < p.rl → p.log i = h.log i ∧ p.sec i = h.sec i
 s0 : st 0 = 0
 next : ∀ k, k < p.cl → st (k + 1) = st k + sizeF pre post k
 cl : h.cl = st p.cl
 ahead : ∀ k, k < p.cl → pre k = true → h.ins (st k) = J1x
 behind : ∀ k, k < p.cl → post k = true → h.ins (st k + (pre k).toNat + 1) = J1x
 go : ∀ k, k < p.cl → (p.ins k).op = 7 ∨ (p.ins k).op = 8 → h.ins (st k + (pre k).toNat) = ⟨(p.ins k).op, (p.ins k).a, (p.ins k).b, (p.ins k).c, (st (p.ins k).n.toNat : Int)⟩
 copy : ∀ k, k < p.cl → ¬ ((p.ins k).op = 7 ∨ (p.ins k).op = 8) → h.ins (st k + (pre k).toNat) = p.ins k
 both : ∀ k, k < p.cl → (p.ins k).op = 8 → (pre (p.ins k).n.toNat = true ∨ (p.ins (p.ins k).n.toNat).op = 12) ∧ (post k = true ∨ pre (k + 1) = true ∨ (p.ins (k + 1)).op = 12)

theorem J2b (b : Bool) : (b = true ∧ b.toNat = 1) ∨ (b = false ∧ b.toNat = 0) := by cases b <;> simp
theorem J34 (pre post : Nat → Bool) (k : Nat) : 1 ≤ sizeF pre post k ∧ sizeF pre post k ≤ 3 := by
 unfold sizeF
 rcases J2b (pre k) with ⟨_, a⟩ | ⟨_, a⟩ <;> rcases J2b (post k) with ⟨_, b⟩ | ⟨_, b⟩ <;> omega

section
variable {p h : Prg} {st : Nat → Nat} {pre post : Nat → Bool} {l : KV}

theorem Fnc.mono (S : Fnc p h st pre post) : ∀ (b a : Nat), a < b → b ≤ p.cl → st a + sizeF pre post a ≤ st b
 | 0, a, h1, _ => absurd h1 (Nat.not_lt_zero _)
 | b + 1, a, h1, h2 => by
  have e := S.next b (by omega)
  have := (J34 pre post b).1
  by_cases q : a = b
  ·subst q; omega
  ·have := S.mono b a (by omega) (by omega); omega
theorem Fnc.uniq (S : Fnc p h st pre post) {k k' o o' : Nat} (hk : k < p.cl) (hk' : k' < p.cl) (ho : o < sizeF pre post k) (ho' : o' < sizeF pre post k') (e : st k + o = st k' + o') : k = k' ∧ o = o' := by
 rcases Nat.lt_trichotomy k k' with q | q | q
 ·have := S.mono k' k q (by omega); omega
 ·subst q; exact ⟨rfl, by omega⟩
 ·have := S.mono k k' q (by omega); omega

def nxF (pre : Nat → Bool) (k o : Nat) : Nat := if o ≤ (pre k).toNat then k else k + 1
def PosF (p : Prg) (st : Nat → Nat) (pre post : Nat → Bool) (q n : Nat) : Prop := n < p.cl ∧ ∃ k o, k < p.cl ∧ o < sizeF pre post k ∧ q = st k + o ∧ n = nxF pre k o
theorem Jj9 (S : Fnc p h st pre post) {q n n' : Nat} (a : PosF p st pre post q n) (b : PosF p st pre post q n') : n = n' := by
 obtain ⟨_, k, o, a1, a2, a3, a4⟩ := a
 obtain ⟨_, k', o', b1, b2, b3, b4⟩ := b
 obtain ⟨rfl, rfl⟩ := S.uniq a1 b1 a2 b2 (a3.symm.trans b3)
 rw [a4, b4]
theorem J6h {n : Nat} (hn : n < p.cl) : PosF p st pre post (st n) n := ⟨hn, n, 0, hn, (J34 pre post n).1, rfl, by unfold nxF; rw [if_pos (Nat.zero_le _)]⟩

theorem Fnc.stop (S : Fnc p h st pre post) {k : Nat} (hk : k < p.cl) (f : pre k = true ∨ (p.ins k).op = 12) : Stop h (st k) := by
 cases c : pre k with
 | true => exact .inr (.inr (by rw [S.ahead k hk c]; rfl))
 | false =>
  rw [c] at f
  have f12 : (p.ins k).op = 12 := by simpa using f
  have e := S.copy k hk (by omega)
  rw [c] at e
  exact .inr (.inr (by rw [show st k = st k + false.toNat from rfl, e]; exact f12))

theorem J31 (S : Fnc p h st pre post) {q n : Nat} (a : PosF p st pre post q n) :
  (h.ins q = J1x ∧ PosF p st pre post (q + 1) n) ∨
  (((((p.ins n).op = 7 ∨ (p.ins n).op = 8) ∧ h.ins q = ⟨(p.ins n).op, (p.ins n).a, (p.ins n).b, (p.ins n).c, (st (p.ins n).n.toNat : Int)⟩) ∨ (¬ ((p.ins n).op = 7 ∨ (p.ins n).op = 8) ∧ h.ins q = p.ins n)) ∧
   (n + 1 < p.cl → PosF p st pre post (q + 1) (n + 1) ∧ ((p.ins n).op = 8 → Stop h (q + 1)))) := by
 obtain ⟨hn, k, o, a1, a2, rfl, a4⟩ := a
 have e := S.next k a1
 have bp := J2b (pre k)
 have bq := J2b (post k)
 have sz : sizeF pre post k = (pre k).toNat + 1 + (post k).toNat := rfl
 unfold nxF at a4
 by_cases c : o ≤ (pre k).toNat
 ·rw [if_pos c] at a4
  subst a4
  by_cases d : o = (pre n).toNat
  ·right
   subst d
   refine ⟨?_, fun hn1 => ?_⟩
   ·by_cases w : (p.ins n).op = 7 ∨ (p.ins n).op = 8
    ·exact .inl ⟨w, S.go n a1 w⟩
    ·exact .inr ⟨w, S.copy n a1 w⟩
   ·rcases bq with ⟨t, u⟩ | ⟨t, u⟩
    ·refine ⟨⟨hn1, n, (pre n).toNat + 1, a1, by omega, rfl, by unfold nxF; rw [if_neg (by omega)]⟩, fun _ => .inr (.inr ?_)⟩
     rw [S.behind n a1 t]; rfl
    ·have e2 : st n + (pre n).toNat + 1 = st (n + 1) := by omega
     rw [e2]
     refine ⟨J6h hn1, fun h8 => S.stop hn1 ?_⟩
     have := (S.both n a1 h8).2
     rw [t] at this
     simpa using this
  ·left
   rcases bp with ⟨t, u⟩ | ⟨t, u⟩
   ·obtain rfl : o = 0 := by omega
    exact ⟨S.ahead n a1 t, hn, n, 1, a1, by omega, rfl, by unfold nxF; rw [if_pos (by omega)]⟩
   ·omega
 ·rw [if_neg c] at a4
  subst a4
  left
  have u : post k = true ∧ o = (pre k).toNat + 1 := by
   rcases bq with ⟨t, u⟩ | ⟨t, u⟩
   ·exact ⟨t, by omega⟩
   ·omega
  obtain ⟨u, rfl⟩ := u
  rw [← Nat.add_assoc]
  refine ⟨S.behind k a1 u, ?_⟩
  have e2 : st k + (pre k).toNat + 1 + 1 = st (k + 1) := by rw [u] at sz; simp at sz; omega
  rw [e2]
  exact J6h hn

def FnI (p : Prg) (st : Nat → Nat) (pre post : Nat → Bool) (l : KV) (q : Nat) (r : Nat → Int) : Prop := ∃ n s, PosF p st pre post q n ∧ l n = some s ∧ HasS s r ∧ ∀ j, j < 10 → B64 (r j)
def FnSec (p : Prg) (st : Nat → Nat) (pre post : Nat → Bool) (l : KV) (q j : Nat) : Prop := ∃ n s, PosF p st pre post q n ∧ l n = some s ∧ j < 8 ∧ (s j).s = true

variable {lab : Nat → Nat → Bool}
theorem J8d (S : Fnc p h st pre post) (hl : ∀ q j, lab q j = true ↔ FnSec p st pre post l q j) {q n : Nat} {s : KS} (hq : PosF p st pre post q n) (e : l n = some s) (j : Nat) : lab q j = true ↔ j < 8 ∧ (s j).s = true := by
 rw [hl]
 constructor
 ·rintro ⟨n', s', h1, h4, h5, h6⟩
  obtain rfl := Jj9 S hq h1
  rw [e] at h4; cases h4
  exact ⟨h5, h6⟩
 ·rintro ⟨h5, h6⟩
  exact ⟨n, s, hq, e, h5, h6⟩
theorem J53 (S : Fnc p h st pre post) (hl : ∀ q j, lab q j = true ↔ FnSec p st pre post l q j) {q n : Nat} {s : KS} (hq : PosF p st pre post q n) (e : l n = some s) (j : Nat) : lab q j = false ↔ (j < 8 → (s j).s = false) := by
 have := J8d S hl hq e j
 cases c : lab q j with
 | true =>
  rw [c] at this
  have t := this.1 rfl
  exact ⟨fun w => (by cases w), fun w => absurd t.2 (by rw [w t.1]; simp)⟩
 | false =>
  rw [c] at this
  refine ⟨fun _ hj => ?_, fun _ => rfl⟩
  cases q2 : (s j).s with
  | false => rfl
  | true => exact absurd (this.2 ⟨hj, q2⟩) (by simp)
theorem J8e (S : Fnc p h st pre post) (hl : ∀ q j, lab q j = true ↔ FnSec p st pre post l q j) {q n : Nat} {s : KS} (hq : PosF p st pre post q n) (e : l n = some s) {r t : Nat → Int} (hr : ∀ j, j < 10 → lab q j = false → r j = t j) : EqS s r t ∧ ∀ j, 8 ≤ j → j < 10 → r j = t j :=
 ⟨fun j hj c => hr j (by omega) ((J53 S hl hq e j).2 (fun _ => c)), fun j h8 h10 => hr j h10 ((J53 S hl hq e j).2 (fun c => by omega))⟩
theorem Jbv (S : Fnc p h st pre post) (hl : ∀ q j, lab q j = true ↔ FnSec p st pre post l q j) {q n : Nat} {s : KS} (hq : PosF p st pre post q n) (e : l n = some s) {r t : Nat → Int} (h1 : EqS s r t) (h2 : ∀ j, 8 ≤ j → j < 10 → r j = t j) : ∀ j, j < 10 → lab q j = false → r j = t j := fun j hj c => by
 by_cases h8 : j < 8
 ·exact h1 j h8 ((J53 S hl hq e j).1 c h8)
 ·exact h2 j (by omega) hj
theorem J5z (S : Fnc p h st pre post) (hl : ∀ q j, lab q j = true ↔ FnSec p st pre post l q j) {q n q' n' : Nat} {s u : KS} (hq : PosF p st pre post q n) (e : l n = some s) (hq' : PosF p st pre post q' n') (e' : l n' = some u) {j : Nat} (hu : j < 8 → (s j).s = true → (u j).s = true) : lab q j = true → lab q' j = true := fun c => by
 have := (J8d S hl hq e j).1 c
 exact (J8d S hl hq' e' j).2 ⟨this.1, hu this.1 this.2⟩

def memC (p : Prg) (v : Int) : Mem := ⟨p.rl, fun i => (J0h (p.log i)).toNat, fun _ _ => v⟩
theorem J8r (ok : p.Ok 200 8) (hn : ∀ i, i < p.cl → B64 (p.ins i).n) (hk : Known p l) (hc : (J0c p l).1 = 0) (v : Int) : Good p (memC p v) l :=
 ⟨ok, hn, ⟨ok.1, rfl, fun i _ => by have := J58 (p.log i); show ((J0h (p.log i)).toNat : Int) = _; omega⟩, hk, hc⟩
theorem J7a {n : Nat} {s : KS} {r : Nat → Int} (hn : n < p.cl) (e : l n = some s) (hs : HasS s r) (hr : ∀ j, j < 10 → B64 (r j)) {v : Int} (hv : B64 v) : Sound p (memC p v) l ⟨n, r, memC p v, []⟩ :=
 ⟨hn, ⟨s, e, hs⟩, hr, rfl, fun _ => rfl, fun _ _ _ _ => hv⟩

theorem Jd2 (ok : p.Ok 200 8) (hn : ∀ i, i < p.cl → B64 (p.ins i).n) (hk : Known p l) (hc : (J0c p l).1 = 0) {n : Nat} {s : KS} {r : Nat → Int} (h1 : n < p.cl) (e : l n = some s) (hs : HasS s r) (hr : ∀ j, j < 10 → B64 (r j)) {v : Int} (hv : B64 v) {s' : St} (es : stepI p ⟨n, r, memC p v, []⟩ = (s', none)) :
  s'.at_ < p.cl ∧ ∃ u, l s'.at_ = some u ∧ HasS u s'.r ∧ ∀ j, j < 10 → B64 (s'.r j) := by
 rcases (J8r ok hn hk hc v).step (J7a h1 e hs hr hv) with ⟨_, _, es', _⟩ | ⟨s1, es1, S1⟩
 ·rw [es] at es'; simp at es'
 ·rw [es] at es1
  obtain ⟨rfl, _⟩ := Prod.mk.inj es1
  obtain ⟨u, eu, hu⟩ := S1.kn
  exact ⟨S1.at_, u, eu, hu, S1.r⟩
theorem J7r (ok : p.Ok 200 8) (hn : ∀ i, i < p.cl → B64 (p.ins i).n) (hk : Known p l) (hc : (J0c p l).1 = 0) {n : Nat} {s : KS} {r : Nat → Int} (h1 : n < p.cl) (e : l n = some s) (hs : HasS s r) (hr : ∀ j, j < 10 → B64 (r j)) (hop : (p.ins n).op = 3 ∨ (p.ins n).op = 4 ∨ (p.ins n).op = 5 ∨ (p.ins n).op = 6) (v : Int) (hv : B64 v) :
  ¬ (idxI r (p.ins n) < 0 ∨ ((memC p v).len (p.ins n).c.toNat : Int) ≤ idxI r (p.ins n)) ∧ (p.ins n).c.toNat < p.rl ∧ 0 ≤ idxI r (p.ins n) ∧ idxI r (p.ins n) < J0h (p.log (p.ins n).c.toNat) := by
 obtain ⟨w1, w2, w3⟩ := (J8r ok hn hk hc v).word (J7a h1 e hs hr hv) e hs hop
 refine ⟨w1, w2, ?_⟩
 have := J58 (p.log (p.ins n).c.toNat)
 have e2 : (((memC p v).len (p.ins n).c.toNat : Nat) : Int) = J0h (p.log (p.ins n).c.toNat) := by show ((J0h (p.log (p.ins n).c.toNat)).toNat : Int) = _; omega
 dsimp only at w1
 rw [e2] at w1
 omega

theorem Jib (ok : p.Ok 200 8) (hn : ∀ i, i < p.cl → B64 (p.ins i).n) (hk : Known p l) (hc : (J0c p l).1 = 0) (S : Fnc p h st pre post) (hl : ∀ q j, lab q j = true ↔ FnSec p st pre post l q j) (q : Nat) (h7 : (h.ins q).op = 7) (r : Nat → Int) (hI : FnI p st pre post l q r) :
  (∀ j, j < 10 → lab q j = true → lab (h.ins q).n.toNat j = true) ∧ FnI p st pre post l (h.ins q).n.toNat r := by
 obtain ⟨n, s, P, e, hs, hr⟩ := hI
 rcases J31 S P with ⟨c, _⟩ | ⟨⟨w, c⟩ | ⟨w, c⟩, P1⟩
 ·rw [c] at h7; exact absurd h7 (by decide)
 ·rw [c] at h7 ⊢
  dsimp only at h7 ⊢
  rw [Int.toNat_natCast]
  have H := J3t ok hk hc P.1 e
  have hin := H.ins
  unfold InsOk Plc at hin
  simp [h7] at hin
  have hn1 : (p.ins n).n.toNat < p.cl := by omega
  obtain ⟨u, eu, hu⟩ := H.leads ((p.ins n).n.toNat, s) (by unfold J0d; rw [if_pos h7]; simp) hn1
  dsimp only at eu hu
  exact ⟨fun j hj => J5z S hl P e (J6h hn1) eu (fun h8 w => (hu j h8).2 w), ⟨_, u, J6h hn1, eu, hs.mono hu (fun j hj => hr j (by omega)), hr⟩⟩
 ·rw [c] at h7; omega

theorem Ji8 (ok : p.Ok 200 8) (hn : ∀ i, i < p.cl → B64 (p.ins i).n) (hk : Known p l) (hc : (J0c p l).1 = 0) (S : Fnc p h st pre post) (hl : ∀ q j, lab q j = true ↔ FnSec p st pre post l q j) (q : Nat) (h8 : (h.ins q).op = 8) (r : Nat → Int) (hI : FnI p st pre post l q r) :
  (h.ins q).a.toNat < 10 ∧ (h.ins q).b.toNat < 10 ∧ lab q (h.ins q).a.toNat = false ∧ lab q (h.ins q).b.toNat = false ∧ (∀ j, j < 10 → lab q j = true → lab (h.ins q).n.toNat j = true ∧ lab (q + 1) j = true) ∧ FnI p st pre post l (Jbd h q r) r ∧ (FnI p st pre post l (J7b h q r) r ∨ Stop h (J7b h q r)) := by
 obtain ⟨n, s, P, e, hs, hr⟩ := hI
 rcases J31 S P with ⟨c, _⟩ | ⟨⟨w, c⟩ | ⟨w, c⟩, P1⟩
 ·rw [c] at h8; exact absurd h8 (by decide)
 ·unfold Jbd J7b
  rw [c] at h8 ⊢
  dsimp only at h8 ⊢
  rw [Int.toNat_natCast]
  have H := J3t ok hk hc P.1 e
  have hin := H.ins
  have hg := J1a hin
  have ha := hg.1 (by omega)
  have hb := hg.2.1 (by omega)
  unfold InsOk Plc at hin
  simp [h8] at hin
  have hn1 : (p.ins n).n.toNat < p.cl := by omega
  have hk1 := H.next (by omega) (by omega)
  have hsec := H.secret
  unfold J0f at hsec
  simp [h8] at hsec
  obtain ⟨u, eu, hu⟩ := H.leads ((p.ins n).n.toNat, yesK (p.ins n) s) (by unfold J0d; simp [h8]) hn1
  obtain ⟨v, ev, hv⟩ := H.leads (n + 1, noK (p.ins n) s) (by unfold J0d; simp [h8]) hk1
  dsimp only at eu hu ev hv
  have hr8 : ∀ j, j < 8 → B64 (r j) := fun j hj => hr j (by omega)
  obtain ⟨P2, st2⟩ := P1 hk1
  have stop1 : Stop h (st (p.ins n).n.toNat) := S.stop hn1 (S.both n P.1 h8).1
  refine ⟨by omega, by omega, (J53 S hl P e _).2 (fun _ => hsec.1), (J53 S hl P e _).2 (fun _ => hsec.2), fun j hj w => ⟨?_, ?_⟩, ?_, .inr ?_⟩
  ·exact J5z S hl P e (J6h hn1) eu (fun h8 q => (hu j h8).2 (by rw [yes_s]; exact q)) w
  ·exact J5z S hl P e P2 ev (fun h8 q => (hv j h8).2 (by rw [no_s]; exact q)) w
  ·by_cases qh : J15 (p.ins n).c (r (p.ins n).a.toNat) (r (p.ins n).b.toNat) = true
   ·rw [if_pos qh]; exact ⟨_, u, J6h hn1, eu, (Jd8 H.ins h8 hr8 hs qh).mono hu hr8, hr⟩
   ·rw [if_neg qh]; exact ⟨_, v, P2, ev, (Jhs H.ins h8 hr8 hs qh).mono hv hr8, hr⟩
  ·by_cases qh : J15 (p.ins n).c (r (p.ins n).a.toNat) (r (p.ins n).b.toNat) = true
   ·rw [if_pos qh]; exact st2 h8
   ·rw [if_neg qh]; exact stop1
 ·rw [c] at h8; omega

theorem Jia (ok : p.Ok 200 8) (hn : ∀ i, i < p.cl → B64 (p.ins i).n) (hk : Known p l) (hc : (J0c p l).1 = 0) (S : Fnc p h st pre post) (hl : ∀ q j, lab q j = true ↔ FnSec p st pre post l q j) (q : Nat) (h9 : (h.ins q).op = 9) (r : Nat → Int) (hI : FnI p st pre post l q r) : (h.ins q).a.toNat < 10 ∧ lab q (h.ins q).a.toNat = false := by
 obtain ⟨n, s, P, e, hs, hr⟩ := hI
 rcases J31 S P with ⟨c, _⟩ | ⟨⟨w, c⟩ | ⟨w, c⟩, P1⟩
 ·rw [c] at h9; exact absurd h9 (by decide)
 ·rw [c] at h9; dsimp only at h9; omega
 ·rw [c] at h9 ⊢
  have H := J3t ok hk hc P.1 e
  have hsec := H.secret
  unfold J0f at hsec
  simp [h9] at hsec
  have ha := (J1a H.ins).1 (by omega)
  exact ⟨by omega, (J53 S hl P e _).2 (fun _ => hsec)⟩

theorem Jfl (ok : p.Ok 200 8) (hn : ∀ i, i < p.cl → B64 (p.ins i).n) (hk : Known p l) (hc : (J0c p l).1 = 0) (S : Fnc p h st pre post) (hl : ∀ q j, lab q j = true ↔ FnSec p st pre post l q j) (q : Nat) (h12 : (h.ins q).op = 12) (r : Nat → Int) (hI : FnI p st pre post l q r) : (∀ j, j < 10 → lab q j = true → lab (q + 1) j = true) ∧ FnI p st pre post l (q + 1) r := by
 obtain ⟨n, s, P, e, hs, hr⟩ := hI
 rcases J31 S P with ⟨c, P2⟩ | ⟨⟨w, c⟩ | ⟨w, c⟩, P1⟩
 ·exact ⟨fun j hj => J5z S hl P e P2 e (fun _ q => q), ⟨n, s, P2, e, hs, hr⟩⟩
 ·rw [c] at h12; dsimp only at h12; omega
 ·rw [c] at h12
  have H := J3t ok hk hc P.1 e
  obtain ⟨u, eu, hu⟩ := H.plain (by omega) (by omega) (by omega)
  have hk1 := H.next (by omega) (by omega)
  have e3 : nextK p (p.ins n) s = s := by unfold nextK; simp [h12]
  rw [e3] at hu
  have P2 := (P1 hk1).1
  exact ⟨fun j hj => J5z S hl P e P2 eu (fun h8 q => (hu j h8).2 q), ⟨n + 1, u, P2, eu, hs.mono hu (fun j hj => hr j (by omega)), hr⟩⟩

theorem Jd1 (S : Fnc p h st pre post) {q n : Nat} (P : PosF p st pre post q n) (hp : 0 ≤ putI (h.ins q)) : h.ins q = p.ins n ∧ ((p.ins n).op = 3 ∨ (p.ins n).op = 4 ∨ (p.ins n).op = 5 ∨ (p.ins n).op = 6) ∧ (n + 1 < p.cl → PosF p st pre post (q + 1) (n + 1)) := by
 rcases J31 S P with ⟨c, P2⟩ | ⟨⟨w, c⟩ | ⟨w, c⟩, P1⟩
 ·rw [c] at hp; exact absurd hp (by decide)
 ·rw [c] at hp
  unfold putI at hp
  dsimp only at hp
  rw [if_neg (by omega), if_neg (by omega)] at hp
  omega
 ·refine ⟨c, ?_, fun h1 => (P1 h1).1⟩
  rw [c] at hp
  by_cases o : (p.ins n).op = 3 ∨ (p.ins n).op = 4 ∨ (p.ins n).op = 5 ∨ (p.ins n).op = 6
  ·exact o
  ·unfold putI at hp
   rw [if_neg (by omega), if_neg (by omega)] at hp
   omega

theorem fn_at (ok : p.Ok 200 8) (hn : ∀ i, i < p.cl → B64 (p.ins i).n) (hk : Known p l) (hc : (J0c p l).1 = 0) (S : Fnc p h st pre post) (hl : ∀ q j, lab q j = true ↔ FnSec p st pre post l q j) (q : Nat) (hp : 0 ≤ putI (h.ins q)) (r : Nat → Int) (hI : FnI p st pre post l q r) :
  (h.ins q).c.toNat < h.rl ∧ (h.ins q).a.toNat < 10 ∧ (0 ≤ idxI r (h.ins q) ∧ idxI r (h.ins q) < J0h (h.log (h.ins q).c.toNat)) ∧ (∀ t, (∀ j, j < 10 → lab q j = false → r j = t j) → idxI r (h.ins q) = idxI t (h.ins q)) := by
 obtain ⟨n, s, P, e, hs, hr⟩ := hI
 obtain ⟨c, op, P1⟩ := Jd1 S P hp
 have H := J3t ok hk hc P.1 e
 have hg := J1a H.ins
 have ha := hg.1 (by omega)
 obtain ⟨_, w2, w3⟩ := J7r ok hn hk hc P.1 e hs hr op 0 J1e
 rw [c, ← (S.reg _ w2).1, ← S.rl]
 refine ⟨w2, by omega, w3, fun t ht => ?_⟩
 have A := J8e S hl P e ht
 unfold idxI
 by_cases q5 : (p.ins n).op = 5 ∨ (p.ins n).op = 6
 ·rw [if_pos q5, if_pos q5]
 ·rw [if_neg q5, if_neg q5]
  have hsec := H.secret
  unfold J0f at hsec
  have hb : (s (p.ins n).b.toNat).s = false := by
   by_cases q3 : (p.ins n).op = 3
   ·rw [if_pos q3] at hsec; exact hsec
   ·rw [if_neg q3, if_pos (by omega)] at hsec; exact (Bool.or_eq_false_iff.1 hsec).1
  rw [A.1 _ (hg.2.1 (by omega)) hb]

theorem Jid (ok : p.Ok 200 8) (hn : ∀ i, i < p.cl → B64 (p.ins i).n) (hk : Known p l) (hc : (J0c p l).1 = 0) (S : Fnc p h st pre post) (hl : ∀ q j, lab q j = true ↔ FnSec p st pre post l q j) (q : Nat) (hp : putI (h.ins q) = 0) (r : Nat → Int) (hI : FnI p st pre post l q r) :
  (∀ j, j < 10 → j ≠ (h.ins q).a.toNat → lab q j = true → lab (q + 1) j = true) ∧ (h.sec (h.ins q).c.toNat = true → lab (q + 1) (h.ins q).a.toNat = true) ∧ ∀ v, B64 v → FnI p st pre post l (q + 1) (setR r (h.ins q).a v) := by
 obtain ⟨n, s, P, e, hs, hr⟩ := hI
 obtain ⟨c, op, P1⟩ := Jd1 S P (by omega)
 rw [c] at hp ⊢
 have H := J3t ok hk hc P.1 e
 have o35 : (p.ins n).op = 3 ∨ (p.ins n).op = 5 := by
  unfold putI at hp
  by_cases o : (p.ins n).op = 3 ∨ (p.ins n).op = 5
  ·exact o
  ·rw [if_neg o, if_pos (by omega)] at hp; omega
 obtain ⟨u, eu, hu⟩ := H.plain (by omega) (by omega) (by omega)
 have hk1 := H.next (by omega) (by omega)
 have P2 := P1 hk1
 have ha := (J1a H.ins).1 (by omega)
 have e3 : nextK p (p.ins n) s = setK s (p.ins n).a ⟨17, p.sec (p.ins n).c.toNat⟩ := by unfold nextK; rw [if_neg (by omega), if_neg (by omega), if_neg (by omega), if_pos o35]
 rw [e3] at hu
 refine ⟨fun j hj ne => J5z S hl P e P2 eu (fun h8 q => (hu j h8).2 (by unfold setK; rw [if_neg ne]; exact q)), fun hsec => ?_, fun v hv => ?_⟩
 ·refine (J8d S hl P2 eu _).2 ⟨ha, (hu _ ha).2 ?_⟩
  unfold setK
  rw [if_pos rfl, (S.reg _ (J7r ok hn hk hc P.1 e hs hr op 0 J1e).2.1).2]
  exact hsec
 ·have w := J7r ok hn hk hc P.1 e hs hr op v hv
  have := Jd2 ok hn hk hc P.1 e hs hr hv (J4v (s := ⟨n, r, memC p v, []⟩) rfl o35 w.1)
  obtain ⟨b1, u2, b2, b3, b4⟩ := this
  exact ⟨n + 1, u2, P2, b2, b3, b4⟩

theorem Jb0 (ok : p.Ok 200 8) (hn : ∀ i, i < p.cl → B64 (p.ins i).n) (hk : Known p l) (hc : (J0c p l).1 = 0) (S : Fnc p h st pre post) (hl : ∀ q j, lab q j = true ↔ FnSec p st pre post l q j) (q : Nat) (hp : putI (h.ins q) = 1) (r : Nat → Int) (hI : FnI p st pre post l q r) :
  ((∀ j, j < 10 → lab q j = true → lab (q + 1) j = true) ∧ (lab q (h.ins q).a.toNat = true → h.sec (h.ins q).c.toNat = true) ∧ FnI p st pre post l (q + 1) r) ∧ B64 (r (h.ins q).a.toNat) := by
 obtain ⟨n, s, P, e, hs, hr⟩ := hI
 obtain ⟨c, op, P1⟩ := Jd1 S P (by omega)
 rw [c] at hp ⊢
 have H := J3t ok hk hc P.1 e
 have o46 : (p.ins n).op = 4 ∨ (p.ins n).op = 6 := by
  unfold putI at hp
  by_cases o : (p.ins n).op = 3 ∨ (p.ins n).op = 5
  ·rw [if_pos o] at hp; omega
  ·omega
 obtain ⟨u, eu, hu⟩ := H.plain (by omega) (by omega) (by omega)
 have hk1 := H.next (by omega) (by omega)
 have P2 := P1 hk1
 have ha := (J1a H.ins).1 (by omega)
 have hcr := (J7r ok hn hk hc P.1 e hs hr op 0 J1e).2.1
 have e3 : nextK p (p.ins n) s = s := by unfold nextK; rw [if_neg (by omega), if_neg (by omega), if_neg (by omega), if_neg (by omega), if_neg (by omega), if_pos (by omega)]
 rw [e3] at hu
 refine ⟨⟨fun j hj => J5z S hl P e P2 eu (fun h8 q => (hu j h8).2 q), fun hsl => ?_, ⟨n + 1, u, P2, eu, hs.mono hu (fun j hj => hr j (by omega)), hr⟩⟩, hr _ (by omega)⟩
 have hs2 := ((J8d S hl P e _).1 hsl).2
 have hsec := H.secret
 unfold J0f at hsec
 rw [← (S.reg _ hcr).2]
 rcases o46 with m | m <;> simp [m, hs2] at hsec
 ·exact hsec.2
 ·exact hsec

theorem fn_op (ok : p.Ok 200 8) (hn : ∀ i, i < p.cl → B64 (p.ins i).n) (hk : Known p l) (hc : (J0c p l).1 = 0) (S : Fnc p h st pre post) (hl : ∀ q j, lab q j = true ↔ FnSec p st pre post l q j) (q : Nat) (h7 : ¬ (h.ins q).op = 7) (h8 : ¬ (h.ins q).op = 8) (h9 : ¬ (h.ins q).op = 9) (h12 : ¬ (h.ins q).op = 12) (hp : ¬ 0 ≤ putI (h.ins q)) (r : Nat → Int) (hI : FnI p st pre post l q r) :
  (∀ t, (∀ j, j < 10 → lab q j = false → r j = t j) → (regsI r (h.ins q)).2 = (regsI t (h.ins q)).2 ∧ ∀ j, j < 10 → lab (q + 1) j = false → (regsI r (h.ins q)).1 j = (regsI t (h.ins q)).1 j) ∧ FnI p st pre post l (q + 1) (regsI r (h.ins q)).1 := by
 obtain ⟨n, s, P, e, hs, hr⟩ := hI
 rcases J31 S P with ⟨c, _⟩ | ⟨⟨w, c⟩ | ⟨w, c⟩, P1⟩
 ·rw [c] at h12; exact absurd rfl h12
 ·rw [c] at h7 h8; dsimp only at h7 h8; omega
 ·rw [c] at h7 h8 h9 h12 hp ⊢
  have n3 : ¬ (p.ins n).op = 3 := fun q => hp (by unfold putI; simp [q])
  have n4 : ¬ (p.ins n).op = 4 := fun q => hp (by unfold putI; simp [q])
  have n5 : ¬ (p.ins n).op = 5 := fun q => hp (by unfold putI; simp [q])
  have n6 : ¬ (p.ins n).op = 6 := fun q => hp (by unfold putI; simp [q])
  have H := J3t ok hk hc P.1 e
  obtain ⟨u, eu, hu⟩ := H.plain h7 h8 h9
  have hk1 := H.next h7 h9
  have P2 := (P1 hk1).1
  have ha := (J1a H.ins).1 (by omega)
  refine ⟨fun t ht => ?_, ?_⟩
  ·have A := J8e S hl P e ht
   have R := Ji7 H.ins n3 n4 n5 n6 h7 h8 h9 H.secret A.1
   refine ⟨R.2, Jbv S hl P2 eu (R.1.mono hu) (fun j j8 j10 => ?_)⟩
   rw [J97 ha r j j8, J97 ha t j j8]
   exact A.2 j j8 j10
  ·obtain ⟨b1, u2, b2, b3, b4⟩ := Jd2 ok hn hk hc P.1 e hs hr J1e (J39 (s := ⟨n, r, memC p 0, []⟩) rfl n3 n4 n5 n6 h7 h8 h9)
   exact ⟨n + 1, u2, P2, b2, b3, b4⟩

theorem Jfm (ok : p.Ok 200 8) (hn : ∀ i, i < p.cl → B64 (p.ins i).n) (hk : Known p l) (hc : (J0c p l).1 = 0) (S : Fnc p h st pre post) : Still h := by
 refine ⟨B64, fun q j => @decide (FnSec p st pre post l q j) (Classical.propDecidable _), FnI p st pre post l, fun _ q => q, ?_, ?_⟩
 ·have hl : ∀ q j, (fun q j => @decide (FnSec p st pre post l q j) (Classical.propDecidable _)) q j = true ↔ FnSec p st pre post l q j := fun q j => by simp
  refine ⟨?_, J1e, fun k _ c r I => Jib ok hn hk hc S hl k c r I, fun k _ c r I => Ji8 ok hn hk hc S hl k c r I, fun k _ c r I => Jia ok hn hk hc S hl k c r I, fun k _ c r I => Jfl ok hn hk hc S hl k c r I, fun k _ c r I => fn_at ok hn hk hc S hl k c r I, fun k _ c r I => Jid ok hn hk hc S hl k c r I, fun k _ c r I => (Jb0 ok hn hk hc S hl k c r I).1, fun k _ c r I => (Jb0 ok hn hk hc S hl k c r I).2, fun k _ h7 h8 h9 h12 hp r I => fn_op ok hn hk hc S hl k h7 h8 h9 h12 hp r I⟩
  exact ⟨by rw [← S.rl]; exact ok.1.1, fun i hi => by rw [← (S.reg i (by rw [S.rl]; exact hi)).1]; exact ok.1.2 i (by rw [S.rl]; exact hi)⟩
 ·obtain ⟨s, e, _⟩ := hk.closed.first
  refine ⟨0, s, ?_, e, fun j hj => J63 _, fun _ _ => J1e⟩
  have := J6h (st := st) (pre := pre) (post := post) (p := p) ok.2.1
  rw [S.s0] at this
  exact this

end
end
section
open Go.RowKit
set_option linter.unusedSimpArgs false
set_option linter.unusedVariables false
section
variable (M : Nat → List Ins)
def codeG : Nat → List Ins
 | 0 => []
 | n + 1 => codeG n ++ M n
def J1d (n : Nat) : Nat := (codeG M n).length
def leadG (i : Ins) : Ins := if i.op = 7 ∨ i.op = 8 then ⟨i.op, i.a, i.b, i.c, (J1d M i.n.toNat : Int)⟩ else i
def hardG (cl q : Nat) : Ins := leadG M ((codeG M cl).getD q ⟨0, 0, 0, 0, 0⟩)
theorem J6q (n : Nat) : J1d M (n + 1) = J1d M n + (M n).length := by
 unfold J1d; rw [codeG, List.length_append]
theorem Jau : ∀ (n k o : Nat), k < n → o < (M k).length → (codeG M n)[J1d M k + o]? = (M k)[o]?
 | 0, k, o, h, _ => absurd h (Nat.not_lt_zero _)
 | n + 1, k, o, h, ho => by
  rw [codeG]
  by_cases e : k = n
  ·subst e
   rw [List.getElem?_append_right (by unfold J1d; omega)]
   congr 1
   unfold J1d; omega
  ·have h2 := Jau n k o (by omega) ho
   have hlt : J1d M k + o < (codeG M n).length := by
    have e1 : (M k)[o]? ≠ none := by
     rw [Ne, List.getElem?_eq_none_iff]; omega
    rw [← h2] at e1
    rw [Ne, List.getElem?_eq_none_iff] at e1
    omega
   rw [List.getElem?_append_left hlt]
   exact h2
theorem Jfo {cl k o : Nat} {i : Ins} (hk : k < cl) (e : (M k)[o]? = some i) : hardG M cl (J1d M k + o) = leadG M i := by
 unfold hardG
 rw [List.getD_eq_getElem?_getD, Jau M cl k o hk (List.getElem?_eq_some_iff.1 e).1, e]
 rfl
theorem J46 {i : Ins} (h : ¬ (i.op = 7 ∨ i.op = 8)) : leadG M i = i := by unfold leadG; rw [if_neg h]
end
def flatI : List Ins → List Value
 | [] => []
 | i :: l => .int .i64 i.op :: .int .i64 i.a :: .int .i64 i.b :: .int .i64 i.c :: .int .i64 i.n :: flatI l
theorem J5a : ∀ l l' : List Ins, flatI (l ++ l') = flatI l ++ flatI l'
 | [], _ => rfl
 | s :: l, l' => by simp [flatI, J5a l l']
theorem Jax : ∀ (l : List Ins) (i : Nat) (s : Ins), l[i]? = some s → (flatI l)[i * 5]? = some (.int .i64 s.op) ∧ (flatI l)[i * 5 + 1]? = some (.int .i64 s.a) ∧ (flatI l)[i * 5 + 2]? = some (.int .i64 s.b) ∧ (flatI l)[i * 5 + 3]? = some (.int .i64 s.c) ∧ (flatI l)[i * 5 + 4]? = some (.int .i64 s.n)
 | [], i, s, h => by simp at h
 | x :: l, 0, s, h => by simp at h; subst h; simp [flatI]
 | x :: l, i + 1, s, h => by
  have := Jax l i s (by simpa using h)
  rw [show (i + 1) * 5 = i * 5 + 1 + 1 + 1 + 1 + 1 by omega, flatI]
  simpa using this
theorem J8j : ∀ (l : List Ins), ∀ u ∈ flatI l, u.oneCell' = true
 | [], u, h => by simp [flatI] at h
 | i :: l, u, h => by
  simp only [flatI, List.mem_cons] at h
  rcases h with rfl | rfl | rfl | rfl | rfl | h
  ·rfl
  ·rfl
  ·rfl
  ·rfl
  ·rfl
  ·exact J8j l u h
def fenK (p : Prg) (pre post : Nat → Bool) (n : Nat) : List Ins := (if pre n then [J1x] else []) ++ (p.ins n :: (if post n then [J1x] else []))
def fenP (p : Prg) (pre post : Nat → Bool) : Prg := ⟨p.rl, p.log, p.sec, J1d (fenK p pre post) p.cl, hardG (fenK p pre post) p.cl⟩

theorem J60 (p : Prg) (pre post : Nat → Bool) (n : Nat) : (fenK p pre post n).length = sizeF pre post n := by
 unfold fenK sizeF
 cases pre n <;> cases post n <;> rfl
theorem Jf9 (p : Prg) (pre post : Nat → Bool) (both : ∀ k, k < p.cl → (p.ins k).op = 8 → (pre (p.ins k).n.toNat = true ∨ (p.ins (p.ins k).n.toNat).op = 12) ∧ (post k = true ∨ pre (k + 1) = true ∨ (p.ins (k + 1)).op = 12)) : Fnc p (fenP p pre post) (J1d (fenK p pre post)) pre post := by
 have at_ : ∀ k o i, k < p.cl → (fenK p pre post k)[o]? = some i → (fenP p pre post).ins (J1d (fenK p pre post) k + o) = leadG (fenK p pre post) i := fun k o i hk e => Jfo _ hk e
 have self : ∀ k, (fenK p pre post k)[(pre k).toNat]? = some (p.ins k) := fun k => by
  unfold fenK
  cases pre k <;> simp
 refine ⟨rfl, fun i hi => ⟨rfl, rfl⟩, rfl, fun k hk => by rw [J6q, J60], rfl, fun k hk h => ?_, fun k hk h => ?_, fun k hk h => ?_, fun k hk h => ?_, both⟩
 ·have := at_ k 0 J1x hk (by unfold fenK; rw [h]; rfl)
  rw [Nat.add_zero, J46 _ (by unfold J1x; simp)] at this
  exact this
 ·have := at_ k ((pre k).toNat + 1) J1x hk (by unfold fenK; rw [h]; cases pre k <;> simp)
  rw [J46 _ (by unfold J1x; simp), ← Nat.add_assoc] at this
  exact this
 ·rw [at_ k _ _ hk (self k)]
  unfold leadG
  rw [if_pos h]
 ·rw [at_ k _ _ hk (self k), J46 _ h]
theorem J9f (p : Prg) (pre post : Nat → Bool) : ∀ n, n ≤ J1d (fenK p pre post) n ∧ J1d (fenK p pre post) n ≤ 3 * n
 | 0 => ⟨Nat.le_refl _, Nat.le_refl _⟩
 | n + 1 => by
  have := J9f p pre post n
  have := J34 pre post n
  rw [J6q, J60]; omega
def ledB (p : Prg) : Nat → Nat → Bool
  | 0, _ => false
  | k + 1, j => ledB p k j || ((p.ins k).op == 8 && (j == k + 1 || j == (p.ins k).n.toNat))
theorem Jdi (p : Prg) (j : Nat) : ∀ n k, k ≤ n → ledB p k j = true → ledB p n j = true
  | 0, k, h, e => by obtain rfl : k = 0 := by omega
                     exact e
  | n + 1, k, h, e => by
    by_cases c : k = n + 1
    · subst c; exact e
    · rw [ledB, Jdi p j n k (by omega) e]; rfl
theorem Jg4 (p : Prg) {k : Nat} (hk : k < p.cl) (h8 : (p.ins k).op = 8) : ledB p p.cl (k + 1) = true ∧ ledB p p.cl (p.ins k).n.toNat = true := by
  refine ⟨Jdi p _ p.cl (k + 1) hk ?_, Jdi p _ p.cl (k + 1) hk ?_⟩
  · simp [ledB, h8]
  · simp [ledB, h8]
theorem Jg5 {p : Prg} {k : Nat} (h8 : ¬ (p.ins k).op = 8) (j : Nat) : ledB p (k + 1) j = ledB p k j := by simp [ledB, h8]

def preF (p : Prg) (k : Nat) : Bool := ledB p p.cl k && !((p.ins k).op == 12)
abbrev noF (_ : Nat) : Bool := false
abbrev fencK (p : Prg) : Nat → List Ins := fenK p (preF p) noF
abbrev J11 (p : Prg) : Nat → Nat := J1d (fencK p)
def fencP (p : Prg) : Prg := fenP p (preF p) noF
theorem Jav (p : Prg) (n : Nat) : fencK p n = if preF p n then [J1x, p.ins n] else [p.ins n] := by
  unfold fencK fenK
  cases preF p n <;> rfl
theorem Jcv (p : Prg) : Fnc p (fencP p) (J11 p) (preF p) noF :=
  Jf9 p (preF p) noF fun k hk h8 => by
    obtain ⟨h1, h2⟩ := Jg4 p hk h8
    unfold preF
    rw [h1, h2]
    refine ⟨?_, .inr ?_⟩
    · by_cases c : (p.ins (p.ins k).n.toNat).op = 12
      · exact .inr c
      · exact .inl (by simp [c])
    · by_cases c : (p.ins (k + 1)).op = 12
      · exact .inr c
      · exact .inl (by simp [c])
theorem J9e (p : Prg) (n : Nat) : n ≤ J11 p n ∧ J11 p n ≤ 3 * n := J9f p (preF p) noF n

theorem J5x {p : Prg} (ok : p.Ok 200 8) : ∀ n, n ≤ p.cl → ∀ i ∈ codeG (fencK p) n, i.op = 7 ∨ i.op = 8 → 0 ≤ i.n ∧ i.n < p.cl
  | 0, _, i, hi, _ => by simp [codeG] at hi
  | n + 1, hn, i, hi, h => by
    rcases List.mem_append.1 hi with hi | hi
    · exact J5x ok n (by omega) i hi h
    · have hI := ok.2.2.2 n (by omega)
      have key : i = p.ins n → 0 ≤ i.n ∧ i.n < p.cl := fun e => by
        rw [← e] at hI
        unfold InsOk at hI
        rcases h with h | h
        · simp [h] at hI; exact hI.2.2.2
        · simp [h] at hI; exact hI.2.2.2
      rw [Jav] at hi
      cases c : preF p n with
      | true =>
        rw [c] at hi
        simp only [if_true, List.mem_cons, List.not_mem_nil, or_false] at hi
        rcases hi with rfl | hi
        · exact absurd h (by unfold J1x; simp)
        · exact key hi
      | false =>
        rw [c] at hi
        exact key (by simpa using hi)
end
section
open Go.RowKit
set_option linter.unusedSimpArgs false
set_option linter.unusedVariables false
set_option maxRecDepth 8000
def NewsAt (w : World) (g : Nat) (L : List Ins) : Prop := ∀ j u, (flatI L)[j]? = some u → w.cell? ((⟨g, 0, none⟩ : Addr).add j) = some u
theorem NewsAt.of {w : World} {g : Nat} {L : List Ins} {cs : Array Value} {T : TypeId} (h : Blk w g cs T) (e : cs.toList = flatI L) : NewsAt w g L := fun j u hu => by
 rw [← e] at hu
 exact World.news_of_block h j u hu
theorem Jih : (Try.prog.info? 59).map (fun i => (i.zero, i.size, i.bytes)) = some (some (.agg #[.int .i64 0, .int .i64 0, .int .i64 0, .int .i64 0, .int .i64 0]), 5, 40) := by kernel_rfl
theorem Jb6 (x : Value) (n j : Nat) (h : j < n) : (madeCells #[x] n)[j]? = some x := by unfold madeCells; simp [h, Nat.mod_one]

structure InsWr (w : World) (g j : Nat) (i : Ins) : Prop where
 op : Wr w g (j * 5) (.int .i64 i.op)
 a : Wr w g (j * 5 + 1) (.int .i64 i.a)
 b : Wr w g (j * 5 + 2) (.int .i64 i.b)
 c : Wr w g (j * 5 + 3) (.int .i64 i.c)
 n : Wr w g (j * 5 + 4) (.int .i64 i.n)
theorem InsWr.more {w w' : World} {g j : Nat} {i : Ins} (m : More w w') (h : InsWr w g j i) : InsWr w' g j i :=
 ⟨h.op.kept (m.grow none) (by simp), h.a.kept (m.grow none) (by simp), h.b.kept (m.grow none) (by simp), h.c.kept (m.grow none) (by simp), h.n.kept (m.grow none) (by simp)⟩
theorem Jd3 {L : List Ins} {j : Nat} (hj : j < L.length) (d : Ins) : L[j]? = some (L.getD j d) := by
 rw [List.getD_eq_getElem?_getD]
 rw [List.getElem?_eq_getElem hj]
 rfl
section
variable {M : Nat → List Ins} {cl : Nat}
def mixG (M : Nat → List Ins) (cl q j : Nat) : Ins := if j < q then hardG M cl j else (codeG M cl).getD j ⟨0, 0, 0, 0, 0⟩
structure H2 (M : Nat → List Ins) (cl : Nat) (w : World) (bs : List (Nat × Array Value × TypeId)) (sb gc q : Nat) (wr : World) : Prop where
 code : ∀ j, j < J1d M cl → InsWr wr gc j (mixG M cl q j)
 starts : ∀ j, j < cl → wr.cell? ⟨sb, j, none⟩ = some (.int .i64 (J1d M j : Nat))
 box : ∀ x ∈ bs, Blk wr x.1 x.2.1 x.2.2 ∧ x.1 < gc
 ne : sb < gc
 lo : w.heap.size ≤ gc
 hi : gc < wr.heap.size
 more : More w wr
variable {w : World} {bs : List (Nat × Array Value × TypeId)} {sb gc q : Nat} {wr w' : World}
theorem H2.start {lo cap : Nat} (own : wr.ownsRow lo 59 5 (.slice (some ⟨gc, 0, none⟩) (J1d M cl) cap) (J1d M cl) (flatI (codeG M cl)))
  (starts : ∀ j, j < cl → wr.cell? ⟨sb, j, none⟩ = some (.int .i64 (J1d M j : Nat))) (box : ∀ x ∈ bs, Blk wr x.1 x.2.1 x.2.2 ∧ x.1 < lo) (hl : sb < lo ∧ w.heap.size ≤ lo) (m : More w wr) : H2 M cl w bs sb gc 0 wr := by
 have hg := own.lt gc rfl
 refine ⟨fun j hj => ?_, starts, fun x hx => ⟨(box x hx).1, by have := (box x hx).2; omega⟩, by omega, by omega, hg.2, m⟩
 have e := Jax (codeG M cl) j _ (Jd3 hj ⟨0, 0, 0, 0, 0⟩)
 have fz : ∀ o, wr.frozen? ⟨gc, o, none⟩ = false := fun o => World.ownsRow.frozenAt own o
 have c : ∀ o v, (flatI (codeG M cl))[o]? = some v → o < J1d M cl * 5 → Wr wr gc o v := fun o v hv ho => ⟨by rw [World.ownsRow.cellAt own _ ho]; exact hv, fz _⟩
 exact ⟨c _ _ e.1 (by omega), c _ _ e.2.1 (by omega), c _ _ e.2.2.1 (by omega), c _ _ e.2.2.2.1 (by omega), c _ _ e.2.2.2.2 (by omega)⟩
theorem J8t : mixG M cl q q = (codeG M cl).getD q ⟨0, 0, 0, 0, 0⟩ := by unfold mixG; rw [if_neg (Nat.lt_irrefl _)]
theorem J8u {j : Nat} (h : j ≠ q) : mixG M cl (q + 1) j = mixG M cl q j := by
 unfold mixG
 by_cases e : j < q
 ·rw [if_pos e, if_pos (by omega)]
 ·rw [if_neg e, if_neg (by omega)]
theorem J8s : mixG M cl (q + 1) q = leadG M (mixG M cl q q) := by
 rw [J8t]; unfold mixG hardG; rw [if_pos (by omega)]

theorem H2.far (h : H2 M cl w bs sb gc q wr) (m : More wr w') : H2 M cl w bs sb gc q w' :=
 ⟨fun j hj => (h.code j hj).more m, fun j hj => m.cell (h.starts j hj), fun x hx => ⟨(h.box x hx).1.more m, (h.box x hx).2⟩, h.ne, h.lo, Nat.lt_of_lt_of_le h.hi m.size, h.more.trans m⟩
theorem H2.pass (h : H2 M cl w bs sb gc q wr) (m : More wr w') (h7 : ¬ ((mixG M cl q q).op = 7 ∨ (mixG M cl q q).op = 8)) : H2 M cl w bs sb gc (q + 1) w' := by
 have k := h.far m
 refine ⟨fun j hj => ?_, k.starts, k.box, k.ne, k.lo, k.hi, k.more⟩
 by_cases e : j = q
 ·subst e
  rw [J8s, J46 _ h7]
  exact k.code j hj
 ·rw [J8u e]
  exact k.code j hj
theorem H2.lead (h : H2 M cl w bs sb gc q wr) (h7 : (mixG M cl q q).op = 7 ∨ (mixG M cl q q).op = 8) : H2 M cl w bs sb gc (q + 1) (wr.setCell ⟨gc, q * 5 + 4, none⟩ (.int .i64 (J1d M (mixG M cl q q).n.toNat : Nat))) := by
 have hlo := h.lo
 have hne := h.ne
 refine ⟨fun j hj => ?_, fun j hj => ?_, fun x hx => ⟨(h.box x hx).1.other (by have := (h.box x hx).2; omega) _ _, (h.box x hx).2⟩, h.ne, h.lo, ?_, ?_⟩
 ·have hc := h.code j hj
  by_cases e : j = q
  ·subst e
   rw [J8s]
   unfold leadG
   rw [if_pos h7]
   exact ⟨hc.op.other _ _ _ (.inr (by omega)), hc.a.other _ _ _ (.inr (by omega)), hc.b.other _ _ _ (.inr (by omega)), hc.c.other _ _ _ (.inr (by omega)), hc.n.same _⟩
  ·rw [J8u e]
   exact ⟨hc.op.other _ _ _ (.inr (by omega)), hc.a.other _ _ _ (.inr (by omega)), hc.b.other _ _ _ (.inr (by omega)), hc.c.other _ _ _ (.inr (by omega)), hc.n.other _ _ _ (.inr (by omega))⟩
 ·rw [World.cell?_setCell_other _ _ _ _ (by intro e; simp only [Addr.mk.injEq] at e; omega)]
  exact h.starts j hj
 ·simp [World.setCell]; exact h.hi
 ·exact h.more.setCell (by show w.heap.size ≤ gc; omega) _
theorem H2.end_ (h : H2 M cl w bs sb gc (J1d M cl) wr) : CodeAt wr gc 0 (J1d M cl) (hardG M cl) := fun j hj => by
 have hc := h.code j hj
 have e : mixG M cl (J1d M cl) j = hardG M cl j := by unfold mixG; rw [if_pos hj]
 rw [e] at hc
 simp only [Nat.zero_add]
 exact ⟨hc.op.1, hc.a.1, hc.b.1, hc.c.1, hc.n.1⟩
end
end
end Go.Proofs.Ytmpafeoileonjaa
