/-
  The texts SActs2, SWay, Step, WayD, Hard, NewBad, New, Run, SRun, SRunOk, FdRun, one behind the other, with what is used of them.
-/
import Derived.Test.YtephohhigbfafaaGreatDoorJoined8
import Derived.Test.YtephohhigbfafaaGreatDoorJoined7
import Derived.Test.YtephohhigbfafaaGreatDoorJoined5
import Derived.Test.YtephohhigbfafaaGreatDoorJoined4
import Derived.Test.YtephohhigbfafaaGreatDoorJoined0
import Derived.Deep.LoopGhost
import Derived.Test.YtephohhigbfafaaGreatDoorJoined6
namespace Go.Proofs.YtephohhigbfafaaGreatDoor
section
open Go.RowKit
set_option linter.unusedSimpArgs false
set_option linter.unusedVariables false
set_option maxRecDepth 8000
section
variable {p : Prg} {fuel : Nat} {w : World} {M mb : Nat} {rv cv : Value} {x : Ms} {q : Tl} {f : Int → Int → Int} {s : Sp} {k : Nat}

theorem Jnt (h : Bgn p fuel w M mb x q f s k) (a b c n : Int) (hI : p.ins s.pl.at_ = ⟨9, a, b, c, n⟩) (a0 : 0 ≤ a) (a1 : a < 10) :
  Acts 71 9 a b c n w M mb rv cv (x.begun s) q (s.seen ++ [⟨1, s.pl.at_, 0⟩]) (GoodS p fuel s k mb 9) := by
 refine ⟨fun w1 mo r1 b1 => ?_⟩
 cases ha : s.ahead with
 | false =>
  have e := J6m hI rfl ha
  refine (Jil 9 a b c n w1 M rv cv _ { x.begun s with val := x.r a.toNat, fin := 1, ended := true, mo := mo } q q _ (s.seen ++ [⟨1, s.pl.at_, 0⟩]) r1 (by rw [h.sim.ahead]; exact ha) (fun w2 m2 => ?_)).mono ?_
  ·refine (do_9 a b c n w2 M rv cv _ _ (r1.more m2).run a0 a1).mono ?_
   rintro e w' ⟨rfl, r2, b2⟩
   exact ⟨rfl, ⟨r2⟩, b2⟩
  ·rintro e' w' ⟨rfl, r2, b2⟩
   refine ⟨rfl, Below.mono b2 (Nat.le_of_lt h.mM), { x.begun s with val := x.r a.toNat, fin := 1, ended := true }, q, _, ⟨f, h.hmb, (h.keep b1 b2).1, by rw [e]; exact (h.keep b1 b2).2, by rw [e]; rfl, ?_⟩, r2⟩
   rw [e]
   exact ⟨rfl, by dsimp only; rw [h.sim.r], by dsimp only [Ms.begun]; rw [h.sim.steps], rfl, by rw [h.sim.ahead]; exact ha, h.sim.wd, h.sim.st⟩
 | true =>
  have e := J2o hI (.inl ⟨rfl, ha⟩)
  refine (J87 9 a b c n w1 M rv cv _ q _ r1 (by rw [h.sim.ahead]; exact ha)).mono ?_
  rintro e' w' ⟨rfl, m2⟩
  have b2 := Below.mono m2 (Nat.le_of_lt r1.lt)
  refine ⟨rfl, Below.mono b2 (Nat.le_of_lt h.mM), x.begun s, q, _, ⟨f, h.hmb, (h.keep b1 b2).1, by rw [e]; exact (h.keep b1 b2).2, by rw [e]; rfl, ?_⟩, r1.more m2⟩
  rw [e]
  exact ⟨h.on, by simp; exact ha, fun _ => ha⟩

theorem Jns (h : Bgn p fuel w M mb x q f s k) (a b c n : Int) (hI : p.ins s.pl.at_ = ⟨8, a, b, c, n⟩) (a0 : 0 ≤ a) (a1 : a < 10) (b0 : 0 ≤ b) (b1 : b < 10) (n0 : 0 ≤ n) :
  Acts 68 8 a b c n w M mb rv cv (x.begun s) q (s.seen ++ [⟨1, s.pl.at_, 0⟩]) (GoodS p fuel s k mb 8) := by
 refine ⟨fun w1 mo r1 bw1 => ?_⟩
 obtain ⟨hh, hhh⟩ : ∃ hh, J1f c (s.pl.r a.toNat) (s.pl.r b.toNat) = hh := ⟨_, rfl⟩
 have hhx : J1f c (x.r a.toNat) (x.r b.toNat) = hh := by rw [h.sim.r]; exact hhh
 have e := Jan hI rfl hh hhh _ _ rfl rfl
 dsimp only at e
 have hst : 0 ≤ (x.begun s).steps ∧ (x.begun s).steps ≤ 100000 := by
  have := h.some_; have := h.most
  dsimp only [Ms.begun]
  rw [h.sim.steps]
  omega
 have hk0 := h.keep bw1 (Below.refl M w1)
 have hB := Jdl a b c n (if hh = true then (s.pl.at_ : Int) + 1 else n) hh w1 M mb rv cv { x.begun s with mo := mo } (if hh = true then { x.begun s with next := n } else x.begun s) q (s.seen ++ [⟨1, s.pl.at_, 0⟩]) s.script r1 (Nat.le_of_lt h.mM) hk0.2
  (by cases hh <;> exact hst.1) (by cases hh <;> exact hst.2) (by cases hh <;> rfl)
  (fun w2 mo2 r2 => by
   have := seq_holds 8 a b c n _ _ w2 M a0 a1 b0 b1 (r2.run.r a.toNat (by omega)).1 (r2.run.r b.toNat (by omega)).1 r2.lt
   have e2 : J1f c ((x.begun s).r a.toNat) ((x.begun s).r b.toNat) = hh := hhx
   dsimp only at this
   rw [e2] at this
   exact this)
  (fun w2 mo2 r2 => by
   cases hh with
   | true =>
    refine (do_8y a b c n w2 M rv cv _ _ r2.run a0 a1 b0 b1 hhx).mono ?_
    rintro e w' ⟨rfl, r3, b3⟩
    exact ⟨rfl, ⟨r3⟩, b3⟩
   | false =>
    refine (do_8n a b c n w2 M rv cv _ _ r2.run a0 a1 b0 b1 hhx).mono ?_
    rintro e w' ⟨rfl, r3, b3⟩
    exact ⟨rfl, ⟨r3⟩, b3⟩)
 refine hB.mono ?_
 rintro e' w' ⟨rfl, b2, sc', hsc, hr⟩
 have hmap := (h.keep bw1 b2).1
 have hch : s.choice = s.script.headD 0 := rfl
 have hon2 : Sim p fuel (if hh = true then { x.begun s with next := n } else x.begun s) { q with sc := sc' } f { (s.see ⟨1, s.pl.at_, 0⟩).go (if hh = true then n.toNat else s.pl.at_ + 1) with script := s.script.tail } (k + 1) (s.since + 1) := by
  cases hh with
  | true => exact (h.on.go n.toNat n (by omega)).tail sc'
  | false => exact h.on.tail sc'
 by_cases hc : s.script.headD 0 = 0
 ·rw [if_pos hc, if_pos hc] at hr
  rw [if_pos (by rw [hch]; exact hc)] at e
  refine ⟨rfl, Below.mono b2 (Nat.le_of_lt h.mM), (if hh = true then { x.begun s with next := n } else x.begun s), { q with sc := sc' }, _, ⟨f, h.hmb, hmap, by rw [e]; exact hsc, by rw [e]; rfl, ?_⟩, hr⟩
  rw [e]
  exact ⟨hon2, by simp, by simp⟩
 ·rw [if_neg hc, if_neg hc] at hr
  rw [if_neg (by rw [hch]; exact hc)] at e
  refine ⟨rfl, Below.mono b2 (Nat.le_of_lt h.mM), { (if hh = true then { x.begun s with next := n } else x.begun s) with next := (if hh = true then (s.pl.at_ : Int) + 1 else n) }, _, _, ⟨f, ?_, hmap, ?_, by rw [e]; show _ = (Sp.leave _).seen; rw [J98]; rfl, ?_⟩, hr⟩
  ·unfold Tl.left; split <;> exact h.hmb
  ·rw [e]
   have e1 : ∀ y : Sp, y.leave.script = y.script := fun y => by unfold Sp.leave; split <;> rfl
   show ScAt w' mb (Tl.left { q with sc := sc' } _).sc (Sp.leave _).script
   rw [e1]
   have e2 : ∀ (z : Tl) (y : Ms), (z.left y).sc = z.sc := fun z y => by unfold Tl.left; split <;> rfl
   rw [e2]
   exact hsc
  ·rw [e]
   refine ⟨?_, by simp, by simp⟩
   have hl := Sim.leave (s := { (s.see ⟨1, s.pl.at_, 0⟩).go (if hh = true then n.toNat else s.pl.at_ + 1) with script := s.script.tail }) hon2
   exact hl.go (if hh = true then s.pl.at_ + 1 else n.toNat) _ (by cases hh <;> simp <;> omega)

theorem Ji3 (h : Bgn p fuel w M mb x q f s k) (i : Ins) (hc : i.c.toNat ≤ p.rl) : numI (x.begun s) i = numS p s i := by
 unfold numI numS
 have e1 : (x.begun s).st i.c.toNat = baseI p.log i.c.toNat := h.sim.st _ hc
 have e2 : (x.begun s).r = s.pl.r := h.sim.r
 rw [e1, e2, Int.add_comm]

theorem Bgn.num (h : Bgn p fuel w M mb x q f s k) (i : Ins) (se : List Se) (hop : i.op = 3 ∨ i.op = 4 ∨ i.op = 5 ∨ i.op = 6) (b0 : 0 ≤ i.b) (b1 : i.b < 10) (c0 : 0 ≤ i.c) (c1 : i.c < p.rl) (t : Bool) (ht : t = true ↔ (0 ≤ idxI s.pl.r i ∧ idxI s.pl.r i < J0g (p.log i.c.toNat))) (mo : List (Nat × Obj)) :
  J6r i.op i.a i.b i.c i.n (numS p s i) t M rv cv { x.begun s with mo := mo } q se := by
 intro w1 mo1 r1
 have hb := h.base i.c.toNat (by omega)
 have hsx := h.six
 have e1 : x.st i.c.toNat = baseI p.log i.c.toNat := h.sim.st _ (by omega)
 have e2 : x.st (i.c.toNat + 1) = baseI p.log (i.c.toNat + 1) := h.sim.st _ (by omega)
 have hN := J8v i w1 M rv cv _ se r1.run hop b0 b1 c0 (by omega) (by show 0 ≤ x.st i.c.toNat; rw [e1]; exact hb.1) (by show x.st i.c.toNat ≤ x.st (i.c.toNat + 1); rw [e1, e2]; omega) (by show x.st (i.c.toNat + 1) ≤ 384; rw [e2]; exact hb.2.2.2)
 refine hN.mono ?_
 rintro e w' ⟨rfl, m⟩
 refine ⟨?_, m⟩
 have e3 : numI ({ { { x.begun s with mo := mo } with mo := mo1 } with T := 98, tl := tlF q } : Ms) i = numS p s i := Ji3 h i (by omega)
 have e4 : decide (0 ≤ idxI x.r i ∧ idxI x.r i < x.st (i.c.toNat + 1) - x.st i.c.toNat) = t := by
  rw [h.sim.r, e1, e2]
  cases t with
  | true => exact decide_eq_true (by have := ht.1 rfl; omega)
  | false => exact decide_eq_false (fun hh => by have := ht.2 (by omega); cases this)
 have e5 : (decide (0 ≤ idxI (x.begun s).r i ∧ idxI (x.begun s).r i < (x.begun s).st (i.c.toNat + 1) - (x.begun s).st i.c.toNat)) = t := e4
 dsimp only at e3 ⊢
 rw [e3, e5]

theorem Bgn.len (h : Bgn p fuel w M mb x q f s k) : (s.seen ++ [(⟨1, s.pl.at_, 0⟩ : Se)]).length ≤ 200000 := by
 have := h.inv.seen
 have := h.some_
 have := h.most
 simp
 omega
theorem Bgn.steps (h : Bgn p fuel w M mb x q f s k) : 0 ≤ (x.begun s).steps ∧ (x.begun s).steps ≤ 100000 := by
 have := h.some_; have := h.most
 dsimp only [Ms.begun]
 rw [h.sim.steps]
 omega
theorem Bgn.puts (h : Bgn p fuel w M mb x q f s k) (j : Nat) (hj : (j : Int) < allI p) : 0 ≤ q.puts j ∧ q.puts j ≤ 100000 := by
 have := h.inv.pl.past j
 have := h.some_; have := h.most
 rw [h.sim.puts j hj]
 omega

theorem Jaw (h : Bgn p fuel w M mb x q f s k) (ra : Option Addr) (rc : Nat) (hrv : rv = .slice ra p.rl rc) (op a b c n : Int) (hop : op = 3 ∨ op = 5) (hI : p.ins s.pl.at_ = ⟨op, a, b, c, n⟩) (a0 : 0 ≤ a) (a1 : a < 10) (b0 : 0 ≤ b) (b1 : b < 10) (c0 : 0 ≤ c) (c1 : c < p.rl) :
  Acts 69 op a b c n w M mb rv cv (x.begun s) q (s.seen ++ [⟨1, s.pl.at_, 0⟩]) (GoodS p fuel s k mb op) := by
 subst hrv
 have hop' : op = 3 ∨ op = 4 ∨ op = 5 ∨ op = 6 := by omega
 have hput : putI ⟨op, a, b, c, n⟩ = 0 := J4i hop
 have hov : ∀ y : Sp, (false = true ↔ (op = 12 ∨ op = 9 ∧ y.ahead = true)) := fun y => by simp; omega
 have hsix := h.six
 have hall : x.st p.rl = allI p := h.sim.st _ (Nat.le_refl _)
 refine ⟨fun w1 mo r1 bw1 => ?_⟩
 have hk0 := h.keep bw1 (Below.refl M w1)
 by_cases hx : s.ahead = false ∧ (idxI s.pl.r ⟨op, a, b, c, n⟩ < 0 ∨ J0g (p.log c.toNat) ≤ idxI s.pl.r ⟨op, a, b, c, n⟩)
 ·have e := J41 hI hop' hx.1 hx.2
  refine (Jc2 op a b c n _ w1 M _ cv _ q _ r1 (by rw [h.sim.ahead]; exact hx.1) (h.num ⟨op, a, b, c, n⟩ _ hop' b0 b1 c0 c1 false (by simp; omega) mo)).mono ?_
  rintro e' w' ⟨rfl, r2, b2⟩
  refine ⟨rfl, Below.mono b2 (Nat.le_of_lt h.mM), { x.begun s with fin := 2, ended := true }, q, _, ⟨f, h.hmb, (h.keep bw1 b2).1, by rw [e]; exact (h.keep bw1 b2).2, by rw [e]; rfl, ?_⟩, r2⟩
  rw [e]
  exact ⟨rfl, h.sim.val, by dsimp only [Ms.begun]; rw [h.sim.steps], rfl, by rw [h.sim.ahead]; exact hx.1, h.sim.wd, h.sim.st⟩
 ·have e := J4z hI hop' hx
  rw [hput] at e
  obtain ⟨t, ht⟩ : ∃ t : Bool, t = true ↔ (0 ≤ idxI s.pl.r ⟨op, a, b, c, n⟩ ∧ idxI s.pl.r ⟨op, a, b, c, n⟩ < J0g (p.log c.toNat)) := ⟨decide (0 ≤ idxI s.pl.r ⟨op, a, b, c, n⟩ ∧ idxI s.pl.r ⟨op, a, b, c, n⟩ < J0g (p.log c.toNat)), by simp⟩
  have hok : t = true ∨ q.ahead = true := by
   rw [h.sim.ahead]
   cases hah : s.ahead with
   | true => exact .inr rfl
   | false => left; exact ht.2 (by have : ¬ _ := fun hh => hx ⟨hah, hh⟩; omega)
  have hN := h.num (rv := .slice ra p.rl rc) (cv := cv) ⟨op, a, b, c, n⟩ (s.seen ++ [⟨1, s.pl.at_, 0⟩]) hop' b0 b1 c0 c1 t ht mo
  obtain ⟨N, hNN⟩ : ∃ N, numS p s ⟨op, a, b, c, n⟩ = N := ⟨_, rfl⟩
  rw [hNN] at e hN
  dsimp only at hN
  by_cases hin : 0 ≤ N ∧ N < allI p
  ·have hN2 : ((N.toNat : Nat) : Int) < allI p := by omega
   have hpu := h.puts N.toNat hN2
   have hpl := h.sim.puts N.toNat hN2
   have hall2 := h.all
   have ew : wordS p (s.on.see ⟨2, N, 0⟩) ⟨op, a, b, c, n⟩ N = if 0 < s.choice ∧ s.choice ≤ ((s.pl.past N.toNat).length : Int) then
     (({ s.on.see ⟨2, N, 0⟩ with script := s.script.tail }.reg a (s.pl.wd N.toNat)).leave).reg a ((s.pl.past N.toNat).getD ((s.pl.past N.toNat).length - s.choice.toNat) 0)
     else { s.on.see ⟨2, N, 0⟩ with script := s.script.tail }.reg a (s.pl.wd N.toNat) := by
    unfold wordS
    rw [if_neg (by omega), if_neg (by rw [hput]; decide)]
    rfl
   rw [ew] at e
   have hsc0 : 0 ≤ s.script.headD 0 := by
    cases hs : s.script with
    | nil => simp
    | cons y l => exact h.inv.sc y (by rw [hs]; simp)
   have hwd : x.wd N.toNat = s.pl.wd N.toNat := h.sim.wd _ hN2
   by_cases hc : 0 < s.script.headD 0 ∧ s.script.headD 0 ≤ q.puts N.toNat
   ·have hc2 : 0 < s.choice ∧ s.choice ≤ ((s.pl.past N.toNat).length : Int) := by rw [← hpl]; exact hc
    rw [if_pos hc2] at e
    refine (Jal op a b c n N t w1 M mb ra p.rl rc cv _ q _ s.script f r1 h.len hok hsix a0 a1 (by show 0 ≤ N ∧ N < x.st p.rl; rw [hall]; exact hin) (by show x.st p.rl ≤ 384; rw [hall]; exact hall2) hpu.2 (by rw [h.hmb]; exact h.mM) (Nat.le_of_lt h.mM) h.steps.1 h.steps.2 hk0.2 (by rw [h.hmb]; exact hk0.1) hc hN).mono ?_
    rintro e' w' ⟨rfl, b2, sc', hsc, hr⟩
    have hv : f N (q.puts N.toNat - s.script.headD 0) = (s.pl.past N.toNat).getD ((s.pl.past N.toNat).length - s.choice.toNat) 0 := by
     have hch : s.choice = s.script.headD 0 := rfl
     have hlt : (s.pl.past N.toNat).length - s.choice.toNat < (s.pl.past N.toNat).length := by omega
     have h1 := h.sim.was N.toNat hN2 _ _ (List.getElem?_eq_getElem hlt)
     rw [List.getD_eq_getElem?_getD, List.getElem?_eq_getElem hlt, Option.getD_some, ← h1, hpl]
     congr 1
     ·omega
     ·omega
    rw [hv] at hr
    have hl0 : Sim p fuel { x.begun s with r := setR x.r a (s.pl.wd N.toNat) } { q with sc := sc' } f ({ s.on.see ⟨2, N, 0⟩ with script := s.script.tail }.reg a (s.pl.wd N.toNat)) (k + 1) (s.since + 1) := ((h.on.see ⟨2, N, 0⟩).tail sc').reg a (s.pl.wd N.toNat)
    have hl := Sim.leave (s := { s.on.see ⟨2, N, 0⟩ with script := s.script.tail }.reg a (s.pl.wd N.toNat)) hl0
    have hl2 := hl.reg a ((s.pl.past N.toNat).getD ((s.pl.past N.toNat).length - s.choice.toNat) 0)
    have hr2 : RunS w' M (.slice ra p.rl rc) cv { x.begun s with r := setR (setR x.r a (s.pl.wd N.toNat)) a ((s.pl.past N.toNat).getD ((s.pl.past N.toNat).length - s.choice.toNat) 0), mo := mo } (Tl.left { q with sc := sc' } { x.begun s with r := setR x.r a (s.pl.wd N.toNat) }) (s.seen ++ [⟨1, s.pl.at_, 0⟩] ++ [⟨2, N, 0⟩]) := by
     rw [← hwd]
     exact hr
    refine ⟨rfl, Below.mono b2 (Nat.le_of_lt h.mM), { x.begun s with r := setR (setR x.r a (s.pl.wd N.toNat)) a ((s.pl.past N.toNat).getD ((s.pl.past N.toNat).length - s.choice.toNat) 0) }, Tl.left { q with sc := sc' } { x.begun s with r := setR x.r a (s.pl.wd N.toNat) }, _, ⟨f, ?_, (h.keep bw1 b2).1, ?_, ?_, ?_⟩, hr2⟩
    ·unfold Tl.left; split <;> exact h.hmb
    ·rw [e]
     have e1 : ∀ y : Sp, y.leave.script = y.script := fun y => by unfold Sp.leave; split <;> rfl
     show ScAt w' mb (Tl.left { q with sc := sc' } _).sc (Sp.leave _).script
     rw [e1]
     have e2 : ∀ (z : Tl) (y : Ms), (z.left y).sc = z.sc := fun z y => by unfold Tl.left; split <;> rfl
     rw [e2]
     exact hsc
    ·rw [e]; show _ = (Sp.leave _).seen; rw [J98]; rfl
    ·rw [e]
     exact ⟨hl2, hov _, fun e => by omega⟩
   ·have hc2 : ¬ (0 < s.choice ∧ s.choice ≤ ((s.pl.past N.toNat).length : Int)) := by rw [← hpl]; exact hc
    rw [if_neg hc2] at e
    refine (J8a op a b c n N t w1 M mb ra p.rl rc cv _ q _ s.script f r1 h.len hok hsix a0 a1 (by show 0 ≤ N ∧ N < x.st p.rl; rw [hall]; exact hin) (by show x.st p.rl ≤ 384; rw [hall]; exact hall2) hpu.2 (by rw [h.hmb]; exact h.mM) (Nat.le_of_lt h.mM) h.steps.1 h.steps.2 hk0.2 (by rw [h.hmb]; exact hk0.1) (by omega) hN).mono ?_
    rintro e' w' ⟨rfl, b2, sc', hsc, hr⟩
    have hr2 : RunS w' M (.slice ra p.rl rc) cv { x.begun s with r := setR x.r a (s.pl.wd N.toNat), mo := mo } { q with sc := sc' } (s.seen ++ [⟨1, s.pl.at_, 0⟩] ++ [⟨2, N, 0⟩]) := by
     rw [← hwd]
     exact hr
    refine ⟨rfl, Below.mono b2 (Nat.le_of_lt h.mM), { x.begun s with r := setR x.r a (s.pl.wd N.toNat) }, { q with sc := sc' }, _, ⟨f, h.hmb, (h.keep bw1 b2).1, by rw [e]; exact hsc, by rw [e]; rfl, ?_⟩, hr2⟩
    rw [e]
    exact ⟨((h.on.see ⟨2, N, 0⟩).tail sc').reg a (s.pl.wd N.toNat), hov _, fun e => by omega⟩
  ·have ew : wordS p (s.on.see ⟨2, N, 0⟩) ⟨op, a, b, c, n⟩ N = (s.on.see ⟨2, N, 0⟩).reg a 0 := by
    unfold wordS
    rw [if_pos (by omega), if_pos hput]
   rw [ew] at e
   refine (Jak op a b c n N t w1 M ra p.rl rc cv _ q _ r1 h.len hok hsix a0 a1 (by show ¬ (0 ≤ N ∧ N < x.st p.rl); rw [hall]; exact hin) hN).mono ?_
   rintro e' w' ⟨rfl, r2, b2⟩
   refine ⟨rfl, Below.mono b2 (Nat.le_of_lt h.mM), { x.begun s with r := setR x.r a 0 }, q, _, ⟨f, h.hmb, (h.keep bw1 b2).1, by rw [e]; exact (h.keep bw1 b2).2, by rw [e]; rfl, ?_⟩, r2⟩
   rw [e]
   exact ⟨(h.on.see ⟨2, N, 0⟩).reg a 0, hov _, fun e => by omega⟩

theorem Je9 (h : Bgn p fuel w M mb x q f s k) (ra : Option Addr) (rc : Nat) (hrv : rv = .slice ra p.rl rc) (op a b c n : Int) (hop : op = 4 ∨ op = 6) (hI : p.ins s.pl.at_ = ⟨op, a, b, c, n⟩) (a0 : 0 ≤ a) (a1 : a < 10) (b0 : 0 ≤ b) (b1 : b < 10) (c0 : 0 ≤ c) (c1 : c < p.rl) :
  Acts 70 op a b c n w M mb rv cv (x.begun s) q (s.seen ++ [⟨1, s.pl.at_, 0⟩]) (GoodS p fuel s k mb op) := by
 subst hrv
 have hop' : op = 3 ∨ op = 4 ∨ op = 5 ∨ op = 6 := by omega
 have hput : putI ⟨op, a, b, c, n⟩ = 1 := J5z hop
 have hov : ∀ y : Sp, (false = true ↔ (op = 12 ∨ op = 9 ∧ y.ahead = true)) := fun y => by simp; omega
 have hsix := h.six
 have hall : x.st p.rl = allI p := h.sim.st _ (Nat.le_refl _)
 refine ⟨fun w1 mo r1 bw1 => ?_⟩
 have hk0 := h.keep bw1 (Below.refl M w1)
 by_cases hx : s.ahead = false ∧ (idxI s.pl.r ⟨op, a, b, c, n⟩ < 0 ∨ J0g (p.log c.toNat) ≤ idxI s.pl.r ⟨op, a, b, c, n⟩)
 ·have e := J41 hI hop' hx.1 hx.2
  refine (Jdm op a b c n _ w1 M _ cv _ q _ r1 (by rw [h.sim.ahead]; exact hx.1) (h.num ⟨op, a, b, c, n⟩ _ hop' b0 b1 c0 c1 false (by simp; omega) mo)).mono ?_
  rintro e' w' ⟨rfl, r2, b2⟩
  refine ⟨rfl, Below.mono b2 (Nat.le_of_lt h.mM), { x.begun s with fin := 2, ended := true }, q, _, ⟨f, h.hmb, (h.keep bw1 b2).1, by rw [e]; exact (h.keep bw1 b2).2, by rw [e]; rfl, ?_⟩, r2⟩
  rw [e]
  exact ⟨rfl, h.sim.val, by dsimp only [Ms.begun]; rw [h.sim.steps], rfl, by rw [h.sim.ahead]; exact hx.1, h.sim.wd, h.sim.st⟩
 ·have e := J4z hI hop' hx
  rw [hput] at e
  obtain ⟨t, ht⟩ : ∃ t : Bool, t = true ↔ (0 ≤ idxI s.pl.r ⟨op, a, b, c, n⟩ ∧ idxI s.pl.r ⟨op, a, b, c, n⟩ < J0g (p.log c.toNat)) := ⟨decide (0 ≤ idxI s.pl.r ⟨op, a, b, c, n⟩ ∧ idxI s.pl.r ⟨op, a, b, c, n⟩ < J0g (p.log c.toNat)), by simp⟩
  have hok : t = true ∨ q.ahead = true := by
   rw [h.sim.ahead]
   cases hah : s.ahead with
   | true => exact .inr rfl
   | false => left; exact ht.2 (by have : ¬ _ := fun hh => hx ⟨hah, hh⟩; omega)
  have hN := h.num (rv := .slice ra p.rl rc) (cv := cv) ⟨op, a, b, c, n⟩ (s.seen ++ [⟨1, s.pl.at_, 0⟩]) hop' b0 b1 c0 c1 t ht mo
  obtain ⟨N, hNN⟩ : ∃ N, numS p s ⟨op, a, b, c, n⟩ = N := ⟨_, rfl⟩
  rw [hNN] at e hN
  dsimp only at hN
  by_cases hin : 0 ≤ N ∧ N < allI p
  ·have hN2 : ((N.toNat : Nat) : Int) < allI p := by omega
   have hpu := h.puts N.toNat hN2
   have hall2 := h.all
   have ew : wordS p (s.on.see ⟨2, N, 1⟩) ⟨op, a, b, c, n⟩ N = { s.on.see ⟨2, N, 1⟩ with pl := { (s.on.see ⟨2, N, 1⟩).pl with past := setF s.pl.past N.toNat (s.pl.past N.toNat ++ [s.pl.wd N.toNat]), wd := setF s.pl.wd N.toNat (s.pl.r a.toNat) } } := by
    unfold wordS
    rw [if_neg (by omega), if_pos hput]
    rfl
   rw [ew] at e
   refine (Jah op a b c n N t w1 M ra p.rl rc cv _ q _ f r1 h.len hok hsix a0 a1 (by show 0 ≤ N ∧ N < x.st p.rl; rw [hall]; exact hin) (by show x.st p.rl ≤ 384; rw [hall]; exact hall2) hpu.1 hpu.2 (by rw [h.hmb]; exact h.mM) (by rw [h.hmb]; exact hk0.1) hN).mono ?_
   rintro e' w' ⟨rfl, b2, hm2, hr⟩
   rw [h.hmb] at b2 hm2
   refine ⟨rfl, b2, { x.begun s with wd := setN x.wd N.toNat (x.r a.toNat) }, { q with puts := setN q.puts N.toNat (q.puts N.toNat + 1) }, _, ⟨_, h.hmb, hm2, by rw [e]; exact hk0.2.below b2, by rw [e]; rfl, ?_⟩, hr⟩
   rw [e]
   exact ⟨(h.on.see ⟨2, N, 1⟩).put N hin.1 hin.2 a (x.r a.toNat) rfl, hov _, fun e => by omega⟩
  ·have ew : wordS p (s.on.see ⟨2, N, 1⟩) ⟨op, a, b, c, n⟩ N = s.on.see ⟨2, N, 1⟩ := by
    unfold wordS
    rw [if_pos (by omega), if_neg (by rw [hput]; decide)]
   rw [ew] at e
   refine (Jc0 op a b c n N t w1 M ra p.rl rc cv _ q _ r1 h.len hok hsix (by show ¬ (0 ≤ N ∧ N < x.st p.rl); rw [hall]; exact hin) hN).mono ?_
   rintro e' w' ⟨rfl, r2, b2⟩
   refine ⟨rfl, Below.mono b2 (Nat.le_of_lt h.mM), x.begun s, q, _, ⟨f, h.hmb, (h.keep bw1 b2).1, by rw [e]; exact (h.keep bw1 b2).2, by rw [e]; rfl, ?_⟩, r2⟩
   rw [e]
   exact ⟨h.on.see ⟨2, N, 1⟩, hov _, fun e => by omega⟩
end
theorem Jay (s : Sp) (o : Bool) : (s.after o).script = s.script := by
 unfold Sp.after
 split
 ·split <;> rfl
 ·rfl

structure J76 (p : Prg) (fuel : Nat) (s : Sp) (k mb : Nat) (w : World) (x : Ms) (q : Tl) (se : List Se) : Prop where
 out : ∃ f, q.mb = mb ∧ MapAt w mb f ∧ ScAt w mb q.sc (stepS p s).1.script ∧
  match (stepS p s).2.2 with
  | none => Sim p fuel x q f ((stepS p s).1.after (stepS p s).2.1) (k + 1) ((stepS p s).1.after (stepS p s).2.1).since ∧ se = ((stepS p s).1.after (stepS p s).2.1).seen
  | some e => Jlu p x q s.pl.wd e.1 e.2 ((k : Int) + 1) ∧ se = (stepS p s).1.seen

theorem GoodS.told {p : Prg} {fuel : Nat} {s : Sp} {k mb : Nat} {op : Int} {w : World} {x : Ms} {q : Tl} {se : List Se} (h : GoodS p fuel s k mb op w x q se) : J76 p fuel s k mb w (backX (endsS op x q) x q) (backQ (endsS op x q) q) (J1a (endsS op x q) se) := by
 obtain ⟨f, h1, h2, h3, rfl, h5⟩ := h.out
 have e1 : (backQ (endsS op x q) q).mb = q.mb := by unfold backQ; split <;> rfl
 have e2 : (backQ (endsS op x q) q).sc = q.sc := by unfold backQ; split <;> rfl
 refine ⟨f, by rw [e1]; exact h1, h2, by rw [e2]; exact h3, ?_⟩
 cases hq : (stepS p s).2.2 with
 | none =>
  rw [hq] at h5
  dsimp only at h5 ⊢
  exact Sim.after h5.1 op _ h5.2.1 h5.2.2
 | some e =>
  rw [hq] at h5
  dsimp only at h5 ⊢
  have e0 : endsS op x q = false := by unfold endsS; rw [h5.ahead]; rfl
  rw [e0]
  exact ⟨h5, rfl⟩

theorem GoodS.below {p : Prg} {fuel : Nat} {s : Sp} {k mb M : Nat} (hm : mb < M) {op : Int} {w1 w2 : World} {x : Ms} {q : Tl} {se : List Se} (h : GoodS p fuel s k mb op w1 x q se) (b : Below M w1 w2) : GoodS p fuel s k mb op w2 x q se := by
 obtain ⟨f, h1, h2, h3, h4, h5⟩ := h.out
 exact ⟨f, h1, h2.below b hm, h3.below (Below.mono b (Nat.le_of_lt hm)), h4, h5⟩

theorem Jaj {p : Prg} {fuel : Nat} {w : World} {M mb : Nat} {x : Ms} {q : Tl} {f : Int → Int → Int} {s : Sp} {k : Nat} (ra : Option Addr) (rc cb co cc : Nat) (h : Bgn p fuel w M mb x q f s k) (hat : s.pl.at_ < p.cl) (hcl : p.cl ≤ 8000) (hcb : cb < M)
  (hin : InsOk p.rl p.log p.cl 10 (p.ins s.pl.at_)) (hn64 : B64 (p.ins s.pl.at_).n)
  (hcode : w.cell? ⟨cb, co + s.pl.at_ * 5, none⟩ = some (V (p.ins s.pl.at_).op) ∧ w.cell? ⟨cb, co + s.pl.at_ * 5 + 1, none⟩ = some (V (p.ins s.pl.at_).a) ∧ w.cell? ⟨cb, co + s.pl.at_ * 5 + 2, none⟩ = some (V (p.ins s.pl.at_).b) ∧ w.cell? ⟨cb, co + s.pl.at_ * 5 + 3, none⟩ = some (V (p.ins s.pl.at_).c) ∧ w.cell? ⟨cb, co + s.pl.at_ * 5 + 4, none⟩ = some (V (p.ins s.pl.at_).n))
  (hr : RunS w M (.slice ra p.rl rc) (.slice (some ⟨cb, co, none⟩) p.cl cc) x q s.seen) :
  Calls Tryz.prog 31 #[.pointer (some ⟨M, 0, none⟩)] w fun e w' => e = .returned (.tuple #[]) ∧ Below mb w w' ∧ ∃ x' q' se', J76 p fuel s k mb w' x' q' se' ∧ RunS w' M (.slice ra p.rl rc) (.slice (some ⟨cb, co, none⟩) p.cl cc) { x' with mo := x.mo } q' se' := by
 have hsl : s.seen.length ≤ 200000 := by
  have := h.inv.seen
  have := h.some_
  have := h.most
  omega
 obtain ⟨i, hI⟩ : ∃ i, p.ins s.pl.at_ = i := ⟨_, rfl⟩
 rw [hI] at hin hcode hn64
 obtain ⟨op, a, b, c, n⟩ := i
 dsimp only at hcode hn64
 have hBg : Calls Tryz.prog 27 #[.pointer (some ⟨M, 0, none⟩)] w fun e w' => e = .returned (.agg #[V op, V a, V b, V c, V n]) ∧ RunS w' M (.slice ra p.rl rc) (.slice (some ⟨cb, co, none⟩) p.cl cc) (x.begun s) q (s.seen ++ [⟨1, s.pl.at_, 0⟩]) ∧ Below M w w' := by
  refine (Jbx op a b c n w M (.slice ra p.rl rc) cb co p.cl cc s.pl.at_ { x with T := 98, tl := tlF q } s.seen hsl h.sim.next hat hcl (by show 0 ≤ x.steps; rw [h.sim.steps]; omega) (by show x.steps ≤ 40000; rw [h.sim.steps]; have := h.some_; have := h.most; omega) hcb hcode.1 hcode.2.1 hcode.2.2.1 hcode.2.2.2.1 hcode.2.2.2.2 hr.run).mono ?_
  rintro e w' ⟨rfl, r2, b2⟩
  exact ⟨rfl, ⟨r2⟩, b2⟩
 have hlen : ∀ w1 x2 q2 se2, GoodS p fuel s k mb op w1 x2 q2 se2 → se2.length ≤ 200000 := by
  intro w1 x2 q2 se2 hg
  obtain ⟨_, _, _, _, rfl, _⟩ := hg.out
  have h1 := (h.inv.step hat (by rw [hI]; exact hin) (by rw [hI]; exact hn64)).seen
  have := h.some_
  have := h.most
  omega
 have fin : ∀ (e : Ending) (w' : World), (e = .returned (.tuple #[]) ∧ Below mb w w' ∧ ∃ x2 q2 se2, GoodS p fuel s k mb op w' x2 q2 se2 ∧ RunS w' M (.slice ra p.rl rc) (.slice (some ⟨cb, co, none⟩) p.cl cc) { backX (endsS op x2 q2) x2 q2 with mo := x.mo } (backQ (endsS op x2 q2) q2) (J1a (endsS op x2 q2) se2)) →
   e = .returned (.tuple #[]) ∧ Below mb w w' ∧ ∃ x' q' se', J76 p fuel s k mb w' x' q' se' ∧ RunS w' M (.slice ra p.rl rc) (.slice (some ⟨cb, co, none⟩) p.cl cc) { x' with mo := x.mo } q' se' := by
  rintro e w' ⟨rfl, b2, x2, q2, se2, hg, r2⟩
  exact ⟨rfl, b2, _, _, _, hg.told, r2⟩
 have hst : ∀ w1 w2 x2 q2 se2, GoodS p fuel s k mb op w1 x2 q2 se2 → Below M w1 w2 → GoodS p fuel s k mb op w2 x2 q2 se2 := fun w1 w2 x2 q2 se2 hg hb => hg.below h.mM hb
 have hw : ∀ (hop : op = 3 ∨ op = 4 ∨ op = 5 ∨ op = 6), 0 ≤ a ∧ a < 10 ∧ 0 ≤ b ∧ b < 10 ∧ 0 ≤ c ∧ c < p.rl := by
  intro hop
  unfold InsOk Reg Rgn at hin
  dsimp only at hin
  rcases hop with rfl | rfl | rfl | rfl <;> simp at hin <;> omega
 by_cases h8 : op = 8
 ·subst h8
  have hin2 := hin
  unfold InsOk Reg Plc at hin2
  simp at hin2
  exact (Jdr a b c n w M mb _ _ x (x.begun s) q _ _ (Nat.le_of_lt h.mM) rfl hr.lt hst hlen hBg (Jns h a b c n hI (by omega) (by omega) (by omega) (by omega) (by omega))).mono fin
 by_cases h9 : op = 9
 ·subst h9
  have hin2 := hin
  unfold InsOk Reg at hin2
  simp at hin2
  exact (Jds a b c n w M mb _ _ x (x.begun s) q _ _ (Nat.le_of_lt h.mM) rfl hr.lt hst hlen hBg (Jnt h a b c n hI (by omega) (by omega))).mono fin
 by_cases h3 : op = 3
 ·subst h3
  have := hw (by omega)
  exact (Jdn a b c n w M mb _ _ x (x.begun s) q _ _ (Nat.le_of_lt h.mM) rfl hr.lt hst hlen hBg (Jaw h ra rc rfl 3 a b c n (by omega) hI (by omega) (by omega) (by omega) (by omega) (by omega) (by omega))).mono fin
 by_cases h5 : op = 5
 ·subst h5
  have := hw (by omega)
  exact (Jdp a b c n w M mb _ _ x (x.begun s) q _ _ (Nat.le_of_lt h.mM) rfl hr.lt hst hlen hBg (Jaw h ra rc rfl 5 a b c n (by omega) hI (by omega) (by omega) (by omega) (by omega) (by omega) (by omega))).mono fin
 by_cases h4 : op = 4
 ·subst h4
  have := hw (by omega)
  exact (Jdo a b c n w M mb _ _ x (x.begun s) q _ _ (Nat.le_of_lt h.mM) rfl hr.lt hst hlen hBg (Je9 h ra rc rfl 4 a b c n (by omega) hI (by omega) (by omega) (by omega) (by omega) (by omega) (by omega))).mono fin
 by_cases h6 : op = 6
 ·subst h6
  have := hw (by omega)
  exact (Jdq a b c n w M mb _ _ x (x.begun s) q _ _ (Nat.le_of_lt h.mM) rfl hr.lt hst hlen hBg (Je9 h ra rc rfl 6 a b c n (by omega) hI (by omega) (by omega) (by omega) (by omega) (by omega) (by omega))).mono fin
 exact (J8w op a b c n w M mb _ _ x (x.begun s) q _ _ h3 h4 h5 h6 h8 h9 (Nat.le_of_lt h.mM) rfl hr.lt hst hlen hBg (Jgw h op a b c n hI hin h3 h4 h5 h6 h8 h9)).mono fin

structure WayS (p : Prg) (fuel g : Nat) (R : ShF) (x : Ms) (q : Tl) (f : Int → Int → Int) (se : List Se) (s : Sp) (k : Nat) : Prop where
 kg : k + g = fuel
 sim : Sim p fuel x q f s k s.since
 seen : se = s.seen
 inv : InvS p k (4 * k) s
 run : runS p g k s = R
structure FinS (p : Prg) (R : ShF) (x : Ms) (q : Tl) (se : List Se) : Prop where
 fin : x.fin = R.fin
 val : x.val = R.val
 steps : x.steps = R.steps
 seen : se = R.seen
 wd : ∀ j : Nat, (j : Int) < allI p → (if q.ahead = true then q.bw else x.wd) j = R.wd j
 st : ∀ j, j ≤ p.rl → x.st j = baseI p.log j
 short : se.length ≤ 200000

theorem WayS.mos {p : Prg} {fuel g : Nat} {R : ShF} {x : Ms} {q : Tl} {f : Int → Int → Int} {se : List Se} {s : Sp} {k : Nat} (h : WayS p fuel g R x q f se s k) (l : List (Nat × Obj)) : WayS p fuel g R { x with mo := l } q f se s k := ⟨h.kg, h.sim.mos l, h.seen, h.inv, h.run⟩
theorem FinS.mos {p : Prg} {R : ShF} {x : Ms} {q : Tl} {se : List Se} (h : FinS p R x q se) (l : List (Nat × Obj)) : FinS p R { x with mo := l } q se := ⟨h.fin, h.val, h.steps, h.seen, h.wd, h.st, h.short⟩

theorem J86 {p : Prg} {fuel g : Nat} {R : ShF} {w : World} {M : Nat} {x : Ms} {q : Tl} {f : Int → Int → Int} {se : List Se} (rv : Value) (ca : Option Addr) (cc : Nat) (hf : fuel ≤ 40000) (hr : RunS w M rv (.slice ca p.cl cc) x q se)
  (Φ : Sp → Prop) (hw : (∃ s k, WayS p fuel g R x q f se s k ∧ Φ s) ∨ (x.ended = true ∧ q.ahead = false ∧ FinS p R x q se)) :
  Calls Tryz.prog 30 #[.pointer (some ⟨M, 0, none⟩)] w fun e w' => Below M w w' ∧ ∃ (b : Bool) (x' : Ms) (q' : Tl) (se' : List Se), e = .returned (.bool b) ∧ RunS w' M rv (.slice ca p.cl cc) x' q' se' ∧ q'.mb = q.mb ∧ q'.sc = q.sc ∧ x'.mo = x.mo ∧
   ((b = false ∧ FinS p R x' q' se') ∨ (b = true ∧ ∃ g' s k, g = g' + 1 ∧ k + g = fuel ∧ Sim p fuel x' q' f (s.noneLeft p.cl) k (s.noneLeft p.cl).since ∧ se' = (s.noneLeft p.cl).seen ∧ InvS p k (4 * k + 1) (s.noneLeft p.cl) ∧ (s.noneLeft p.cl).pl.at_ < p.cl ∧ (s.noneLeft p.cl).script = s.script ∧ WayS p fuel g R x q f se s k ∧ Φ s)) := by
 rcases hw with ⟨s, k, hw, hΦ⟩ | ⟨he, ha, hfin⟩
 ·have hlen : se.length ≤ 200000 := by rw [hw.seen]; have := hw.inv.seen; have := hw.kg; omega
  cases g with
  | zero =>
   have hk := hw.kg
   have hno : noneS p.cl x q = false := by
    unfold noneS
    rw [hw.sim.steps, hw.sim.fuel, decide_eq_false (by omega : ¬ ((k : Int) < (fuel : Int)))]
    simp
   refine (J3y w M rv ca p.cl cc x { x with fin := 0, ended := true } q se false hr hlen (fun w1 r1 => ?_)).mono ?_
   ·rw [hno] at r1 ⊢
    refine (J4j w1 M rv _ _ _ r1.run hw.sim.ended (by show ¬ x.steps < x.fuel; rw [hw.sim.steps, hw.sim.fuel]; omega)).mono ?_
    rintro e w' ⟨rfl, r2, b2⟩
    exact ⟨rfl, ⟨r2⟩, b2⟩
   ·rintro e w' ⟨rfl, r2, b2⟩
    rw [hno] at r2
    have hR := hw.run
    rw [runS] at hR
    subst hR
    refine ⟨b2, false, _, _, _, rfl, r2, rfl, rfl, rfl, .inl ⟨rfl, rfl, hw.sim.val, by show x.steps = _; rw [hw.sim.steps], by show se = _; rw [hw.seen], fun j hj => ?_, hw.sim.st, hlen⟩⟩
    show (if q.ahead = true then q.bw else x.wd) j = s.real.wd j
    unfold Sp.real
    rw [hw.sim.ahead]
    by_cases ha : s.ahead = true
    ·rw [if_pos ha, if_pos ha]; exact hw.sim.bw ha j hj
    ·rw [if_neg ha, if_neg ha]; exact hw.sim.wd j hj
  | succ g' =>
   have hk := hw.kg
   obtain ⟨hs, hse⟩ := hw.sim.noneLeft (by omega)
   have hse2 : J1a (noneS p.cl x q) se = (s.noneLeft p.cl).seen := by rw [hw.seen]; exact hse
   have hinv := hw.inv.noneLeft p.cl
   have hsc : (s.noneLeft p.cl).script = s.script := by unfold Sp.noneLeft; split <;> rfl
   have e1 : (backQ (noneS p.cl x q) q).mb = q.mb := by unfold backQ; split <;> rfl
   have e2 : (backQ (noneS p.cl x q) q).sc = q.sc := by unfold backQ; split <;> rfl
   have e3 : (backX (noneS p.cl x q) x q).mo = x.mo := by unfold backX; split <;> rfl
   have hsi : Sim p fuel (backX (noneS p.cl x q) x q) (backQ (noneS p.cl x q) q) f (s.noneLeft p.cl) k (s.noneLeft p.cl).since := by
    have : (s.noneLeft p.cl).since = s.since := by unfold Sp.noneLeft; split <;> rfl
    rw [this]; exact hs
   by_cases hat : (s.noneLeft p.cl).pl.at_ < p.cl
   ·refine (J3y w M rv ca p.cl cc x (backX (noneS p.cl x q) x q) q se true hr hlen (fun w1 r1 => ?_)).mono ?_
    ·refine (J62 w1 M rv ca p.cl cc _ _ r1.run hs.ended (by show (backX (noneS p.cl x q) x q).steps < (backX (noneS p.cl x q) x q).fuel; rw [hs.steps, hs.fuel]; omega) (by show (backX (noneS p.cl x q) x q).next < _; rw [hs.next]; omega)).mono ?_
     rintro e w' ⟨rfl, r2, b2⟩
     exact ⟨rfl, ⟨r2⟩, b2⟩
    ·rintro e w' ⟨rfl, r2, b2⟩
     exact ⟨b2, true, _, _, _, rfl, r2, e1, e2, e3, .inr ⟨rfl, g', s, k, rfl, hk, hsi, hse2, hinv, hat, hsc, hw, hΦ⟩⟩
   ·refine (J3y w M rv ca p.cl cc x { backX (noneS p.cl x q) x q with fin := 2, ended := true } q se false hr hlen (fun w1 r1 => ?_)).mono ?_
    ·refine (J4k w1 M rv ca p.cl cc _ _ r1.run hs.ended (by show (backX (noneS p.cl x q) x q).steps < (backX (noneS p.cl x q) x q).fuel; rw [hs.steps, hs.fuel]; omega) (by show ¬ (backX (noneS p.cl x q) x q).next < _; rw [hs.next]; omega)).mono ?_
     rintro e w' ⟨rfl, r2, b2⟩
     exact ⟨rfl, ⟨r2⟩, b2⟩
    ·rintro e w' ⟨rfl, r2, b2⟩
     have hR := hw.run
     rw [runS, if_pos (by omega)] at hR
     subst hR
     have hna := J8r (s := s) (cl := p.cl) (by omega)
     refine ⟨b2, false, _, _, _, rfl, r2, e1, e2, e3, .inl ⟨rfl, rfl, hs.val, hs.steps, hse2, fun j hj => ?_, hs.st, by rw [hse2]; have := hinv.seen; omega⟩⟩
     have hqa : (backQ (noneS p.cl x q) q).ahead = false := by rw [hs.ahead]; exact hna
     show (if (backQ (noneS p.cl x q) q).ahead = true then _ else (backX (noneS p.cl x q) x q).wd) j = (s.noneLeft p.cl).real.wd j
     unfold Sp.real
     rw [hqa, hna]
     simp only [Bool.false_eq_true, if_false]
     exact hs.wd j hj
 ·have hno : noneS p.cl x q = false := by unfold noneS; rw [ha]; rfl
  refine (J3y w M rv ca p.cl cc x x q se false hr hfin.short (fun w1 r1 => ?_)).mono ?_
  ·rw [hno] at r1 ⊢
   refine (J4l w1 M rv _ _ _ r1.run he).mono ?_
   rintro e w' ⟨rfl, r2, b2⟩
   exact ⟨rfl, ⟨r2⟩, b2⟩
  ·rintro e w' ⟨rfl, r2, b2⟩
   rw [hno] at r2
   exact ⟨b2, false, _, _, _, rfl, r2, rfl, rfl, rfl, .inl ⟨rfl, hfin⟩⟩

theorem Jiv {p : Prg} {fuel g' : Nat} {R : ShF} {x x' : Ms} {q q' : Tl} {f : Int → Int → Int} {se se' : List Se} {s : Sp} {k mb : Nat} {w : World} (hf : fuel ≤ 40000) (hw : WayS p fuel (g' + 1) R x q f se s k) (hat : (s.noneLeft p.cl).pl.at_ < p.cl) (hin : InsOk p.rl p.log p.cl 10 (p.ins (s.noneLeft p.cl).pl.at_)) (hn : B64 (p.ins (s.noneLeft p.cl).pl.at_).n)
  (ht : J76 p fuel (s.noneLeft p.cl) k mb w x' q' se') :
  ∃ f', q'.mb = mb ∧ MapAt w mb f' ∧ ((∃ s' k', WayS p fuel g' R x' q' f' se' s' k' ∧ ScAt w mb q'.sc s'.script) ∨ (x'.ended = true ∧ q'.ahead = false ∧ FinS p R x' q' se')) := by
 obtain ⟨f', h1, h2, h3, h4⟩ := ht.out
 have hinv := (hw.inv.noneLeft p.cl).step hat hin hn
 have hR := hw.run
 rw [runS, if_neg (by omega)] at hR
 have hk := hw.kg
 refine ⟨f', h1, h2, ?_⟩
 cases hq : (stepS p (s.noneLeft p.cl)).2.2 with
 | none =>
  rw [hq] at h4 hR
  dsimp only at h4 hR
  exact .inl ⟨_, k + 1, ⟨by omega, h4.1, h4.2, (hinv.after _).mono (Nat.le_refl _) (by omega), hR⟩, by rw [Jay]; exact h3⟩
 | some e =>
  rw [hq] at h4 hR
  dsimp only at h4 hR
  subst hR
  refine .inr ⟨h4.1.ended, h4.1.ahead, h4.1.fin, h4.1.val, h4.1.steps, h4.2, fun j hj => ?_, h4.1.st, by rw [h4.2]; have := hinv.seen; omega⟩
  rw [h4.1.ahead]
  simp only [Bool.false_eq_true, if_false]
  rw [h4.1.wd j hj]
  show _ = (stepS p (s.noneLeft p.cl)).1.real.wd j
  cases ha : (s.noneLeft p.cl).ahead with
  | true =>
   have := (Jgp p _ ha).1
   rw [hq] at this
   cases this
  | false =>
   rw [Jio hq]
   unfold Sp.real
   rw [if_neg (by show ¬ (s.noneLeft p.cl).ahead = true; rw [ha]; decide)]
   rfl
end
section
open Go.RowKit
set_option linter.unusedSimpArgs false
set_option linter.unusedVariables false
structure WdsS (m mm : Mem) (x : Ms) : Prop where
 wd : ∀ c, c < m.ml → ∀ i, i < m.len c → x.wd (baseN m.len c + i) = mm.wd c i
 st : ∀ j, j ≤ m.ml → x.st j = (baseN m.len j : Int)
structure RelS (m : Mem) (fuel : Nat) (x : Ms) (s : St) (k : Nat) : Prop where
 r : x.r = s.r
 w : WdsS m s.m x
 next : x.next = (s.at_ : Int)
 fin : x.fin = 0
 val : x.val = 0
 steps : x.steps = (k : Int)
 fuel : x.fuel = (fuel : Int)
 ended : x.ended = false
structure Jnp (m mm : Mem) (x : Ms) (f v t : Int) : Prop where
 w : WdsS m mm x
 fin : x.fin = f
 val : x.val = v
 steps : x.steps = t
 ended : x.ended = true

theorem WdsS.set {m mm : Mem} {x : Ms} (h : WdsS m mm x) (c i : Nat) (hc : c < m.ml) (hi : i < m.len c) (v : Int) (x' : Ms) (hx : x'.wd = setN x.wd (baseN m.len c + i) v) (hs : x'.st = x.st) : WdsS m (setW mm c i v) x' := by
 refine ⟨fun c' hc' i' hi' => ?_, fun j hj => by rw [hs]; exact h.st j hj⟩
 rw [hx]
 unfold setN setW
 dsimp only
 by_cases e : baseN m.len c' + i' = baseN m.len c + i
 ·obtain ⟨rfl, rfl⟩ := Jec m.len hi' hi e
  rw [if_pos rfl, if_pos ⟨rfl, rfl⟩]
 ·rw [if_neg e, if_neg (fun h => e (by rw [h.1, h.2]))]
  exact h.wd c' hc' i' hi'

def After (m : Mem) (fuel : Nat) (x' : Ms) (k : Nat) (q : St × Option (Int × Int)) : Prop :=
 match q.2 with
 | none => RelS m fuel x' q.1 k
 | some e => Jnp m q.1.m x' e.1 e.2 (k : Int)

set_option maxHeartbeats 1000000 in
theorem Joe (p : Prg) (m : Mem) (fuel : Nat) (s : St) (k : Nat) (x : Ms) (w : World) (M : Nat) (rv cv : Value) (hin : InsOk p.rl p.log p.cl 10 (p.ins s.at_)) (hrl : m.ml = p.rl) (hml : m.ml ≤ 6) (hlen : ∀ i, i < m.ml → (m.len i : Int) = J0g (p.log i)) (hpos : ∀ i, i < m.ml → 0 < m.len i ∧ m.len i ≤ 64)
  (hs2 : ∀ j, s.m.len j = m.len j) (hl : s.seen.length ≤ 100000) (hR : RelS m fuel x ⟨s.at_ + 1, s.r, s.m, s.seen ++ [⟨1, s.at_, 0⟩]⟩ k) (h : Run w M rv cv x (s.seen ++ [⟨1, s.at_, 0⟩])) :
  Calls Tryz.prog 26 #[.pointer (some ⟨M, 0, none⟩), .agg #[V (p.ins s.at_).op, V (p.ins s.at_).a, V (p.ins s.at_).b, V (p.ins s.at_).c, V (p.ins s.at_).n]] w fun e w' =>
   e = .returned (.tuple #[]) ∧ Below M w w' ∧ ∃ x', Run w' M rv cv x' (stepI p s).1.seen ∧ After m fuel x' k (stepI p s) := by
 have hl' : (s.seen ++ [(⟨1, s.at_, 0⟩ : Se)]).length ≤ 200000 := by simp; omega
 have ok : ∀ {x2 : Ms} {se2 : List Se}, (stepI p s).1.seen = se2 → After m fuel x2 k (stepI p s) → ∀ (e : Ending) (w' : World), (e = .returned (.tuple #[]) ∧ Run w' M rv cv x2 se2 ∧ Below M w w') → e = .returned (.tuple #[]) ∧ Below M w w' ∧ ∃ x', Run w' M rv cv x' (stepI p s).1.seen ∧ After m fuel x' k (stepI p s) := by
  rintro x2 se2 hse ha e w' ⟨rfl, r2, b2⟩
  exact ⟨rfl, b2, x2, by rw [hse]; exact r2, ha⟩
 have hr := hR.r
 dsimp only at hr
 cases hI : p.ins s.at_ with
 | mk op a b c n =>
 rw [hI] at hin
 dsimp only
 have word : ∀ (hop : op = 3 ∨ op = 4 ∨ op = 5 ∨ op = 6), 0 ≤ a ∧ a < 10 ∧ 0 ≤ b ∧ b < 10 ∧ 0 ≤ c ∧ c < p.rl := by
  intro hop
  unfold InsOk Reg Rgn at hin
  dsimp only at hin
  rcases hop with rfl | rfl | rfl | rfl <;> simp at hin <;> omega
 have bse : ∀ (hop : op = 3 ∨ op = 4 ∨ op = 5 ∨ op = 6), x.st c.toNat = (baseN m.len c.toNat : Int) ∧ x.st (c.toNat + 1) = (baseN m.len c.toNat : Int) + (m.len c.toNat : Int) ∧ baseN m.len c.toNat + m.len c.toNat ≤ 384 ∧ c.toNat < m.ml ∧ c < 6 := by
  intro hop
  have := word hop
  have hc : c.toNat < m.ml := by omega
  have h1 := hR.w.st c.toNat (by omega)
  have h2 := hR.w.st (c.toNat + 1) (by omega)
  have h3 := J5r m.len (c.toNat + 1) (fun j hj => (hpos j (by omega)).2)
  simp only [baseN] at h2 h3
  refine ⟨h1, by rw [h2]; push_cast; rfl, by omega, hc, by omega⟩
 by_cases h1 : op = 1
 ·subst h1
  have ha : 0 ≤ a ∧ a < 10 := by unfold InsOk Reg at hin; simp at hin; exact hin.1
  have e : stepI p s = (⟨s.at_ + 1, setR s.r a n, s.m, s.seen ++ [⟨1, s.at_, 0⟩]⟩, none) := by simp [stepI, hI, putI, regsI]
  exact (do_1 a b c n w M rv cv x _ h ha.1 ha.2).mono (ok (by rw [e]) (by rw [e]; exact ⟨by rw [hr], ⟨hR.w.wd, hR.w.st⟩, hR.next, hR.fin, hR.val, hR.steps, hR.fuel, hR.ended⟩))
 by_cases h2 : op = 2
 ·subst h2
  have ha : (0 ≤ a ∧ a < 10) ∧ (0 ≤ b ∧ b < 10) := by unfold InsOk Reg at hin; simp at hin; exact ⟨hin.1, hin.2.1⟩
  have e : stepI p s = (⟨s.at_ + 1, setR s.r a (s.r b.toNat), s.m, s.seen ++ [⟨1, s.at_, 0⟩]⟩, none) := by simp [stepI, hI, putI, regsI]
  exact (do_2 a b c n w M rv cv x _ h ha.1.1 ha.1.2 ha.2.1 ha.2.2).mono (ok (by rw [e]) (by rw [e]; exact ⟨by rw [hr], ⟨hR.w.wd, hR.w.st⟩, hR.next, hR.fin, hR.val, hR.steps, hR.fuel, hR.ended⟩))
 by_cases h10 : op = 10
 ·subst h10
  have ha : (0 ≤ a ∧ a < 10) ∧ (0 ≤ b ∧ b < 10) := by unfold InsOk Reg at hin; simp at hin; exact ⟨hin.1, hin.2.1⟩
  have e : stepI p s = (⟨s.at_ + 1, setR s.r a (wrap64 (s.r b.toNat + n)), s.m, s.seen ++ [⟨1, s.at_, 0⟩]⟩, none) := by simp [stepI, hI, putI, regsI]
  exact (do_10 a b c n w M rv cv x _ h ha.1.1 ha.1.2 ha.2.1 ha.2.2).mono (ok (by rw [e]) (by rw [e]; exact ⟨by rw [hr], ⟨hR.w.wd, hR.w.st⟩, hR.next, hR.fin, hR.val, hR.steps, hR.fuel, hR.ended⟩))
 by_cases h12 : op = 12
 ·subst h12
  have ha : a = 0 := by unfold InsOk at hin; simp at hin; exact hin.1
  have e : stepI p s = (⟨s.at_ + 1, s.r, s.m, s.seen ++ [⟨1, s.at_, 0⟩]⟩, none) := by simp [stepI, hI, putI, regsI]
  exact (do_12 a b c n w M rv cv x _ h (by omega) (by omega)).mono (ok (by rw [e]) (by rw [e]; exact ⟨hr, ⟨hR.w.wd, hR.w.st⟩, hR.next, hR.fin, hR.val, hR.steps, hR.fuel, hR.ended⟩))
 by_cases h7 : op = 7
 ·subst h7
  have ha : a = 0 ∧ 0 ≤ n := by unfold InsOk Plc at hin; simp at hin; exact ⟨hin.1, hin.2.2.2.1⟩
  have e : stepI p s = (⟨n.toNat, s.r, s.m, s.seen ++ [⟨1, s.at_, 0⟩]⟩, none) := by simp [stepI, hI]
  exact (do_7 a b c n w M rv cv x _ h (by omega) (by omega)).mono (ok (by rw [e]) (by rw [e]; exact ⟨hr, ⟨hR.w.wd, hR.w.st⟩, (show n = ((n.toNat : Nat) : Int) by omega), hR.fin, hR.val, hR.steps, hR.fuel, hR.ended⟩))
 by_cases h8 : op = 8
 ·subst h8
  have ha : (0 ≤ a ∧ a < 10) ∧ (0 ≤ b ∧ b < 10) ∧ 0 ≤ n := by unfold InsOk Reg Plc at hin; simp at hin; exact ⟨hin.1, hin.2.1, hin.2.2.2.1⟩
  cases hh : J1f c (s.r a.toNat) (s.r b.toNat) with
  | true =>
   have e : stepI p s = (⟨n.toNat, s.r, s.m, s.seen ++ [⟨1, s.at_, 0⟩]⟩, none) := by simp [stepI, hI, hh]
   exact (do_8y a b c n w M rv cv x _ h ha.1.1 ha.1.2 ha.2.1.1 ha.2.1.2 (by rw [hr]; exact hh)).mono (ok (by rw [e]) (by rw [e]; exact ⟨hr, ⟨hR.w.wd, hR.w.st⟩, (show n = ((n.toNat : Nat) : Int) by omega), hR.fin, hR.val, hR.steps, hR.fuel, hR.ended⟩))
  | false =>
   have e : stepI p s = (⟨s.at_ + 1, s.r, s.m, s.seen ++ [⟨1, s.at_, 0⟩]⟩, none) := by simp [stepI, hI, hh]
   exact (do_8n a b c n w M rv cv x _ h ha.1.1 ha.1.2 ha.2.1.1 ha.2.1.2 (by rw [hr]; exact hh)).mono (ok (by rw [e]) (by rw [e]; exact ⟨hr, ⟨hR.w.wd, hR.w.st⟩, hR.next, hR.fin, hR.val, hR.steps, hR.fuel, hR.ended⟩))
 by_cases h9 : op = 9
 ·subst h9
  have ha : 0 ≤ a ∧ a < 10 := by unfold InsOk Reg at hin; simp at hin; exact hin.1
  have e : stepI p s = (⟨s.at_ + 1, s.r, s.m, s.seen ++ [⟨1, s.at_, 0⟩]⟩, some (1, s.r a.toNat)) := by simp [stepI, hI]
  exact (do_9 a b c n w M rv cv x _ h ha.1 ha.2).mono (ok (by rw [e]) (by rw [e]; exact ⟨⟨hR.w.wd, hR.w.st⟩, rfl, by rw [hr], hR.steps, rfl⟩))
 by_cases h11 : op = 11
 ·subst h11
  have ha : 0 ≤ a ∧ a < 10 := by unfold InsOk Reg at hin; simp at hin; exact hin.1
  by_cases lo : s.r a.toNat < 0
  ·have e : stepI p s = (⟨s.at_ + 1, setR s.r a 0, s.m, s.seen ++ [⟨1, s.at_, 0⟩]⟩, none) := by simp [stepI, hI, putI, regsI, lo]
   exact (Jh9 a b c n _ w M rv cv x _ h ha.1 ha.2 rfl (by rw [hr]; exact lo)).mono (ok (by rw [e]) (by rw [e]; exact ⟨by rw [hr], ⟨hR.w.wd, hR.w.st⟩, hR.next, hR.fin, hR.val, hR.steps, hR.fuel, hR.ended⟩))
  ·by_cases hi : n ≤ s.r a.toNat
   ·have e : stepI p s = (⟨s.at_ + 1, setR s.r a 0, s.m, s.seen ++ [⟨1, s.at_, 0⟩]⟩, none) := by simp [stepI, hI, putI, regsI, hi]
    exact (Jh7 a b c n _ w M rv cv x _ h ha.1 ha.2 rfl (by rw [hr]; exact lo) (by rw [hr]; exact hi)).mono (ok (by rw [e]) (by rw [e]; exact ⟨by rw [hr], ⟨hR.w.wd, hR.w.st⟩, hR.next, hR.fin, hR.val, hR.steps, hR.fuel, hR.ended⟩))
   ·have e : stepI p s = (⟨s.at_ + 1, s.r, s.m, s.seen ++ [⟨1, s.at_, 0⟩]⟩, none) := by simp [stepI, hI, putI, regsI, lo, hi]
    exact (Jh8 a b c n _ w M rv cv x _ h ha.1 ha.2 rfl (by rw [hr]; exact lo) (by rw [hr]; omega)).mono (ok (by rw [e]) (by rw [e]; exact ⟨hr, ⟨hR.w.wd, hR.w.st⟩, hR.next, hR.fin, hR.val, hR.steps, hR.fuel, hR.ended⟩))
 by_cases h3 : op = 3
 ·subst h3
  have hw := word (by omega)
  have hbs := bse (by omega)
  have hb3 := J36 p m hlen c.toNat (by omega)
  have hli := hs2 c.toNat
  by_cases hx : 0 ≤ idxI s.r ⟨3, a, b, c, n⟩ ∧ idxI s.r ⟨3, a, b, c, n⟩ < (m.len c.toNat : Int)
  ·have e : stepI p s = (⟨s.at_ + 1, setR s.r a (s.m.wd c.toNat (idxI s.r ⟨3, a, b, c, n⟩).toNat), s.m, s.seen ++ [⟨1, s.at_, 0⟩] ++ [⟨2, baseI p.log c.toNat + idxI s.r ⟨3, a, b, c, n⟩, 0⟩]⟩, none) := by
    have g1 : ¬ (idxI s.r ⟨3, a, b, c, n⟩ < 0 ∨ (s.m.len c.toNat : Int) ≤ idxI s.r ⟨3, a, b, c, n⟩) := by rw [hli]; omega
    unfold stepI
    rw [hI]
    dsimp only
    rw [if_neg (by decide), if_neg (by decide), if_neg (by decide), if_pos (by simp [putI]), if_neg g1]
    simp [putI]
   have hk2 : ((baseN m.len c.toNat : Int) + idxI s.r ⟨3, a, b, c, n⟩).toNat = baseN m.len c.toNat + (idxI s.r ⟨3, a, b, c, n⟩).toNat := by omega
   have hse : x.st c.toNat + idxI x.r ⟨3, a, b, c, n⟩ = (baseN m.len c.toNat : Int) + idxI s.r ⟨3, a, b, c, n⟩ := by rw [hbs.1, hr]
   refine (Jfa a b c n ((baseN m.len c.toNat : Int) + idxI s.r ⟨3, a, b, c, n⟩) w M rv cv x _ h hw.1 hw.2.1 _ (by omega) (by omega) (fun w1 m1 => ?_)).mono (ok (se2 := s.seen ++ [⟨1, s.at_, 0⟩] ++ [⟨2, (baseN m.len c.toNat : Int) + idxI s.r ⟨3, a, b, c, n⟩, 0⟩]) (by rw [e, hb3]) (by rw [e]; exact ⟨by rw [hr, hk2]; exact congrArg (setR s.r a) (hR.w.wd c.toNat hbs.2.2.2.1 _ (by omega)), ⟨hR.w.wd, hR.w.st⟩, hR.next, hR.fin, hR.val, hR.steps, hR.fuel, hR.ended⟩))
   have hq := J27 ⟨3, a, b, c, n⟩ 0 w1 M rv cv x _ (h.more m1) hl' (by simp) hw.2.2.1 hw.2.2.2.1 hw.2.2.2.2.1 hbs.2.2.2.2 (by dsimp only; omega) (by dsimp only; omega) (by dsimp only; omega) (by dsimp only; rw [hr, hbs.1, hbs.2.1]; omega)
   dsimp only at hq
   rw [hse] at hq
   exact hq
  ·have e : stepI p s = (⟨s.at_ + 1, s.r, s.m, s.seen ++ [⟨1, s.at_, 0⟩]⟩, some (2, 0)) := by
    have g1 : idxI s.r ⟨3, a, b, c, n⟩ < 0 ∨ (s.m.len c.toNat : Int) ≤ idxI s.r ⟨3, a, b, c, n⟩ := by rw [hli]; omega
    unfold stepI
    rw [hI]
    dsimp only
    rw [if_neg (by decide), if_neg (by decide), if_neg (by decide), if_pos (by simp [putI]), if_pos g1]
   refine (Jjg a b c n w M rv cv x _ h hw.1 hw.2.1 { x with fin := 2, ended := true } (fun w1 m1 => ?_)).mono (ok (by rw [e]) (by rw [e]; exact ⟨⟨hR.w.wd, hR.w.st⟩, rfl, hR.val, hR.steps, rfl⟩))
   exact J2l ⟨3, a, b, c, n⟩ 0 w1 M rv cv x _ (h.more m1) (by simp) hw.2.2.1 hw.2.2.2.1 hw.2.2.2.2.1 hbs.2.2.2.2 (by dsimp only; omega) (by dsimp only; omega) (by dsimp only; omega) (by dsimp only; rw [hr, hbs.1, hbs.2.1]; omega)
 by_cases h5 : op = 5
 ·subst h5
  have hw := word (by omega)
  have hbs := bse (by omega)
  have hb3 := J36 p m hlen c.toNat (by omega)
  have hli := hs2 c.toNat
  by_cases hx : 0 ≤ idxI s.r ⟨5, a, b, c, n⟩ ∧ idxI s.r ⟨5, a, b, c, n⟩ < (m.len c.toNat : Int)
  ·have e : stepI p s = (⟨s.at_ + 1, setR s.r a (s.m.wd c.toNat (idxI s.r ⟨5, a, b, c, n⟩).toNat), s.m, s.seen ++ [⟨1, s.at_, 0⟩] ++ [⟨2, baseI p.log c.toNat + idxI s.r ⟨5, a, b, c, n⟩, 0⟩]⟩, none) := by
    have g1 : ¬ (idxI s.r ⟨5, a, b, c, n⟩ < 0 ∨ (s.m.len c.toNat : Int) ≤ idxI s.r ⟨5, a, b, c, n⟩) := by rw [hli]; omega
    unfold stepI
    rw [hI]
    dsimp only
    rw [if_neg (by decide), if_neg (by decide), if_neg (by decide), if_pos (by simp [putI]), if_neg g1]
    simp [putI]
   have hk2 : ((baseN m.len c.toNat : Int) + idxI s.r ⟨5, a, b, c, n⟩).toNat = baseN m.len c.toNat + (idxI s.r ⟨5, a, b, c, n⟩).toNat := by omega
   have hse : x.st c.toNat + idxI x.r ⟨5, a, b, c, n⟩ = (baseN m.len c.toNat : Int) + idxI s.r ⟨5, a, b, c, n⟩ := by rw [hbs.1, hr]
   refine (Jfc a b c n ((baseN m.len c.toNat : Int) + idxI s.r ⟨5, a, b, c, n⟩) w M rv cv x _ h hw.1 hw.2.1 _ (by omega) (by omega) (fun w1 m1 => ?_)).mono (ok (se2 := s.seen ++ [⟨1, s.at_, 0⟩] ++ [⟨2, (baseN m.len c.toNat : Int) + idxI s.r ⟨5, a, b, c, n⟩, 0⟩]) (by rw [e, hb3]) (by rw [e]; exact ⟨by rw [hr, hk2]; exact congrArg (setR s.r a) (hR.w.wd c.toNat hbs.2.2.2.1 _ (by omega)), ⟨hR.w.wd, hR.w.st⟩, hR.next, hR.fin, hR.val, hR.steps, hR.fuel, hR.ended⟩))
   have hq := J27 ⟨5, a, b, c, n⟩ 0 w1 M rv cv x _ (h.more m1) hl' (by simp) hw.2.2.1 hw.2.2.2.1 hw.2.2.2.2.1 hbs.2.2.2.2 (by dsimp only; omega) (by dsimp only; omega) (by dsimp only; omega) (by dsimp only; rw [hr, hbs.1, hbs.2.1]; omega)
   dsimp only at hq
   rw [hse] at hq
   exact hq
  ·have e : stepI p s = (⟨s.at_ + 1, s.r, s.m, s.seen ++ [⟨1, s.at_, 0⟩]⟩, some (2, 0)) := by
    have g1 : idxI s.r ⟨5, a, b, c, n⟩ < 0 ∨ (s.m.len c.toNat : Int) ≤ idxI s.r ⟨5, a, b, c, n⟩ := by rw [hli]; omega
    unfold stepI
    rw [hI]
    dsimp only
    rw [if_neg (by decide), if_neg (by decide), if_neg (by decide), if_pos (by simp [putI]), if_pos g1]
   refine (Jji a b c n w M rv cv x _ h hw.1 hw.2.1 { x with fin := 2, ended := true } (fun w1 m1 => ?_)).mono (ok (by rw [e]) (by rw [e]; exact ⟨⟨hR.w.wd, hR.w.st⟩, rfl, hR.val, hR.steps, rfl⟩))
   exact J2l ⟨5, a, b, c, n⟩ 0 w1 M rv cv x _ (h.more m1) (by simp) hw.2.2.1 hw.2.2.2.1 hw.2.2.2.2.1 hbs.2.2.2.2 (by dsimp only; omega) (by dsimp only; omega) (by dsimp only; omega) (by dsimp only; rw [hr, hbs.1, hbs.2.1]; omega)
 by_cases h4 : op = 4
 ·subst h4
  have hw := word (by omega)
  have hbs := bse (by omega)
  have hb3 := J36 p m hlen c.toNat (by omega)
  have hli := hs2 c.toNat
  by_cases hx : 0 ≤ idxI s.r ⟨4, a, b, c, n⟩ ∧ idxI s.r ⟨4, a, b, c, n⟩ < (m.len c.toNat : Int)
  ·have e : stepI p s = (⟨s.at_ + 1, s.r, setW s.m c.toNat (idxI s.r ⟨4, a, b, c, n⟩).toNat (s.r a.toNat), s.seen ++ [⟨1, s.at_, 0⟩] ++ [⟨2, baseI p.log c.toNat + idxI s.r ⟨4, a, b, c, n⟩, 1⟩]⟩, none) := by
    have g1 : ¬ (idxI s.r ⟨4, a, b, c, n⟩ < 0 ∨ (s.m.len c.toNat : Int) ≤ idxI s.r ⟨4, a, b, c, n⟩) := by rw [hli]; omega
    unfold stepI
    rw [hI]
    dsimp only
    rw [if_neg (by decide), if_neg (by decide), if_neg (by decide), if_pos (by simp [putI]), if_neg g1]
    simp [putI]
   have hk2 : ((baseN m.len c.toNat : Int) + idxI s.r ⟨4, a, b, c, n⟩).toNat = baseN m.len c.toNat + (idxI s.r ⟨4, a, b, c, n⟩).toNat := by omega
   have hse : x.st c.toNat + idxI x.r ⟨4, a, b, c, n⟩ = (baseN m.len c.toNat : Int) + idxI s.r ⟨4, a, b, c, n⟩ := by rw [hbs.1, hr]
   refine (Jfb a b c n ((baseN m.len c.toNat : Int) + idxI s.r ⟨4, a, b, c, n⟩) w M rv cv x _ h hw.1 hw.2.1 _ (by omega) (by omega) (fun w1 m1 => ?_)).mono (ok (se2 := s.seen ++ [⟨1, s.at_, 0⟩] ++ [⟨2, (baseN m.len c.toNat : Int) + idxI s.r ⟨4, a, b, c, n⟩, 1⟩]) (by rw [e, hb3]) (by rw [e]; exact ⟨hr, hR.w.set c.toNat (idxI s.r ⟨4, a, b, c, n⟩).toNat hbs.2.2.2.1 (by omega) (s.r a.toNat) _ (by rw [hk2, hr]) rfl, hR.next, hR.fin, hR.val, hR.steps, hR.fuel, hR.ended⟩))
   have hq := J27 ⟨4, a, b, c, n⟩ 1 w1 M rv cv x _ (h.more m1) hl' (by simp) hw.2.2.1 hw.2.2.2.1 hw.2.2.2.2.1 hbs.2.2.2.2 (by dsimp only; omega) (by dsimp only; omega) (by dsimp only; omega) (by dsimp only; rw [hr, hbs.1, hbs.2.1]; omega)
   dsimp only at hq
   rw [hse] at hq
   exact hq
  ·have e : stepI p s = (⟨s.at_ + 1, s.r, s.m, s.seen ++ [⟨1, s.at_, 0⟩]⟩, some (2, 0)) := by
    have g1 : idxI s.r ⟨4, a, b, c, n⟩ < 0 ∨ (s.m.len c.toNat : Int) ≤ idxI s.r ⟨4, a, b, c, n⟩ := by rw [hli]; omega
    unfold stepI
    rw [hI]
    dsimp only
    rw [if_neg (by decide), if_neg (by decide), if_neg (by decide), if_pos (by simp [putI]), if_pos g1]
   refine (Jjh a b c n w M rv cv x _ h hw.1 hw.2.1 { x with fin := 2, ended := true } (fun w1 m1 => ?_)).mono (ok (by rw [e]) (by rw [e]; exact ⟨⟨hR.w.wd, hR.w.st⟩, rfl, hR.val, hR.steps, rfl⟩))
   exact J2l ⟨4, a, b, c, n⟩ 1 w1 M rv cv x _ (h.more m1) (by simp) hw.2.2.1 hw.2.2.2.1 hw.2.2.2.2.1 hbs.2.2.2.2 (by dsimp only; omega) (by dsimp only; omega) (by dsimp only; omega) (by dsimp only; rw [hr, hbs.1, hbs.2.1]; omega)
 by_cases h6 : op = 6
 ·subst h6
  have hw := word (by omega)
  have hbs := bse (by omega)
  have hb3 := J36 p m hlen c.toNat (by omega)
  have hli := hs2 c.toNat
  by_cases hx : 0 ≤ idxI s.r ⟨6, a, b, c, n⟩ ∧ idxI s.r ⟨6, a, b, c, n⟩ < (m.len c.toNat : Int)
  ·have e : stepI p s = (⟨s.at_ + 1, s.r, setW s.m c.toNat (idxI s.r ⟨6, a, b, c, n⟩).toNat (s.r a.toNat), s.seen ++ [⟨1, s.at_, 0⟩] ++ [⟨2, baseI p.log c.toNat + idxI s.r ⟨6, a, b, c, n⟩, 1⟩]⟩, none) := by
    have g1 : ¬ (idxI s.r ⟨6, a, b, c, n⟩ < 0 ∨ (s.m.len c.toNat : Int) ≤ idxI s.r ⟨6, a, b, c, n⟩) := by rw [hli]; omega
    unfold stepI
    rw [hI]
    dsimp only
    rw [if_neg (by decide), if_neg (by decide), if_neg (by decide), if_pos (by simp [putI]), if_neg g1]
    simp [putI]
   have hk2 : ((baseN m.len c.toNat : Int) + idxI s.r ⟨6, a, b, c, n⟩).toNat = baseN m.len c.toNat + (idxI s.r ⟨6, a, b, c, n⟩).toNat := by omega
   have hse : x.st c.toNat + idxI x.r ⟨6, a, b, c, n⟩ = (baseN m.len c.toNat : Int) + idxI s.r ⟨6, a, b, c, n⟩ := by rw [hbs.1, hr]
   refine (Jfd a b c n ((baseN m.len c.toNat : Int) + idxI s.r ⟨6, a, b, c, n⟩) w M rv cv x _ h hw.1 hw.2.1 _ (by omega) (by omega) (fun w1 m1 => ?_)).mono (ok (se2 := s.seen ++ [⟨1, s.at_, 0⟩] ++ [⟨2, (baseN m.len c.toNat : Int) + idxI s.r ⟨6, a, b, c, n⟩, 1⟩]) (by rw [e, hb3]) (by rw [e]; exact ⟨hr, hR.w.set c.toNat (idxI s.r ⟨6, a, b, c, n⟩).toNat hbs.2.2.2.1 (by omega) (s.r a.toNat) _ (by rw [hk2, hr]) rfl, hR.next, hR.fin, hR.val, hR.steps, hR.fuel, hR.ended⟩))
   have hq := J27 ⟨6, a, b, c, n⟩ 1 w1 M rv cv x _ (h.more m1) hl' (by simp) hw.2.2.1 hw.2.2.2.1 hw.2.2.2.2.1 hbs.2.2.2.2 (by dsimp only; omega) (by dsimp only; omega) (by dsimp only; omega) (by dsimp only; rw [hr, hbs.1, hbs.2.1]; omega)
   dsimp only at hq
   rw [hse] at hq
   exact hq
  ·have e : stepI p s = (⟨s.at_ + 1, s.r, s.m, s.seen ++ [⟨1, s.at_, 0⟩]⟩, some (2, 0)) := by
    have g1 : idxI s.r ⟨6, a, b, c, n⟩ < 0 ∨ (s.m.len c.toNat : Int) ≤ idxI s.r ⟨6, a, b, c, n⟩ := by rw [hli]; omega
    unfold stepI
    rw [hI]
    dsimp only
    rw [if_neg (by decide), if_neg (by decide), if_neg (by decide), if_pos (by simp [putI]), if_pos g1]
   refine (Jjj a b c n w M rv cv x _ h hw.1 hw.2.1 { x with fin := 2, ended := true } (fun w1 m1 => ?_)).mono (ok (by rw [e]) (by rw [e]; exact ⟨⟨hR.w.wd, hR.w.st⟩, rfl, hR.val, hR.steps, rfl⟩))
   exact J2l ⟨6, a, b, c, n⟩ 1 w1 M rv cv x _ (h.more m1) (by simp) hw.2.2.1 hw.2.2.2.1 hw.2.2.2.2.1 hbs.2.2.2.2 (by dsimp only; omega) (by dsimp only; omega) (by dsimp only; omega) (by dsimp only; rw [hr, hbs.1, hbs.2.1]; omega)
 have ho : (21 ≤ op ∧ op ≤ 30) ∧ (0 ≤ a ∧ a < 10) ∧ (0 ≤ b ∧ b < 10) ∧ (0 ≤ c ∧ c < 10) := by
  unfold InsOk Reg at hin
  dsimp only at hin
  rw [if_neg h1, if_neg h2, if_neg h3, if_neg h4, if_neg h5, if_neg h6, if_neg h7, if_neg h8, if_neg h9, if_neg h10, if_neg h11, if_neg h12] at hin
  exact ⟨hin.1, hin.2.1, hin.2.2.1, hin.2.2.2.1⟩
 have hput : putI ⟨op, a, b, c, n⟩ = -1 := by unfold putI; dsimp only; rw [if_neg (by omega), if_neg (by omega)]
 have e0 : stepI p s = (⟨s.at_ + 1, (regsI s.r ⟨op, a, b, c, n⟩).1, s.m, s.seen ++ [⟨1, s.at_, 0⟩] ++ (regsI s.r ⟨op, a, b, c, n⟩).2⟩, none) := by
  unfold stepI
  rw [hI]
  dsimp only
  rw [if_neg h7, if_neg h8, if_neg h9, hput, if_neg (by decide)]
 have er : regsI s.r ⟨op, a, b, c, n⟩ = (setR s.r a (opI (op - 20) (s.r b.toNat) (s.r c.toNat)), if op = 29 ∨ op = 30 then [⟨3, s.r b.toNat, s.r c.toNat⟩] else []) := by
  unfold regsI
  dsimp only
  rw [if_neg h1, if_neg h2, if_neg h10, if_neg h11, if_neg h12]
 rw [er] at e0
 have haf : After m fuel { x with r := setR x.r a (opI (op - 20) (x.r b.toNat) (x.r c.toNat)) } k (stepI p s) := by
  rw [e0]
  exact ⟨by dsimp only; rw [hr], ⟨hR.w.wd, hR.w.st⟩, hR.next, hR.fin, hR.val, hR.steps, hR.fuel, hR.ended⟩
 by_cases h29 : op = 29
 ·subst h29
  refine (do_op 29 a b c n w M rv cv x _ h ho.2.1.1 ho.2.1.2 _ _ (by omega) (fun w1 m1 => J54 a b c n w1 M rv cv x _ (h.more m1) hl' ho.2.1.1 ho.2.1.2 ho.2.2.1.1 ho.2.2.1.2 ho.2.2.2.1 ho.2.2.2.2)).mono (ok (by rw [e0, hr]; simp) haf)
 by_cases h30 : op = 30
 ·subst h30
  refine (do_op 30 a b c n w M rv cv x _ h ho.2.1.1 ho.2.1.2 _ _ (by omega) (fun w1 m1 => J55 a b c n w1 M rv cv x _ (h.more m1) hl' ho.2.1.1 ho.2.1.2 ho.2.2.1.1 ho.2.2.1.2 ho.2.2.2.1 ho.2.2.2.2)).mono (ok (by rw [e0, hr]; simp) haf)
 refine (do_op op a b c n w M rv cv x _ h ho.2.1.1 ho.2.1.2 _ _ ho.1.1 (fun w1 m1 => J56 op a b c n w1 M rv cv x _ (h.more m1) ho.1.1 ho.1.2 h29 h30 ho.2.1.1 ho.2.1.2 ho.2.2.1.1 ho.2.2.1.2 ho.2.2.2.1 ho.2.2.2.2)).mono (ok (by rw [e0]; simp [h29, h30]) haf)
end
section
open Go.RowKit
set_option linter.unusedSimpArgs false
set_option linter.unusedVariables false
set_option maxRecDepth 8000
structure Fin_ (m : Mem) (R : Sh) (x : Ms) (se : List Se) : Prop where
 fin : x.fin = R.fin
 val : x.val = R.val
 steps : x.steps = R.steps
 seen : se = R.seen
 w : WdsS m R.mem x
 ml : R.mem.ml = m.ml
 len : ∀ j, R.mem.len j = m.len j
 short : se.length ≤ 100000

structure Way (p : Prg) (m : Mem) (fuel g : Nat) (R : Sh) (x : Ms) (se : List Se) (k : Nat) (s : St) : Prop where
 kg : k + g = fuel
 rel : RelS m fuel x s k
 seen : se = s.seen
 inv : Inv p m k s
 run : runI p g k s = R

theorem RelS.shorter {m : Mem} {fuel : Nat} {x : Ms} {s : St} {k : Nat} (h : RelS m fuel x s k) (f v : Int) (mm : Mem) (e : mm = s.m) : WdsS m mm { x with fin := f, ended := true } := by subst e; exact ⟨h.w.wd, h.w.st⟩

theorem Jfh (p : Prg) (m : Mem) (fuel g : Nat) (R : Sh) (w : World) (M : Nat) (rv : Value) (ca : Option Addr) (cc : Nat) (x : Ms) (se : List Se) (hf : fuel ≤ 40000) (h : Run w M rv (.slice ca p.cl cc) x se) (hw : (∃ k s, Way p m fuel g R x se k s) ∨ (x.ended = true ∧ Fin_ m R x se)) :
  Calls Tryz.prog 25 #[.pointer (some ⟨M, 0, none⟩)] w fun e w' => Below M w w' ∧ ∃ (b : Bool) (x' : Ms), e = .returned (.bool b) ∧ Run w' M rv (.slice ca p.cl cc) x' se ∧ ((b = false ∧ Fin_ m R x' se) ∨ (b = true ∧ ∃ g' k s, g = g' + 1 ∧ Way p m fuel g R x' se k s ∧ s.at_ < p.cl)) := by
 rcases hw with ⟨k, s, hw⟩ | ⟨he, hfin⟩
 ·have hsh : se.length ≤ 100000 := by have := hw.inv.seen; have := hw.kg; rw [hw.seen]; omega
  cases g with
  | zero =>
   have hk := hw.kg
   refine (J4j w M rv _ x se h hw.rel.ended (by rw [hw.rel.steps, hw.rel.fuel]; omega)).mono ?_
   rintro e w' ⟨rfl, r2, b2⟩
   have hR := hw.run
   rw [runI] at hR
   subst hR
   exact ⟨b2, false, _, rfl, r2, .inl ⟨rfl, rfl, hw.rel.val, by dsimp only; rw [hw.rel.steps], hw.seen, hw.rel.shorter _ 0 _ rfl, hw.inv.ml, hw.inv.len, hsh⟩⟩
  | succ g' =>
   have hk := hw.kg
   by_cases hat : s.at_ < p.cl
   ·refine (J62 w M rv ca p.cl cc x se h hw.rel.ended (by rw [hw.rel.steps, hw.rel.fuel]; omega) (by rw [hw.rel.next]; omega)).mono ?_
    rintro e w' ⟨rfl, r2, b2⟩
    exact ⟨b2, true, x, rfl, r2, .inr ⟨rfl, g', k, s, rfl, hw, hat⟩⟩
   ·refine (J4k w M rv ca p.cl cc x se h hw.rel.ended (by rw [hw.rel.steps, hw.rel.fuel]; omega) (by rw [hw.rel.next]; omega)).mono ?_
    rintro e w' ⟨rfl, r2, b2⟩
    have hR := hw.run
    rw [runI, if_pos (by omega)] at hR
    subst hR
    exact ⟨b2, false, _, rfl, r2, .inl ⟨rfl, rfl, hw.rel.val, by dsimp only; rw [hw.rel.steps], hw.seen, hw.rel.shorter _ 0 _ rfl, hw.inv.ml, hw.inv.len, hsh⟩⟩
 ·refine (J4l w M rv _ x se h he).mono ?_
  rintro e w' ⟨rfl, r2, b2⟩
  exact ⟨b2, false, x, rfl, r2, .inl ⟨rfl, hfin⟩⟩

theorem Jle {p : Prg} {m : Mem} {fuel g' : Nat} {R : Sh} {x x' : Ms} {se : List Se} {k : Nat} {s : St} (hw : Way p m fuel (g' + 1) R x se k s) (hat : s.at_ < p.cl) (hin : InsOk p.rl p.log p.cl 10 (p.ins s.at_)) (hn : B64 (p.ins s.at_).n) (hrl : m.ml = p.rl) (hf : fuel ≤ 40000)
  (ha : After m fuel x' (k + 1) (stepI p s)) : (∃ k s', Way p m fuel g' R x' (stepI p s).1.seen k s') ∨ (x'.ended = true ∧ Fin_ m R x' (stepI p s).1.seen) := by
 have hi := Jf5 hw.inv hat hin hn hrl
 have hR := hw.run
 rw [runI, if_neg (by omega)] at hR
 have hk := hw.kg
 have hs := hi.seen
 unfold After at ha
 cases hq : (stepI p s).2 with
 | none =>
  rw [hq] at ha hR
  exact .inl ⟨k + 1, _, by omega, ha, rfl, hi, hR⟩
 | some e =>
  rw [hq] at ha hR
  dsimp only at hR ha
  subst hR
  refine .inr ⟨ha.ended, ha.fin, ha.val, by rw [ha.steps]; push_cast; rfl, rfl, ha.w, hi.ml, hi.len, by omega⟩
theorem J3i (p : Prg) (l : Loc) (w : World) (h : PIn w p l) :
  Calls Tryz.prog 38 #[.agg #[.slice l.ra p.rl l.rc, .slice l.ca p.cl l.cc]] w (Says (p.Ok 8000 10) w) := by
 have H : Hid (PIn w p l) := h
 clear h
 go_enter Tryz.func38, Tryz.ntmps38
 go_wp2_with (fail)
 have m0 : More w (w.alloc (.cells #[.slice l.ra p.rl l.rc, .slice l.ca p.cl l.cc] 28)) := (More.refl _).alloc _ _
 refine (J5q l.ra p.rl l.rc l.ca p.cl l.cc 8000 10 l.rb l.ro l.cb l.co p.log p.sec p.ins _ 8000 rfl (by omega) H.out.hr (H.out.regs.more m0) H.out.hc (H.out.code.more m0)).mono ?_
 rintro e w1 ⟨r, rfl, h1, m1⟩
 have H1 : Hid ((r = true ↔ p.Ok 8000 10) ∧ More w w1) := ⟨h1, m0.trans m1⟩
 clear h1 m1 m0
 go_wp2
 go_ret
 exact ⟨r, rfl, H1.out.1, H1.out.2⟩
theorem J1i (w : World) (a b : Obj) : ((w.alloc a).alloc b).heap[w.heap.size + 1]? = some b := by
 have := heap_alloc_last (w.alloc a) b
 rwa [show (w.alloc a).heap.size = w.heap.size + 1 from by simp] at this
theorem size_alloc2 (w : World) (a b : Obj) : w.heap.size + 1 < ((w.alloc a).alloc b).heap.size := by simp

theorem zrow : ∃ z : Array Value, (∀ w, (zeroValue 84).run Tryz.prog w = .ok (.agg z) w) ∧ (∀ w, (Instr.build 84 #[]).run Tryz.prog w = .ok (.agg z) w) ∧ MC z (.slice none 0 0) (.slice none 0 0) (ms0 0) ∧ (Tryz.prog.info? 84).map (·.size) = some 411 := by
 obtain ⟨h1, h2⟩ := zero_of_info Jo3
 exact ⟨_, h1, fun w => run_build w 84 #[] _ (by simpa using Jb3), Jl6 _ _ (ms0 0), h2⟩

set_option maxHeartbeats 1000000 in
theorem J71 (p : Prg) (l : Loc) (ma : Option Addr) (ml mc mb mo : Nat) (A : Nat → Option Addr) (L C : Nat → Nat) (fuel : Int) (w : World) (h : PIn w p l) (hma : 0 < ml → ma = some ⟨mb, mo, none⟩) (hm : ListsAt w mb mo ml A L C) (hbad : ¬ (p.Ok 8000 10 ∧ J2g p.rl p.log ml L)) :
  Calls Tryz.prog 24 #[.agg #[.slice l.ra p.rl l.rc, .slice l.ca p.cl l.cc], .slice ma ml mc, V fuel] w fun e w' => ∃ z, MC z (.slice none 0 0) (.slice none 0 0) (ms0 0) ∧ e = .returned (.tuple #[.agg z, V 2]) ∧ More w w' := by
 obtain ⟨z, z1, z2, z3, z4⟩ := zrow
 have H : Hid (PIn w p l ∧ (0 < ml → ma = some ⟨mb, mo, none⟩) ∧ ListsAt w mb mo ml A L C ∧ ¬ (p.Ok 8000 10 ∧ J2g p.rl p.log ml L)) := ⟨h, hma, hm, hbad⟩
 have Hz : Hid (MC z (.slice none 0 0) (.slice none 0 0) (ms0 0) ∧ (Tryz.prog.info? 84).map (·.size) = some 411 ∧ z.size = 411) := ⟨z3, z4, z3.size rfl⟩
 obtain ⟨P, hP⟩ : ∃ P, P = fun (e : Ending) (w' : World) => ∃ z, MC z (.slice none 0 0) (.slice none 0 0) (ms0 0) ∧ e = .returned (.tuple #[.agg z, V 2]) ∧ More w w' := ⟨_, rfl⟩
 rw [← hP]
 have HP : Hid (P = fun (e : Ending) (w' : World) => ∃ z, MC z (.slice none 0 0) (.slice none 0 0) (ms0 0) ∧ e = .returned (.tuple #[.agg z, V 2]) ∧ More w w') := hP
 clear h hma hm z3 z4 hP hbad
 go_enter Tryz.func24, Tryz.ntmps24
 go_wp2_with (fail)
 refine (J3i p l _ (H.out.1.more (((More.refl _).alloc _ _).alloc _ _))).mono ?_
 rintro e w1 ⟨r1, rfl, h1, m1⟩
 have hrow : w1.heap[w.heap.size + 1]? = some (.cells z 84 (0, 0)) := by rw [m1.block (w.heap.size + 1) (size_alloc2 _ _ _)]; exact J1i _ _ _
 have e0 : w1.cell? ⟨w.heap.size, 0, none⟩ = some (.slice l.ra p.rl l.rc) := m1.cell (by go_simp)
 have e1 : w1.cell? ⟨w.heap.size, 1, none⟩ = some (.slice l.ca p.cl l.cc) := m1.cell (by go_simp)
 have Hm1 : Hid (More w w1) := (((More.refl _).alloc _ _).alloc _ _).trans m1
 clear m1
 cases r1 with
 | false =>
  clear h1
  go_wp2_with (refine wpList_store_row rfl 84 (.tmp 6) (.tmp 20) rfl (w.heap.size + 1) z rfl rfl 84 z hrow (by rw [Hz.out.2.2]; exact Hz.out.2.1) rfl (Hz.out.1.one rfl rfl rfl rfl rfl) ?_; rw [setRow_self _ _ _ _ _ hrow])
  refine bodyPost_ret (J1q rfl _ _ (w.heap.size + 1) 84 z (0, 0) _ rfl hrow Tryz.underlying84 rfl (by rw [Hz.out.2.2]; exact Hz.out.2.1)) rfl ?_
  rw [HP.out]
  exact ⟨z, Hz.out.1, rfl, Hm1.out⟩
 | true =>
  have HA : Hid (p.Ok 8000 10) := h1.1 rfl
  clear h1
  go_wp2_with (fail)
  refine (J5e l.ra p.rl l.rc l.ca p.cl l.cc ma ml mc l.rb l.ro mb mo p.log p.sec A L C _ H.out.1.hr (H.out.1.regs.more Hm1.out) H.out.2.1 (H.out.2.2.1.more Hm1.out)).mono ?_
  rintro e w2 ⟨r2, rfl, h2, m2⟩
  have Hm2 : Hid (More w w2) := Hm1.out.trans m2
  have hrow2 : w2.heap[w.heap.size + 1]? = some (.cells z 84 (0, 0)) := by rw [m2.block (w.heap.size + 1) (by rcases Nat.lt_or_ge (w.heap.size + 1) w1.heap.size with h' | h'; exact h'; rw [Array.getElem?_eq_none h'] at hrow; cases hrow)]; exact hrow
  clear hrow
  have hrow := hrow2
  clear m2 e0 e1 hrow2
  cases r2 with
  | true => exact absurd ⟨HA.out, h2.1 rfl⟩ H.out.2.2.2
  | false =>
   clear h2
   go_wp2_with (refine wpList_store_row rfl 84 (.tmp 6) (.tmp 20) rfl (w.heap.size + 1) z rfl rfl 84 z hrow (by rw [Hz.out.2.2]; exact Hz.out.2.1) rfl (Hz.out.1.one rfl rfl rfl rfl rfl) ?_; rw [setRow_self _ _ _ _ _ hrow])
   refine bodyPost_ret (J1q rfl _ _ (w.heap.size + 1) 84 z (0, 0) _ rfl hrow Tryz.underlying84 rfl (by rw [Hz.out.2.2]; exact Hz.out.2.1)) rfl ?_
   rw [HP.out]
   exact ⟨z, Hz.out.1, rfl, Hm2.out⟩

set_option maxHeartbeats 1000000 in
theorem J63 (p : Prg) (l : Loc) (ma : Option Addr) (ml mc mb mo : Nat) (A : Nat → Option Addr) (L C : Nat → Nat) (fuel : Int) (w : World) (h : PIn w p l) (hma : 0 < ml → ma = some ⟨mb, mo, none⟩) (hm : ListsAt w mb mo ml A L C) (hok : p.Ok 8000 10) (hfit : J2g p.rl p.log ml L) (hf : fuel < 0 ∨ 40000 < fuel) :
  Calls Tryz.prog 24 #[.agg #[.slice l.ra p.rl l.rc, .slice l.ca p.cl l.cc], .slice ma ml mc, V fuel] w fun e w' => ∃ z, MC z (.slice none 0 0) (.slice none 0 0) (ms0 0) ∧ e = .returned (.tuple #[.agg z, V 3]) ∧ More w w' := by
 have hb3 : p.Ok 8000 10 ∧ J2g p.rl p.log ml L ∧ (fuel < 0 ∨ 40000 < fuel) := ⟨hok, hfit, hf⟩
 clear hok hfit hf
 obtain ⟨z, z1, z2, z3, z4⟩ := zrow
 have H : Hid (PIn w p l ∧ (0 < ml → ma = some ⟨mb, mo, none⟩) ∧ ListsAt w mb mo ml A L C ∧ (p.Ok 8000 10 ∧ J2g p.rl p.log ml L ∧ (fuel < 0 ∨ 40000 < fuel))) := ⟨h, hma, hm, hb3⟩
 have Hz : Hid (MC z (.slice none 0 0) (.slice none 0 0) (ms0 0) ∧ (Tryz.prog.info? 84).map (·.size) = some 411 ∧ z.size = 411) := ⟨z3, z4, z3.size rfl⟩
 obtain ⟨P, hP⟩ : ∃ P, P = fun (e : Ending) (w' : World) => ∃ z, MC z (.slice none 0 0) (.slice none 0 0) (ms0 0) ∧ e = .returned (.tuple #[.agg z, V 3]) ∧ More w w' := ⟨_, rfl⟩
 rw [← hP]
 have HP : Hid (P = fun (e : Ending) (w' : World) => ∃ z, MC z (.slice none 0 0) (.slice none 0 0) (ms0 0) ∧ e = .returned (.tuple #[.agg z, V 3]) ∧ More w w') := hP
 clear h hma hm z3 z4 hP hb3
 go_enter Tryz.func24, Tryz.ntmps24
 go_wp2_with (fail)
 refine (J3i p l _ (H.out.1.more (((More.refl _).alloc _ _).alloc _ _))).mono ?_
 rintro e w1 ⟨r1, rfl, h1, m1⟩
 have hrow : w1.heap[w.heap.size + 1]? = some (.cells z 84 (0, 0)) := by rw [m1.block (w.heap.size + 1) (size_alloc2 _ _ _)]; exact J1i _ _ _
 have e0 : w1.cell? ⟨w.heap.size, 0, none⟩ = some (.slice l.ra p.rl l.rc) := m1.cell (by go_simp)
 have e1 : w1.cell? ⟨w.heap.size, 1, none⟩ = some (.slice l.ca p.cl l.cc) := m1.cell (by go_simp)
 have Hm1 : Hid (More w w1) := (((More.refl _).alloc _ _).alloc _ _).trans m1
 clear m1
 obtain rfl : r1 = true := h1.2 H.out.2.2.2.1
 clear h1
 go_wp2_with (fail)
 refine (J5e l.ra p.rl l.rc l.ca p.cl l.cc ma ml mc l.rb l.ro mb mo p.log p.sec A L C _ H.out.1.hr (H.out.1.regs.more Hm1.out) H.out.2.1 (H.out.2.2.1.more Hm1.out)).mono ?_
 rintro e w2 ⟨r2, rfl, h2, m2⟩
 have Hm2 : Hid (More w w2) := Hm1.out.trans m2
 have hrow2 : w2.heap[w.heap.size + 1]? = some (.cells z 84 (0, 0)) := by rw [m2.block (w.heap.size + 1) (by rcases Nat.lt_or_ge (w.heap.size + 1) w1.heap.size with h' | h'; exact h'; rw [Array.getElem?_eq_none h'] at hrow; cases hrow)]; exact hrow
 clear hrow
 have hrow := hrow2
 obtain rfl : r2 = true := h2.2 H.out.2.2.2.2.1
 clear m2 e0 e1 hrow2 h2
 by_cases hf : fuel < 0
 ·go_wp2_with (refine wpList_store_row rfl 84 (.tmp 6) (.tmp 27) rfl (w.heap.size + 1) z rfl rfl 84 z hrow (by rw [Hz.out.2.2]; exact Hz.out.2.1) rfl (Hz.out.1.one rfl rfl rfl rfl rfl) ?_; rw [setRow_self _ _ _ _ _ hrow])
  refine bodyPost_ret (J1q rfl _ _ (w.heap.size + 1) 84 z (0, 0) _ rfl hrow Tryz.underlying84 rfl (by rw [Hz.out.2.2]; exact Hz.out.2.1)) rfl ?_
  rw [HP.out]
  exact ⟨z, Hz.out.1, rfl, Hm2.out⟩
 ·have hf2 : 40000 < fuel := by have := H.out.2.2.2.2.2; omega
  have hf1 : decide (fuel < 0) = false := by simp; omega
  go_wp2_with (refine wpList_store_row rfl 84 (.tmp 6) (.tmp 27) rfl (w.heap.size + 1) z rfl rfl 84 z hrow (by rw [Hz.out.2.2]; exact Hz.out.2.1) rfl (Hz.out.1.one rfl rfl rfl rfl rfl) ?_; rw [setRow_self _ _ _ _ _ hrow])
  refine bodyPost_ret (J1q rfl _ _ (w.heap.size + 1) 84 z (0, 0) _ rfl hrow Tryz.underlying84 rfl (by rw [Hz.out.2.2]; exact Hz.out.2.1)) rfl ?_
  rw [HP.out]
  exact ⟨z, Hz.out.1, rfl, Hm2.out⟩
theorem MC.set {c : Array Value} {rv cv rv' cv' : Value} {x x' : Ms} (h : MC c rv cv x) (j : Nat) (v : Value) (hj : j < 411) (ht : x'.tl = x.tl) (hx : ∀ i, i < 411 → cellF rv' cv' x' i = if i = j then v else cellF rv cv x i) : MC (c.setIfInBounds j v) rv' cv' x' := by
  refine ⟨by simp [h.big], fun i hi => ?_, fun i hi => ?_⟩
  · rw [hx i hi, Array.getElem?_setIfInBounds]
    by_cases e : i = j
    · subst e
      rw [if_pos rfl, if_pos rfl, if_pos (by have := h.big; omega)]
    · rw [if_neg (fun h => e h.symm), if_neg e]
      exact h.at_ i hi
  · rw [Array.getElem?_setIfInBounds, if_neg (by omega), ht]
    exact h.tail i hi
theorem MC.first {z : Array Value} (h : MC z (.slice none 0 0) (.slice none 0 0) (ms0 0)) (rv cv : Value) (fuel : Int) : MC (((z.setIfInBounds 0 rv).setIfInBounds 1 cv).setIfInBounds 402 (V fuel)) rv cv (ms0 fuel) := by
  have h1 : MC (z.setIfInBounds 0 rv) rv (.slice none 0 0) (ms0 0) := h.set 0 rv (by omega) rfl fun i hi => by unfold cellF; by_cases e : i = 0 <;> simp [e]
  have h2 : MC ((z.setIfInBounds 0 rv).setIfInBounds 1 cv) rv cv (ms0 0) := h1.set 1 cv (by omega) rfl fun i hi => by unfold cellF; by_cases e : i = 1 <;> simp [e]
  exact h2.set 402 _ (by omega) rfl fun i hi => by unfold cellF ms0; by_cases e : i = 402 <;> simp [e]

theorem Jnz : (Tryz.prog.info? 2).map (·.size) = some 1 := by kernel_rfl
theorem More.trans_setRow {w w' : World} {g : Nat} {c : Array Value} (h : More w w') (hg : w.heap.size ≤ g) : More w (w'.setRow g c) :=
  Below.trans h ⟨rfl, rfl, rfl, by simp [World.setRow], fun k hk => setRow_other w' g k c (by omega)⟩

set_option maxHeartbeats 2000000 in
theorem Jdh (p : Prg) (l : Loc) (m : Mem) (ml : MLoc) (fuel : Int) (w : World) (h : PIn w p l) (hm : MIn w m ml) (hok : p.Ok 8000 10) (hfit : J2g p.rl p.log m.ml m.len) (hlen : ∀ i, i < m.ml → 0 < m.len i ∧ m.len i ≤ 64) (f0 : 0 ≤ fuel) (f1 : fuel ≤ 40000) :
    Calls Tryz.prog 24 #[.agg #[.slice l.ra p.rl l.rc, .slice l.ca p.cl l.cc], .slice ml.ma m.ml ml.mc, V fuel] w fun e w' => ∃ (c : Array Value) (W S : Nat → Int), e = .returned (.tuple #[.agg c, V 0]) ∧ MC c (.slice l.ra p.rl l.rc) (.slice l.ca p.cl l.cc) { ms0 fuel with wd := W, st := S } ∧
      (∀ j, j ≤ m.ml → S j = (baseN m.len j : Int)) ∧ (∀ j, j < m.ml → ∀ i, i < m.len j → W (baseN m.len j + i) = m.wd j i) ∧ More w w' := by
  obtain ⟨z, z1, z2, z3, z4⟩ := zrow
  obtain ⟨ma, mb, mo, mc, A, C0, gb, go⟩ := ml
  have H : Hid (PIn w p l ∧ MIn w m ⟨ma, mb, mo, mc, A, C0, gb, go⟩ ∧ p.Ok 8000 10 ∧ J2g p.rl p.log m.ml m.len ∧ (∀ i, i < m.ml → 0 < m.len i ∧ m.len i ≤ 64)) := ⟨h, hm, hok, hfit, hlen⟩
  have Hz : Hid (MC z (.slice none 0 0) (.slice none 0 0) (ms0 0) ∧ (Tryz.prog.info? 84).map (·.size) = some 411 ∧ z.size = 411) := ⟨z3, z4, z3.size rfl⟩
  have hzs : z.size = 411 := z3.size rfl
  have Hc : Hid (MC (((z.setIfInBounds 0 (.slice l.ra p.rl l.rc)).setIfInBounds 1 (.slice l.ca p.cl l.cc)).setIfInBounds 402 (V fuel)) (.slice l.ra p.rl l.rc) (.slice l.ca p.cl l.cc) (ms0 fuel)) := z3.first _ _ _
  obtain ⟨P, hP⟩ : ∃ P, P = fun (e : Ending) (w' : World) => ∃ (c : Array Value) (W S : Nat → Int), e = .returned (.tuple #[.agg c, V 0]) ∧ MC c (.slice l.ra p.rl l.rc) (.slice l.ca p.cl l.cc) { ms0 fuel with wd := W, st := S } ∧
      (∀ j, j ≤ m.ml → S j = (baseN m.len j : Int)) ∧ (∀ j, j < m.ml → ∀ i, i < m.len j → W (baseN m.len j + i) = m.wd j i) ∧ More w w' := ⟨_, rfl⟩
  rw [← hP]
  have HP : Hid (P = fun (e : Ending) (w' : World) => ∃ (c : Array Value) (W S : Nat → Int), e = .returned (.tuple #[.agg c, V 0]) ∧ MC c (.slice l.ra p.rl l.rc) (.slice l.ca p.cl l.cc) { ms0 fuel with wd := W, st := S } ∧
      (∀ j, j ≤ m.ml → S j = (baseN m.len j : Int)) ∧ (∀ j, j < m.ml → ∀ i, i < m.len j → W (baseN m.len j + i) = m.wd j i) ∧ More w w') := hP
  dsimp only
  obtain ⟨n, hn⟩ : ∃ n, m.ml = n := ⟨_, rfl⟩
  rw [hn]
  have Hn : Hid (m.ml = n) := hn
  clear h hm hok hfit hlen z3 z4 hP hn
  have f2 : ¬ fuel < 0 := by omega
  have f3 : ¬ 40000 < fuel := by omega
  have f2' : decide (fuel < 0) = false := by simp; omega
  have f3' : decide (40000 < fuel) = false := by simp; omega
  go_enter Tryz.func24, Tryz.ntmps24
  go_wp2_with (fail)
  refine (J3i p l _ (H.out.1.more (((More.refl _).alloc _ _).alloc _ _))).mono ?_
  rintro e w1 ⟨r1, rfl, h1, m1⟩
  obtain rfl : r1 = true := h1.2 H.out.2.2.1
  have hrow1 : w1.heap[w.heap.size + 1]? = some (.cells z 84 (0, 0)) := by rw [m1.block (w.heap.size + 1) (size_alloc2 _ _ _)]; exact J1i _ _ _
  have e0 : w1.cell? ⟨w.heap.size, 0, none⟩ = some (.slice l.ra p.rl l.rc) := m1.cell (by go_simp)
  have e1 : w1.cell? ⟨w.heap.size, 1, none⟩ = some (.slice l.ca p.cl l.cc) := m1.cell (by go_simp)
  have Hm1 : Hid (More w w1) := (((More.refl _).alloc _ _).alloc _ _).trans m1
  have s1 : w.heap.size + 2 ≤ w1.heap.size := by have := m1.size; have := size_alloc2 w (.cells #[.slice l.ra p.rl l.rc, .slice l.ca p.cl l.cc] 28) (.cells z 84); omega
  clear m1 h1
  go_wp2_with (fail)
  refine (J5e l.ra p.rl l.rc l.ca p.cl l.cc ma n mc l.rb l.ro mb mo p.log p.sec A m.len C0 _ H.out.1.hr (H.out.1.regs.more Hm1.out) (by rw [← Hn.out]; exact H.out.2.1.hm) (by rw [← Hn.out]; exact H.out.2.1.lists.more Hm1.out)).mono ?_
  rintro e w2 ⟨r2, rfl, h2, m2⟩
  obtain rfl : r2 = true := h2.2 (by rw [← Hn.out]; exact H.out.2.2.2.1)
  have hrow2 : w2.heap[w.heap.size + 1]? = some (.cells z 84 (0, 0)) := by rw [m2.block (w.heap.size + 1) (by omega)]; exact hrow1
  have e0' := m2.cell e0
  have e1' := m2.cell e1
  have Hm2 : Hid (More w w2) := Hm1.out.trans m2
  have s2 : w.heap.size + 2 ≤ w2.heap.size := by have := m2.size; omega
  clear m2 h2 e0 e1 hrow1
  go_wp2_with (refine wpList_store_row rfl 84 (.tmp 8) (.tmp 30) rfl w2.heap.size (((z.setIfInBounds 0 (.slice l.ra p.rl l.rc)).setIfInBounds 1 (.slice l.ca p.cl l.cc)).setIfInBounds 402 (V fuel)) rfl rfl 84 z (heap_alloc_last _ _) (by rw [Hc.out.size rfl]; exact Hz.out.2.1) (by rw [Hc.out.size rfl, Hz.out.2.2]) (Hc.out.one rfl rfl rfl rfl rfl) ?_; rw [World.setRow_alloc_new])
  have HN0 : Hid (Nw w (w2.alloc (.cells (((z.setIfInBounds 0 (.slice l.ra p.rl l.rc)).setIfInBounds 1 (.slice l.ca p.cl l.cc)).setIfInBounds 402 (V fuel)) 84)) (.slice l.ra p.rl l.rc) (.slice l.ca p.cl l.cc) w2.heap.size m fuel z 0 (fun _ => 0) (fun _ => 0)) :=
    ⟨Hm2.out.alloc _ _, s2, ⟨_, heap_alloc_last _ _, Hc.out⟩, fun j hj => by obtain rfl : j = 0 := by omega
                                                                             rfl, fun j hj => by omega, by rw [(World.grownBy_alloc w2 _ none).block _ (by omega) (by simp)]; exact hrow2⟩
  clear hrow2 e0' e1' hzs
  go_loopg [33] n (fun q i wr => ∃ (k : Nat) (W S : Nat → Int), k + q = n ∧ i = V k ∧ Nw w wr (.slice l.ra p.rl l.rc) (.slice l.ca p.cl l.cc) w2.heap.size m fuel z k W S)
  case atStart => exact ⟨0, _, _, by omega, rfl, HN0.out⟩
  case round =>
    obtain ⟨k, W, S, hkq, rfl, hN⟩ := hrel
    have HNk : Hid (Nw w wr (.slice l.ra p.rl l.rc) (.slice l.ca p.cl l.cc) w2.heap.size m fuel z k W S) := hN
    clear hN HN0
    cases gk with
    | zero =>
      obtain rfl : k = n := by omega
      obtain ⟨c, hh, mc⟩ := HNk.out.at_.out
      have Hcc : Hid (MC c (.slice l.ra p.rl l.rc) (.slice l.ca p.cl l.cc) { ms0 fuel with wd := W, st := S }) := mc
      have hres := HNk.out.res
      have i70 : Hid ((Tryz.prog.info? 84).map (·.size) = some c.size) := by rw [show Hid ((Tryz.prog.info? 84).map (·.size) = some c.size) = ((Tryz.prog.info? 84).map (·.size) = some c.size) from rfl, Hcc.out.size rfl]; exact Hz.out.2.1
      clear mc
      go_wp2_with (first
        | (refine wpList_load_row rfl 84 (.tmp 8) rfl w2.heap.size rfl 84 c (0, 0) _ hh Tryz.underlying84 rfl i70.out ?_)
        | (refine wpList_store_row rfl 84 (.tmp 6) (.tmp 57) rfl (w.heap.size + 1) c rfl rfl 84 z hres i70.out (by rw [Hcc.out.size rfl, Hz.out.2.2]) (Hcc.out.one rfl rfl rfl rfl rfl) ?_))
      refine bodyPost_ret (J1q rfl _ _ (w.heap.size + 1) 84 c (0, 0) _ rfl (setRow_heap _ _ _ _ _ _ hres) Tryz.underlying84 rfl i70.out) rfl ?_
      rw [HP.out]
      refine ⟨c, W, S, rfl, Hcc.out, by rw [Hn.out]; exact HNk.out.st, by rw [Hn.out]; exact HNk.out.wd, ?_⟩
      exact HNk.out.more.trans_setRow (by omega)
    | succ q =>
      have hk : k < n := by omega
      have hk' : (k : Int) < (n : Int) := by omega
      have hk0 : (0 : Int) ≤ (k : Int) := by omega
      have Hk : Hid (k < m.ml ∧ m.ml ≤ 6) := ⟨by rw [Hn.out]; exact hk, by have := H.out.2.2.2.1; have h1 := this.2.1; have h2 := this.1.1; omega⟩
      obtain rfl : ma = some ⟨mb, mo, none⟩ := H.out.2.1.hm (by have := Hk.out; omega)
      have q1 := (H.out.2.1.lists.more HNk.out.more) k Hk.out.1
      dsimp only at q1
      rw [show A k = some ⟨gb k, go k, none⟩ from H.out.2.1.hg k Hk.out.1 (H.out.2.2.2.2 k Hk.out.1).1] at q1
      have Hb : Hid (baseN m.len (k + 1) ≤ 384 ∧ 0 < m.len k ∧ m.len k ≤ 64) := by
        refine ⟨?_, H.out.2.2.2.2 k Hk.out.1⟩
        have := J5r m.len (k + 1) (fun j hj => (H.out.2.2.2.2 j (by have := Hk.out; omega)).2)
        have := Hk.out
        omega
      have t0 : wr.cell? ⟨w2.heap.size, 404 + k, none⟩ = some (V (baseN m.len k : Int)) := by have := (HNk.out.at_.st k (by have := Hk.out; omega)).1; dsimp only at this; rw [HNk.out.st k (Nat.le_refl _)] at this; exact this
      have Hd : Hid (∀ j, j < m.len k → Wr wr w2.heap.size (17 + (baseN m.len k + j)) (V (W (baseN m.len k + j)))) := fun j hj => HNk.out.at_.wd _ (by have := Hb.out; simp only [baseN] at this; omega)
      obtain ⟨t1, f1'⟩ := HNk.out.at_.st (k + 1) (by have := Hk.out; omega)
      dsimp only at t1
      have Hstep : Hid (∀ v, v = (baseN m.len (k + 1) : Int) → ∃ W' S', Nw w (((wr.drew).setCells w2.heap.size (17 + baseN m.len k) (intsN (m.wd k) (m.len k))).setCell ⟨w2.heap.size, 404 + (k + 1), none⟩ (V v)) (.slice l.ra p.rl l.rc) (.slice l.ca p.cl l.cc) w2.heap.size m fuel z (k + 1) W' S') := fun v hv => HNk.out.step (by have := Hk.out; omega) Hb.out.1 v hv
      have Hsrc : Hid (∀ j v, (intsN (m.wd k) (m.len k))[j]? = some v → wr.drew.cell? ((⟨gb k, go k, none⟩ : Addr).add j) = some v) := by
        intro j u hu
        have hj : j < m.len k := by have := (List.getElem?_eq_some_iff.1 hu).1; rw [J1p] at this; exact this
        rw [Jk6 _ _ j hj] at hu
        rw [Go.WideShapes.add_plain, ← Option.some.inj hu]
        exact HNk.out.more.drew.cell (H.out.2.1.words k Hk.out.1 j hj)
      obtain ⟨lo, hlo⟩ : ∃ lo, baseN m.len k = lo := ⟨_, rfl⟩
      obtain ⟨r, hr⟩ : ∃ r, m.len k = r := ⟨_, rfl⟩
      have hhi : baseN m.len (k + 1) = lo + r := by simp only [baseN, hlo, hr]
      rw [hhi, hr] at Hb
      rw [hhi, hlo, hr] at Hstep
      rw [hr] at Hsrc q1
      rw [hlo] at t0
      rw [hlo, hr] at Hd
      have Hcl : Hid (∀ j v, j < r → wr.drew.cell? ⟨w2.heap.size, 404 + k, none⟩ = some v → True) := fun _ _ _ _ => trivial
      clear hlo hr hhi
      have b1 : (lo : Int) ≤ 384 := by have := Hb.out; omega
      have b3 : (0 : Int) ≤ (lo : Int) := by omega
      have b6 : ¬ 384 = lo := by have := Hb.out; omega
      have hk7 : (k : Int) < 7 := by have := Hk.out; omega
      have hk17 : (k : Int) + 1 < 7 := by have := Hk.out; omega
      have hk10 : (0 : Int) ≤ (k : Int) + 1 := by omega
      have hkw : wrap64 ((k : Int) + 1) = (k : Int) + 1 := by unfold wrap64; have := Hk.out; omega
      have hlr : wrap64 ((lo : Int) + (r : Int)) = (lo : Int) + (r : Int) := by unfold wrap64; have := Hb.out; omega
      have ht : ((k : Int) + 1).toNat = k + 1 := by omega
      have hwr := J12
      obtain ⟨y1, hy1⟩ : ∃ y, S (k + 1) = y := ⟨_, rfl⟩
      rw [hy1] at t1
      clear hy1
      have a404 : (wr.drew.setCells w2.heap.size (17 + lo) (intsN (m.wd k) r)).cell? ⟨w2.heap.size, 404 + k, none⟩ = some (V (lo : Int)) := by
        rw [World.cell?_setCells_out _ _ _ _ _ (fun _ _ => .inr (by rw [J1p]; have := Hb.out; dsimp only; omega))]; exact t0
      have a405 : (wr.drew.setCells w2.heap.size (17 + lo) (intsN (m.wd k) r)).cell? ⟨w2.heap.size, 404 + (k + 1), none⟩ = some (V y1) := by
        rw [World.cell?_setCells_out _ _ _ _ _ (fun _ _ => .inr (by rw [J1p]; have := Hb.out; dsimp only; omega))]; exact t1
      have g405 : (wr.drew.setCells w2.heap.size (17 + lo) (intsN (m.wd k) r)).frozen? ⟨w2.heap.size, 404 + (k + 1), none⟩ = false := by
        rw [World.frozen?_setCells]; exact f1'
      obtain ⟨SS, HS⟩ : ∃ S : World → Prop, Hid (∀ w', S w' ↔ w'.cell? ⟨w2.heap.size, 404 + k, none⟩ = some (V (lo : Int))) := ⟨_, fun _ => Iff.rfl⟩
      have kl : ∀ i : { w' // SS w' }, i.val.cell? ⟨w2.heap.size, 404 + k, none⟩ = some (V (lo : Int)) := fun i => (HS.out _).1 i.property
      have hne : Nonempty { w' // SS w' } := ⟨⟨wr, (HS.out _).2 t0⟩⟩
      go_wp2_with (fail)
      refine J03 (S := SS) [(0, true), (1, true), (2, true), (3, true), (4, true), (5, true), (6, true), (7, true), (8, true), (9, true), (10, true), (11, true), (12, true), (13, true), (16, true), (14, false), (15, true), (17, true), (18, false)] (by kernel_rfl) (by kernel_rfl) (by kernel_rfl) ?_ ?_
      · exact (HS.out _).2 t0
      iterate 15 (refine J01 rfl (by kernel_rfl) (fun K hK => ?_); go_simp; refine hK _ _ ?_; clear hK K)
      refine J02 rfl (by kernel_rfl) (fun K hK => ?_)
      refine Jaq (.tmp 50) (.tmp 51) 35 35 rfl 2 Tryz.underlying35 Jnz w2.heap.size (17 + lo) (384 - lo) (384 - lo) ⟨gb k, go k, none⟩ r (C0 k) rfl rfl (intsN (m.wd k) r) (by rw [J1p]; have := Hb.out; simp only [Nat.min_def]; split <;> omega) Hsrc.out (fun j hj => ?_) (fun j hj => ?_) (fun v hv => ?_) ?_
      · rw [J1p] at hj; rw [Nat.add_assoc]; rw [(Hd.out j hj).kept (J3h wr none) (by simp) |>.1]; rfl
      · rw [J1p] at hj; rw [Nat.add_assoc]; exact ((Hd.out j hj).kept (J3h wr none) (by simp)).2
      · simp [intsN] at hv; obtain ⟨j, _, rfl⟩ := hv; rfl
      rw [J1p]
      go_simp
      refine hK _ _ ((HS.out _).2 a404) ?_; clear hK K
      iterate 2 (refine J01 rfl (by kernel_rfl) (fun K hK => ?_); go_simp; refine hK _ _ ?_; clear hK K)
      refine J02 rfl (by kernel_rfl) (fun K hK => ?_); go_simp
      refine hK _ _ ((HS.out _).2 (by go_simp)) ?_; clear hK K
      refine J07 ?_
      clear kl hne
      go_wp2
      go_roundg q
      case measure => omega
      case rel =>
        obtain ⟨W', S', hst⟩ := Hstep.out ((lo : Int) + (r : Int)) (by push_cast; rfl)
        exact ⟨k + 1, W', S', by omega, by first | rfl | (push_cast; rfl), hst⟩
theorem J10 {P : Prop} (h : P) : Hid P := h

theorem Jju {m : Mem} {R : Sh} {x : Ms} {se : List Se} (h : Fin_ m R x se) : Mem.Like ⟨m.ml, fun j => baseN m.len (j + 1) - baseN m.len j, fun j i => x.wd (baseN m.len j + i)⟩ R.mem := by
 have hl : ∀ j, baseN m.len (j + 1) - baseN m.len j = m.len j := fun j => by simp only [baseN]; omega
 refine ⟨h.ml.symm, fun i hi => ?_, fun i hi j hj => ?_⟩
 ·dsimp only; rw [hl, h.len]
 ·dsimp only at hj ⊢
  rw [hl] at hj
  exact h.w.wd i hi j hj

set_option maxHeartbeats 1000000 in
theorem J64 (p : Prg) (l : Loc) (ma : Option Addr) (ml mc : Nat) (fuel code : Int) (w : World) (hc : ¬ code = 0)
  (hnew : ∀ w1, More w w1 → Calls Tryz.prog 24 #[.agg #[.slice l.ra p.rl l.rc, .slice l.ca p.cl l.cc], .slice ma ml mc, V fuel] w1 fun e w' => ∃ z, MC z (.slice none 0 0) (.slice none 0 0) (ms0 0) ∧ e = .returned (.tuple #[.agg z, V code]) ∧ More w1 w') :
  Calls Tryz.prog 11 #[.agg #[.slice l.ra p.rl l.rc, .slice l.ca p.cl l.cc], .slice ma ml mc, V fuel] w fun e w' => e = .returned (.tuple #[.agg #[V 0, V 0, V 0, .slice none 0 0, .slice none 0 0], V code]) ∧ More w w' := by
 obtain ⟨z, z1, z2, z3, z4⟩ := zrow
 have HN : Hid (∀ w1, More w w1 → Calls Tryz.prog 24 #[.agg #[.slice l.ra p.rl l.rc, .slice l.ca p.cl l.cc], .slice ma ml mc, V fuel] w1 fun e w' => ∃ z, MC z (.slice none 0 0) (.slice none 0 0) (ms0 0) ∧ e = .returned (.tuple #[.agg z, V code]) ∧ More w1 w') := hnew
 have Hz : Hid (MC z (.slice none 0 0) (.slice none 0 0) (ms0 0) ∧ (Tryz.prog.info? 84).map (·.size) = some 411 ∧ z.size = 411) := ⟨z3, z4, z3.size rfl⟩
 clear hnew z3 z4
 go_enter Tryz.func11, Tryz.ntmps11
 go_wp2_with (fail)
 refine (HN.out _ (((More.refl _).alloc _ _).alloc _ _)).mono ?_
 rintro e w1 ⟨c, mcc, rfl, m1⟩
 have Hc : Hid (MC c (.slice none 0 0) (.slice none 0 0) (ms0 0)) := mcc
 have s1 : w.heap.size + 2 ≤ w1.heap.size := by have := m1.size; have := size_alloc2 w (.cells #[.slice l.ra p.rl l.rc, .slice l.ca p.cl l.cc] 28) (.cells #[V 0, V 0, V 0, .slice none 0 0, .slice none 0 0] 44); omega
 have Hm1 : Hid (More w w1) := (((More.refl _).alloc _ _).alloc _ _).trans m1
 obtain ⟨w3, hw3⟩ : ∃ w3, w3 = w1.alloc (.cells c 84) := ⟨_, rfl⟩
 have Hw3 : Hid (w3 = w1.alloc (.cells c 84)) := hw3
 have zz : ∀ j v, Wr ((w.alloc (.cells #[.slice l.ra p.rl l.rc, .slice l.ca p.cl l.cc] 28)).alloc (.cells #[V 0, V 0, V 0, .slice none 0 0, .slice none 0 0] 44)) (w.heap.size + 1) j v → Wr w3 (w.heap.size + 1) j v := fun j v hv => by rw [hw3]; exact (hv.kept (m1.grow none) (by simp)).kept (World.grownBy_alloc w1 _ none) (by simp)
 obtain ⟨y0, g0⟩ := zz 0 (V 0) ⟨by go_simp, by go_simp⟩
 obtain ⟨y1, g1⟩ := zz 1 (V 0) ⟨by go_simp, by go_simp⟩
 obtain ⟨y2, g2⟩ := zz 2 (V 0) ⟨by go_simp, by go_simp⟩
 obtain ⟨y3, g3⟩ := zz 3 (.slice none 0 0) ⟨by go_simp, by go_simp⟩
 obtain ⟨y4, g4⟩ := zz 4 (.slice none 0 0) ⟨by go_simp, by go_simp⟩
 have n1 : ¬ w1.heap.size = w.heap.size + 1 := by omega
 have n2 : ¬ w.heap.size + 1 = w1.heap.size := by omega
 clear m1 mcc zz hw3
 go_wp2_with (refine wpList_store_row rfl 84 (.tmp 8) (.tmp 15) rfl w1.heap.size c rfl rfl 84 z (heap_alloc_last _ _) (by rw [Hc.out.size rfl]; exact Hz.out.2.1) (by rw [Hc.out.size rfl, Hz.out.2.2]) (Hc.out.one rfl rfl rfl rfl rfl) ?_; rw [World.setRow_alloc_new, ← Hw3.out])
 refine bodyPost_ret (v := .tuple #[.agg #[V 0, V 0, V 0, .slice none 0 0, .slice none 0 0], V code]) (by simp [results, Tryz.results11, go_sem, *]) rfl ⟨rfl, ?_⟩
 have hg : w3.grownBy (((((w3.setCell ⟨w.heap.size + 1, 0, none⟩ (V 0)).setCell ⟨w.heap.size + 1, 1, none⟩ (V 0)).setCell ⟨w.heap.size + 1, 2, none⟩ (V 0)).setCell ⟨w.heap.size + 1, 3, none⟩ (.slice none 0 0)).setCell ⟨w.heap.size + 1, 4, none⟩ (.slice none 0 0)) (some (w.heap.size + 1)) := J0p (J0p (J0p (J0p (J0p (J0r _ _) _ _) _ _) _ _) _ _) _ _
 have h3 : More w w3 := by rw [Hw3.out]; exact Hm1.out.alloc _ _
 exact h3.grownBy hg (fun b hb => by have := Option.some.inj hb; omega)

set_option maxHeartbeats 2000000 in
theorem Jgk (p : Prg) (l : Loc) (m : Mem) (ml : MLoc) (fuel : Nat) (w : World) (hp : PIn w p l) (hm : MIn w m ml) (hok : p.Ok 8000 10) (hn64 : ∀ i, i < p.cl → B64 (p.ins i).n) (hfit : J2g p.rl p.log m.ml m.len) (hwd : ∀ j, j < m.ml → ∀ i, i < m.len j → B64 (m.wd j i)) (hfuel : fuel ≤ 40000) :
  Calls Tryz.prog 11 #[.agg #[.slice l.ra p.rl l.rc, .slice l.ca p.cl l.cc], .slice ml.ma m.ml ml.mc, V fuel] w fun e w' => ∃ (v : Value) (mm : Mem), e = .returned (.tuple #[v, V 0]) ∧ J35 w' v ⟨(playI p m fuel).fin, (playI p m fuel).val, (playI p m fuel).steps, (playI p m fuel).seen, mm⟩ ∧ mm.Like (playI p m fuel).mem ∧ More w w' := by
 have hml : m.ml = p.rl := hfit.2.1
 have hlen : ∀ i, i < m.ml → (m.len i : Int) = J0g (p.log i) := fun i hi => hfit.2.2 i (by omega)
 have hpos : ∀ i, i < m.ml → 0 < m.len i ∧ m.len i ≤ 64 := fun i hi => by
  have h1 := hlen i hi
  have h2 := hok.1.2 i (by omega)
  have h3 := J2f (k := (p.log i).toNat) (by omega)
  unfold J0g at h1
  omega
 have hm6 : m.ml ≤ 6 := by rw [hml]; exact hok.1.1
 have hcl : 1 ≤ p.cl ∧ p.cl ≤ 8000 := ⟨hok.2.1, hok.2.2.1⟩
 have hinv : Inv p m 0 ⟨0, fun _ => 0, m, []⟩ := ⟨Nat.zero_le _, fun _ _ => J1b, rfl, fun _ => rfl, hwd, by simp⟩
 obtain ⟨z, z1, z2, z3, z4⟩ := zrow
 have Hz : Hid (MC z (.slice none 0 0) (.slice none 0 0) (ms0 0) ∧ (Tryz.prog.info? 84).map (·.size) = some 411 ∧ z.size = 411) := ⟨z3, z4, z3.size rfl⟩
 obtain ⟨ra, rb, ro, rc, ca, cb, co, cc⟩ := l
 obtain rfl : ca = some ⟨cb, co, none⟩ := hp.hc (by omega)
 dsimp only
 have H : Hid (PIn w p ⟨ra, rb, ro, rc, some ⟨cb, co, none⟩, cb, co, cc⟩ ∧ (∀ i, i < p.cl → InsOk p.rl p.log p.cl 10 (p.ins i)) ∧ (∀ i, i < p.cl → B64 (p.ins i).n) ∧ m.ml = p.rl ∧ (∀ i, i < m.ml → (m.len i : Int) = J0g (p.log i)) ∧ (∀ i, i < m.ml → 0 < m.len i ∧ m.len i ≤ 64) ∧ m.ml ≤ 6 ∧ (1 ≤ p.cl ∧ p.cl ≤ 8000) ∧ fuel ≤ 40000 ∧ Inv p m 0 ⟨0, fun _ => 0, m, []⟩) :=
  ⟨hp, hok.2.2.2, hn64, hml, hlen, hpos, hm6, hcl, hfuel, hinv⟩
 have HN : Hid (∀ w1, More w w1 → Calls Tryz.prog 24 #[.agg #[.slice ra p.rl rc, .slice (some ⟨cb, co, none⟩) p.cl cc], .slice ml.ma m.ml ml.mc, V fuel] w1 fun e w' => ∃ (c : Array Value) (W S : Nat → Int), e = .returned (.tuple #[.agg c, V 0]) ∧ MC c (.slice ra p.rl rc) (.slice (some ⟨cb, co, none⟩) p.cl cc) { ms0 fuel with wd := W, st := S } ∧
   (∀ j, j ≤ m.ml → S j = (baseN m.len j : Int)) ∧ (∀ j, j < m.ml → ∀ i, i < m.len j → W (baseN m.len j + i) = m.wd j i) ∧ More w1 w') :=
  fun w1 m1 => Jdh p ⟨ra, rb, ro, rc, some ⟨cb, co, none⟩, cb, co, cc⟩ m ml fuel w1 (hp.more m1) (hm.more m1) hok hfit hpos (by omega) (by omega)
 obtain ⟨R, HR⟩ : ∃ R, Hid (playI p m fuel = R) := ⟨_, rfl⟩
 rw [HR.out]
 obtain ⟨P, hP⟩ : ∃ P, P = fun (e : Ending) (w' : World) => ∃ (v : Value) (mm : Mem), e = .returned (.tuple #[v, V 0]) ∧ J35 w' v ⟨R.fin, R.val, R.steps, R.seen, mm⟩ ∧ mm.Like R.mem ∧ More w w' := ⟨_, rfl⟩
 rw [← hP]
 have HP : Hid (P = fun (e : Ending) (w' : World) => ∃ (v : Value) (mm : Mem), e = .returned (.tuple #[v, V 0]) ∧ J35 w' v ⟨R.fin, R.val, R.steps, R.seen, mm⟩ ∧ mm.Like R.mem ∧ More w w') := hP
 obtain ⟨va, hva⟩ : ∃ va, ml.ma = va := ⟨_, rfl⟩
 obtain ⟨vc, hvc⟩ : ∃ vc, ml.mc = vc := ⟨_, rfl⟩
 rw [hva, hvc] at HN ⊢
 clear hp hm hok hn64 hfit hwd hfuel hml hlen hpos hm6 hcl hinv z3 z4 hP hva hvc
 go_enter Tryz.func11, Tryz.ntmps11
 go_wp2_with (fail)
 refine (HN.out _ (((More.refl _).alloc _ _).alloc _ _)).mono ?_
 rintro e w1 ⟨c, W, S, rfl, mcc, hS, hW, m1⟩
 obtain ⟨w3, hw3⟩ : ∃ w3, w3 = w1.alloc (.cells c 84) := ⟨_, rfl⟩
 have Hw3 : Hid (w3 = w1.alloc (.cells c 84)) := hw3
 have Hc : Hid (MC c (.slice ra p.rl rc) (.slice (some ⟨cb, co, none⟩) p.cl cc) { ms0 fuel with wd := W, st := S } ∧ (∀ j, j ≤ m.ml → S j = (baseN m.len j : Int)) ∧ (∀ j, j < m.ml → ∀ i, i < m.len j → W (baseN m.len j + i) = m.wd j i)) := ⟨mcc, hS, hW⟩
 have s1 : w.heap.size + 2 ≤ w1.heap.size := by have := m1.size; have := size_alloc2 w (.cells #[.slice ra p.rl rc, .slice (some ⟨cb, co, none⟩) p.cl cc] 28) (.cells #[V 0, V 0, V 0, .slice none 0 0, .slice none 0 0] 44); omega
 have Hm3 : Hid (More w w3) := by rw [show Hid (More w w3) = More w w3 from rfl, hw3]; exact ((((More.refl _).alloc _ _).alloc _ _).trans m1).alloc _ _
 have zz : ∀ j v, Wr ((w.alloc (.cells #[.slice ra p.rl rc, .slice (some ⟨cb, co, none⟩) p.cl cc] 28)).alloc (.cells #[V 0, V 0, V 0, .slice none 0 0, .slice none 0 0] 44)) (w.heap.size + 1) j v → Wr w3 (w.heap.size + 1) j v := fun j v hv => by rw [hw3]; exact (hv.kept (m1.grow none) (by simp)).kept (World.grownBy_alloc w1 _ none) (by simp)
 have HZ : Hid (Wr w3 (w.heap.size + 1) 0 (V 0) ∧ Wr w3 (w.heap.size + 1) 1 (V 0) ∧ Wr w3 (w.heap.size + 1) 2 (V 0) ∧ Wr w3 (w.heap.size + 1) 3 (.slice none 0 0) ∧ Wr w3 (w.heap.size + 1) 4 (.slice none 0 0)) :=
  ⟨zz 0 _ ⟨by go_simp, by go_simp⟩, zz 1 _ ⟨by go_simp, by go_simp⟩, zz 2 _ ⟨by go_simp, by go_simp⟩, zz 3 _ ⟨by go_simp, by go_simp⟩, zz 4 _ ⟨by go_simp, by go_simp⟩⟩
 have HA : Hid ((∃ (x : Ms) (se : List Se), Run w3 w1.heap.size (.slice ra p.rl rc) (.slice (some ⟨cb, co, none⟩) p.cl cc) x se ∧ ((∃ k s, Way p m fuel fuel R x se k s) ∨ (x.ended = true ∧ Fin_ m R x se)))) := by
  refine ⟨{ ms0 fuel with wd := W, st := S }, [], ⟨.slice none 0 0, ⟨c, by rw [hw3]; exact heap_alloc_last _ _, mcc⟩, World.ownsRow_nil _ _ _ _, fun q e => by cases e⟩, .inl ⟨0, ⟨0, fun _ => 0, m, []⟩, by omega, ⟨rfl, ⟨hW, hS⟩, rfl, rfl, rfl, rfl, rfl, rfl⟩, rfl, H.out.2.2.2.2.2.2.2.2.2, HR.out⟩⟩
 clear m1 mcc zz hw3 hS hW HN
 go_wp2_with (refine wpList_store_row rfl 84 (.tmp 8) (.tmp 15) rfl w1.heap.size c rfl rfl 84 z (heap_alloc_last _ _) (by rw [Hc.out.1.size rfl]; exact Hz.out.2.1) (by rw [Hc.out.1.size rfl, Hz.out.2.2]) (Hc.out.1.one rfl rfl rfl rfl rfl) ?_; rw [World.setRow_alloc_new, ← Hw3.out])
 go_loopg [] fuel (fun g wr => ∃ (x : Ms) (se : List Se), Run wr w1.heap.size (.slice ra p.rl rc) (.slice (some ⟨cb, co, none⟩) p.cl cc) x se ∧ Below w1.heap.size w3 wr ∧ ((∃ k s, Way p m fuel g R x se k s) ∨ (x.ended = true ∧ Fin_ m R x se)))
 case atStart =>
  obtain ⟨x, se, h1, h2⟩ := HA.out
  exact ⟨x, se, h1, Below.refl _ _, h2⟩
 case round =>
  obtain ⟨x, se, hrun, hbel, hway⟩ := hrel
  have HB : Hid (Below w1.heap.size w3 wr) := hbel
  have HG : Hid (Calls Tryz.prog 25 #[.pointer (some ⟨w1.heap.size, 0, none⟩)] wr fun e w' => Below w1.heap.size wr w' ∧ ∃ (b : Bool) (x' : Ms), e = .returned (.bool b) ∧ Run w' w1.heap.size (.slice ra p.rl rc) (.slice (some ⟨cb, co, none⟩) p.cl cc) x' se ∧ ((b = false ∧ Fin_ m R x' se) ∨ (b = true ∧ ∃ g' k s, gk = g' + 1 ∧ Way p m fuel gk R x' se k s ∧ s.at_ < p.cl))) :=
   Jfh p m fuel gk R wr w1.heap.size (.slice ra p.rl rc) (some ⟨cb, co, none⟩) cc x se H.out.2.2.2.2.2.2.2.2.1 hrun hway
  clear hrun hbel hway HA
  go_wp2_with (fail)
  refine HG.out.mono ?_
  rintro e w4 ⟨b4, b, x', rfl, r4, hcase⟩
  have HB4 : Hid (Below w1.heap.size w3 w4) := Below.trans HB.out b4
  have HR4 : Hid (Run w4 w1.heap.size (.slice ra p.rl rc) (.slice (some ⟨cb, co, none⟩) p.cl cc) x' se) := r4
  clear b4 r4 HG HB
  rcases hcase with ⟨rfl, hfin⟩ | ⟨rfl, g', k, s, rfl, hway, hat⟩
  ·have HF : Hid (Fin_ m R x' se) := hfin
   clear hfin
   go_wp2_with (fail)
   refine (Jl9 w4 w1.heap.size ra p.rl rc _ x' se (baseN m.len) HR4.out (by rw [← H.out.2.2.2.1]; exact H.out.2.2.2.2.2.2.1) (fun j hj => HF.out.w.st j (by rw [H.out.2.2.2.1]; exact hj)) (fun j hj => by have := (H.out.2.2.2.2.2.1 j (by rw [H.out.2.2.2.1]; exact hj)).1; simp only [baseN]; omega) (fun j hj => by have := (H.out.2.2.2.2.2.1 j (by rw [H.out.2.2.2.1]; exact hj)).2; simp only [baseN]; omega) (fun j hj => by have h1 := J5r m.len j (fun i hi => (H.out.2.2.2.2.2.1 i (by rw [H.out.2.2.2.1]; omega)).2); have h2 := H.out.2.2.2.2.2.2.1; have h3 := H.out.2.2.2.1; omega) (by have := HF.out.short; omega)).mono ?_
   rintro e w5 ⟨v, rfl, hsh, b5⟩
   have hb5 : Below w1.heap.size w3 w5 := Below.trans HB4.out b5
   have HSH : Hid (∀ (B : Nat) (w'' : World), B < w1.heap.size → w5.grownBy w'' (some B) → J35 w'' v ⟨x'.fin, x'.val, x'.steps, se, ⟨p.rl, fun j => baseN m.len (j + 1) - baseN m.len j, fun j i => x'.wd (baseN m.len j + i)⟩⟩) := hsh
   obtain ⟨sv, lm, hv, hs1, hs2⟩ := hsh (w.heap.size + 1) w5 (by omega) (J0r _ _)
   clear hsh
   dsimp only at hv
   subst hv
   have HB5 : Hid (Below w1.heap.size w3 w5) := hb5
   obtain ⟨sa, sb, so, sc, rfl, _, _, _⟩ := hs1
   have kept : ∀ j v, Wr w3 (w.heap.size + 1) j v → Wr w5 (w.heap.size + 1) j v := fun j v hv => ⟨by rw [Below.cell hb5 (by dsimp only; omega)]; exact hv.1, by rw [World.frozen?_of_block (Below.block hb5 _ (by dsimp only; omega))]; exact hv.2⟩
   obtain ⟨y0, g0⟩ := kept _ _ HZ.out.1
   obtain ⟨y1, g1⟩ := kept _ _ HZ.out.2.1
   obtain ⟨y2, g2⟩ := kept _ _ HZ.out.2.2.1
   obtain ⟨y3, g3⟩ := kept _ _ HZ.out.2.2.2.1
   obtain ⟨y4, g4⟩ := kept _ _ HZ.out.2.2.2.2
   clear hs2 hb5 b5 kept
   obtain ⟨la, hla⟩ : ∃ la, lm.ma = la := ⟨_, rfl⟩
   obtain ⟨lc, hlc⟩ : ∃ lc, lm.mc = lc := ⟨_, rfl⟩
   rw [hla, hlc] at HSH ⊢
   clear hla hlc
   go_wp2
   refine bodyPost_ret (v := .tuple #[.agg #[V x'.fin, V x'.val, V x'.steps, .slice sa se.length sc, .slice la p.rl lc], V 0]) (by simp [results, Tryz.results11, go_sem, *]) rfl ?_
   rw [HP.out]
   have hg : w5.grownBy (((((w5.setCell ⟨w.heap.size + 1, 0, none⟩ (V x'.fin)).setCell ⟨w.heap.size + 1, 1, none⟩ (V x'.val)).setCell ⟨w.heap.size + 1, 2, none⟩ (V x'.steps)).setCell ⟨w.heap.size + 1, 3, none⟩ (.slice sa se.length sc)).setCell ⟨w.heap.size + 1, 4, none⟩ (.slice la p.rl lc)) (some (w.heap.size + 1)) := J0p (J0p (J0p (J0p (J0p (J0r _ _) _ _) _ _) _ _) _ _) _ _
   have hsh := HSH.out (w.heap.size + 1) _ (by omega) hg
   have esh : (⟨x'.fin, x'.val, x'.steps, se, ⟨p.rl, fun j => baseN m.len (j + 1) - baseN m.len j, fun j i => x'.wd (baseN m.len j + i)⟩⟩ : Sh) = ⟨R.fin, R.val, R.steps, R.seen, ⟨p.rl, fun j => baseN m.len (j + 1) - baseN m.len j, fun j i => x'.wd (baseN m.len j + i)⟩⟩ := by rw [HF.out.fin, HF.out.val, HF.out.steps, HF.out.seen]
   rw [esh] at hsh
   have hmore : More w w5 := Below.trans Hm3.out (Below.mono HB5.out (by omega))
   refine ⟨.agg #[V x'.fin, V x'.val, V x'.steps, .slice sa se.length sc, .slice la p.rl lc], _, rfl, hsh, ?_, hmore.grownBy hg (fun b hb => by have := Option.some.inj hb; omega)⟩
   have := Jju HF.out
   rw [H.out.2.2.2.1] at this
   exact this
  ·have HW : Hid (Way p m fuel (g' + 1) R x' se k s ∧ s.at_ < p.cl) := ⟨hway, hat⟩
   clear hway hat
   have hcb : cb < w1.heap.size := by
    have h0 := (H.out.1.code 0 (by have := H.out.2.2.2.2.2.2.2.1; omega)).1
    have := J0x h0
    dsimp only at this
    omega
   have hcode := H.out.1.code s.at_ HW.out.2
   have cellsB : ∀ (a : Addr) (v : Value), a.block < w.heap.size → w.cell? a = some v → w4.cell? a = some v := fun a v ha hc => by
    rw [Below.cell HB4.out (by omega)]; exact Hm3.out.cell hc
   have hcb2 : cb < w.heap.size := J0x hcode.1
   have q0 := cellsB _ _ hcb2 hcode.1
   have q1 := cellsB _ _ hcb2 hcode.2.1
   have q2 := cellsB _ _ hcb2 hcode.2.2.1
   have q3 := cellsB _ _ hcb2 hcode.2.2.2.1
   have q4 := cellsB _ _ hcb2 hcode.2.2.2.2
   dsimp only at q0 q1 q2 q3 q4
   have hkk := HW.out.1.kg
   have hsl := HW.out.1.inv.seen
   have hB0 := Jbx _ _ _ _ _ w4 w1.heap.size (.slice ra p.rl rc) cb co p.cl cc s.at_ x' se (by rw [HW.out.1.seen]; have := H.out.2.2.2.2.2.2.2.2.1; omega) HW.out.1.rel.next HW.out.2 H.out.2.2.2.2.2.2.2.1.2 (by rw [HW.out.1.rel.steps]; omega) (by rw [HW.out.1.rel.steps]; have := H.out.2.2.2.2.2.2.2.2.1; omega) hcb q0 q1 q2 q3 q4 HR4.out
   have hD0 : ∀ w6, Run w6 w1.heap.size (.slice ra p.rl rc) (.slice (some ⟨cb, co, none⟩) p.cl cc) { x' with steps := x'.steps + 1, next := (s.at_ : Int) + 1 } (se ++ [⟨1, s.at_, 0⟩]) → Calls Tryz.prog 26 #[.pointer (some ⟨w1.heap.size, 0, none⟩), .agg #[V (p.ins s.at_).op, V (p.ins s.at_).a, V (p.ins s.at_).b, V (p.ins s.at_).c, V (p.ins s.at_).n]] w6 fun e w' =>
     e = .returned (.tuple #[]) ∧ Below w1.heap.size w6 w' ∧ ∃ x2, Run w' w1.heap.size (.slice ra p.rl rc) (.slice (some ⟨cb, co, none⟩) p.cl cc) x2 (stepI p s).1.seen ∧ ((∃ k s', Way p m fuel g' R x2 (stepI p s).1.seen k s') ∨ (x2.ended = true ∧ Fin_ m R x2 (stepI p s).1.seen)) := by
    intro w6 r6
    have hrel := HW.out.1.rel
    rw [HW.out.1.seen] at r6
    refine (Joe p m fuel s (k + 1) { x' with steps := x'.steps + 1, next := (s.at_ : Int) + 1 } w6 w1.heap.size _ _ (H.out.2.1 _ HW.out.2) H.out.2.2.2.1 H.out.2.2.2.2.2.2.1 H.out.2.2.2.2.1 H.out.2.2.2.2.2.1 HW.out.1.inv.len (by have := H.out.2.2.2.2.2.2.2.2.1; omega) ⟨hrel.r, ⟨hrel.w.wd, hrel.w.st⟩, by push_cast; rfl, hrel.fin, hrel.val, by dsimp only; rw [hrel.steps]; push_cast; rfl, hrel.fuel, hrel.ended⟩ r6).mono ?_
    rintro e w7 ⟨rfl, b7, x2, r7, ha⟩
    exact ⟨rfl, b7, x2, r7, Jle HW.out.1 HW.out.2 (H.out.2.1 _ HW.out.2) (H.out.2.2.1 _ HW.out.2) H.out.2.2.2.1 H.out.2.2.2.2.2.2.2.2.1 ha⟩
   clear q0 q1 q2 q3 q4 hcode cellsB hcb hcb2 hkk hsl
   obtain ⟨I, hI⟩ : ∃ I, p.ins s.at_ = I := ⟨_, rfl⟩
   rw [hI] at hB0 hD0
   obtain ⟨op, a, b, c', n⟩ := I
   dsimp only at hB0 hD0
   obtain ⟨se2, hse2⟩ : ∃ se2, (stepI p s).1.seen = se2 := ⟨_, rfl⟩
   rw [hse2] at hD0
   have HB0 := J10 hB0
   have HD0 := J10 hD0
   clear hB0 hD0 hI hse2
   go_wp2_with (fail)
   refine HB0.out.mono ?_
   rintro e w6 ⟨rfl, r6, b6⟩
   have HD1 := J10 (HD0.out w6 r6)
   have HB6 : Hid (Below w1.heap.size w3 w6) := Below.trans HB4.out b6
   clear r6 b6 HB0 HD0
   go_wp2_with (fail)
   refine HD1.out.mono ?_
   rintro e w7 ⟨rfl, b7, x2, r7, hway⟩
   have HB7 : Hid (Below w1.heap.size w3 w7) := Below.trans HB6.out b7
   have HW7 := J10 (And.intro r7 hway)
   clear r7 b7 hway HD1
   go_wp2
   go_roundg g'
   case measure => omega
   case rel => exact ⟨x2, se2, HW7.out.1, HB7.out, HW7.out.2⟩
set_option maxHeartbeats 1000000 in
theorem J57 (p : Prg) (l : Loc) (ma : Option Addr) (ml mc : Nat) (sv : Value) (fuel code : Int) (w : World) (hc : ¬ code = 0)
  (hnew : ∀ w1, More w w1 → Calls Tryz.prog 24 #[.agg #[.slice l.ra p.rl l.rc, .slice l.ca p.cl l.cc], .slice ma ml mc, Value.int .i64 fuel] w1 fun e w' => ∃ z, MC z (.slice none 0 0) (.slice none 0 0) (ms0 0) ∧ e = .returned (.tuple #[.agg z, Value.int .i64 code]) ∧ More w1 w') :
  Calls Tryz.prog 13 #[.agg #[.slice l.ra p.rl l.rc, .slice l.ca p.cl l.cc], .slice ma ml mc, sv, Value.int .i64 fuel] w fun e w' => e = .returned (.tuple #[.agg #[Value.int .i64 0, Value.int .i64 0, Value.int .i64 0, .slice none 0 0, .slice none 0 0], Value.int .i64 code]) ∧ More w w' := by
 obtain ⟨z, z1, z2, z3, z4⟩ := zrow
 have HN := J10 hnew
 have Hz : Hid (MC z (.slice none 0 0) (.slice none 0 0) (ms0 0) ∧ (Tryz.prog.info? 84).map (·.size) = some 411 ∧ z.size = 411) := ⟨z3, z4, z3.size rfl⟩
 clear hnew z3 z4
 go_enter Tryz.func13, Tryz.ntmps13
 go_wp2_with (fail)
 refine (HN.out _ (((More.refl _).alloc _ _).alloc _ _)).mono ?_
 rintro e w1 ⟨c, mcc, rfl, m1⟩
 have Hc : Hid (MC c (.slice none 0 0) (.slice none 0 0) (ms0 0)) := mcc
 have s1 : w.heap.size + 2 ≤ w1.heap.size := by have := m1.size; have := size_alloc2 w (.cells #[.slice l.ra p.rl l.rc, .slice l.ca p.cl l.cc] 28) (.cells #[Value.int .i64 0, Value.int .i64 0, Value.int .i64 0, .slice none 0 0, .slice none 0 0] 44); omega
 have Hm1 : Hid (More w w1) := (((More.refl _).alloc _ _).alloc _ _).trans m1
 obtain ⟨w3, hw3⟩ : ∃ w3, w3 = w1.alloc (.cells c 84) := ⟨_, rfl⟩
 have Hw3 : Hid (w3 = w1.alloc (.cells c 84)) := hw3
 have zz : ∀ j v, Wr ((w.alloc (.cells #[.slice l.ra p.rl l.rc, .slice l.ca p.cl l.cc] 28)).alloc (.cells #[Value.int .i64 0, Value.int .i64 0, Value.int .i64 0, .slice none 0 0, .slice none 0 0] 44)) (w.heap.size + 1) j v → Wr w3 (w.heap.size + 1) j v := fun j v hv => by rw [hw3]; exact (hv.kept (m1.grow none) (by simp)).kept (World.grownBy_alloc w1 _ none) (by simp)
 obtain ⟨y0, g0⟩ := zz 0 (Value.int .i64 0) ⟨by go_simp, by go_simp⟩
 obtain ⟨y1, g1⟩ := zz 1 (Value.int .i64 0) ⟨by go_simp, by go_simp⟩
 obtain ⟨y2, g2⟩ := zz 2 (Value.int .i64 0) ⟨by go_simp, by go_simp⟩
 obtain ⟨y3, g3⟩ := zz 3 (.slice none 0 0) ⟨by go_simp, by go_simp⟩
 obtain ⟨y4, g4⟩ := zz 4 (.slice none 0 0) ⟨by go_simp, by go_simp⟩
 have n1 : ¬ w1.heap.size = w.heap.size + 1 := by omega
 have n2 : ¬ w.heap.size + 1 = w1.heap.size := by omega
 clear m1 mcc zz hw3
 go_wp2_with (refine wpList_store_row rfl 84 (.tmp 10) (.tmp 18) rfl w1.heap.size c rfl rfl 84 z (heap_alloc_last _ _) (by rw [Hc.out.size rfl]; exact Hz.out.2.1) (by rw [Hc.out.size rfl, Hz.out.2.2]) (Hc.out.one rfl rfl rfl rfl rfl) ?_; rw [World.setRow_alloc_new, ← Hw3.out])
 refine bodyPost_ret (v := .tuple #[.agg #[Value.int .i64 0, Value.int .i64 0, Value.int .i64 0, .slice none 0 0, .slice none 0 0], Value.int .i64 code]) (by simp [results, Tryz.results13, go_sem, *]) rfl ⟨rfl, ?_⟩
 have hg : w3.grownBy (((((w3.setCell ⟨w.heap.size + 1, 0, none⟩ (Value.int .i64 0)).setCell ⟨w.heap.size + 1, 1, none⟩ (Value.int .i64 0)).setCell ⟨w.heap.size + 1, 2, none⟩ (Value.int .i64 0)).setCell ⟨w.heap.size + 1, 3, none⟩ (.slice none 0 0)).setCell ⟨w.heap.size + 1, 4, none⟩ (.slice none 0 0)) (some (w.heap.size + 1)) := J0p (J0p (J0p (J0p (J0p (J0r _ _) _ _) _ _) _ _) _ _) _ _
 have h3 : More w w3 := by rw [Hw3.out]; exact Hm1.out.alloc _ _
 exact h3.grownBy hg (fun b hb => by have := Option.some.inj hb; omega)

set_option maxHeartbeats 1000000 in
theorem J89 (p : Prg) (l : Loc) (ma : Option Addr) (ml mc : Nat) (sa : Option Addr) (sb so sn sc : Nat) (L : List Int) (fuel : Int) (w : World) (hL : L.length = sn) (hs : SIn w sa sb so L) (hbad : ¬ ScOk L)
  (hnew : ∀ w1, More w w1 → Calls Tryz.prog 24 #[.agg #[.slice l.ra p.rl l.rc, .slice l.ca p.cl l.cc], .slice ma ml mc, Value.int .i64 fuel] w1 fun e w' => ∃ c rv cv x, x.tl 411 = none ∧ rv.oneCell' = true ∧ cv.oneCell' = true ∧ x.sv.oneCell' = true ∧ x.mv.oneCell' = true ∧ MC c rv cv x ∧ e = .returned (.tuple #[.agg c, Value.int .i64 0]) ∧ More w1 w') :
  Calls Tryz.prog 13 #[.agg #[.slice l.ra p.rl l.rc, .slice l.ca p.cl l.cc], .slice ma ml mc, .slice sa sn sc, Value.int .i64 fuel] w fun e w' => e = .returned (.tuple #[.agg #[Value.int .i64 0, Value.int .i64 0, Value.int .i64 0, .slice none 0 0, .slice none 0 0], Value.int .i64 3]) ∧ More w w' := by
 obtain ⟨z, z1, z2, z3, z4⟩ := zrow
 have HN := J10 hnew
 have HS := J10 (And.intro hL (And.intro hs hbad))
 have Hz : Hid (MC z (.slice none 0 0) (.slice none 0 0) (ms0 0) ∧ (Tryz.prog.info? 84).map (·.size) = some 411 ∧ z.size = 411) := ⟨z3, z4, z3.size rfl⟩
 clear hnew z3 z4 hL hs hbad
 go_enter Tryz.func13, Tryz.ntmps13
 go_wp2_with (fail)
 refine (HN.out _ (((More.refl _).alloc _ _).alloc _ _)).mono ?_
 rintro e w1 ⟨c, rv, cv, x, hx1, hx2, hx3, hx4, hx5, mcc, rfl, m1⟩
 have Hc := J10 (And.intro mcc (And.intro (mcc.size hx1) (mcc.one hx2 hx3 hx4 hx5 hx1)))
 have s1 : w.heap.size + 2 ≤ w1.heap.size := by have := m1.size; have := size_alloc2 w (.cells #[.slice l.ra p.rl l.rc, .slice l.ca p.cl l.cc] 28) (.cells #[Value.int .i64 0, Value.int .i64 0, Value.int .i64 0, .slice none 0 0, .slice none 0 0] 44); omega
 have Hm1 : Hid (More w w1) := (((More.refl _).alloc _ _).alloc _ _).trans m1
 obtain ⟨w3, hw3⟩ : ∃ w3, w3 = w1.alloc (.cells c 84) := ⟨_, rfl⟩
 have Hw3 : Hid (w3 = w1.alloc (.cells c 84)) := hw3
 have zz : ∀ j v, Wr ((w.alloc (.cells #[.slice l.ra p.rl l.rc, .slice l.ca p.cl l.cc] 28)).alloc (.cells #[Value.int .i64 0, Value.int .i64 0, Value.int .i64 0, .slice none 0 0, .slice none 0 0] 44)) (w.heap.size + 1) j v → Wr w3 (w.heap.size + 1) j v := fun j v hv => by rw [hw3]; exact (hv.kept (m1.grow none) (by simp)).kept (World.grownBy_alloc w1 _ none) (by simp)
 obtain ⟨y0, g0⟩ := zz 0 (Value.int .i64 0) ⟨by go_simp, by go_simp⟩
 obtain ⟨y1, g1⟩ := zz 1 (Value.int .i64 0) ⟨by go_simp, by go_simp⟩
 obtain ⟨y2, g2⟩ := zz 2 (Value.int .i64 0) ⟨by go_simp, by go_simp⟩
 obtain ⟨y3, g3⟩ := zz 3 (.slice none 0 0) ⟨by go_simp, by go_simp⟩
 obtain ⟨y4, g4⟩ := zz 4 (.slice none 0 0) ⟨by go_simp, by go_simp⟩
 have n1 : ¬ w1.heap.size = w.heap.size + 1 := by omega
 have n2 : ¬ w.heap.size + 1 = w1.heap.size := by omega
 have h3 : More w w3 := by rw [hw3]; exact Hm1.out.alloc _ _
 have hA := J74 sa sb so sn sc L HS.out.1 w3 (HS.out.2.1.more h3)
 have HA := J10 hA
 have H3 := J10 h3
 clear m1 mcc zz hw3 hx1 hx2 hx3 hx4 hx5 hA h3
 go_wp2_with (refine wpList_store_row rfl 84 (.tmp 10) (.tmp 18) rfl w1.heap.size c rfl rfl 84 z (heap_alloc_last _ _) (by rw [Hc.out.2.1]; exact Hz.out.2.1) (by rw [Hc.out.2.1, Hz.out.2.2]) Hc.out.2.2 ?_; rw [World.setRow_alloc_new, ← Hw3.out])
 refine HA.out.mono ?_
 rintro e w4 ⟨r, rfl, hr, rfl⟩
 cases r with
 | true => exact absurd (hr.1 rfl) HS.out.2.2
 | false =>
  clear hr HA
  go_wp2
  refine bodyPost_ret (v := .tuple #[.agg #[Value.int .i64 0, Value.int .i64 0, Value.int .i64 0, .slice none 0 0, .slice none 0 0], Value.int .i64 3]) (by simp [results, Tryz.results13, go_sem, *]) rfl ⟨rfl, ?_⟩
  have hg : w4.grownBy (((((w4.setCell ⟨w.heap.size + 1, 0, none⟩ (Value.int .i64 0)).setCell ⟨w.heap.size + 1, 1, none⟩ (Value.int .i64 0)).setCell ⟨w.heap.size + 1, 2, none⟩ (Value.int .i64 0)).setCell ⟨w.heap.size + 1, 3, none⟩ (.slice none 0 0)).setCell ⟨w.heap.size + 1, 4, none⟩ (.slice none 0 0)) (some (w.heap.size + 1)) := J0p (J0p (J0p (J0p (J0p (J0r _ _) _ _) _ _) _ _) _ _) _ _
  exact H3.out.grownBy hg (fun b hb => by have := Option.some.inj hb; omega)
theorem J8j {P : Program} {ops : Array Oper} {rest : List Oper} {o : Oper} {a : Act} {w : World} {Q : Exit → Act → World → Prop} (hg : o.guard = none) (t : TypeId) (parts : Array (Nat × Operand)) (ho : o.op = .build t parts) (C : Array Value)
  (hf : P.built t (parts.map fun (i, x) => (i, a.eval x)).toList = some C) (h : wpList P ops Q rest (a.put o.dst (.agg C)) w) : wpList P ops Q (o :: rest) a w := by
 refine wpList_plain hg fun K hK => ?_
 unfold Oper.wp execOp
 simp only [ho, Sem.run_bind, run_build w t _ C hf, Result.andThen_ok]
 exact hK _ _ h

theorem Joj : ∃ Z : Array Value, (∀ w, (zeroValue 98).run Tryz.prog w = .ok (.agg Z) w) ∧ Z.size = 1578 ∧ (Tryz.prog.info? 98).map (·.size) = some 1578 := by
 obtain ⟨h1, h2⟩ := zero_of_info Jj2
 exact ⟨_, h1, by simp [rowS], h2⟩

theorem Jh3 {rv cv : Value} {x : Ms} (i : Nat) (h0 : rv.oneCell' = true) (h1 : cv.oneCell' = true) (h2 : x.sv.oneCell' = true) (h3 : x.mv.oneCell' = true) : (cellF rv cv x i).oneCell' = true := by
 unfold cellF
 by_cases e0 : i = 0
 ·rw [if_pos e0]; exact h0
 rw [if_neg e0]
 by_cases e1 : i = 1
 ·rw [if_pos e1]; exact h1
 rw [if_neg e1]
 by_cases e2 : i = 2
 ·rw [if_pos e2]; rfl
 rw [if_neg e2]
 by_cases e3 : i = 3
 ·rw [if_pos e3]; rfl
 rw [if_neg e3]
 by_cases e4 : i = 4
 ·rw [if_pos e4]; rfl
 rw [if_neg e4]
 by_cases e5 : i = 5
 ·rw [if_pos e5]; exact h2
 rw [if_neg e5]
 by_cases e6 : i = 6
 ·rw [if_pos e6]; exact h3
 rw [if_neg e6]
 by_cases e7 : i < 17
 ·rw [if_pos e7]; rfl
 rw [if_neg e7]
 by_cases e8 : i < 401
 ·rw [if_pos e8]; rfl
 rw [if_neg e8]
 by_cases e9 : i = 401
 ·rw [if_pos e9]; rfl
 rw [if_neg e9]
 by_cases e10 : i = 402
 ·rw [if_pos e10]; rfl
 rw [if_neg e10]
 by_cases e11 : i = 403
 ·rw [if_pos e11]; rfl
 rw [if_neg e11]
 rfl
theorem Jnh {q : Tl} (i : Nat) (h : q.sc.oneCell' = true) : (tlV q i).oneCell' = true := by
 unfold tlV
 by_cases e0 : i = 411
 ·rw [if_pos e0]; exact h
 rw [if_neg e0]
 by_cases e1 : i = 412
 ·rw [if_pos e1]; rfl
 rw [if_neg e1]
 by_cases e2 : i < 797
 ·rw [if_pos e2]; rfl
 rw [if_neg e2]
 by_cases e3 : i = 797
 ·rw [if_pos e3]; rfl
 rw [if_neg e3]
 by_cases e4 : i < 808
 ·rw [if_pos e4]; rfl
 rw [if_neg e4]
 by_cases e5 : i < 1192
 ·rw [if_pos e5]; rfl
 rw [if_neg e5]
 by_cases e6 : i = 1192
 ·rw [if_pos e6]; rfl
 rw [if_neg e6]
 by_cases e7 : i < 1577
 ·rw [if_pos e7]; rfl
 rw [if_neg e7]
 rfl
theorem MC.oneS {c : Array Value} {rv cv : Value} {x : Ms} {q : Tl} (h : MC c rv cv { x with T := 98, tl := tlF q }) (hs : c.size = 1578) (h0 : rv.oneCell' = true) (h1 : cv.oneCell' = true) (h2 : x.sv.oneCell' = true) (h3 : x.mv.oneCell' = true) (h4 : q.sc.oneCell' = true) : c.all (·.oneCell') = true := by
 rw [Array.all_eq_true]
 intro i hi
 by_cases e : i < 411
 ·have h5 := h.at_ i e
  rw [Array.getElem?_eq_getElem hi] at h5
  rw [Option.some.inj h5]
  exact Jh3 i h0 h1 h2 h3
 ·have h5 := h.tail i (by omega)
  dsimp only at h5
  rw [Array.getElem?_eq_getElem hi, J8e q i (by omega)] at h5
  rw [Option.some.inj h5]
  exact Jnh i h4

set_option maxHeartbeats 2000000 in
theorem J88 (p : Prg) (l : Loc) (m : Mem) (ml : MLoc) (sa : Option Addr) (sb so sn sc : Nat) (L : List Int) (fuel : Nat) (w : World) (hp : PIn w p l) (hm : MIn w m ml) (hok : p.Ok 8000 10) (hn64 : ∀ i, i < p.cl → B64 (p.ins i).n) (hfit : J2g p.rl p.log m.ml m.len) (hwd : ∀ j, j < m.ml → ∀ i, i < m.len j → B64 (m.wd j i)) (hfuel : fuel ≤ 40000) (hL : L.length = sn) (hcap : sn ≤ sc) (hs : SIn w sa sb so L) (hsok : ScOk L) :
  Calls Tryz.prog 13 #[.agg #[.slice l.ra p.rl l.rc, .slice l.ca p.cl l.cc], .slice ml.ma m.ml ml.mc, .slice sa sn sc, Value.int .i64 fuel] w fun e w' => ∃ (v : Value) (mm : Mem), e = .returned (.tuple #[v, Value.int .i64 0]) ∧ J35 w' v ⟨(playS p (flatM m) L fuel).fin, (playS p (flatM m) L fuel).val, (playS p (flatM m) L fuel).steps, (playS p (flatM m) L fuel).seen, mm⟩ ∧ mm.ml = m.ml ∧ (∀ j, mm.len j = m.len j) ∧ (∀ j, j < m.ml → ∀ i, i < m.len j → mm.wd j i = (playS p (flatM m) L fuel).wd (baseN m.len j + i)) ∧ More w w' := by
 have hml : m.ml = p.rl := hfit.2.1
 have hlen : ∀ i, i < m.ml → (m.len i : Int) = J0g (p.log i) := fun i hi => hfit.2.2 i (by omega)
 have hpos : ∀ i, i < m.ml → 0 < m.len i ∧ m.len i ≤ 64 := fun i hi => by
  have h1 := hlen i hi
  have h2 := hok.1.2 i (by omega)
  have h3 := J2f (k := (p.log i).toNat) (by omega)
  unfold J0g at h1
  omega
 have hm6 : m.ml ≤ 6 := by rw [hml]; exact hok.1.1
 have hcl : 1 ≤ p.cl ∧ p.cl ≤ 8000 := ⟨hok.2.1, hok.2.2.1⟩
 have hall : allI p = (baseN m.len m.ml : Int) := Jlv hml hlen
 have hble : ∀ j, j ≤ m.ml → baseN m.len j ≤ 384 := fun j hj => by
  have h1 := J5r m.len j (fun i hi => (hpos i (by omega)).2)
  omega
 have hall384 : allI p ≤ 384 := by rw [hall]; have := hble m.ml (Nat.le_refl _); omega
 have hbase : ∀ j, j < p.rl → 0 ≤ baseI p.log j ∧ baseI p.log (j + 1) = baseI p.log j + J0g (p.log j) ∧ 0 ≤ J0g (p.log j) ∧ baseI p.log (j + 1) ≤ 384 := fun j hj => by
  have h1 := J36 p m hlen j (by omega)
  have h2 := J36 p m hlen (j + 1) (by omega)
  have h3 := hlen j (by omega)
  have h4 := hble (j + 1) (by omega)
  exact ⟨by omega, rfl, by omega, by omega⟩
 have hinv : InvS p 0 (4 * 0) ⟨⟨0, fun _ => 0, flatM m, fun _ => []⟩, false, 0, ⟨0, fun _ => 0, flatM m, fun _ => []⟩, L, []⟩ := by
  refine ⟨⟨Nat.zero_le _, fun _ _ => J1b, fun j hj => ?_, fun j => Nat.le_refl _, fun j hj v hv => by simp at hv⟩, fun a => by simp at a, Nat.le_refl _, fun c hc => ?_⟩
  ·rw [hall] at hj
   obtain ⟨c, i, h1, h2, rfl⟩ := J5s m.len m.ml j (by omega)
   dsimp only
   rw [J9y m c i h1 h2]
   exact hwd c h1 i h2
  ·obtain ⟨j, hj⟩ := List.getElem?_of_mem hc
   exact hsok.2 j c hj
 obtain ⟨z, z1, z2, z3, z4⟩ := zrow
 obtain ⟨Z, Z1, Z2, Z3⟩ := Joj
 have Hz : Hid (MC z (.slice none 0 0) (.slice none 0 0) (ms0 0) ∧ (Tryz.prog.info? 84).map (·.size) = some 411 ∧ z.size = 411) := ⟨z3, z4, z3.size rfl⟩
 have HZ9 : Hid (Z.size = 1578 ∧ (Tryz.prog.info? 98).map (·.size) = some 1578) := ⟨Z2, Z3⟩
 obtain ⟨ra, rb, ro, rc, ca, cb, co, cc⟩ := l
 obtain rfl : ca = some ⟨cb, co, none⟩ := hp.hc (by omega)
 dsimp only
 have HP0 := J10 (And.intro hp (And.intro hok.2.2.2 hn64))
 have HM0 := J10 (And.intro hml (And.intro hlen (And.intro hpos (And.intro hm6 (And.intro hcl (And.intro hall (And.intro hble (And.intro hall384 (And.intro hbase hinv)))))))))
 have HS0 := J10 (And.intro hL (And.intro hcap (And.intro hs (And.intro hsok hfuel))))
 have HN : Hid (∀ w1, More w w1 → Calls Tryz.prog 24 #[.agg #[.slice ra p.rl rc, .slice (some ⟨cb, co, none⟩) p.cl cc], .slice ml.ma m.ml ml.mc, Value.int .i64 fuel] w1 fun e w' => ∃ (c : Array Value) (W S : Nat → Int), e = .returned (.tuple #[.agg c, Value.int .i64 0]) ∧ MC c (.slice ra p.rl rc) (.slice (some ⟨cb, co, none⟩) p.cl cc) { ms0 fuel with wd := W, st := S } ∧
   (∀ j, j ≤ m.ml → S j = (baseN m.len j : Int)) ∧ (∀ j, j < m.ml → ∀ i, i < m.len j → W (baseN m.len j + i) = m.wd j i) ∧ More w1 w') :=
  fun w1 m1 => Jdh p ⟨ra, rb, ro, rc, some ⟨cb, co, none⟩, cb, co, cc⟩ m ml fuel w1 (hp.more m1) (hm.more m1) hok hfit hpos (by omega) (by omega)
 obtain ⟨R, HR⟩ : ∃ R, Hid (playS p (flatM m) L fuel = R) := ⟨_, rfl⟩
 rw [HR.out]
 suffices H0 : ∀ P : Ending → World → Prop, (∀ e w', (∃ (v : Value) (mm : Mem), e = .returned (.tuple #[v, Value.int .i64 0]) ∧ J35 w' v ⟨R.fin, R.val, R.steps, R.seen, mm⟩ ∧ mm.ml = m.ml ∧ (∀ j, mm.len j = m.len j) ∧ (∀ j, j < m.ml → ∀ i, i < m.len j → mm.wd j i = R.wd (baseN m.len j + i)) ∧ More w w') → P e w') → Calls Tryz.prog 13 #[.agg #[.slice ra p.rl rc, .slice (some ⟨cb, co, none⟩) p.cl cc], .slice ml.ma m.ml ml.mc, .slice sa sn sc, Value.int .i64 fuel] w P from H0 _ (fun _ _ h => h)
 intro P hP
 have HP := J10 hP
 obtain ⟨va, hva⟩ : ∃ va, ml.ma = va := ⟨_, rfl⟩
 obtain ⟨vc, hvc⟩ : ∃ vc, ml.mc = vc := ⟨_, rfl⟩
 rw [hva, hvc] at HN ⊢
 clear hp hm hok hn64 hfit hwd hfuel hml hlen hpos hm6 hcl hinv z3 z4 hP hva hvc hall hble hall384 hbase hL hcap hs hsok Z2 Z3
 go_enter Tryz.func13, Tryz.ntmps13
 go_wp2_with (fail)
 refine (HN.out _ (((More.refl _).alloc _ _).alloc _ _)).mono ?_
 rintro e w1 ⟨c, W, S, rfl, mcc, hS, hW, m1⟩
 obtain ⟨w3, hw3⟩ : ∃ w3, w3 = w1.alloc (.cells c 84) := ⟨_, rfl⟩
 have Hw3 : Hid (w3 = w1.alloc (.cells c 84)) := hw3
 have Hc := J10 (And.intro mcc (And.intro hS (And.intro hW (And.intro (mcc.size rfl) (mcc.one rfl rfl rfl rfl rfl)))))
 have s1 : w.heap.size + 2 ≤ w1.heap.size := by have := m1.size; have := size_alloc2 w (.cells #[.slice ra p.rl rc, .slice (some ⟨cb, co, none⟩) p.cl cc] 28) (.cells #[Value.int .i64 0, Value.int .i64 0, Value.int .i64 0, .slice none 0 0, .slice none 0 0] 44); omega
 have Hm3 : Hid (More w w3) := by rw [show Hid (More w w3) = More w w3 from rfl, hw3]; exact ((((More.refl _).alloc _ _).alloc _ _).trans m1).alloc _ _
 have zz : ∀ j v, Wr ((w.alloc (.cells #[.slice ra p.rl rc, .slice (some ⟨cb, co, none⟩) p.cl cc] 28)).alloc (.cells #[Value.int .i64 0, Value.int .i64 0, Value.int .i64 0, .slice none 0 0, .slice none 0 0] 44)) (w.heap.size + 1) j v → Wr w3 (w.heap.size + 1) j v := fun j v hv => by rw [hw3]; exact (hv.kept (m1.grow none) (by simp)).kept (World.grownBy_alloc w1 _ none) (by simp)
 have HZ : Hid (Wr w3 (w.heap.size + 1) 0 (Value.int .i64 0) ∧ Wr w3 (w.heap.size + 1) 1 (Value.int .i64 0) ∧ Wr w3 (w.heap.size + 1) 2 (Value.int .i64 0) ∧ Wr w3 (w.heap.size + 1) 3 (.slice none 0 0) ∧ Wr w3 (w.heap.size + 1) 4 (.slice none 0 0)) :=
  ⟨zz 0 _ ⟨by go_simp, by go_simp⟩, zz 1 _ ⟨by go_simp, by go_simp⟩, zz 2 _ ⟨by go_simp, by go_simp⟩, zz 3 _ ⟨by go_simp, by go_simp⟩, zz 4 _ ⟨by go_simp, by go_simp⟩⟩
 have hrow3 : w3.heap[w1.heap.size]? = some (.cells c 84 (0, 0)) := by rw [hw3]; exact heap_alloc_last _ _
 have hsz3 : w3.heap.size = w1.heap.size + 1 := by rw [hw3]; simp
 have hA := J74 sa sb so sn sc L HS0.out.1 w3 (HS0.out.2.2.1.more Hm3.out)
 have HA := J10 hA
 obtain ⟨C, hC1, hC2, hC3⟩ := Jmg c _ _ _ Hc.out.1 rfl sa sn sc (w1.heap.size + 1)
 have HC := J10 (And.intro hC1 (And.intro hC2 (And.intro hC3 (hC3.oneS hC2 rfl rfl rfl rfl rfl))))
 have i77 : Hid ((Tryz.prog.info? 84).map (·.size) = some c.size) := by rw [show Hid ((Tryz.prog.info? 84).map (·.size) = some c.size) = ((Tryz.prog.info? 84).map (·.size) = some c.size) from rfl, Hc.out.2.2.2.1]; exact Hz.out.2.1
 have hmm := @run_makeMap Tryz.prog
 clear m1 mcc zz hw3 hS hW HN hA hC1 hC2 hC3
 go_wp2_with (refine wpList_store_row rfl 84 (.tmp 10) (.tmp 18) rfl w1.heap.size c rfl rfl 84 z (heap_alloc_last _ _) (by rw [Hc.out.2.2.2.1]; exact Hz.out.2.1) (by rw [Hc.out.2.2.2.1, Hz.out.2.2]) Hc.out.2.2.2.2 ?_; rw [World.setRow_alloc_new, ← Hw3.out])
 refine HA.out.mono ?_
 rintro e w4 ⟨r, rfl, hr, rfl⟩
 obtain rfl : r = true := hr.2 HS0.out.2.2.2.1
 obtain ⟨w5, hw5⟩ : ∃ w5, w5 = (w4.alloc (.map #[] 0)).alloc (.cells C 98) := ⟨_, rfl⟩
 have hset : ((w4.alloc (.map #[] 0)).alloc (.cells Z 98)).setRow (w1.heap.size + 1 + 1) C = w5 := by
  rw [hw5, show w1.heap.size + 1 + 1 = (w4.alloc (.map #[] 0)).heap.size by simp [hsz3]]
  exact World.setRow_alloc_new _ _ _ _
 have hrowZ : ((w4.alloc (.map #[] 0)).alloc (.cells Z 98)).heap[w1.heap.size + 1 + 1]? = some (.cells Z 98 (0, 0)) := by rw [← hsz3]; exact J1i _ _ _
 have Hset := J10 (And.intro hset hrowZ)
 have b34 : Below (w1.heap.size + 1) w4 w5 := by rw [hw5]; exact J05 (J05 (Below.refl _ _) (by omega) _) (by simp [hsz3]) _
 have HW5 := J10 b34
 have hmap5 : MapAt w5 (w1.heap.size + 1) (fun _ _ => 0) := by
  rw [hw5]
  have h1 := MapAt.made w4
  rw [hsz3] at h1
  exact h1.block ((World.grownBy_alloc _ _ none).block _ h1.lt (by simp))
 have hrun5 : RunS w5 (w1.heap.size + 1 + 1) (.slice ra p.rl rc) (.slice (some ⟨cb, co, none⟩) p.cl cc) { ms0 fuel with wd := W, st := S } (zTl (.slice sa sn sc) (w1.heap.size + 1)) [] := by
  refine ⟨⟨.slice none 0 0, ⟨C, ?_, HC.out.2.2.1⟩, World.ownsRow_nil _ _ _ _, fun q e => by cases e⟩⟩
  rw [hw5, ← hsz3]
  exact J1i _ _ _
 have hsc5 : ScAt w5 (w1.heap.size + 1) (.slice sa sn sc) L := by
  refine ⟨sa, sc, by rw [HS0.out.1], by rw [HS0.out.1]; exact HS0.out.2.1, fun hne => ?_⟩
  have hpos : 0 < L.length := List.length_pos_iff.2 hne
  have hc0 := HS0.out.2.2.1.cells 0 (L[0]) (List.getElem?_eq_getElem hpos)
  have hlt := J0x hc0
  dsimp only at hlt
  refine ⟨sb, so, HS0.out.2.2.1.ha hpos, by omega, fun j c hj => ?_⟩
  rw [Below.cell b34 (by dsimp only; omega)]
  exact Hm3.out.cell (HS0.out.2.2.1.cells j c hj)
 have HA5 : Hid (∃ (x : Ms) (q : Tl) (se : List Se) (f : Int → Int → Int), RunS w5 (w1.heap.size + 1 + 1) (.slice ra p.rl rc) (.slice (some ⟨cb, co, none⟩) p.cl cc) x q se ∧ x.mo = [] ∧ q.mb = w1.heap.size + 1 ∧ MapAt w5 (w1.heap.size + 1) f ∧ ((∃ s k, WayS p fuel fuel R x q f se s k ∧ ScAt w5 (w1.heap.size + 1) q.sc s.script) ∨ (x.ended = true ∧ q.ahead = false ∧ FinS p R x q se))) := by
  refine ⟨_, _, _, _, hrun5, rfl, rfl, hmap5, .inl ⟨⟨⟨0, fun _ => 0, flatM m, fun _ => []⟩, false, 0, ⟨0, fun _ => 0, flatM m, fun _ => []⟩, L, []⟩, 0, ⟨by omega, ⟨rfl, fun j hj => ?_, rfl, rfl, rfl, rfl, rfl, rfl, fun j hj => ?_, fun _ _ => rfl, fun j hj t v hv => by simp at hv, rfl, fun a => by simp at a, fun a => by simp at a, fun a => by simp at a, fun a => by simp at a, fun a => by simp at a, fun a => by simp at a, fun a => by simp at a⟩, rfl, HM0.out.2.2.2.2.2.2.2.2.2, HR.out⟩, hsc5⟩⟩
  ·rw [HM0.out.2.2.2.2.2.1] at hj
   exact Jhi Hc.out.2.2.1 j (by omega)
  ·show S j = _
   rw [Hc.out.2.1 j (by rw [HM0.out.1]; exact hj)]
   exact J36 p m HM0.out.2.1 j (by rw [HM0.out.1]; exact hj)
 clear hr HA hw5 hset hrowZ b34 hmap5 hrun5 hsc5
 go_wp2_with (first
  | (refine wpList_load_row rfl 84 (.tmp 10) rfl w1.heap.size rfl 84 c (0, 0) _ hrow3 Tryz.underlying84 rfl i77.out ?_)
  | (refine J8j rfl 98 #[(0, .tmp 28), (1, .tmp 29), (2, .tmp 30)] rfl C (by simp [Act.eval]; exact HC.out.1) ?_)
  | (refine wpList_store_row rfl 98 (.tmp 12) (.tmp 31) rfl (w1.heap.size + 1 + 1) C rfl rfl 98 Z Hset.out.2 (by rw [HC.out.2.1]; exact HZ9.out.2) (by rw [HC.out.2.1, HZ9.out.1]) HC.out.2.2.2 ?_; rw [Hset.out.1]))
 go_simp
 obtain ⟨M, hM⟩ : ∃ M, M = w1.heap.size + 1 + 1 := ⟨_, rfl⟩
 obtain ⟨mb, hmb⟩ : ∃ mb, mb = w1.heap.size + 1 := ⟨_, rfl⟩
 rw [← hM, ← hmb] at HA5
 rw [← hmb] at HW5
 have HMM : Hid (M = w1.heap.size + 1 + 1 ∧ mb = w1.heap.size + 1 ∧ w.heap.size + 2 ≤ w1.heap.size) := ⟨hM, hmb, s1⟩
 rw [← hM, ← hmb]
 clear hM hmb hrow3 hsz3 s1 hmm Hset HC HZ9 Hz Hw3 i77 Z1 z1 z2
 go_loopg [] fuel (fun g wr => ∃ (x : Ms) (q : Tl) (se : List Se) (f : Int → Int → Int), RunS wr M (.slice ra p.rl rc) (.slice (some ⟨cb, co, none⟩) p.cl cc) x q se ∧ x.mo = [] ∧ q.mb = mb ∧ MapAt wr mb f ∧ Below mb w4 wr ∧ ((∃ s k, WayS p fuel g R x q f se s k ∧ ScAt wr mb q.sc s.script) ∨ (x.ended = true ∧ q.ahead = false ∧ FinS p R x q se)))
 case atStart =>
  obtain ⟨x, q, se, f, h1, h2, h3, h4, h5⟩ := HA5.out
  exact ⟨x, q, se, f, h1, h2, h3, h4, HW5.out, h5⟩
 case round =>
  obtain ⟨x, q, se, f, hrun, hmo, hqm, hmap, hbel, hway⟩ := hrel
  have hlt : mb < M := by have := HMM.out; omega
  have Hst := J10 (And.intro hrun (And.intro hmo (And.intro hqm (And.intro hmap (And.intro hbel hlt)))))
  have HWy := J10 hway
  have HG := J10 (J86 (p := p) (fuel := fuel) (g := gk) (R := R) (f := f) (.slice ra p.rl rc) (some ⟨cb, co, none⟩) cc HS0.out.2.2.2.2 hrun (fun s => ScAt wr mb q.sc s.script) hway)
  clear hrun hmo hqm hmap hbel hway HA5 hlt
  go_wp2_with (fail)
  refine HG.out.mono ?_
  rintro e w6 ⟨b6, b, x', q', se', rfl, r6, hq1, hq2, hx1, hcase⟩
  have H6 := J10 (And.intro r6 (And.intro b6 (And.intro hq1 (And.intro hq2 hx1))))
  clear b6 r6 HG hq1 hq2 hx1
  rcases hcase with ⟨rfl, hfin⟩ | ⟨rfl, g', s, k, rfl, hkg, hsim, hse, hinv, hat, hsc, hw, hphi⟩
  ·have HF := J10 hfin
   clear hfin
   have hst2 : ∀ j, j ≤ p.rl → x'.st j = (baseN m.len j : Int) := fun j hj => by
    rw [HF.out.st j hj]
    exact (J36 p m HM0.out.2.1 j (by rw [HM0.out.1]; exact hj)).symm
   have HT := J10 (Jim w6 M ra p.rl rc _ x' q' se' (baseN m.len) H6.out.1 (by rw [← HM0.out.1]; exact HM0.out.2.2.2.1) hst2 (fun j hj => by have := (HM0.out.2.2.1 j (by rw [HM0.out.1]; exact hj)).1; simp only [baseN]; omega) (fun j hj => by have := (HM0.out.2.2.1 j (by rw [HM0.out.1]; exact hj)).2; simp only [baseN]; omega) (fun j hj => HM0.out.2.2.2.2.2.2.1 j (by rw [HM0.out.1]; exact hj)) HF.out.short)
   clear hst2
   go_wp2_with (fail)
   refine HT.out.mono ?_
   rintro e w7 ⟨v, rfl, hsh, b7⟩
   have hb7 : Below mb w4 w7 := Below.trans Hst.out.2.2.2.2.1 (Below.mono (Below.trans H6.out.2.1 b7) (Nat.le_of_lt Hst.out.2.2.2.2.2))
   have HSH := J10 hsh
   have hlt1 : w.heap.size + 1 < M := by have := HMM.out; omega
   have hlt2 : w.heap.size + 1 < mb := by have := HMM.out; omega
   obtain ⟨sv, lm, hv, hs1, hs2⟩ := hsh (w.heap.size + 1) w7 hlt1 (J0r _ _)
   clear hsh
   dsimp only at hv
   subst hv
   have HB7 := J10 (And.intro hb7 (And.intro hlt1 hlt2))
   obtain ⟨sa', sb', so', sc', rfl, _, _, _⟩ := hs1
   have kept : ∀ j v, Wr w4 (w.heap.size + 1) j v → Wr w7 (w.heap.size + 1) j v := fun j v hv => ⟨by rw [Below.cell hb7 hlt2]; exact hv.1, by rw [World.frozen?_of_block (Below.block hb7 _ hlt2)]; exact hv.2⟩
   obtain ⟨y0, g0⟩ := kept _ _ HZ.out.1
   obtain ⟨y1, g1⟩ := kept _ _ HZ.out.2.1
   obtain ⟨y2, g2⟩ := kept _ _ HZ.out.2.2.1
   obtain ⟨y3, g3⟩ := kept _ _ HZ.out.2.2.2.1
   obtain ⟨y4, g4⟩ := kept _ _ HZ.out.2.2.2.2
   clear hs2 hb7 b7 kept hlt1 hlt2 HT
   obtain ⟨la, hla⟩ : ∃ la, lm.ma = la := ⟨_, rfl⟩
   obtain ⟨lc, hlc⟩ : ∃ lc, lm.mc = lc := ⟨_, rfl⟩
   rw [hla, hlc] at HSH ⊢
   clear hla hlc
   go_wp2
   refine bodyPost_ret (v := .tuple #[.agg #[Value.int .i64 x'.fin, Value.int .i64 x'.val, Value.int .i64 x'.steps, .slice sa' se'.length sc', .slice la p.rl lc], Value.int .i64 0]) (by simp [results, Tryz.results13, go_sem, *]) rfl ?_
   have hg : w7.grownBy (((((w7.setCell ⟨w.heap.size + 1, 0, none⟩ (Value.int .i64 x'.fin)).setCell ⟨w.heap.size + 1, 1, none⟩ (Value.int .i64 x'.val)).setCell ⟨w.heap.size + 1, 2, none⟩ (Value.int .i64 x'.steps)).setCell ⟨w.heap.size + 1, 3, none⟩ (.slice sa' se'.length sc')).setCell ⟨w.heap.size + 1, 4, none⟩ (.slice la p.rl lc)) (some (w.heap.size + 1)) := J0p (J0p (J0p (J0p (J0p (J0r _ _) _ _) _ _) _ _) _ _) _ _
   have hsh := HSH.out (w.heap.size + 1) _ HB7.out.2.1 hg
   have esh : (⟨x'.fin, x'.val, x'.steps, se', ⟨p.rl, fun j => baseN m.len (j + 1) - baseN m.len j, fun j i => (if q'.ahead = true then q'.bw else x'.wd) (baseN m.len j + i)⟩⟩ : Sh) = ⟨R.fin, R.val, R.steps, R.seen, ⟨p.rl, fun j => baseN m.len (j + 1) - baseN m.len j, fun j i => (if q'.ahead = true then q'.bw else x'.wd) (baseN m.len j + i)⟩⟩ := by rw [HF.out.fin, HF.out.val, HF.out.steps, HF.out.seen]
   rw [esh] at hsh
   have hmore : More w w7 := Below.trans Hm3.out (Below.mono HB7.out.1 (by have := HB7.out.2.2; omega))
   refine HP.out _ _ ⟨.agg #[Value.int .i64 x'.fin, Value.int .i64 x'.val, Value.int .i64 x'.steps, .slice sa' se'.length sc', .slice la p.rl lc], _, rfl, hsh, HM0.out.1.symm, fun j => by simp only [baseN]; omega, fun j hj i hi => ?_, hmore.grownBy hg (fun b hb => by have := Option.some.inj hb; omega)⟩
   refine HF.out.wd _ ?_
   rw [HM0.out.2.2.2.2.2.1]
   have := J3e m.len (j + 1) m.ml hj
   simp only [baseN] at this
   omega
  ·have hb46 : Below mb w4 w6 := Below.trans Hst.out.2.2.2.2.1 (Below.mono H6.out.2.1 (Nat.le_of_lt Hst.out.2.2.2.2.2))
   have hscx : ScAt w6 mb q'.sc (s.noneLeft p.cl).script := by
    rw [H6.out.2.2.2.1, hsc]
    exact hphi.below (Below.mono H6.out.2.1 (Nat.le_of_lt Hst.out.2.2.2.2.2))
   have hB : Bgn p fuel w6 M mb x' q' f (s.noneLeft p.cl) k := ⟨hsim, by rw [H6.out.2.2.1]; exact Hst.out.2.2.1, Hst.out.2.2.2.2.2, Hst.out.2.2.2.1.below H6.out.2.1 Hst.out.2.2.2.2.2, hscx, hinv, by omega, HS0.out.2.2.2.2, HM0.out.2.2.2.2.2.2.2.1, HM0.out.2.2.2.2.2.2.2.2.1, by rw [← HM0.out.1]; exact HM0.out.2.2.2.1⟩
   have hcode := HP0.out.1.code (s.noneLeft p.cl).pl.at_ hat
   have hcbw : cb < w.heap.size := J0x hcode.1
   have hcbm : cb < mb := by have := HMM.out; omega
   have cellsB : ∀ (o : Nat) (v : Value), w.cell? ⟨cb, o, none⟩ = some v → w6.cell? ⟨cb, o, none⟩ = some v := fun o v hc => by
    rw [Below.cell hb46 hcbm]; exact Hm3.out.cell hc
   rw [hse] at H6
   have HSp := J10 (Jaj ra rc cb co cc hB hat HM0.out.2.2.2.2.1.2 (by have := Hst.out.2.2.2.2.2; omega) (HP0.out.2.1 _ hat) (HP0.out.2.2 _ hat) ⟨cellsB _ _ hcode.1, cellsB _ _ hcode.2.1, cellsB _ _ hcode.2.2.1, cellsB _ _ hcode.2.2.2.1, cellsB _ _ hcode.2.2.2.2⟩ H6.out.1)
   have HWW := J10 (And.intro hw (And.intro hat hb46))
   clear hw hat hsim hse hinv hsc hphi hB hcode hcbw hcbm cellsB hscx hb46 hkg
   go_wp2_with (fail)
   refine HSp.out.mono ?_
   rintro e w8 ⟨rfl, b8, x2, q2, se2, ht, r8⟩
   have hnx := Jiv HS0.out.2.2.2.2 HWW.out.1 HWW.out.2.1 (HP0.out.2.1 _ HWW.out.2.1) (HP0.out.2.2 _ HWW.out.2.1) ht
   have H8 := J10 (And.intro r8 (And.intro (Below.trans HWW.out.2.2 b8) hnx))
   clear r8 b8 ht hnx HSp
   go_wp2
   go_roundg g'
   case measure => omega
   case rel =>
    obtain ⟨f', h1, h2, h3⟩ := H8.out.2.2
    refine ⟨{ x2 with mo := x'.mo }, q2, se2, f', H8.out.1, ?_, h1, h2, H8.out.2.1, ?_⟩
    ·show x'.mo = []
     rw [H6.out.2.2.2.2]; exact Hst.out.2.1
    ·rcases h3 with ⟨s', k', h4, h5⟩ | ⟨h4, h5, h6⟩
     ·exact .inl ⟨s', k', h4.mos _, h5⟩
     ·exact .inr ⟨h4, h5, h6.mos _⟩
theorem Jc1 (p : Prg) (l : Loc) (m : Mem) (ml : MLoc) (sa : Option Addr) (sb so sn sc : Nat) (L : List Int) (fuel : Int) (w : World) (hp : PIn w p l) (hfit : p.Fit) (hm : MRaw w m ml) (hwd : ∀ j, j < m.ml → ∀ i, i < m.len j → B64 (m.wd j i)) (hL : L.length = sn) (hcap : sn ≤ sc) (hsin : SIn w sa sb so L) :
  Calls Tryz.prog 13 #[.agg #[.slice l.ra p.rl l.rc, .slice l.ca p.cl l.cc], .slice ml.ma m.ml ml.mc, .slice sa sn sc, V fuel] w (Jlt p m L fuel w) := by
 have bad : ∀ code : Int, ¬ code = 0 → Wr1 p m L fuel code → ∀ e w', e = .returned (.tuple #[.agg #[V 0, V 0, V 0, .slice none 0 0, .slice none 0 0], V code]) ∧ More w w' → Jlt p m L fuel w e w' := by
  rintro code hc hw e w' ⟨rfl, mm⟩
  exact ⟨0, 0, 0, code, none, 0, 0, none, 0, 0, rfl, hw, fun h => absurd h hc, mm⟩
 by_cases hok : p.Ok 8000 10 ∧ J2g p.rl p.log m.ml m.len
 ·by_cases hf : fuel < 0 ∨ 40000 < fuel
  ·exact (J57 p l ml.ma m.ml ml.mc _ fuel 3 w (by decide) (fun w2 m2 => J63 p l ml.ma m.ml ml.mc ml.mb ml.mo ml.A m.len ml.C fuel w2 (hp.more m2) hm.hm (hm.lists.more m2) hok.1 hok.2 hf)).mono (bad 3 (by decide) (.inr (.inl ⟨hok, .inl hf, rfl⟩)))
  ·obtain ⟨f, rfl⟩ : ∃ f : Nat, fuel = f := ⟨fuel.toNat, by omega⟩
   obtain ⟨hpos, h6⟩ := J9w hok.1 hok.2
   have hin := hm.in_ h6 (fun i hi => (hpos i hi).2)
   have hn : ∀ i, i < p.cl → B64 (p.ins i).n := fun i hi => (hfit.ins i hi).2.2.2.2
   by_cases hsok : ScOk L
   ·refine (J88 p l m ml sa sb so sn sc L f w hp hin hok.1 hn hok.2 hwd (by omega) hL hcap hsin hsok).mono ?_
    rintro e w' ⟨v, mm, rfl, ⟨sv, lv, rfl, hs, _⟩, _, _, _, m2⟩
    have hs0 := hs
    obtain ⟨a, b, o, c, rfl, _⟩ := hs
    exact ⟨_, _, _, _, _, _, _, _, _, _, rfl, .inr (.inr ⟨hok, hf, hsok, rfl⟩), fun _ => ⟨rfl, hs0⟩, m2⟩
   ·refine (J89 p l ml.ma m.ml ml.mc sa sb so sn sc L f w hL hsin hsok (fun w2 m2 => ?_)).mono (bad 3 (by decide) (.inr (.inl ⟨hok, .inr hsok, rfl⟩)))
    refine (Jdh p l m ml f w2 (hp.more m2) (hin.more m2) hok.1 hok.2 hpos (by omega) (by omega)).mono ?_
    rintro e w' ⟨c, W, S, rfl, mcc, hS, hW, m3⟩
    exact ⟨c, _, _, _, rfl, rfl, rfl, rfl, rfl, mcc, rfl, m3⟩
 ·exact (J57 p l ml.ma m.ml ml.mc _ fuel 2 w (by decide) (fun w2 m2 => J71 p l ml.ma m.ml ml.mc ml.mb ml.mo ml.A m.len ml.C fuel w2 (hp.more m2) hm.hm (hm.lists.more m2) hok)).mono (bad 2 (by decide) (.inl ⟨hok, rfl⟩))
end
end Go.Proofs.YtephohhigbfafaaGreatDoor
