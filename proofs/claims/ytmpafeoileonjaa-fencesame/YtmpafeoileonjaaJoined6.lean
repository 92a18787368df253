/-
  The texts PlayNeg, CkSafe, CvTold, CkCopy, KnRef, KnRefA, KnRefB, KnRefC, KnRefOp, CkLess, CkJoin, CkLead, CkLeadA, CkLeadB, one behind the other, with what is used of them.
-/
import Derived.Test.YtmpafeoileonjaaJoined5
import Derived.Test.YtmpafeoileonjaaJoined0
import Derived.Test.YtmpafeoileonjaaJoined3
import Derived.Test.YtmpafeoileonjaaJoined4
import Derived.Test.YtmpafeoileonjaaProg
import Derived.Deep.LoopGhost
namespace Go.Proofs.Ytmpafeoileonjaa
section
open Go.RowKit
set_option linter.unusedSimpArgs false
set_option linter.unusedVariables false
set_option maxHeartbeats 2000000 in
set_option maxRecDepth 8000 in
theorem ref_play_neg (p : Prg) (l : Loc) (m : Mem) (ml : MLoc) (z : Int) (hz : z < 0) (w : World) (hp : PIn w p l) (hm : MIn w m ml) (hok : p.Ok 8000 10) (hfit : p.Fit) (hml : m.ml = p.rl) (hlen : ∀ i, i < m.ml → (m.len i : Int) = wordsI (p.log i))
  (hwd : ∀ j, j < m.ml → ∀ i, i < m.len j → B64 (m.wd j i)) :
  Calls Try.prog 13 #[.agg #[.slice l.ra p.rl l.rc, .slice l.ca p.cl l.cc], .slice ml.ma m.ml ml.mc, .int .i64 z] w fun e w' => ∃ v, e = .returned v ∧ ShownAt w' v (playI p m 0) ∧ More w w' := by
 obtain ⟨ra, rb, ro, rc, ca, cb, co, cc⟩ := l
 dsimp only
 have H : Hid (PIn w p ⟨ra, rb, ro, rc, ca, cb, co, cc⟩ ∧ MIn w m ml ∧ p.Ok 8000 10 ∧ p.Fit ∧ m.ml = p.rl ∧ (∀ i, i < m.ml → (m.len i : Int) = wordsI (p.log i)) ∧ (∀ j, j < m.ml → ∀ i, i < m.len j → B64 (m.wd j i))) := ⟨hp, hm, hok, hfit, hml, hlen, hwd⟩
 have Hlen : Hid (m.ml ≤ 6 ∧ ∀ i, i < m.ml → 0 < m.len i ∧ m.len i ≤ 64) := by
  refine ⟨by rw [hml]; exact hok.1.1, fun i hi => ?_⟩
  have h1 := hlen i hi
  have h2 := hok.1.2 i (by rw [← hml]; exact hi)
  have h3 := two_pow_le (k := (p.log i).toNat) (by omega)
  unfold wordsI at h1
  omega
 obtain ⟨i2, hi2, hz0, hz1, hz2⟩ := info_parts info47
 have Hi : Hid (Try.prog.info? 73 = some i2 ∧ i2.zero = some (.agg #[.int .i64 0, .int .i64 0, .int .i64 0]) ∧ i2.size = 3 ∧ i2.bytes = 24) := ⟨hi2, hz0, hz1, hz2⟩
 clear hi2 hz0 hz1 hz2
 obtain ⟨R, HR⟩ : ∃ R, Hid (playI p m 0 = R) := ⟨_, rfl⟩
 rw [HR.out]
 clear hp hm hok hfit hml hlen hwd
 go_enter Try.func13, Try.ntmps13
 go_wp2_with (fail)
 have m0 : More w ((w.alloc (.cells #[.slice ra p.rl rc, .slice ca p.cl cc] 25)).alloc (.cells #[.int .i64 0, .int .i64 0, .int .i64 0, .slice none 0 0, .slice none 0 0] 39)) := ((More.refl _).alloc _ _).alloc _ _
 refine (ref_copy m ml _ (H.out.2.1.more m0) Hlen.out.1 Hlen.out.2).mono ?_
 rintro e w1 ⟨mv, G, C, rfl, cp, m1⟩
 obtain ⟨va, vc, rfl⟩ := own_form cp.own
 have Hcp : Hid (CpAt w1 (w.heap.size + 2) m m.ml (.slice va m.ml vc) G C) := (by simpa using cp : CpAt w1 (w.heap.size + 2) m m.ml (.slice va m.ml vc) G C)
 have Hm1 : Hid (More ((w.alloc (.cells #[.slice ra p.rl rc, .slice ca p.cl cc] 25)).alloc (.cells #[.int .i64 0, .int .i64 0, .int .i64 0, .slice none 0 0, .slice none 0 0] 39)) w1) := m1
 clear cp m1 m0
 have hmk := run_make_row' (P := Try.prog) 70 2 (.int .i64 0) 8 Try.underlying70 info2 rfl .i64 .i64 10 (by decide) (by decide)
 push_cast at hmk
 go_wp2
 obtain ⟨mb, mc, hmo⟩ := Hcp.out.own_
 have hs1 : w.heap.size + 2 ≤ w1.heap.size := by have := Hm1.out.size; simpa using this
 have HP0 : Hid (PAt w ((w1.alloc (.cells #[.int .i64 0, .int .i64 0, .int .i64 0, .slice none 0 0, .slice va m.ml vc] 39)).alloc (.cells (madeCells #[.int .i64 0] 10) 2)) (.slice ra p.rl rc) (.slice ca p.cl cc) w1.heap.size ⟨0, fun _ => 0, m, []⟩ 0 (.slice none 0 0) (.slice va m.ml vc) mb mc G C) :=
  play_start Hm1.out hs1 hmo
 clear hmk hmo
 go_loopg [9] 0 (fun g i wr => ∃ (k : Nat) (s : St) (sv : Value), k + g = 0 ∧ i = .int .i64 s.at_ ∧ PAt w wr (.slice ra p.rl rc) (.slice ca p.cl cc) w1.heap.size s k sv (.slice va m.ml vc) mb mc G C ∧ Inv p m k s ∧ runI p g k s = R)
 case atStart => exact ⟨0, ⟨0, fun _ => 0, m, []⟩, .slice none 0 0, by omega, rfl, HP0.out, ⟨Nat.zero_le _, fun _ _ => B64_zero, rfl, fun _ => rfl, H.out.2.2.2.2.2.2, by simp⟩, HR.out⟩
 case round =>
  obtain ⟨k, s, sv, hkg, rfl, hP, hI, hrun⟩ := hrel
  obtain ⟨at_, r, mm, se⟩ := s
  obtain ⟨sa, sc, rfl⟩ := own_form hP.seen
  have HP : Hid (PAt w wr (.slice ra p.rl rc) (.slice ca p.cl cc) w1.heap.size ⟨at_, r, mm, se⟩ k (.slice sa se.length sc) (.slice va m.ml vc) mb mc G C) := hP
  have HI : Hid (Inv p m k ⟨at_, r, mm, se⟩) := hI
  have Hrun : Hid (runI p gk k ⟨at_, r, mm, se⟩ = R) := hrun
  clear hP hI hrun HP0 hs1
  obtain ⟨b0, b1, o0, o1, o2, o3, o4, s0, s1, s2, s3, s4⟩ := HP.out.cells
  have hlow := HP.out.low
  have n1 : ¬ w1.heap.size = w.heap.size + 1 := by omega
  have n2 : ¬ w.heap.size + 1 = w1.heap.size := by omega
  have n3 : ¬ w1.heap.size = w.heap.size := by omega
  have n4 : ¬ w.heap.size = w1.heap.size := by omega
  clear hlow
  cases gk with
  | zero =>
   obtain rfl : k = 0 := by omega
   have hz0 : decide ((0 : Int) < z) = false := by simp; omega
   have hz1 : ¬ (0 : Int) < z := by omega
   go_wp2
   refine bodyPost_ret (v := .agg #[.int .i64 0, .int .i64 0, .int .i64 0, .slice sa se.length sc, .slice va m.ml vc]) (by simp [results, Try.results13, go_sem, *]) rfl ⟨_, rfl, ?_⟩
   rw [← Hrun.out]
   exact HP.out.ends (by have := HI.out.seen; dsimp only at *; omega) (by have := HI.out.ml; have := Hlen.out.1; dsimp only at *; omega) (fun i hi => by have := HI.out.len i; have := (Hlen.out.2 i (by have := HI.out.ml; dsimp only at *; omega)).2; dsimp only at *; omega) HI.out.ml.symm (w0 := wr) (grown_refl _ _) (gr_set (gr_set (gr_set (gr_set (gr_set (grown_refl _ _) _ _) _ _) _ _) _ _) _ _) 0 0 0
  | succ g => omega

/-- Whatever the fuel, up to 40000. -/
theorem ref_play_int (p : Prg) (l : Loc) (m : Mem) (ml : MLoc) (fuel : Int) (w : World) (hp : PIn w p l) (hm : MIn w m ml) (hok : p.Ok 8000 10) (hfit : p.Fit) (hml : m.ml = p.rl) (hlen : ∀ i, i < m.ml → (m.len i : Int) = wordsI (p.log i))
  (hwd : ∀ j, j < m.ml → ∀ i, i < m.len j → B64 (m.wd j i)) (hfuel : fuel ≤ 40000) :
  Calls Try.prog 13 #[.agg #[.slice l.ra p.rl l.rc, .slice l.ca p.cl l.cc], .slice ml.ma m.ml ml.mc, .int .i64 fuel] w fun e w' => ∃ v, e = .returned v ∧ ShownAt w' v (playI p m fuel.toNat) ∧ More w w' := by
 by_cases h : fuel < 0
 ·rw [show fuel.toNat = 0 by omega]
  exact ref_play_neg p l m ml fuel h w hp hm hok hfit hml hlen hwd
 ·obtain ⟨f, rfl⟩ : ∃ f : Nat, fuel = f := ⟨fuel.toNat, by omega⟩
  rw [Int.toNat_natCast]
  exact ref_play p l m ml f w hp hm hok hfit hml hlen hwd (by omega)
end
section
open Go.RowKit
set_option linter.unusedVariables false
theorem hasI_zero (k : Int) : hasI k 0 = true := by
 unfold hasI
 rw [decide_eq_true_eq]
 exact .inr ⟨Int.le_refl _, by rw [← pow_castI]; have := Nat.two_pow_pos (bnd k).toNat; omega⟩
theorem hasI_all (n : Int) : hasI 17 n = true := hasI_any (bnd_id (by omega) (by omega))

/-- A number is as a Known says. -/
def Kn.has (k : Kn) (n : Int) : Prop := hasI k.b n = true
theorem Kn.has_mono {x y : Kn} (h : Kn.le x y) {n : Int} (hn : B64 n) (k : x.has n) : y.has n := hasI_mono hn.1 hn.2 k h.1
theorem Kn.has_less {x y : Kn} {n m : Int} (hn : B64 n) (hm : B64 m) (hx : x.has n) (hy : y.has m) (h : toU n ≤ toU m) : (Kn.less x y).has n := hasI_less hn.1 hn.2 hm.1 hm.2 hx hy h
theorem Kn.has_op (o : Int) {x y : Kn} {n m : Int} (hn : B64 n) (hm : B64 m) (hx : x.has n) (hy : y.has m) : (Kn.op o x y).has (opI o n m) := known_op o hn.1 hn.2 hm.1 hm.2 hx hy
theorem Kn.has_of {n : Int} (hn : B64 n) : (Kn.of n).has n := hasI_own hn.1 hn.2
theorem Kn.has_index {x : Kn} {n m : Int} (hn : B64 n) (hm : B64 m) (hx : x.has n) : (Kn.index x m).has (wrap64 (n + m)) := by
 unfold Kn.index
 split
 ·exact hasI_all _
 ·have := Kn.has_op 1 hn hm hx (Kn.has_of hm)
  rw [opI_1] at this; exact this

/-- All registers are as is known of them. -/
def HasS (k : KS) (r : Nat → Int) : Prop := ∀ j, j < 8 → (k j).has (r j)
theorem HasS.mono {k t : KS} (h : leS k t) {r : Nat → Int} (hr : ∀ j, j < 8 → B64 (r j)) (q : HasS k r) : HasS t r := fun j hj => Kn.has_mono (h j hj) (hr j hj) (q j hj)
theorem HasS.set {k : KS} {r : Nat → Int} (h : HasS k r) (a : Int) {v : Kn} {n : Int} (q : v.has n) : HasS (setK k a v) (setR r a n) := fun j hj => by
 unfold setK setR
 by_cases e : j = a.toNat
 ·rw [if_pos e, if_pos e]; exact q
 ·rw [if_neg e, if_neg e]; exact h j hj
theorem HasS.know {k : KS} {r : Nat → Int} (h : HasS k r) (a : Int) {v : Kn} (q : v.has (r a.toNat)) : HasS (setK k a v) r := fun j hj => by
 unfold setK
 by_cases e : j = a.toNat
 ·rw [if_pos e, e]; exact q
 ·rw [if_neg e]; exact h j hj

theorem opI_b64 (o a b : Int) : B64 (opI o a b) := by
 unfold opI
 repeat' split
 all_goals first | exact B64_wrap _ | exact B64_zero

section
variable {p : Prg} {i : Ins} {k : KS} {r : Nat → Int}

theorem has_first (hi : InsOk p.rl p.log p.cl 8 i) (h8 : i.op = 8) (hr : ∀ j, j < 8 → B64 (r j)) (h : HasS k r) (q : toU (r i.a.toNat) ≤ toU (r i.b.toNat)) : HasS (firstK i k) r := by
 have hg := regs_of hi
 have ha := hg.1 (by omega); have hb := hg.2.1 (by omega)
 exact h.know i.a (Kn.has_less (hr _ ha) (hr _ hb) (h _ ha) (h _ hb) q)
theorem has_second (hi : InsOk p.rl p.log p.cl 8 i) (h8 : i.op = 8) (hr : ∀ j, j < 8 → B64 (r j)) (h : HasS k r) (q : toU (r i.b.toNat) ≤ toU (r i.a.toNat)) : HasS (secondK i k) r := by
 have hg := regs_of hi
 have ha := hg.1 (by omega); have hb := hg.2.1 (by omega)
 exact h.know i.b (Kn.has_less (hr _ hb) (hr _ ha) (h _ hb) (h _ ha) q)
theorem has_both (hi : InsOk p.rl p.log p.cl 8 i) (h8 : i.op = 8) (hr : ∀ j, j < 8 → B64 (r j)) (h : HasS k r) (q : toU (r i.a.toNat) = toU (r i.b.toNat)) : HasS (bothK i k) r := by
 have hg := regs_of hi
 have ha := hg.1 (by omega); have hb := hg.2.1 (by omega)
 exact (has_first hi h8 hr h (Nat.le_of_eq q)).know i.b (Kn.has_less (hr _ hb) (hr _ ha) (h _ hb) (h _ ha) (Nat.le_of_eq q.symm))

theorem cond_of (hi : InsOk p.rl p.log p.cl 8 i) (h8 : i.op = 8) : i.c = 1 ∨ i.c = 2 ∨ i.c = 3 ∨ i.c = 4 := by
 unfold InsOk at hi
 simp [h8] at hi
 omega

theorem has_yes (hi : InsOk p.rl p.log p.cl 8 i) (h8 : i.op = 8) (hr : ∀ j, j < 8 → B64 (r j)) (h : HasS k r) (q : holdsI i.c (r i.a.toNat) (r i.b.toNat) = true) : HasS (yesK i k) r := by
 unfold yesK
 rcases cond_of hi h8 with hc | hc | hc | hc <;> rw [hc] at q ⊢ <;> simp [holdsI] at q ⊢
 ·exact has_both hi h8 hr h q
 ·exact h
 ·exact has_first hi h8 hr h (Nat.le_of_lt q)
 ·exact has_second hi h8 hr h q
theorem has_no (hi : InsOk p.rl p.log p.cl 8 i) (h8 : i.op = 8) (hr : ∀ j, j < 8 → B64 (r j)) (h : HasS k r) (q : ¬ holdsI i.c (r i.a.toNat) (r i.b.toNat) = true) : HasS (noK i k) r := by
 unfold noK
 rcases cond_of hi h8 with hc | hc | hc | hc <;> rw [hc] at q ⊢ <;> simp [holdsI] at q ⊢
 ·exact h
 ·exact has_both hi h8 hr h q
 ·exact has_second hi h8 hr h q
 ·exact has_first hi h8 hr h (Nat.le_of_lt q)

theorem mask_b64 {x n : Int} (h1 : 1 ≤ n) (h2 : n ≤ 64) : wrap64 (n - 1) = n - 1 ∧ B64 (n - 1) := by
 refine ⟨?_, ?_⟩
 ·unfold wrap64; omega
 ·unfold B64; omega
theorem has_mask {x : Kn} {n m : Int} (hn : B64 n) (hx : x.has n) (h1 : 1 ≤ m) (h2 : m ≤ 64) (q : ¬ (n < 0 ∨ m ≤ n)) : (Kn.less x (Kn.of (wrap64 (m - 1)))).has n := by
 obtain ⟨e, hb⟩ := mask_b64 (x := n) h1 h2
 rw [e]
 refine Kn.has_less hn hb hx (Kn.has_of hb) ?_
 unfold toU; omega

/-- An instruction of registers alone: what is known behind it is so. -/
theorem has_regs (hi : InsOk p.rl p.log p.cl 8 i) (hn : B64 i.n) (h3 : ¬ i.op = 3) (h4 : ¬ i.op = 4) (h5 : ¬ i.op = 5) (h6 : ¬ i.op = 6) (h7 : ¬ i.op = 7) (h8 : ¬ i.op = 8) (h9 : ¬ i.op = 9)
  (hr : ∀ j, j < 8 → B64 (r j)) (h : HasS k r) : HasS (nextK p i k) (regsI r i).1 := by
 have hg := regs_of hi
 unfold nextK regsI
 by_cases q1 : i.op = 1
 ·rw [if_pos q1, if_pos q1]; exact h.set _ (Kn.has_of hn)
 rw [if_neg q1, if_neg q1]
 by_cases q2 : i.op = 2
 ·rw [if_pos q2, if_pos q2]; exact h.set _ (h _ (hg.2.1 (by omega)))
 rw [if_neg q2, if_neg q2]
 by_cases q10 : i.op = 10
 ·rw [if_pos q10, if_pos q10]
  have hb := hg.2.1 (by omega)
  exact h.set _ (Kn.has_index (hr _ hb) hn (h _ hb))
 rw [if_neg q10, if_neg q10, if_neg (by omega)]
 by_cases q11 : i.op = 11
 ·rw [if_pos q11, if_pos q11]
  have ha := hg.1 (by omega)
  have hb : 1 ≤ i.n ∧ i.n ≤ 64 := by unfold InsOk at hi; simp [q11] at hi; omega
  by_cases q : r i.a.toNat < 0 ∨ i.n ≤ r i.a.toNat
  ·rw [if_pos q]; exact h.set _ (hasI_zero _)
  ·rw [if_neg q]; exact h.know _ (has_mask (hr _ ha) (h _ ha) hb.1 hb.2 q)
 rw [if_neg q11, if_neg q11]
 by_cases q12 : i.op = 12
 ·rw [if_pos (.inr (.inr q12)), if_pos q12]; exact h
 rw [if_neg (by omega), if_neg q12]
 have hb := hg.2.1 (by omega); have hc := hg.2.2.1 (by omega)
 exact h.set _ (Kn.has_op _ (hr _ hb) (hr _ hc) (h _ hb) (h _ hc))
end

theorem setR_b64 {r : Nat → Int} (h : ∀ j, j < 10 → B64 (r j)) (a : Int) {v : Int} (hv : B64 v) : ∀ j, j < 10 → B64 (setR r a v j) := fun j hj => by
 unfold setR; split
 ·exact hv
 ·exact h j hj
theorem regsI_b64 {p : Prg} {r : Nat → Int} {i : Ins} (hi : InsOk p.rl p.log p.cl 8 i) (h : ∀ j, j < 10 → B64 (r j)) (hn : B64 i.n) : ∀ j, j < 10 → B64 ((regsI r i).1 j) := by
 have hg := regs_of hi
 unfold regsI
 by_cases q1 : i.op = 1
 ·rw [if_pos q1]; exact setR_b64 h _ hn
 rw [if_neg q1]
 by_cases q2 : i.op = 2
 ·rw [if_pos q2]; exact setR_b64 h _ (h _ (by have := hg.2.1 (by omega); omega))
 rw [if_neg q2]
 by_cases q10 : i.op = 10
 ·rw [if_pos q10]; exact setR_b64 h _ (B64_wrap _)
 rw [if_neg q10]
 by_cases q11 : i.op = 11
 ·rw [if_pos q11]
  dsimp only
  split
  ·exact setR_b64 h _ B64_zero
  ·exact h
 rw [if_neg q11]
 by_cases q12 : i.op = 12
 ·rw [if_pos q12]; exact h
 ·rw [if_neg q12]; exact setR_b64 h _ (opI_b64 _ _ _)

/-- What holds of every state that a run of a program without fault comes to. -/
structure Sound (p : Prg) (m : Mem) (l : KV) (s : St) : Prop where
 at_ : s.at_ < p.cl
 kn : ∃ k, l s.at_ = some k ∧ HasS k s.r
 r : ∀ j, j < 10 → B64 (s.r j)
 ml : s.m.ml = m.ml
 len : ∀ j, s.m.len j = m.len j
 wd : ∀ j, j < m.ml → ∀ i, i < m.len j → B64 (s.m.wd j i)

/-- What is asked of a program and a memory. -/
structure Good (p : Prg) (m : Mem) (l : KV) : Prop where
 ok : p.Ok 200 8
 n : ∀ i, i < p.cl → B64 (p.ins i).n
 fits : FitsOk p.rl p.log m.ml m.len
 known : Known p l
 check : (checkK p l).1 = 0

section
variable {p : Prg} {m : Mem} {l : KV} {s : St}

theorem Good.fault (g : Good p m l) {k : KS} (ha : s.at_ < p.cl) (e : l s.at_ = some k) : outK p s.at_ = false ∧ boundK p (p.ins s.at_) k = false ∧ secretK p (p.ins s.at_) k = false := by
 have h := check_ok g.check ha e
 unfold faultK at h
 cases h1 : (outK p s.at_ || boundK p (p.ins s.at_) k)
 ·cases h2 : secretK p (p.ins s.at_) k
  ·have := Bool.or_eq_false_iff.1 h1; exact ⟨this.1, this.2, rfl⟩
  ·rw [h1, h2] at h; simp at h
 ·rw [h1] at h; simp at h
theorem Good.next (g : Good p m l) {k : KS} (ha : s.at_ < p.cl) (e : l s.at_ = some k) (h7 : ¬ (p.ins s.at_).op = 7) (h9 : ¬ (p.ins s.at_).op = 9) : s.at_ + 1 < p.cl := by
 have h := (g.fault ha e).1
 unfold outK at h
 simp [h7, h9] at h
 omega

/-- The word is there. -/
theorem Good.word (g : Good p m l) (h : Sound p m l s) {k : KS} (e : l s.at_ = some k) (hk : HasS k s.r) (hop : (p.ins s.at_).op = 3 ∨ (p.ins s.at_).op = 4 ∨ (p.ins s.at_).op = 5 ∨ (p.ins s.at_).op = 6) :
  ¬ (idxI s.r (p.ins s.at_) < 0 ∨ (s.m.len (p.ins s.at_).c.toNat : Int) ≤ idxI s.r (p.ins s.at_)) ∧ (p.ins s.at_).c.toNat < p.rl ∧ (p.ins s.at_).c.toNat < m.ml := by
 have hi := g.ok.2.2.2 s.at_ h.at_
 have hn := g.n s.at_ h.at_
 have hf := g.fault h.at_ e
 have hg := regs_of hi
 rw [h.len]
 generalize p.ins s.at_ = i at *
 have hc : Rgn p.rl i.c := by
  unfold InsOk at hi
  rcases hop with q | q | q | q <;> simp [q] at hi
  ·exact hi.2.2
  ·exact hi.2.2
  ·exact hi.2.2.1
  ·exact hi.2.2.1
 have hcr : i.c.toNat < p.rl := by unfold Rgn at hc; omega
 have hlen := g.fits.2.2 i.c.toNat hcr
 have hlog := g.fits.1.2 i.c.toNat hcr
 refine ⟨?_, hcr, by rw [g.fits.2.1]; exact hcr⟩
 rw [hlen]
 unfold wordsI
 by_cases q : i.op = 5 ∨ i.op = 6
 ·have hw : Wrd p.log i.c i.n := by
   unfold InsOk at hi
   rcases q with q | q <;> simp [q] at hi
   ·exact hi.2.2.2
   ·exact hi.2.2.2
  unfold Wrd at hw
  unfold idxI
  rw [if_pos q]
  omega
 ·have h34 : i.op = 3 ∨ i.op = 4 := by omega
  have hb := hg.2.1 (by omega)
  have hbd := hf.2.1
  unfold boundK at hbd
  have hn0 : 0 ≤ i.n ∧ (Kn.index (k i.b.toNat) i.n).b ≤ p.log i.c.toNat := by
   rcases h34 with q3 | q3 <;> simp [q3] at hbd <;> omega
  unfold idxI
  rw [if_neg q]
  have hx := Kn.has_index (h.r i.b.toNat (by omega)) hn (hk _ hb)
  have hnm := Kn.norm_index (k i.b.toNat) i.n
  unfold Kn.has at hx
  have hs := hasI_some (by rw [Kn.bnd_norm hnm]; omega) hx
  rw [Kn.bnd_norm hnm] at hs
  have hp : 2 ^ (Kn.index (k i.b.toNat) i.n).b.toNat ≤ 2 ^ (p.log i.c.toNat).toNat := Nat.pow_le_pow_right (by decide) (by omega)
  have h1 := pow_castI (Kn.index (k i.b.toNat) i.n).b.toNat
  have h2 := pow_castI (p.log i.c.toNat).toNat
  omega

/-- A step of a program without fault ends the run by EndDone, or leads to such a state again. -/
theorem Good.step (g : Good p m l) (h : Sound p m l s) : (∃ s' v, stepI p s = (s', some (1, v)) ∧ (p.ins s.at_).op = 9 ∧ s' = ⟨s.at_ + 1, s.r, s.m, s.seen ++ [⟨1, s.at_, 0⟩]⟩ ∧ v = s.r (p.ins s.at_).a.toNat) ∨ ∃ s', stepI p s = (s', none) ∧ Sound p m l s' := by
 obtain ⟨k, e, hk⟩ := h.kn
 have hi := g.ok.2.2.2 s.at_ h.at_
 have hn := g.n s.at_ h.at_
 have hl := g.known.closed.leads s.at_ k h.at_ e
 have hr8 : ∀ j, j < 8 → B64 (s.r j) := fun j hj => h.r j (by omega)
 by_cases h7 : (p.ins s.at_).op = 7
 ·refine .inr ⟨_, by unfold stepI; rw [if_pos h7], ?_⟩
  have hp : Plc p.cl (p.ins s.at_).n := by unfold InsOk at hi; simp [h7] at hi; exact hi.2.2.2
  unfold Plc at hp
  obtain ⟨u, eu, hu⟩ := hl ((p.ins s.at_).n.toNat, k) (by unfold leadsK; rw [if_pos h7]; simp) (by dsimp only; omega)
  exact ⟨by dsimp only; omega, ⟨u, eu, hk.mono hu hr8⟩, h.r, h.ml, h.len, h.wd⟩
 by_cases h8 : (p.ins s.at_).op = 8
 ·refine .inr ⟨_, by unfold stepI; rw [if_neg h7, if_pos h8], ?_⟩
  have hp : Plc p.cl (p.ins s.at_).n := by unfold InsOk at hi; simp [h8] at hi; exact hi.2.2.2
  unfold Plc at hp
  have hx := g.next h.at_ e h7 (by omega)
  by_cases q : holdsI (p.ins s.at_).c (s.r (p.ins s.at_).a.toNat) (s.r (p.ins s.at_).b.toNat) = true
  ·obtain ⟨u, eu, hu⟩ := hl ((p.ins s.at_).n.toNat, yesK (p.ins s.at_) k) (by unfold leadsK; rw [if_neg h7, if_neg (by omega), if_pos h8]; simp) (by dsimp only; omega)
   rw [if_pos q]
   exact ⟨by dsimp only; omega, ⟨u, eu, (has_yes hi h8 hr8 hk q).mono hu hr8⟩, h.r, h.ml, h.len, h.wd⟩
  ·obtain ⟨u, eu, hu⟩ := hl (s.at_ + 1, noK (p.ins s.at_) k) (by unfold leadsK; rw [if_neg h7, if_neg (by omega), if_pos h8]; simp) hx
   rw [if_neg q]
   exact ⟨hx, ⟨u, eu, (has_no hi h8 hr8 hk q).mono hu hr8⟩, h.r, h.ml, h.len, h.wd⟩
 by_cases h9 : (p.ins s.at_).op = 9
 ·exact .inl ⟨_, _, by unfold stepI; rw [if_neg h7, if_neg h8, if_pos h9], h9, rfl, rfl⟩
 have hx := g.next h.at_ e h7 h9
 obtain ⟨u, eu, hu⟩ := hl (s.at_ + 1, nextK p (p.ins s.at_) k) (by unfold leadsK; rw [if_neg h7, if_neg h9, if_neg h8]; simp) hx
 by_cases hop : (p.ins s.at_).op = 3 ∨ (p.ins s.at_).op = 4 ∨ (p.ins s.at_).op = 5 ∨ (p.ins s.at_).op = 6
 ·obtain ⟨hw, hc1, hc2⟩ := g.word h e hk hop
  have hw' := hw
  rw [h.len] at hw'
  by_cases hld : (p.ins s.at_).op = 3 ∨ (p.ins s.at_).op = 5
  ·refine .inr ⟨_, step_load rfl hld hw, ?_⟩
   have hv : B64 (s.m.wd (p.ins s.at_).c.toNat (idxI s.r (p.ins s.at_)).toNat) := h.wd _ hc2 _ (by omega)
   refine ⟨hx, ⟨u, eu, HasS.mono hu (fun j hj => setR_b64 h.r _ hv j (by omega)) ?_⟩, setR_b64 h.r _ hv, h.ml, h.len, h.wd⟩
   have e2 : nextK p (p.ins s.at_) k = setK k (p.ins s.at_).a ⟨17, p.sec (p.ins s.at_).c.toNat⟩ := by unfold nextK; rw [if_neg (by omega), if_neg (by omega), if_neg (by omega), if_pos hld]
   rw [e2]
   exact hk.set _ (hasI_all _)
  ·refine .inr ⟨_, step_put rfl (by omega) hw, ?_⟩
   have e2 : nextK p (p.ins s.at_) k = k := by unfold nextK; rw [if_neg (by omega), if_neg (by omega), if_neg (by omega), if_neg hld, if_neg (by omega), if_pos (by omega)]
   rw [e2] at hu
   refine ⟨hx, ⟨u, eu, hk.mono hu hr8⟩, h.r, h.ml, h.len, fun j hj y hy => ?_⟩
   have ha := (regs_of hi).1 (by omega)
   unfold setW
   dsimp only
   split
   ·exact h.r _ (by omega)
   ·exact h.wd j hj y hy
 ·refine .inr ⟨_, step_regs rfl (by omega) (by omega) (by omega) (by omega) h7 h8 h9, ?_⟩
  have hb := regsI_b64 hi h.r hn
  exact ⟨hx, ⟨u, eu, HasS.mono hu (fun j hj => hb j (by omega)) (has_regs hi hn (by omega) (by omega) (by omega) (by omega) h7 h8 h9 hr8 hk)⟩, hb, h.ml, h.len, h.wd⟩

theorem Good.begin_ (g : Good p m l) (hw : ∀ j, j < m.ml → ∀ i, i < m.len j → B64 (m.wd j i)) : Sound p m l ⟨0, fun _ => 0, m, []⟩ := by
 obtain ⟨s, e, hs⟩ := g.known.closed.first
 exact ⟨g.ok.2.1, ⟨s, e, fun j hj => hasI_zero _⟩, fun _ _ => B64_zero, rfl, fun _ => rfl, hw⟩

end
end
section
open Go.RowKit
set_option linter.unusedSimpArgs false
set_option linter.unusedVariables false
set_option maxRecDepth 8000
/-- A check's answer: what is wrong with the form, or the first fault of the known states. -/
def Told (p : Prg) (f : Int × Int) : Prop := (¬ p.Ok 200 8 ∧ f = (2, 0)) ∨ (p.Ok 200 8 ∧ ∃ l, Known p l ∧ f = checkK p l)
theorem Told.ok {p : Prg} {f : Int × Int} (h : Told p f) (h0 : f.1 = 0) : p.Ok 200 8 ∧ ∃ l, Known p l ∧ (checkK p l).1 = 0 := by
 rcases h with ⟨_, rfl⟩ | ⟨h1, l, h2, rfl⟩
 ·exact absurd h0 (by decide)
 ·exact ⟨h1, l, h2, h0⟩
theorem Told.one {p : Prg} {f g : Int × Int} (h : Told p f) (k : Told p g) : f = g := by
 rcases h with ⟨h1, rfl⟩ | ⟨h1, l, h2, rfl⟩
 ·rcases k with ⟨_, rfl⟩ | ⟨k1, _⟩
  ·rfl
  ·exact absurd k1 h1
 ·rcases k with ⟨k1, _⟩ | ⟨_, l', k2, rfl⟩
  ·exact absurd h1 k1
  ·exact check_one h1 h2 k2

/-- check.Check, whatever the program. -/
theorem check_told (p : Prg) (l : Loc) (w : World) (hp : PIn w p l) (hf : p.Fit) :
  Calls Try.prog 19 #[.agg #[.slice l.ra p.rl l.rc, .slice l.ca p.cl l.cc]] w fun e w' => ∃ f : Int × Int, Told p f ∧ e = .returned (.agg #[.int .i64 f.1, .int .i64 f.2]) ∧ More w w' := by
 by_cases hok : p.Ok 200 8
 ·refine (check_ok_calls p l w hp hok (fun i hi => (hf.ins i hi).2.2.2.2)).mono ?_
  rintro e w' ⟨l', h1, rfl, m⟩
  exact ⟨_, .inr ⟨hok, l', h1, rfl⟩, rfl, m⟩
 ·exact (check_form p l w hp hok).mono (fun e w' ⟨h1, h2⟩ => ⟨(2, 0), .inl ⟨hok, rfl⟩, h1, h2⟩)
theorem may_true (p : Prg) (l : Loc) (w : World) (hp : PIn w p l) (hok : p.Ok 200 8) :
  Calls Try.prog 22 #[.agg #[.slice l.ra p.rl l.rc, .slice l.ca p.cl l.cc]] w fun e w' => e = .returned (.bool true) ∧ More w w' := by
 refine (ref_may p l _ hp).mono ?_
 rintro e w' ⟨r, rfl, hr, m⟩
 cases r with
 | true => exact ⟨rfl, m⟩
 | false => exact absurd (hr.2 hok) (by simp)
theorem fits_says (p : Prg) (l : Loc) (m : Mem) (ml : MLoc) (w : World) (hp : PIn w p l) (hm : MRaw w m ml) (r : Bool) (hr : r = true ↔ FitsOk p.rl p.log m.ml m.len) :
  Calls Try.prog 12 #[.agg #[.slice l.ra p.rl l.rc, .slice l.ca p.cl l.cc], .slice ml.ma m.ml ml.mc] w fun e w' => e = .returned (.bool r) ∧ More w w' := by
 refine (ref_fits l.ra p.rl l.rc l.ca p.cl l.cc ml.ma m.ml ml.mc l.rb l.ro ml.mb ml.mo p.log p.sec ml.A m.len ml.C w hp.hr hp.regs hm.hm hm.lists).mono ?_
 rintro e w' ⟨q, rfl, hq, mm⟩
 have : q = r := Bool.eq_iff_iff.2 (hq.trans hr.symm)
 rw [this]
 exact ⟨rfl, mm⟩
/-- A memory that fits a program that may be. -/
theorem fits_in {p : Prg} {m : Mem} (hok : p.Ok 200 8) (h : FitsOk p.rl p.log m.ml m.len) : m.ml = p.rl ∧ m.ml ≤ 6 ∧ (∀ i, i < m.ml → (m.len i : Int) = wordsI (p.log i)) ∧ ∀ i, i < m.ml → m.len i ≤ 64 := by
 have h1 : m.ml = p.rl := h.2.1
 refine ⟨h1, by rw [h1]; exact hok.1.1, fun i hi => h.2.2 i (by omega), fun i hi => ?_⟩
 have h2 := h.2.2 i (by omega)
 have h3 := hok.1.2 i (by omega)
 have h4 := two_pow_le (k := (p.log i).toNat) (by omega)
 unfold wordsI at h2
 omega
theorem info23 : (Try.prog.info? 65).map (fun i => (i.zero, i.size, i.bytes)) = some (some (.agg #[.int .i64 0, .bool false]), 2, 16) := by kernel_rfl

/-- A state, as a value. -/
abbrev st (b : Bool) (g c : Nat) : Value := .agg #[.bool b, .slice (some ⟨g, 0, none⟩) 8 c]

set_option maxHeartbeats 1000000 in
theorem copied_calls (b : Bool) (g c : Nat) (s : KS) (w : World) (h : KRow w g s) :
  Calls Try.prog 48 #[st b g c] w fun e w' => ∃ g' c', e = .returned (st b g' c') ∧ w.heap.size ≤ g' ∧ KRow w' g' s ∧ More w w' := by
 obtain ⟨i0, hi, hz0, hz1, hz2⟩ := info_parts info23
 have Hi : Hid (Try.prog.info? 65 = some i0 ∧ i0.zero = some (.agg #[.int .i64 0, .bool false]) ∧ i0.size = 2 ∧ i0.bytes = 16) := ⟨hi, hz0, hz1, hz2⟩
 have H : Hid (KRow w g s) := h
 clear h hi hz0 hz1 hz2
 unfold st
 obtain ⟨W, HW⟩ : ∃ W : World, Hid (W = (w.alloc (.cells #[.bool b, .slice (some ⟨g, 0, none⟩) 8 c] 57)).alloc (.cells #[.bool false, .slice none 0 0] 57)) := ⟨_, rfl⟩
 have HmW : Hid (More w W ∧ W.heap.size = w.heap.size + 2) := HW.out ▸ ⟨((More.refl _).alloc _ _).alloc _ _, by simp⟩
 have a0 : W.cell? ⟨w.heap.size, 0, none⟩ = some (.bool b) := by rw [HW.out]; go_simp
 have a1 : W.cell? ⟨w.heap.size, 1, none⟩ = some (.slice (some ⟨g, 0, none⟩) 8 c) := by rw [HW.out]; go_simp
 obtain ⟨S, HS⟩ : ∃ S : World → Prop, Hid (∀ w', S w' ↔ (w'.cell? ⟨w.heap.size, 0, none⟩ = some (.bool b) ∧ w'.cell? ⟨w.heap.size, 1, none⟩ = some (.slice (some ⟨g, 0, none⟩) 8 c))) := ⟨_, fun _ => Iff.rfl⟩
 have HS0 : S W.drew := (HS.out _).2 ⟨a0, a1⟩
 have hne : Nonempty { w' // S w' } := ⟨⟨_, HS0⟩⟩
 have k0 : ∀ i : { w' // S w' }, i.val.cell? ⟨w.heap.size, 0, none⟩ = some (.bool b) := fun i => ((HS.out _).1 i.property).1
 have k1 : ∀ i : { w' // S w' }, i.val.cell? ⟨w.heap.size, 1, none⟩ = some (.slice (some ⟨g, 0, none⟩) 8 c) := fun i => ((HS.out _).1 i.property).2
 have Hown : Hid ((W.drew.alloc (.cells #[] 65)).ownsRow W.heap.size 65 2 (.slice (some ⟨W.heap.size, 0, none⟩) 0 0) 0 []) := World.ownsRow_made W.drew #[] 0 (Nat.le_refl _) (by unfold maxLen; omega) rfl
 have Hnews : Hid (∀ j u, (flatK s 8)[j]? = some u → (W.drew.alloc (.cells #[] 65)).cell? ((⟨g, 0, none⟩ : Addr).add j) = some u) := flatK_in (H.out.more (HmW.out.1.drew.alloc _ _))
 go_enter Try.func48, Try.ntmps48
 go_wp2_with (fail)
 rw [← HW.out]
 refine wp_region_ord (S := S) [(0, true), (1, true), (3, true), (4, true), (2, false), (5, false), (6, true), (7, false)] (by kernel_rfl) (by kernel_rfl) (by kernel_rfl) HS0 ?_
 iterate 4 (refine wpOrd_take rfl (by kernel_rfl) (fun K hK => ?_); go_simp; refine hK _ _ ?_; clear hK K)
 refine wpOrd_busy rfl (by kernel_rfl) (fun K hK => ?_); go_simp
 refine hK _ _ ((HS.out _).2 ⟨((More.refl _).drew.alloc _ _).cell a0, ((More.refl _).drew.alloc _ _).cell a1⟩) ?_; clear hK K
 refine wpOrd_busy rfl (by kernel_rfl) (fun K hK => ?_)
 refine wp_append_lies _ (.tmp 5) (.tmp 7) 55 rfl W.heap.size 65 i0 (.agg #[.int .i64 0, .bool false]) 2 16 Try.underlying55 Hi.out.1 Hi.out.2.1 Hi.out.2.2.1 Hi.out.2.2.2 rfl (by decide) (.slice (some ⟨W.heap.size, 0, none⟩) 0 0) 0 [] rfl Hown.out ⟨g, 0, none⟩ 8 c (flatK s 8) rfl (by rw [flatK_length]) Hnews.out (flatK_one s 8) (by decide) (by unfold maxLen; omega) (by omega) (by simp) (W.heap.size + 1) (by simp) ?_
 intro g1 cap w2 own2 gr2 hat2 hlt2
 simp only [Value.ownBlock] at gr2 hat2
 simp only [Nat.zero_add, List.nil_append] at own2
 have hs2 := HmW.out.2
 have Hg1 : Hid (w.heap.size + 1 < g1) := by
  show _ < _
  rcases hat2 with q | q
  ·have := Option.some.inj q; omega
  ·omega
 have Hm2 : Hid (More w w2) := ((HmW.out.1.alloc _ _).drew).grownBy gr2 (fun k hk => by have := Option.some.inj hk; omega)
 have c0 : w2.cell? ⟨w.heap.size, 0, none⟩ = some (.bool b) := gr2.cell (((More.refl _).drew.alloc _ _).cell a0) (by simp; omega)
 have c1 : w2.cell? ⟨w.heap.size, 1, none⟩ = some (.slice (some ⟨g, 0, none⟩) 8 c) := gr2.cell (((More.refl _).drew.alloc _ _).cell a1) (by simp; omega)
 have hblk : w2.heap[w.heap.size + 1]? = some (.cells #[.bool false, .slice none 0 0] 57 (0, 0)) := by
  have e1 := gr2.block (w.heap.size + 1) (by simp; omega) (by simp; omega)
  rw [e1]
  have e2 := ((More.refl W).alloc #[] 65).drew.block (w.heap.size + 1) (by omega)
  rw [e2, HW.out]
  have := heap_alloc_last (w.alloc (.cells #[.bool b, .slice (some ⟨g, 0, none⟩) 8 c] 57)) (.cells #[.bool false, .slice none 0 0] 57)
  simpa using this
 have d0 : w2.cell? ⟨w.heap.size + 1, 0, none⟩ = some (.bool false) := by rw [cell_of_row _ _ _ _ _ _ hblk]; rfl
 have d1 : w2.cell? ⟨w.heap.size + 1, 1, none⟩ = some (.slice none 0 0) := by rw [cell_of_row _ _ _ _ _ _ hblk]; rfl
 have f0 : w2.frozen? ⟨w.heap.size + 1, 0, none⟩ = false := frozen_of_row _ _ _ _ _ hblk
 have f1 : w2.frozen? ⟨w.heap.size + 1, 1, none⟩ = false := frozen_of_row _ _ _ _ _ hblk
 have HR : Hid (KRow w2 g1 s) := krow_of_own own2
 clear own2 gr2 hat2 hlt2 hblk hs2 a0 a1
 go_simp
 refine hK _ _ ((HS.out _).2 ⟨c0, c1⟩) ?_; clear hK K
 refine wpOrd_take rfl (by kernel_rfl) (fun K hK => ?_); go_simp; refine hK _ _ ?_; clear hK K
 refine wpOrd_busy rfl (by kernel_rfl) (fun K hK => ?_); go_simp
 refine hK _ _ ((HS.out _).2 ⟨by go_simp, by go_simp⟩) ?_; clear hK K
 refine wpOrd_done ?_
 clear k0 k1 hne HS0
 go_wp2
 refine bodyPost_ret (by simp [results, Try.results48, go_sem, *]) rfl ⟨g1, cap, rfl, by have := Hg1.out; omega, ?_, ?_⟩
 ·exact (HR.out.other (by have := Hg1.out; omega) _ _).other (by have := Hg1.out; omega) _ _
 ·exact (Hm2.out.setCell (by simp) _).setCell (by simp) _
end
section
open Go.RowKit
set_option linter.unusedVariables false
theorem read_calls (a : Int) (sa : Bool) (w : World) :
  Calls Try.prog 65 #[kn a sa] w fun e w' => e = .returned (kn (bnd a) sa) ∧ w' = (w.alloc (.cells #[.int .i64 (bnd a), .bool sa] 65)).alloc (.cells #[.int .i64 (bnd a), .bool sa] 65) := by
 unfold kn
 by_cases h : a < 0
 ·rw [bnd_out (.inl h)]
  go_enter Try.func65, Try.ntmps65
  go_wp2
  exact bodyPost_ret (by simp [results, Try.results65, go_sem]) rfl ⟨rfl, rfl⟩
 by_cases h2 : 16 < a
 ·rw [bnd_out (.inr h2)]
  go_enter Try.func65, Try.ntmps65
  go_wp2
  exact bodyPost_ret (by simp [results, Try.results65, go_sem]) rfl ⟨rfl, rfl⟩
 ·rw [bnd_in (by omega) (by omega)]
  go_enter Try.func65, Try.ntmps65
  go_wp2
  exact bodyPost_ret (by simp [results, Try.results65, go_sem]) rfl ⟨rfl, rfl⟩

theorem upTo_calls (n : Int) (h0 : 0 ≤ n) (w : World) :
  Calls Try.prog 66 #[.int .i64 n] w fun e w' => e = .returned (.int .i64 (bnd n)) ∧ w' = w := by
 by_cases h2 : 16 < n
 ·rw [bnd_out (.inr h2)]
  go_enter Try.func66, Try.ntmps66
  go_wp2
  go_ret
  exact ⟨rfl, rfl⟩
 ·rw [bnd_in (by omega) (by omega)]
  go_enter Try.func66, Try.ntmps66
  go_wp2
  go_ret
  exact ⟨rfl, rfl⟩

theorem power_calls (b : Nat) (hb : b ≤ 16) (w : World) :
  Calls Try.prog 82 #[.int .i64 b] w fun e w' => e = .returned (.int .i64 (2 ^ b)) ∧ w' = w := by
 obtain ⟨R, hR⟩ : ∃ R : Int, (2 ^ b : Int) = R := ⟨_, rfl⟩
 rw [hR]
 have HR : Hid ((2 ^ b : Int) = R) := hR
 clear hR
 go_enter Try.func82, Try.ntmps82
 go_wp2
 go_loopg [3, 4] b (fun g nv iv wr => ∃ (k : Nat) (p : Int), k + g = b ∧ Hid (p = ((2 ^ k : Nat) : Int)) ∧ 0 ≤ p ∧ p ≤ 65536 ∧ nv = .int .i64 p ∧ iv = .int .i64 k ∧ wr = w)
 case atStart => exact ⟨0, 1, by omega, rfl, by omega, by omega, rfl, rfl, rfl⟩
 case round =>
  obtain ⟨k, p, hkg, hp, p0, p1, rfl, rfl, rfl⟩ := hrel
  cases gk with
  | zero =>
   obtain rfl : k = b := by omega
   go_wp2
   go_ret
   exact ⟨by rw [← HR.out, hp.out, pow_castI]; rfl, rfl⟩
  | succ g =>
   have hk : (k : Int) < b := by omega
   have hpn : Hid (p + p = ((2 ^ (k + 1) : Nat) : Int)) := by show p + p = _; rw [hp.out, Nat.pow_succ]; omega
   have hpb : p ≤ 32768 := by
    rw [hp.out]
    have : 2 ^ k ≤ 2 ^ 15 := Nat.pow_le_pow_right (by omega) (by omega)
    omega
   go_wp2
   go_roundg g
   case measure => omega
   case rel => exact ⟨k + 1, p + p, by omega, hpn, by omega, by omega, rfl, by first | rfl | simp, rfl⟩

theorem rhas_any (a n : Int) (sa : Bool) (h : bnd a = 17) (w : World) :
  Calls Try.prog 64 #[kn a sa, .int .i64 n] w fun e w' => e = .returned (.bool true) ∧ More w w' := by
 have c := fun w => read_calls a sa w
 rw [h] at c
 unfold kn at *
 go_enter Try.func64, Try.ntmps64
 go_wp2_with (fail)
 refine (c _).mono ?_
 rintro e w1 ⟨rfl, rfl⟩
 go_wp2
 go_ret
 exact ⟨rfl, (((More.refl _).alloc _ _).alloc _ _).alloc _ _⟩

theorem rhas_some (a n x p : Int) (sa : Bool) (hx : bnd a = x) (hn : (x == 17) = false)
  (cp : ∀ w : World, Calls Try.prog 82 #[.int .i64 x] w fun e w' => e = .returned (.int .i64 p) ∧ w' = w) (r : Bool) (hr : (decide (0 ≤ n) && decide (n < p)) = r) (w : World) :
  Calls Try.prog 64 #[kn a sa, .int .i64 n] w fun e w' => e = .returned (.bool r) ∧ More w w' := by
 have c := fun w => read_calls a sa w
 rw [hx] at c
 clear hx
 unfold kn at *
 by_cases h0 : 0 ≤ n
 ·have e0 : decide (0 ≤ n) = true := by simp [h0]
  rw [e0, Bool.true_and] at hr
  go_enter Try.func64, Try.ntmps64
  go_wp2_with (fail)
  refine (c _).mono ?_
  rintro e w1 ⟨rfl, rfl⟩
  go_wp2_with (fail)
  refine (cp _).mono ?_
  rintro e w1 ⟨rfl, rfl⟩
  go_wp2
  go_ret
  exact ⟨rfl, (((More.refl _).alloc _ _).alloc _ _).alloc _ _⟩
 ·have e0 : decide (0 ≤ n) = false := by simp [h0]
  rw [e0, Bool.false_and] at hr
  subst hr
  go_enter Try.func64, Try.ntmps64
  go_wp2_with (fail)
  refine (c _).mono ?_
  rintro e w1 ⟨rfl, rfl⟩
  go_wp2
  go_ret
  exact ⟨rfl, (((More.refl _).alloc _ _).alloc _ _).alloc _ _⟩

/-- evenkeelref5.Has. -/
theorem rhas_calls (a n : Int) (sa : Bool) (w : World) :
  Calls Try.prog 64 #[kn a sa, .int .i64 n] w fun e w' => e = .returned (.bool (hasI a n)) ∧ More w w' := by
 by_cases h : bnd a = 17
 ·rw [hasI_any h]; exact rhas_any a n sa h w
 ·have hr := bnd_range a
  have e : hasI a n = (decide (0 ≤ n) && decide (n < 2 ^ (bnd a).toNat)) := by
   unfold hasI; rw [Bool.eq_iff_iff]; simp [h]
  rw [e]
  have hb : (((bnd a).toNat : Nat) : Int) = bnd a := by omega
  exact rhas_some a n (bnd a) _ sa rfl (by simp [h]) (fun w => hb ▸ power_calls (bnd a).toNat (by omega) w) _ rfl w

/-- evenkeelref5.Of. -/
theorem rof_calls (n : Int) (n0 : -9223372036854775808 ≤ n) (n1 : n ≤ 9223372036854775807) (w : World) :
  Calls Try.prog 50 #[.int .i64 n] w fun e w' => e = .returned (kn (fitI n) false) ∧ More w w' := by
 obtain ⟨f, hf⟩ : ∃ f, fitI n = f := ⟨_, rfl⟩
 have hfr := fit_range n
 have c : ∀ k : Nat, k ≤ 16 → ∀ w : World, Calls Try.prog 64 #[.agg #[.int .i64 (k : Int), .bool false], .int .i64 n] w fun e w' => e = .returned (.bool (decide (f ≤ (k : Int)))) ∧ More w w' := by
  intro k hk w
  have h := rhas_calls (k : Int) n false w
  rw [hasI_fit n0 n1, bnd_in (by omega) (by omega), hf] at h
  exact h
 rw [hf] at hfr ⊢
 have C : Hid (∀ k : Nat, k ≤ 16 → ∀ w : World, Calls Try.prog 64 #[.agg #[.int .i64 (k : Int), .bool false], .int .i64 n] w fun e w' => e = .returned (.bool (decide (f ≤ (k : Int)))) ∧ More w w') := c
 clear hf c n0 n1
 unfold kn
 go_enter Try.func50, Try.ntmps50
 go_wp2
 have hz : Hid (More w (w.alloc (.cells #[.int .i64 0, .bool false] 65)) ∧ ∃ wz : World, More (w.alloc (.cells #[.int .i64 0, .bool false] 65)) wz) := ⟨(More.refl _).alloc _ _, _, More.refl _⟩
 go_loopg [3] 17 (fun g iv wr => ∃ k : Nat, k + g = 17 ∧ (k : Int) ≤ f ∧ iv = .int .i64 k ∧ Hid (More (w.alloc (.cells #[.int .i64 0, .bool false] 65)) wr))
 case atStart => exact ⟨0, by omega, by omega, rfl, More.refl _⟩
 case round =>
  obtain ⟨k, hkg, hkf, rfl, Hm⟩ := hrel
  have kf : ∀ {w' : World}, More wr w' → ∀ j, w'.frozen? ⟨w.heap.size, j, none⟩ = false := fun h j => by
   have hb := (Hm.out.trans h).block w.heap.size (by simp)
   rw [heap_alloc_last] at hb
   exact frozen_of_row _ _ _ _ _ hb
  have k0 : ∀ {w' : World}, More wr w' → w'.cell? ⟨w.heap.size, 0, none⟩ = some (.int .i64 0) := fun h => (Hm.out.trans h).cell (by go_simp)
  have k1 : ∀ {w' : World}, More wr w' → w'.cell? ⟨w.heap.size, 1, none⟩ = some (.bool false) := fun h => (Hm.out.trans h).cell (by go_simp)
  have hm : Hid (More w wr) := ((More.refl _).alloc _ _).trans Hm.out
  cases gk with
  | zero =>
   obtain rfl : k = 17 := by omega
   obtain rfl : f = 17 := by omega
   have q0 := k0 (More.refl _)
   have q1 := k1 (More.refl _)
   have q2 := kf (More.refl _) 0
   have q3 := kf (More.refl _) 1
   clear k0 k1 kf
   go_wp2
   exact bodyPost_ret (by simp [results, Try.results50, go_sem, *]) rfl ⟨rfl, (hm.out.setCell (by simp) _).setCell (by simp) _⟩
  | succ g =>
   have hk17 : (k : Int) < 17 := by omega
   go_wp2_with (fail)
   refine (C.out k (by omega) _).mono ?_
   rintro e w1 ⟨rfl, m1⟩
   have q0 := k0 m1
   have q1 := k1 m1
   have q2 := kf m1 0
   have q3 := kf m1 1
   have Hm1 : Hid (More wr w1) := m1
   clear k0 k1 kf m1
   by_cases hfk : f ≤ (k : Int)
   ·obtain rfl : f = (k : Int) := by omega
    go_wp2
    exact bodyPost_ret (by simp [results, Try.results50, go_sem, *]) rfl ⟨rfl, ((hm.out.trans Hm1.out).setCell (by simp) _).setCell (by simp) _⟩
   ·go_wp2
    go_roundg g
    case measure => omega
    case rel => exact ⟨k + 1, by omega, by omega, by first | rfl | simp, Hm.out.trans Hm1.out⟩

theorem rless_of (a b x y r : Int) (sa sb : Bool) (c1 : (∀ w : World, Calls Try.prog 65 #[kn a sa] w fun e w' => e = .returned (kn x sa) ∧ w' = (w.alloc (.cells #[.int .i64 x, .bool sa] 65)).alloc (.cells #[.int .i64 x, .bool sa] 65))) (c2 : (∀ w : World, Calls Try.prog 65 #[kn b sb] w fun e w' => e = .returned (kn y sb) ∧ w' = (w.alloc (.cells #[.int .i64 y, .bool sb] 65)).alloc (.cells #[.int .i64 y, .bool sb] 65))) (lt : Bool) (hlt : decide (y < x) = lt) (hr : r = bif lt then y else x) (w : World) :
  Calls Try.prog 51 #[kn a sa, kn b sb] w fun e w' => e = .returned (kn r sa) ∧ More w w' := by
 unfold kn at *
 cases lt
 all_goals
  simp only [cond_true, cond_false] at hr
  subst hr
  go_enter Try.func51, Try.ntmps51
  go_wp2_with (fail)
  refine (c1 _).mono ?_
  rintro e w1 ⟨rfl, rfl⟩
  go_wp2_with (fail)
  refine (c2 _).mono ?_
  rintro e w1 ⟨rfl, rfl⟩
  go_wp2
  exact bodyPost_ret (by simp [results, Try.results51, go_sem]) rfl ⟨rfl, ((((((((More.refl _).alloc _ _).alloc _ _).alloc _ _).alloc _ _).alloc _ _).alloc _ _).alloc _ _)⟩

theorem rless_calls (a b : Int) (sa sb : Bool) (w : World) :
  Calls Try.prog 51 #[kn a sa, kn b sb] w fun e w' => e = .returned (kn (min (bnd a) (bnd b)) sa) ∧ More w w' :=
 rless_of a b _ _ _ sa sb (read_calls a sa) (read_calls b sb) _ rfl (by by_cases h : bnd b < bnd a <;> simp [h] <;> omega) w

theorem rjoin_of (a b x y r : Int) (sa sb : Bool) (c1 : (∀ w : World, Calls Try.prog 65 #[kn a sa] w fun e w' => e = .returned (kn x sa) ∧ w' = (w.alloc (.cells #[.int .i64 x, .bool sa] 65)).alloc (.cells #[.int .i64 x, .bool sa] 65))) (c2 : (∀ w : World, Calls Try.prog 65 #[kn b sb] w fun e w' => e = .returned (kn y sb) ∧ w' = (w.alloc (.cells #[.int .i64 y, .bool sb] 65)).alloc (.cells #[.int .i64 y, .bool sb] 65))) (lt : Bool) (hlt : decide (x < y) = lt) (hr : r = bif lt then y else x) (w : World) :
  Calls Try.prog 63 #[kn a sa, kn b sb] w fun e w' => e = .returned (kn r (sa || sb)) ∧ More w w' := by
 unfold kn at *
 cases lt <;> cases sa
 all_goals
  simp only [cond_true, cond_false] at hr
  subst hr
  go_enter Try.func63, Try.ntmps63
  go_wp2_with (fail)
  refine (c1 _).mono ?_
  rintro e w1 ⟨rfl, rfl⟩
  go_wp2_with (fail)
  refine (c2 _).mono ?_
  rintro e w1 ⟨rfl, rfl⟩
  go_wp2
  exact bodyPost_ret (by simp [results, Try.results63, go_sem]) rfl ⟨rfl, ((((((((More.refl _).alloc _ _).alloc _ _).alloc _ _).alloc _ _).alloc _ _).alloc _ _).alloc _ _)⟩

theorem rjoin_calls (a b : Int) (sa sb : Bool) (w : World) :
  Calls Try.prog 63 #[kn a sa, kn b sb] w fun e w' => e = .returned (kn (max (bnd a) (bnd b)) (sa || sb)) ∧ More w w' :=
 rjoin_of a b _ _ _ sa sb (read_calls a sa) (read_calls b sb) _ rfl (by by_cases h : bnd a < bnd b <;> simp [h] <;> omega) w
theorem rop_1z (a b x y g l : Int) (sa sb : Bool) (c1 : (∀ w : World, Calls Try.prog 65 #[kn a sa] w fun e w' => e = .returned (kn x sa) ∧ w' = (w.alloc (.cells #[.int .i64 x, .bool sa] 65)).alloc (.cells #[.int .i64 x, .bool sa] 65))) (c2 : (∀ w : World, Calls Try.prog 65 #[kn b sb] w fun e w' => e = .returned (kn y sb) ∧ w' = (w.alloc (.cells #[.int .i64 y, .bool sb] 65)).alloc (.cells #[.int .i64 y, .bool sb] 65))) (lt : Bool) (hlt : decide (x < y) = lt) (hg : g = bif lt then y else x) (hl : l = bif lt then x else y) (g0 : 0 ≤ g) (g1 : g ≤ 17) (l0 : 0 ≤ l) (l1 : l ≤ 17) (u : Int) (cu : ∀ w : World, Calls Try.prog 66 #[.int .i64 (g + 1)] w fun e w' => e = .returned (.int .i64 u) ∧ w' = w) (hz : (l == 0) = true) (w : World) :
  Calls Try.prog 52 #[.int .i64 1, kn a sa, kn b sb] w fun e w' => e = .returned (kn (g) (sa || sb)) ∧ More w w' := by
 unfold kn at *
 cases lt <;> cases sa
 all_goals
  simp only [cond_true, cond_false] at hg hl
  subst hg hl
  go_enter Try.func52, Try.ntmps52
  go_wp2_with (fail)
  refine (c1 _).mono ?_
  rintro e w1 ⟨rfl, rfl⟩
  go_wp2_with (fail)
  refine (c2 _).mono ?_
  rintro e w1 ⟨rfl, rfl⟩
  go_wp2_with (fail)
  refine (cu _).mono ?_
  rintro e w1 ⟨rfl, rfl⟩
  go_wp2
  exact bodyPost_ret (by simp [results, Try.results52, go_sem]) rfl ⟨rfl, (((((((((More.refl _).alloc _ _).alloc _ _).alloc _ _).alloc _ _).alloc _ _).alloc _ _).alloc _ _).alloc _ _)⟩

theorem rop_1 (a b x y g l : Int) (sa sb : Bool) (c1 : (∀ w : World, Calls Try.prog 65 #[kn a sa] w fun e w' => e = .returned (kn x sa) ∧ w' = (w.alloc (.cells #[.int .i64 x, .bool sa] 65)).alloc (.cells #[.int .i64 x, .bool sa] 65))) (c2 : (∀ w : World, Calls Try.prog 65 #[kn b sb] w fun e w' => e = .returned (kn y sb) ∧ w' = (w.alloc (.cells #[.int .i64 y, .bool sb] 65)).alloc (.cells #[.int .i64 y, .bool sb] 65))) (lt : Bool) (hlt : decide (x < y) = lt) (hg : g = bif lt then y else x) (hl : l = bif lt then x else y) (g0 : 0 ≤ g) (g1 : g ≤ 17) (l0 : 0 ≤ l) (l1 : l ≤ 17) (u : Int) (cu : ∀ w : World, Calls Try.prog 66 #[.int .i64 (g + 1)] w fun e w' => e = .returned (.int .i64 u) ∧ w' = w) (hz : (l == 0) = false) (w : World) :
  Calls Try.prog 52 #[.int .i64 1, kn a sa, kn b sb] w fun e w' => e = .returned (kn (u) (sa || sb)) ∧ More w w' := by
 unfold kn at *
 cases lt <;> cases sa
 all_goals
  simp only [cond_true, cond_false] at hg hl
  subst hg hl
  go_enter Try.func52, Try.ntmps52
  go_wp2_with (fail)
  refine (c1 _).mono ?_
  rintro e w1 ⟨rfl, rfl⟩
  go_wp2_with (fail)
  refine (c2 _).mono ?_
  rintro e w1 ⟨rfl, rfl⟩
  go_wp2_with (fail)
  refine (cu _).mono ?_
  rintro e w1 ⟨rfl, rfl⟩
  go_wp2
  exact bodyPost_ret (by simp [results, Try.results52, go_sem]) rfl ⟨rfl, (((((((((More.refl _).alloc _ _).alloc _ _).alloc _ _).alloc _ _).alloc _ _).alloc _ _).alloc _ _).alloc _ _)⟩

theorem rop_3z (a b x y g l : Int) (sa sb : Bool) (c1 : (∀ w : World, Calls Try.prog 65 #[kn a sa] w fun e w' => e = .returned (kn x sa) ∧ w' = (w.alloc (.cells #[.int .i64 x, .bool sa] 65)).alloc (.cells #[.int .i64 x, .bool sa] 65))) (c2 : (∀ w : World, Calls Try.prog 65 #[kn b sb] w fun e w' => e = .returned (kn y sb) ∧ w' = (w.alloc (.cells #[.int .i64 y, .bool sb] 65)).alloc (.cells #[.int .i64 y, .bool sb] 65))) (lt : Bool) (hlt : decide (x < y) = lt) (hg : g = bif lt then y else x) (hl : l = bif lt then x else y) (g0 : 0 ≤ g) (g1 : g ≤ 17) (l0 : 0 ≤ l) (l1 : l ≤ 17) (u : Int) (cu : ∀ w : World, Calls Try.prog 66 #[.int .i64 (g + l)] w fun e w' => e = .returned (.int .i64 u) ∧ w' = w) (hz : (l == 0) = true) (w : World) :
  Calls Try.prog 52 #[.int .i64 3, kn a sa, kn b sb] w fun e w' => e = .returned (kn (0) (sa || sb)) ∧ More w w' := by
 unfold kn at *
 cases lt <;> cases sa
 all_goals
  simp only [cond_true, cond_false] at hg hl
  subst hg hl
  go_enter Try.func52, Try.ntmps52
  go_wp2_with (fail)
  refine (c1 _).mono ?_
  rintro e w1 ⟨rfl, rfl⟩
  go_wp2_with (fail)
  refine (c2 _).mono ?_
  rintro e w1 ⟨rfl, rfl⟩
  go_wp2_with (fail)
  refine (cu _).mono ?_
  rintro e w1 ⟨rfl, rfl⟩
  go_wp2
  exact bodyPost_ret (by simp [results, Try.results52, go_sem]) rfl ⟨rfl, (((((((((More.refl _).alloc _ _).alloc _ _).alloc _ _).alloc _ _).alloc _ _).alloc _ _).alloc _ _).alloc _ _)⟩

theorem rop_3 (a b x y g l : Int) (sa sb : Bool) (c1 : (∀ w : World, Calls Try.prog 65 #[kn a sa] w fun e w' => e = .returned (kn x sa) ∧ w' = (w.alloc (.cells #[.int .i64 x, .bool sa] 65)).alloc (.cells #[.int .i64 x, .bool sa] 65))) (c2 : (∀ w : World, Calls Try.prog 65 #[kn b sb] w fun e w' => e = .returned (kn y sb) ∧ w' = (w.alloc (.cells #[.int .i64 y, .bool sb] 65)).alloc (.cells #[.int .i64 y, .bool sb] 65))) (lt : Bool) (hlt : decide (x < y) = lt) (hg : g = bif lt then y else x) (hl : l = bif lt then x else y) (g0 : 0 ≤ g) (g1 : g ≤ 17) (l0 : 0 ≤ l) (l1 : l ≤ 17) (u : Int) (cu : ∀ w : World, Calls Try.prog 66 #[.int .i64 (g + l)] w fun e w' => e = .returned (.int .i64 u) ∧ w' = w) (hz : (l == 0) = false) (w : World) :
  Calls Try.prog 52 #[.int .i64 3, kn a sa, kn b sb] w fun e w' => e = .returned (kn (u) (sa || sb)) ∧ More w w' := by
 unfold kn at *
 cases lt <;> cases sa
 all_goals
  simp only [cond_true, cond_false] at hg hl
  subst hg hl
  go_enter Try.func52, Try.ntmps52
  go_wp2_with (fail)
  refine (c1 _).mono ?_
  rintro e w1 ⟨rfl, rfl⟩
  go_wp2_with (fail)
  refine (c2 _).mono ?_
  rintro e w1 ⟨rfl, rfl⟩
  go_wp2_with (fail)
  refine (cu _).mono ?_
  rintro e w1 ⟨rfl, rfl⟩
  go_wp2
  exact bodyPost_ret (by simp [results, Try.results52, go_sem]) rfl ⟨rfl, (((((((((More.refl _).alloc _ _).alloc _ _).alloc _ _).alloc _ _).alloc _ _).alloc _ _).alloc _ _).alloc _ _)⟩
theorem rop_4 (a b x y g l : Int) (sa sb : Bool) (c1 : (∀ w : World, Calls Try.prog 65 #[kn a sa] w fun e w' => e = .returned (kn x sa) ∧ w' = (w.alloc (.cells #[.int .i64 x, .bool sa] 65)).alloc (.cells #[.int .i64 x, .bool sa] 65))) (c2 : (∀ w : World, Calls Try.prog 65 #[kn b sb] w fun e w' => e = .returned (kn y sb) ∧ w' = (w.alloc (.cells #[.int .i64 y, .bool sb] 65)).alloc (.cells #[.int .i64 y, .bool sb] 65))) (lt : Bool) (hlt : decide (x < y) = lt) (hg : g = bif lt then y else x) (hl : l = bif lt then x else y) (w : World) :
  Calls Try.prog 52 #[.int .i64 4, kn a sa, kn b sb] w fun e w' => e = .returned (kn (l) (sa || sb)) ∧ More w w' := by
 unfold kn at *
 cases lt <;> cases sa
 all_goals
  simp only [cond_true, cond_false] at hg hl
  subst hg hl
  go_enter Try.func52, Try.ntmps52
  go_wp2_with (fail)
  refine (c1 _).mono ?_
  rintro e w1 ⟨rfl, rfl⟩
  go_wp2_with (fail)
  refine (c2 _).mono ?_
  rintro e w1 ⟨rfl, rfl⟩
  go_wp2
  exact bodyPost_ret (by simp [results, Try.results52, go_sem]) rfl ⟨rfl, (((((((((More.refl _).alloc _ _).alloc _ _).alloc _ _).alloc _ _).alloc _ _).alloc _ _).alloc _ _).alloc _ _)⟩

theorem rop_5 (a b x y g l : Int) (sa sb : Bool) (c1 : (∀ w : World, Calls Try.prog 65 #[kn a sa] w fun e w' => e = .returned (kn x sa) ∧ w' = (w.alloc (.cells #[.int .i64 x, .bool sa] 65)).alloc (.cells #[.int .i64 x, .bool sa] 65))) (c2 : (∀ w : World, Calls Try.prog 65 #[kn b sb] w fun e w' => e = .returned (kn y sb) ∧ w' = (w.alloc (.cells #[.int .i64 y, .bool sb] 65)).alloc (.cells #[.int .i64 y, .bool sb] 65))) (lt : Bool) (hlt : decide (x < y) = lt) (hg : g = bif lt then y else x) (hl : l = bif lt then x else y) (w : World) :
  Calls Try.prog 52 #[.int .i64 5, kn a sa, kn b sb] w fun e w' => e = .returned (kn (g) (sa || sb)) ∧ More w w' := by
 unfold kn at *
 cases lt <;> cases sa
 all_goals
  simp only [cond_true, cond_false] at hg hl
  subst hg hl
  go_enter Try.func52, Try.ntmps52
  go_wp2_with (fail)
  refine (c1 _).mono ?_
  rintro e w1 ⟨rfl, rfl⟩
  go_wp2_with (fail)
  refine (c2 _).mono ?_
  rintro e w1 ⟨rfl, rfl⟩
  go_wp2
  exact bodyPost_ret (by simp [results, Try.results52, go_sem]) rfl ⟨rfl, (((((((((More.refl _).alloc _ _).alloc _ _).alloc _ _).alloc _ _).alloc _ _).alloc _ _).alloc _ _).alloc _ _)⟩

theorem rop_6 (a b x y g l : Int) (sa sb : Bool) (c1 : (∀ w : World, Calls Try.prog 65 #[kn a sa] w fun e w' => e = .returned (kn x sa) ∧ w' = (w.alloc (.cells #[.int .i64 x, .bool sa] 65)).alloc (.cells #[.int .i64 x, .bool sa] 65))) (c2 : (∀ w : World, Calls Try.prog 65 #[kn b sb] w fun e w' => e = .returned (kn y sb) ∧ w' = (w.alloc (.cells #[.int .i64 y, .bool sb] 65)).alloc (.cells #[.int .i64 y, .bool sb] 65))) (lt : Bool) (hlt : decide (x < y) = lt) (hg : g = bif lt then y else x) (hl : l = bif lt then x else y) (w : World) :
  Calls Try.prog 52 #[.int .i64 6, kn a sa, kn b sb] w fun e w' => e = .returned (kn (g) (sa || sb)) ∧ More w w' := by
 unfold kn at *
 cases lt <;> cases sa
 all_goals
  simp only [cond_true, cond_false] at hg hl
  subst hg hl
  go_enter Try.func52, Try.ntmps52
  go_wp2_with (fail)
  refine (c1 _).mono ?_
  rintro e w1 ⟨rfl, rfl⟩
  go_wp2_with (fail)
  refine (c2 _).mono ?_
  rintro e w1 ⟨rfl, rfl⟩
  go_wp2
  exact bodyPost_ret (by simp [results, Try.results52, go_sem]) rfl ⟨rfl, (((((((((More.refl _).alloc _ _).alloc _ _).alloc _ _).alloc _ _).alloc _ _).alloc _ _).alloc _ _).alloc _ _)⟩
theorem rop_8 (a b x y g l : Int) (sa sb : Bool) (c1 : (∀ w : World, Calls Try.prog 65 #[kn a sa] w fun e w' => e = .returned (kn x sa) ∧ w' = (w.alloc (.cells #[.int .i64 x, .bool sa] 65)).alloc (.cells #[.int .i64 x, .bool sa] 65))) (c2 : (∀ w : World, Calls Try.prog 65 #[kn b sb] w fun e w' => e = .returned (kn y sb) ∧ w' = (w.alloc (.cells #[.int .i64 y, .bool sb] 65)).alloc (.cells #[.int .i64 y, .bool sb] 65))) (lt : Bool) (hlt : decide (x < y) = lt) (hg : g = bif lt then y else x) (hl : l = bif lt then x else y) (w : World) :
  Calls Try.prog 52 #[.int .i64 8, kn a sa, kn b sb] w fun e w' => e = .returned (kn (x) (sa || sb)) ∧ More w w' := by
 unfold kn at *
 cases lt <;> cases sa
 all_goals
  simp only [cond_true, cond_false] at hg hl
  subst hg hl
  go_enter Try.func52, Try.ntmps52
  go_wp2_with (fail)
  refine (c1 _).mono ?_
  rintro e w1 ⟨rfl, rfl⟩
  go_wp2_with (fail)
  refine (c2 _).mono ?_
  rintro e w1 ⟨rfl, rfl⟩
  go_wp2
  exact bodyPost_ret (by simp [results, Try.results52, go_sem]) rfl ⟨rfl, (((((((((More.refl _).alloc _ _).alloc _ _).alloc _ _).alloc _ _).alloc _ _).alloc _ _).alloc _ _).alloc _ _)⟩

theorem rop_9 (a b x y g l : Int) (sa sb : Bool) (c1 : (∀ w : World, Calls Try.prog 65 #[kn a sa] w fun e w' => e = .returned (kn x sa) ∧ w' = (w.alloc (.cells #[.int .i64 x, .bool sa] 65)).alloc (.cells #[.int .i64 x, .bool sa] 65))) (c2 : (∀ w : World, Calls Try.prog 65 #[kn b sb] w fun e w' => e = .returned (kn y sb) ∧ w' = (w.alloc (.cells #[.int .i64 y, .bool sb] 65)).alloc (.cells #[.int .i64 y, .bool sb] 65))) (lt : Bool) (hlt : decide (x < y) = lt) (hg : g = bif lt then y else x) (hl : l = bif lt then x else y) (w : World) :
  Calls Try.prog 52 #[.int .i64 9, kn a sa, kn b sb] w fun e w' => e = .returned (kn (x) (sa || sb)) ∧ More w w' := by
 unfold kn at *
 cases lt <;> cases sa
 all_goals
  simp only [cond_true, cond_false] at hg hl
  subst hg hl
  go_enter Try.func52, Try.ntmps52
  go_wp2_with (fail)
  refine (c1 _).mono ?_
  rintro e w1 ⟨rfl, rfl⟩
  go_wp2_with (fail)
  refine (c2 _).mono ?_
  rintro e w1 ⟨rfl, rfl⟩
  go_wp2
  exact bodyPost_ret (by simp [results, Try.results52, go_sem]) rfl ⟨rfl, (((((((((More.refl _).alloc _ _).alloc _ _).alloc _ _).alloc _ _).alloc _ _).alloc _ _).alloc _ _).alloc _ _)⟩

theorem rop_10 (a b x y g l : Int) (sa sb : Bool) (c1 : (∀ w : World, Calls Try.prog 65 #[kn a sa] w fun e w' => e = .returned (kn x sa) ∧ w' = (w.alloc (.cells #[.int .i64 x, .bool sa] 65)).alloc (.cells #[.int .i64 x, .bool sa] 65))) (c2 : (∀ w : World, Calls Try.prog 65 #[kn b sb] w fun e w' => e = .returned (kn y sb) ∧ w' = (w.alloc (.cells #[.int .i64 y, .bool sb] 65)).alloc (.cells #[.int .i64 y, .bool sb] 65))) (lt : Bool) (hlt : decide (x < y) = lt) (hg : g = bif lt then y else x) (hl : l = bif lt then x else y) (w : World) :
  Calls Try.prog 52 #[.int .i64 10, kn a sa, kn b sb] w fun e w' => e = .returned (kn (x) (sa || sb)) ∧ More w w' := by
 unfold kn at *
 cases lt <;> cases sa
 all_goals
  simp only [cond_true, cond_false] at hg hl
  subst hg hl
  go_enter Try.func52, Try.ntmps52
  go_wp2_with (fail)
  refine (c1 _).mono ?_
  rintro e w1 ⟨rfl, rfl⟩
  go_wp2_with (fail)
  refine (c2 _).mono ?_
  rintro e w1 ⟨rfl, rfl⟩
  go_wp2
  exact bodyPost_ret (by simp [results, Try.results52, go_sem]) rfl ⟨rfl, (((((((((More.refl _).alloc _ _).alloc _ _).alloc _ _).alloc _ _).alloc _ _).alloc _ _).alloc _ _).alloc _ _)⟩

theorem rop_other (a b x y g l : Int) (sa sb : Bool) (c1 : (∀ w : World, Calls Try.prog 65 #[kn a sa] w fun e w' => e = .returned (kn x sa) ∧ w' = (w.alloc (.cells #[.int .i64 x, .bool sa] 65)).alloc (.cells #[.int .i64 x, .bool sa] 65))) (c2 : (∀ w : World, Calls Try.prog 65 #[kn b sb] w fun e w' => e = .returned (kn y sb) ∧ w' = (w.alloc (.cells #[.int .i64 y, .bool sb] 65)).alloc (.cells #[.int .i64 y, .bool sb] 65))) (lt : Bool) (hlt : decide (x < y) = lt) (hg : g = bif lt then y else x) (hl : l = bif lt then x else y) (op : Int) (h1 : ¬ op = 1) (h3 : ¬ op = 3) (h4 : ¬ op = 4) (h5 : ¬ op = 5) (h6 : ¬ op = 6) (h8 : ¬ op = 8) (h9 : ¬ op = 9) (h10 : ¬ op = 10) (w : World) :
  Calls Try.prog 52 #[.int .i64 op, kn a sa, kn b sb] w fun e w' => e = .returned (kn (17) (sa || sb)) ∧ More w w' := by
 unfold kn at *
 have e1 : (op == 1) = false := by simp [h1]
 have e3 : (op == 3) = false := by simp [h3]
 have e4 : (op == 4) = false := by simp [h4]
 have e5 : (op == 5) = false := by simp [h5]
 have e6 : (op == 6) = false := by simp [h6]
 have e8 : (op == 8) = false := by simp [h8]
 have e9 : (op == 9) = false := by simp [h9]
 have e10 : (op == 10) = false := by simp [h10]
 clear h1 h3 h4 h5 h6 h8 h9 h10
 cases lt <;> cases sa
 all_goals
  simp only [cond_true, cond_false] at hg hl
  subst hg hl
  go_enter Try.func52, Try.ntmps52
  go_wp2_with (fail)
  refine (c1 _).mono ?_
  rintro e w1 ⟨rfl, rfl⟩
  go_wp2_with (fail)
  refine (c2 _).mono ?_
  rintro e w1 ⟨rfl, rfl⟩
  go_wp2
  exact bodyPost_ret (by simp [results, Try.results52, go_sem]) rfl ⟨rfl, (((((((((More.refl _).alloc _ _).alloc _ _).alloc _ _).alloc _ _).alloc _ _).alloc _ _).alloc _ _).alloc _ _)⟩
/-- evenkeelref5.Op. -/
theorem rop_calls (op a b : Int) (sa sb : Bool) (w : World) :
  Calls Try.prog 52 #[.int .i64 op, kn a sa, kn b sb] w fun e w' => e = .returned (kn (opB op (bnd a) (bnd b)) (sa || sb)) ∧ More w w' := by
 have ra := bnd_range a
 have rb := bnd_range b
 have c1 := read_calls a sa
 have c2 := read_calls b sb
 generalize bnd a = x at *
 generalize bnd b = y at *
 have hg : max x y = bif decide (x < y) then y else x := by by_cases h : x < y <;> simp [h] <;> omega
 have hl : min x y = bif decide (x < y) then x else y := by by_cases h : x < y <;> simp [h] <;> omega
 by_cases q1 : op = 1
 ·subst q1
  by_cases hz : x = 0 ∨ y = 0
  ·rw [show opB 1 x y = max x y by simp [opB, hz]]
   exact rop_1z a b x y _ _ sa sb c1 c2 _ rfl hg hl (by omega) (by omega) (by omega) (by omega) _ (fun w => upTo_calls _ (by omega) w) (by rw [beq_iff_eq]; omega) w
  ·rw [show opB 1 x y = bnd (max x y + 1) by simp [opB, hz]]
   exact rop_1 a b x y _ _ sa sb c1 c2 _ rfl hg hl (by omega) (by omega) (by omega) (by omega) _ (fun w => upTo_calls _ (by omega) w) (by rw [beq_eq_false_iff_ne]; omega) w
 by_cases q3 : op = 3
 ·subst q3
  by_cases hz : x = 0 ∨ y = 0
  ·rw [show opB 3 x y = 0 by simp [opB, hz]]
   exact rop_3z a b x y _ _ sa sb c1 c2 _ rfl hg hl (by omega) (by omega) (by omega) (by omega) _ (fun w => upTo_calls _ (by omega) w) (by rw [beq_iff_eq]; omega) w
  ·rw [show opB 3 x y = bnd (max x y + min x y) by rw [show max x y + min x y = x + y by omega]; simp [opB, hz]]
   exact rop_3 a b x y _ _ sa sb c1 c2 _ rfl hg hl (by omega) (by omega) (by omega) (by omega) _ (fun w => upTo_calls _ (by omega) w) (by rw [beq_eq_false_iff_ne]; omega) w
 by_cases q4 : op = 4
 ·subst q4; exact rop_4 a b x y _ _ sa sb c1 c2 _ rfl hg hl w
 by_cases q5 : op = 5
 ·subst q5; exact rop_5 a b x y _ _ sa sb c1 c2 _ rfl hg hl w
 by_cases q6 : op = 6
 ·subst q6; exact rop_6 a b x y _ _ sa sb c1 c2 _ rfl hg hl w
 by_cases q8 : op = 8
 ·subst q8; exact rop_8 a b x y _ _ sa sb c1 c2 _ rfl hg hl w
 by_cases q9 : op = 9
 ·subst q9; exact rop_9 a b x y _ _ sa sb c1 c2 _ rfl hg hl w
 by_cases q10 : op = 10
 ·subst q10; exact rop_10 a b x y _ _ sa sb c1 c2 _ rfl hg hl w
 ·rw [show opB op x y = 17 by unfold opB; rw [if_neg q1, if_neg q3, if_neg q4, if_neg (by omega), if_neg (by omega)]]
  exact rop_other a b x y _ _ sa sb c1 c2 _ rfl hg hl op q1 q3 q4 q5 q6 q8 q9 q10 w
end
section
open Go.RowKit
set_option linter.unusedSimpArgs false
set_option linter.unusedVariables false
set_option maxRecDepth 8000
theorem index_neg (a n : Int) (s : Bool) (h : n < 0) (w : World) :
  Calls Try.prog 25 #[kn a s, .int .i64 n] w fun e w' => e = .returned (kn 17 s) ∧ More w w' := by
 unfold kn
 go_enter Try.func25, Try.ntmps25
 go_wp2
 exact bodyPost_ret (by simp [results, Try.results25, go_sem]) rfl ⟨rfl, ((More.refl _).alloc _ _).alloc _ _⟩

theorem index_pos (a n f r : Int) (s s' : Bool) (h : ¬ n < 0)
  (c1 : ∀ w : World, Calls Try.prog 50 #[.int .i64 n] w fun e w' => e = .returned (kn f false) ∧ More w w')
  (c2 : ∀ w : World, Calls Try.prog 52 #[.int .i64 1, kn a s, kn f false] w fun e w' => e = .returned (kn r s') ∧ More w w') (w : World) :
  Calls Try.prog 25 #[kn a s, .int .i64 n] w fun e w' => e = .returned (kn r s') ∧ More w w' := by
 unfold kn at *
 have hn : decide (n < 0) = false := by simp; omega
 clear h
 go_enter Try.func25, Try.ntmps25
 go_wp2_with (fail)
 refine (c1 _).mono ?_
 rintro e w1 ⟨rfl, m1⟩
 have a0 : w1.cell? ⟨w.heap.size, 0, none⟩ = some (.int .i64 a) := m1.cell (by go_simp)
 have a1 : w1.cell? ⟨w.heap.size, 1, none⟩ = some (.bool s) := m1.cell (by go_simp)
 have Hb1 : Hid (Blk w1 (w.heap.size + 1) #[.int .i64 0, .bool false] 65) := (by simpa using Blk.last (w.alloc (.cells #[.int .i64 a, .bool s] 65)) #[.int .i64 0, .bool false] 65 : Blk _ (w.heap.size + 1) _ _).more m1
 have Hm1 : Hid (More w w1) := (((More.refl _).alloc _ _).alloc _ _).trans m1
 have za : w.heap.size < w1.heap.size := cell_block a0
 clear m1
 go_wp2_with (fail)
 refine (c2 _).mono ?_
 rintro e w2 ⟨rfl, m2⟩
 have hblk := Hb1.out.more (((More.refl _).alloc _ _).trans m2)
 have d0 := hblk.cell (j := 0) rfl
 have d1 := hblk.cell (j := 1) rfl
 have f0 := hblk.frozen 0
 have f1 := hblk.frozen 1
 have Hm2 : Hid (More w w2) := (Hm1.out.alloc _ _).trans m2
 clear m2 hblk
 go_wp2
 exact bodyPost_ret (by simp [results, Try.results25, go_sem, *]) rfl ⟨rfl, (Hm2.out.setCell (by simp) _).setCell (by simp) _⟩

/-- evenkeelref6.index. -/
theorem index_calls (k : Kn) (n : Int) (n0 : -9223372036854775808 ≤ n) (n1 : n ≤ 9223372036854775807) (w : World) :
  Calls Try.prog 25 #[kn k.b k.s, .int .i64 n] w fun e w' => e = .returned (kn (Kn.index k n).b (Kn.index k n).s) ∧ More w w' := by
 by_cases h : n < 0
 ·have e : Kn.index k n = ⟨17, k.s⟩ := by unfold Kn.index; rw [if_pos h]
  rw [e]; exact index_neg k.b n k.s h w
 ·have e : Kn.index k n = Kn.op 1 k (Kn.of n) := by unfold Kn.index; rw [if_neg h]
  rw [e]
  exact index_pos k.b n (fitI n) _ k.s _ h (fun w => rof_calls n n0 n1 w) (rop_calls 1 k.b (fitI n) k.s false) w

set_option maxHeartbeats 1000000 in
/-- evenkeelref6.less. -/
theorem less6_calls (b : Bool) (g c : Nat) (s : KS) (r : Int) (x y : Kn) (w : World) (h : KRow w g s) (r0 : 0 ≤ r) (r1 : r < 8) :
  Calls Try.prog 49 #[st b g c, .int .i64 r, kn x.b x.s, kn y.b y.s] w fun e w' => ∃ g' c', e = .returned (st b g' c') ∧ w.heap.size ≤ g' ∧ KRow w' g' (setK s r (Kn.less x y)) ∧ More w w' := by
 have H : Hid (KRow w g s) := h
 obtain ⟨v, hv⟩ : ∃ v, Kn.less x y = v := ⟨_, rfl⟩
 have c2 : ∀ w : World, Calls Try.prog 51 #[kn x.b x.s, kn y.b y.s] w fun e w' => e = .returned (kn v.b v.s) ∧ More w w' := fun w => hv ▸ rless_calls x.b y.b x.s y.s w
 rw [hv]
 obtain ⟨xb, xs⟩ := x
 obtain ⟨yb, ys⟩ := y
 obtain ⟨vb, vs⟩ := v
 clear h hv
 unfold st kn at *
 dsimp only at *
 go_enter Try.func49, Try.ntmps49
 go_wp2_with (fail)
 refine (copied_calls b g c s _ (H.out.more ((((More.refl _).alloc _ _).alloc _ _).alloc _ _ |>.alloc _ _))).mono ?_
 rintro e w1 ⟨g1, c1, rfl, hg1, hr1, m1⟩
 have Hx : Hid (Blk w1 (w.heap.size + 1) #[.int .i64 xb, .bool xs] 65) := ((by simpa using Blk.last (w.alloc (.cells #[.bool b, .slice (some ⟨g, 0, none⟩) 8 c] 57)) #[.int .i64 xb, .bool xs] 65 : Blk _ (w.heap.size + 1) _ _).more (((More.refl _).alloc _ _).alloc _ _)).more m1
 have Hy : Hid (Blk w1 (w.heap.size + 1 + 1) #[.int .i64 yb, .bool ys] 65) := ((by simpa using Blk.last ((w.alloc (.cells #[.bool b, .slice (some ⟨g, 0, none⟩) 8 c] 57)).alloc (.cells #[.int .i64 xb, .bool xs] 65)) #[.int .i64 yb, .bool ys] 65 : Blk _ (w.heap.size + 1 + 1) _ _).more ((More.refl _).alloc _ _)).more m1
 have Hres : Hid (Blk w1 (w.heap.size + 1 + 1 + 1) #[.bool false, .slice none 0 0] 57) := (by simpa using Blk.last (((w.alloc (.cells #[.bool b, .slice (some ⟨g, 0, none⟩) 8 c] 57)).alloc (.cells #[.int .i64 xb, .bool xs] 65)).alloc (.cells #[.int .i64 yb, .bool ys] 65)) #[.bool false, .slice none 0 0] 57 : Blk _ (w.heap.size + 1 + 1 + 1) _ _).more m1
 have Hm1 : Hid (More w w1) := ((((More.refl _).alloc _ _).alloc _ _).alloc _ _ |>.alloc _ _).trans m1
 have Hr1 : Hid (KRow w1 g1 s) := hr1
 have Hg1 : Hid (w.heap.size + 4 ≤ g1) := by show _ ≤ _; simpa using hg1
 clear m1 hr1 hg1
 obtain ⟨W1, HW1⟩ : ∃ W1 : World, Hid (W1 = w1.alloc (.cells #[.bool b, .slice (some ⟨g1, 0, none⟩) 8 c1] 57)) := ⟨_, rfl⟩
 have HmW : Hid (More w1 W1) := HW1.out ▸ (More.refl _).alloc _ _
 have HbW : Hid (Blk W1 w1.heap.size #[.bool b, .slice (some ⟨g1, 0, none⟩) 8 c1] 57) := HW1.out ▸ Blk.last _ _ _
 obtain ⟨S, HS⟩ : ∃ S : World → Prop, Hid (∀ w', S w' ↔ (Blk w' (w.heap.size + 1) #[.int .i64 xb, .bool xs] 65 ∧ Blk w' (w.heap.size + 1 + 1) #[.int .i64 yb, .bool ys] 65 ∧ Blk w' w1.heap.size #[.bool b, .slice (some ⟨g1, 0, none⟩) 8 c1] 57)) := ⟨_, fun _ => Iff.rfl⟩
 have HSm : Hid (∀ w', More W1 w' → S w') := fun w' m => (HS.out _).2 ⟨Hx.out.more (HmW.out.trans m), Hy.out.more (HmW.out.trans m), HbW.out.more m⟩
 have HS0 : S W1.drew := HSm.out _ (More.refl _).drew
 have hne : Nonempty { w' // S w' } := ⟨⟨_, HS0⟩⟩
 have k0 : ∀ i : { w' // S w' }, i.val.cell? ⟨w.heap.size + 1, 0, none⟩ = some (.int .i64 xb) := fun i => ((HS.out _).1 i.property).1.cell rfl
 have k1 : ∀ i : { w' // S w' }, i.val.cell? ⟨w.heap.size + 1, 1, none⟩ = some (.bool xs) := fun i => ((HS.out _).1 i.property).1.cell rfl
 have k2 : ∀ i : { w' // S w' }, i.val.cell? ⟨w.heap.size + 1 + 1, 0, none⟩ = some (.int .i64 yb) := fun i => ((HS.out _).1 i.property).2.1.cell rfl
 have k3 : ∀ i : { w' // S w' }, i.val.cell? ⟨w.heap.size + 1 + 1, 1, none⟩ = some (.bool ys) := fun i => ((HS.out _).1 i.property).2.1.cell rfl
 have k4 : ∀ i : { w' // S w' }, i.val.cell? ⟨w1.heap.size, 1, none⟩ = some (.slice (some ⟨g1, 0, none⟩) 8 c1) := fun i => ((HS.out _).1 i.property).2.2.cell rfl
 go_wp2_with (fail)
 rw [← HW1.out]
 refine wp_region_ord (S := S) [(0, true), (1, true), (2, true), (3, true), (4, true), (5, false), (6, true), (7, false)] (by kernel_rfl) (by kernel_rfl) (by kernel_rfl) HS0 ?_
 iterate 5 (refine wpOrd_take rfl (by kernel_rfl) (fun K hK => ?_); go_simp; refine hK _ _ ?_; clear hK K)
 refine wpOrd_busy rfl (by kernel_rfl) (fun K hK => ?_); go_simp
 refine (c2 _).mono ?_
 rintro e w2 ⟨rfl, m2⟩
 have HS2 : S w2 := HSm.out _ ((More.refl _).drew.trans m2)
 have Hm2 : Hid (More W1 w2) := (More.refl _).drew.trans m2
 clear m2
 go_simp
 refine hK _ _ HS2 ?_; clear hK K
 (refine wpOrd_take rfl (by kernel_rfl) (fun K hK => ?_); go_simp; refine hK _ _ ?_; clear hK K)
 have Hrow : Hid (KRow w2 g1 s) := Hr1.out.more (HmW.out.trans Hm2.out)
 have hr : r.toNat < 8 := by omega
 have q := Hrow.out r.toNat hr
 have q0 := q.1.1
 have q1 := q.1.2
 have q2 := q.2.1
 have q3 := q.2.2
 have hne1 : g1 ≠ w1.heap.size := by have := Hr1.out.lt; omega
 obtain ⟨w3, Hw3⟩ : ∃ w3, Hid (w3 = (w2.setCell ⟨g1, r.toNat * 2, none⟩ (.int .i64 vb)).setCell ⟨g1, r.toNat * 2 + 1, none⟩ (.bool vs)) := ⟨_, rfl⟩
 have Hrow3 : Hid (KRow w3 g1 (setK s r ⟨vb, vs⟩)) := Hw3.out ▸ Hrow.out.set r ⟨vb, vs⟩ hr
 have Hb3 : Hid (Blk w3 w1.heap.size #[.bool b, .slice (some ⟨g1, 0, none⟩) 8 c1] 57) := Hw3.out ▸ ((HbW.out.more Hm2.out).other hne1 _ _).other hne1 _ _
 have Hres3 : Hid (Blk w3 (w.heap.size + 1 + 1 + 1) #[.bool false, .slice none 0 0] 57) := Hw3.out ▸ ((Hres.out.more (HmW.out.trans Hm2.out)).other (by have := Hg1.out; omega) _ _).other (by have := Hg1.out; omega) _ _
 have Hm3 : Hid (More w w3) := Hw3.out ▸ (((Hm1.out.trans HmW.out).trans Hm2.out).setCell (by have := Hg1.out; dsimp only; omega) _).setCell (by have := Hg1.out; dsimp only; omega) _
 have HS3 : S w3 := (HS.out _).2 ⟨Hw3.out ▸ ((Hx.out.more (HmW.out.trans Hm2.out)).other (by have := Hg1.out; omega) _ _).other (by have := Hg1.out; omega) _ _, Hw3.out ▸ ((Hy.out.more (HmW.out.trans Hm2.out)).other (by have := Hg1.out; omega) _ _).other (by have := Hg1.out; omega) _ _, Hb3.out⟩
 refine wpOrd_busy rfl (by kernel_rfl) (fun K hK => ?_); go_simp
 rw [← Hw3.out]
 refine hK _ _ HS3 ?_; clear hK K
 refine wpOrd_done ?_
 clear k0 k1 k2 k3 k4 hne HS0 HS2 HS3 q q0 q1 q2 q3
 have p0 := Hb3.out.cell (j := 0) rfl
 have p1 := Hb3.out.cell (j := 1) rfl
 have t0 := Hres3.out.cell (j := 0) rfl
 have t1 := Hres3.out.cell (j := 1) rfl
 have u0 := Hres3.out.frozen 0
 have u1 := Hres3.out.frozen 1
 go_wp2
 refine bodyPost_ret (by simp [results, Try.results49, go_sem, *]) rfl ⟨g1, c1, rfl, by have := Hg1.out; omega, ?_, ?_⟩
 ·exact (Hrow3.out.other (by have := Hg1.out; omega) _ _).other (by have := Hg1.out; omega) _ _
 ·exact (Hm3.out.setCell (by dsimp only; omega) _).setCell (by dsimp only; omega) _
theorem join_none (av : Value) (hav : ∃ a n c, av = .slice a n c) (b : Bool) (g c : Nat) (s : KS) (w : World) (h : KRow w g s) :
  Calls Try.prog 46 #[.agg #[.bool false, av], st b g c] w fun e w' => ∃ g' c', e = .returned (st b g' c') ∧ w.heap.size ≤ g' ∧ KRow w' g' s ∧ More w w' := by
 have H : Hid (KRow w g s) := h
 clear h
 obtain ⟨a, n, ca, rfl⟩ := hav
 unfold st
 go_enter Try.func46, Try.ntmps46
 go_wp2_with (fail)
 refine (copied_calls b g c s _ (H.out.more (((More.refl _).alloc _ _).alloc _ _ |>.alloc _ _))).mono ?_
 rintro e w1 ⟨g1, c1, rfl, hg1, hr1, m1⟩
 have Hres : Hid (Blk w1 (w.heap.size + 1 + 1) #[.bool false, .slice none 0 0] 57) := (by simpa using Blk.last ((w.alloc (.cells #[.bool false, .slice a n ca] 57)).alloc (.cells #[.bool b, .slice (some ⟨g, 0, none⟩) 8 c] 57)) #[.bool false, .slice none 0 0] 57 : Blk _ (w.heap.size + 1 + 1) _ _).more m1
 have Hm1 : Hid (More w w1) := (((More.refl _).alloc _ _).alloc _ _ |>.alloc _ _).trans m1
 have Hr1 : Hid (KRow w1 g1 s) := hr1
 have Hg1 : Hid (w.heap.size + 3 ≤ g1) := by show _ ≤ _; simpa using hg1
 clear m1 hr1 hg1
 have t0 := Hres.out.cell (j := 0) rfl
 have t1 := Hres.out.cell (j := 1) rfl
 have u0 := Hres.out.frozen 0
 have u1 := Hres.out.frozen 1
 unfold st
 go_wp2
 refine bodyPost_ret (by simp [results, Try.results46, go_sem, *]) rfl ⟨g1, c1, rfl, by have := Hg1.out; omega, ?_, ?_⟩
 ·exact (Hr1.out.other (by have := Hg1.out; omega) _ _).other (by have := Hg1.out; omega) _ _
 ·exact (Hm1.out.setCell (by dsimp only; omega) _).setCell (by dsimp only; omega) _

/-- So many registers are joined. -/
def joinTo (s t : KS) (k : Nat) : KS := fun j => if j < k then Kn.join (s j) (t j) else s j

/-- What a round of join leaves as it was. -/
structure JFix (n ga ca gb cb g1 c1 n1 : Nat) (sa sb : KS) (b b' : Bool) (w : World) : Prop where
 fa : Blk w n #[.bool b, .slice (some ⟨ga, 0, none⟩) 8 ca] 57
 fb : Blk w (n + 1) #[.bool b', .slice (some ⟨gb, 0, none⟩) 8 cb] 57
 fr : Blk w (n + 1 + 1) #[.bool false, .slice none 0 0] 57
 fs : Blk w n1 #[.bool b, .slice (some ⟨g1, 0, none⟩) 8 c1] 57
 ka : KRow w ga sa
 kb : KRow w gb sb
theorem JFix.more {n ga ca gb cb g1 c1 n1 : Nat} {sa sb : KS} {b b' : Bool} {w w' : World} (m : More w w') (h : JFix n ga ca gb cb g1 c1 n1 sa sb b b' w) : JFix n ga ca gb cb g1 c1 n1 sa sb b b' w' :=
 ⟨h.fa.more m, h.fb.more m, h.fr.more m, h.fs.more m, h.ka.more m, h.kb.more m⟩
theorem JFix.set {n ga ca gb cb g1 c1 n1 : Nat} {sa sb : KS} {b b' : Bool} {w : World} (h : JFix n ga ca gb cb g1 c1 n1 sa sb b b' w) (h1 : n + 1 + 1 < g1) (h2 : g1 ≠ n1) (h3 : g1 ≠ ga) (h4 : g1 ≠ gb) (o : Nat) (v : Value) :
  JFix n ga ca gb cb g1 c1 n1 sa sb b b' (w.setCell ⟨g1, o, none⟩ v) :=
 ⟨h.fa.other (by omega) _ _, h.fb.other (by omega) _ _, h.fr.other (by omega) _ _, h.fs.other h2 _ _, h.ka.other h3 _ _, h.kb.other h4 _ _⟩

set_option maxHeartbeats 2000000 in
theorem join_some (b b' : Bool) (ga ca gb cb : Nat) (sa sb : KS) (w : World) (ha : KRow w ga sa) (hb : KRow w gb sb) (hbt : b = true) :
  Calls Try.prog 46 #[st b ga ca, st b' gb cb] w fun e w' => ∃ g' c', e = .returned (st b g' c') ∧ w.heap.size ≤ g' ∧ KRow w' g' (fun j => Kn.join (sa j) (sb j)) ∧ More w w' := by
 have Ha : Hid (KRow w ga sa) := ha
 have Hb : Hid (KRow w gb sb) := hb
 clear ha hb
 have Cj : Hid (∀ (x y : Kn) (w : World), Calls Try.prog 63 #[kn x.b x.s, kn y.b y.s] w fun e w' => e = .returned (kn (Kn.join x y).b (Kn.join x y).s) ∧ More w w') := fun x y w => rjoin_calls x.b y.b x.s y.s w
 subst hbt
 unfold st
 go_enter Try.func46, Try.ntmps46
 go_wp2_with (fail)
 refine (copied_calls true ga ca sa _ (Ha.out.more (((More.refl _).alloc _ _).alloc _ _ |>.alloc _ _))).mono ?_
 rintro e w1 ⟨g1, c1, rfl, hg1, hr1, m1⟩
 obtain ⟨W1, HW1⟩ : ∃ W1 : World, Hid (W1 = w1.alloc (.cells #[.bool true, .slice (some ⟨g1, 0, none⟩) 8 c1] 57)) := ⟨_, rfl⟩
 have HF : Hid (JFix w.heap.size ga ca gb cb g1 c1 w1.heap.size sa sb true b' W1) := by
  have mW : More w1 W1 := HW1.out ▸ (More.refl _).alloc _ _
  have e0 : Blk (((w.alloc (.cells #[.bool true, .slice (some ⟨ga, 0, none⟩) 8 ca] 57)).alloc (.cells #[.bool b', .slice (some ⟨gb, 0, none⟩) 8 cb] 57)).alloc (.cells #[.bool false, .slice none 0 0] 57)) w.heap.size #[.bool true, .slice (some ⟨ga, 0, none⟩) 8 ca] 57 := (Blk.last _ _ _).more (((More.refl _).alloc _ _).alloc _ _)
  have e1 : Blk (((w.alloc (.cells #[.bool true, .slice (some ⟨ga, 0, none⟩) 8 ca] 57)).alloc (.cells #[.bool b', .slice (some ⟨gb, 0, none⟩) 8 cb] 57)).alloc (.cells #[.bool false, .slice none 0 0] 57)) (w.heap.size + 1) #[.bool b', .slice (some ⟨gb, 0, none⟩) 8 cb] 57 := (by simpa using Blk.last (w.alloc (.cells #[.bool true, .slice (some ⟨ga, 0, none⟩) 8 ca] 57)) #[.bool b', .slice (some ⟨gb, 0, none⟩) 8 cb] 57 : Blk _ (w.heap.size + 1) _ _).more ((More.refl _).alloc _ _)
  have e2 : Blk (((w.alloc (.cells #[.bool true, .slice (some ⟨ga, 0, none⟩) 8 ca] 57)).alloc (.cells #[.bool b', .slice (some ⟨gb, 0, none⟩) 8 cb] 57)).alloc (.cells #[.bool false, .slice none 0 0] 57)) (w.heap.size + 1 + 1) #[.bool false, .slice none 0 0] 57 := by simpa using Blk.last ((w.alloc (.cells #[.bool true, .slice (some ⟨ga, 0, none⟩) 8 ca] 57)).alloc (.cells #[.bool b', .slice (some ⟨gb, 0, none⟩) 8 cb] 57)) #[.bool false, .slice none 0 0] 57
  have m0 := (((More.refl w).alloc #[.bool true, .slice (some ⟨ga, 0, none⟩) 8 ca] 57).alloc #[.bool b', .slice (some ⟨gb, 0, none⟩) 8 cb] 57 |>.alloc #[.bool false, .slice none 0 0] 57).trans (m1.trans mW)
  exact ⟨e0.more (m1.trans mW), e1.more (m1.trans mW), e2.more (m1.trans mW), HW1.out ▸ Blk.last _ _ _, Ha.out.more m0, Hb.out.more m0⟩
 have HK : Hid (KRow W1 g1 sa) := hr1.more (HW1.out ▸ (More.refl _).alloc _ _)
 have HM : Hid (More w W1) := ((((More.refl _).alloc _ _).alloc _ _ |>.alloc _ _).trans m1).trans (HW1.out ▸ (More.refl _).alloc _ _)
 have HG : Hid (w.heap.size + 3 ≤ g1 ∧ g1 < w1.heap.size) := ⟨by simpa using hg1, hr1.lt⟩
 have HA : Hid (ga < w.heap.size ∧ gb < w.heap.size) := ⟨Ha.out.lt, Hb.out.lt⟩
 clear m1 hr1 hg1
 go_wp2_with (fail)
 rw [← HW1.out]
 go_loopg [6] 8 (fun g iv wr => ∃ k : Nat, k + g = 8 ∧ iv = .int .i64 k ∧ Hid (JFix w.heap.size ga ca gb cb g1 c1 w1.heap.size sa sb true b' wr ∧ KRow wr g1 (joinTo sa sb k) ∧ More w wr))
 case atStart => exact ⟨0, by omega, rfl, HF.out, HK.out.congr (fun j _ => by simp [joinTo]), HM.out⟩
 case round =>
  obtain ⟨k, hkg, rfl, Hr⟩ := hrel
  have a1 := Hr.out.1.fa.cell (j := 1) rfl
  have b1 := Hr.out.1.fb.cell (j := 1) rfl
  have s0 := Hr.out.1.fs.cell (j := 0) rfl
  have s1 := Hr.out.1.fs.cell (j := 1) rfl
  cases gk with
  | zero =>
   obtain rfl : k = 8 := by omega
   have t0 := Hr.out.1.fr.cell (j := 0) rfl
   have t1 := Hr.out.1.fr.cell (j := 1) rfl
   have u0 := Hr.out.1.fr.frozen 0
   have u1 := Hr.out.1.fr.frozen 1
   go_wp2
   refine bodyPost_ret (by simp [results, Try.results46, go_sem, *]) rfl ⟨g1, ⟨c1, rfl⟩, by have := HG.out; omega, ?_, ?_⟩
   ·exact ((Hr.out.2.1.congr (fun j hj => by simp [joinTo, hj])).other (by have := HG.out; omega) _ _).other (by have := HG.out; omega) _ _
   ·exact (Hr.out.2.2.setCell (by dsimp only; omega) _).setCell (by dsimp only; omega) _
  | succ g =>
   have hk8 : k < 8 := by omega
   have hki : (k : Int) < 8 := by omega
   obtain ⟨S, HS⟩ : ∃ S : World → Prop, Hid (∀ w', S w' ↔ JFix w.heap.size ga ca gb cb g1 c1 w1.heap.size sa sb true b' w') := ⟨_, fun _ => Iff.rfl⟩
   have HS0 : S wr.drew := (HS.out _).2 (Hr.out.1.more (More.refl _).drew)
   have hne : Nonempty { w' // S w' } := ⟨⟨_, HS0⟩⟩
   have k0 : ∀ i : { w' // S w' }, i.val.cell? ⟨w.heap.size, 1, none⟩ = some (.slice (some ⟨ga, 0, none⟩) 8 ca) := fun i => ((HS.out _).1 i.property).fa.cell rfl
   have k1 : ∀ i : { w' // S w' }, i.val.cell? ⟨w.heap.size + 1, 1, none⟩ = some (.slice (some ⟨gb, 0, none⟩) 8 cb) := fun i => ((HS.out _).1 i.property).fb.cell rfl
   have k2 : ∀ i : { w' // S w' }, i.val.cell? ⟨w1.heap.size, 1, none⟩ = some (.slice (some ⟨g1, 0, none⟩) 8 c1) := fun i => ((HS.out _).1 i.property).fs.cell rfl
   obtain ⟨xa, hxa⟩ : ∃ x, sa k = x := ⟨_, rfl⟩
   obtain ⟨xb, hxb⟩ : ∃ x, sb k = x := ⟨_, rfl⟩
   have k3 : ∀ i : { w' // S w' }, i.val.cell? ⟨ga, k * 2, none⟩ = some (.int .i64 xa.b) := fun i => hxa ▸ (((HS.out _).1 i.property).ka k hk8).1.1
   have k4 : ∀ i : { w' // S w' }, i.val.cell? ⟨ga, k * 2 + 1, none⟩ = some (.bool xa.s) := fun i => hxa ▸ (((HS.out _).1 i.property).ka k hk8).1.2
   have k5 : ∀ i : { w' // S w' }, i.val.cell? ⟨gb, k * 2, none⟩ = some (.int .i64 xb.b) := fun i => hxb ▸ (((HS.out _).1 i.property).kb k hk8).1.1
   have k6 : ∀ i : { w' // S w' }, i.val.cell? ⟨gb, k * 2 + 1, none⟩ = some (.bool xb.s) := fun i => hxb ▸ (((HS.out _).1 i.property).kb k hk8).1.2
   obtain ⟨v, hv⟩ : ∃ v, Kn.join xa xb = v := ⟨_, rfl⟩
   have c2 : ∀ w : World, Calls Try.prog 63 #[kn xa.b xa.s, kn xb.b xb.s] w fun e w' => e = .returned (kn v.b v.s) ∧ More w w' := fun w => hv ▸ Cj.out xa xb w
   have Hv : Hid (Kn.join (sa k) (sb k) = v) := by rw [hxa, hxb]; exact hv
   clear hxa hxb hv
   obtain ⟨xab, xas⟩ := xa
   obtain ⟨xbb, xbs⟩ := xb
   obtain ⟨vb, vs⟩ := v
   unfold kn at c2
   dsimp only at k3 k4 k5 k6 c2
   go_wp2_with (fail)
   clear a1 b1 s0 s1
   refine wp_region_ord (S := S) [(0, true), (1, true), (2, true), (3, true), (4, true), (5, true), (6, true), (7, true), (8, true), (9, true), (10, true), (11, true), (12, true), (13, false), (14, true), (15, false)] (by kernel_rfl) (by kernel_rfl) (by kernel_rfl) HS0 ?_
   iterate 13 (refine wpOrd_take rfl (by kernel_rfl) (fun K hK => ?_); go_simp; refine hK _ _ ?_; clear hK K)
   refine wpOrd_busy rfl (by kernel_rfl) (fun K hK => ?_); go_simp
   refine (c2 _).mono ?_
   rintro e w2 ⟨rfl, m2⟩
   have Hm2 : Hid (More wr w2) := (More.refl _).drew.trans m2
   have HS2 : S w2 := (HS.out _).2 (Hr.out.1.more Hm2.out)
   clear m2
   go_simp
   refine hK _ _ HS2 ?_; clear hK K
   (refine wpOrd_take rfl (by kernel_rfl) (fun K hK => ?_); go_simp; refine hK _ _ ?_; clear hK K)
   have Hrow : Hid (KRow w2 g1 (joinTo sa sb k)) := Hr.out.2.1.more Hm2.out
   have q := Hrow.out k hk8
   have q0 := q.1.1
   have q1 := q.1.2
   have q2 := q.2.1
   have q3 := q.2.2
   obtain ⟨w3, Hw3⟩ : ∃ w3, Hid (w3 = (w2.setCell ⟨g1, k * 2, none⟩ (.int .i64 vb)).setCell ⟨g1, k * 2 + 1, none⟩ (.bool vs)) := ⟨_, rfl⟩
   have Hrow3 : Hid (KRow w3 g1 (joinTo sa sb (k + 1))) := by
    have h := Hrow.out.set (k : Int) ⟨vb, vs⟩ (by simpa using hk8)
    rw [Int.toNat_natCast] at h
    rw [Hw3.out]
    refine KRow.congr h (fun j hj => ?_)
    unfold setK joinTo
    rw [Int.toNat_natCast]
    by_cases e : j = k
    ·subst e; rw [if_pos rfl, if_pos (by omega), Hv.out]
    ·rw [if_neg e]
     by_cases e2 : j < k
     ·rw [if_pos e2, if_pos (by omega)]
     ·rw [if_neg e2, if_neg (by omega)]
   have hg := HG.out
   have hA := HA.out
   have HF3 : Hid (JFix w.heap.size ga ca gb cb g1 c1 w1.heap.size sa sb true b' w3) := Hw3.out ▸ ((Hr.out.1.more Hm2.out).set (by omega) (by omega) (by omega) (by omega) _ _).set (by omega) (by omega) (by omega) (by omega) _ _
   have Hm3 : Hid (More w w3) := Hw3.out ▸ (((Hr.out.2.2.trans Hm2.out).setCell (by dsimp only; omega) _).setCell (by dsimp only; omega) _)
   have HS3 : S w3 := (HS.out _).2 HF3.out
   clear hg hA
   refine wpOrd_busy rfl (by kernel_rfl) (fun K hK => ?_); go_simp
   rw [← Hw3.out]
   refine hK _ _ HS3 ?_; clear hK K
   refine wpOrd_done ?_
   clear k0 k1 k2 k3 k4 k5 k6 hne HS0 HS2 HS3 q q0 q1 q2 q3
   go_wp2
   go_roundg g
   case measure => omega
   case rel => exact ⟨k + 1, by omega, by first | rfl | simp, HF3.out, Hrow3.out, Hm3.out⟩
/-- What a call of leads leaves as it was. -/
structure LFix (n g c g1 c1 n8 : Nat) (rv cv : Value) (i : Ins) (s : KS) (rb ro rl : Nat) (log : Nat → Int) (sec : Nat → Bool) (w : World) : Prop where
 fp : Blk w n #[rv, cv] 25
 fs : Blk w (n + 1) #[.bool true, .slice (some ⟨g, 0, none⟩) 8 c] 57
 fi : Blk w (n + 1 + 1) #[.int .i64 i.op, .int .i64 i.a, .int .i64 i.b, .int .i64 i.c, .int .i64 i.n] 59
 ft : Blk w n8 #[.bool true, .slice (some ⟨g1, 0, none⟩) 8 c1] 57
 ks : KRow w g s
 regs : RegsAt w rb ro rl log sec
section
variable {n g c g1 c1 n8 rb ro rl : Nat} {rv cv : Value} {i : Ins} {s : KS} {log : Nat → Int} {sec : Nat → Bool} {w w' : World}
theorem LFix.more (m : More w w') (h : LFix n g c g1 c1 n8 rv cv i s rb ro rl log sec w) : LFix n g c g1 c1 n8 rv cv i s rb ro rl log sec w' :=
 ⟨h.fp.more m, h.fs.more m, h.fi.more m, h.ft.more m, h.ks.more m, h.regs.more m⟩
theorem LFix.set (h : LFix n g c g1 c1 n8 rv cv i s rb ro rl log sec w) (h1 : n + 2 < g1) (h2 : g1 ≠ n8) (h3 : g1 ≠ g) (h4 : 0 < rl → g1 ≠ rb) (o : Nat) (v : Value) : LFix n g c g1 c1 n8 rv cv i s rb ro rl log sec (w.setCell ⟨g1, o, none⟩ v) :=
 ⟨h.fp.other (by omega) _ _, h.fs.other (by omega) _ _, h.fi.other (by omega) _ _, h.ft.other h2 _ _, h.ks.other h3 _ _, fun j hj => by
  have := h.regs j hj
  have hne := h4 (by omega)
  exact ⟨by rw [World.cell?_setCell_other _ _ _ _ (by intro e; simp only [Addr.mk.injEq] at e; omega)]; exact this.1, by rw [World.cell?_setCell_other _ _ _ _ (by intro e; simp only [Addr.mk.injEq] at e; omega)]; exact this.2⟩⟩
end

/-- The leads of an instruction, in memory: rows that are new since a size. -/
def LdAt (w : World) (lo : Nat) (v : Value) (ls : List (Nat × KS)) : Prop :=
 ∃ (a : Option Addr) (b cap : Nat), v = .slice a ls.length cap ∧ (0 < ls.length → a = some ⟨b, 0, none⟩) ∧ lo ≤ b ∧ ls.length ≤ 2 ∧
  ∀ k x, ls[k]? = some x → ∃ g c, w.cell? ⟨b, k * 3, none⟩ = some (.int .i64 (x.1 : Int)) ∧ w.cell? ⟨b, k * 3 + 1, none⟩ = some (.bool true) ∧ w.cell? ⟨b, k * 3 + 2, none⟩ = some (.slice (some ⟨g, 0, none⟩) 8 c) ∧ KRow w g x.2 ∧ lo ≤ g
theorem LdAt.more {w w' : World} (m : More w w') {lo : Nat} {v : Value} {ls : List (Nat × KS)} (h : LdAt w lo v ls) : LdAt w' lo v ls := by
 obtain ⟨a, b, cap, e, h1, hb, h2, h3⟩ := h
 refine ⟨a, b, cap, e, h1, hb, h2, fun k x hx => ?_⟩
 obtain ⟨g, c, q0, q1, q2, q3, q4⟩ := h3 k x hx
 exact ⟨g, c, m.cell q0, m.cell q1, m.cell q2, q3.more m, q4⟩
/-- A store into an older block. -/
theorem LdAt.other {w : World} {lo : Nat} {v : Value} {ls : List (Nat × KS)} (h : LdAt w lo v ls) {b' : Nat} (hb' : b' < lo) (o : Nat) (u : Value) : LdAt (w.setCell ⟨b', o, none⟩ u) lo v ls := by
 obtain ⟨a, b, cap, e, h1, hb, h2, h3⟩ := h
 refine ⟨a, b, cap, e, h1, hb, h2, fun k x hx => ?_⟩
 obtain ⟨g, c, q0, q1, q2, q3, q4⟩ := h3 k x hx
 have oth : ∀ o', (w.setCell ⟨b', o, none⟩ u).cell? ⟨b, o', none⟩ = w.cell? ⟨b, o', none⟩ := fun o' => World.cell?_setCell_other _ _ _ _ (by intro e'; simp only [Addr.mk.injEq] at e'; omega)
 exact ⟨g, c, (oth _).trans q0, (oth _).trans q1, (oth _).trans q2, q3.other (by omega) _ _, q4⟩

/-- One lead, just made. -/
theorem LdAt.one {w : World} {lo to g c cap b : Nat} {s : KS} (hb : w.heap.size = b) (h : KRow w g s) (hl : lo ≤ g) : LdAt (w.alloc (.cells #[.int .i64 (to : Int), .bool true, .slice (some ⟨g, 0, none⟩) 8 c] 63)) lo (.slice (some ⟨b, 0, none⟩) 1 cap) [(to, s)] := by
 subst hb
 refine ⟨_, w.heap.size, cap, rfl, fun _ => rfl, by have := h.lt; omega, by simp, fun k x hx => ?_⟩
 cases k with
 | zero =>
  simp at hx
  subst hx
  have hb := Blk.last w #[.int .i64 (to : Int), .bool true, .slice (some ⟨g, 0, none⟩) 8 c] 63
  exact ⟨g, c, hb.cell rfl, hb.cell rfl, hb.cell rfl, h.more ((More.refl _).alloc _ _), hl⟩
 | succ k => simp at hx
theorem LdAt.two {w : World} {lo to to' g c g' c' cap b : Nat} {s s' : KS} (hb : w.heap.size = b) (h : KRow w g s) (hl : lo ≤ g) (h' : KRow w g' s') (hl' : lo ≤ g') :
  LdAt (w.alloc (.cells #[.int .i64 (to : Int), .bool true, .slice (some ⟨g, 0, none⟩) 8 c, .int .i64 (to' : Int), .bool true, .slice (some ⟨g', 0, none⟩) 8 c'] 63)) lo (.slice (some ⟨b, 0, none⟩) 2 cap) [(to, s), (to', s')] := by
 subst hb
 refine ⟨_, w.heap.size, cap, rfl, fun _ => rfl, by have := h.lt; omega, by simp, fun k x hx => ?_⟩
 have hb := Blk.last w #[.int .i64 (to : Int), .bool true, .slice (some ⟨g, 0, none⟩) 8 c, .int .i64 (to' : Int), .bool true, .slice (some ⟨g', 0, none⟩) 8 c'] 63
 match k, hx with
 | 0, hx =>
  simp at hx; subst hx
  exact ⟨g, c, hb.cell rfl, hb.cell rfl, hb.cell rfl, h.more ((More.refl _).alloc _ _), hl⟩
 | 1, hx =>
  simp at hx; subst hx
  exact ⟨g', c', hb.cell rfl, hb.cell rfl, hb.cell rfl, h'.more ((More.refl _).alloc _ _), hl'⟩
 | k + 2, hx => simp at hx

theorem hid_is {P : Prop} (h : P) : Hid P := h
/-- What there is behind the copy of what is known. -/
theorem lead_fix {w w1 W1 : World} {rv cv : Value} {g c g1 c1 rb ro rl : Nat} {log : Nat → Int} {sec : Nat → Bool} {s : KS} {i : Ins} (hk : KRow w g s) (hr : RegsAt w rb ro rl log sec)
  (m1 : More (((w.alloc (.cells #[rv, cv] 25)).alloc (.cells #[.bool true, .slice (some ⟨g, 0, none⟩) 8 c] 57)).alloc (.cells #[.int .i64 i.op, .int .i64 i.a, .int .i64 i.b, .int .i64 i.c, .int .i64 i.n] 59)) w1) (hr1 : KRow w1 g1 s)
  (hg1 : (((w.alloc (.cells #[rv, cv] 25)).alloc (.cells #[.bool true, .slice (some ⟨g, 0, none⟩) 8 c] 57)).alloc (.cells #[.int .i64 i.op, .int .i64 i.a, .int .i64 i.b, .int .i64 i.c, .int .i64 i.n] 59)).heap.size ≤ g1) (hW : W1 = w1.alloc (.cells #[.bool true, .slice (some ⟨g1, 0, none⟩) 8 c1] 57)) :
  LFix w.heap.size g c g1 c1 w1.heap.size rv cv i s rb ro rl log sec W1 ∧ KRow W1 g1 s ∧ More w W1 ∧ (w.heap.size + 3 ≤ g1 ∧ g1 < w1.heap.size ∧ w1.heap.size < W1.heap.size) ∧ (g < w.heap.size ∧ (0 < rl → rb < w.heap.size)) ∧ Blk w1 (w.heap.size + 1 + 1) #[.int .i64 i.op, .int .i64 i.a, .int .i64 i.b, .int .i64 i.c, .int .i64 i.n] 59 := by
 have mW : More w1 W1 := hW ▸ (More.refl _).alloc _ _
 have e0 := (Blk.last w #[rv, cv] 25).more (((More.refl _).alloc #[.bool true, .slice (some ⟨g, 0, none⟩) 8 c] 57).alloc #[.int .i64 i.op, .int .i64 i.a, .int .i64 i.b, .int .i64 i.c, .int .i64 i.n] 59)
 have e1 := (by simpa using Blk.last (w.alloc (.cells #[rv, cv] 25)) #[.bool true, .slice (some ⟨g, 0, none⟩) 8 c] 57 : Blk ((w.alloc (.cells #[rv, cv] 25)).alloc (.cells #[.bool true, .slice (some ⟨g, 0, none⟩) 8 c] 57)) (w.heap.size + 1) #[.bool true, .slice (some ⟨g, 0, none⟩) 8 c] 57).more ((More.refl _).alloc #[.int .i64 i.op, .int .i64 i.a, .int .i64 i.b, .int .i64 i.c, .int .i64 i.n] 59)
 have e2 := (by simpa using Blk.last ((w.alloc (.cells #[rv, cv] 25)).alloc (.cells #[.bool true, .slice (some ⟨g, 0, none⟩) 8 c] 57)) #[.int .i64 i.op, .int .i64 i.a, .int .i64 i.b, .int .i64 i.c, .int .i64 i.n] 59 : Blk (((w.alloc (.cells #[rv, cv] 25)).alloc (.cells #[.bool true, .slice (some ⟨g, 0, none⟩) 8 c] 57)).alloc (.cells #[.int .i64 i.op, .int .i64 i.a, .int .i64 i.b, .int .i64 i.c, .int .i64 i.n] 59)) (w.heap.size + 1 + 1) #[.int .i64 i.op, .int .i64 i.a, .int .i64 i.b, .int .i64 i.c, .int .i64 i.n] 59)
 have m0 : More w w1 := (((More.refl w).alloc _ _).alloc _ _ |>.alloc _ _).trans m1
 exact ⟨⟨e0.more (m1.trans mW), e1.more (m1.trans mW), e2.more (m1.trans mW), hW ▸ Blk.last _ _ _, hk.more (m0.trans mW), hr.more (m0.trans mW)⟩, hr1.more mW, m0.trans mW, ⟨by simpa using hg1, hr1.lt, by rw [hW]; simp⟩, ⟨hk.lt, fun h0 => cell_block (hr 0 h0).1⟩, e2.more m1⟩
set_option maxHeartbeats 2000000 in
theorem leads_1 (ra : Option Addr) (rb ro rl rc : Nat) (log : Nat → Int) (sec : Nat → Bool) (cb co cl cc at_ g c : Nat) (a b ic n : Int) (s : KS) (w : World) (hra : 0 < rl → ra = some ⟨rb, ro, none⟩) (hregs : RegsAt w rb ro rl log sec)
  (q0 : w.cell? ⟨cb, co + at_ * 5, none⟩ = some (.int .i64 1)) (q1 : w.cell? ⟨cb, co + at_ * 5 + 1, none⟩ = some (.int .i64 a)) (q2 : w.cell? ⟨cb, co + at_ * 5 + 2, none⟩ = some (.int .i64 b)) (q3 : w.cell? ⟨cb, co + at_ * 5 + 3, none⟩ = some (.int .i64 ic)) (q4 : w.cell? ⟨cb, co + at_ * 5 + 4, none⟩ = some (.int .i64 n))
  (hat : (at_ : Int) < cl) (hcl : (cl : Int) ≤ 200) (hk : KRow w g s) (ha0 : 0 ≤ a) (ha1 : a < 8) (n0 : -9223372036854775808 ≤ n) (n1 : n ≤ 9223372036854775807) :
  Calls Try.prog 24 #[.agg #[.slice ra rl rc, .slice (some ⟨cb, co, none⟩) cl cc], .int .i64 at_, st true g c] w fun e w' => ∃ v, e = .returned v ∧ LdAt w' w.heap.size v [(at_ + 1, setK s a (Kn.of n))] ∧ More w w' := by
 have Hk : Hid (KRow w g s) := hk
 have Hreg : Hid ((0 < rl → ra = some ⟨rb, ro, none⟩) ∧ RegsAt w rb ro rl log sec) := ⟨hra, hregs⟩
 have hat2 : (at_ : Int) + 1 ≤ 200 := by omega
 have hcb : cb < w.heap.size := cell_block q0
 have hcb1 : cb < w.heap.size + 1 := by omega
 clear hk hra hregs
 suffices hP : ∀ P : Ending → World → Prop, (∀ v w', LdAt w' w.heap.size v [(at_ + 1, setK s a (Kn.of n))] → More w w' → P (.returned v) w') → Calls Try.prog 24 #[.agg #[.slice ra rl rc, .slice (some ⟨cb, co, none⟩) cl cc], .int .i64 at_, st true g c] w P from hP _ (fun v w' h1 h2 => ⟨v, rfl, h1, h2⟩)
 intro P hP0
 have hP : Hid (∀ v w', LdAt w' w.heap.size v [(at_ + 1, setK s a (Kn.of n))] → More w w' → P (.returned v) w') := hP0
 clear hP0
 unfold st
 go_enter Try.func24, Try.ntmps24
 go_wp2_with (fail)
 refine (copied_calls true g c s _ (Hk.out.more (((More.refl _).alloc _ _).alloc _ _ |>.alloc _ _))).mono ?_
 rintro e w1 ⟨g1, c1, rfl, hg1, hr1, m1⟩
 obtain ⟨W1, HW1⟩ : ∃ W1 : World, Hid (W1 = w1.alloc (.cells #[.bool true, .slice (some ⟨g1, 0, none⟩) 8 c1] 57)) := ⟨_, rfl⟩
 obtain ⟨HF, HK1, HM, HG, HA, HI⟩ := lead_fix (i := ⟨1, a, b, ic, n⟩) Hk.out Hreg.out.2 m1 hr1 hg1 HW1.out
 replace HF := hid_is HF
 replace HK1 := hid_is HK1
 replace HM := hid_is HM
 replace HG := hid_is HG
 replace HA := hid_is HA
 replace HI := hid_is HI
 clear m1 hr1 hg1 q0 q1 q2 q3 q4
 have i0 : w1.cell? ⟨w.heap.size + 1 + 1, 0, none⟩ = some (.int .i64 1) := HI.out.cell rfl
 have i1 : w1.cell? ⟨w.heap.size + 1 + 1, 1, none⟩ = some (.int .i64 a) := HI.out.cell rfl
 have i2 : w1.cell? ⟨w.heap.size + 1 + 1, 2, none⟩ = some (.int .i64 b) := HI.out.cell rfl
 have i3 : w1.cell? ⟨w.heap.size + 1 + 1, 3, none⟩ = some (.int .i64 ic) := HI.out.cell rfl
 have i4 : w1.cell? ⟨w.heap.size + 1 + 1, 4, none⟩ = some (.int .i64 n) := HI.out.cell rfl
 have zi : w.heap.size + 1 + 1 < w1.heap.size := HI.out.lt
 obtain ⟨S, HS⟩ : ∃ S : World → Prop, Hid (∀ w', S w' ↔ LFix w.heap.size g c g1 c1 w1.heap.size (.slice ra rl rc) (.slice (some ⟨cb, co, none⟩) cl cc) ⟨1, a, b, ic, n⟩ s rb ro rl log sec w') := ⟨_, fun _ => Iff.rfl⟩
 have HSm : Hid (∀ w', More W1 w' → S w') := fun w' m => (HS.out _).2 (HF.out.more m)
 have HS0 : S W1.drew := HSm.out _ (More.refl _).drew
 have hne : Nonempty { w' // S w' } := ⟨⟨_, HS0⟩⟩
 have k0 : ∀ i : { w' // S w' }, i.val.cell? ⟨w.heap.size + 1 + 1, 0, none⟩ = some (.int .i64 1) := fun i => ((HS.out _).1 i.property).fi.cell rfl
 have k1 : ∀ i : { w' // S w' }, i.val.cell? ⟨w.heap.size + 1 + 1, 1, none⟩ = some (.int .i64 a) := fun i => ((HS.out _).1 i.property).fi.cell rfl
 have k2 : ∀ i : { w' // S w' }, i.val.cell? ⟨w.heap.size + 1 + 1, 2, none⟩ = some (.int .i64 b) := fun i => ((HS.out _).1 i.property).fi.cell rfl
 have k3 : ∀ i : { w' // S w' }, i.val.cell? ⟨w.heap.size + 1 + 1, 3, none⟩ = some (.int .i64 ic) := fun i => ((HS.out _).1 i.property).fi.cell rfl
 have k4 : ∀ i : { w' // S w' }, i.val.cell? ⟨w.heap.size + 1 + 1, 4, none⟩ = some (.int .i64 n) := fun i => ((HS.out _).1 i.property).fi.cell rfl
 have k5 : ∀ i : { w' // S w' }, i.val.cell? ⟨w1.heap.size, 1, none⟩ = some (.slice (some ⟨g1, 0, none⟩) 8 c1) := fun i => ((HS.out _).1 i.property).ft.cell rfl
 have k6 : ∀ i : { w' // S w' }, i.val.cell? ⟨w.heap.size + 1, 1, none⟩ = some (.slice (some ⟨g, 0, none⟩) 8 c) := fun i => ((HS.out _).1 i.property).fs.cell rfl
 have k7 : ∀ i : { w' // S w' }, i.val.cell? ⟨w.heap.size, 0, none⟩ = some (.slice ra rl rc) := fun i => ((HS.out _).1 i.property).fp.cell rfl
 obtain ⟨v, hv⟩ : ∃ v, Kn.of n = v := ⟨_, rfl⟩
 have c2 : ∀ w : World, Calls Try.prog 50 #[.int .i64 n] w fun e w' => e = .returned (kn v.b v.s) ∧ More w w' := fun w => hv ▸ rof_calls n n0 n1 w
 have Hx : Hid ((⟨v.b, v.s⟩ : Kn) = Kn.of n) := hv.symm
 clear hv
 obtain ⟨vb, vs⟩ := v
 unfold kn at c2
 dsimp only at c2
 go_wp2_with (fail)
 rw [← HW1.out]
 clear i0 i1 i2 i3 i4 zi
 refine wp_region_ord (S := S) [(0, true), (1, true), (2, true), (3, true), (4, true), (5, true), (6, false), (7, true), (8, false)] (by kernel_rfl) (by kernel_rfl) (by kernel_rfl) HS0 ?_
 iterate 6 (refine wpOrd_take rfl (by kernel_rfl) (fun K hK => ?_); go_simp; refine hK _ _ ?_; clear hK K)
 refine wpOrd_busy rfl (by kernel_rfl) (fun K hK => ?_); go_simp
 refine (c2 _).mono ?_
 rintro e w2 ⟨rfl, m2⟩
 have Hm2 : Hid (More W1 w2) := (More.refl _).drew.trans m2
 have HS2 : S w2 := HSm.out _ Hm2.out
 clear m2
 go_simp
 refine hK _ _ HS2 ?_; clear hK K
 (refine wpOrd_take rfl (by kernel_rfl) (fun K hK => ?_); go_simp; refine hK _ _ ?_; clear hK K)
 have Hrow : Hid (KRow w2 g1 s) := HK1.out.more Hm2.out
 have hr : a.toNat < 8 := by omega
 have q := Hrow.out a.toNat hr
 have q0 := q.1.1
 have q1 := q.1.2
 have q2 := q.2.1
 have q3 := q.2.2
 obtain ⟨w3, Hw3⟩ : ∃ w3, Hid (w3 = (w2.setCell ⟨g1, a.toNat * 2, none⟩ (.int .i64 vb)).setCell ⟨g1, a.toNat * 2 + 1, none⟩ (.bool vs)) := ⟨_, rfl⟩
 have Hrow3 : Hid (KRow w3 g1 (setK s a ⟨vb, vs⟩)) := Hw3.out ▸ Hrow.out.set a ⟨vb, vs⟩ hr
 have hg := HG.out
 have hA := HA.out
 have HF3 : Hid (LFix w.heap.size g c g1 c1 w1.heap.size (.slice ra rl rc) (.slice (some ⟨cb, co, none⟩) cl cc) ⟨1, a, b, ic, n⟩ s rb ro rl log sec w3) := Hw3.out ▸ ((HF.out.more Hm2.out).set (by omega) (by omega) (by omega) (fun h0 => by have := hA.2 h0; omega) _ _).set (by omega) (by omega) (by omega) (fun h0 => by have := hA.2 h0; omega) _ _
 have Hm3 : Hid (More w w3) := Hw3.out ▸ (((HM.out.trans Hm2.out).setCell (by dsimp only; omega) _).setCell (by dsimp only; omega) _)
 have HS3 : S w3 := (HS.out _).2 HF3.out
 clear hg hA
 refine wpOrd_busy rfl (by kernel_rfl) (fun K hK => ?_); go_simp
 rw [← Hw3.out]
 refine hK _ _ HS3 ?_; clear hK K
 refine wpOrd_done ?_
 clear k0 k1 k2 k3 k4 k5 k6 k7 hne HS0 HS2 HS3 q q0 q1 q2 q3
 have t0 := HF3.out.ft.cell (j := 0) (v := .bool true) rfl
 have t1 := HF3.out.ft.cell (j := 1) (v := .slice (some ⟨g1, 0, none⟩) 8 c1) rfl
 go_wp2
 exact hP.out _ _ (LdAt.one rfl (Hx.out ▸ Hrow3.out) (by have := HG.out; omega)) (Hm3.out.alloc _ _)

set_option maxHeartbeats 2000000 in
theorem leads_2 (ra : Option Addr) (rb ro rl rc : Nat) (log : Nat → Int) (sec : Nat → Bool) (cb co cl cc at_ g c : Nat) (a b ic n : Int) (s : KS) (w : World) (hra : 0 < rl → ra = some ⟨rb, ro, none⟩) (hregs : RegsAt w rb ro rl log sec)
  (q0 : w.cell? ⟨cb, co + at_ * 5, none⟩ = some (.int .i64 2)) (q1 : w.cell? ⟨cb, co + at_ * 5 + 1, none⟩ = some (.int .i64 a)) (q2 : w.cell? ⟨cb, co + at_ * 5 + 2, none⟩ = some (.int .i64 b)) (q3 : w.cell? ⟨cb, co + at_ * 5 + 3, none⟩ = some (.int .i64 ic)) (q4 : w.cell? ⟨cb, co + at_ * 5 + 4, none⟩ = some (.int .i64 n))
  (hat : (at_ : Int) < cl) (hcl : (cl : Int) ≤ 200) (hk : KRow w g s) (ha0 : 0 ≤ a) (ha1 : a < 8) (hb0 : 0 ≤ b) (hb1 : b < 8) :
  Calls Try.prog 24 #[.agg #[.slice ra rl rc, .slice (some ⟨cb, co, none⟩) cl cc], .int .i64 at_, st true g c] w fun e w' => ∃ v, e = .returned v ∧ LdAt w' w.heap.size v [(at_ + 1, setK s a (s b.toNat))] ∧ More w w' := by
 have Hk : Hid (KRow w g s) := hk
 have Hreg : Hid ((0 < rl → ra = some ⟨rb, ro, none⟩) ∧ RegsAt w rb ro rl log sec) := ⟨hra, hregs⟩
 have hat2 : (at_ : Int) + 1 ≤ 200 := by omega
 have hcb : cb < w.heap.size := cell_block q0
 have hcb1 : cb < w.heap.size + 1 := by omega
 clear hk hra hregs
 suffices hP : ∀ P : Ending → World → Prop, (∀ v w', LdAt w' w.heap.size v [(at_ + 1, setK s a (s b.toNat))] → More w w' → P (.returned v) w') → Calls Try.prog 24 #[.agg #[.slice ra rl rc, .slice (some ⟨cb, co, none⟩) cl cc], .int .i64 at_, st true g c] w P from hP _ (fun v w' h1 h2 => ⟨v, rfl, h1, h2⟩)
 intro P hP0
 have hP : Hid (∀ v w', LdAt w' w.heap.size v [(at_ + 1, setK s a (s b.toNat))] → More w w' → P (.returned v) w') := hP0
 clear hP0
 unfold st
 go_enter Try.func24, Try.ntmps24
 go_wp2_with (fail)
 refine (copied_calls true g c s _ (Hk.out.more (((More.refl _).alloc _ _).alloc _ _ |>.alloc _ _))).mono ?_
 rintro e w1 ⟨g1, c1, rfl, hg1, hr1, m1⟩
 obtain ⟨W1, HW1⟩ : ∃ W1 : World, Hid (W1 = w1.alloc (.cells #[.bool true, .slice (some ⟨g1, 0, none⟩) 8 c1] 57)) := ⟨_, rfl⟩
 obtain ⟨HF, HK1, HM, HG, HA, HI⟩ := lead_fix (i := ⟨2, a, b, ic, n⟩) Hk.out Hreg.out.2 m1 hr1 hg1 HW1.out
 replace HF := hid_is HF
 replace HK1 := hid_is HK1
 replace HM := hid_is HM
 replace HG := hid_is HG
 replace HA := hid_is HA
 replace HI := hid_is HI
 clear m1 hr1 hg1 q0 q1 q2 q3 q4
 have i0 : w1.cell? ⟨w.heap.size + 1 + 1, 0, none⟩ = some (.int .i64 2) := HI.out.cell rfl
 have i1 : w1.cell? ⟨w.heap.size + 1 + 1, 1, none⟩ = some (.int .i64 a) := HI.out.cell rfl
 have i2 : w1.cell? ⟨w.heap.size + 1 + 1, 2, none⟩ = some (.int .i64 b) := HI.out.cell rfl
 have i3 : w1.cell? ⟨w.heap.size + 1 + 1, 3, none⟩ = some (.int .i64 ic) := HI.out.cell rfl
 have i4 : w1.cell? ⟨w.heap.size + 1 + 1, 4, none⟩ = some (.int .i64 n) := HI.out.cell rfl
 have zi : w.heap.size + 1 + 1 < w1.heap.size := HI.out.lt
 obtain ⟨S, HS⟩ : ∃ S : World → Prop, Hid (∀ w', S w' ↔ LFix w.heap.size g c g1 c1 w1.heap.size (.slice ra rl rc) (.slice (some ⟨cb, co, none⟩) cl cc) ⟨2, a, b, ic, n⟩ s rb ro rl log sec w') := ⟨_, fun _ => Iff.rfl⟩
 have HSm : Hid (∀ w', More W1 w' → S w') := fun w' m => (HS.out _).2 (HF.out.more m)
 have HS0 : S W1.drew := HSm.out _ (More.refl _).drew
 have hne : Nonempty { w' // S w' } := ⟨⟨_, HS0⟩⟩
 have k0 : ∀ i : { w' // S w' }, i.val.cell? ⟨w.heap.size + 1 + 1, 0, none⟩ = some (.int .i64 2) := fun i => ((HS.out _).1 i.property).fi.cell rfl
 have k1 : ∀ i : { w' // S w' }, i.val.cell? ⟨w.heap.size + 1 + 1, 1, none⟩ = some (.int .i64 a) := fun i => ((HS.out _).1 i.property).fi.cell rfl
 have k2 : ∀ i : { w' // S w' }, i.val.cell? ⟨w.heap.size + 1 + 1, 2, none⟩ = some (.int .i64 b) := fun i => ((HS.out _).1 i.property).fi.cell rfl
 have k3 : ∀ i : { w' // S w' }, i.val.cell? ⟨w.heap.size + 1 + 1, 3, none⟩ = some (.int .i64 ic) := fun i => ((HS.out _).1 i.property).fi.cell rfl
 have k4 : ∀ i : { w' // S w' }, i.val.cell? ⟨w.heap.size + 1 + 1, 4, none⟩ = some (.int .i64 n) := fun i => ((HS.out _).1 i.property).fi.cell rfl
 have k5 : ∀ i : { w' // S w' }, i.val.cell? ⟨w1.heap.size, 1, none⟩ = some (.slice (some ⟨g1, 0, none⟩) 8 c1) := fun i => ((HS.out _).1 i.property).ft.cell rfl
 have k6 : ∀ i : { w' // S w' }, i.val.cell? ⟨w.heap.size + 1, 1, none⟩ = some (.slice (some ⟨g, 0, none⟩) 8 c) := fun i => ((HS.out _).1 i.property).fs.cell rfl
 have k7 : ∀ i : { w' // S w' }, i.val.cell? ⟨w.heap.size, 0, none⟩ = some (.slice ra rl rc) := fun i => ((HS.out _).1 i.property).fp.cell rfl
 obtain ⟨xb, hxb⟩ : ∃ x, s b.toNat = x := ⟨_, rfl⟩
 have kb0 : ∀ i : { w' // S w' }, i.val.cell? ⟨g, b.toNat * 2, none⟩ = some (.int .i64 xb.b) := fun i => hxb ▸ (((HS.out _).1 i.property).ks b.toNat (by omega)).1.1
 have kb1 : ∀ i : { w' // S w' }, i.val.cell? ⟨g, b.toNat * 2 + 1, none⟩ = some (.bool xb.s) := fun i => hxb ▸ (((HS.out _).1 i.property).ks b.toNat (by omega)).1.2
 have Hx : Hid ((⟨xb.b, xb.s⟩ : Kn) = s b.toNat) := hxb.symm
 clear hxb
 obtain ⟨vb, vs⟩ := xb
 dsimp only at kb0 kb1
 go_wp2_with (fail)
 rw [← HW1.out]
 clear i0 i1 i2 i3 i4 zi
 refine wp_region_ord (S := S) [(0, true), (1, true), (2, true), (3, true), (4, true), (5, true), (6, true), (7, true), (8, true), (9, true), (10, true), (11, false)] (by kernel_rfl) (by kernel_rfl) (by kernel_rfl) HS0 ?_
 iterate 11 (refine wpOrd_take rfl (by kernel_rfl) (fun K hK => ?_); go_simp; refine hK _ _ ?_; clear hK K)
 have Hm2 : Hid (More W1 W1.drew) := (More.refl _).drew
 have HS2 : S W1.drew := HS0
 have Hrow : Hid (KRow W1 g1 s) := HK1.out
 have hr : a.toNat < 8 := by omega
 have q := Hrow.out a.toNat hr
 have q0 := q.1.1
 have q1 := q.1.2
 have q2 := q.2.1
 have q3 := q.2.2
 obtain ⟨w3, Hw3⟩ : ∃ w3, Hid (w3 = ((W1.setCell ⟨g1, a.toNat * 2, none⟩ (.int .i64 vb)).setCell ⟨g1, a.toNat * 2 + 1, none⟩ (.bool vs)).drew) := ⟨_, rfl⟩
 have Hrow3 : Hid (KRow w3 g1 (setK s a ⟨vb, vs⟩)) := Hw3.out ▸ (Hrow.out.set a ⟨vb, vs⟩ hr).more (More.refl _).drew
 have hg := HG.out
 have hA := HA.out
 have HF3 : Hid (LFix w.heap.size g c g1 c1 w1.heap.size (.slice ra rl rc) (.slice (some ⟨cb, co, none⟩) cl cc) ⟨2, a, b, ic, n⟩ s rb ro rl log sec w3) := Hw3.out ▸ LFix.more (More.refl _).drew ((HF.out.set (by omega) (by omega) (by omega) (fun h0 => by have := hA.2 h0; omega) _ _).set (by omega) (by omega) (by omega) (fun h0 => by have := hA.2 h0; omega) _ _)
 have Hm3 : Hid (More w w3) := Hw3.out ▸ ((HM.out.setCell (by dsimp only; omega) _).setCell (by dsimp only; omega) _).drew
 have HS3 : S w3 := (HS.out _).2 HF3.out
 clear hg hA
 refine wpOrd_busy rfl (by kernel_rfl) (fun K hK => ?_); go_simp
 rw [← Hw3.out]
 refine hK _ _ HS3 ?_; clear hK K
 refine wpOrd_done ?_
 clear k0 k1 k2 k3 k4 k5 k6 k7 kb0 kb1 hne HS0 HS2 HS3 q q0 q1 q2 q3
 have t0 := HF3.out.ft.cell (j := 0) (v := .bool true) rfl
 have t1 := HF3.out.ft.cell (j := 1) (v := .slice (some ⟨g1, 0, none⟩) 8 c1) rfl
 go_wp2
 exact hP.out _ _ (LdAt.one rfl (Hx.out ▸ Hrow3.out) (by have := HG.out; omega)) (Hm3.out.alloc _ _)

set_option maxHeartbeats 2000000 in
theorem leads_10 (ra : Option Addr) (rb ro rl rc : Nat) (log : Nat → Int) (sec : Nat → Bool) (cb co cl cc at_ g c : Nat) (a b ic n : Int) (s : KS) (w : World) (hra : 0 < rl → ra = some ⟨rb, ro, none⟩) (hregs : RegsAt w rb ro rl log sec)
  (q0 : w.cell? ⟨cb, co + at_ * 5, none⟩ = some (.int .i64 10)) (q1 : w.cell? ⟨cb, co + at_ * 5 + 1, none⟩ = some (.int .i64 a)) (q2 : w.cell? ⟨cb, co + at_ * 5 + 2, none⟩ = some (.int .i64 b)) (q3 : w.cell? ⟨cb, co + at_ * 5 + 3, none⟩ = some (.int .i64 ic)) (q4 : w.cell? ⟨cb, co + at_ * 5 + 4, none⟩ = some (.int .i64 n))
  (hat : (at_ : Int) < cl) (hcl : (cl : Int) ≤ 200) (hk : KRow w g s) (ha0 : 0 ≤ a) (ha1 : a < 8) (hb0 : 0 ≤ b) (hb1 : b < 8) (n0 : -9223372036854775808 ≤ n) (n1 : n ≤ 9223372036854775807) :
  Calls Try.prog 24 #[.agg #[.slice ra rl rc, .slice (some ⟨cb, co, none⟩) cl cc], .int .i64 at_, st true g c] w fun e w' => ∃ v, e = .returned v ∧ LdAt w' w.heap.size v [(at_ + 1, setK s a (Kn.index (s b.toNat) n))] ∧ More w w' := by
 have Hk : Hid (KRow w g s) := hk
 have Hreg : Hid ((0 < rl → ra = some ⟨rb, ro, none⟩) ∧ RegsAt w rb ro rl log sec) := ⟨hra, hregs⟩
 have hat2 : (at_ : Int) + 1 ≤ 200 := by omega
 have hcb : cb < w.heap.size := cell_block q0
 have hcb1 : cb < w.heap.size + 1 := by omega
 clear hk hra hregs
 suffices hP : ∀ P : Ending → World → Prop, (∀ v w', LdAt w' w.heap.size v [(at_ + 1, setK s a (Kn.index (s b.toNat) n))] → More w w' → P (.returned v) w') → Calls Try.prog 24 #[.agg #[.slice ra rl rc, .slice (some ⟨cb, co, none⟩) cl cc], .int .i64 at_, st true g c] w P from hP _ (fun v w' h1 h2 => ⟨v, rfl, h1, h2⟩)
 intro P hP0
 have hP : Hid (∀ v w', LdAt w' w.heap.size v [(at_ + 1, setK s a (Kn.index (s b.toNat) n))] → More w w' → P (.returned v) w') := hP0
 clear hP0
 unfold st
 go_enter Try.func24, Try.ntmps24
 go_wp2_with (fail)
 refine (copied_calls true g c s _ (Hk.out.more (((More.refl _).alloc _ _).alloc _ _ |>.alloc _ _))).mono ?_
 rintro e w1 ⟨g1, c1, rfl, hg1, hr1, m1⟩
 obtain ⟨W1, HW1⟩ : ∃ W1 : World, Hid (W1 = w1.alloc (.cells #[.bool true, .slice (some ⟨g1, 0, none⟩) 8 c1] 57)) := ⟨_, rfl⟩
 obtain ⟨HF, HK1, HM, HG, HA, HI⟩ := lead_fix (i := ⟨10, a, b, ic, n⟩) Hk.out Hreg.out.2 m1 hr1 hg1 HW1.out
 replace HF := hid_is HF
 replace HK1 := hid_is HK1
 replace HM := hid_is HM
 replace HG := hid_is HG
 replace HA := hid_is HA
 replace HI := hid_is HI
 clear m1 hr1 hg1 q0 q1 q2 q3 q4
 have i0 : w1.cell? ⟨w.heap.size + 1 + 1, 0, none⟩ = some (.int .i64 10) := HI.out.cell rfl
 have i1 : w1.cell? ⟨w.heap.size + 1 + 1, 1, none⟩ = some (.int .i64 a) := HI.out.cell rfl
 have i2 : w1.cell? ⟨w.heap.size + 1 + 1, 2, none⟩ = some (.int .i64 b) := HI.out.cell rfl
 have i3 : w1.cell? ⟨w.heap.size + 1 + 1, 3, none⟩ = some (.int .i64 ic) := HI.out.cell rfl
 have i4 : w1.cell? ⟨w.heap.size + 1 + 1, 4, none⟩ = some (.int .i64 n) := HI.out.cell rfl
 have zi : w.heap.size + 1 + 1 < w1.heap.size := HI.out.lt
 obtain ⟨S, HS⟩ : ∃ S : World → Prop, Hid (∀ w', S w' ↔ LFix w.heap.size g c g1 c1 w1.heap.size (.slice ra rl rc) (.slice (some ⟨cb, co, none⟩) cl cc) ⟨10, a, b, ic, n⟩ s rb ro rl log sec w') := ⟨_, fun _ => Iff.rfl⟩
 have HSm : Hid (∀ w', More W1 w' → S w') := fun w' m => (HS.out _).2 (HF.out.more m)
 have HS0 : S W1.drew := HSm.out _ (More.refl _).drew
 have hne : Nonempty { w' // S w' } := ⟨⟨_, HS0⟩⟩
 have k0 : ∀ i : { w' // S w' }, i.val.cell? ⟨w.heap.size + 1 + 1, 0, none⟩ = some (.int .i64 10) := fun i => ((HS.out _).1 i.property).fi.cell rfl
 have k1 : ∀ i : { w' // S w' }, i.val.cell? ⟨w.heap.size + 1 + 1, 1, none⟩ = some (.int .i64 a) := fun i => ((HS.out _).1 i.property).fi.cell rfl
 have k2 : ∀ i : { w' // S w' }, i.val.cell? ⟨w.heap.size + 1 + 1, 2, none⟩ = some (.int .i64 b) := fun i => ((HS.out _).1 i.property).fi.cell rfl
 have k3 : ∀ i : { w' // S w' }, i.val.cell? ⟨w.heap.size + 1 + 1, 3, none⟩ = some (.int .i64 ic) := fun i => ((HS.out _).1 i.property).fi.cell rfl
 have k4 : ∀ i : { w' // S w' }, i.val.cell? ⟨w.heap.size + 1 + 1, 4, none⟩ = some (.int .i64 n) := fun i => ((HS.out _).1 i.property).fi.cell rfl
 have k5 : ∀ i : { w' // S w' }, i.val.cell? ⟨w1.heap.size, 1, none⟩ = some (.slice (some ⟨g1, 0, none⟩) 8 c1) := fun i => ((HS.out _).1 i.property).ft.cell rfl
 have k6 : ∀ i : { w' // S w' }, i.val.cell? ⟨w.heap.size + 1, 1, none⟩ = some (.slice (some ⟨g, 0, none⟩) 8 c) := fun i => ((HS.out _).1 i.property).fs.cell rfl
 have k7 : ∀ i : { w' // S w' }, i.val.cell? ⟨w.heap.size, 0, none⟩ = some (.slice ra rl rc) := fun i => ((HS.out _).1 i.property).fp.cell rfl
 obtain ⟨xb, hxb⟩ : ∃ x, s b.toNat = x := ⟨_, rfl⟩
 have kb0 : ∀ i : { w' // S w' }, i.val.cell? ⟨g, b.toNat * 2, none⟩ = some (.int .i64 xb.b) := fun i => hxb ▸ (((HS.out _).1 i.property).ks b.toNat (by omega)).1.1
 have kb1 : ∀ i : { w' // S w' }, i.val.cell? ⟨g, b.toNat * 2 + 1, none⟩ = some (.bool xb.s) := fun i => hxb ▸ (((HS.out _).1 i.property).ks b.toNat (by omega)).1.2
 obtain ⟨v, hv⟩ : ∃ v, Kn.index xb n = v := ⟨_, rfl⟩
 have c2 : ∀ w : World, Calls Try.prog 25 #[kn xb.b xb.s, .int .i64 n] w fun e w' => e = .returned (kn v.b v.s) ∧ More w w' := fun w => hv ▸ index_calls xb n n0 n1 w
 have Hx : Hid ((⟨v.b, v.s⟩ : Kn) = Kn.index (s b.toNat) n) := by rw [hxb]; exact hv.symm
 clear hv hxb
 obtain ⟨vb, vs⟩ := v
 obtain ⟨xbb, xbs⟩ := xb
 unfold kn at c2
 dsimp only at c2 kb0 kb1
 go_wp2_with (fail)
 rw [← HW1.out]
 clear i0 i1 i2 i3 i4 zi
 refine wp_region_ord (S := S) [(0, true), (1, true), (2, true), (3, true), (4, true), (5, true), (6, true), (7, true), (8, true), (9, true), (10, true), (11, true), (12, false), (13, true), (14, false)] (by kernel_rfl) (by kernel_rfl) (by kernel_rfl) HS0 ?_
 iterate 12 (refine wpOrd_take rfl (by kernel_rfl) (fun K hK => ?_); go_simp; refine hK _ _ ?_; clear hK K)
 refine wpOrd_busy rfl (by kernel_rfl) (fun K hK => ?_); go_simp
 refine (c2 _).mono ?_
 rintro e w2 ⟨rfl, m2⟩
 have Hm2 : Hid (More W1 w2) := (More.refl _).drew.trans m2
 have HS2 : S w2 := HSm.out _ Hm2.out
 clear m2
 go_simp
 refine hK _ _ HS2 ?_; clear hK K
 (refine wpOrd_take rfl (by kernel_rfl) (fun K hK => ?_); go_simp; refine hK _ _ ?_; clear hK K)
 have Hrow : Hid (KRow w2 g1 s) := HK1.out.more Hm2.out
 have hr : a.toNat < 8 := by omega
 have q := Hrow.out a.toNat hr
 have q0 := q.1.1
 have q1 := q.1.2
 have q2 := q.2.1
 have q3 := q.2.2
 obtain ⟨w3, Hw3⟩ : ∃ w3, Hid (w3 = (w2.setCell ⟨g1, a.toNat * 2, none⟩ (.int .i64 vb)).setCell ⟨g1, a.toNat * 2 + 1, none⟩ (.bool vs)) := ⟨_, rfl⟩
 have Hrow3 : Hid (KRow w3 g1 (setK s a ⟨vb, vs⟩)) := Hw3.out ▸ Hrow.out.set a ⟨vb, vs⟩ hr
 have hg := HG.out
 have hA := HA.out
 have HF3 : Hid (LFix w.heap.size g c g1 c1 w1.heap.size (.slice ra rl rc) (.slice (some ⟨cb, co, none⟩) cl cc) ⟨10, a, b, ic, n⟩ s rb ro rl log sec w3) := Hw3.out ▸ ((HF.out.more Hm2.out).set (by omega) (by omega) (by omega) (fun h0 => by have := hA.2 h0; omega) _ _).set (by omega) (by omega) (by omega) (fun h0 => by have := hA.2 h0; omega) _ _
 have Hm3 : Hid (More w w3) := Hw3.out ▸ (((HM.out.trans Hm2.out).setCell (by dsimp only; omega) _).setCell (by dsimp only; omega) _)
 have HS3 : S w3 := (HS.out _).2 HF3.out
 clear hg hA
 refine wpOrd_busy rfl (by kernel_rfl) (fun K hK => ?_); go_simp
 rw [← Hw3.out]
 refine hK _ _ HS3 ?_; clear hK K
 refine wpOrd_done ?_
 clear k0 k1 k2 k3 k4 k5 k6 k7 kb0 kb1 hne HS0 HS2 HS3 q q0 q1 q2 q3
 have t0 := HF3.out.ft.cell (j := 0) (v := .bool true) rfl
 have t1 := HF3.out.ft.cell (j := 1) (v := .slice (some ⟨g1, 0, none⟩) 8 c1) rfl
 go_wp2
 exact hP.out _ _ (LdAt.one rfl (Hx.out ▸ Hrow3.out) (by have := HG.out; omega)) (Hm3.out.alloc _ _)
set_option maxHeartbeats 2000000 in
theorem leads_3 (ra : Option Addr) (rb ro rl rc : Nat) (log : Nat → Int) (sec : Nat → Bool) (cb co cl cc at_ g c : Nat) (a b ic n : Int) (s : KS) (w : World) (hra : 0 < rl → ra = some ⟨rb, ro, none⟩) (hregs : RegsAt w rb ro rl log sec)
  (q0 : w.cell? ⟨cb, co + at_ * 5, none⟩ = some (.int .i64 3)) (q1 : w.cell? ⟨cb, co + at_ * 5 + 1, none⟩ = some (.int .i64 a)) (q2 : w.cell? ⟨cb, co + at_ * 5 + 2, none⟩ = some (.int .i64 b)) (q3 : w.cell? ⟨cb, co + at_ * 5 + 3, none⟩ = some (.int .i64 ic)) (q4 : w.cell? ⟨cb, co + at_ * 5 + 4, none⟩ = some (.int .i64 n))
  (hat : (at_ : Int) < cl) (hcl : (cl : Int) ≤ 200) (hk : KRow w g s) (ha0 : 0 ≤ a) (ha1 : a < 8) (hc0 : 0 ≤ ic) (hc1 : ic < rl) :
  Calls Try.prog 24 #[.agg #[.slice ra rl rc, .slice (some ⟨cb, co, none⟩) cl cc], .int .i64 at_, st true g c] w fun e w' => ∃ v, e = .returned v ∧ LdAt w' w.heap.size v [(at_ + 1, setK s a ⟨17, sec ic.toNat⟩)] ∧ More w w' := by
 obtain rfl : ra = some ⟨rb, ro, none⟩ := hra (by omega)
 have Hk : Hid (KRow w g s) := hk
 have Hreg : Hid ((0 < rl → (some ⟨rb, ro, none⟩ : Option Addr) = some ⟨rb, ro, none⟩) ∧ RegsAt w rb ro rl log sec) := ⟨hra, hregs⟩
 have hat2 : (at_ : Int) + 1 ≤ 200 := by omega
 have hcb : cb < w.heap.size := cell_block q0
 have hcb1 : cb < w.heap.size + 1 := by omega
 clear hk hra hregs
 suffices hP : ∀ P : Ending → World → Prop, (∀ v w', LdAt w' w.heap.size v [(at_ + 1, setK s a ⟨17, sec ic.toNat⟩)] → More w w' → P (.returned v) w') → Calls Try.prog 24 #[.agg #[.slice (some ⟨rb, ro, none⟩) rl rc, .slice (some ⟨cb, co, none⟩) cl cc], .int .i64 at_, st true g c] w P from hP _ (fun v w' h1 h2 => ⟨v, rfl, h1, h2⟩)
 intro P hP0
 have hP : Hid (∀ v w', LdAt w' w.heap.size v [(at_ + 1, setK s a ⟨17, sec ic.toNat⟩)] → More w w' → P (.returned v) w') := hP0
 clear hP0
 unfold st
 go_enter Try.func24, Try.ntmps24
 go_wp2_with (fail)
 refine (copied_calls true g c s _ (Hk.out.more (((More.refl _).alloc _ _).alloc _ _ |>.alloc _ _))).mono ?_
 rintro e w1 ⟨g1, c1, rfl, hg1, hr1, m1⟩
 obtain ⟨W1, HW1⟩ : ∃ W1 : World, Hid (W1 = w1.alloc (.cells #[.bool true, .slice (some ⟨g1, 0, none⟩) 8 c1] 57)) := ⟨_, rfl⟩
 obtain ⟨HF, HK1, HM, HG, HA, HI⟩ := lead_fix (i := ⟨3, a, b, ic, n⟩) Hk.out Hreg.out.2 m1 hr1 hg1 HW1.out
 replace HF := hid_is HF
 replace HK1 := hid_is HK1
 replace HM := hid_is HM
 replace HG := hid_is HG
 replace HA := hid_is HA
 replace HI := hid_is HI
 clear m1 hr1 hg1 q0 q1 q2 q3 q4
 have i0 : w1.cell? ⟨w.heap.size + 1 + 1, 0, none⟩ = some (.int .i64 3) := HI.out.cell rfl
 have i1 : w1.cell? ⟨w.heap.size + 1 + 1, 1, none⟩ = some (.int .i64 a) := HI.out.cell rfl
 have i2 : w1.cell? ⟨w.heap.size + 1 + 1, 2, none⟩ = some (.int .i64 b) := HI.out.cell rfl
 have i3 : w1.cell? ⟨w.heap.size + 1 + 1, 3, none⟩ = some (.int .i64 ic) := HI.out.cell rfl
 have i4 : w1.cell? ⟨w.heap.size + 1 + 1, 4, none⟩ = some (.int .i64 n) := HI.out.cell rfl
 have zi : w.heap.size + 1 + 1 < w1.heap.size := HI.out.lt
 obtain ⟨S, HS⟩ : ∃ S : World → Prop, Hid (∀ w', S w' ↔ LFix w.heap.size g c g1 c1 w1.heap.size (.slice (some ⟨rb, ro, none⟩) rl rc) (.slice (some ⟨cb, co, none⟩) cl cc) ⟨3, a, b, ic, n⟩ s rb ro rl log sec w') := ⟨_, fun _ => Iff.rfl⟩
 have HSm : Hid (∀ w', More W1 w' → S w') := fun w' m => (HS.out _).2 (HF.out.more m)
 have HS0 : S W1.drew := HSm.out _ (More.refl _).drew
 have hne : Nonempty { w' // S w' } := ⟨⟨_, HS0⟩⟩
 have k0 : ∀ i : { w' // S w' }, i.val.cell? ⟨w.heap.size + 1 + 1, 0, none⟩ = some (.int .i64 3) := fun i => ((HS.out _).1 i.property).fi.cell rfl
 have k1 : ∀ i : { w' // S w' }, i.val.cell? ⟨w.heap.size + 1 + 1, 1, none⟩ = some (.int .i64 a) := fun i => ((HS.out _).1 i.property).fi.cell rfl
 have k2 : ∀ i : { w' // S w' }, i.val.cell? ⟨w.heap.size + 1 + 1, 2, none⟩ = some (.int .i64 b) := fun i => ((HS.out _).1 i.property).fi.cell rfl
 have k3 : ∀ i : { w' // S w' }, i.val.cell? ⟨w.heap.size + 1 + 1, 3, none⟩ = some (.int .i64 ic) := fun i => ((HS.out _).1 i.property).fi.cell rfl
 have k4 : ∀ i : { w' // S w' }, i.val.cell? ⟨w.heap.size + 1 + 1, 4, none⟩ = some (.int .i64 n) := fun i => ((HS.out _).1 i.property).fi.cell rfl
 have k5 : ∀ i : { w' // S w' }, i.val.cell? ⟨w1.heap.size, 1, none⟩ = some (.slice (some ⟨g1, 0, none⟩) 8 c1) := fun i => ((HS.out _).1 i.property).ft.cell rfl
 have k6 : ∀ i : { w' // S w' }, i.val.cell? ⟨w.heap.size + 1, 1, none⟩ = some (.slice (some ⟨g, 0, none⟩) 8 c) := fun i => ((HS.out _).1 i.property).fs.cell rfl
 have k7 : ∀ i : { w' // S w' }, i.val.cell? ⟨w.heap.size, 0, none⟩ = some (.slice (some ⟨rb, ro, none⟩) rl rc) := fun i => ((HS.out _).1 i.property).fp.cell rfl
 obtain ⟨vs, hvs⟩ : ∃ v, sec ic.toNat = v := ⟨_, rfl⟩
 have kr : ∀ i : { w' // S w' }, i.val.cell? ⟨rb, ro + ic.toNat * 2 + 1, none⟩ = some (.bool vs) := fun i => hvs ▸ (((HS.out _).1 i.property).regs ic.toNat (by omega)).2
 have Hx : Hid ((⟨17, vs⟩ : Kn) = ⟨17, sec ic.toNat⟩) := by show _ = _; rw [hvs]
 clear hvs
 go_wp2_with (fail)
 rw [← HW1.out]
 clear i0 i1 i2 i3 i4 zi
 refine wp_region_ord (S := S) [(0, true), (1, true), (2, true), (3, true), (4, true), (5, true), (6, true), (7, true), (8, true), (9, true), (10, true), (11, true), (12, true), (13, false)] (by kernel_rfl) (by kernel_rfl) (by kernel_rfl) HS0 ?_
 iterate 13 (refine wpOrd_take rfl (by kernel_rfl) (fun K hK => ?_); go_simp; refine hK _ _ ?_; clear hK K)
 have Hm2 : Hid (More W1 W1.drew) := (More.refl _).drew
 have HS2 : S W1.drew := HS0
 have Hrow : Hid (KRow W1 g1 s) := HK1.out
 have hr : a.toNat < 8 := by omega
 have q := Hrow.out a.toNat hr
 have q0 := q.1.1
 have q1 := q.1.2
 have q2 := q.2.1
 have q3 := q.2.2
 obtain ⟨w3, Hw3⟩ : ∃ w3, Hid (w3 = ((W1.setCell ⟨g1, a.toNat * 2, none⟩ (.int .i64 17)).setCell ⟨g1, a.toNat * 2 + 1, none⟩ (.bool vs)).drew) := ⟨_, rfl⟩
 have Hrow3 : Hid (KRow w3 g1 (setK s a ⟨17, vs⟩)) := Hw3.out ▸ (Hrow.out.set a ⟨17, vs⟩ hr).more (More.refl _).drew
 have hg := HG.out
 have hA := HA.out
 have HF3 : Hid (LFix w.heap.size g c g1 c1 w1.heap.size (.slice (some ⟨rb, ro, none⟩) rl rc) (.slice (some ⟨cb, co, none⟩) cl cc) ⟨3, a, b, ic, n⟩ s rb ro rl log sec w3) := Hw3.out ▸ LFix.more (More.refl _).drew ((HF.out.set (by omega) (by omega) (by omega) (fun h0 => by have := hA.2 h0; omega) _ _).set (by omega) (by omega) (by omega) (fun h0 => by have := hA.2 h0; omega) _ _)
 have Hm3 : Hid (More w w3) := Hw3.out ▸ ((HM.out.setCell (by dsimp only; omega) _).setCell (by dsimp only; omega) _).drew
 have HS3 : S w3 := (HS.out _).2 HF3.out
 clear hg hA
 refine wpOrd_busy rfl (by kernel_rfl) (fun K hK => ?_); go_simp
 rw [← Hw3.out]
 refine hK _ _ HS3 ?_; clear hK K
 refine wpOrd_done ?_
 clear k0 k1 k2 k3 k4 k5 k6 k7 kr hne HS0 HS2 HS3 q q0 q1 q2 q3
 have t0 := HF3.out.ft.cell (j := 0) (v := .bool true) rfl
 have t1 := HF3.out.ft.cell (j := 1) (v := .slice (some ⟨g1, 0, none⟩) 8 c1) rfl
 go_wp2
 exact hP.out _ _ (LdAt.one rfl (Hx.out ▸ Hrow3.out) (by have := HG.out; omega)) (Hm3.out.alloc _ _)

set_option maxHeartbeats 2000000 in
theorem leads_5 (ra : Option Addr) (rb ro rl rc : Nat) (log : Nat → Int) (sec : Nat → Bool) (cb co cl cc at_ g c : Nat) (a b ic n : Int) (s : KS) (w : World) (hra : 0 < rl → ra = some ⟨rb, ro, none⟩) (hregs : RegsAt w rb ro rl log sec)
  (q0 : w.cell? ⟨cb, co + at_ * 5, none⟩ = some (.int .i64 5)) (q1 : w.cell? ⟨cb, co + at_ * 5 + 1, none⟩ = some (.int .i64 a)) (q2 : w.cell? ⟨cb, co + at_ * 5 + 2, none⟩ = some (.int .i64 b)) (q3 : w.cell? ⟨cb, co + at_ * 5 + 3, none⟩ = some (.int .i64 ic)) (q4 : w.cell? ⟨cb, co + at_ * 5 + 4, none⟩ = some (.int .i64 n))
  (hat : (at_ : Int) < cl) (hcl : (cl : Int) ≤ 200) (hk : KRow w g s) (ha0 : 0 ≤ a) (ha1 : a < 8) (hc0 : 0 ≤ ic) (hc1 : ic < rl) :
  Calls Try.prog 24 #[.agg #[.slice ra rl rc, .slice (some ⟨cb, co, none⟩) cl cc], .int .i64 at_, st true g c] w fun e w' => ∃ v, e = .returned v ∧ LdAt w' w.heap.size v [(at_ + 1, setK s a ⟨17, sec ic.toNat⟩)] ∧ More w w' := by
 obtain rfl : ra = some ⟨rb, ro, none⟩ := hra (by omega)
 have Hk : Hid (KRow w g s) := hk
 have Hreg : Hid ((0 < rl → (some ⟨rb, ro, none⟩ : Option Addr) = some ⟨rb, ro, none⟩) ∧ RegsAt w rb ro rl log sec) := ⟨hra, hregs⟩
 have hat2 : (at_ : Int) + 1 ≤ 200 := by omega
 have hcb : cb < w.heap.size := cell_block q0
 have hcb1 : cb < w.heap.size + 1 := by omega
 clear hk hra hregs
 suffices hP : ∀ P : Ending → World → Prop, (∀ v w', LdAt w' w.heap.size v [(at_ + 1, setK s a ⟨17, sec ic.toNat⟩)] → More w w' → P (.returned v) w') → Calls Try.prog 24 #[.agg #[.slice (some ⟨rb, ro, none⟩) rl rc, .slice (some ⟨cb, co, none⟩) cl cc], .int .i64 at_, st true g c] w P from hP _ (fun v w' h1 h2 => ⟨v, rfl, h1, h2⟩)
 intro P hP0
 have hP : Hid (∀ v w', LdAt w' w.heap.size v [(at_ + 1, setK s a ⟨17, sec ic.toNat⟩)] → More w w' → P (.returned v) w') := hP0
 clear hP0
 unfold st
 go_enter Try.func24, Try.ntmps24
 go_wp2_with (fail)
 refine (copied_calls true g c s _ (Hk.out.more (((More.refl _).alloc _ _).alloc _ _ |>.alloc _ _))).mono ?_
 rintro e w1 ⟨g1, c1, rfl, hg1, hr1, m1⟩
 obtain ⟨W1, HW1⟩ : ∃ W1 : World, Hid (W1 = w1.alloc (.cells #[.bool true, .slice (some ⟨g1, 0, none⟩) 8 c1] 57)) := ⟨_, rfl⟩
 obtain ⟨HF, HK1, HM, HG, HA, HI⟩ := lead_fix (i := ⟨5, a, b, ic, n⟩) Hk.out Hreg.out.2 m1 hr1 hg1 HW1.out
 replace HF := hid_is HF
 replace HK1 := hid_is HK1
 replace HM := hid_is HM
 replace HG := hid_is HG
 replace HA := hid_is HA
 replace HI := hid_is HI
 clear m1 hr1 hg1 q0 q1 q2 q3 q4
 have i0 : w1.cell? ⟨w.heap.size + 1 + 1, 0, none⟩ = some (.int .i64 5) := HI.out.cell rfl
 have i1 : w1.cell? ⟨w.heap.size + 1 + 1, 1, none⟩ = some (.int .i64 a) := HI.out.cell rfl
 have i2 : w1.cell? ⟨w.heap.size + 1 + 1, 2, none⟩ = some (.int .i64 b) := HI.out.cell rfl
 have i3 : w1.cell? ⟨w.heap.size + 1 + 1, 3, none⟩ = some (.int .i64 ic) := HI.out.cell rfl
 have i4 : w1.cell? ⟨w.heap.size + 1 + 1, 4, none⟩ = some (.int .i64 n) := HI.out.cell rfl
 have zi : w.heap.size + 1 + 1 < w1.heap.size := HI.out.lt
 obtain ⟨S, HS⟩ : ∃ S : World → Prop, Hid (∀ w', S w' ↔ LFix w.heap.size g c g1 c1 w1.heap.size (.slice (some ⟨rb, ro, none⟩) rl rc) (.slice (some ⟨cb, co, none⟩) cl cc) ⟨5, a, b, ic, n⟩ s rb ro rl log sec w') := ⟨_, fun _ => Iff.rfl⟩
 have HSm : Hid (∀ w', More W1 w' → S w') := fun w' m => (HS.out _).2 (HF.out.more m)
 have HS0 : S W1.drew := HSm.out _ (More.refl _).drew
 have hne : Nonempty { w' // S w' } := ⟨⟨_, HS0⟩⟩
 have k0 : ∀ i : { w' // S w' }, i.val.cell? ⟨w.heap.size + 1 + 1, 0, none⟩ = some (.int .i64 5) := fun i => ((HS.out _).1 i.property).fi.cell rfl
 have k1 : ∀ i : { w' // S w' }, i.val.cell? ⟨w.heap.size + 1 + 1, 1, none⟩ = some (.int .i64 a) := fun i => ((HS.out _).1 i.property).fi.cell rfl
 have k2 : ∀ i : { w' // S w' }, i.val.cell? ⟨w.heap.size + 1 + 1, 2, none⟩ = some (.int .i64 b) := fun i => ((HS.out _).1 i.property).fi.cell rfl
 have k3 : ∀ i : { w' // S w' }, i.val.cell? ⟨w.heap.size + 1 + 1, 3, none⟩ = some (.int .i64 ic) := fun i => ((HS.out _).1 i.property).fi.cell rfl
 have k4 : ∀ i : { w' // S w' }, i.val.cell? ⟨w.heap.size + 1 + 1, 4, none⟩ = some (.int .i64 n) := fun i => ((HS.out _).1 i.property).fi.cell rfl
 have k5 : ∀ i : { w' // S w' }, i.val.cell? ⟨w1.heap.size, 1, none⟩ = some (.slice (some ⟨g1, 0, none⟩) 8 c1) := fun i => ((HS.out _).1 i.property).ft.cell rfl
 have k6 : ∀ i : { w' // S w' }, i.val.cell? ⟨w.heap.size + 1, 1, none⟩ = some (.slice (some ⟨g, 0, none⟩) 8 c) := fun i => ((HS.out _).1 i.property).fs.cell rfl
 have k7 : ∀ i : { w' // S w' }, i.val.cell? ⟨w.heap.size, 0, none⟩ = some (.slice (some ⟨rb, ro, none⟩) rl rc) := fun i => ((HS.out _).1 i.property).fp.cell rfl
 obtain ⟨vs, hvs⟩ : ∃ v, sec ic.toNat = v := ⟨_, rfl⟩
 have kr : ∀ i : { w' // S w' }, i.val.cell? ⟨rb, ro + ic.toNat * 2 + 1, none⟩ = some (.bool vs) := fun i => hvs ▸ (((HS.out _).1 i.property).regs ic.toNat (by omega)).2
 have Hx : Hid ((⟨17, vs⟩ : Kn) = ⟨17, sec ic.toNat⟩) := by show _ = _; rw [hvs]
 clear hvs
 go_wp2_with (fail)
 rw [← HW1.out]
 clear i0 i1 i2 i3 i4 zi
 refine wp_region_ord (S := S) [(0, true), (1, true), (2, true), (3, true), (4, true), (5, true), (6, true), (7, true), (8, true), (9, true), (10, true), (11, true), (12, true), (13, false)] (by kernel_rfl) (by kernel_rfl) (by kernel_rfl) HS0 ?_
 iterate 13 (refine wpOrd_take rfl (by kernel_rfl) (fun K hK => ?_); go_simp; refine hK _ _ ?_; clear hK K)
 have Hm2 : Hid (More W1 W1.drew) := (More.refl _).drew
 have HS2 : S W1.drew := HS0
 have Hrow : Hid (KRow W1 g1 s) := HK1.out
 have hr : a.toNat < 8 := by omega
 have q := Hrow.out a.toNat hr
 have q0 := q.1.1
 have q1 := q.1.2
 have q2 := q.2.1
 have q3 := q.2.2
 obtain ⟨w3, Hw3⟩ : ∃ w3, Hid (w3 = ((W1.setCell ⟨g1, a.toNat * 2, none⟩ (.int .i64 17)).setCell ⟨g1, a.toNat * 2 + 1, none⟩ (.bool vs)).drew) := ⟨_, rfl⟩
 have Hrow3 : Hid (KRow w3 g1 (setK s a ⟨17, vs⟩)) := Hw3.out ▸ (Hrow.out.set a ⟨17, vs⟩ hr).more (More.refl _).drew
 have hg := HG.out
 have hA := HA.out
 have HF3 : Hid (LFix w.heap.size g c g1 c1 w1.heap.size (.slice (some ⟨rb, ro, none⟩) rl rc) (.slice (some ⟨cb, co, none⟩) cl cc) ⟨5, a, b, ic, n⟩ s rb ro rl log sec w3) := Hw3.out ▸ LFix.more (More.refl _).drew ((HF.out.set (by omega) (by omega) (by omega) (fun h0 => by have := hA.2 h0; omega) _ _).set (by omega) (by omega) (by omega) (fun h0 => by have := hA.2 h0; omega) _ _)
 have Hm3 : Hid (More w w3) := Hw3.out ▸ ((HM.out.setCell (by dsimp only; omega) _).setCell (by dsimp only; omega) _).drew
 have HS3 : S w3 := (HS.out _).2 HF3.out
 clear hg hA
 refine wpOrd_busy rfl (by kernel_rfl) (fun K hK => ?_); go_simp
 rw [← Hw3.out]
 refine hK _ _ HS3 ?_; clear hK K
 refine wpOrd_done ?_
 clear k0 k1 k2 k3 k4 k5 k6 k7 kr hne HS0 HS2 HS3 q q0 q1 q2 q3
 have t0 := HF3.out.ft.cell (j := 0) (v := .bool true) rfl
 have t1 := HF3.out.ft.cell (j := 1) (v := .slice (some ⟨g1, 0, none⟩) 8 c1) rfl
 go_wp2
 exact hP.out _ _ (LdAt.one rfl (Hx.out ▸ Hrow3.out) (by have := HG.out; omega)) (Hm3.out.alloc _ _)

set_option maxHeartbeats 2000000 in
theorem leads_op (ra : Option Addr) (rb ro rl rc : Nat) (log : Nat → Int) (sec : Nat → Bool) (cb co cl cc at_ g c : Nat) (op a b ic n : Int) (s : KS) (w : World) (hra : 0 < rl → ra = some ⟨rb, ro, none⟩) (hregs : RegsAt w rb ro rl log sec)
  (q0 : w.cell? ⟨cb, co + at_ * 5, none⟩ = some (.int .i64 op)) (q1 : w.cell? ⟨cb, co + at_ * 5 + 1, none⟩ = some (.int .i64 a)) (q2 : w.cell? ⟨cb, co + at_ * 5 + 2, none⟩ = some (.int .i64 b)) (q3 : w.cell? ⟨cb, co + at_ * 5 + 3, none⟩ = some (.int .i64 ic)) (q4 : w.cell? ⟨cb, co + at_ * 5 + 4, none⟩ = some (.int .i64 n))
  (hat : (at_ : Int) < cl) (hcl : (cl : Int) ≤ 200) (hk : KRow w g s) (ho0 : 21 ≤ op) (ho1 : op ≤ 30) (ha0 : 0 ≤ a) (ha1 : a < 8) (hb0 : 0 ≤ b) (hb1 : b < 8) (hc0 : 0 ≤ ic) (hc1 : ic < 8) :
  Calls Try.prog 24 #[.agg #[.slice ra rl rc, .slice (some ⟨cb, co, none⟩) cl cc], .int .i64 at_, st true g c] w fun e w' => ∃ v, e = .returned v ∧ LdAt w' w.heap.size v [(at_ + 1, setK s a (Kn.op (op - 20) (s b.toNat) (s ic.toNat)))] ∧ More w w' := by
 have e7 : (op == 7) = false := by simp; omega
 have e9 : (op == 9) = false := by simp; omega
 have e8 : (op == 8) = false := by simp; omega
 have e1 : (op == 1) = false := by simp; omega
 have e2 : (op == 2) = false := by simp; omega
 have e10 : (op == 10) = false := by simp; omega
 have e3 : (op == 3) = false := by simp; omega
 have e5 : (op == 5) = false := by simp; omega
 have e11 : (op == 11) = false := by simp; omega
 have e4 : (op == 4) = false := by simp; omega
 have e6 : (op == 6) = false := by simp; omega
 have e12 : (op == 12) = false := by simp; omega
 have Hk : Hid (KRow w g s) := hk
 have Hreg : Hid ((0 < rl → ra = some ⟨rb, ro, none⟩) ∧ RegsAt w rb ro rl log sec) := ⟨hra, hregs⟩
 have hat2 : (at_ : Int) + 1 ≤ 200 := by omega
 have hcb : cb < w.heap.size := cell_block q0
 have hcb1 : cb < w.heap.size + 1 := by omega
 clear hk hra hregs
 suffices hP : ∀ P : Ending → World → Prop, (∀ v w', LdAt w' w.heap.size v [(at_ + 1, setK s a (Kn.op (op - 20) (s b.toNat) (s ic.toNat)))] → More w w' → P (.returned v) w') → Calls Try.prog 24 #[.agg #[.slice ra rl rc, .slice (some ⟨cb, co, none⟩) cl cc], .int .i64 at_, st true g c] w P from hP _ (fun v w' h1 h2 => ⟨v, rfl, h1, h2⟩)
 intro P hP0
 have hP : Hid (∀ v w', LdAt w' w.heap.size v [(at_ + 1, setK s a (Kn.op (op - 20) (s b.toNat) (s ic.toNat)))] → More w w' → P (.returned v) w') := hP0
 clear hP0
 unfold st
 go_enter Try.func24, Try.ntmps24
 go_wp2_with (fail)
 refine (copied_calls true g c s _ (Hk.out.more (((More.refl _).alloc _ _).alloc _ _ |>.alloc _ _))).mono ?_
 rintro e w1 ⟨g1, c1, rfl, hg1, hr1, m1⟩
 obtain ⟨W1, HW1⟩ : ∃ W1 : World, Hid (W1 = w1.alloc (.cells #[.bool true, .slice (some ⟨g1, 0, none⟩) 8 c1] 57)) := ⟨_, rfl⟩
 obtain ⟨HF, HK1, HM, HG, HA, HI⟩ := lead_fix (i := ⟨op, a, b, ic, n⟩) Hk.out Hreg.out.2 m1 hr1 hg1 HW1.out
 replace HF := hid_is HF
 replace HK1 := hid_is HK1
 replace HM := hid_is HM
 replace HG := hid_is HG
 replace HA := hid_is HA
 replace HI := hid_is HI
 clear m1 hr1 hg1 q0 q1 q2 q3 q4
 have i0 : w1.cell? ⟨w.heap.size + 1 + 1, 0, none⟩ = some (.int .i64 op) := HI.out.cell rfl
 have i1 : w1.cell? ⟨w.heap.size + 1 + 1, 1, none⟩ = some (.int .i64 a) := HI.out.cell rfl
 have i2 : w1.cell? ⟨w.heap.size + 1 + 1, 2, none⟩ = some (.int .i64 b) := HI.out.cell rfl
 have i3 : w1.cell? ⟨w.heap.size + 1 + 1, 3, none⟩ = some (.int .i64 ic) := HI.out.cell rfl
 have i4 : w1.cell? ⟨w.heap.size + 1 + 1, 4, none⟩ = some (.int .i64 n) := HI.out.cell rfl
 have zi : w.heap.size + 1 + 1 < w1.heap.size := HI.out.lt
 obtain ⟨S, HS⟩ : ∃ S : World → Prop, Hid (∀ w', S w' ↔ LFix w.heap.size g c g1 c1 w1.heap.size (.slice ra rl rc) (.slice (some ⟨cb, co, none⟩) cl cc) ⟨op, a, b, ic, n⟩ s rb ro rl log sec w') := ⟨_, fun _ => Iff.rfl⟩
 have HSm : Hid (∀ w', More W1 w' → S w') := fun w' m => (HS.out _).2 (HF.out.more m)
 have HS0 : S W1.drew := HSm.out _ (More.refl _).drew
 have hne : Nonempty { w' // S w' } := ⟨⟨_, HS0⟩⟩
 have k0 : ∀ i : { w' // S w' }, i.val.cell? ⟨w.heap.size + 1 + 1, 0, none⟩ = some (.int .i64 op) := fun i => ((HS.out _).1 i.property).fi.cell rfl
 have k1 : ∀ i : { w' // S w' }, i.val.cell? ⟨w.heap.size + 1 + 1, 1, none⟩ = some (.int .i64 a) := fun i => ((HS.out _).1 i.property).fi.cell rfl
 have k2 : ∀ i : { w' // S w' }, i.val.cell? ⟨w.heap.size + 1 + 1, 2, none⟩ = some (.int .i64 b) := fun i => ((HS.out _).1 i.property).fi.cell rfl
 have k3 : ∀ i : { w' // S w' }, i.val.cell? ⟨w.heap.size + 1 + 1, 3, none⟩ = some (.int .i64 ic) := fun i => ((HS.out _).1 i.property).fi.cell rfl
 have k4 : ∀ i : { w' // S w' }, i.val.cell? ⟨w.heap.size + 1 + 1, 4, none⟩ = some (.int .i64 n) := fun i => ((HS.out _).1 i.property).fi.cell rfl
 have k5 : ∀ i : { w' // S w' }, i.val.cell? ⟨w1.heap.size, 1, none⟩ = some (.slice (some ⟨g1, 0, none⟩) 8 c1) := fun i => ((HS.out _).1 i.property).ft.cell rfl
 have k6 : ∀ i : { w' // S w' }, i.val.cell? ⟨w.heap.size + 1, 1, none⟩ = some (.slice (some ⟨g, 0, none⟩) 8 c) := fun i => ((HS.out _).1 i.property).fs.cell rfl
 have k7 : ∀ i : { w' // S w' }, i.val.cell? ⟨w.heap.size, 0, none⟩ = some (.slice ra rl rc) := fun i => ((HS.out _).1 i.property).fp.cell rfl
 obtain ⟨xb, hxb⟩ : ∃ x, s b.toNat = x := ⟨_, rfl⟩
 have kb0 : ∀ i : { w' // S w' }, i.val.cell? ⟨g, b.toNat * 2, none⟩ = some (.int .i64 xb.b) := fun i => hxb ▸ (((HS.out _).1 i.property).ks b.toNat (by omega)).1.1
 have kb1 : ∀ i : { w' // S w' }, i.val.cell? ⟨g, b.toNat * 2 + 1, none⟩ = some (.bool xb.s) := fun i => hxb ▸ (((HS.out _).1 i.property).ks b.toNat (by omega)).1.2
 obtain ⟨xc, hxc⟩ : ∃ x, s ic.toNat = x := ⟨_, rfl⟩
 have kc0 : ∀ i : { w' // S w' }, i.val.cell? ⟨g, ic.toNat * 2, none⟩ = some (.int .i64 xc.b) := fun i => hxc ▸ (((HS.out _).1 i.property).ks ic.toNat (by omega)).1.1
 have kc1 : ∀ i : { w' // S w' }, i.val.cell? ⟨g, ic.toNat * 2 + 1, none⟩ = some (.bool xc.s) := fun i => hxc ▸ (((HS.out _).1 i.property).ks ic.toNat (by omega)).1.2
 obtain ⟨v, hv⟩ : ∃ v, Kn.op (op - 20) xb xc = v := ⟨_, rfl⟩
 have c2 : ∀ w : World, Calls Try.prog 52 #[.int .i64 (op - 20), kn xb.b xb.s, kn xc.b xc.s] w fun e w' => e = .returned (kn v.b v.s) ∧ More w w' := fun w => hv ▸ rop_calls (op - 20) xb.b xc.b xb.s xc.s w
 have Hx : Hid ((⟨v.b, v.s⟩ : Kn) = Kn.op (op - 20) (s b.toNat) (s ic.toNat)) := by rw [hxb, hxc]; exact hv.symm
 clear hv hxb hxc
 obtain ⟨vb, vs⟩ := v
 obtain ⟨xbb, xbs⟩ := xb
 obtain ⟨xcb, xcs⟩ := xc
 unfold kn at c2
 dsimp only at c2 kb0 kb1 kc0 kc1
 have hwr : IntKind.i64.wrap (op - 20) = op - 20 := by rw [IntKind.wrap_i64]; omega
 go_wp2_with (fail)
 rw [← HW1.out]
 clear i0 i1 i2 i3 i4 zi
 refine wp_region_ord (S := S) [(0, true), (1, true), (2, true), (3, true), (4, true), (5, true), (6, true), (7, true), (8, true), (9, true), (10, true), (11, true), (12, true), (13, true), (14, true), (15, true), (16, true), (17, true), (18, true), (19, false), (20, true), (21, false)] (by kernel_rfl) (by kernel_rfl) (by kernel_rfl) HS0 ?_
 iterate 19 (refine wpOrd_take rfl (by kernel_rfl) (fun K hK => ?_); go_simp; refine hK _ _ ?_; clear hK K)
 refine wpOrd_busy rfl (by kernel_rfl) (fun K hK => ?_); go_simp
 try rw [hwr]
 refine (c2 _).mono ?_
 rintro e w2 ⟨rfl, m2⟩
 have Hm2 : Hid (More W1 w2) := (More.refl _).drew.trans m2
 have HS2 : S w2 := HSm.out _ Hm2.out
 clear m2
 go_simp
 refine hK _ _ HS2 ?_; clear hK K
 (refine wpOrd_take rfl (by kernel_rfl) (fun K hK => ?_); go_simp; refine hK _ _ ?_; clear hK K)
 have Hrow : Hid (KRow w2 g1 s) := HK1.out.more Hm2.out
 have hr : a.toNat < 8 := by omega
 have q := Hrow.out a.toNat hr
 have q0 := q.1.1
 have q1 := q.1.2
 have q2 := q.2.1
 have q3 := q.2.2
 obtain ⟨w3, Hw3⟩ : ∃ w3, Hid (w3 = (w2.setCell ⟨g1, a.toNat * 2, none⟩ (.int .i64 vb)).setCell ⟨g1, a.toNat * 2 + 1, none⟩ (.bool vs)) := ⟨_, rfl⟩
 have Hrow3 : Hid (KRow w3 g1 (setK s a ⟨vb, vs⟩)) := Hw3.out ▸ Hrow.out.set a ⟨vb, vs⟩ hr
 have hg := HG.out
 have hA := HA.out
 have HF3 : Hid (LFix w.heap.size g c g1 c1 w1.heap.size (.slice ra rl rc) (.slice (some ⟨cb, co, none⟩) cl cc) ⟨op, a, b, ic, n⟩ s rb ro rl log sec w3) := Hw3.out ▸ ((HF.out.more Hm2.out).set (by omega) (by omega) (by omega) (fun h0 => by have := hA.2 h0; omega) _ _).set (by omega) (by omega) (by omega) (fun h0 => by have := hA.2 h0; omega) _ _
 have Hm3 : Hid (More w w3) := Hw3.out ▸ (((HM.out.trans Hm2.out).setCell (by dsimp only; omega) _).setCell (by dsimp only; omega) _)
 have HS3 : S w3 := (HS.out _).2 HF3.out
 clear hg hA
 refine wpOrd_busy rfl (by kernel_rfl) (fun K hK => ?_); go_simp
 rw [← Hw3.out]
 refine hK _ _ HS3 ?_; clear hK K
 refine wpOrd_done ?_
 clear k0 k1 k2 k3 k4 k5 k6 k7 kb0 kb1 kc0 kc1 hne HS0 HS2 HS3 q q0 q1 q2 q3
 have t0 := HF3.out.ft.cell (j := 0) (v := .bool true) rfl
 have t1 := HF3.out.ft.cell (j := 1) (v := .slice (some ⟨g1, 0, none⟩) 8 c1) rfl
 go_wp2
 exact hP.out _ _ (LdAt.one rfl (Hx.out ▸ Hrow3.out) (by have := HG.out; omega)) (Hm3.out.alloc _ _)
end
end Go.Proofs.Ytmpafeoileonjaa
