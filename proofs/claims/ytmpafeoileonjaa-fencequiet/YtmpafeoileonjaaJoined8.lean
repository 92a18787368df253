/-
  The texts QuietAux, SemSpec, SpQuiet, RPlace, SpecAlike, SpecMore, StepS, Flat, RAux, RCopy, RRun, RRun2, one behind the other, with what is used of them.
-/
import Derived.Test.YtmpafeoileonjaaJoined7
import Derived.Test.YtmpafeoileonjaaJoined1
import Derived.Test.YtmpafeoileonjaaJoined0
import Derived.Test.YtmpafeoileonjaaJoined5
import Derived.Deep.AppendLies
import Derived.Laws.AppendOwnNone
import Derived.WalkKit
import Derived.Laws.IdiomCopy
namespace Go.Proofs.Ytmpafeoileonjaa
section
open Go.RowKit
set_option linter.unusedSimpArgs false
set_option linter.unusedVariables false
set_option maxRecDepth 8000
set_option maxHeartbeats 2000000 in
theorem Jgu (rv cv : Value) (hrv : ∃ a n c, rv = .slice a n c) (hcv : ∃ a n c, cv = .slice a n c) (e v t : Int) (su sv mu mv : Value) (w : World) (hsu : ∃ a n c, su = .slice a n c) (hsv : ∃ a n c, sv = .slice a n c) (hmu : ∃ a n c, mu = .slice a n c) (hmv : ∃ a n c, mv = .slice a n c)
  (c1 : ∀ w1 : World, More w w1 → Calls Try.prog 40 #[su, sv] w1 fun e w' => e = .returned (.bool true) ∧ More w1 w')
  (c2 : ∀ w1 : World, More w w1 → Calls Try.prog 15 #[.agg #[rv, cv], mu, mv] w1 fun e w' => e = .returned (.bool true) ∧ More w1 w') :
  Calls Try.prog 18 #[.agg #[rv, cv], .agg #[.int .i64 e, .int .i64 v, .int .i64 t, su, mu], .agg #[.int .i64 e, .int .i64 v, .int .i64 t, sv, mv]] w fun e w' => e = .returned (.bool true) ∧ More w w' := by
 obtain ⟨a, n, c, rfl⟩ := hrv
 obtain ⟨a2, n2, cc2, rfl⟩ := hcv
 obtain ⟨a3, n3, cc3, rfl⟩ := hsu
 obtain ⟨a4, n4, cc4, rfl⟩ := hsv
 obtain ⟨a5, n5, cc5, rfl⟩ := hmu
 obtain ⟨a6, n6, cc6, rfl⟩ := hmv
 have C1 : Hid (∀ w1 : World, More w w1 → Calls Try.prog 40 #[.slice a3 n3 cc3, .slice a4 n4 cc4] w1 fun e w' => e = .returned (.bool true) ∧ More w1 w') := c1
 have C2 : Hid (∀ w1 : World, More w w1 → Calls Try.prog 15 #[.agg #[.slice a n c, .slice a2 n2 cc2], .slice a5 n5 cc5, .slice a6 n6 cc6] w1 fun e w' => e = .returned (.bool true) ∧ More w1 w') := c2
 clear c1 c2
 go_enter Try.func18, Try.ntmps18
 go_wp2_with (fail)
 refine (C1.out _ ((((More.refl _).alloc _ _).alloc _ _).alloc _ _)).mono ?_
 rintro e1 w1 ⟨rfl, m1⟩
 have Hm1 : Hid (More w w1) := ((((More.refl _).alloc _ _).alloc _ _).alloc _ _).trans m1
 have B0 : Hid (Blk w1 w.heap.size #[.slice a n c, .slice a2 n2 cc2] 25) := (((Blk.last _ _ _).alloc _ _).alloc _ _).more m1
 have B1 : Hid (Blk w1 (w.heap.size + 1) #[.int .i64 e, .int .i64 v, .int .i64 t, .slice a3 n3 cc3, .slice a5 n5 cc5] 39) := ((by simpa using Blk.last (w.alloc (.cells #[.slice a n c, .slice a2 n2 cc2] 25)) #[.int .i64 e, .int .i64 v, .int .i64 t, .slice a3 n3 cc3, .slice a5 n5 cc5] 39 : Blk _ (w.heap.size + 1) _ _).alloc _ _).more m1
 have B2 : Hid (Blk w1 (w.heap.size + 1 + 1) #[.int .i64 e, .int .i64 v, .int .i64 t, .slice a4 n4 cc4, .slice a6 n6 cc6] 39) := (by simpa using Blk.last ((w.alloc (.cells #[.slice a n c, .slice a2 n2 cc2] 25)).alloc (.cells #[.int .i64 e, .int .i64 v, .int .i64 t, .slice a3 n3 cc3, .slice a5 n5 cc5] 39)) #[.int .i64 e, .int .i64 v, .int .i64 t, .slice a4 n4 cc4, .slice a6 n6 cc6] 39 : Blk _ (w.heap.size + 1 + 1) _ _).more m1
 clear m1 C1
 have p0 : w1.cell? ⟨w.heap.size, 0, none⟩ = some (.slice a n c) := B0.out.cell rfl
 have p1 : w1.cell? ⟨w.heap.size, 1, none⟩ = some (.slice a2 n2 cc2) := B0.out.cell rfl
 have x0 : w1.cell? ⟨w.heap.size + 1, 0, none⟩ = some (.int .i64 e) := B1.out.cell rfl
 have x1 : w1.cell? ⟨w.heap.size + 1, 1, none⟩ = some (.int .i64 v) := B1.out.cell rfl
 have x2 : w1.cell? ⟨w.heap.size + 1, 2, none⟩ = some (.int .i64 t) := B1.out.cell rfl
 have x4 : w1.cell? ⟨w.heap.size + 1, 4, none⟩ = some (.slice a5 n5 cc5) := B1.out.cell rfl
 have y0 : w1.cell? ⟨w.heap.size + 1 + 1, 0, none⟩ = some (.int .i64 e) := B2.out.cell rfl
 have y1 : w1.cell? ⟨w.heap.size + 1 + 1, 1, none⟩ = some (.int .i64 v) := B2.out.cell rfl
 have y2 : w1.cell? ⟨w.heap.size + 1 + 1, 2, none⟩ = some (.int .i64 t) := B2.out.cell rfl
 have y4 : w1.cell? ⟨w.heap.size + 1 + 1, 4, none⟩ = some (.slice a6 n6 cc6) := B2.out.cell rfl
 go_wp2_with (fail)
 refine (C2.out _ Hm1.out).mono ?_
 rintro e1 w2 ⟨rfl, m2⟩
 have Hm2 : Hid (More w w2) := Hm1.out.trans m2
 clear m2 C2
 go_wp2
 go_ret
 exact ⟨rfl, Hm2.out⟩

theorem J6i (p : Prg) (lo : Loc) (x y : Mem) (l l' : MLoc) (w : World) (hp : PIn w p lo) (hx : MIn w x l) (hy : MIn w y l') (hlx : x.ml = p.rl) (hly : y.ml = p.rl) (hrl : p.rl ≤ 6) (hlen : ∀ c, c < p.rl → x.len c = y.len c ∧ x.len c ≤ 64) (r : Bool) (hr : r = true ↔ PubI p x y) :
  Calls Try.prog 15 #[.agg #[.slice lo.ra p.rl lo.rc, .slice lo.ca p.cl lo.cc], .slice l.ma x.ml l.mc, .slice l'.ma y.ml l'.mc] w fun e w' => e = .returned (.bool r) ∧ More w w' := by
 refine (J90 p lo x y l l' w hp hx hy hlx hly hrl hlen ⟨_, _, _, rfl⟩).mono ?_
 rintro e w' ⟨q, rfl, hq, mm⟩
 have : q = r := Bool.eq_iff_iff.2 (hq.trans hr.symm)
 rw [this]
 exact ⟨rfl, mm⟩

theorem J7f {w : World} {v : Value} {l : List Se} (h : SeenAt w v l) : ∃ a n c, v = .slice a n c := by
 obtain ⟨a, b, o, c, rfl, _⟩ := h
 exact ⟨_, _, _, rfl⟩
end
section
open Go.RowKit
set_option linter.unusedVariables false
structure Pl where
 at_ : Nat
 r : Nat → Int
 wd : Nat → Int
 past : Nat → List Int

structure Sp where
 pl : Pl
 ahead : Bool
 since : Int
 back : Pl
 script : List Int
 seen : List Se

def setF {α : Type} (f : Nat → α) (k : Nat) (v : α) : Nat → α := fun j => if j = k then v else f j
def Sp.choice (s : Sp) : Int := s.script.headD 0
def Sp.leave (s : Sp) : Sp := if s.ahead = true then s else { s with ahead := true, since := -1, back := s.pl }
def Sp.returns (s : Sp) : Sp := { s with seen := s.seen ++ [⟨4, 0, 0⟩], ahead := false, pl := s.back }
def allI (p : Prg) : Int := baseI p.log p.rl

def Sp.see (s : Sp) (x : Se) : Sp := { s with seen := s.seen ++ [x] }
def Sp.go (s : Sp) (n : Nat) : Sp := { s with pl := { s.pl with at_ := n } }
def Sp.reg (s : Sp) (a v : Int) : Sp := { s with pl := { s.pl with r := setR s.pl.r a v } }

def wordS (p : Prg) (s : Sp) (i : Ins) (n : Int) : Sp :=
 if n < 0 ∨ allI p ≤ n then (if putI i = 0 then s.reg i.a 0 else s)
 else if putI i = 1 then { s with pl := { s.pl with past := setF s.pl.past n.toNat (s.pl.past n.toNat ++ [s.pl.wd n.toNat]), wd := setF s.pl.wd n.toNat (s.pl.r i.a.toNat) } }
 else
  if 0 < s.choice ∧ s.choice ≤ ((s.pl.past n.toNat).length : Int) then
   (({ s with script := s.script.tail }.reg i.a (s.pl.wd n.toNat)).leave).reg i.a ((s.pl.past n.toNat).getD ((s.pl.past n.toNat).length - s.choice.toNat) 0)
  else { s with script := s.script.tail }.reg i.a (s.pl.wd n.toNat)

def stepS (p : Prg) (s : Sp) : Sp × Bool × Option (Int × Int) :=
 if (p.ins s.pl.at_).op = 7 then (((s.see ⟨1, s.pl.at_, 0⟩).go (p.ins s.pl.at_).n.toNat), false, none)
 else if (p.ins s.pl.at_).op = 8 then
  (if J15 (p.ins s.pl.at_).c (s.pl.r (p.ins s.pl.at_).a.toNat) (s.pl.r (p.ins s.pl.at_).b.toNat) = true then
   (if s.choice = 0 then { (s.see ⟨1, s.pl.at_, 0⟩).go (p.ins s.pl.at_).n.toNat with script := s.script.tail } else ({ (s.see ⟨1, s.pl.at_, 0⟩).go (p.ins s.pl.at_).n.toNat with script := s.script.tail }.leave).go (s.pl.at_ + 1), false, none)
  else
   (if s.choice = 0 then { (s.see ⟨1, s.pl.at_, 0⟩).go (s.pl.at_ + 1) with script := s.script.tail } else ({ (s.see ⟨1, s.pl.at_, 0⟩).go (s.pl.at_ + 1) with script := s.script.tail }.leave).go (p.ins s.pl.at_).n.toNat, false, none))
 else if (p.ins s.pl.at_).op = 9 ∧ s.ahead = false then (s.see ⟨1, s.pl.at_, 0⟩, false, some (1, s.pl.r (p.ins s.pl.at_).a.toNat))
 else if (p.ins s.pl.at_).op = 9 ∨ (p.ins s.pl.at_).op = 12 then ((s.see ⟨1, s.pl.at_, 0⟩).go (s.pl.at_ + 1), true, none)
 else if 0 ≤ putI (p.ins s.pl.at_) then
  if s.ahead = false ∧ (idxI s.pl.r (p.ins s.pl.at_) < 0 ∨ J0h (p.log (p.ins s.pl.at_).c.toNat) ≤ idxI s.pl.r (p.ins s.pl.at_)) then (s.see ⟨1, s.pl.at_, 0⟩, false, some (2, 0))
  else (wordS p (((s.see ⟨1, s.pl.at_, 0⟩).see ⟨2, wrap64 (baseI p.log (p.ins s.pl.at_).c.toNat + idxI s.pl.r (p.ins s.pl.at_)), putI (p.ins s.pl.at_)⟩).go (s.pl.at_ + 1)) (p.ins s.pl.at_) (wrap64 (baseI p.log (p.ins s.pl.at_).c.toNat + idxI s.pl.r (p.ins s.pl.at_))), false, none)
 else ({ (s.see ⟨1, s.pl.at_, 0⟩).go (s.pl.at_ + 1) with pl := ⟨s.pl.at_ + 1, (regsI s.pl.r (p.ins s.pl.at_)).1, s.pl.wd, s.pl.past⟩, seen := s.seen ++ [⟨1, s.pl.at_, 0⟩] ++ (regsI s.pl.r (p.ins s.pl.at_)).2 }, false, none)

def Sp.after (s : Sp) (over : Bool) : Sp :=
 if s.ahead = true then (if over = true ∨ s.since + 1 = 12 then ({ s with since := s.since + 1 }).returns else { s with since := s.since + 1 }) else s

structure ShF where
 fin : Int
 val : Int
 steps : Int
 seen : List Se
 wd : Nat → Int

def Sp.noneLeft (s : Sp) (cl : Nat) : Sp := if cl ≤ s.pl.at_ ∧ s.ahead = true then s.returns else s
def Sp.real (s : Sp) : Pl := if s.ahead = true then s.back else s.pl

def runS (p : Prg) : Nat → Nat → Sp → ShF
 | 0, k, s => ⟨0, 0, k, s.seen, s.real.wd⟩
 | f + 1, k, s =>
  if p.cl ≤ (s.noneLeft p.cl).pl.at_ then ⟨2, 0, k, (s.noneLeft p.cl).seen, (s.noneLeft p.cl).real.wd⟩
  else match (stepS p (s.noneLeft p.cl)).2.2 with
   | some e => ⟨e.1, e.2, (k : Int) + 1, (stepS p (s.noneLeft p.cl)).1.seen, (stepS p (s.noneLeft p.cl)).1.real.wd⟩
   | none => runS p f (k + 1) ((stepS p (s.noneLeft p.cl)).1.after (stepS p (s.noneLeft p.cl)).2.1)

def playS (p : Prg) (wd : Nat → Int) (script : List Int) (fuel : Nat) : ShF := runS p fuel 0 ⟨⟨0, fun _ => 0, wd, fun _ => []⟩, false, 0, ⟨0, fun _ => 0, wd, fun _ => []⟩, script, []⟩
end
section
open Go.RowKit
set_option linter.unusedSimpArgs false
set_option linter.unusedVariables false
def PubW (p : Prg) (n : Nat) : Prop := ∃ c, c < p.rl ∧ p.sec c = false ∧ baseI p.log c ≤ (n : Int) ∧ (n : Int) < baseI p.log c + J0h (p.log c)

theorem J58 (l : Int) : 1 ≤ J0h l := by
 unfold J0h
 have : (0 : Int) < 2 ^ l.toNat := Int.pow_pos (by decide)
 omega
theorem J52 (log : Nat → Int) : ∀ a b, a ≤ b → baseI log a ≤ baseI log b
 | a, 0, h => by
  obtain rfl : a = 0 := by omega
  exact Int.le_refl _
 | a, b + 1, h => by
  by_cases e : a = b + 1
  ·subst e; exact Int.le_refl _
  ·have h1 := J52 log a b (by omega)
   have h2 := J58 (log b)
   rw [baseI]
   omega
theorem J72 (log : Nat → Int) (c : Nat) : 0 ≤ baseI log c := J52 log 0 c (Nat.zero_le _)
theorem J5s (log : Nat → Int) (c rl : Nat) (h : c < rl) : baseI log c + J0h (log c) ≤ baseI log rl := J52 log (c + 1) rl h
theorem Jcd (log : Nat → Int) {c d : Nat} {n : Int} (h1 : baseI log c ≤ n) (h2 : n < baseI log c + J0h (log c)) (k1 : baseI log d ≤ n) (k2 : n < baseI log d + J0h (log d)) : c = d := by
 rcases Nat.lt_trichotomy c d with h | h | h
 ·have := J5s log c d h; omega
 ·exact h
 ·have := J5s log d c h; omega
theorem J73 {p : Prg} (h : J0g p.rl p.log) : ∀ c, c ≤ p.rl → baseI p.log c ≤ 64 * (c : Int)
 | 0, _ => by simp [baseI]
 | c + 1, hc => by
  have h1 := J73 h c (by omega)
  have h2 := h.2 c (by omega)
  have h3 := J2j (k := (p.log c).toNat) (by omega)
  rw [baseI]
  unfold J0h
  push_cast
  omega

def Stop (p : Prg) (k : Nat) : Prop := p.cl ≤ k ∨ (p.ins k).op = 9 ∨ (p.ins k).op = 12
def Jbd (p : Prg) (k : Nat) (r : Nat → Int) : Nat := if J15 (p.ins k).c (r (p.ins k).a.toNat) (r (p.ins k).b.toNat) = true then (p.ins k).n.toNat else k + 1
def J7b (p : Prg) (k : Nat) (r : Nat → Int) : Nat := if J15 (p.ins k).c (r (p.ins k).a.toNat) (r (p.ins k).b.toNat) = true then k + 1 else (p.ins k).n.toNat

structure Tight (p : Prg) (W : Int → Prop) (lab : Nat → Nat → Bool) (I : Nat → (Nat → Int) → Prop) : Prop where
 regs : J0g p.rl p.log
 zero : W 0
 jump : ∀ k, k < p.cl → (p.ins k).op = 7 → ∀ r, I k r → (∀ j, j < 10 → lab k j = true → lab (p.ins k).n.toNat j = true) ∧ I (p.ins k).n.toNat r
 cond : ∀ k, k < p.cl → (p.ins k).op = 8 → ∀ r, I k r → (p.ins k).a.toNat < 10 ∧ (p.ins k).b.toNat < 10 ∧ lab k (p.ins k).a.toNat = false ∧ lab k (p.ins k).b.toNat = false ∧
  (∀ j, j < 10 → lab k j = true → lab (p.ins k).n.toNat j = true ∧ lab (k + 1) j = true) ∧ I (Jbd p k r) r ∧ (I (J7b p k r) r ∨ Stop p (J7b p k r))
 halt : ∀ k, k < p.cl → (p.ins k).op = 9 → ∀ r, I k r → (p.ins k).a.toNat < 10 ∧ lab k (p.ins k).a.toNat = false
 fence : ∀ k, k < p.cl → (p.ins k).op = 12 → ∀ r, I k r → (∀ j, j < 10 → lab k j = true → lab (k + 1) j = true) ∧ I (k + 1) r
 word : ∀ k, k < p.cl → 0 ≤ putI (p.ins k) → ∀ r, I k r → (p.ins k).c.toNat < p.rl ∧ (p.ins k).a.toNat < 10 ∧ (0 ≤ idxI r (p.ins k) ∧ idxI r (p.ins k) < J0h (p.log (p.ins k).c.toNat)) ∧ (∀ t, (∀ j, j < 10 → lab k j = false → r j = t j) → idxI r (p.ins k) = idxI t (p.ins k))
 load : ∀ k, k < p.cl → putI (p.ins k) = 0 → ∀ r, I k r → (∀ j, j < 10 → j ≠ (p.ins k).a.toNat → lab k j = true → lab (k + 1) j = true) ∧ (p.sec (p.ins k).c.toNat = true → lab (k + 1) (p.ins k).a.toNat = true) ∧ ∀ v, W v → I (k + 1) (setR r (p.ins k).a v)
 put : ∀ k, k < p.cl → putI (p.ins k) = 1 → ∀ r, I k r → (∀ j, j < 10 → lab k j = true → lab (k + 1) j = true) ∧ (lab k (p.ins k).a.toNat = true → p.sec (p.ins k).c.toNat = true) ∧ I (k + 1) r
 kept : ∀ k, k < p.cl → putI (p.ins k) = 1 → ∀ r, I k r → W (r (p.ins k).a.toNat)
 op : ∀ k, k < p.cl → ¬ (p.ins k).op = 7 → ¬ (p.ins k).op = 8 → ¬ (p.ins k).op = 9 → ¬ (p.ins k).op = 12 → ¬ 0 ≤ putI (p.ins k) → ∀ r, I k r →
  (∀ t, (∀ j, j < 10 → lab k j = false → r j = t j) → (regsI r (p.ins k)).2 = (regsI t (p.ins k)).2 ∧ ∀ j, j < 10 → lab (k + 1) j = false → (regsI r (p.ins k)).1 j = (regsI t (p.ins k)).1 j) ∧ I (k + 1) (regsI r (p.ins k)).1

section
variable {p : Prg} {W : Int → Prop} {lab : Nat → Nat → Bool} {I : Nat → (Nat → Int) → Prop}

structure TwinP (p : Prg) (lab : Nat → Nat → Bool) (a b : Pl) : Prop where
 at_ : a.at_ = b.at_
 r : ∀ j, j < 10 → lab a.at_ j = false → a.r j = b.r j
 len : ∀ n, (a.past n).length = (b.past n).length
 wd : ∀ n, PubW p n → a.wd n = b.wd n
 past : ∀ n, PubW p n → a.past n = b.past n
def Wds (W : Int → Prop) (wd : Nat → Int) (past : Nat → List Int) : Prop := ∀ n, W (wd n) ∧ ∀ v, v ∈ past n → W v
def Both (W : Int → Prop) (I : Nat → (Nat → Int) → Prop) (a b : Pl) : Prop := (I a.at_ a.r ∧ Wds W a.wd a.past) ∧ (I b.at_ b.r ∧ Wds W b.wd b.past)
theorem Wds.put {W : Int → Prop} {wd : Nat → Int} {past : Nat → List Int} (h : Wds W wd past) (n : Nat) {x : Int} (hx : W x) : Wds W (setF wd n x) (setF past n (past n ++ [wd n])) := fun m => by
 unfold setF
 by_cases e : m = n
 ·rw [if_pos e, if_pos e]
  refine ⟨hx, fun v hv => ?_⟩
  rcases List.mem_append.1 hv with q | q
  ·exact (h n).2 v q
  ·rw [List.mem_singleton.1 q]; exact (h n).1
 ·rw [if_neg e, if_neg e]; exact h m
theorem Wds.was {W : Int → Prop} {wd : Nat → Int} {past : Nat → List Int} (h : Wds W wd past) (h0 : W 0) (n k : Nat) : W ((past n).getD k 0) := by
 rw [List.getD_eq_getElem?_getD]
 cases e : (past n)[k]? with
 | none => exact h0
 | some v => exact (h n).2 v (List.mem_of_getElem? e)

structure TwinS (p : Prg) (W : Int → Prop) (lab : Nat → Nat → Bool) (I : Nat → (Nat → Int) → Prop) (a b : Sp) : Prop where
 pl : TwinP p lab a.pl b.pl
 inv : Both W I a.pl b.pl ∨ (a.ahead = true ∧ Stop p a.pl.at_)
 ahead : a.ahead = b.ahead
 since : a.since = b.since
 script : a.script = b.script
 seen : a.seen = b.seen
 back : a.ahead = true → TwinP p lab a.back b.back ∧ Both W I a.back b.back

theorem TwinS.both {a b : Sp} (h : TwinS p W lab I a b) (ha : a.ahead = false) : Both W I a.pl b.pl := by
 rcases h.inv with q | ⟨q, _⟩
 ·exact q
 ·rw [ha] at q; cases q
theorem J1n (s : Sp) : s.leave.pl = s.pl := by unfold Sp.leave; split <;> rfl
theorem J3g (s : Sp) : s.leave.ahead = true := by
 unfold Sp.leave
 split
 ·assumption
 ·rfl
theorem TwinS.leave {a b : Sp} (h : TwinS p W lab I a b) (hb : Both W I a.pl b.pl) : TwinS p W lab I a.leave b.leave := by
 have e' := h.ahead
 unfold Sp.leave
 by_cases e : a.ahead = true
 ·rw [if_pos e, if_pos (e'.symm.trans e)]; exact h
 ·rw [if_neg e, if_neg (fun q => e (e'.trans q))]
  exact ⟨h.pl, .inl hb, rfl, rfl, h.script, h.seen, fun _ => ⟨h.pl, hb⟩⟩
theorem TwinS.returns {a b : Sp} (h : TwinS p W lab I a b) (ha : a.ahead = true) : TwinS p W lab I a.returns b.returns :=
 ⟨(h.back ha).1, .inl (h.back ha).2, rfl, h.since, h.script, by show _ ++ _ = _ ++ _; rw [h.seen], fun q => absurd q (by simp [Sp.returns])⟩
theorem TwinS.to {a b : Sp} (h : TwinS p W lab I a b) {x y : Pl} (hp : TwinP p lab x y) (hi : Both W I x y ∨ (a.ahead = true ∧ Stop p x.at_)) : TwinS p W lab I { a with pl := x } { b with pl := y } :=
 ⟨hp, hi, h.ahead, h.since, h.script, h.seen, h.back⟩
theorem TwinS.tail {a b : Sp} (h : TwinS p W lab I a b) : TwinS p W lab I { a with script := a.script.tail } { b with script := b.script.tail } :=
 ⟨h.pl, h.inv, h.ahead, h.since, by show a.script.tail = b.script.tail; rw [h.script], h.seen, h.back⟩
theorem TwinS.shown {a b : Sp} (h : TwinS p W lab I a b) (l : List Se) : TwinS p W lab I { a with seen := a.seen ++ l } { b with seen := b.seen ++ l } :=
 ⟨h.pl, h.inv, h.ahead, h.since, h.script, by show _ ++ _ = _ ++ _; rw [h.seen], h.back⟩

theorem TwinS.after {a b : Sp} (h : TwinS p W lab I a b) (over : Bool) : TwinS p W lab I (a.after over) (b.after over) := by
 have e' := h.ahead
 have s' := h.since
 have h' : TwinS p W lab I { a with since := a.since + 1 } { b with since := b.since + 1 } := ⟨h.pl, h.inv, h.ahead, by show a.since + 1 = b.since + 1; rw [s'], h.script, h.seen, h.back⟩
 unfold Sp.after
 by_cases e : a.ahead = true
 ·rw [if_pos e, if_pos (e'.symm.trans e)]
  by_cases e2 : over = true ∨ a.since + 1 = 12
  ·rw [if_pos e2, if_pos (by rw [← s']; exact e2)]; exact h'.returns e
  ·rw [if_neg e2, if_neg (by rw [← s']; exact e2)]; exact h'
 ·rw [if_neg e, if_neg (fun q => e (e'.trans q))]; exact h
theorem TwinS.noneLeft {a b : Sp} (h : TwinS p W lab I a b) (cl : Nat) : TwinS p W lab I (a.noneLeft cl) (b.noneLeft cl) := by
 have e' := h.ahead
 have a' := h.pl.at_
 unfold Sp.noneLeft
 by_cases e : cl ≤ a.pl.at_ ∧ a.ahead = true
 ·rw [if_pos e, if_pos (by rw [← e', ← a']; exact e)]; exact h.returns e.2
 ·rw [if_neg e, if_neg (by rw [← e', ← a']; exact e)]; exact h
theorem TwinS.real {a b : Sp} (h : TwinS p W lab I a b) : TwinP p lab a.real b.real := by
 have e' := h.ahead
 unfold Sp.real
 by_cases e : a.ahead = true
 ·rw [if_pos e, if_pos (e'.symm.trans e)]; exact (h.back e).1
 ·rw [if_neg e, if_neg (fun q => e (e'.trans q))]; exact h.pl

theorem TwinP.go {a b : Pl} (h : TwinP p lab a b) (n : Nat) (hl : ∀ j, j < 10 → lab a.at_ j = true → lab n j = true) : TwinP p lab { a with at_ := n } { b with at_ := n } :=
 ⟨rfl, fun j hj e => h.r j hj (by cases q : lab a.at_ j with | false => rfl | true => rw [hl j hj q] at e; cases e), h.len, h.wd, h.past⟩
theorem TwinP.reg {a b : Pl} (h : TwinP p lab a b) (n : Nat) (x v v' : Int) (hl : ∀ j, j < 10 → j ≠ x.toNat → lab a.at_ j = true → lab n j = true) (hv : lab n x.toNat = false → v = v') :
  TwinP p lab { a with at_ := n, r := setR a.r x v } { b with at_ := n, r := setR b.r x v' } := by
 refine ⟨rfl, fun j hj e => ?_, h.len, h.wd, h.past⟩
 show setR a.r x v j = setR b.r x v' j
 unfold setR
 by_cases q : j = x.toNat
 ·rw [if_pos q, if_pos q]; exact hv (q ▸ e)
 ·rw [if_neg q, if_neg q]
  refine h.r j hj ?_
  cases q2 : lab a.at_ j with
  | false => rfl
  | true =>
   dsimp only at e
   rw [hl j hj q q2] at e; cases e

theorem J9d (r : Nat → Int) (a v v' : Int) : setR (setR r a v) a v' = setR r a v' := by
 funext j
 unfold setR
 split <;> rfl

structure J51 (p : Prg) (W : Int → Prop) (lab : Nat → Nat → Bool) (I : Nat → (Nat → Int) → Prop) (x y : Sp × Bool × Option (Int × Int)) : Prop where
 fin : x.2.2 = y.2.2
 ends : x.2.2 ≠ none → x.1.seen = y.1.seen ∧ TwinP p lab x.1.real y.1.real
 goes : x.2.2 = none → TwinS p W lab I (x.1.after x.2.1) (y.1.after y.2.1)

theorem Jjy (T : Tight p W lab I) {k : Nat} (hk : k < p.cl) (hw : 0 ≤ putI (p.ins k)) {r : Nat → Int} (hi : I k r) :
  wrap64 (baseI p.log (p.ins k).c.toNat + idxI r (p.ins k)) = baseI p.log (p.ins k).c.toNat + idxI r (p.ins k) ∧ 0 ≤ baseI p.log (p.ins k).c.toNat + idxI r (p.ins k) ∧ baseI p.log (p.ins k).c.toNat + idxI r (p.ins k) < allI p := by
 obtain ⟨h1, _, h5, _⟩ := T.word k hk hw r hi
 have h6 := J5s p.log _ _ h1
 have h7 := J72 p.log (p.ins k).c.toNat
 have h8 := J73 T.regs p.rl (Nat.le_refl _)
 have h9 := T.regs.1
 unfold allI
 refine ⟨?_, by omega, by omega⟩
 unfold wrap64
 omega
theorem Jgs {c : Nat} {x : Int} (hc : c < p.rl) (h0 : 0 ≤ x) (h1 : x < J0h (p.log c)) : PubW p (baseI p.log c + x).toNat ↔ p.sec c = false := by
 have hb := J72 p.log c
 constructor
 ·rintro ⟨d, hd, hs, h2, h3⟩
  have e : d = c := Jcd p.log (n := baseI p.log c + x) (by omega) (by omega) (by omega) (by omega)
  rw [← e]; exact hs
 ·intro hs
  exact ⟨c, hc, hs, by omega, by omega⟩

theorem Jev (T : Tight p W lab I) (k : Nat) (hk : k < p.cl) (hp : 0 ≤ putI (p.ins k)) (r r' wd wd' : Nat → Int) (past past' : Nat → List Int) (ahead : Bool) (since : Int) (back back' : Pl) (script : List Int) (seen : List Se)
  (hr : ∀ j, j < 10 → lab k j = false → r j = r' j) (hlen : ∀ n, (past n).length = (past' n).length) (hwd : ∀ n, PubW p n → wd n = wd' n) (hpast : ∀ n, PubW p n → past n = past' n) (hI : I k r) (hJ : I k r') (hV : Wds W wd past) (hV' : Wds W wd' past')
  (hback : ahead = true → TwinP p lab back back' ∧ Both W I back back') (n : Int) (hn0 : 0 ≤ n) (hn1 : n < allI p) (hpub : PubW p n.toNat ↔ p.sec (p.ins k).c.toNat = false) :
  TwinS p W lab I (wordS p ⟨⟨k + 1, r, wd, past⟩, ahead, since, back, script, seen⟩ (p.ins k) n) (wordS p ⟨⟨k + 1, r', wd', past'⟩, ahead, since, back', script, seen⟩ (p.ins k) n) := by
 obtain ⟨w1, w2, _, _⟩ := T.word k hk hp r hI
 have hno : ¬ (n < 0 ∨ allI p ≤ n) := by omega
 by_cases hq : putI (p.ins k) = 1
 ·obtain ⟨t1, t2, t3⟩ := T.put k hk hq r hI
  have t3' := (T.put k hk hq r' hJ).2.2
  unfold wordS
  dsimp only
  rw [if_neg hno, if_neg hno, if_pos hq, if_pos hq]
  refine ⟨⟨rfl, ?_, fun m => ?_, fun m hm => ?_, fun m hm => ?_⟩, .inl ⟨⟨t3, hV.put _ (T.kept k hk hq r hI)⟩, ⟨t3', hV'.put _ (T.kept k hk hq r' hJ)⟩⟩, rfl, rfl, rfl, rfl, hback⟩
  ·intro j hj e
   refine hr j hj ?_
   cases q : lab k j with
   | false => rfl
   | true =>
    dsimp only at e
    rw [t1 j hj q] at e; cases e
  ·dsimp only
   unfold setF
   by_cases e : m = n.toNat
   ·rw [if_pos e, if_pos e, List.length_append, List.length_append, hlen]; rfl
   ·rw [if_neg e, if_neg e]; exact hlen m
  ·dsimp only
   unfold setF
   by_cases e : m = n.toNat
   ·rw [if_pos e, if_pos e]
    refine hr _ w2 ?_
    cases q : lab k (p.ins k).a.toNat with
    | false => rfl
    | true =>
     have := t2 q
     rw [e] at hm
     rw [hpub.1 hm] at this; cases this
   ·rw [if_neg e, if_neg e]; exact hwd m hm
  ·dsimp only
   unfold setF
   by_cases e : m = n.toNat
   ·rw [e] at hm
    rw [if_pos e, if_pos e, hpast _ hm, hwd _ hm]
   ·rw [if_neg e, if_neg e]; exact hpast m hm
 ·have h0 : putI (p.ins k) = 0 := by
   unfold putI at hp hq ⊢
   by_cases o1 : (p.ins k).op = 3 ∨ (p.ins k).op = 5
   ·rw [if_pos o1]
   ·rw [if_neg o1] at hp hq
    by_cases o2 : (p.ins k).op = 4 ∨ (p.ins k).op = 6
    ·rw [if_pos o2] at hq; exact absurd rfl hq
    ·rw [if_neg o2] at hp; omega
  obtain ⟨t1, t2, t3⟩ := T.load k hk h0 r hI
  have t3' := (T.load k hk h0 r' hJ).2.2
  have hpubv : lab (k + 1) (p.ins k).a.toNat = false → PubW p n.toNat := fun q => hpub.2 (by
   cases q2 : p.sec (p.ins k).c.toNat with
   | false => rfl
   | true => rw [t2 q2] at q; cases q)
  have base : TwinP p lab ⟨k, r, wd, past⟩ ⟨k, r', wd', past'⟩ := ⟨rfl, hr, hlen, hwd, hpast⟩
  have P1 := base.reg (k + 1) (p.ins k).a (wd n.toNat) (wd' n.toNat) t1 (fun q => hwd _ (hpubv q))
  have B1 : Both W I ⟨k + 1, setR r (p.ins k).a (wd n.toNat), wd, past⟩ ⟨k + 1, setR r' (p.ins k).a (wd' n.toNat), wd', past'⟩ := ⟨⟨t3 _ (hV _).1, hV⟩, ⟨t3' _ (hV' _).1, hV'⟩⟩
  have S1 : TwinS p W lab I ⟨⟨k + 1, setR r (p.ins k).a (wd n.toNat), wd, past⟩, ahead, since, back, script.tail, seen⟩ ⟨⟨k + 1, setR r' (p.ins k).a (wd' n.toNat), wd', past'⟩, ahead, since, back', script.tail, seen⟩ :=
   ⟨P1, .inl B1, rfl, rfl, rfl, rfl, hback⟩
  unfold wordS
  dsimp only
  rw [if_neg hno, if_neg hno, if_neg hq, if_neg hq]
  unfold Sp.choice
  dsimp only
  rw [← hlen]
  by_cases hc : 0 < script.headD 0 ∧ script.headD 0 ≤ ((past n.toNat).length : Int)
  ·rw [if_pos hc, if_pos hc]
   have S2 := S1.leave B1
   have P2 : TwinP p lab { (Sp.leave ⟨⟨k + 1, setR r (p.ins k).a (wd n.toNat), wd, past⟩, ahead, since, back, script.tail, seen⟩).pl with r := setR (Sp.leave ⟨⟨k + 1, setR r (p.ins k).a (wd n.toNat), wd, past⟩, ahead, since, back, script.tail, seen⟩).pl.r (p.ins k).a ((past n.toNat).getD ((past n.toNat).length - (script.headD 0).toNat) 0) }
     { (Sp.leave ⟨⟨k + 1, setR r' (p.ins k).a (wd' n.toNat), wd', past'⟩, ahead, since, back', script.tail, seen⟩).pl with r := setR (Sp.leave ⟨⟨k + 1, setR r' (p.ins k).a (wd' n.toNat), wd', past'⟩, ahead, since, back', script.tail, seen⟩).pl.r (p.ins k).a ((past' n.toNat).getD ((past n.toNat).length - (script.headD 0).toNat) 0) } := by
    rw [J1n, J1n]
    exact P1.reg (k + 1) (p.ins k).a _ _ (fun j _ _ q => q) (fun q => by rw [hpast _ (hpubv q)])
   refine TwinS.to S2 P2 (.inl ⟨⟨?_, ?_⟩, ⟨?_, ?_⟩⟩)
   ·rw [J1n]
    show I (k + 1) (setR (setR r _ _) _ _)
    rw [J9d]; exact t3 _ (hV.was T.zero _ _)
   ·rw [J1n]; exact hV
   ·rw [J1n]
    show I (k + 1) (setR (setR r' _ _) _ _)
    rw [J9d]; exact t3' _ (hV'.was T.zero _ _)
   ·rw [J1n]; exact hV'
  ·rw [if_neg hc, if_neg hc]
   exact S1

theorem Jeo (T : Tight p W lab I) {a b : Sp} (h : TwinS p W lab I a b) (hk : a.pl.at_ < p.cl) (h12 : (p.ins a.pl.at_).op = 9 ∨ (p.ins a.pl.at_).op = 12) : J51 p W lab I (stepS p a) (stepS p b) := by
 have hat := h.pl.at_
 have hstep : TwinS p W lab I (a.see ⟨1, a.pl.at_, 0⟩) (b.see ⟨1, a.pl.at_, 0⟩) := h.shown _
 have e7 : ¬ (p.ins a.pl.at_).op = 7 := by omega
 have e8 : ¬ (p.ins a.pl.at_).op = 8 := by omega
 unfold stepS
 rw [← hat, if_neg e7, if_neg e8, if_neg e7, if_neg e8]
 by_cases e9 : (p.ins a.pl.at_).op = 9 ∧ a.ahead = false
 ·have e9b : (p.ins a.pl.at_).op = 9 ∧ b.ahead = false := by rw [← h.ahead]; exact e9
  rw [if_pos e9, if_pos e9b]
  obtain ⟨t1, t2⟩ := T.halt _ hk e9.1 _ (h.both e9.2).1.1
  refine ⟨?_, fun _ => ⟨?_, ?_⟩, fun q => by cases q⟩
  ·show some _ = some _
   rw [h.pl.r _ t1 t2]
  ·exact hstep.seen
  ·exact hstep.real
 ·have e9b : ¬ ((p.ins a.pl.at_).op = 9 ∧ b.ahead = false) := by rw [← h.ahead]; exact e9
  rw [if_neg e9, if_neg e9b, if_pos h12, if_pos h12]
  refine ⟨rfl, fun q => absurd rfl q, fun _ => ?_⟩
  by_cases ha : a.ahead = true
  ·-- it is taken back
   have hb : b.ahead = true := h.ahead ▸ ha
   have hs := hstep.seen
   show TwinS p W lab I (Sp.after _ true) (Sp.after _ true)
   unfold Sp.after
   rw [if_pos (show ((a.see ⟨1, a.pl.at_, 0⟩).go (a.pl.at_ + 1)).ahead = true from ha), if_pos (.inl rfl), if_pos (show ((b.see ⟨1, a.pl.at_, 0⟩).go (a.pl.at_ + 1)).ahead = true from hb), if_pos (.inl rfl)]
   refine ⟨(h.back ha).1, .inl (h.back ha).2, rfl, ?_, h.script, ?_, fun q => absurd q (by simp [Sp.returns])⟩
   ·show a.since + 1 = b.since + 1
    rw [h.since]
   ·show (a.see ⟨1, a.pl.at_, 0⟩).seen ++ [_] = (b.see ⟨1, a.pl.at_, 0⟩).seen ++ [_]
    rw [hs]
  ·-- an IFence that is gone past
   have ha' : a.ahead = false := by simpa using ha
   have o12 : (p.ins a.pl.at_).op = 12 := by rcases h12 with q | q; exact absurd ⟨q, ha'⟩ e9; exact q
   have hbo := h.both ha'
   obtain ⟨t1, t2⟩ := T.fence _ hk o12 _ hbo.1.1
   refine TwinS.after ?_ true
   refine hstep.to (h.pl.go _ t1) (.inl ⟨⟨t2, hbo.1.2⟩, ⟨?_, hbo.2.2⟩⟩)
   have := hbo.2.1
   rw [← hat] at this
   exact (T.fence _ hk o12 _ this).2

theorem Jen (T : Tight p W lab I) {a b : Sp} (h : TwinS p W lab I a b) (hk : a.pl.at_ < p.cl) (hbo : Both W I a.pl b.pl) (e7 : (p.ins a.pl.at_).op = 7) : J51 p W lab I (stepS p a) (stepS p b) := by
 have hat := h.pl.at_
 have hstep : TwinS p W lab I (a.see ⟨1, a.pl.at_, 0⟩) (b.see ⟨1, a.pl.at_, 0⟩) := h.shown _
 have hI := hbo.1.1
 have hJ := hbo.2.1
 rw [← hat] at hJ
 obtain ⟨t1, t2⟩ := T.jump _ hk e7 _ hI
 have t2' := (T.jump _ hk e7 _ hJ).2
 unfold stepS
 rw [← hat, if_pos e7, if_pos e7]
 refine ⟨rfl, fun q => absurd rfl q, fun _ => TwinS.after (hstep.to (h.pl.go _ t1) (.inl ⟨⟨t2, hbo.1.2⟩, ⟨t2', hbo.2.2⟩⟩)) false⟩

theorem Jem (T : Tight p W lab I) {a b : Sp} (h : TwinS p W lab I a b) (hk : a.pl.at_ < p.cl) (hbo : Both W I a.pl b.pl) (e7 : ¬ (p.ins a.pl.at_).op = 7) (e8 : (p.ins a.pl.at_).op = 8) : J51 p W lab I (stepS p a) (stepS p b) := by
 have hat := h.pl.at_
 have hstep : TwinS p W lab I (a.see ⟨1, a.pl.at_, 0⟩) (b.see ⟨1, a.pl.at_, 0⟩) := h.shown _
 have hI := hbo.1.1
 have hJ := hbo.2.1
 rw [← hat] at hJ
 obtain ⟨t1, t2, t3, t4, t5, wI⟩ := T.cond _ hk e8 _ hI
 have wJ := (T.cond _ hk e8 _ hJ).2.2.2.2.2
 have ra := h.pl.r _ t1 t3
 have rb := h.pl.r _ t2 t4
 have ch : a.choice = b.choice := by unfold Sp.choice; rw [h.script]
 unfold Jbd J7b at wI wJ
 rw [← ra, ← rb] at wJ
 unfold stepS
 rw [← hat, if_neg e7, if_neg e7, if_pos e8, if_pos e8, ← ra, ← rb, ← ch]
 by_cases hh : J15 (p.ins a.pl.at_).c (a.pl.r (p.ins a.pl.at_).a.toNat) (a.pl.r (p.ins a.pl.at_).b.toNat) = true
 ·rw [if_pos hh, if_pos hh] at wI
  rw [if_pos hh, if_pos hh] at wJ
  rw [if_pos hh, if_pos hh]
  have h1 : TwinS p W lab I { (a.see ⟨1, a.pl.at_, 0⟩).go (p.ins a.pl.at_).n.toNat with script := a.script.tail } { (b.see ⟨1, a.pl.at_, 0⟩).go (p.ins a.pl.at_).n.toNat with script := b.script.tail } :=
   (hstep.to (h.pl.go _ (fun j hj q => (t5 j hj q).1)) (.inl ⟨⟨wI.1, hbo.1.2⟩, ⟨wJ.1, hbo.2.2⟩⟩)).tail
  by_cases hc : a.choice = 0
  ·rw [if_pos hc, if_pos hc]
   exact ⟨rfl, fun q => absurd rfl q, fun _ => h1.after false⟩
  ·rw [if_neg hc, if_neg hc]
   refine ⟨rfl, fun q => absurd rfl q, fun _ => TwinS.after ?_ false⟩
   have h2 := h1.leave ⟨⟨wI.1, hbo.1.2⟩, ⟨wJ.1, hbo.2.2⟩⟩
   refine TwinS.to h2 (x := { (Sp.leave _).pl with at_ := a.pl.at_ + 1 }) (y := { (Sp.leave _).pl with at_ := a.pl.at_ + 1 }) ?_ ?_
   ·rw [J1n, J1n]
    exact h.pl.go _ (fun j hj q => (t5 j hj q).2)
   ·rw [J1n, J1n]
    rcases wI.2 with q | q
    ·rcases wJ.2 with q2 | q2
     ·exact .inl ⟨⟨q, hbo.1.2⟩, ⟨q2, hbo.2.2⟩⟩
     ·exact .inr ⟨J3g _, q2⟩
    ·exact .inr ⟨J3g _, q⟩
 ·rw [if_neg hh, if_neg hh] at wI
  rw [if_neg hh, if_neg hh] at wJ
  rw [if_neg hh, if_neg hh]
  have h1 : TwinS p W lab I { (a.see ⟨1, a.pl.at_, 0⟩).go (a.pl.at_ + 1) with script := a.script.tail } { (b.see ⟨1, a.pl.at_, 0⟩).go (a.pl.at_ + 1) with script := b.script.tail } :=
   (hstep.to (h.pl.go _ (fun j hj q => (t5 j hj q).2)) (.inl ⟨⟨wI.1, hbo.1.2⟩, ⟨wJ.1, hbo.2.2⟩⟩)).tail
  by_cases hc : a.choice = 0
  ·rw [if_pos hc, if_pos hc]
   exact ⟨rfl, fun q => absurd rfl q, fun _ => h1.after false⟩
  ·rw [if_neg hc, if_neg hc]
   refine ⟨rfl, fun q => absurd rfl q, fun _ => TwinS.after ?_ false⟩
   have h2 := h1.leave ⟨⟨wI.1, hbo.1.2⟩, ⟨wJ.1, hbo.2.2⟩⟩
   refine TwinS.to h2 (x := { (Sp.leave _).pl with at_ := (p.ins a.pl.at_).n.toNat }) (y := { (Sp.leave _).pl with at_ := (p.ins a.pl.at_).n.toNat }) ?_ ?_
   ·rw [J1n, J1n]
    exact h.pl.go _ (fun j hj q => (t5 j hj q).1)
   ·rw [J1n, J1n]
    rcases wI.2 with q | q
    ·rcases wJ.2 with q2 | q2
     ·exact .inl ⟨⟨q, hbo.1.2⟩, ⟨q2, hbo.2.2⟩⟩
     ·exact .inr ⟨J3g _, q2⟩
    ·exact .inr ⟨J3g _, q⟩

theorem Jep (T : Tight p W lab I) {a b : Sp} (h : TwinS p W lab I a b) (hk : a.pl.at_ < p.cl) (hbo : Both W I a.pl b.pl) (e7 : ¬ (p.ins a.pl.at_).op = 7) (e8 : ¬ (p.ins a.pl.at_).op = 8) (h12 : ¬ ((p.ins a.pl.at_).op = 9 ∨ (p.ins a.pl.at_).op = 12)) (hp : 0 ≤ putI (p.ins a.pl.at_)) : J51 p W lab I (stepS p a) (stepS p b) := by
 have hat := h.pl.at_
 have hstep : TwinS p W lab I (a.see ⟨1, a.pl.at_, 0⟩) (b.see ⟨1, a.pl.at_, 0⟩) := h.shown _
 have hI := hbo.1.1
 have hJ := hbo.2.1
 rw [← hat] at hJ
 have e9 : ¬ (p.ins a.pl.at_).op = 9 := by omega
 have e9a : ¬ ((p.ins a.pl.at_).op = 9 ∧ a.ahead = false) := fun q => e9 q.1
 have e9b : ¬ ((p.ins a.pl.at_).op = 9 ∧ b.ahead = false) := fun q => e9 q.1
 obtain ⟨w1, w2, w3, w4⟩ := T.word _ hk hp _ hI
 have hx := w4 b.pl.r h.pl.r
 obtain ⟨x0, x1⟩ := w3
 obtain ⟨n1, n2, n3⟩ := Jjy T hk hp hI
 have hpub := Jgs w1 x0 x1
 have oa : ¬ (a.ahead = false ∧ (idxI a.pl.r (p.ins a.pl.at_) < 0 ∨ J0h (p.log (p.ins a.pl.at_).c.toNat) ≤ idxI a.pl.r (p.ins a.pl.at_))) := by omega
 have ob : ¬ (b.ahead = false ∧ (idxI a.pl.r (p.ins a.pl.at_) < 0 ∨ J0h (p.log (p.ins a.pl.at_).c.toNat) ≤ idxI a.pl.r (p.ins a.pl.at_))) := by omega
 unfold stepS
 rw [← hat, if_neg e7, if_neg e7, if_neg e8, if_neg e8, if_neg e9a, if_neg e9b, if_neg h12, if_neg h12, if_pos hp, if_pos hp, ← hx, if_neg oa, if_neg ob, n1]
 refine ⟨rfl, fun q => absurd rfl q, fun _ => TwinS.after ?_ false⟩
 generalize hn : baseI p.log (p.ins a.pl.at_).c.toNat + idxI a.pl.r (p.ins a.pl.at_) = n at *
 have hse : a.seen ++ [(⟨1, a.pl.at_, 0⟩ : Se)] ++ [⟨2, n, putI (p.ins a.pl.at_)⟩] = b.seen ++ [(⟨1, a.pl.at_, 0⟩ : Se)] ++ [⟨2, n, putI (p.ins a.pl.at_)⟩] := by rw [h.seen]
 have W := Jev T a.pl.at_ hk hp a.pl.r b.pl.r a.pl.wd b.pl.wd a.pl.past b.pl.past a.ahead a.since a.back b.back a.script (a.seen ++ [(⟨1, a.pl.at_, 0⟩ : Se)] ++ [⟨2, n, putI (p.ins a.pl.at_)⟩]) h.pl.r h.pl.len h.pl.wd h.pl.past hI hJ hbo.1.2 hbo.2.2 h.back n n2 n3 hpub
 have eb : (((b.see ⟨1, a.pl.at_, 0⟩).see ⟨2, n, putI (p.ins a.pl.at_)⟩).go (a.pl.at_ + 1)) = ⟨⟨a.pl.at_ + 1, b.pl.r, b.pl.wd, b.pl.past⟩, a.ahead, a.since, b.back, a.script, a.seen ++ [(⟨1, a.pl.at_, 0⟩ : Se)] ++ [⟨2, n, putI (p.ins a.pl.at_)⟩]⟩ := by
  rw [hse, h.ahead, h.since, h.script]; rfl
 rw [eb]
 exact W

theorem Jjp (T : Tight p W lab I) {a b : Sp} (h : TwinS p W lab I a b) (hk : a.pl.at_ < p.cl) (hbo : Both W I a.pl b.pl) (e7 : ¬ (p.ins a.pl.at_).op = 7) (e8 : ¬ (p.ins a.pl.at_).op = 8) (h12 : ¬ ((p.ins a.pl.at_).op = 9 ∨ (p.ins a.pl.at_).op = 12)) (hp : ¬ 0 ≤ putI (p.ins a.pl.at_)) : J51 p W lab I (stepS p a) (stepS p b) := by
 have hat := h.pl.at_
 have hstep : TwinS p W lab I (a.see ⟨1, a.pl.at_, 0⟩) (b.see ⟨1, a.pl.at_, 0⟩) := h.shown _
 have hI := hbo.1.1
 have hJ := hbo.2.1
 rw [← hat] at hJ
 have e9 : ¬ (p.ins a.pl.at_).op = 9 := by omega
 have e9a : ¬ ((p.ins a.pl.at_).op = 9 ∧ a.ahead = false) := fun q => e9 q.1
 have e9b : ¬ ((p.ins a.pl.at_).op = 9 ∧ b.ahead = false) := fun q => e9 q.1
 obtain ⟨t1, v1⟩ := T.op _ hk e7 e8 e9 (by omega) hp _ hI
 have v2 := (T.op _ hk e7 e8 e9 (by omega) hp _ hJ).2
 obtain ⟨u1, u2⟩ := t1 b.pl.r h.pl.r
 unfold stepS
 rw [← hat, if_neg e7, if_neg e7, if_neg e8, if_neg e8, if_neg e9a, if_neg e9b, if_neg h12, if_neg h12, if_neg hp, if_neg hp]
 generalize regsI a.pl.r (p.ins a.pl.at_) = x at u1 u2 v1 ⊢
 generalize regsI b.pl.r (p.ins a.pl.at_) = y at u1 u2 v2 ⊢
 obtain ⟨xr, xs⟩ := x
 obtain ⟨yr, ys⟩ := y
 dsimp only at u1 u2 v1 v2 ⊢
 subst u1
 refine ⟨rfl, fun q => absurd rfl q, fun _ => TwinS.after ?_ false⟩
 exact ⟨⟨rfl, u2, h.pl.len, h.pl.wd, h.pl.past⟩, .inl ⟨⟨v1, hbo.1.2⟩, ⟨v2, hbo.2.2⟩⟩, h.ahead, h.since, h.script, by dsimp only; rw [h.seen], h.back⟩

theorem Jet (T : Tight p W lab I) {a b : Sp} (h : TwinS p W lab I a b) (hk : a.pl.at_ < p.cl) : J51 p W lab I (stepS p a) (stepS p b) := by
 by_cases h12 : (p.ins a.pl.at_).op = 9 ∨ (p.ins a.pl.at_).op = 12
 ·exact Jeo T h hk h12
 ·have hbo : Both W I a.pl b.pl := by
   rcases h.inv with q | ⟨_, q⟩
   ·exact q
   ·unfold Stop at q; omega
  by_cases e7 : (p.ins a.pl.at_).op = 7
  ·exact Jen T h hk hbo e7
  by_cases e8 : (p.ins a.pl.at_).op = 8
  ·exact Jem T h hk hbo e7 e8
  by_cases hp : 0 ≤ putI (p.ins a.pl.at_)
  ·exact Jep T h hk hbo e7 e8 h12 hp
  ·exact Jjp T h hk hbo e7 e8 h12 hp

theorem Jbk (T : Tight p W lab I) : ∀ (f k : Nat) (a b : Sp), TwinS p W lab I a b → (runS p f k a).fin = (runS p f k b).fin ∧ (runS p f k a).val = (runS p f k b).val ∧ (runS p f k a).steps = (runS p f k b).steps ∧ (runS p f k a).seen = (runS p f k b).seen ∧ ∀ n, PubW p n → (runS p f k a).wd n = (runS p f k b).wd n
 | 0, k, a, b, h => ⟨rfl, rfl, rfl, h.seen, h.real.wd⟩
 | f + 1, k, a, b, h => by
  have h' := h.noneLeft p.cl
  have hat := h'.pl.at_
  rw [runS, runS]
  by_cases e : p.cl ≤ (a.noneLeft p.cl).pl.at_
  ·rw [if_pos e, if_pos (by rw [← hat]; exact e)]
   exact ⟨rfl, rfl, rfl, h'.seen, h'.real.wd⟩
  ·rw [if_neg e, if_neg (by rw [← hat]; exact e)]
   have st := Jet T h' (by omega)
   have hf := st.fin
   cases q : (stepS p (a.noneLeft p.cl)).2.2 with
   | none =>
    rw [q] at hf
    rw [← hf]
    exact Jbk T f (k + 1) _ _ (st.goes q)
   | some x =>
    rw [q] at hf
    rw [← hf]
    have se := st.ends (by rw [q]; simp)
    exact ⟨rfl, rfl, rfl, se.1, se.2.wd⟩

theorem Jak (T : Tight p W lab I) (h0 : I 0 (fun _ => 0)) (wd wd' : Nat → Int) (hw : ∀ n, PubW p n → wd n = wd' n) (hV : ∀ n, W (wd n)) (hV' : ∀ n, W (wd' n)) (script : List Int) (f : Nat) :
  (playS p wd script f).fin = (playS p wd' script f).fin ∧ (playS p wd script f).val = (playS p wd' script f).val ∧ (playS p wd script f).steps = (playS p wd' script f).steps ∧ (playS p wd script f).seen = (playS p wd' script f).seen ∧ ∀ n, PubW p n → (playS p wd script f).wd n = (playS p wd' script f).wd n :=
 Jbk T f 0 _ _ ⟨⟨rfl, fun _ _ _ => rfl, fun _ => rfl, hw, fun _ _ => rfl⟩, .inl ⟨⟨h0, fun n => ⟨hV n, fun v q => (by cases q)⟩⟩, ⟨h0, fun n => ⟨hV' n, fun v q => (by cases q)⟩⟩⟩, rfl, rfl, rfl, rfl, fun q => by cases q⟩

def Still (h : Prg) : Prop := ∃ W lab I, (∀ x, B64 x → W x) ∧ Tight h W lab I ∧ I 0 (fun _ => 0)
end
theorem J3n {P : Program} {w : World} (base : Nat) (t ty e : TypeId) (i : TypeInfo) (size : Nat) (ht : P.underlying t = some (.slice e)) (hi : P.info? e = some i)
  (v : Value) (n : Nat) (xs : List Value) (hown : w.ownsRow base e size v n xs) (ad : Option Addr) (c : Nat) :
  (Builtin.append_ #[t, t] ty #[v, .slice ad 0 c]).run P w = .ok v w := by
 have hl : ∀ a : Addr, (loadCells a 0).run P w = .ok #[] w := fun a => rfl
 rcases hown.2 with ⟨rfl, rfl⟩ | ⟨g, cap, cur, rfl, _, _, hnc, _⟩
 ·cases ad <;> simp [Builtin.append_, run_underlying ht, sizeOf, typeInfo, hi, Builtin.lenOf, Builtin.firstCells, hl]
 ·cases ad <;> simp [Builtin.append_, run_underlying ht, sizeOf, typeInfo, hi, Builtin.lenOf, Builtin.firstCells, hnc, storeCells, hl]

theorem J4z {P : Program} {o : Oper} {a : Act} (w : World) {K : Act → World → Prop} {Q : Exit → Act → World → Prop} (s x : Operand) (t : TypeId)
  (ho : o.op = .call { callee := .builtin .append, args := #[s, x], argTypes := #[t, t] })
  (base : Nat) (e : TypeId) (i : TypeInfo) (z : Value) (size bytes : Nat) (ht : P.underlying t = some (.slice e)) (hi : P.info? e = some i) (hz : i.zero = some z)
  (hsize : i.size = size) (hby : i.bytes = bytes) (hzs : z.cells.size = size) (hsz : 0 < size)
  (v : Value) (n : Nat) (xs : List Value) (hs : a.eval s = v) (hown : w.ownsRow base e size v n xs)
  (ad : Option Addr) (m c : Nat) (news : List Value) (hx : a.eval x = .slice ad m c) (hl : news.length = m * size) (hnews : 0 < m → ∃ ad', ad = some ad' ∧ ∀ j u, news[j]? = some u → w.cell? (ad'.add j) = some u) (h1 : ∀ u ∈ news, u.oneCell' = true)
  (h63 : n + m ≤ maxLen) (hbytes : (n + m) * bytes ≤ 140737488355328) (hbase : base ≤ w.heap.size)
  (h : ∀ va cap w', w'.ownsRow base e size (.slice va (n + m) cap) (n + m) (xs ++ news) → w.grownBy w' v.ownBlock → (∀ b, (Value.slice va (n + m) cap).ownBlock = some b → v.ownBlock = some b ∨ b = w.heap.size) → (v.ownBlock ≠ none → va ≠ none) → K (a.put o.dst (.slice va (n + m) cap)) w') : o.wp P a w K Q := by
 by_cases hm : 0 < m
 ·obtain ⟨ad', rfl, hn2⟩ := hnews hm
  refine wp_append_lies w s x t ho base e i z size bytes ht hi hz hsize hby hzs hsz v n xs hs hown ad' m c news hx hl hn2 h1 hm h63 hbytes hbase w.heap.size rfl (fun g cap w' h2 h3 h4 h5 => h _ _ _ h2 h3 (fun b hb => ?_) (fun _ => by simp))
  have : b = g := by simpa [Value.ownBlock] using hb.symm
  subst this
  exact h4
 ·obtain rfl : m = 0 := by omega
  have hnl : news = [] := List.eq_nil_of_length_eq_zero (by rw [hl]; omega)
  subst hnl
  have hrun := J3n (P := P) (w := w) base t o.type e i size ht hi v n xs hown ad c
  obtain ⟨va, cap, rfl⟩ := J23 hown
  unfold Oper.wp
  simp [execOp, ho, resolve, invoke, builtin, hs, hx, hrun, Result.andThen]
  exact h va cap w (by simpa using hown) (J0n _ _) (fun b hb => .inl hb) (fun h1 h2 => h1 (by rw [h2]; rfl))
theorem J1q {P : Program} {ops : Array Oper} {rest : List Oper} {o : Oper} {a : Act} (w : World) {Q : Exit → Act → World → Prop} (hgd : o.guard = none) (s x : Operand) (t : TypeId)
  (ho : o.op = .call { callee := .builtin .append, args := #[s, x], argTypes := #[t, t] })
  (base : Nat) (e : TypeId) (i : TypeInfo) (z : Value) (size bytes : Nat) (ht : P.underlying t = some (.slice e)) (hi : P.info? e = some i) (hz : i.zero = some z)
  (hsize : i.size = size) (hby : i.bytes = bytes) (hzs : z.cells.size = size) (hsz : 0 < size)
  (v : Value) (n : Nat) (xs : List Value) (hs : a.eval s = v) (hown : w.ownsRow base e size v n xs)
  (ad : Option Addr) (m c : Nat) (news : List Value) (hx : a.eval x = .slice ad m c) (hl : news.length = m * size) (hnews : 0 < m → ∃ ad', ad = some ad' ∧ ∀ j u, news[j]? = some u → w.cell? (ad'.add j) = some u) (h1 : ∀ u ∈ news, u.oneCell' = true)
  (h63 : n + m ≤ maxLen) (hbytes : (n + m) * bytes ≤ 140737488355328) (hbase : base ≤ w.heap.size)
  (h : ∀ va cap w', w'.ownsRow base e size (.slice va (n + m) cap) (n + m) (xs ++ news) → w.grownBy w' v.ownBlock → (∀ b, (Value.slice va (n + m) cap).ownBlock = some b → v.ownBlock = some b ∨ b = w.heap.size) → (v.ownBlock ≠ none → va ≠ none) → wpList P ops Q rest (a.put o.dst (.slice va (n + m) cap)) w') : wpList P ops Q (o :: rest) a w :=
 wpList_plain hgd fun _ hK => J4z w s x t ho base e i z size bytes ht hi hz hsize hby hzs hsz v n xs hs hown ad m c news hx hl hnews h1 h63 hbytes hbase fun va cap w' h2 h3 h4 h5 => hK _ _ (h va cap w' h2 h3 h4 h5)

def ints (l : List Int) : List Value := l.map fun x => .int .i64 x
theorem J66 (l : List Int) : (ints l).length = l.length := by simp [ints]
theorem Jfx (l : List Int) : ∀ u ∈ ints l, u.oneCell' = true := by
 intro u hu
 simp only [ints, List.mem_map] at hu
 obtain ⟨i, _, rfl⟩ := hu
 rfl

structure PV where
 rg : Nat
 rc : Nat
 wg : Nat
 wa : Option Addr
 wc : Nat
 pg : Nat
 pa : Option Addr
 pc : Nat
 P : Nat → Value
def PV.regs (a : PV) : Value := .slice (some ⟨a.rg, 0, none⟩) 10 a.rc
def PV.words (a : PV) (N : Nat) : Value := .slice a.wa N a.wc
def PV.past (a : PV) (N : Nat) : Value := .slice a.pa N a.pc

def InR (K l : Nat) : Prop := K < l ∧ l < K + 1000

structure PlL (w : World) (lo N K : Nat) (lab : Nat → Nat) (q : Pl) (a : PV) : Prop where
 lr : lab a.rg = K + 1
 regs : RegsR w a.rg q.r
 lw : 0 < N → lab a.wg = K + 2
 wa : 0 < N → a.wa = some ⟨a.wg, 0, none⟩
 words : ∀ j, j < N → Wr w a.wg j (.int .i64 (q.wd j))
 lp : 0 < N → lab a.pg = K + 3
 pa : 0 < N → a.pa = some ⟨a.pg, 0, none⟩
 past : ∀ j, j < N → Wr w a.pg j (a.P j)
 rows : ∀ j, j < N → w.ownsRow lo 2 1 (a.P j) (q.past j).length (ints (q.past j))
 lrow : ∀ j, j < N → ∀ b, (a.P j).ownBlock = some b → lab b = K + 10 + j
 cap : N ≤ a.wc

section
variable {w w' : World} {lo N K : Nat} {lab lab' : Nat → Nat} {q : Pl} {a : PV}

theorem PlL.labs (h : PlL w lo N K lab q a) (hl : ∀ b, lab b ≠ 0 → lab' b = lab b) : PlL w lo N K lab' q a :=
 ⟨by rw [hl _ (by rw [h.lr]; omega)]; exact h.lr, h.regs, fun hN => by rw [hl _ (by rw [h.lw hN]; omega)]; exact h.lw hN, h.wa, h.words, fun hN => by rw [hl _ (by rw [h.lp hN]; omega)]; exact h.lp hN, h.pa, h.past, h.rows, fun j hj b hb => by rw [hl _ (by rw [h.lrow j hj b hb]; omega)]; exact h.lrow j hj b hb, h.cap⟩
theorem PlL.kept (h : PlL w lo N K lab q a) (hN : N ≤ 384) {row : Option Nat} (hg : w.grownBy w' row) (hr : ∀ b, row = some b → ¬ InR K (lab b)) : PlL w' lo N K lab q a := by
 have ne : ∀ b, InR K (lab b) → some b ≠ row := fun b hb e => hr b e.symm hb
 refine ⟨h.lr, h.regs.kept hg (ne _ (by rw [h.lr]; unfold InR; omega)), h.lw, h.wa, fun j hj => (h.words j hj).kept hg (ne _ (by rw [h.lw (by omega)]; unfold InR; omega)), h.lp, h.pa, fun j hj => (h.past j hj).kept hg (ne _ (by rw [h.lp (by omega)]; unfold InR; omega)), fun j hj => ?_, h.lrow, h.cap⟩
 refine World.ownsRow.kept (h.rows j hj) hg ?_
 cases hv : (a.P j).ownBlock with
 | none => left; rfl
 | some b => right; exact ne b (by rw [h.lrow j hj b hv]; unfold InR; omega)
theorem PlL.go (h : PlL w lo N K lab q a) (n : Nat) : PlL w lo N K lab { q with at_ := n } a := ⟨h.lr, h.regs, h.lw, h.wa, h.words, h.lp, h.pa, h.past, h.rows, h.lrow, h.cap⟩
theorem PlL.base (h : PlL w lo N K lab q a) {lo' : Nat} (hl : lo' ≤ lo) : PlL w lo' N K lab q a :=
 ⟨h.lr, h.regs, h.lw, h.wa, h.words, h.lp, h.pa, h.past, fun j hj => ⟨(h.rows j hj).1, by
  rcases (h.rows j hj).2 with h1 | ⟨g, cap, cur, h1, h2, h3⟩
  ·exact .inl h1
  ·exact .inr ⟨g, cap, cur, h1, by omega, h3⟩⟩, h.lrow, h.cap⟩
theorem PlL.regd (h : PlL w lo N K lab q a) (hN : N ≤ 384) (r : Nat → Int) (hg : w.grownBy w' (some a.rg)) (hr : RegsR w' a.rg r) : PlL w' lo N K lab { q with r := r } a := by
 have ne : ∀ b, lab b ≠ K + 1 → some b ≠ some a.rg := fun b hb e => hb (by rw [Option.some.inj e]; exact h.lr)
 refine ⟨h.lr, hr, h.lw, h.wa, fun j hj => (h.words j hj).kept hg (ne _ (by rw [h.lw (by omega)]; omega)), h.lp, h.pa, fun j hj => (h.past j hj).kept hg (ne _ (by rw [h.lp (by omega)]; omega)), fun j hj => ?_, h.lrow, h.cap⟩
 refine World.ownsRow.kept (h.rows j hj) hg ?_
 cases hv : (a.P j).ownBlock with
 | none => left; rfl
 | some b => right; exact ne b (by rw [h.lrow j hj b hv]; omega)
theorem PlL.reg (h : PlL w lo N K lab q a) (hN : N ≤ 384) (k v : Int) : PlL (w.setCell ⟨a.rg, k.toNat, none⟩ (.int .i64 v)) lo N K lab { q with r := setR q.r k v } a :=
 h.regd hN _ (J0p w a.rg _ _) (h.regs.set k v)
theorem PlL.word (h : PlL w lo N K lab q a) (hN : N ≤ 384) (n : Nat) (hn : n < N) (v : Int) : PlL (w.setCell ⟨a.wg, n, none⟩ (.int .i64 v)) lo N K lab { q with wd := setF q.wd n v } a := by
 have hg := J0p w a.wg n (.int .i64 v)
 have ne : ∀ b, lab b ≠ K + 2 → some b ≠ some a.wg := fun b hb e => hb (by rw [Option.some.inj e]; exact h.lw (by omega))
 refine ⟨h.lr, h.regs.kept hg (ne _ (by rw [h.lr]; omega)), h.lw, h.wa, fun j hj => ?_, h.lp, h.pa, fun j hj => (h.past j hj).kept hg (ne _ (by rw [h.lp (by omega)]; omega)), fun j hj => ?_, h.lrow, h.cap⟩
 ·dsimp only [setF]
  by_cases e : j = n
  ·subst e; rw [if_pos rfl]; exact (h.words j hj).same _
  ·rw [if_neg e]; exact (h.words j hj).other _ _ _ (by omega)
 ·refine World.ownsRow.kept (h.rows j hj) hg ?_
  cases hv : (a.P j).ownBlock with
  | none => left; rfl
  | some b => right; exact ne b (by rw [h.lrow j hj b hv]; omega)
theorem PlL.push (h : PlL w lo N K lab q a) (hN : N ≤ 384) (n : Nat) (hn : n < N) (x : Int) (v : Value) (hg : w.grownBy w' (a.P n).ownBlock) (own : w'.ownsRow lo 2 1 v ((q.past n).length + 1) (ints (q.past n) ++ [.int .i64 x]))
  (hl : ∀ b, lab b ≠ 0 → lab' b = lab b) (hv : ∀ b, v.ownBlock = some b → lab' b = K + 10 + n) :
  PlL (w'.setCell ⟨a.pg, n, none⟩ v) lo N K lab' { q with past := setF q.past n (q.past n ++ [x]) } { a with P := setF a.P n v } := by
 have h' := h.labs hl
 have ne : ∀ b, lab b ≠ K + 10 + n → some b ≠ (a.P n).ownBlock := fun b hb e => hb (h.lrow n hn b e.symm)
 have hg2 := J0p w' a.pg n v
 have lp := h'.lp (by omega)
 have lw := h.lw (by omega)
 have lpo := h.lp (by omega)
 have ne2 : ∀ b, lab' b ≠ K + 3 → some b ≠ some a.pg := fun b hb e => hb (by rw [Option.some.inj e]; exact lp)
 refine ⟨h'.lr, (h.regs.kept hg (ne _ (by rw [h.lr]; omega))).kept hg2 (ne2 _ (by rw [h'.lr]; omega)), h'.lw, h.wa, fun j hj => ((h.words j hj).kept hg (ne _ (by rw [lw]; omega))).kept hg2 (ne2 _ (by rw [h'.lw (by omega)]; omega)), h'.lp, h.pa, fun j hj => ?_, fun j hj => ?_, fun j hj b hb => ?_, h.cap⟩
 ·dsimp only [setF]
  by_cases e : j = n
  ·subst e; rw [if_pos rfl]; exact ((h.past j hj).kept hg (ne _ (by rw [lpo]; omega))).same _
  ·rw [if_neg e]; exact ((h.past j hj).kept hg (ne _ (by rw [lpo]; omega))).other _ _ _ (by omega)
 ·dsimp only [setF]
  by_cases e : j = n
  ·subst e
   rw [if_pos rfl, if_pos rfl, List.length_append]
   have e1 : ints (q.past j ++ [x]) = ints (q.past j) ++ [.int .i64 x] := by simp [ints]
   rw [e1]
   refine World.ownsRow.kept own hg2 ?_
   cases hvb : v.ownBlock with
   | none => left; rfl
   | some b => right; exact ne2 b (by rw [hv b hvb]; omega)
  ·rw [if_neg e, if_neg e]
   refine World.ownsRow.kept (World.ownsRow.kept (h.rows j hj) hg ?_) hg2 ?_
   ·cases hb : (a.P j).ownBlock with
    | none => left; rfl
    | some b => right; exact ne b (by rw [h.lrow j hj b hb]; omega)
   ·cases hb : (a.P j).ownBlock with
    | none => left; rfl
    | some b => right; exact ne2 b (by rw [h'.lrow j hj b hb]; omega)
 ·dsimp only [setF] at hb
  by_cases e : j = n
  ·subst e; rw [if_pos rfl] at hb; exact hv b hb
  ·rw [if_neg e] at hb; exact h'.lrow j hj b hb
end
theorem Jf2 (len : Nat → Nat) {c c' i i' : Nat} (hi : i < len c) (hi' : i' < len c') (h : baseN len c + i = baseN len c' + i') : c = c' ∧ i = i' := by
 rcases Nat.lt_trichotomy c c' with h1 | h1 | h1
 ·have := J44 len (c + 1) c' h1
  simp only [baseN] at this
  omega
 ·subst h1; exact ⟨rfl, by omega⟩
 ·have := J44 len (c' + 1) c h1
  simp only [baseN] at this
  omega
theorem Jbo {s : Sp} (h : s.ahead = false) (over : Bool) : s.after over = s := by unfold Sp.after; rw [if_neg (by rw [h]; decide)]
theorem J4r {s : Sp} (h : s.ahead = false) (cl : Nat) : s.noneLeft cl = s := by unfold Sp.noneLeft; rw [if_neg (by rw [h]; simp)]
def numS (p : Prg) (s : Sp) (i : Ins) : Int := wrap64 (baseI p.log i.c.toNat + idxI s.pl.r i)
def Sp.on (s : Sp) : Sp := (s.see ⟨1, s.pl.at_, 0⟩).go (s.pl.at_ + 1)

theorem J36 {p : Prg} {s : Sp} {i : Ins} (hI : p.ins s.pl.at_ = i) (h : i.op = 7) : stepS p s = ((s.see ⟨1, s.pl.at_, 0⟩).go i.n.toNat, false, none) := by
 subst hI; unfold stepS; rw [if_pos h]
theorem J49 {p : Prg} {s : Sp} {i : Ins} (hI : p.ins s.pl.at_ = i) (h : i.op = 8) (hh : Bool) (hhh : J15 i.c (s.pl.r i.a.toNat) (s.pl.r i.b.toNat) = hh) (right wrong : Nat) (hr : right = if hh = true then i.n.toNat else s.pl.at_ + 1) (hw : wrong = if hh = true then s.pl.at_ + 1 else i.n.toNat) :
  stepS p s = (if s.choice = 0 then { (s.see ⟨1, s.pl.at_, 0⟩).go right with script := s.script.tail } else ({ (s.see ⟨1, s.pl.at_, 0⟩).go right with script := s.script.tail }.leave).go wrong, false, none) := by
 subst hI
 unfold stepS
 rw [if_neg (by omega), if_pos h]
 cases hh with
 | true => rw [if_pos hhh]; subst hr hw; rfl
 | false => rw [if_neg (by rw [hhh]; decide)]; subst hr hw; rfl
theorem J35 {p : Prg} {s : Sp} {i : Ins} (hI : p.ins s.pl.at_ = i) (h : i.op = 9) (ha : s.ahead = false) : stepS p s = (s.see ⟨1, s.pl.at_, 0⟩, false, some (1, s.pl.r i.a.toNat)) := by
 subst hI; unfold stepS; rw [if_neg (by omega), if_neg (by omega), if_pos ⟨h, ha⟩]
theorem J1i {p : Prg} {s : Sp} {i : Ins} (hI : p.ins s.pl.at_ = i) (h : (i.op = 9 ∧ s.ahead = true) ∨ i.op = 12) : stepS p s = (s.on, true, none) := by
 subst hI
 unfold stepS Sp.on
 rw [if_neg (by omega), if_neg (by omega)]
 have h1 : ¬ ((p.ins s.pl.at_).op = 9 ∧ s.ahead = false) := by
  rintro ⟨h1, h2⟩
  rcases h with ⟨_, h3⟩ | h3
  ·rw [h2] at h3; cases h3
  ·omega
 rw [if_neg h1, if_pos (by omega)]
theorem J2o {p : Prg} {s : Sp} {i : Ins} (hI : p.ins s.pl.at_ = i) (h : i.op = 3 ∨ i.op = 4 ∨ i.op = 5 ∨ i.op = 6) (ha : s.ahead = false) (hx : idxI s.pl.r i < 0 ∨ J0h (p.log i.c.toNat) ≤ idxI s.pl.r i) : stepS p s = (s.see ⟨1, s.pl.at_, 0⟩, false, some (2, 0)) := by
 subst hI
 have hp : 0 ≤ putI (p.ins s.pl.at_) := by
  rcases h with h | h | h | h
  ·rw [J2m (.inl h)]; decide
  ·rw [J3h (.inl h)]; decide
  ·rw [J2m (.inr h)]; decide
  ·rw [J3h (.inr h)]; decide
 unfold stepS
 rw [if_neg (by omega), if_neg (by omega), if_neg (by omega), if_neg (by omega), if_pos hp, if_pos ⟨ha, hx⟩]
theorem J38 {p : Prg} {s : Sp} {i : Ins} (hI : p.ins s.pl.at_ = i) (h : i.op = 3 ∨ i.op = 4 ∨ i.op = 5 ∨ i.op = 6) (hx : ¬ (s.ahead = false ∧ (idxI s.pl.r i < 0 ∨ J0h (p.log i.c.toNat) ≤ idxI s.pl.r i))) :
  stepS p s = (wordS p (s.on.see ⟨2, numS p s i, putI i⟩) i (numS p s i), false, none) := by
 subst hI
 have hp : 0 ≤ putI (p.ins s.pl.at_) := by
  rcases h with h | h | h | h
  ·rw [J2m (.inl h)]; decide
  ·rw [J3h (.inl h)]; decide
  ·rw [J2m (.inr h)]; decide
  ·rw [J3h (.inr h)]; decide
 unfold stepS
 rw [if_neg (by omega), if_neg (by omega), if_neg (by omega), if_neg (by omega), if_pos hp, if_neg hx]
 rfl
theorem J37 {p : Prg} {s : Sp} {i : Ins} (hI : p.ins s.pl.at_ = i) (h3 : ¬ i.op = 3) (h4 : ¬ i.op = 4) (h5 : ¬ i.op = 5) (h6 : ¬ i.op = 6) (h7 : ¬ i.op = 7) (h8 : ¬ i.op = 8) (h9 : ¬ i.op = 9) (h12 : ¬ i.op = 12) :
  stepS p s = ({ s.on with pl := { s.on.pl with r := (regsI s.pl.r i).1 }, seen := s.on.seen ++ (regsI s.pl.r i).2 }, false, none) := by
 subst hI
 have hp := Ja7 h3 h4 h5 h6
 unfold stepS
 rw [if_neg h7, if_neg h8, if_neg (by omega), if_neg (by omega), if_neg (by rw [hp]; decide)]
 rfl

structure PlOk (p : Prg) (k : Nat) (q : Pl) : Prop where
 at_ : q.at_ ≤ p.cl
 r : ∀ j, j < 10 → B64 (q.r j)
 wd : ∀ j : Nat, (j : Int) < allI p → B64 (q.wd j)
 past : ∀ j, (q.past j).length ≤ k
 was : ∀ j : Nat, (j : Int) < allI p → ∀ v ∈ q.past j, B64 v
structure InvS (p : Prg) (k n : Nat) (s : Sp) : Prop where
 pl : PlOk p k s.pl
 back : s.ahead = true → PlOk p k s.back
 seen : s.seen.length ≤ n
 sc : ∀ c ∈ s.script, 0 ≤ c

theorem PlOk.mono {p : Prg} {k k' : Nat} {q : Pl} (h : PlOk p k q) (hk : k ≤ k') : PlOk p k' q := ⟨h.at_, h.r, h.wd, fun j => Nat.le_trans (h.past j) hk, h.was⟩
theorem PlOk.go {p : Prg} {k : Nat} {q : Pl} (h : PlOk p k q) (n : Nat) (hn : n ≤ p.cl) : PlOk p k { q with at_ := n } := ⟨hn, h.r, h.wd, h.past, h.was⟩
theorem PlOk.reg {p : Prg} {k : Nat} {q : Pl} (h : PlOk p k q) (a v : Int) (hv : B64 v) : PlOk p k { q with r := setR q.r a v } := ⟨h.at_, J48 h.r a v hv, h.wd, h.past, h.was⟩
theorem InvS.mono {p : Prg} {k k' n n' : Nat} {s : Sp} (h : InvS p k n s) (hk : k ≤ k') (hn : n ≤ n') : InvS p k' n' s := ⟨h.pl.mono hk, fun a => (h.back a).mono hk, Nat.le_trans h.seen hn, h.sc⟩
theorem InvS.see {p : Prg} {k n : Nat} {s : Sp} (h : InvS p k n s) (x : Se) : InvS p k (n + 1) (s.see x) := ⟨h.pl, h.back, by have := h.seen; simp [Sp.see]; omega, h.sc⟩
theorem InvS.go {p : Prg} {k n : Nat} {s : Sp} (h : InvS p k n s) (m : Nat) (hm : m ≤ p.cl) : InvS p k n (s.go m) := ⟨h.pl.go m hm, h.back, h.seen, h.sc⟩
theorem InvS.reg {p : Prg} {k n : Nat} {s : Sp} (h : InvS p k n s) (a v : Int) (hv : B64 v) : InvS p k n (s.reg a v) := ⟨h.pl.reg a v hv, h.back, h.seen, h.sc⟩
theorem InvS.tail {p : Prg} {k n : Nat} {s : Sp} (h : InvS p k n s) : InvS p k n { s with script := s.script.tail } := ⟨h.pl, h.back, h.seen, fun c hc => h.sc c (List.mem_of_mem_tail hc)⟩
theorem InvS.leave {p : Prg} {k n : Nat} {s : Sp} (h : InvS p k n s) : InvS p k n s.leave := by
 unfold Sp.leave
 split
 ·exact h
 ·exact ⟨h.pl, fun _ => h.pl, h.seen, h.sc⟩
theorem InvS.returns {p : Prg} {k n : Nat} {s : Sp} (h : InvS p k n s) (ha : s.ahead = true) : InvS p k (n + 1) s.returns := ⟨h.back ha, fun a => by simp [Sp.returns] at a, by have := h.seen; simp [Sp.returns]; omega, h.sc⟩
theorem InvS.after {p : Prg} {k n : Nat} {s : Sp} (h : InvS p k n s) (over : Bool) : InvS p k (n + 1) (s.after over) := by
 unfold Sp.after
 split
 ·rename_i ha
  have h2 : InvS p k n { s with since := s.since + 1 } := ⟨h.pl, h.back, h.seen, h.sc⟩
  split
  ·exact h2.returns ha
  ·exact h2.mono (Nat.le_refl _) (Nat.le_succ _)
 ·exact h.mono (Nat.le_refl _) (Nat.le_succ _)
theorem InvS.word {p : Prg} {k n : Nat} {s : Sp} (h : InvS p k n s) (i : Ins) (m : Int) (hop : i.op = 3 ∨ i.op = 4 ∨ i.op = 5 ∨ i.op = 6) (ha : i.a.toNat < 10) : InvS p (k + 1) n (wordS p s i m) := by
 have h1 : InvS p (k + 1) n s := h.mono (Nat.le_succ _) (Nat.le_refl _)
 unfold wordS
 by_cases hm : m < 0 ∨ allI p ≤ m
 ·rw [if_pos hm]
  split
  ·exact h1.reg _ _ J1e
  ·exact h1
 rw [if_neg hm]
 by_cases hp : putI i = 1
 ·rw [if_pos hp]
  refine ⟨⟨h.pl.at_, h.pl.r, fun j hj => ?_, fun j => ?_, fun j hj v hv => ?_⟩, h1.back, h.seen, h.sc⟩
  ·dsimp only [setF]
   split
   ·exact h.pl.r _ ha
   ·exact h.pl.wd j hj
  ·dsimp only [setF]
   have := h.pl.past j
   split
   ·rename_i e; subst e; simp; exact h.pl.past _
   ·omega
  ·dsimp only [setF] at hv
   split at hv
   ·rename_i e
    subst e
    rcases List.mem_append.1 hv with hv | hv
    ·exact h.pl.was _ hj v hv
    ·rw [List.mem_singleton.1 hv]; exact h.pl.wd _ hj
   ·exact h.pl.was j hj v hv
 rw [if_neg hp]
 have hm2 : ((m.toNat : Nat) : Int) < allI p := by omega
 have h2 : InvS p (k + 1) n ({ s with script := s.script.tail }.reg i.a (s.pl.wd m.toNat)) := (h1.tail).reg _ _ (h.pl.wd _ hm2)
 split
 ·refine h2.leave.reg _ _ ?_
  rw [List.getD_eq_getElem?_getD]
  cases hq : (s.pl.past m.toNat)[(s.pl.past m.toNat).length - s.choice.toNat]? with
  | none => exact J1e
  | some v => exact h.pl.was _ hm2 v (List.mem_of_getElem? hq)
 ·exact h2

theorem InvS.step {p : Prg} {k n : Nat} {s : Sp} (h : InvS p k n s) (hat : s.pl.at_ < p.cl) (hin : InsOk p.rl p.log p.cl 10 (p.ins s.pl.at_)) (hn : B64 (p.ins s.pl.at_).n) : InvS p (k + 1) (n + 2) (stepS p s).1 := by
 obtain ⟨i, hI⟩ : ∃ i, p.ins s.pl.at_ = i := ⟨_, rfl⟩
 rw [hI] at hin hn
 have h1 : InvS p (k + 1) (n + 1) (s.see ⟨1, s.pl.at_, 0⟩) := (h.see _).mono (Nat.le_succ _) (Nat.le_refl _)
 have hon : InvS p k (n + 1) s.on := (h.see _).go _ hat
 have hon1 : InvS p (k + 1) (n + 1) s.on := hon.mono (Nat.le_succ _) (Nat.le_refl _)
 by_cases h7 : i.op = 7
 ·rw [J36 hI h7]
  have : 0 ≤ i.n ∧ i.n < p.cl := by unfold InsOk Plc at hin; simp [h7] at hin; exact hin.2.2.2
  exact (h1.go _ (by omega)).mono (Nat.le_refl _) (Nat.le_succ _)
 by_cases h8 : i.op = 8
 ·have hpl : 0 ≤ i.n ∧ i.n < p.cl := by unfold InsOk Plc at hin; simp [h8] at hin; exact hin.2.2.2
  rw [J49 hI h8 _ rfl _ _ rfl rfl]
  have hb : ∀ b : Bool, (if b = true then i.n.toNat else s.pl.at_ + 1) ≤ p.cl ∧ (if b = true then s.pl.at_ + 1 else i.n.toNat) ≤ p.cl := by intro b; cases b <;> simp <;> omega
  have hb2 := hb (J15 i.c (s.pl.r i.a.toNat) (s.pl.r i.b.toNat))
  have h2 := (h1.go _ hb2.1).tail
  dsimp only
  split
  ·exact h2.mono (Nat.le_refl _) (Nat.le_succ _)
  ·exact (h2.leave.go _ hb2.2).mono (Nat.le_refl _) (Nat.le_succ _)
 by_cases h9 : i.op = 9
 ·cases ha : s.ahead with
  | false => rw [J35 hI h9 ha]; exact h1.mono (Nat.le_refl _) (Nat.le_succ _)
  | true => rw [J1i hI (.inl ⟨h9, ha⟩)]; exact hon1.mono (Nat.le_refl _) (Nat.le_succ _)
 by_cases h12 : i.op = 12
 ·rw [J1i hI (.inr h12)]; exact hon1.mono (Nat.le_refl _) (Nat.le_succ _)
 by_cases hw : i.op = 3 ∨ i.op = 4 ∨ i.op = 5 ∨ i.op = 6
 ·have hra : i.a.toNat < 10 := by
   unfold InsOk Reg at hin
   rcases hw with e | e | e | e <;> simp [e] at hin <;> omega
  by_cases hx : s.ahead = false ∧ (idxI s.pl.r i < 0 ∨ J0h (p.log i.c.toNat) ≤ idxI s.pl.r i)
  ·rw [J2o hI hw hx.1 hx.2]; exact h1.mono (Nat.le_refl _) (Nat.le_succ _)
  ·rw [J38 hI hw hx]
   exact (hon.see _).word i _ hw hra
 rw [J37 hI (by omega) (by omega) (by omega) (by omega) h7 h8 h9 h12]
 refine ⟨⟨hon1.pl.at_, Je7 h.pl.r i (fun e => ?_) hn, hon1.pl.wd, hon1.pl.past, hon1.pl.was⟩, hon1.back, ?_, hon1.sc⟩
 ·unfold InsOk Reg at hin
  simp [e] at hin
  omega
 ·have := hon1.seen
  have := J96 s.pl.r i
  simp
  omega
end
section
open Go.RowKit
set_option linter.unusedVariables false
def J77 (m : Mem) (j : Nat) : Nat → Int
 | 0 => 0
 | n + 1 => if baseN m.len n ≤ j ∧ j < baseN m.len n + m.len n then m.wd n (j - baseN m.len n) else J77 m j n
def flatM (m : Mem) (j : Nat) : Int := J77 m j m.ml

theorem J8k (m : Mem) (c i : Nat) (hi : i < m.len c) : ∀ n, c < n → J77 m (baseN m.len c + i) n = m.wd c i
 | 0, h => absurd h (Nat.not_lt_zero _)
 | n + 1, h => by
  unfold J77
  by_cases hr : baseN m.len n ≤ baseN m.len c + i ∧ baseN m.len c + i < baseN m.len n + m.len n
  ·rw [if_pos hr]
   obtain ⟨e1, e2⟩ := Jf2 m.len (c := n) (i := baseN m.len c + i - baseN m.len n) (by omega) hi (by omega)
   rw [e2, e1]
  ·rw [if_neg hr]
   have hcn : c ≠ n := by
    rintro rfl
    exact hr (by omega)
   exact J8k m c i hi n (by omega)
theorem J5m (m : Mem) (c i : Nat) (hc : c < m.ml) (hi : i < m.len c) : flatM m (baseN m.len c + i) = m.wd c i :=
 J8k m c i hi m.ml hc
theorem J88 (len : Nat → Nat) : ∀ (n j : Nat), j < baseN len n → ∃ c i, c < n ∧ i < len c ∧ baseN len c + i = j
 | 0, j, h => by simp [baseN] at h
 | n + 1, j, h => by
  by_cases e : j < baseN len n
  ·obtain ⟨c, i, h1, h2, h3⟩ := J88 len n j e
   exact ⟨c, i, by omega, h2, h3⟩
  ·simp only [baseN] at h
   exact ⟨n, j - baseN len n, by omega, by omega, by omega⟩
end
section
open Go.RowKit
set_option linter.unusedSimpArgs false
set_option linter.unusedVariables false
set_option maxRecDepth 8000
theorem J14 {w : World} {b : Nat} {o : Obj} (h : w.heap[b]? = some o) : b < w.heap.size := (Array.getElem?_eq_some_iff.1 h).1

theorem J0a {w w' : World} {M : Nat} (h : Below M w w') (j : Nat) (v : Value) : Below M w (w'.setCell ⟨M, j, none⟩ v) := Below.setCell h (Nat.le_refl _) v

theorem J4g {w w' : World} {M : Nat} (h : Below M w w') (hM : M ≤ w'.heap.size) (o : Obj) : Below M w (w'.alloc o) := Below.alloc h hM o

theorem J0t {w w' : World} {M : Nat} (h : Below M w w') : Below M w w'.drew := Below.drew h

theorem J0k {w w' w'' : World} {M : Nat} (h : Below M w w') (hM : M ≤ w'.heap.size) (m : More w' w'') : Below M w w'' := Below.trans h (Below.mono m hM)

theorem Jhx : (Try.prog.info? 73).map (fun i => (i.zero, i.size, i.bytes)) = some (some (.agg #[.int .i64 0, .int .i64 0, .int .i64 0]), 3, 24) := by kernel_rfl

theorem J5w (w : World) (x y z : Value) (t : TypeId) : ∀ j u, [x, y, z][j]? = some u → (w.alloc (.cells #[x, y, z] t)).cell? ((⟨w.heap.size, 0, none⟩ : Addr).add j) = some u := by
 intro j u h
 rw [Go.WideShapes.add_plain]
 have hj : j = 0 ∨ j = 1 ∨ j = 2 := by have := (List.getElem?_eq_some_iff.1 h).1; simp at this; omega
 rcases hj with rfl | rfl | rfl <;> (simp at h; subst h; go_simp)

structure ScAt (w : World) (B : Nat) (sc : Value) (L : List Int) : Prop where
 out : ∃ sa cap, sc = .slice sa L.length cap ∧ L.length ≤ cap ∧ (L ≠ [] → ∃ sb so, sa = some ⟨sb, so, none⟩ ∧ sb < B ∧ ∀ j c, L[j]? = some c → w.cell? ⟨sb, so + j, none⟩ = some (.int .i64 c))

theorem ScAt.below {w w' : World} {B : Nat} {sc : Value} {L : List Int} (h : ScAt w B sc L) (hb : Below B w w') : ScAt w' B sc L := by
 obtain ⟨sa, cap, h1, h2, h3⟩ := h.out
 refine ⟨sa, cap, h1, h2, fun hL => ?_⟩
 obtain ⟨sb, so, h4, h5, h6⟩ := h3 hL
 exact ⟨sb, so, h4, h5, fun j c hc => by rw [Below.cell hb h5]; exact h6 j c hc⟩

theorem J03 {P : Prop} (h : P) : Hid P := h

theorem J06 {w : World} {R : Nat} {c : Array Value} {T : TypeId} (h : w.heap[R]? = some (.cells c T (0, 0))) (j : Nat) (v : Value) (hv : c[j]? = some v) : w.cell? ⟨R, j, none⟩ = some v := by
 rw [cell_of_row w R j c T (0, 0) h]; exact hv

theorem Jk4 : (Try.prog.info? 70).map (fun i => (i.zero, i.size, i.bytes)) = some (some (.slice none 0 0), 1, 24) := by kernel_rfl

theorem J9h {p : Prg} {s : Sp} {e : Int × Int} (h : (stepS p s).2.2 = some e) : (stepS p s).1 = s.see ⟨1, s.pl.at_, 0⟩ := by
 obtain ⟨i, hI⟩ : ∃ i, p.ins s.pl.at_ = i := ⟨_, rfl⟩
 by_cases h7 : i.op = 7
 ·rw [J36 hI h7] at h; cases h
 by_cases h8 : i.op = 8
 ·rw [J49 hI h8 _ rfl _ _ rfl rfl] at h; cases h
 by_cases h9 : i.op = 9
 ·cases ha : s.ahead with
  | false => rw [J35 hI h9 ha]
  | true => rw [J1i hI (.inl ⟨h9, ha⟩)] at h; cases h
 by_cases h12 : i.op = 12
 ·rw [J1i hI (.inr h12)] at h; cases h
 by_cases hw : i.op = 3 ∨ i.op = 4 ∨ i.op = 5 ∨ i.op = 6
 ·by_cases hx : s.ahead = false ∧ (idxI s.pl.r i < 0 ∨ J0h (p.log i.c.toNat) ≤ idxI s.pl.r i)
  ·rw [J2o hI hw hx.1 hx.2]
  ·rw [J38 hI hw hx] at h; cases h
 rw [J37 hI (by omega) (by omega) (by omega) (by omega) h7 h8 h9 h12] at h
 cases h

theorem Jel {p : Prg} {s : Sp} {e : Int × Int} (h : (stepS p s).2.2 = some e) : e.1 = 1 ∨ e.1 = 2 := by
 obtain ⟨i, hI⟩ : ∃ i, p.ins s.pl.at_ = i := ⟨_, rfl⟩
 by_cases h7 : i.op = 7
 ·rw [J36 hI h7] at h; cases h
 by_cases h8 : i.op = 8
 ·rw [J49 hI h8 _ rfl _ _ rfl rfl] at h; cases h
 by_cases h9 : i.op = 9
 ·cases ha : s.ahead with
  | false => rw [J35 hI h9 ha] at h; left; rw [← Option.some.inj h]
  | true => rw [J1i hI (.inl ⟨h9, ha⟩)] at h; cases h
 by_cases h12 : i.op = 12
 ·rw [J1i hI (.inr h12)] at h; cases h
 by_cases hw : i.op = 3 ∨ i.op = 4 ∨ i.op = 5 ∨ i.op = 6
 ·by_cases hx : s.ahead = false ∧ (idxI s.pl.r i < 0 ∨ J0h (p.log i.c.toNat) ≤ idxI s.pl.r i)
  ·rw [J2o hI hw hx.1 hx.2] at h; right; rw [← Option.some.inj h]
  ·rw [J38 hI hw hx] at h; cases h
 rw [J37 hI (by omega) (by omega) (by omega) (by omega) h7 h8 h9 h12] at h
 cases h

theorem Jjz {p : Prg} {m : Mem} (hrl : m.ml = p.rl) (hlen : ∀ i, i < m.ml → (m.len i : Int) = J0h (p.log i)) : allI p = (baseN m.len m.ml : Int) := by
 unfold allI
 rw [← hrl]
 exact (J7m p m hlen m.ml (Nat.le_refl _)).symm
def pastM (q : Pl) (N : Nat) : Mem := ⟨N, fun j => (q.past j).length, fun j i => (q.past j).getD i 0⟩
theorem J6f (q : Pl) (N j : Nat) : J2d (pastM q N) j = ints (q.past j) := by
 apply List.ext_getElem?
 intro i
 by_cases hi : i < (q.past j).length
 ·rw [J3z (pastM q N) j i hi]
  simp [ints, pastM, hi]
 ·simp only [J2d, ints, pastM, List.getElem?_map]
  rw [List.getElem?_eq_none (by simp; omega), List.getElem?_eq_none (by omega)]
  rfl

def rowNo (R : Nat → Nat) (c : Nat) : Nat → Nat
 | 0 => 0
 | n + 1 => if R n = c then n + 1 else rowNo R c n
theorem J56 (R : Nat → Nat) (c : Nat) : ∀ n, rowNo R c n ≠ 0 → ∃ j, j < n ∧ R j = c ∧ rowNo R c n = j + 1
 | 0, h => absurd rfl h
 | n + 1, h => by
  unfold rowNo at h ⊢
  by_cases e : R n = c
  ·rw [if_pos e]; exact ⟨n, by omega, e, rfl⟩
  ·rw [if_neg e] at h ⊢
   obtain ⟨j, h1, h2, h3⟩ := J56 R c n h
   exact ⟨j, by omega, h2, h3⟩
theorem Jbe (R : Nat → Nat) (c : Nat) : ∀ n j, j < n → R j = c → rowNo R c n ≠ 0
 | 0, j, h, _ => absurd h (Nat.not_lt_zero _)
 | n + 1, j, h, e => by
  unfold rowNo
  by_cases e' : R n = c
  ·rw [if_pos e']; omega
  ·rw [if_neg e']
   have : j ≠ n := by rintro rfl; exact e' e
   exact Jbe R c n j (by omega) e

def labOf (K N : Nat) (g1 g2 g3 : Nat) (R : Nat → Nat) : Nat → Nat := fun c =>
 if c = g1 then K + 1 else if 0 < N ∧ c = g2 then K + 2 else if 0 < N ∧ c = g3 then K + 3 else if rowNo R c N ≠ 0 then K + 9 + rowNo R c N else 0
theorem Jb5 {K N g1 g2 g3 : Nat} {R : Nat → Nat} {c : Nat} (h : labOf K N g1 g2 g3 R c ≠ 0) : c = g1 ∨ (0 < N ∧ c = g2) ∨ (0 < N ∧ c = g3) ∨ ∃ j, j < N ∧ R j = c := by
 unfold labOf at h
 split at h
 ·left; assumption
 ·split at h
  ·right; left; assumption
  ·split at h
   ·right; right; left; assumption
   ·split at h
    ·rename_i h0
     obtain ⟨j, h1, h2, _⟩ := J56 R c N h0
     exact .inr (.inr (.inr ⟨j, h1, h2⟩))
    ·exact absurd rfl h
theorem Jdh {K N g1 g2 g3 : Nat} {R : Nat → Nat} (j : Nat) (hj : j < N) (h1 : R j ≠ g1) (h2 : R j ≠ g2) (h3 : R j ≠ g3) (ap : ∀ i j, i < N → j < N → i ≠ j → R i ≠ R j) : labOf K N g1 g2 g3 R (R j) = K + 10 + j := by
 unfold labOf
 have h0 := Jbe R (R j) N j hj rfl
 rw [if_neg h1, if_neg (fun h => h2 h.2), if_neg (fun h => h3 h.2), if_pos h0]
 obtain ⟨i, k1, k2, k3⟩ := J56 R (R j) N h0
 have e : i = j := by
  rcases Nat.decEq i j with e | e
  ·exact absurd k2 (ap _ _ k1 hj e)
  ·exact e
 rw [k3, e]; omega

theorem Jdr {w : World} {lo N : Nat} {q : Pl} {g1 rc : Nat} {wa : Option Addr} {wc : Nat} {v : Value} {G C : Nat → Nat} {s0 : Nat} (h1 : lo ≤ g1) (h1' : g1 < s0) (hs : s0 ≤ w.heap.size) (hr : RegsR w g1 q.r)
  (hw : w.ownsRow lo 2 1 (.slice wa N wc) N ((List.range N).map fun j => .int .i64 (q.wd j))) (hwb : ∀ b, (Value.slice wa N wc).ownBlock = some b → b < s0 ∧ b ≠ g1) (hc : CpAt w s0 (pastM q N) N v G C) (hlo : lo ≤ s0) (K : Nat) :
  ∃ pa pc a' lab', v = .slice pa N pc ∧ a'.rg = g1 ∧ a'.regs = .slice (some ⟨g1, 0, none⟩) 10 rc ∧ a'.words N = .slice wa N wc ∧ a'.past N = v ∧ (∀ c, lab' c ≠ 0 → lo ≤ c ∧ c < w.heap.size) ∧ PlL w lo N K lab' q a' := by
 obtain ⟨pa, pc, rfl⟩ := J23 hc.own
 by_cases hN : 0 < N
 ·obtain ⟨g2, c2, e2, l2, l2'⟩ := World.ownsRow.form hw hN
  obtain ⟨g3, c3, e3, l3, l3'⟩ := World.ownsRow.form hc.own hN
  have b2 := hwb g2 (by rw [e2]; rfl)
  have hcap : N ≤ wc := by
   rcases hw.2 with ⟨h, _⟩ | ⟨_, cap', _, h, _, _, hn, _⟩
   ·rw [e2] at h; cases h
   ·injection h with _ _ h3; omega
  rw [e2] at hw
  injection e2 with e2a _ _
  injection e3 with e3a _ e3c
  subst e2a e3a e3c
  have gl : ∀ j, j < N → s0 ≤ G j ∧ G j < w.heap.size ∧ G j ≠ g3 := fun j hj => ⟨((hc.row j hj).lt _ rfl).1, ((hc.row j hj).lt _ rfl).2, fun e => hc.apart j hj (by rw [e]; rfl)⟩
  have ap : ∀ i j, i < N → j < N → i ≠ j → G i ≠ G j := hc.apart2
  refine ⟨_, _, ⟨g1, rc, g2, some ⟨g2, 0, none⟩, wc, g3, some ⟨g3, 0, none⟩, pc, fun j => .slice (some ⟨G j, 0, none⟩) ((pastM q N).len j) (C j)⟩, labOf K N g1 g2 g3 G, rfl, rfl, rfl, rfl, rfl, fun c hc' => ?_, ?_⟩
  ·rcases Jb5 hc' with rfl | ⟨_, rfl⟩ | ⟨_, rfl⟩ | ⟨j, hj, rfl⟩
   ·omega
   ·omega
   ·omega
   ·have := gl j hj; omega
  ·refine ⟨?_, hr, fun _ => ?_, fun _ => rfl, fun j hj => ⟨?_, World.ownsRow.frozenAt hw j⟩, fun _ => ?_, fun _ => rfl, fun j hj => ⟨?_, World.ownsRow.frozenAt hc.own j⟩, fun j hj => ?_, fun j hj b hb => ?_, hcap⟩
   ·unfold labOf; rw [if_pos rfl]
   ·unfold labOf; rw [if_neg b2.2, if_pos ⟨hN, rfl⟩]
   ·rw [World.ownsRow.cellAt hw j (by omega)]; simp [hj]
   ·unfold labOf; rw [if_neg (by dsimp only; omega), if_neg (by dsimp only; omega), if_pos ⟨hN, rfl⟩]
   ·rw [World.ownsRow.cellAt hc.own j (by omega)]; simp [hj]
   ·have := hc.row j hj
    rw [J6f] at this
    refine ⟨this.1, ?_⟩
    rcases this.2 with h | ⟨g, cap, cur, h, hb, hh⟩
    ·exact .inl h
    ·exact .inr ⟨g, cap, cur, h, by omega, hh⟩
   ·have hb' : b = G j := by simpa [Value.ownBlock] using hb.symm
    have := gl j hj
    rw [hb']
    exact Jdh j hj (by omega) (by omega) this.2.2 ap
 ·obtain rfl : N = 0 := by omega
  refine ⟨_, _, ⟨g1, rc, 0, wa, wc, 0, pa, pc, fun _ => .slice none 0 0⟩, labOf K 0 g1 0 0 G, rfl, rfl, rfl, rfl, rfl, fun c hc' => ?_, ?_⟩
  ·rcases Jb5 hc' with rfl | ⟨h, _⟩ | ⟨h, _⟩ | ⟨j, hj, _⟩
   ·omega
   ·omega
   ·omega
   ·omega
  ·exact ⟨by unfold labOf; rw [if_pos rfl], hr, fun h => absurd h (by omega), fun h => absurd h (by omega), fun j hj => absurd hj (by omega), fun h => absurd h (by omega), fun h => absurd h (by omega), fun j hj => absurd hj (by omega), fun j hj => absurd hj (by omega), fun j hj => absurd hj (by omega), Nat.zero_le _⟩

theorem Je9 {w : World} {g : Nat} {r : Nat → Int} (h : RegsR w g r) : ∀ j u, ((List.range 10).map fun j => (Value.int .i64 (r j)))[j]? = some u → w.cell? ((⟨g, 0, none⟩ : Addr).add j) = some u := by
 intro j u hu
 have hj : j < 10 := by have := (List.getElem?_eq_some_iff.1 hu).1; simpa using this
 rw [Go.WideShapes.add_plain, Nat.zero_add]
 simp [hj] at hu
 rw [← hu]
 exact (h j hj).1
theorem Jdk (n : Nat) (f : Nat → Int) : ∀ u ∈ (List.range n).map fun j => (Value.int .i64 (f j)), u.oneCell' = true := by
 intro u hu
 simp only [List.mem_map] at hu
 obtain ⟨i, _, rfl⟩ := hu
 rfl
theorem Jad {w : World} {lo : Nat} {g : Nat} {c : Nat} {r : Nat → Int} (h : w.ownsRow lo 2 1 (.slice (some ⟨g, 0, none⟩) 10 c) 10 ((List.range 10).map fun j => .int .i64 (r j))) : RegsR w g r := fun j hj =>
 ⟨by rw [World.ownsRow.cellAt h j (by omega)]; simp [hj], World.ownsRow.frozenAt h j⟩

theorem J8l {a c : World} (h : a.grownBy c none) (row : Option Nat) : a.grownBy c row := ⟨h.os, h.tape, h.output, h.size, fun i hi _ => h.block i hi (by simp)⟩
theorem J1h {a b c : World} {row row' : Option Nat} (h : a.grownBy b row) (k : b.grownBy c row') (hr : ∀ j, row' = some j → a.heap.size ≤ j) : a.grownBy c row :=
 ⟨k.os.trans h.os, k.tape.trans h.tape, k.output.trans h.output, Nat.le_trans h.size k.size, fun i hi hne => (k.block i (Nat.lt_of_lt_of_le hi h.size) (fun e => by have := hr i e.symm; omega)).trans (h.block i hi hne)⟩
theorem Jcl {w : World} {g N : Nat} {f : Nat → Int} (h : ∀ j, j < N → Wr w g j (.int .i64 (f j))) : ∀ j u, ((List.range N).map fun j => (Value.int .i64 (f j)))[j]? = some u → w.cell? ((⟨g, 0, none⟩ : Addr).add j) = some u := by
 intro j u hu
 have hj : j < N := by have := (List.getElem?_eq_some_iff.1 hu).1; simpa using this
 rw [Go.WideShapes.add_plain, Nat.zero_add]
 simp [hj] at hu
 rw [← hu]
 exact (h j hj).1
theorem Jbf {w : World} {lo : Nat} {pv : Option Addr} {c : Nat} {l : List Int} (h : w.ownsRow lo 2 1 (.slice pv l.length c) l.length (ints l)) (h0 : 0 < l.length) : ∃ g, pv = some ⟨g, 0, none⟩ ∧ g < w.heap.size ∧ ∀ j u, (ints l)[j]? = some u → w.cell? ⟨g, j, none⟩ = some u := by
 obtain ⟨g, cap, e, _, hl⟩ := World.ownsRow.form h h0
 injection e with e1 _ e3
 subst e1 e3
 refine ⟨g, rfl, hl, fun j u hu => ?_⟩
 have hj : j < l.length := by have := (List.getElem?_eq_some_iff.1 hu).1; rw [J66] at this; exact this
 rw [World.ownsRow.cellAt h j (by omega)]
 exact hu
theorem CpAt.kept {w w' : World} {base : Nat} {m : Mem} {k : Nat} {v : Value} {G C : Nat → Nat} (h : CpAt w base m k v G C) {b : Nat} (hg : w.grownBy w' (some b)) (hb : b < base) : CpAt w' base m k v G C :=
 ⟨World.ownsRow.kept h.own hg (by
  cases hv : v.ownBlock with
  | none => left; rfl
  | some c => right; intro e; have := (h.own.lt c hv).1; have := Option.some.inj e; omega), fun j hj => World.ownsRow.kept (h.row j hj) hg (by right; intro e; have := ((h.row j hj).lt _ rfl).1; have := Option.some.inj e; omega), h.apart, h.apart2⟩

set_option maxHeartbeats 2000000 in
theorem Jdy (w : World) (lo N K0 : Nat) (lab : Nat → Nat) (q : Pl) (a : PV) (h : PlL w lo N K0 lab q a) (hN : N ≤ 384) (hp : ∀ j, j < N → (q.past j).length ≤ 100000) (K : Nat) :
  Calls Try.prog 72 #[.agg #[a.regs, a.words N, a.past N, .int .i64 q.at_]] w fun e w' => ∃ a' lab', e = .returned (.agg #[a'.regs, a'.words N, a'.past N, .int .i64 q.at_]) ∧ More w w' ∧ (∀ c, lab' c ≠ 0 → w.heap.size ≤ c ∧ c < w'.heap.size) ∧ PlL w' w.heap.size N K lab' q a' := by
 obtain ⟨i0, hi, hz0, hz1, hz2⟩ := info_parts info2
 obtain ⟨i1, hi', hz0', hz1', hz2'⟩ := info_parts Jhv
 have Hi : Hid (Try.prog.info? 2 = some i0 ∧ i0.zero = some (.int .i64 0) ∧ i0.size = 1 ∧ i0.bytes = 8) := ⟨hi, hz0, hz1, hz2⟩
 have Hi' : Hid (Try.prog.info? 70 = some i1 ∧ i1.zero = some (.slice none 0 0) ∧ i1.size = 1 ∧ i1.bytes = 24) := ⟨hi', hz0', hz1', hz2'⟩
 have H : Hid (PlL w lo N K0 lab q a ∧ N ≤ 384 ∧ ∀ j, j < N → (q.past j).length ≤ 100000) := ⟨h, hN, hp⟩
 clear h hN hp hi hz0 hz1 hz2 hi' hz0' hz1' hz2'
 obtain ⟨rg, rc, wg, wa, wc, pg, pa, pc, P⟩ := a
 dsimp only [PV.regs, PV.words, PV.past]
 obtain ⟨at_, hat⟩ : ∃ n : Int, (q.at_ : Int) = n := ⟨_, rfl⟩
 rw [hat]
 clear hat
 have hrl : rg < w.heap.size := J05 (H.out.1.regs 0 (by omega)).1
 have Hr : Hid (RegsR w rg q.r) := H.out.1.regs
 obtain ⟨W, HW⟩ : ∃ W : World, Hid (((w.alloc (.cells #[.slice (some ⟨rg, 0, none⟩) 10 rc, .slice wa N wc, .slice pa N pc, .int .i64 at_] 82)).alloc (.cells #[.slice none 0 0, .slice none 0 0, .slice none 0 0, .int .i64 0] 82)).alloc (.cells #[.slice none 0 0, .slice none 0 0, .slice none 0 0, .int .i64 at_] 82) = W) := ⟨_, rfl⟩
 have HM : Hid (More w W ∧ W.heap.size = w.heap.size + 3) := by rw [← HW.out]; exact ⟨(((More.refl _).alloc _ _).alloc _ _).alloc _ _, by simp⟩
 have HC : Hid ((Wr W w.heap.size 1 (.slice wa N wc) ∧ Wr W w.heap.size 2 (.slice pa N pc)) ∧ (Wr W (w.heap.size + 1) 0 (.slice none 0 0) ∧ Wr W (w.heap.size + 1) 1 (.slice none 0 0) ∧ Wr W (w.heap.size + 1) 2 (.slice none 0 0) ∧ Wr W (w.heap.size + 1) 3 (.int .i64 0)) ∧
   (Wr W (w.heap.size + 2) 0 (.slice none 0 0) ∧ Wr W (w.heap.size + 2) 1 (.slice none 0 0) ∧ Wr W (w.heap.size + 2) 2 (.slice none 0 0) ∧ Wr W (w.heap.size + 2) 3 (.int .i64 at_))) := by
  rw [← HW.out]
  exact ⟨⟨⟨by go_simp, by go_simp⟩, ⟨by go_simp, by go_simp⟩⟩, ⟨⟨by go_simp, by go_simp⟩, ⟨by go_simp, by go_simp⟩, ⟨by go_simp, by go_simp⟩, ⟨by go_simp, by go_simp⟩⟩, ⟨⟨by go_simp, by go_simp⟩, ⟨by go_simp, by go_simp⟩, ⟨by go_simp, by go_simp⟩, ⟨by go_simp, by go_simp⟩⟩⟩
 go_enter Try.func72, Try.ntmps72
 go_wp2_with (first
  | (at_builtin; refine J1q _ rfl (.tmp 9) (.tmp 11) 70 rfl w.heap.size 2 i0 (.int .i64 0) 1 8 Try.underlying70 Hi.out.1 Hi.out.2.1 Hi.out.2.2.1 Hi.out.2.2.2 rfl (by decide) (.slice none 0 0) 0 [] rfl (World.ownsRow_nil _ _ _ _) (some ⟨rg, 0, none⟩) 10 rc ((List.range 10).map fun j => .int .i64 (q.r j)) rfl (by simp) (fun _ => ⟨_, rfl, Je9 (by repeat (first | exact Hr.out | apply RegsR.alloc))⟩) (Jdk _ _) (by unfold maxLen; omega) (by omega) (by simp; omega) ?_; rw [HW.out]; intro va1 c1 w2 own1 gr1 at1 nn1; obtain ⟨⟨⟨x1, _⟩, _⟩, _, ⟨y0, y0'⟩, ⟨y1, y1'⟩, _⟩ := HC.out; replace x1 := gr1.cell x1 (by simp [Value.ownBlock]); replace y0 := (Wr.kept gr1 ⟨y0, y0'⟩ (by simp [Value.ownBlock])); obtain ⟨y0, y0'⟩ := y0; replace y1 := (Wr.kept gr1 ⟨y1, y1'⟩ (by simp [Value.ownBlock])); obtain ⟨y1, y1'⟩ := y1; have H1 := J03 (And.intro own1 (And.intro gr1 at1)); clear own1 gr1 at1 nn1)
  | (at_builtin; go_loud (refine J1q _ rfl (.tmp 15) (.tmp 17) 70 rfl w.heap.size 2 i0 (.int .i64 0) 1 8 Try.underlying70 Hi.out.1 Hi.out.2.1 Hi.out.2.2.1 Hi.out.2.2.2 rfl (by decide) (.slice none 0 0) 0 [] rfl (World.ownsRow_nil _ _ _ _) wa N wc ((List.range N).map fun j => .int .i64 (q.wd j)) rfl (by simp) (fun h0 => ⟨⟨wg, 0, none⟩, H.out.1.wa h0, Jcl (fun j hj => (((H.out.1.words j hj).kept (HM.out.1.grow none) (by simp)).kept H1.out.2.1 (by simp [Value.ownBlock])).other (w.heap.size + 1 + 1) 0 _ (.inl (by have := J05 (H.out.1.words j hj).1; dsimp only at this ⊢; omega)))⟩) (Jdk _ _) (by have := H.out.2.1; unfold maxLen; omega) (by have := H.out.2.1; omega) (by have h1 := H1.out.2.1.size; have h2 := HM.out.2; simp; omega) ?_; intro va2 c2 w3 own2 gr2 at2 nn2; have z1 := Wr.kept gr2 (Wr.other ⟨y1, y1'⟩ (w.heap.size + 2) 0 (.slice va1 10 c1) (by omega)) (by simp [Value.ownBlock]); obtain ⟨z1, z1'⟩ := z1; have H2 := J03 (And.intro own2 (And.intro gr2 at2)); clear own2 gr2 at2 nn2)))
 obtain ⟨WL, hWL⟩ : ∃ WL, w3.setCell ⟨w.heap.size + 1 + 1, 1, none⟩ (.slice va2 N c2) = WL := ⟨_, rfl⟩
 rw [hWL]
 have HL : Hid ((W.grownBy WL (some (w.heap.size + 2)) ∧ w.heap.size + 3 ≤ WL.heap.size) ∧ (Wr WL (w.heap.size + 2) 0 (.slice va1 10 c1) ∧ Wr WL (w.heap.size + 2) 1 (.slice va2 N c2) ∧ Wr WL (w.heap.size + 2) 2 (.slice none 0 0) ∧ Wr WL (w.heap.size + 2) 3 (.int .i64 at_)) ∧
   WL.ownsRow w.heap.size 2 1 (.slice va1 10 c1) 10 ((List.range 10).map fun j => .int .i64 (q.r j)) ∧ WL.ownsRow w.heap.size 2 1 (.slice va2 N c2) N ((List.range N).map fun j => .int .i64 (q.wd j)) ∧
   (∀ b, (Value.slice va1 10 c1).ownBlock = some b → b = w.heap.size + 3 ∧ b < WL.heap.size) ∧ (∀ b, (Value.slice va2 N c2).ownBlock = some b → w.heap.size + 3 < b ∧ b < WL.heap.size)) := by
  obtain ⟨own1, gr1, at1⟩ := H1.out
  obtain ⟨own2, gr2, at2⟩ := H2.out
  obtain ⟨hm, hs⟩ := HM.out
  simp only [Nat.zero_add, List.nil_append] at own1 own2 at1 at2 gr1 gr2
  have g1 : W.grownBy w2 (some (w.heap.size + 2)) := J8l gr1 _
  have g2 := J0p w2 (w.heap.size + 1 + 1) 0 (.slice va1 10 c1)
  have g3 := J8l gr2 (some (w.heap.size + 2))
  have g4 := J0p w3 (w.heap.size + 1 + 1) 1 (.slice va2 N c2)
  rw [hWL] at g4
  have hs1 := gr1.size
  have hs2 := g2.size
  have hs3 := gr2.size
  have hs4 := g4.size
  have hgb : WL.heap.size = w3.heap.size := by rw [← hWL]; simp
  have b1 : ∀ b, (Value.slice va1 10 c1).ownBlock = some b → b = w.heap.size + 3 := fun b hb => by
   rcases at1 b hb with h | h
   ·simp [Value.ownBlock] at h
   ·omega
  have l1 : ∀ b, (Value.slice va1 10 c1).ownBlock = some b → b < w2.heap.size := fun b hb => (World.ownsRow.lt own1 b hb).2
  have b2 : ∀ b, (Value.slice va2 N c2).ownBlock = some b → b = w2.heap.size := fun b hb => by
   rcases at2 b hb with h | h
   ·simp [Value.ownBlock] at h
   ·simpa using h
  have l2 : ∀ b, (Value.slice va2 N c2).ownBlock = some b → b < w3.heap.size := fun b hb => (World.ownsRow.lt own2 b hb).2
  obtain ⟨gg1, cc1, e1, _⟩ := World.ownsRow.form own1 (by omega)
  have e1' := b1 gg1 (by rw [e1]; rfl)
  have e1'' := l1 gg1 (by rw [e1]; rfl)
  obtain ⟨y0, y1, y2, y3⟩ := HC.out.2.2
  have k : ∀ o v, Wr W (w.heap.size + 2) o v → Wr w2 (w.heap.size + 2) o v := fun o v h => h.kept gr1 (by simp [Value.ownBlock])
  have k3 : ∀ o v, Wr (w2.setCell ⟨w.heap.size + 1 + 1, 0, none⟩ (.slice va1 10 c1)) (w.heap.size + 2) o v → Wr w3 (w.heap.size + 2) o v := fun o v h => h.kept gr2 (by simp [Value.ownBlock])
  refine ⟨⟨J0x (J0x (J0x g1 g2) g3) g4, by omega⟩, ⟨?_, ?_, ?_, ?_⟩, ?_, ?_, fun b hb => ⟨b1 b hb, by have := l1 b hb; omega⟩, fun b hb => ⟨by have := b2 b hb; omega, by have := l2 b hb; omega⟩⟩
  ·rw [← hWL]; exact (k3 _ _ ((k _ _ y0).same _)).other _ _ _ (by omega)
  ·rw [← hWL]; exact (k3 _ _ ((k _ _ y1).other _ _ _ (by omega))).same _
  ·rw [← hWL]; exact (k3 _ _ ((k _ _ y2).other _ _ _ (by omega))).other _ _ _ (by omega)
  ·rw [← hWL]; exact (k3 _ _ ((k _ _ y3).other _ _ _ (by omega))).other _ _ _ (by omega)
  ·refine World.ownsRow.kept (World.ownsRow.kept (World.ownsRow.kept own1 g2 ?_) gr2 ?_) g4 ?_
   ·right; rw [e1]; simp [Value.ownBlock]; omega
   ·right; rw [e1]; simp [Value.ownBlock]
   ·right; rw [e1]; simp [Value.ownBlock]; omega
  ·refine World.ownsRow.kept own2 g4 ?_
   cases hv : (Value.slice va2 N c2).ownBlock with
   | none => left; rfl
   | some b => right; have := b2 b hv; simp; omega
 clear hWL H1 H2 x1 y0 y0' y1 y1' z1 z1'
 go_wp2
 go_loopg [4] N (fun g i wr => ∃ (k : Nat) (v : Value) (G C : Nat → Nat), k + g = N ∧ i = .int .i64 k ∧ CpAt wr WL.heap.size (pastM q N) k v G C ∧ WL.grownBy wr (some (w.heap.size + 2)) ∧ Wr wr (w.heap.size + 2) 0 (.slice va1 10 c1) ∧ Wr wr (w.heap.size + 2) 1 (.slice va2 N c2) ∧ Wr wr (w.heap.size + 2) 2 v ∧ Wr wr (w.heap.size + 2) 3 (.int .i64 at_))
 case atStart => exact ⟨0, _, _, _, by omega, rfl, CpAt.start _ _ _, J0n _ _, HL.out.2.1⟩
 case round =>
  obtain ⟨k, v, G, C, hkg, rfl, hc, hg, hw0, hw1, hw2, hw3⟩ := hrel
  obtain ⟨xa, xc, rfl⟩ := J23 hc.own
  have Hm := J03 (And.intro hc (And.intro hg (And.intro hw0 (And.intro hw1 (And.intro hw2 hw3)))))
  clear hc hg hw0 hw1 hw2 hw3
  have xp : wr.cell? ⟨w.heap.size, 2, none⟩ = some (.slice pa N pc) := Hm.out.2.1.cell (HL.out.1.1.cell HC.out.1.2.1 (by simp)) (by simp)
  cases gk with
  | zero =>
   obtain rfl : k = N := by omega
   obtain ⟨_, _, ⟨q0, _⟩, ⟨q1, _⟩, ⟨q2, _⟩, ⟨q3, _⟩⟩ := Hm.out
   have KR : ∀ o u, Wr W (w.heap.size + 1) o u → Wr wr (w.heap.size + 1) o u := fun o u h => (h.kept HL.out.1.1 (by simp)).kept Hm.out.2.1 (by simp)
   obtain ⟨⟨r0, r0'⟩, ⟨r1, r1'⟩, ⟨r2, r2'⟩, ⟨r3, r3'⟩⟩ : Wr wr (w.heap.size + 1) 0 _ ∧ Wr wr (w.heap.size + 1) 1 _ ∧ Wr wr (w.heap.size + 1) 2 _ ∧ Wr wr (w.heap.size + 1) 3 _ := ⟨KR _ _ HC.out.2.1.1, KR _ _ HC.out.2.1.2.1, KR _ _ HC.out.2.1.2.2.1, KR _ _ HC.out.2.1.2.2.2⟩
   clear KR
   go_wp2
   try simp only [Exit.inBlock, Exit.then]
   refine bodyPost_ret (v := .agg #[.slice va1 10 c1, .slice va2 k c2, .slice xa k xc, .int .i64 at_]) (by simp [results, Try.results72, go_sem, *]) rfl ?_
   have hgf := J10 (J10 (J10 (J10 (J0n wr (some (w.heap.size + 1))) 0 (.slice va1 10 c1)) 1 (.slice va2 k c2)) 2 (.slice xa k xc)) 3 (.int .i64 at_)
   obtain ⟨hc, hg, _⟩ := Hm.out
   obtain ⟨⟨gw, hs⟩, _, o1, o2, b1, b2⟩ := HL.out
   obtain ⟨g1, cc1, e1, _⟩ := World.ownsRow.form o1 (by omega)
   injection e1 with e1a _ e1c
   subst e1a e1c
   have hb1 := b1 g1 rfl
   have o1' := World.ownsRow.kept (World.ownsRow.kept o1 hg (.inr (by simp [Value.ownBlock]; omega))) hgf (.inr (by simp [Value.ownBlock]; omega))
   have o2' := World.ownsRow.kept (World.ownsRow.kept o2 hg (by
    cases hv : (Value.slice va2 k c2).ownBlock with
    | none => left; rfl
    | some b => right; have := b2 b hv; simp; omega)) hgf (by
    cases hv : (Value.slice va2 k c2).ownBlock with
    | none => left; rfl
    | some b => right; have := b2 b hv; simp; omega)
   have hm : More w wr := (HM.out.1.grownBy gw (fun b hb => by have := Option.some.inj hb; omega)).grownBy hg (fun b hb => by have := Option.some.inj hb; omega)
   have hm' := hm.grownBy hgf (fun b hb => by have := Option.some.inj hb; omega)
   obtain ⟨pa', pc', a', lab', _, _, e2, e3, e4, hl, hpl⟩ := Jdr (rc := c1) (s0 := WL.heap.size) (by omega) hb1.2 (Nat.le_trans hg.size hgf.size) (Jad o1') o2' (fun b hb => ⟨(b2 b hb).2, by have := (b2 b hb).1; omega⟩) (hc.kept hgf (by omega)) (by omega) K
   exact ⟨a', lab', by rw [show Value.slice (some ⟨a'.rg, 0, none⟩) 10 a'.rc = a'.regs from rfl, e2, show Value.slice a'.wa k a'.wc = a'.words k from rfl, e3, show Value.slice a'.pa k a'.pc = a'.past k from rfl, e4], hm', hl, hpl⟩
  | succ g =>
   have hk : k < N := by omega
   have hk' : (k : Int) < (N : Int) := by omega
   have hk0 : (0 : Int) ≤ (k : Int) := by omega
   have h0 : 0 < N := by omega
   have hpa : pa = some ⟨pg, 0, none⟩ := H.out.1.pa h0
   subst hpa
   have hpg : pg < w.heap.size := J05 (H.out.1.past k hk).1
   obtain ⟨pv, pcap, hP⟩ := J23 (H.out.1.rows k hk)
   have xr : wr.cell? ⟨pg, k, none⟩ = some (.slice pv (q.past k).length pcap) := by
    rw [← hP]
    exact Hm.out.2.1.cell (HL.out.1.1.cell (HM.out.1.cell (H.out.1.past k hk).1) (by simp; omega)) (by simp; omega)
   have xv : wr.cell? ⟨w.heap.size + 2, 2, none⟩ = some (.slice xa k xc) := Hm.out.2.2.2.2.1.1
   obtain ⟨S, HS⟩ : ∃ S : World → Prop, Hid (∀ w', S w' ↔ (w'.cell? ⟨w.heap.size, 2, none⟩ = some (.slice (some ⟨pg, 0, none⟩) N pc) ∧ w'.cell? ⟨pg, k, none⟩ = some (.slice pv (q.past k).length pcap) ∧ w'.cell? ⟨w.heap.size + 2, 2, none⟩ = some (.slice xa k xc))) := ⟨_, fun _ => Iff.rfl⟩
   have j1 : ∀ i : { w' // S w' }, i.val.cell? ⟨w.heap.size, 2, none⟩ = some (.slice (some ⟨pg, 0, none⟩) N pc) := fun i => ((HS.out _).1 i.property).1
   have j2 : ∀ i : { w' // S w' }, i.val.cell? ⟨pg, k, none⟩ = some (.slice pv (q.past k).length pcap) := fun i => ((HS.out _).1 i.property).2.1
   have j3 : ∀ i : { w' // S w' }, i.val.cell? ⟨w.heap.size + 2, 2, none⟩ = some (.slice xa k xc) := fun i => ((HS.out _).1 i.property).2.2
   have hS : S wr.drew := (HS.out _).2 ⟨xp, xr, xv⟩
   have hne : Nonempty { w' // S w' } := ⟨⟨_, hS⟩⟩
   go_wp2_with (fail)
   refine J0i (S := S) [(0, true), (1, true), (3, true), (4, true), (5, true), (6, true), (7, true), (2, false), (8, false), (9, false), (10, false), (11, true), (12, false)] (by kernel_rfl) (by kernel_rfl) (by kernel_rfl) hS ?_
   iterate 7 (refine J0e rfl (by kernel_rfl) (fun K hK => ?_); go_simp; refine hK _ _ ?_; clear hK K)
   clear j1 j2 j3
   have HX := J03 (And.intro hS (And.intro xp (And.intro xr xv)))
   have Hk := J03 hk
   have Hpg := J03 (And.intro hpg hP)
   obtain ⟨ln, hln⟩ : ∃ n, (q.past k).length = n := ⟨_, rfl⟩
   have Hln : Hid ((q.past k).length = ln ∧ ln ≤ 100000) := ⟨hln, by rw [← hln]; exact H.out.2.2 k hk⟩
   rw [hln]
   rw [hln] at xr
   have hwsz : WL.heap.size ≤ wr.heap.size := Hm.out.2.1.size
   have hsz := HL.out.1.2
   have Hown1 : Hid ((wr.alloc (.cells #[] 2)).drew.ownsRow WL.heap.size 2 1 (.slice (some ⟨wr.heap.size, 0, none⟩) 0 0) 0 []) := World.ownsRow_made wr #[] 0 hwsz (by unfold maxLen; omega) rfl
   have Hnews : Hid (0 < ln → ∃ ad', pv = some ad' ∧ ∀ j u, (ints (q.past k))[j]? = some u → (wr.alloc (.cells #[] 2)).drew.cell? (ad'.add j) = some u) := by
    intro h0
    have hrow := H.out.1.rows k hk
    rw [show (PV.P _ k) = _ from hP] at hrow
    obtain ⟨g', hpv, hgl, hcs⟩ := Jbf hrow (by rw [hln]; exact h0)
    refine ⟨_, hpv, fun j u hu => ?_⟩
    rw [Go.WideShapes.add_plain, Nat.zero_add]
    exact ((More.refl wr).alloc _ _).drew.cell (Hm.out.2.1.cell (HL.out.1.1.cell (HM.out.1.cell (hcs j u hu)) (by simp; omega)) (by simp; omega))
   clear hS xp xr xv hP hln
   refine J0w rfl (by kernel_rfl) (fun K hK => ?_)
   go_simp
   refine hK _ _ ((HS.out _).2 ?_) ?_
   ·obtain ⟨_, x1, x2, x3⟩ := HX.out
    exact ⟨((More.refl wr).alloc _ _).drew.cell x1, ((More.refl wr).alloc _ _).drew.cell x2, ((More.refl wr).alloc _ _).drew.cell x3⟩
   clear hK K
   refine J0w rfl (by kernel_rfl) (fun K hK => ?_)
   refine J4z _ (.tmp 29) (.tmp 34) 70 rfl WL.heap.size 2 i0 (.int .i64 0) 1 8 Try.underlying70 Hi.out.1 Hi.out.2.1 Hi.out.2.2.1 Hi.out.2.2.2 rfl (by decide) (.slice (some ⟨wr.heap.size, 0, none⟩) 0 0) 0 [] rfl Hown1.out pv ln pcap (ints (q.past k)) rfl (by rw [J66, Hln.out.1, Nat.mul_one]) Hnews.out (Jfx _) (by have := Hln.out.2; unfold maxLen; omega) (by have := Hln.out.2; omega) (by simp; omega) ?_
   intro vb cb w4 own4 gr4 at4 nn4
   obtain ⟨ga, rfl⟩ : ∃ ga, vb = some ga := Option.ne_none_iff_exists'.1 (nn4 (by simp [Value.ownBlock]))
   have gad : ga = ⟨ga.block, 0, none⟩ := by
    rcases own4.2 with ⟨h, _⟩ | ⟨g', _, _, h, _⟩
    ·cases h
    ·injection h with h1 _ _
     rw [Option.some.inj h1]
   obtain ⟨gb, hgb⟩ : ∃ b, ga.block = b := ⟨_, rfl⟩
   rw [hgb] at gad
   subst gad
   clear hgb
   simp only [Nat.zero_add, List.nil_append] at own4 at4 ⊢
   have hgl : wr.heap.size ≤ gb := by
    rcases at4 gb rfl with h | h
    ·have := Option.some.inj h; dsimp only at this; omega
    ·rw [h]; simp
   have gr4' : (wr.alloc (.cells #[] 2)).grownBy w4 (some wr.heap.size) := ⟨gr4.os, gr4.tape, gr4.output, gr4.size, gr4.block⟩
   have hs4 : wr.heap.size + 1 ≤ w4.heap.size := by have := gr4'.size; simpa using this
   have H4 := J03 (And.intro own4 (And.intro gr4' (And.intro hgl hs4)))
   refine hK _ _ ((HS.out _).2 ?_) ?_
   ·obtain ⟨_, x1, x2, x3⟩ := HX.out
    have lx1 := J05 x1
    have lx2 := J05 x2
    have lx3 := J05 x3
    dsimp only at lx1 lx2 lx3
    exact ⟨gr4'.cell (((More.refl wr).alloc _ _).cell x1) (by simp; omega), gr4'.cell (((More.refl wr).alloc _ _).cell x2) (by simp; omega), gr4'.cell (((More.refl wr).alloc _ _).cell x3) (by simp; omega)⟩
   clear hK K own4 at4 gr4 gr4' nn4 hgl hs4
   refine J0w rfl (by kernel_rfl) (fun K hK => ?_)
   go_simp
   refine hK _ _ ((HS.out _).2 ?_) ?_
   ·obtain ⟨_, x1, x2, x3⟩ := HX.out
    have lx1 := J05 x1
    have lx2 := J05 x2
    have lx3 := J05 x3
    dsimp only at lx1 lx2 lx3
    have gr4' := H4.out.2.1
    exact ⟨((More.refl w4).alloc _ _).cell (gr4'.cell (((More.refl wr).alloc _ _).cell x1) (by simp; omega)), ((More.refl w4).alloc _ _).cell (gr4'.cell (((More.refl wr).alloc _ _).cell x2) (by simp; omega)), ((More.refl w4).alloc _ _).cell (gr4'.cell (((More.refl wr).alloc _ _).cell x3) (by simp; omega))⟩
   clear hK K
   have Hlen : Hid ((pastM q N).len k = ln) := Hln.out.1
   have Hs4 := J03 H4.out.2.2.2
   refine J0w rfl (by kernel_rfl) (fun K hK => ?_)
   refine wp_append_lies _ (.tmp 28) (.tmp 36) 35 rfl WL.heap.size 70 i1 (.slice none 0 0) 1 24 Try.underlying35 Hi'.out.1 Hi'.out.2.1 Hi'.out.2.2.1 Hi'.out.2.2.2 rfl (by decide) (.slice xa k xc) k ((List.range k).map fun j => .slice (some ⟨G j, 0, none⟩) ((pastM q N).len j) (C j)) rfl (Hm.out.1.own3 _ _ H4.out.2.1) ⟨w4.heap.size, 0, none⟩ 1 1 [.slice (some ⟨gb, 0, none⟩) ln cb] rfl rfl (cell_one_new _ _ _) (fun x hx => by simp at hx; subst hx; rfl) (by decide) (by have := H.out.2.1; have := Hk.out; unfold maxLen; omega) (by have := H.out.2.1; have := Hk.out; omega) (by have := Hs4.out; simp; omega) (w4.heap.size + 1) (by simp) ?_
   intro g2 cap2 w5 own5 gr5 at5 lt5
   have hc5 := Hm.out.1.step (.cells #[] 2) (.cells #[.slice (some ⟨gb, 0, none⟩) ln cb] 70) gb cb g2 cap2 (by rw [Hlen.out, J6f]; exact H4.out.1) H4.out.2.1 H4.out.2.2.1 (by rw [Hlen.out]; exact own5) gr5 at5
   have hvb : ∀ b, (Value.slice xa k xc).ownBlock = some b → WL.heap.size ≤ b := fun b hb => (Hm.out.1.own.lt b hb).1
   have kp5 : ∀ b, b < WL.heap.size → some b ≠ (Value.slice xa k xc).ownBlock := fun b hb e => by have := hvb b e.symm; omega
   have kw : ∀ o u, Wr wr (w.heap.size + 2) o u → Wr w5 (w.heap.size + 2) o u := fun o u h => ((h.kept (World.grownBy_alloc wr _ none) (by simp)).kept H4.out.2.1 (by simp; omega)).kept (World.grownBy_alloc w4 _ none) (by simp) |>.kept gr5 (kp5 _ (by omega))
   have g05 : WL.grownBy w5 (some (w.heap.size + 2)) := J1h (J1h (J1h (J1h Hm.out.2.1 (World.grownBy_alloc wr _ none) (fun j h => by cases h)) H4.out.2.1 (fun j h => by have := Option.some.inj h; omega)) (World.grownBy_alloc w4 _ none) (fun j h => by cases h)) gr5 hvb
   obtain ⟨_, _, m0, m1, m2, m3⟩ := Hm.out
   have H5 := J03 (And.intro hc5 (And.intro g05 (And.intro (kw _ _ m0) (And.intro (kw _ _ m1) (And.intro (kw _ _ m2) (kw _ _ m3))))))
   have c2' := (kw _ _ m2).1
   have f2' := (kw _ _ m2).2
   refine hK _ _ ((HS.out _).2 ?_) ?_
   ·obtain ⟨_, x1, x2, x3⟩ := HX.out
    have lx1 := J05 x1
    have lx2 := J05 x2
    have lx3 := J05 x3
    dsimp only at lx1 lx2 lx3
    have gr4' := H4.out.2.1
    exact ⟨gr5.cell (((More.refl w4).alloc _ _).cell (gr4'.cell (((More.refl wr).alloc _ _).cell x1) (by simp; omega))) (kp5 _ (by dsimp only; omega)), gr5.cell (((More.refl w4).alloc _ _).cell (gr4'.cell (((More.refl wr).alloc _ _).cell x2) (by simp; omega))) (kp5 _ (by have := Hpg.out.1; dsimp only; omega)), c2'⟩
   clear hK K own5 gr5 at5 lt5 hc5 hvb kp5 kw g05 m0 m1 m2 m3
   refine J0e rfl (by kernel_rfl) (fun K hK => ?_); go_simp; refine hK _ _ ?_; clear hK K
   refine J0u rfl (by kernel_rfl) (by kernel_rfl) (fun K hK => ?_)
   go_simp
   refine hK _ _ ?_
   clear hK K hne
   refine NoPanic.normal ?_
   have hk63 : wrap64 ((k : Int) + 1) = (k : Int) + 1 := by have := H.out.2.1; unfold wrap64; omega
   have hwr := J27
   go_wp2
   go_roundg g
   case measure => omega
   case rel =>
    obtain ⟨hc5, g05, m0, m1, m2, m3⟩ := H5.out
    have hgs := J0p w5 (w.heap.size + 2) 2 (.slice (some ⟨g2, 0, none⟩) (k + 1) cap2)
    exact ⟨k + 1, _, _, _, by omega, by first | rfl | (push_cast; rfl), hc5.kept hgs (by omega), J0x g05 hgs, m0.other _ _ _ (by omega), m1.other _ _ _ (by omega), m2.same _, m3.other _ _ _ (by omega)⟩
end
section
open Go.RowKit
set_option linter.unusedSimpArgs false
set_option linter.unusedVariables false
structure Ys where
 rv : Value
 cv : Value
 mv : Value
 e : Int
 v : Int
 k : Int
structure Zs where
 sv : Value
 sc : Value
 b0 : Value
 b1 : Value
 b2 : Value
 b3 : Value
 a : PV
 b : PV
 lab : Nat → Nat

def gV (N : Nat) (y : Ys) (s : Sp) (z : Zs) : Nat → Value
 | 0 => z.a.regs
 | 1 => z.a.words N
 | 2 => z.a.past N
 | 3 => .int .i64 s.pl.at_
 | 4 => y.rv
 | 5 => y.cv
 | 6 => .int .i64 y.e
 | 7 => .int .i64 y.v
 | 8 => .int .i64 y.k
 | 9 => z.sv
 | 10 => y.mv
 | 11 => z.sc
 | 12 => .bool s.ahead
 | 13 => .int .i64 s.since
 | 14 => z.b0
 | 15 => z.b1
 | 16 => z.b2
 | _ => z.b3

structure Rest (w : World) (G N : Nat) (s : Sp) (mo : List (Nat × Obj)) (z : Zs) : Prop where
 lt : G < w.heap.size
 lab : ∀ c, z.lab c ≠ 0 → G < c ∧ c < w.heap.size
 cur : PlL w (G + 1) N 0 z.lab s.pl z.a
 back : s.ahead = true → PlL w (G + 1) N 1000 z.lab s.back z.b ∧ z.b0 = z.b.regs ∧ z.b1 = z.b.words N ∧ z.b2 = z.b.past N ∧ z.b3 = .int .i64 s.back.at_
 seen : SeenOwn w (G + 1) z.sv s.seen
 lseen : ∀ b, z.sv.ownBlock = some b → z.lab b = 5000
 sc : ScAt w G z.sc s.script
 box : ∀ p ∈ mo, G < p.1 ∧ z.lab p.1 = 0 ∧ w.heap[p.1]? = some p.2
structure RS (w : World) (G N : Nat) (y : Ys) (s : Sp) (mo : List (Nat × Obj)) (z : Zs) : Prop where
 cells : ∀ j, j < 18 → Wr w G j (gV N y s z j)
 rest : Rest w G N s mo z
structure R4 (w : World) (G N : Nat) (y : Ys) (s : Sp) (mo : List (Nat × Obj)) : Prop where
 out : N ≤ 384 ∧ ∃ z, RS w G N y s mo z

section
variable {w w' : World} {G N : Nat} {y : Ys} {s : Sp} {mo : List (Nat × Obj)} {z : Zs}

theorem Rest.kept (h : Rest w G N s mo z) (hN : N ≤ 384) {row : Option Nat} (hg : w.grownBy w' row) (hr : ∀ b, row = some b → z.lab b = 0 ∧ G ≤ b ∧ ∀ p ∈ mo, p.1 ≠ b) : Rest w' G N s mo z := by
 have hz : ∀ K b, row = some b → ¬ InR K (z.lab b) := fun K b hb => by rw [(hr b hb).1]; unfold InR; omega
 refine ⟨Nat.lt_of_lt_of_le h.lt hg.size, fun c hc => ⟨(h.lab c hc).1, Nat.lt_of_lt_of_le (h.lab c hc).2 hg.size⟩, h.cur.kept hN hg (hz 0), fun ha => ⟨(h.back ha).1.kept hN hg (hz 1000), (h.back ha).2⟩, ?_, h.lseen, ?_, fun p hp => ?_⟩
 ·refine World.ownsRow.kept h.seen hg ?_
  cases hv : z.sv.ownBlock with
  | none => left; rfl
  | some b => right; intro e; have := (hr b e.symm).1; have := h.lseen b hv; omega
 ·refine h.sc.below (Below.grown (Below.refl _ _) hg (Nat.le_of_lt h.lt) (fun b hb => (hr b hb).2.1))
 ·obtain ⟨h1, h2, h3⟩ := h.box p hp
  exact ⟨h1, h2, by rw [hg.block p.1 (J14 h3) (fun e => (hr p.1 e.symm).2.2 p hp rfl)]; exact h3⟩
theorem Rest.own (h : Rest w G N s mo z) (b : Nat) (hb : some G = some b) : z.lab b = 0 ∧ G ≤ b ∧ ∀ p ∈ mo, p.1 ≠ b := by
 obtain rfl := Option.some.inj hb
 refine ⟨?_, Nat.le_refl _, fun p hp e => ?_⟩
 ·cases hc : z.lab G with
  | zero => rfl
  | succ n => have := (h.lab G (by rw [hc]; omega)).1; omega
 ·have := (h.box p hp).1; omega
theorem RS.kept (h : RS w G N y s mo z) (hN : N ≤ 384) {row : Option Nat} (hg : w.grownBy w' row) (hr : ∀ b, row = some b → z.lab b = 0 ∧ G < b ∧ ∀ p ∈ mo, p.1 ≠ b) : RS w' G N y s mo z :=
 ⟨fun j hj => (h.cells j hj).kept hg (fun e => by have := (hr G e.symm).2.1; omega), h.rest.kept hN hg (fun b hb => ⟨(hr b hb).1, Nat.le_of_lt (hr b hb).2.1, (hr b hb).2.2⟩)⟩
theorem RS.put (h : RS w G N y s mo z) (hN : N ≤ 384) (j : Nat) (v : Value) {y' : Ys} {s' : Sp} {z' : Zs} (hj : j < 18) (hc : ∀ i, i < 18 → gV N y' s' z' i = if i = j then v else gV N y s z i) (hr : ∀ w', Rest w' G N s mo z → Rest w' G N s' mo z') :
  RS (w.setCell ⟨G, j, none⟩ v) G N y' s' mo z' := by
 refine ⟨fun i hi => ?_, hr _ (h.rest.kept hN (J0p w G j v) h.rest.own)⟩
 rw [hc i hi]
 by_cases e : i = j
 ·subst e; rw [if_pos rfl]; exact (h.cells i hi).same _
 ·rw [if_neg e]; exact (h.cells i hi).other _ _ _ (by omega)

theorem R4.lt (h : R4 w G N y s mo) : G < w.heap.size := by obtain ⟨_, z, hz⟩ := h.out; exact hz.rest.lt
theorem R4.more (h : R4 w G N y s mo) (m : More w w') : R4 w' G N y s mo := by
 obtain ⟨hN, z, hz⟩ := h.out
 exact ⟨hN, z, hz.kept hN (m.grow none) (fun b hb => by cases hb)⟩
theorem R4.drew (h : R4 w G N y s mo) : R4 w.drew G N y s mo := h.more (More.refl _).drew
theorem R4.fewer (h : R4 w G N y s mo) (l : List (Nat × Obj)) (hl : ∀ p ∈ l, p ∈ mo) : R4 w G N y s l := by
 obtain ⟨hN, z, hz⟩ := h.out
 exact ⟨hN, z, hz.cells, hz.rest.lt, hz.rest.lab, hz.rest.cur, hz.rest.back, hz.rest.seen, hz.rest.lseen, hz.rest.sc, fun p hp => hz.rest.box p (hl p hp)⟩
theorem R4.left (h : R4 w G N y s mo) {p : Nat × Obj} (hp : p ∈ mo) : w.heap[p.1]? = some p.2 := by obtain ⟨hN, z, hz⟩ := h.out; exact (hz.rest.box p hp).2.2
theorem R4.beside (h : R4 w G N y s mo) (o : Obj) : R4 (w.alloc o) G N y s ((w.heap.size, o) :: mo) := by
 obtain ⟨hN, z, hz⟩ := h.out
 have h1 := hz.kept hN (World.grownBy_alloc w o none) (fun b hb => by cases hb)
 refine ⟨hN, z, h1.cells, h1.rest.lt, h1.rest.lab, h1.rest.cur, h1.rest.back, h1.rest.seen, h1.rest.lseen, h1.rest.sc, fun p hp => ?_⟩
 rcases List.mem_cons.1 hp with rfl | hp
 ·refine ⟨hz.rest.lt, ?_, heap_alloc_last w o⟩
  cases hc : z.lab w.heap.size with
  | zero => rfl
  | succ n => have := (hz.rest.lab w.heap.size (by rw [hc]; omega)).2; omega
 ·exact h1.rest.box p hp

theorem lt18 {P : Nat → Prop} (h0 : P 0) (h1 : P 1) (h2 : P 2) (h3 : P 3) (h4 : P 4) (h5 : P 5) (h6 : P 6) (h7 : P 7) (h8 : P 8) (h9 : P 9) (h10 : P 10) (h11 : P 11) (h12 : P 12) (h13 : P 13) (h14 : P 14) (h15 : P 15) (h16 : P 16) (h17 : P 17) : ∀ i, i < 18 → P i := by
 intro i hi
 have hi' : i = 0 ∨ i = 1 ∨ i = 2 ∨ i = 3 ∨ i = 4 ∨ i = 5 ∨ i = 6 ∨ i = 7 ∨ i = 8 ∨ i = 9 ∨ i = 10 ∨ i = 11 ∨ i = 12 ∨ i = 13 ∨ i = 14 ∨ i = 15 ∨ i = 16 ∨ i = 17 := by omega
 rcases hi' with rfl | rfl | rfl | rfl | rfl | rfl | rfl | rfl | rfl | rfl | rfl | rfl | rfl | rfl | rfl | rfl | rfl | rfl
 ·exact h0
 ·exact h1
 ·exact h2
 ·exact h3
 ·exact h4
 ·exact h5
 ·exact h6
 ·exact h7
 ·exact h8
 ·exact h9
 ·exact h10
 ·exact h11
 ·exact h12
 ·exact h13
 ·exact h14
 ·exact h15
 ·exact h16
 ·exact h17

theorem RS.setAt (h : RS w G N y s mo z) (hN : N ≤ 384) (n : Nat) (m : Int) (hm : m = n) : RS (w.setCell ⟨G, 3, none⟩ (.int .i64 m)) G N y (s.go n) mo z := by
 subst hm
 exact h.put hN 3 _ (by omega) (by exact lt18 rfl rfl rfl rfl rfl rfl rfl rfl rfl rfl rfl rfl rfl rfl rfl rfl rfl rfl) (fun w' r => ⟨r.lt, r.lab, r.cur.go n, r.back, r.seen, r.lseen, r.sc, r.box⟩)
theorem RS.setE (h : RS w G N y s mo z) (hN : N ≤ 384) (n : Int) : RS (w.setCell ⟨G, 6, none⟩ (.int .i64 n)) G N { y with e := n } s mo z := h.put hN 6 _ (by omega) (by exact lt18 rfl rfl rfl rfl rfl rfl rfl rfl rfl rfl rfl rfl rfl rfl rfl rfl rfl rfl) (fun w' r => r)
theorem RS.setV (h : RS w G N y s mo z) (hN : N ≤ 384) (n : Int) : RS (w.setCell ⟨G, 7, none⟩ (.int .i64 n)) G N { y with v := n } s mo z := h.put hN 7 _ (by omega) (by exact lt18 rfl rfl rfl rfl rfl rfl rfl rfl rfl rfl rfl rfl rfl rfl rfl rfl rfl rfl) (fun w' r => r)
theorem RS.setK (h : RS w G N y s mo z) (hN : N ≤ 384) (n : Int) : RS (w.setCell ⟨G, 8, none⟩ (.int .i64 n)) G N { y with k := n } s mo z := h.put hN 8 _ (by omega) (by exact lt18 rfl rfl rfl rfl rfl rfl rfl rfl rfl rfl rfl rfl rfl rfl rfl rfl rfl rfl) (fun w' r => r)
theorem RS.setSc (h : RS w G N y s mo z) (hN : N ≤ 384) (v : Value) (l : List Int) (hl : ScAt w G v l) : RS (w.setCell ⟨G, 11, none⟩ v) G N y { s with script := l } mo { z with sc := v } := by
 have hl' : ScAt (w.setCell ⟨G, 11, none⟩ v) G v l := hl.below (J0a (Below.refl _ _) _ _)
 have h1 := h.rest.kept hN (J0p w G 11 v) h.rest.own
 refine ⟨fun i hi => ?_, h1.lt, h1.lab, h1.cur, h1.back, h1.seen, h1.lseen, hl', h1.box⟩
 rw [show gV N y { s with script := l } { z with sc := v } i = if i = 11 then v else gV N y s z i from by revert i; exact lt18 rfl rfl rfl rfl rfl rfl rfl rfl rfl rfl rfl rfl rfl rfl rfl rfl rfl rfl]
 by_cases e : i = 11
 ·subst e; rw [if_pos rfl]; exact (h.cells 11 hi).same _
 ·rw [if_neg e]; exact (h.cells i hi).other _ _ _ (by omega)
theorem RS.setSince (h : RS w G N y s mo z) (hN : N ≤ 384) (n : Int) : RS (w.setCell ⟨G, 13, none⟩ (.int .i64 n)) G N y { s with since := n } mo z := h.put hN 13 _ (by omega) (by exact lt18 rfl rfl rfl rfl rfl rfl rfl rfl rfl rfl rfl rfl rfl rfl rfl rfl rfl rfl) (fun w' r => ⟨r.lt, r.lab, r.cur, r.back, r.seen, r.lseen, r.sc, r.box⟩)
theorem RS.setHere (h : RS w G N y s mo z) (hN : N ≤ 384) : RS (w.setCell ⟨G, 12, none⟩ (.bool false)) G N y { s with ahead := false } mo z := h.put hN 12 _ (by omega) (by exact lt18 rfl rfl rfl rfl rfl rfl rfl rfl rfl rfl rfl rfl rfl rfl rfl rfl rfl rfl) (fun w' r => ⟨r.lt, r.lab, r.cur, fun h => absurd h (by simp), r.seen, r.lseen, r.sc, r.box⟩)

theorem R4.setAt (h : R4 w G N y s mo) (n : Nat) (m : Int) (hm : m = n) : R4 (w.setCell ⟨G, 3, none⟩ (.int .i64 m)) G N y (s.go n) mo := by obtain ⟨hN, z, hz⟩ := h.out; exact ⟨hN, z, hz.setAt hN n m hm⟩
theorem R4.setE (h : R4 w G N y s mo) (n : Int) : R4 (w.setCell ⟨G, 6, none⟩ (.int .i64 n)) G N { y with e := n } s mo := by obtain ⟨hN, z, hz⟩ := h.out; exact ⟨hN, z, hz.setE hN n⟩
theorem R4.setV (h : R4 w G N y s mo) (n : Int) : R4 (w.setCell ⟨G, 7, none⟩ (.int .i64 n)) G N { y with v := n } s mo := by obtain ⟨hN, z, hz⟩ := h.out; exact ⟨hN, z, hz.setV hN n⟩
theorem R4.setK (h : R4 w G N y s mo) (n : Int) : R4 (w.setCell ⟨G, 8, none⟩ (.int .i64 n)) G N { y with k := n } s mo := by obtain ⟨hN, z, hz⟩ := h.out; exact ⟨hN, z, hz.setK hN n⟩
theorem R4.setSince (h : R4 w G N y s mo) (n : Int) : R4 (w.setCell ⟨G, 13, none⟩ (.int .i64 n)) G N y { s with since := n } mo := by obtain ⟨hN, z, hz⟩ := h.out; exact ⟨hN, z, hz.setSince hN n⟩

theorem R4.at_ (h : R4 w G N y s mo) : Wr w G 3 (.int .i64 s.pl.at_) := by obtain ⟨hN, z, hz⟩ := h.out; exact hz.cells 3 (by omega)
theorem R4.rv (h : R4 w G N y s mo) : Wr w G 4 y.rv := by obtain ⟨hN, z, hz⟩ := h.out; exact hz.cells 4 (by omega)
theorem R4.cv (h : R4 w G N y s mo) : Wr w G 5 y.cv := by obtain ⟨hN, z, hz⟩ := h.out; exact hz.cells 5 (by omega)
theorem R4.e (h : R4 w G N y s mo) : Wr w G 6 (.int .i64 y.e) := by obtain ⟨hN, z, hz⟩ := h.out; exact hz.cells 6 (by omega)
theorem R4.v (h : R4 w G N y s mo) : Wr w G 7 (.int .i64 y.v) := by obtain ⟨hN, z, hz⟩ := h.out; exact hz.cells 7 (by omega)
theorem R4.k (h : R4 w G N y s mo) : Wr w G 8 (.int .i64 y.k) := by obtain ⟨hN, z, hz⟩ := h.out; exact hz.cells 8 (by omega)
theorem R4.ahead (h : R4 w G N y s mo) : Wr w G 12 (.bool s.ahead) := by obtain ⟨hN, z, hz⟩ := h.out; exact hz.cells 12 (by omega)
theorem R4.since (h : R4 w G N y s mo) : Wr w G 13 (.int .i64 s.since) := by obtain ⟨hN, z, hz⟩ := h.out; exact hz.cells 13 (by omega)
theorem R4.regs (h : R4 w G N y s mo) : ∃ g c, Wr w G 0 (.slice (some ⟨g, 0, none⟩) 10 c) ∧ RegsR w g s.pl.r ∧ G < g := by
 obtain ⟨hN, z, hz⟩ := h.out
 exact ⟨z.a.rg, z.a.rc, hz.cells 0 (by omega), hz.rest.cur.regs, (hz.rest.lab _ (by rw [hz.rest.cur.lr]; omega)).1⟩

theorem RS.regd (h : RS w G N y s mo z) (hN : N ≤ 384) (r : Nat → Int) (hg : w.grownBy w' (some z.a.rg)) (hr : RegsR w' z.a.rg r) : RS w' G N y { s with pl := { s.pl with r := r } } mo z := by
 have hl := h.rest.cur.lr
 have hG := (h.rest.lab _ (by rw [hl]; omega)).1
 have hb : ∀ K b, some z.a.rg = some b → K = 1000 → ¬ InR K (z.lab b) := fun K b hb hK => by rw [← Option.some.inj hb, hl]; unfold InR; omega
 refine ⟨fun j hj => ?_, Nat.lt_of_lt_of_le h.rest.lt hg.size, fun c hc => ⟨(h.rest.lab c hc).1, Nat.lt_of_lt_of_le (h.rest.lab c hc).2 hg.size⟩, h.rest.cur.regd hN r hg hr, fun ha => ⟨(h.rest.back ha).1.kept hN hg (fun b e => hb 1000 b e rfl), (h.rest.back ha).2⟩, ?_, h.rest.lseen, ?_, fun p hp => ?_⟩
 ·have := (h.cells j hj).kept hg (by simp; omega)
  exact this
 ·refine World.ownsRow.kept h.rest.seen hg ?_
  cases hv : z.sv.ownBlock with
  | none => left; rfl
  | some b => right; intro e; have := h.rest.lseen b hv; rw [Option.some.inj e] at this; omega
 ·exact h.rest.sc.below (Below.grown (Below.refl _ _) hg (Nat.le_of_lt h.rest.lt) (fun b hb => by rw [← Option.some.inj hb]; omega))
 ·obtain ⟨h1, h2, h3⟩ := h.rest.box p hp
  exact ⟨h1, h2, by rw [hg.block p.1 (J14 h3) (fun e => by rw [Option.some.inj e] at h2; omega)]; exact h3⟩
end
theorem PlL.anew {w : World} {lo N K K' : Nat} {lab lab' : Nat → Nat} {q : Pl} {a : PV} (h : PlL w lo N K lab q a) (hN : N ≤ 384) (hl : ∀ b, InR K (lab b) → lab' b + K = lab b + K') : PlL w lo N K' lab' q a :=
 ⟨by have := hl a.rg (by rw [h.lr]; unfold InR; omega); rw [h.lr] at this; omega, h.regs, fun h0 => by have := hl a.wg (by rw [h.lw h0]; unfold InR; omega); rw [h.lw h0] at this; omega, h.wa, h.words, fun h0 => by have := hl a.pg (by rw [h.lp h0]; unfold InR; omega); rw [h.lp h0] at this; omega, h.pa, h.past, h.rows,
  fun j hj b hb => by have := hl b (by rw [h.lrow j hj b hb]; unfold InR; omega); rw [h.lrow j hj b hb] at this; omega, h.cap⟩
theorem PlL.labs2 {w : World} {lo N K : Nat} {lab lab' : Nat → Nat} {q : Pl} {a : PV} (h : PlL w lo N K lab q a) (hN : N ≤ 384) (hl : ∀ b, InR K (lab b) → lab' b = lab b) : PlL w lo N K lab' q a := h.anew hN (fun b hb => by rw [hl b hb])

section
variable {w w' : World} {G N : Nat} {y : Ys} {s : Sp} {mo : List (Nat × Obj)} {z : Zs}

theorem RS.shown (h : RS w G N y s mo z) (hN : N ≤ 384) (l : List Se) (sv' : Value) (own : SeenOwn w' (G + 1) sv' l) (gr : w.grownBy w' z.sv.ownBlock) (hat : ∀ b, sv'.ownBlock = some b → z.sv.ownBlock = some b ∨ w.heap.size ≤ b) :
  RS (w'.setCell ⟨G, 9, none⟩ sv') G N y { s with seen := l } mo { z with sv := sv', lab := fun c => if sv'.ownBlock = some c then 5000 else z.lab c } := by
 have hG := h.rest.lt
 have hl : ∀ c, z.lab c ≠ 0 → z.lab c ≠ 5000 → sv'.ownBlock ≠ some c := fun c h0 h5 e => by
  rcases hat c e with h1 | h1
  ·exact h5 (h.rest.lseen c h1)
  ·have := (h.rest.lab c h0).2; omega
 have hsb : ∀ b, z.sv.ownBlock = some b → G < b := fun b hb => (World.ownsRow.lt h.rest.seen b hb).1
 have hg2 := J0p w' G 9 sv'
 have kp : ∀ K lo q a, K + 1000 ≤ 5000 → PlL w lo N K z.lab q a → PlL (w'.setCell ⟨G, 9, none⟩ sv') lo N K (fun c => if sv'.ownBlock = some c then 5000 else z.lab c) q a := fun K lo q a hK hp => by
  refine PlL.labs2 ((hp.kept hN gr (fun b hb => by rw [h.rest.lseen b hb]; unfold InR; omega)).kept hN hg2 (fun b hb => by rw [(h.rest.own b hb).1]; unfold InR; omega)) hN (fun b hb => ?_)
  rw [if_neg (hl b (by unfold InR at hb; omega) (by unfold InR at hb; omega))]
 have own2 : SeenOwn (w'.setCell ⟨G, 9, none⟩ sv') (G + 1) sv' l := own.kept hg2 (fun b hb => by have := Option.some.inj hb; omega)
 refine ⟨fun j hj => ?_, Nat.lt_of_lt_of_le hG (Nat.le_trans gr.size hg2.size), fun c hc => ?_, kp 0 _ _ _ (by omega) h.rest.cur, fun ha => ⟨kp 1000 _ _ _ (by omega) (h.rest.back ha).1, (h.rest.back ha).2⟩, own2, fun b hb => by dsimp only at hb ⊢; rw [if_pos hb], ?_, fun p hp => ?_⟩
 ·have hc : gV N y { s with seen := l } { z with sv := sv', lab := fun c => if sv'.ownBlock = some c then 5000 else z.lab c } j = if j = 9 then sv' else gV N y s z j := by revert j; exact lt18 rfl rfl rfl rfl rfl rfl rfl rfl rfl rfl rfl rfl rfl rfl rfl rfl rfl rfl
  rw [hc]
  have h1 := (h.cells j hj).kept gr (fun e => by have := hsb G e.symm; omega)
  by_cases e : j = 9
  ·subst e; rw [if_pos rfl]; exact h1.same _
  ·rw [if_neg e]; exact h1.other _ _ _ (by omega)
 ·dsimp only at hc
  split at hc
  ·rename_i e
   have := World.ownsRow.lt own2 c e
   omega
  ·have := h.rest.lab c hc
   exact ⟨this.1, Nat.lt_of_lt_of_le this.2 (Nat.le_trans gr.size hg2.size)⟩
 ·exact (h.rest.sc.below (Below.grown (Below.refl _ _) gr (Nat.le_of_lt hG) (fun b hb => Nat.le_of_lt (hsb b hb)))).below (J0a (Below.refl _ _) _ _)
 ·obtain ⟨h1, h2, h3⟩ := h.rest.box p hp
  have hne : sv'.ownBlock ≠ some p.1 := fun e => by
   rcases hat _ e with h4 | h4
   ·have := h.rest.lseen _ h4; omega
   ·have := J14 h3; omega
  refine ⟨h1, by dsimp only; rw [if_neg hne]; exact h2, ?_⟩
  rw [hg2.block p.1 (Nat.lt_of_lt_of_le (J14 h3) gr.size) (fun e => by have := Option.some.inj e; omega), gr.block p.1 (J14 h3) (fun e => by have := h.rest.lseen _ e.symm; omega)]
  exact h3

theorem RS.part (h : RS w G N y s mo z) (hN : N ≤ 384) {row : Option Nat} (hg : w.grownBy w' row) (hr : ∀ b, row = some b → InR 0 (z.lab b)) (pl' : Pl) (a' : PV) (lab' : Nat → Nat) (hl : ∀ c, z.lab c ≠ 0 → lab' c = z.lab c) (hn : ∀ c, lab' c ≠ 0 → z.lab c ≠ 0 ∨ (w.heap.size ≤ c ∧ c < w'.heap.size))
  (hp : PlL w' (G + 1) N 0 lab' pl' a') (e1 : a'.regs = z.a.regs) (e2 : a'.words N = z.a.words N) (e3 : a'.past N = z.a.past N) (e4 : pl'.at_ = s.pl.at_) : RS w' G N y { s with pl := pl' } mo { z with a := a', lab := lab' } := by
 have hG : ∀ b, row = some b → G < b := fun b hb => (h.rest.lab b (by have := hr b hb; unfold InR at this; omega)).1
 have hlt := h.rest.lt
 refine ⟨fun j hj => ?_, Nat.lt_of_lt_of_le h.rest.lt hg.size, fun c hc => ?_, hp, fun ha => ⟨PlL.labs ((h.rest.back ha).1.kept hN hg (fun b hb => by have := hr b hb; unfold InR at *; omega)) hl, (h.rest.back ha).2⟩, ?_, fun b hb => ?_, ?_, fun p hp => ?_⟩
 ·have hc : gV N y { s with pl := pl' } { z with a := a', lab := lab' } j = gV N y s z j := by revert j; exact lt18 e1 e2 e3 (congrArg (fun n : Nat => Value.int .i64 (n : Int)) e4) rfl rfl rfl rfl rfl rfl rfl rfl rfl rfl rfl rfl rfl rfl
  rw [hc]
  exact (h.cells j hj).kept hg (fun e => by have := hG G e.symm; omega)
 ·rcases hn c hc with h1 | h1
  ·have := h.rest.lab c h1
   exact ⟨this.1, Nat.lt_of_lt_of_le this.2 hg.size⟩
  ·exact ⟨by omega, h1.2⟩
 ·refine World.ownsRow.kept h.rest.seen hg ?_
  cases hv : z.sv.ownBlock with
  | none => left; rfl
  | some b => right; intro e; have := h.rest.lseen b hv; have := hr b e.symm; unfold InR at this; omega
 ·have := h.rest.lseen b hb
  dsimp only
  rw [hl b (by omega)]; exact this
 ·exact h.rest.sc.below (Below.grown (Below.refl _ _) hg (Nat.le_of_lt hlt) (fun b hb => Nat.le_of_lt (hG b hb)))
 ·obtain ⟨h1, h2, h3⟩ := h.rest.box p hp
  refine ⟨h1, ?_, by rw [hg.block p.1 (J14 h3) (fun e => by have := hr p.1 e.symm; unfold InR at this; omega)]; exact h3⟩
  dsimp only
  cases hc : lab' p.1 with
  | zero => rfl
  | succ n =>
   rcases hn p.1 (by rw [hc]; omega) with h4 | h4
   ·exact absurd h2 h4
   ·have := J14 h3; omega

theorem RS.setReg (h : RS w G N y s mo z) (hN : N ≤ 384) (k v : Int) : RS (w.setCell ⟨z.a.rg, k.toNat, none⟩ (.int .i64 v)) G N y (s.reg k v) mo z :=
 h.part hN (J0p w _ _ _) (fun b hb => by rw [← Option.some.inj hb, h.rest.cur.lr]; unfold InR; omega) _ z.a z.lab (fun _ _ => rfl) (fun c hc => .inl hc) (h.rest.cur.reg hN k v) rfl rfl rfl rfl
theorem RS.setWord (h : RS w G N y s mo z) (hN : N ≤ 384) (n : Nat) (hn : n < N) (v : Int) : RS (w.setCell ⟨z.a.wg, n, none⟩ (.int .i64 v)) G N y { s with pl := { s.pl with wd := setF s.pl.wd n v } } mo z :=
 h.part hN (J0p w _ _ _) (fun b hb => by rw [← Option.some.inj hb, h.rest.cur.lw (by omega)]; unfold InR; omega) _ z.a z.lab (fun _ _ => rfl) (fun c hc => .inl hc) (h.rest.cur.word hN n hn v) rfl rfl rfl rfl
theorem RS.pushed (h : RS w G N y s mo z) (hN : N ≤ 384) (n : Nat) (hn : n < N) (x : Int) (v : Value) (hg : w.grownBy w' (z.a.P n).ownBlock) (own : w'.ownsRow (G + 1) 2 1 v ((s.pl.past n).length + 1) (ints (s.pl.past n) ++ [.int .i64 x]))
  (hat : ∀ b, v.ownBlock = some b → (z.a.P n).ownBlock = some b ∨ w.heap.size ≤ b) :
  ∃ z', RS (w'.setCell ⟨z.a.pg, n, none⟩ v) G N y { s with pl := { s.pl with past := setF s.pl.past n (s.pl.past n ++ [x]) } } mo z' ∧ z'.a.rg = z.a.rg ∧ z'.a.wg = z.a.wg := by
 have lrow := h.rest.cur.lrow n hn
 have hg2 := J0p w' z.a.pg n v
 have lp := h.rest.cur.lp (by omega)
 have hpg := h.rest.lab z.a.pg (by rw [lp]; omega)
 have hl : ∀ c, z.lab c ≠ 0 → (if v.ownBlock = some c then 10 + n else z.lab c) = z.lab c := fun c hc => by
  split
  ·rename_i e
   rcases hat c e with h1 | h1
   ·have := lrow c h1; omega
   ·have := (h.rest.lab c hc).2; omega
  ·rfl
 have hp := h.rest.cur.push hN n hn x v hg own (lab' := fun c => if v.ownBlock = some c then 10 + n else z.lab c) hl (fun b hb => by rw [if_pos hb]; try omega)
 have hn' : ∀ c, (if v.ownBlock = some c then 10 + n else z.lab c) ≠ 0 → z.lab c ≠ 0 ∨ (w.heap.size ≤ c ∧ c < (w'.setCell ⟨z.a.pg, n, none⟩ v).heap.size) := fun c hc => by
  split at hc
  ·rename_i e
   rcases hat c e with h1 | h1
   ·left; have := lrow c h1; omega
   ·right; refine ⟨h1, Nat.lt_of_lt_of_le (World.ownsRow.lt own c e).2 hg2.size⟩
  ·exact .inl hc
 refine ⟨{ z with a := { z.a with P := setF z.a.P n v }, lab := fun c => if v.ownBlock = some c then 10 + n else z.lab c }, ?_, rfl, rfl⟩
 have gg : ∀ b, b < w.heap.size → some b ≠ (z.a.P n).ownBlock → b ≠ z.a.pg → (w'.setCell ⟨z.a.pg, n, none⟩ v).heap[b]? = w.heap[b]? := fun b hb h1 h2 => by
  rw [hg2.block b (Nat.lt_of_lt_of_le hb hg.size) (fun e => h2 (Option.some.inj e)), hg.block b hb h1]
 have hrb : ∀ b, (z.a.P n).ownBlock = some b → G < b := fun b hb => (h.rest.lab b (by rw [lrow b hb]; omega)).1
 have kp : ∀ lo q a, PlL w lo N 1000 z.lab q a → PlL (w'.setCell ⟨z.a.pg, n, none⟩ v) lo N 1000 (fun c => if v.ownBlock = some c then 10 + n else z.lab c) q a := fun lo q a hp =>
  PlL.labs ((hp.kept hN hg (fun b hb => by rw [lrow b hb]; unfold InR; omega)).kept hN hg2 (fun b hb => by rw [← Option.some.inj hb, lp]; unfold InR; omega)) hl
 refine ⟨fun j hj => ?_, Nat.lt_of_lt_of_le h.rest.lt (Nat.le_trans hg.size hg2.size), fun c hc => ?_, hp, fun ha => ⟨kp _ _ _ (h.rest.back ha).1, (h.rest.back ha).2⟩, ?_, fun b hb => ?_, ?_, fun p hp => ?_⟩
 ·have hc : ∀ j, j < 18 → gV N y { s with pl := { s.pl with past := setF s.pl.past n (s.pl.past n ++ [x]) } } { z with a := { z.a with P := setF z.a.P n v }, lab := fun c => if v.ownBlock = some c then 10 + n else z.lab c } j = gV N y s z j := by exact lt18 rfl rfl rfl rfl rfl rfl rfl rfl rfl rfl rfl rfl rfl rfl rfl rfl rfl rfl
  rw [hc j hj]
  exact ((h.cells j hj).kept hg (fun e => by have := hrb G e.symm; omega)).kept hg2 (fun e => by have := Option.some.inj e; omega)
 ·rcases hn' c hc with h1 | h1
  ·have := h.rest.lab c h1
   exact ⟨this.1, Nat.lt_of_lt_of_le this.2 (Nat.le_trans hg.size hg2.size)⟩
  ·have := h.rest.lt
   exact ⟨by omega, h1.2⟩
 ·refine World.ownsRow.kept (World.ownsRow.kept h.rest.seen hg ?_) hg2 ?_
  ·cases hv : z.sv.ownBlock with
   | none => left; rfl
   | some b => right; intro e; have := h.rest.lseen b hv; have := lrow b e.symm; omega
  ·cases hv : z.sv.ownBlock with
   | none => left; rfl
   | some b => right; intro e; have := h.rest.lseen b hv; rw [Option.some.inj e] at this; omega
 ·have := h.rest.lseen b hb
  dsimp only
  rw [hl b (by omega)]; exact this
 ·exact (h.rest.sc.below (Below.grown (Below.refl _ _) hg (Nat.le_of_lt h.rest.lt) (fun b hb => Nat.le_of_lt (hrb b hb)))).below (Below.grown (Below.refl _ _) hg2 (Nat.le_trans (Nat.le_of_lt h.rest.lt) hg.size) (fun b hb => by have := Option.some.inj hb; omega))
 ·obtain ⟨h1, h2, h3⟩ := h.rest.box p hp
  refine ⟨h1, ?_, ?_⟩
  ·dsimp only
   rw [if_neg (fun e => ?_)]
   ·exact h2
   ·rcases hat _ e with h4 | h4
    ·have := lrow _ h4; omega
    ·have := J14 h3; omega
  ·rw [gg p.1 (J14 h3) (fun e => by have := lrow _ e.symm; omega) (fun e => by rw [e] at h2; omega)]
   exact h3

theorem RS.left {w1 w2 : World} (h : RS w G N y s mo z) (hN : N ≤ 384) (ha : s.ahead = false) (h1 : w1 = (w.setCell ⟨G, 12, none⟩ (.bool true)).setCell ⟨G, 13, none⟩ (.int .i64 (-1))) (m : More w1 w2) (lab' : Nat → Nat) (a' : PV) (hl : ∀ c, lab' c ≠ 0 → w1.heap.size ≤ c ∧ c < w2.heap.size) (hp : PlL w2 w1.heap.size N 1000 lab' s.pl a') :
  ∃ z', RS ((((w2.setCell ⟨G, 14, none⟩ a'.regs).setCell ⟨G, 15, none⟩ (a'.words N)).setCell ⟨G, 16, none⟩ (a'.past N)).setCell ⟨G, 17, none⟩ (.int .i64 s.pl.at_)) G N y s.leave mo z' := by
 subst h1
 have e : s.leave = { s with ahead := true, since := -1, back := s.pl } := by unfold Sp.leave; rw [if_neg (by rw [ha]; decide)]
 rw [e]
 have hs0 : ((w.setCell ⟨G, 12, none⟩ (.bool true)).setCell ⟨G, 13, none⟩ (.int .i64 (-1))).heap.size = w.heap.size := by simp
 rw [hs0] at hl hp
 have hG := h.rest.lt
 have own0 := h.rest.own
 have r1 := (h.rest.kept hN (J0p w G 12 (.bool true)) own0).kept hN (J0p _ G 13 (.int .i64 (-1))) own0
 have r2 := r1.kept hN (m.grow none) (fun b hb => by cases hb)
 have g4 := J10 (J10 (J10 (J10 (J0n w2 (some G)) 14 a'.regs) 15 (a'.words N)) 16 (a'.past N)) 17 (.int .i64 s.pl.at_)
 have r3 := r2.kept hN g4 own0
 have hlG : lab' G = 0 := by
  cases hc : lab' G with
  | zero => rfl
  | succ n => have := (hl G (by rw [hc]; omega)).1; omega
 have p3 := hp.kept hN g4 (fun b hb => by rw [← Option.some.inj hb, hlG]; unfold InR; omega)
 have hz : ∀ c, z.lab c ≠ 0 → c < w.heap.size := fun c hc => (h.rest.lab c hc).2
 refine ⟨{ z with b0 := a'.regs, b1 := a'.words N, b2 := a'.past N, b3 := .int .i64 s.pl.at_, b := a', lab := fun c => if c < w.heap.size then z.lab c else lab' c }, fun j hj => ?_, r3.lt, fun c hc => ?_, ?_, fun _ => ⟨?_, rfl, rfl, rfl, rfl⟩, r3.seen, fun b hb => ?_, r3.sc, fun p hp => ?_⟩
 ·have hk : ∀ j v, Wr w G j v → j ≠ 12 → j ≠ 13 → j < 14 → Wr ((((w2.setCell ⟨G, 14, none⟩ a'.regs).setCell ⟨G, 15, none⟩ (a'.words N)).setCell ⟨G, 16, none⟩ (a'.past N)).setCell ⟨G, 17, none⟩ (.int .i64 s.pl.at_)) G j v := fun j v hv n1 n2 n3 =>
   ((((((hv.other _ _ _ (by omega)).other _ _ _ (by omega)).kept (m.grow none) (by simp)).other _ _ _ (by omega)).other _ _ _ (by omega)).other _ _ _ (by omega)).other _ _ _ (by omega)
  have hb : ∀ j v, Wr w G j v → 14 ≤ j → Wr w2 G j v := fun j v hv n => (((hv.other _ _ _ (by omega)).other _ _ _ (by omega)).kept (m.grow none) (by simp))
  revert j
  refine lt18 ?_ ?_ ?_ ?_ ?_ ?_ ?_ ?_ ?_ ?_ ?_ ?_ ?_ ?_ ?_ ?_ ?_ ?_
  ·exact hk 0 _ (h.cells 0 (by omega)) (by omega) (by omega) (by omega)
  ·exact hk 1 _ (h.cells 1 (by omega)) (by omega) (by omega) (by omega)
  ·exact hk 2 _ (h.cells 2 (by omega)) (by omega) (by omega) (by omega)
  ·exact hk 3 _ (h.cells 3 (by omega)) (by omega) (by omega) (by omega)
  ·exact hk 4 _ (h.cells 4 (by omega)) (by omega) (by omega) (by omega)
  ·exact hk 5 _ (h.cells 5 (by omega)) (by omega) (by omega) (by omega)
  ·exact hk 6 _ (h.cells 6 (by omega)) (by omega) (by omega) (by omega)
  ·exact hk 7 _ (h.cells 7 (by omega)) (by omega) (by omega) (by omega)
  ·exact hk 8 _ (h.cells 8 (by omega)) (by omega) (by omega) (by omega)
  ·exact hk 9 _ (h.cells 9 (by omega)) (by omega) (by omega) (by omega)
  ·exact hk 10 _ (h.cells 10 (by omega)) (by omega) (by omega) (by omega)
  ·exact hk 11 _ (h.cells 11 (by omega)) (by omega) (by omega) (by omega)
  ·exact (((((((h.cells 12 (by omega)).same _).other _ _ _ (by omega)).kept (m.grow none) (by simp)).other _ _ _ (by omega)).other _ _ _ (by omega)).other _ _ _ (by omega)).other _ _ _ (by omega)
  ·exact (((((((h.cells 13 (by omega)).other _ _ _ (by omega)).same _).kept (m.grow none) (by simp)).other _ _ _ (by omega)).other _ _ _ (by omega)).other _ _ _ (by omega)).other _ _ _ (by omega)
  ·exact ((((hb 14 _ (h.cells 14 (by omega)) (by omega)).same _).other _ _ _ (by omega)).other _ _ _ (by omega)).other _ _ _ (by omega)
  ·exact ((((hb 15 _ (h.cells 15 (by omega)) (by omega)).other _ _ _ (by omega)).same _).other _ _ _ (by omega)).other _ _ _ (by omega)
  ·exact ((((hb 16 _ (h.cells 16 (by omega)) (by omega)).other _ _ _ (by omega)).other _ _ _ (by omega)).same _).other _ _ _ (by omega)
  ·exact ((((hb 17 _ (h.cells 17 (by omega)) (by omega)).other _ _ _ (by omega)).other _ _ _ (by omega)).other _ _ _ (by omega)).same _
 ·dsimp only at hc
  split at hc
  ·exact r3.lab c hc
  ·have := hl c hc
   have h4 := g4.size
   exact ⟨by omega, by omega⟩
 ·exact PlL.labs r3.cur (fun c hc => by dsimp only; rw [if_pos (hz c hc)])
 ·exact PlL.base (PlL.labs p3 (fun c hc => by dsimp only; rw [if_neg (by have := (hl c hc).1; omega)])) (by omega)
 ·have := h.rest.lseen b hb
  dsimp only
  rw [if_pos (hz b (by omega))]; exact this
 ·have h3 := r3.box p hp
  refine ⟨h3.1, ?_, h3.2.2⟩
  dsimp only
  rw [if_pos (J14 (h.rest.box p hp).2.2)]
  exact h3.2.1

theorem RS.come (h : RS w G N y s mo z) (hN : N ≤ 384) (ha : s.ahead = true) :
  ∃ z', RS (((((w.setCell ⟨G, 12, none⟩ (.bool false)).setCell ⟨G, 0, none⟩ z.b0).setCell ⟨G, 1, none⟩ z.b1).setCell ⟨G, 2, none⟩ z.b2).setCell ⟨G, 3, none⟩ z.b3) G N y { s with ahead := false, pl := s.back } mo z' := by
 have own0 := h.rest.own
 obtain ⟨hb, e0, e1, e2, e3⟩ := h.rest.back ha
 have g5 := J10 (J10 (J10 (J10 (J10 (J0n w (some G)) 12 (.bool false)) 0 z.b0) 1 z.b1) 2 z.b2) 3 z.b3
 have r := h.rest.kept hN g5 own0
 have hb' := (r.back ha).1
 refine ⟨{ z with a := z.b, lab := fun c => if z.lab c < 1000 then 0 else if z.lab c < 2000 then z.lab c - 1000 else z.lab c }, fun j hj => ?_, r.lt, fun c hc => r.lab c (fun e => hc (by dsimp only; rw [e]; rfl)), PlL.anew hb' hN (fun b hb => ?_), fun h => absurd h (by simp), r.seen, fun b hb => ?_, r.sc, fun p hp => ⟨(r.box p hp).1, by dsimp only; rw [(r.box p hp).2.1]; rfl, (r.box p hp).2.2⟩⟩
 ·have hk : ∀ j v, Wr w G j v → j ≠ 12 → 4 ≤ j → Wr (((((w.setCell ⟨G, 12, none⟩ (.bool false)).setCell ⟨G, 0, none⟩ z.b0).setCell ⟨G, 1, none⟩ z.b1).setCell ⟨G, 2, none⟩ z.b2).setCell ⟨G, 3, none⟩ z.b3) G j v := fun j v hv n1 n2 =>
   ((((hv.other _ _ _ (by omega)).other _ _ _ (by omega)).other _ _ _ (by omega)).other _ _ _ (by omega)).other _ _ _ (by omega)
  revert j
  refine lt18 ?_ ?_ ?_ ?_ ?_ ?_ ?_ ?_ ?_ ?_ ?_ ?_ ?_ ?_ ?_ ?_ ?_ ?_
  ·have := (((((h.cells 0 (by omega)).other G 12 (.bool false) (by omega)).same z.b0).other G 1 z.b1 (by omega)).other G 2 z.b2 (by omega)).other G 3 z.b3 (by omega)
   exact (congrArg _ e0).mp this
  ·have := (((((h.cells 1 (by omega)).other G 12 (.bool false) (by omega)).other G 0 z.b0 (by omega)).same z.b1).other G 2 z.b2 (by omega)).other G 3 z.b3 (by omega)
   exact (congrArg _ e1).mp this
  ·have := (((((h.cells 2 (by omega)).other G 12 (.bool false) (by omega)).other G 0 z.b0 (by omega)).other G 1 z.b1 (by omega)).same z.b2).other G 3 z.b3 (by omega)
   exact (congrArg _ e2).mp this
  ·have := (((((h.cells 3 (by omega)).other G 12 (.bool false) (by omega)).other G 0 z.b0 (by omega)).other G 1 z.b1 (by omega)).other G 2 z.b2 (by omega)).same z.b3
   exact (congrArg _ e3).mp this
  ·exact hk 4 _ (h.cells 4 (by omega)) (by omega) (by omega)
  ·exact hk 5 _ (h.cells 5 (by omega)) (by omega) (by omega)
  ·exact hk 6 _ (h.cells 6 (by omega)) (by omega) (by omega)
  ·exact hk 7 _ (h.cells 7 (by omega)) (by omega) (by omega)
  ·exact hk 8 _ (h.cells 8 (by omega)) (by omega) (by omega)
  ·exact hk 9 _ (h.cells 9 (by omega)) (by omega) (by omega)
  ·exact hk 10 _ (h.cells 10 (by omega)) (by omega) (by omega)
  ·exact hk 11 _ (h.cells 11 (by omega)) (by omega) (by omega)
  ·exact (((((h.cells 12 (by omega)).same (.bool false)).other G 0 z.b0 (by omega)).other G 1 z.b1 (by omega)).other G 2 z.b2 (by omega)).other G 3 z.b3 (by omega)
  ·exact hk 13 _ (h.cells 13 (by omega)) (by omega) (by omega)
  ·exact hk 14 _ (h.cells 14 (by omega)) (by omega) (by omega)
  ·exact hk 15 _ (h.cells 15 (by omega)) (by omega) (by omega)
  ·exact hk 16 _ (h.cells 16 (by omega)) (by omega) (by omega)
  ·exact hk 17 _ (h.cells 17 (by omega)) (by omega) (by omega)
 ·unfold InR at hb
  dsimp only
  rw [if_neg (by omega), if_pos (by omega)]
  omega
 ·have := h.rest.lseen b hb
  dsimp only
  rw [this]; rfl
end
end
end Go.Proofs.Ytmpafeoileonjaa
