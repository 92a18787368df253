/-
  The texts DrPlay, DrRead, DrMem, DrTakes, DrFill, DrIns, DrReg, HdClone, HdMake, DrHard, ScriptD, Mach, Meth, one behind the other, with what is used of them.
-/
import Derived.Test.YtephohhigbfafaaGreatDoorJoined5
import Derived.Test.YtephohhigbfafaaGreatDoorJoined2
import Derived.Deep.AppendLies
import Derived.Test.YtephohhigbfafaaGreatDoorJoined1
import Derived.Test.YtephohhigbfafaaGreatDoorProg
import Derived.Lib.SliceRun
import Derived.Test.YtephohhigbfafaaGreatDoorJoined3
import Derived.Test.YtephohhigbfafaaGreatDoorJoined0
import Derived.WalkKit
import Derived.Deep.LoopGhost
import Derived.Test.YtephohhigbfafaaGreatDoorRows
import Derived.Deep.OwnRows
namespace Go.Proofs.YtephohhigbfafaaGreatDoor
section
open Go.RowKit
set_option linter.unusedSimpArgs false
set_option linter.unusedVariables false
set_option maxRecDepth 8000
theorem J4e (p : Prg) : (hardC p).length = J0c p p.cl := by simp [hardC]
theorem Jjw (p : Prg) {i : Nat} (h : i < J0c p p.cl) : (hardC p)[i]? = some (hardL p i) := by simp [hardC, h]
theorem Jm7 {p : Prg} {l : KV} : ∀ (n a : Nat), 0 ≤ (scanK p l n a).2 ∧ (scanK p l n a).2 ≤ (a : Int) + n
 | 0, a => by rw [scanK]; exact ⟨by decide, by dsimp only; omega⟩
 | n + 1, a => by
  have h := Jm7 (p := p) (l := l) n (a + 1)
  rw [scanK]
  cases l a with
  | none => dsimp only; omega
  | some s =>
   dsimp only
   split
   ·omega
   ·dsimp only; omega
theorem Told.b64 {p : Prg} {f : Int × Int} (h : Told p f) (hc : p.cl ≤ 600) : B64 f.1 ∧ B64 f.2 := by
 rcases h with ⟨_, rfl⟩ | ⟨_, l, _, rfl⟩
 ·exact ⟨by unfold B64; decide, by unfold B64; decide⟩
 ·have h1 := J84 (p := p) (l := l) p.cl 0
  have h2 := Jm7 (p := p) (l := l) p.cl 0
  unfold B64 J1c
  omega
theorem Jkt {l row : List Int} {n : Int} (h : n ∈ over l row) : n ∈ l ∨ n ∈ row := by
 unfold over at h
 rcases List.mem_append.1 h with h | h
 ·exact .inl h
 ·exact .inr (List.mem_of_mem_drop h)
theorem J5g {l row : List Int} (h : l.length ≤ row.length) : (over l row).length = row.length := by simp [over]; omega
theorem WordTo.wf {h : List UInt8} {L : List Int} {x y : Sta} {a : List UInt8} (k : WordTo h L x y a) (hL : ∀ n ∈ L, -999999 ≤ n ∧ n ≤ 999999) (w : Wf x) : Wf y := by
 have no : No x y a → Wf y := fun k => by rw [k.1]; exact w
 rcases k.cases with ⟨rfl, q⟩ | ⟨rfl, q⟩ | ⟨rfl, q⟩ | ⟨rfl, q⟩ | ⟨rfl, q⟩ | ⟨rfl, q⟩ | ⟨rfl, q⟩ | ⟨rfl, q⟩ | ⟨rfl, q⟩ | ⟨rfl, q⟩ | ⟨n, q⟩
 ·rcases q with ⟨u, v, rfl, r, c⟩ | ⟨n, q⟩
  ·rcases r with ⟨_, r1, r2, _⟩ | ⟨m, r1, r2, _⟩
   ·rw [show y = x from Jm8 r1 c r2]; exact w
   ·obtain ⟨u0, u6, v0, v1, r6⟩ := m
    obtain ⟨yr, yc, ym⟩ := y
    cases r1; cases r2; cases c
    have hk : u.toNat = 0 ∨ u.toNat = 1 ∨ u.toNat = 2 ∨ u.toNat = 3 ∨ u.toNat = 4 ∨ u.toNat = 5 ∨ u.toNat = 6 := by omega
    refine ⟨by simp; omega, by simp [w.ml], fun r hr => ?_, fun l hl => ?_, fun l hl n hn => ?_, w.cl, w.ins⟩
    ·rcases List.mem_append.1 hr with hr | hr
     ·exact w.log r hr
     ·simp at hr; subst hr; exact ⟨u0, u6⟩
    ·rcases List.mem_append.1 hl with hl | hl
     ·exact w.len l hl
     ·simp at hl; subst hl
      rw [List.length_replicate]
      rcases hk with e | e | e | e | e | e | e <;> rw [e] <;> decide
    ·rcases List.mem_append.1 hl with hl | hl
     ·exact w.wd l hl n hn
     ·simp at hl; subst hl
      rw [(List.mem_replicate.1 hn).2]
      exact J1b
  ·exact no q
 ·rcases q with ⟨r, l, rfl, t, c, rfl, _⟩ | ⟨n, q⟩
  ·have hr : r.toNat < x.ms.length := by have := t.1; have := t.2; omega
   have hrow := J2k x.ms r.toNat [] hr
   refine ⟨w.rl, by simp [w.ml], w.log, fun l' hl => ?_, fun l' hl n hn => ?_, w.cl, w.ins⟩
   ·rcases List.mem_or_eq_of_mem_set hl with hl | rfl
    ·exact w.len l' hl
    ·rw [J5g c]; exact w.len _ hrow
   ·rcases List.mem_or_eq_of_mem_set hl with hl | rfl
    ·exact w.wd l' hl n hn
    ·rcases Jkt hn with hn | hn
     ·exact b6 (hL n (by simp [hn]))
     ·exact w.wd _ hrow n hn
  ·exact no q
 ·rcases q with ⟨r, rfl, t, rfl, _⟩ | ⟨n, q⟩
  ·exact w
  ·exact no q
 ·rcases q with ⟨o, u, v, t, n, rfl, c, rfl, _⟩ | ⟨n, q⟩
  ·refine ⟨w.rl, w.ml, w.log, w.len, w.wd, by simp; omega, fun i hi => ?_⟩
   rcases List.mem_append.1 hi with hi | hi
   ·exact w.ins i hi
   ·simp at hi; subst hi
    exact ⟨b6 (hL o (by simp)), b6 (hL u (by simp)), b6 (hL v (by simp)), b6 (hL t (by simp)), b6 (hL n (by simp))⟩
  ·exact no q
 ·rcases q with ⟨f, _, rfl, _⟩ | ⟨n, q⟩
  ·exact w
  ·exact no q
 ·rcases q with ⟨f, l, _, rfl, _⟩ | ⟨n, q⟩
  ·exact w
  ·exact no q
 ·rcases q with ⟨_, rfl, _⟩ | ⟨n, q⟩
  ·exact w
  ·exact no q
 ·rcases q with ⟨_, f, t, rfl, _⟩ | ⟨n, q⟩
  ·by_cases h0 : f.1 = 0
   ·rw [if_pos h0]
    have ok := (t.ok h0).1
    have hf := Jhj (J5w x.prg) ok w.fit
    have hm := J2u x.prg x.prg.cl
    refine ⟨w.rl, w.ml, w.log, w.len, w.wd, ?_, fun i hi => ?_⟩
    ·have := ok.2.2.1
     show (hardC x.prg).length ≤ 600
     rw [J4e]
     omega
    ·obtain ⟨j, hj, rfl⟩ := List.mem_map.1 hi
     exact hf.fit.ins j (List.mem_range.1 hj)
   ·rw [if_neg h0]; exact w
  ·exact no q
 ·rcases q with ⟨_, rfl, _⟩ | ⟨n, q⟩
  ·exact w
  ·exact no q
 ·rcases q with ⟨_, rfl, _⟩ | ⟨n, q⟩
  ·exact w
  ·exact no q
 ·exact no q
theorem SLineTo.wf {x y : Sta} {l a : List UInt8} (h : SLineTo x l y a) (w : Wf x) : Wf y := by
 obtain ⟨k, fs, _, ⟨L, n, h⟩ | ⟨_, h⟩⟩ := h
 ·exact h.wf n.2 w
 ·rw [h.1]; exact w

theorem J2p (s : List UInt8) (l : List Int) (n k : Nat) (hs : s.length ≤ n) (hl : l.length ≤ k) : (ansL s l).length ≤ n + 22 * k := by
 have := J30 l
 rw [ansL, List.length_append]
 omega
theorem J7z (c f v s : Int) (n : Nat) : (ranL c f v s n).length ≤ 2000 := by
 unfold ranL
 split
 ·have := J2p (endW f) [v, s, n] 5 3 (by unfold endW; split <;> decide) (by simp)
  omega
 ·have := J2p badW [c] 3 1 (by decide) (by simp)
  omega
theorem J5a (f : Int × Int) (a : List UInt8) (h : a.length ≤ 2000) : (fauL f a).length ≤ 2000 := by
 unfold fauL
 split
 ·exact h
 ·have := J2p badW [f.1, f.2] 3 2 (by decide) (by simp)
  omega
theorem WordTo.short {h : List UInt8} {L : List Int} {x y : Sta} {a : List UInt8} (k : WordTo h L x y a) (w : Wf x) : a.length ≤ 2000 := by
 have no : No x y a → a.length ≤ 2000 := fun k => by rw [k.2]; decide
 have ok1 : ∀ n : Int, (ansL okW [n]).length ≤ 2000 := fun n => by
  have := J2p okW [n] 2 1 (by decide) (by simp)
  omega
 rcases k.cases with ⟨rfl, q⟩ | ⟨rfl, q⟩ | ⟨rfl, q⟩ | ⟨rfl, q⟩ | ⟨rfl, q⟩ | ⟨rfl, q⟩ | ⟨rfl, q⟩ | ⟨rfl, q⟩ | ⟨rfl, q⟩ | ⟨rfl, q⟩ | ⟨n, q⟩
 ·rcases q with ⟨u, v, rfl, r, c⟩ | ⟨n, q⟩
  ·rcases r with ⟨_, _, _, rfl⟩ | ⟨_, _, _, rfl⟩
   ·decide
   ·exact ok1 _
  ·exact no q
 ·rcases q with ⟨r, l, _, t, c, _, rfl⟩ | ⟨n, q⟩
  ·decide
  ·exact no q
 ·rcases q with ⟨r, _, t, _, rfl⟩ | ⟨n, q⟩
  ·have hr : r.toNat < x.ms.length := by have := t.1; have := t.2; omega
   have := J2p isW _ 2 64 (by decide) (w.len _ (J2k x.ms r.toNat [] hr))
   omega
  ·exact no q
 ·rcases q with ⟨o, u, v, t, n, _, c, _, rfl⟩ | ⟨n, q⟩
  ·exact ok1 _
  ·exact no q
 ·rcases q with ⟨f, _, _, c, _, rfl⟩ | ⟨n, q⟩
  ·exact J7z _ _ _ _ _
  ·exact no q
 ·rcases q with ⟨f, l, _, _, c, _, rfl⟩ | ⟨n, q⟩
  ·exact J7z _ _ _ _ _
  ·exact no q
 ·rcases q with ⟨_, _, f, _, rfl⟩ | ⟨n, q⟩
  ·exact J5a _ _ (by decide)
  ·exact no q
 ·rcases q with ⟨_, f, _, _, rfl⟩ | ⟨n, q⟩
  ·exact J5a _ _ (ok1 _)
  ·exact no q
 ·rcases q with ⟨_, _, ⟨_, rfl⟩ | ⟨_, rfl⟩⟩ | ⟨n, q⟩
  ·exact ok1 _
  ·decide
  ·exact no q
 ·rcases q with ⟨_, _, f, _, rfl⟩ | ⟨n, q⟩
  ·exact J5a _ _ (ok1 _)
  ·exact no q
 ·exact no q
theorem SLineTo.short {x y : Sta} {l a : List UInt8} (h : SLineTo x l y a) (w : Wf x) : a.length ≤ 2000 := by
 obtain ⟨k, fs, _, ⟨L, n, h⟩ | ⟨_, h⟩⟩ := h
 ·exact h.short w
 ·rw [h.2]; decide

theorem Jlf {p : Prg} {m : Mem} {L L' : List Int} {f c : Int} (h : Wr1 p m L f c) (n : ¬ ScOk L) (n' : ¬ ScOk L') : Wr1 p m L' f c ∧ ¬ c = 0 := by
 rcases h with ⟨a, rfl⟩ | ⟨a, b, rfl⟩ | ⟨a, b, e, rfl⟩
 ·exact ⟨.inl ⟨a, rfl⟩, by decide⟩
 ·exact ⟨.inr (.inl ⟨a, .inr n', rfl⟩), by decide⟩
 ·exact absurd e n
theorem WordTo.long {h : List UInt8} {L : List Int} {x y : Sta} {a : List UInt8} (k : WordTo h (L.take 2002) x y a) (w : Wf x) (hL : 2002 < L.length) : WordTo h L x y a := by
 have hl : (L.take 2002).length = 2002 := by simp; omega
 have hne : ¬ L.take 2002 = [] := fun e => by rw [e] at hl; simp at hl
 have hn0 : ¬ L = [] := fun e => by rw [e] at hL; simp at hL
 rcases k.cases with ⟨rfl, q⟩ | ⟨rfl, q⟩ | ⟨rfl, q⟩ | ⟨rfl, q⟩ | ⟨rfl, q⟩ | ⟨rfl, q⟩ | ⟨rfl, q⟩ | ⟨rfl, q⟩ | ⟨rfl, q⟩ | ⟨rfl, q⟩ | ⟨n, q⟩
 ·rcases q with ⟨u, v, e, r, c⟩ | ⟨n, q⟩
  ·rw [e] at hl; simp at hl
  ·exact J82 (.inr ⟨by omega, q⟩)
 ·rcases q with ⟨r, l, e, t, c, _, _⟩ | ⟨n, q⟩
  ·have hr : r.toNat < x.ms.length := by have := t.1; have := t.2; omega
   have h64 := w.len _ (J2k x.ms r.toNat [] hr)
   rw [e] at hl; simp at hl
   omega
  ·refine Jcn (.inr ⟨fun ⟨r, l, e, t, c⟩ => ?_, q⟩)
   have hr : r.toNat < x.ms.length := by have := t.1; have := t.2; omega
   have h64 := w.len _ (J2k x.ms r.toNat [] hr)
   rw [e] at hL; simp at hL
   omega
 ·rcases q with ⟨r, e, _⟩ | ⟨n, q⟩
  ·rw [e] at hl; simp at hl
  ·exact Jd8 (.inr ⟨fun ⟨r, e, _⟩ => by rw [e] at hL; simp at hL, q⟩)
 ·rcases q with ⟨o, u, v, t, n, e, _⟩ | ⟨n, q⟩
  ·rw [e] at hl; simp at hl
  ·exact Jho (.inr ⟨fun e => by have := e.1; omega, q⟩)
 ·rcases q with ⟨f, e, _⟩ | ⟨n, q⟩
  ·rw [e] at hl; simp at hl
  ·exact Jij (.inr ⟨by omega, q⟩)
 ·rcases q with ⟨f, l, e, rfl, c, hw, rfl⟩ | ⟨e, q⟩
  ·obtain ⟨g, r, rfl⟩ : ∃ g r, L = g :: r := by
    cases L with
    | nil => exact absurd rfl hn0
    | cons g r => exact ⟨g, r, rfl⟩
   have e' : f = g ∧ l = r.take 2001 := by
    simp only [List.take_succ_cons, List.cons.injEq] at e
    exact ⟨e.1.symm, e.2.symm⟩
   obtain ⟨rfl, rfl⟩ := e'
   have hr : 2001 < r.length := by simp at hL; omega
   obtain ⟨h1, h2⟩ := Jlf (L' := r) hw (fun s => by have := s.1; simp at this; omega) (fun s => by have := s.1; omega)
   exact J9l (.inl ⟨f, r, rfl, rfl, c, h1, by simp [ranL, h2]⟩)
  ·exact absurd e hne
 ·rcases q with ⟨e, _⟩ | ⟨n, q⟩
  ·exact absurd e hne
  ·exact J9p (.inr ⟨hn0, q⟩)
 ·rcases q with ⟨e, _⟩ | ⟨n, q⟩
  ·exact absurd e hne
  ·exact Jcs (.inr ⟨hn0, q⟩)
 ·rcases q with ⟨e, _⟩ | ⟨n, q⟩
  ·exact absurd e hne
  ·exact Je0 (.inr ⟨hn0, q⟩)
 ·rcases q with ⟨e, _⟩ | ⟨n, q⟩
  ·exact absurd e hne
  ·exact Jd7 (.inr ⟨hn0, q⟩)
 ·exact Jaa n q

def PlayTo : Sta → List (List UInt8) → Sta → List UInt8 → Prop
 | x, [], y, a => y = x ∧ a = []
 | x, l :: ls, y, a => ∃ z b c, SLineTo x l z b ∧ PlayTo z ls y c ∧ a = b ++ 10 :: c
theorem PlayTo.one : ∀ {ls : List (List UInt8)} {x y y' : Sta} {a a' : List UInt8}, PlayTo x ls y a → PlayTo x ls y' a' → y = y' ∧ a = a'
 | [], _, _, _, _, _, h, k => ⟨h.1.trans k.1.symm, h.2.trans k.2.symm⟩
 | l :: ls, _, _, _, _, _, ⟨z, b, c, h1, h2, h3⟩, ⟨z', b', c', k1, k2, k3⟩ => by
  obtain ⟨rfl, rfl⟩ := h1.one k1
  obtain ⟨rfl, rfl⟩ := h2.one k2
  exact ⟨rfl, h3.trans k3.symm⟩
theorem PlayTo.snoc : ∀ {ls : List (List UInt8)} {x y z : Sta} {l a b : List UInt8}, PlayTo x ls y a → SLineTo y l z b → PlayTo x (ls ++ [l]) z (a ++ (b ++ [10]))
 | [], x, y, z, l, a, b, h, k => by
  obtain ⟨rfl, rfl⟩ := h
  exact ⟨z, b, [], k, ⟨rfl, rfl⟩, by simp⟩
 | l' :: ls, x, y, z, l, a, b, ⟨u, c, d, h1, h2, h3⟩, k => ⟨u, c, _, h1, h2.snoc k, by rw [h3]; simp⟩
theorem PlayTo.front : ∀ {ls ls' : List (List UInt8)} {x y : Sta} {a : List UInt8}, PlayTo x (ls ++ ls') y a → ∃ z b c, PlayTo x ls z b ∧ PlayTo z ls' y c ∧ a = b ++ c
 | [], ls', x, y, a, h => ⟨x, [], a, ⟨rfl, rfl⟩, h, rfl⟩
 | l :: ls, ls', x, y, a, ⟨u, c, d, h1, h2, h3⟩ => by
  obtain ⟨z, b, e, k1, k2, k3⟩ := h2.front
  exact ⟨z, c ++ 10 :: b, e, ⟨u, c, b, h1, k1, rfl⟩, k2, by rw [h3, k3]; simp⟩
def J20 (s : List UInt8) : List (List UInt8) := if (J0e 10 s).getLastD [] = [] then (J0e 10 s).dropLast else J0e 10 s
def sta0 : Sta := ⟨[], [], []⟩
theorem wf0 : Wf sta0 := ⟨by decide, rfl, fun r hr => by simp [sta0] at hr, fun r hr => by simp [sta0] at hr, fun r hr => by simp [sta0] at hr, by decide, fun r hr => by simp [sta0] at hr⟩
def ScriptTo (s a : List UInt8) : Prop := ∃ y, PlayTo sta0 ((J20 s).take 40) y a
theorem ScriptTo.one {s a a' : List UInt8} (h : ScriptTo s a) (k : ScriptTo s a') : a = a' := by
 obtain ⟨y, h⟩ := h
 obtain ⟨y', k⟩ := k
 exact (h.one k).2
theorem J8b (b : UInt8) (s : List UInt8) : ¬ J0e b s = [] := fun e => by
 have := (J68 b s).1
 rw [e] at this
 simp at this
theorem J3z (b : UInt8) (t : List UInt8) : ∀ s : List UInt8, J0e b (s ++ b :: t) = J0e b s ++ J0e b t
 | [] => by simp [J0e]
 | c :: s => by
  rw [List.cons_append]
  simp only [J0e]
  by_cases e : c = b
  ·rw [if_pos e, if_pos e, J3z b t s]; rfl
  ·rw [if_neg e, if_neg e, J3z b t s]
   cases h : J0e b s with
   | nil => exact absurd h (J8b b s)
   | cons p r => rfl
theorem Ji0 (s : List UInt8) : J20 (s ++ [10]) = J0e 10 s := by
 have h : J0e 10 (s ++ [10]) = J0e 10 s ++ [[]] := J3z 10 [] s
 unfold J20
 rw [h]
 simp
theorem J99 (s t : List UInt8) : J20 (s ++ 10 :: t) = J0e 10 s ++ J20 t := by
 have h : J0e 10 (s ++ 10 :: t) = J0e 10 s ++ J0e 10 t := J3z 10 t s
 have hl : (J0e 10 s ++ J0e 10 t).getLastD [] = (J0e 10 t).getLastD [] := by
  obtain ⟨q, r, e⟩ : ∃ q r, J0e 10 t = q ++ [r] := by
   have := List.dropLast_concat_getLast (J8b 10 t)
   exact ⟨_, _, this.symm⟩
  rw [e, ← List.append_assoc]
  simp
 unfold J20
 rw [h, hl]
 split
 ·rw [List.dropLast_append_of_ne_nil (J8b 10 t)]
 ·rfl
theorem ScriptTo.front {s t a b : List UInt8} (h : ScriptTo (s ++ [10]) a) (k : ScriptTo (s ++ 10 :: t) b) : ∃ c, b = a ++ c := by
 obtain ⟨y, h⟩ := h
 obtain ⟨z, k⟩ := k
 rw [Ji0] at h
 rw [J99, List.take_append] at k
 obtain ⟨u, c, d, k1, _, rfl⟩ := k.front
 obtain ⟨_, rfl⟩ := h.one k1
 exact ⟨d, rfl⟩
def numC (L : List Int) : List Value := L.map (fun x => Value.int .i64 x)
theorem Jki (L M : List Int) : numC (L ++ M) = numC L ++ numC M := by simp [numC]
theorem NumsR.snoc {fs : List (List UInt8)} {L : List Int} {f : List UInt8} {v : Int} (h : NumsR fs L) (k : NumIs 6 f v) : NumsR (fs ++ [f]) (L ++ [v]) := by
 have k := num6.1 k
 refine ⟨by rw [h.1, k.1]; simp, fun n hn => ?_⟩
 rcases List.mem_append.1 hn with hn | hn
 ·exact h.2 n hn
 ·simp at hn; subst hn; exact k.2
theorem NumsR.none {fs gs : List (List UInt8)} {f : List UInt8} (k : ∀ v, ¬ NumIs 6 f v) (L : List Int) : ¬ NumsR (fs ++ f :: gs) L := by
 intro h
 have hm : f ∈ L.map digI := by rw [← h.1]; simp
 obtain ⟨v, hv, rfl⟩ := List.mem_map.1 hm
 exact k v (num6.2 ⟨rfl, h.2 v hv⟩)
theorem Jk4 : (Tryz.prog.info? 3).map (fun i => (i.zero, i.size, i.bytes)) = some (some (V 0), 1, 8) := by kernel_rfl
theorem Jiq {L : List Int} {v : Int} {n : Nat} (h : L.length < n) : (L ++ [v]).take n = L.take n ++ [v] := by
 rw [List.take_of_length_le (by simp; omega), List.take_of_length_le (by omega)]
theorem Jc5 {L : List Int} {v : Int} {n : Nat} (h : n ≤ L.length) : (L ++ [v]).take n = L.take n := by
 rw [List.take_append_of_le_length h]
def Jgu (l : List UInt8) (d : ByteArray) (va : Option Addr) (n vc : Nat) (ok : Bool) (w' : World) : Prop :=
 (ok = true ∧ ∃ h fs L vb, J0e 32 l = h :: fs ∧ NumsR fs L ∧ d = txt h ∧ n = (L.take 2002).length ∧ n ≤ vc ∧ SIn w' va vb 0 (L.take 2002) ∧ (0 < n → OfType w' (some vb) 3)) ∨ (ok = false ∧ ∃ h fs, J0e 32 l = h :: fs ∧ ∀ L, ¬ NumsR fs L)
theorem Jn3 {w : World} {B : Nat} {T : TypeId} {va : Option Addr} {n vc : Nat} {L : List Int} (h : w.ownsRow B T 1 (.slice va n vc) n (numC L)) (hn : n = L.length) : ∃ vb, n ≤ vc ∧ SIn w va vb 0 L ∧ (0 < n → OfType w (some vb) T) := by
 by_cases h0 : 0 < n
 ·obtain ⟨g, c, hv, _, _⟩ := h.form h0
  have hv' : va = some ⟨g, 0, none⟩ := by cases hv; rfl
  subst hv'
  refine ⟨g, ?_, ⟨fun _ => rfl, fun j x hx => ?_⟩, fun _ => J2d h⟩
  ·rcases h.2 with ⟨q, e⟩ | ⟨g', cap, cur, q, _, _, e, _⟩
   ·omega
   ·cases q; exact e
  ·have hj : j < n := by rw [hn]; exact (List.getElem?_eq_some_iff.1 hx).1
   rw [Nat.zero_add, World.ownsRow.cellAt h j (by omega)]
   simp [numC, hx]
 ·have e : n = 0 := by omega
  refine ⟨0, by omega, ⟨fun q => by omega, fun j x hx => ?_⟩, fun q => absurd q h0⟩
  have := (List.getElem?_eq_some_iff.1 hx).1
  omega

set_option maxHeartbeats 8000000 in
theorem Jgg (l : List UInt8) (w : World) (HL0 : LaiE w) (hl : l.length < 4611686018427387904) :
  Calls Tryz.prog 45 #[.string (txt l)] w fun e w' => ∃ (d : ByteArray) (va : Option Addr) (n vc : Nat) (ok : Bool), e = .returned (.tuple #[.string d, .slice va n vc, .bool ok]) ∧ Jgu l d va n vc ok w' ∧ More w w' := by
 suffices hP : ∀ P : Ending → World → Prop, (∀ (d : ByteArray) (va : Option Addr) (n vc : Nat) (ok : Bool) w', Jgu l d va n vc ok w' → More w w' → P (.returned (.tuple #[.string d, .slice va n vc, .bool ok])) w') → Calls Tryz.prog 45 #[.string (txt l)] w P from hP _ (fun d va n vc ok w' a b => ⟨d, va, n, vc, ok, rfl, a, b⟩)
 intro P hP0
 have HP : Hid (∀ (d : ByteArray) (va : Option Addr) (n vc : Nat) (ok : Bool) w', Jgu l d va n vc ok w' → More w w' → P (.returned (.tuple #[.string d, .slice va n vc, .bool ok])) w') := hP0
 have HL : Hid (LaiE w) := HL0
 have CC : Hid (∀ (s : List UInt8) (d : ByteArray), d = txt s → s.length ≤ l.length → ∀ w1, Calls Tryz.prog 19 #[.string d, .string ⟨#[32]⟩] w1 fun e w' => ∃ (d1 d2 : ByteArray) (ok : Bool), e = .returned (.tuple #[.string d1, .string d2, .bool ok]) ∧ J6q s 32 d1 d2 ok ∧ More w1 w') := fun s d e hs w1 => by
  subst e
  exact Jb5 s (by omega) 32 w1
 have CN : Hid (∀ (s : List UInt8) (d : ByteArray), d = txt s → s.length ≤ l.length → ∀ w1, More w w1 → Calls Tryz.prog 87 #[.string d] w1 fun e w' => ∃ (v : Int) (ok : Bool), e = .returned (.tuple #[V v, .bool ok]) ∧ Jau 6 s v ok ∧ More w1 w') := fun s d e hs w1 m => by
  subst e
  exact J9z s w1 (HL0.more m) (by omega)
 have C0 := J04 (CC.out l (txt l) rfl (Nat.le_refl _) w)
 obtain ⟨i0, hi1, hi2, hi3, hi4⟩ := info_parts Jk4
 have Hi : Hid (Tryz.prog.info? 3 = some i0 ∧ i0.zero = some (V 0) ∧ i0.size = 1 ∧ i0.bytes = 8) := ⟨hi1, hi2, hi3, hi4⟩
 clear hP0 HL0 hi1 hi2 hi3 hi4
 obtain ⟨ss, Hss⟩ : ∃ x, Hid (txt l = x) := ⟨_, rfl⟩
 rw [Hss.out] at C0 ⊢
 go_enter Tryz.func45, Tryz.ntmps45
 go_wp2_with (fail)
 refine C0.out.mono ?_
 rintro e w1 ⟨d1, d2, ok, rfl, hc, m1⟩
 have H1 : Hid (∃ (h : List UInt8) (rest : List UInt8), d1 = txt h ∧ d2 = txt rest ∧ rest.length ≤ l.length ∧ (ok = true → rest.length < l.length ∧ J0e 32 l = h :: J0e 32 rest) ∧ (ok = false → J0e 32 l = [h])) := by
  rcases hc with ⟨rfl, x, y, e, n, rfl, rfl⟩ | ⟨rfl, n, rfl, rfl⟩
  ·refine ⟨x, y, rfl, rfl, by rw [e]; simp; omega, fun _ => ⟨by rw [e]; simp; omega, by rw [e]; exact J6l 32 y x n⟩, fun q => by cases q⟩
  ·exact ⟨l, [], rfl, rfl, by simp, fun q => (by cases q), fun _ => J40 32 l n⟩
 have Hm1 := J04 m1
 obtain ⟨h, rest0, e1, e2, e3, e4, e5⟩ := H1.out
 have HH : Hid (d1 = txt h ∧ d2 = txt rest0 ∧ rest0.length ≤ l.length ∧ (ok = true → rest0.length < l.length ∧ J0e 32 l = h :: J0e 32 rest0) ∧ (ok = false → J0e 32 l = [h])) := ⟨e1, e2, e3, e4, e5⟩
 clear C0 hc m1 H1 e1 e2 e3 e4 e5
 go_wp2_with (fail)
 go_loopg [6, 7, 8] (if ok then rest0.length + 1 else 0) (fun g rv mv nv wr => ∃ (d : ByteArray) (more : Bool) (va : Option Addr) (n vc : Nat), rv = .string d ∧ mv = .bool more ∧ nv = .slice va n vc ∧ n ≤ 2002 ∧ Hid (∃ (rest : List UInt8) (fs : List (List UInt8)) (L : List Int), d = txt rest ∧ rest.length ≤ l.length ∧ g = (if more then rest.length + 1 else 0) ∧ NumsR fs L ∧ n = (L.take 2002).length ∧ wr.ownsRow w1.heap.size 3 1 (.slice va n vc) n (numC (L.take 2002)) ∧ More w1 wr ∧ (more = true → J0e 32 l = h :: (fs ++ J0e 32 rest)) ∧ (more = false → J0e 32 l = h :: fs)))
 case atStart =>
  refine ⟨d2, ok, none, 0, 0, rfl, rfl, rfl, by omega, rest0, [], [], HH.out.2.1, HH.out.2.2.1, rfl, ⟨rfl, fun n hn => by simp at hn⟩, rfl, World.ownsRow_nil _ _ _ _, More.refl _, fun q => (HH.out.2.2.2.1 q).2, HH.out.2.2.2.2⟩
 case round =>
  obtain ⟨d, more, va, n, vc, rfl, rfl, rfl, hn2, Hr⟩ := hrel
  cases more with
  | false =>
   have HE : Hid (P (.returned (.tuple #[.string d1, .slice va n vc, .bool true])) wr) := by
    obtain ⟨rest, fs, L, _, _, _, a3, a4, a5, a6, _, a8⟩ := Hr.out
    obtain ⟨vb, b1, b2, b3⟩ := Jn3 a5 a4
    exact HP.out _ _ _ _ _ wr (.inl ⟨rfl, h, fs, L, vb, a8 rfl, a3, HH.out.1, a4, b1, b2, b3⟩) (Hm1.out.trans a6)
   clear HP CC CN Hr
   go_wp2
   refine bodyPost_ret (v := .tuple #[.string d1, .slice va n vc, .bool true]) (by simp [results, Tryz.results45, go_sem, *]) rfl ?_
   exact HE.out
  | true =>
   obtain ⟨rest, fs, L, a1, a2, ag, a3, a4, a5, a6, a7, _⟩ := Hr.out
   have HA : Hid (d = txt rest ∧ rest.length ≤ l.length ∧ gk = rest.length + 1 ∧ NumsR fs L ∧ n = (L.take 2002).length ∧ wr.ownsRow w1.heap.size 3 1 (.slice va n vc) n (numC (L.take 2002)) ∧ More w1 wr ∧ J0e 32 l = h :: (fs ++ J0e 32 rest)) := ⟨a1, a2, by simpa using ag, a3, a4, a5, a6, a7 rfl⟩
   have C1 := J04 (CC.out rest d a1 a2 wr)
   clear Hr a1 a2 ag a3 a4 a5 a6 a7 CC
   go_wp2_with (fail)
   refine C1.out.mono ?_
   rintro e w2 ⟨f1, f2, ok2, rfl, hc, m2⟩
   have H2 : Hid (∃ (f : List UInt8) (rest2 : List UInt8), f1 = txt f ∧ f2 = txt rest2 ∧ f.length ≤ l.length ∧ rest2.length ≤ l.length ∧ (ok2 = true → rest2.length < rest.length ∧ J0e 32 rest = f :: J0e 32 rest2) ∧ (ok2 = false → J0e 32 rest = [f])) := by
    have hr := HA.out.2.1
    rcases hc with ⟨rfl, x, y, e, n, rfl, rfl⟩ | ⟨rfl, n, rfl, rfl⟩
    ·have hx : x.length + y.length + 1 = rest.length := by rw [e]; simp; omega
     refine ⟨x, y, rfl, rfl, by omega, by omega, fun _ => ⟨by omega, by rw [e]; exact J6l 32 y x n⟩, fun q => by cases q⟩
    ·exact ⟨rest, [], rfl, rfl, hr, by simp, fun q => (by cases q), fun _ => J40 32 rest n⟩
   obtain ⟨f, rest2, e1, e2, e3, e4, e5, e6⟩ := H2.out
   have Hm2 : Hid (More wr w2) := m2
   have C2 := J04 (CN.out f f1 e1 e3 w2 ((Hm1.out.trans HA.out.2.2.2.2.2.2.1).trans m2))
   have HF : Hid (f2 = txt rest2 ∧ rest2.length ≤ l.length ∧ (ok2 = true → rest2.length < rest.length ∧ J0e 32 rest = f :: J0e 32 rest2) ∧ (ok2 = false → J0e 32 rest = [f])) := ⟨e2, e4, e5, e6⟩
   clear C1 hc m2 H2 e1 e2 e3 e4 e5 e6 CN
   go_wp2_with (fail)
   refine C2.out.mono ?_
   rintro e w3 ⟨v, ok3, rfl, hv, m3⟩
   have Hm3 : Hid (More w1 w3) := (HA.out.2.2.2.2.2.2.1.trans Hm2.out).trans m3
   have Hm13 : Hid (More wr w3) := Hm2.out.trans m3
   have HV : Hid (Jau 6 f v ok3) := hv
   clear C2 hv m3
   cases ok3 with
   | false =>
    have HE : Hid (P (.returned (.tuple #[.string ⟨#[]⟩, .slice none 0 0, .bool false])) w3) := by
     obtain ⟨q, hv⟩ : false = false ∧ ∀ v', ¬ NumIs 6 f v' := by
      rcases HV.out with ⟨q, _⟩ | q
      ·cases q
      ·exact q
     have hs : ∃ gs, J0e 32 rest = f :: gs := by
      cases ok2 with
      | true => exact ⟨_, (HF.out.2.2.1 rfl).2⟩
      | false => exact ⟨[], HF.out.2.2.2 rfl⟩
     obtain ⟨gs, hs⟩ := hs
     refine HP.out _ _ _ _ _ w3 (.inr ⟨rfl, h, _, HA.out.2.2.2.2.2.2.2, fun L' => ?_⟩) (Hm1.out.trans Hm3.out)
     rw [hs]
     exact NumsR.none hv L'
    clear HP
    go_wp2
    refine bodyPost_ret (v := .tuple #[.string ⟨#[]⟩, .slice none 0 0, .bool false]) (by simp [results, Tryz.results45, go_sem, *]) rfl ?_
    exact HE.out
   | true =>
    have HNum : Hid (NumsR (fs ++ [f]) (L ++ [v])) := HA.out.2.2.2.1.snoc (by
     rcases HV.out with ⟨_, q⟩ | ⟨q, _⟩
     ·exact q
     ·cases q)
    have HS : Hid ((ok2 = true → J0e 32 l = h :: ((fs ++ [f]) ++ J0e 32 rest2)) ∧ (ok2 = false → J0e 32 l = h :: (fs ++ [f]))) := by
     refine ⟨fun q => ?_, fun q => ?_⟩
     ·rw [HA.out.2.2.2.2.2.2.2, (HF.out.2.2.1 q).2]; simp
     ·rw [HA.out.2.2.2.2.2.2.2, HF.out.2.2.2 q]
    have HM : Hid ((if ok2 then rest2.length + 1 else 0) < gk) := by
     have h1 := HA.out.2.2.1
     show _ < _
     cases ok2 with
     | true => have := (HF.out.2.2.1 rfl).1; simp; omega
     | false => simp; omega
    have Hnx : Hid (∀ (va' : Option Addr) (n' vc' : Nat) w4, n' ≤ 2002 → n' = ((L ++ [v]).take 2002).length → w4.ownsRow w1.heap.size 3 1 (.slice va' n' vc') n' (numC ((L ++ [v]).take 2002)) → More w1 w4 → ∃ (d : ByteArray) (more : Bool) (va : Option Addr) (n vc : Nat), Value.string f2 = .string d ∧ Value.bool ok2 = .bool more ∧ Value.slice va' n' vc' = .slice va n vc ∧ n ≤ 2002 ∧ Hid (∃ (rest : List UInt8) (fs : List (List UInt8)) (L : List Int), d = txt rest ∧ rest.length ≤ l.length ∧ (if ok2 then rest2.length + 1 else 0) = (if more then rest.length + 1 else 0) ∧ NumsR fs L ∧ n = (L.take 2002).length ∧ w4.ownsRow w1.heap.size 3 1 (.slice va n vc) n (numC (L.take 2002)) ∧ More w1 w4 ∧ (more = true → J0e 32 l = h :: (fs ++ J0e 32 rest)) ∧ (more = false → J0e 32 l = h :: fs))) := fun va' n' vc' w4 q0 q1 q2 q3 => ⟨f2, ok2, va', n', vc', rfl, rfl, rfl, q0, rest2, fs ++ [f], L ++ [v], HF.out.1, HF.out.2.1, rfl, HNum.out, q1, q2, q3, HS.out.1, HS.out.2⟩
    have HO : Hid (w3.ownsRow w1.heap.size 3 1 (.slice va n vc) n (numC (L.take 2002)) ∧ n = (L.take 2002).length) := ⟨J5y HA.out.2.2.2.2.2.1 Hm13.out, HA.out.2.2.2.2.1⟩
    clear HP HV HF HS HNum HA Hm13 Hm2
    obtain ⟨gn, Hgn⟩ : ∃ x, Hid ((if ok2 then rest2.length + 1 else 0) = x) := ⟨_, rfl⟩
    rw [Hgn.out] at HM Hnx
    have hgn : gn < gk := HM.out
    by_cases hlt : n < 2002
    ·have hlti : (n : Int) < 2002 := by omega
     have hL : L.length < 2002 := by have := HO.out.2; simp at this; omega
     obtain ⟨W, HW⟩ : ∃ w_ : World, Hid (w_ = w3.alloc (.cells #[V v] 3)) := ⟨_, rfl⟩
     have HmW : Hid (More w3 W) := HW.out ▸ (More.refl _).alloc _ _
     have HbW : Hid (Blk W w3.heap.size #[V v] 3) := HW.out ▸ Blk.last _ _ _
     have HOW : Hid (W.ownsRow w1.heap.size 3 1 (.slice va n vc) n (numC (L.take 2002))) := J5y HO.out.1 HmW.out
     have Hnews : Hid (∀ j u, (numC [v])[j]? = some u → W.cell? ((⟨w3.heap.size, 0, none⟩ : Addr).add j) = some u) := World.news_of_block HbW.out
     have Hlo : Hid (w1.heap.size ≤ W.heap.size) := Nat.le_trans Hm3.out.size HmW.out.size
     have HMw : Hid (More w1 W) := Hm3.out.trans HmW.out
     have HbL : Hid (∀ k, (Value.slice va n vc).ownBlock = some k → w1.heap.size ≤ k) := fun k hk => (HOW.out.lt k hk).1
     have Hq : Hid (∀ g3 cap3 w4, w4.ownsRow w1.heap.size 3 1 (.slice (some ⟨g3, 0, none⟩) (n + 1) cap3) (n + 1) (numC (L.take 2002) ++ numC [v]) → More w1 w4 → n + 1 = ((L ++ [v]).take 2002).length ∧ w4.ownsRow w1.heap.size 3 1 (.slice (some ⟨g3, 0, none⟩) (n + 1) cap3) (n + 1) (numC ((L ++ [v]).take 2002))) := fun g3 cap3 w4 o m => by
      rw [Jiq hL, Jki]
      exact ⟨by rw [List.length_append, ← HO.out.2]; rfl, o⟩
     go_wp2_with (at_builtin; rw [← HW.out]; refine wpList_append_lies _ rfl (.tmp 35) (.tmp 37) 49 rfl w1.heap.size 3 i0 (V 0) 1 8 Tryz.underlying49 Hi.out.1 Hi.out.2.1 Hi.out.2.2.1 Hi.out.2.2.2 rfl (by decide) (.slice va n vc) n (numC (L.take 2002)) rfl HOW.out ⟨w3.heap.size, 0, none⟩ 1 1 (numC [v]) rfl rfl Hnews.out (by intro u hu; simp [numC] at hu; subst hu; rfl) (by omega) (by unfold maxLen; omega) (by omega) Hlo.out W.heap.size rfl ?_; intro g3 cap3 w4 own3 gr3 hat3 hlt3; have HX := J04 (Hnx.out (some ⟨g3, 0, none⟩) (n + 1) cap3 w4 (by omega) (Hq.out g3 cap3 w4 own3 (HMw.out.grownBy gr3 HbL.out)).1 (Hq.out g3 cap3 w4 own3 (HMw.out.grownBy gr3 HbL.out)).2 (HMw.out.grownBy gr3 HbL.out)); clear own3 gr3 hat3 hlt3)
     go_roundg gn
     case measure => omega
     case rel => exact HX.out
    ·have hlti : ¬ (n : Int) < 2002 := by omega
     have d2 : decide ((n : Int) < 2002) = false := decide_eq_false hlti
     have hL : 2002 ≤ L.length := by have := HO.out.2; simp at this; omega
     have HX := J04 (Hnx.out va n vc w3 hn2 (by rw [Jc5 hL]; exact HO.out.2) (by rw [Jc5 hL]; exact HO.out.1) Hm3.out)
     clear Hnx
     go_wp2
     go_roundg gn
     case measure => omega
     case rel => exact HX.out
def Own5 (t : TypeId) : Prop := t = 63 ∨ t = 76 ∨ t = 41 ∨ t = 35 ∨ t = 2
def Spar (w w' : World) : Prop := ∀ (k : Nat) (o : Obj), w.heap[k]? = some o → (∀ c t fz, o = Obj.cells c t fz → ¬ Own5 t) → w'.heap[k]? = some o
theorem Spar.of {w w' : World} (m : More w w') : Spar w w' := fun k o h _ => J1j m h
theorem Spar.trans {a b c : World} (h : Spar a b) (k : Spar b c) : Spar a c := fun i o hi ho => k i o (h i o hi ho) ho
theorem Spar.grown {w w1 w2 : World} {row : Option Nat} {T : TypeId} (h : Spar w w1) (g : w1.grownBy w2 row) (ht : OfType w1 row T) (h5 : Own5 T) : Spar w w2 := fun k o hk ho => by
 have h1 := h k o hk ho
 rw [g.block k (Array.getElem?_eq_some_iff.1 h1).1 ?_]
 ·exact h1
 ·intro e
  obtain ⟨c, fz, q⟩ := ht k e.symm
  rw [h1] at q
  exact ho c T fz (Option.some.inj q) h5
theorem Spar.set {w w1 : World} {b : Nat} {c : Array Value} {T : TypeId} (h : Spar w w1) (hb : Blk w1 b c T) (h5 : Own5 T) (o : Nat) (v : Value) : Spar w (w1.setCell ⟨b, o, none⟩ v) := h.grown (J0k _ _ _ _) hb.ofType h5
theorem own5P : Own5 63 := .inl rfl
theorem own5R : Own5 76 := .inr (.inl rfl)
theorem own5I : Own5 41 := .inr (.inr (.inl rfl))
theorem own5S : Own5 35 := .inr (.inr (.inr (.inl rfl)))
theorem own5W : Own5 2 := .inr (.inr (.inr (.inr rfl)))
theorem not5 {t : TypeId} (h1 : t ≠ 63) (h2 : t ≠ 76) (h3 : t ≠ 41) (h4 : t ≠ 35) (h5 : t ≠ 2) : ¬ Own5 t := by
 rintro (h | h | h | h | h)
 ·exact h1 h
 ·exact h2 h
 ·exact h3 h
 ·exact h4 h
 ·exact h5 h

structure LaiG (G : Nat) (w : World) : Prop extends LaiD w where
 ahead : 8 ≤ G
theorem LaiG.low {G : Nat} {w w' : World} (h : LaiG G w) (b : Below G w w') : LaiG G w' := by
 have hg := h.ahead
 have k : ∀ (i : Nat) (o : Obj), i < 8 → w.heap[i]? = some o → w'.heap[i]? = some o := fun i o hi e => (Below.block b i (by omega)).trans e
 obtain ⟨t1, f1, e1⟩ := h.kinds
 obtain ⟨t2, f2, e2⟩ := h.pow
 obtain ⟨a3, b3, t3, f3, e3⟩ := h.syn
 obtain ⟨a4, b4, t4, f4, e4⟩ := h.rng
 obtain ⟨t5, f5, e5⟩ := h.ends
 exact ⟨⟨⟨⟨⟨t1, f1, k _ _ (by decide) e1⟩, ⟨t2, f2, k _ _ (by decide) e2⟩⟩, ⟨a3, b3, t3, f3, k _ _ (by decide) e3⟩, ⟨a4, b4, t4, f4, k _ _ (by decide) e4⟩⟩, ⟨t5, f5, k _ _ (by decide) e5⟩⟩, hg⟩
abbrev Dp (B G : Nat) (x : Sta) (rv cv mv : Value) (w : World) : Prop := Ply 63 B G x.rs x.cs x.ms rv cv mv w
structure DAns (B G : Nat) (w : World) (y : Sta) (w' : World) : Prop where
 ply : ∃ rv cv mv, Dp B G y rv cv mv w'
 low : Below G w w'
 spar : Spar w w'
theorem DAns.same {B G : Nat} {x : Sta} {rv cv mv : Value} {w w' : World} (h : Dp B G x rv cv mv w) (m : More w w') : DAns B G w x w' :=
 ⟨⟨rv, cv, mv, h.more m⟩, Below.mono m (Nat.le_of_lt h.blk.lt), Spar.of m⟩
theorem DAns.more {B G : Nat} {y : Sta} {w w1 w2 : World} (h : DAns B G w y w1) (m : More w1 w2) : DAns B G w y w2 := by
 obtain ⟨⟨rv, cv, mv, hp⟩, hl, hs⟩ := h
 exact ⟨⟨rv, cv, mv, hp.more m⟩, hl.trans (Below.mono m (Nat.le_of_lt hp.blk.lt)), hs.trans (Spar.of m)⟩

def hasB (x : Sta) (r : Int) : Bool := decide (0 ≤ r) && decide (r < (x.rs.length : Int))
theorem J4w {x : Sta} (h : Wf x) (r : Int) : hasB x r = true ↔ There x r := by
 unfold hasB There
 rw [h.ml]
 simp
theorem Jbb {B G : Nat} {x : Sta} {rv cv mv : Value} (r : Int) (w : World) (h : Dp B G x rv cv mv w) :
  Calls Tryz.prog 89 #[.pointer (some ⟨G, 0, none⟩), V r] w fun e w' => e = .returned (.bool (hasB x r)) ∧ w' = w := by
 suffices hP : ∀ P : Ending → World → Prop, P (.returned (.bool (hasB x r))) w → Calls Tryz.prog 89 #[.pointer (some ⟨G, 0, none⟩), V r] w P from hP _ ⟨rfl, rfl⟩
 intro P hP
 obtain ⟨lp, rfl, _, _⟩ := h.pin
 have b0 : w.cell? ⟨G, 0, none⟩ = some (.slice lp.ra x.rs.length lp.rc) := h.blk.cell rfl
 clear h
 unfold hasB at hP
 obtain ⟨ra, Hra⟩ : ∃ z, Hid (lp.ra = z) := ⟨_, rfl⟩
 obtain ⟨rc, Hrc⟩ : ∃ z, Hid (lp.rc = z) := ⟨_, rfl⟩
 obtain ⟨rl, Hrl⟩ : ∃ z, Hid (x.rs.length = z) := ⟨_, rfl⟩
 rw [Hra.out, Hrc.out, Hrl.out] at b0
 rw [Hrl.out] at hP
 by_cases h0 : 0 ≤ r
 ·have d0 : decide (0 ≤ r) = true := decide_eq_true h0
  by_cases h1 : r < (rl : Int)
  ·have d1 : decide (r < (rl : Int)) = true := decide_eq_true h1
   have HP : Hid (P (.returned (.bool true)) w) := by rw [d0, d1] at hP; exact hP
   clear hP
   go_enter Tryz.func89, Tryz.ntmps89
   go_wp2
   exact HP.out
  ·have d1 : decide (r < (rl : Int)) = false := decide_eq_false h1
   have HP : Hid (P (.returned (.bool false)) w) := by rw [d0, d1] at hP; exact hP
   clear hP h1
   go_enter Tryz.func89, Tryz.ntmps89
   go_wp2
   exact HP.out
 ·have d0 : decide (0 ≤ r) = false := decide_eq_false h0
  have HP : Hid (P (.returned (.bool false)) w) := by rw [d0] at hP; exact hP
  clear hP h0
  go_enter Tryz.func89, Tryz.ntmps89
  go_wp2
  exact HP.out

theorem Jii {B : Nat} {gs : List Nat} {ms : List (List Int)} {ma : Option Addr} {mn mc : Nat} {w : World} (k : Words B gs ms (.slice ma mn mc) w) {i : Nat} (hi : i < ms.length) : ∃ (mb g : Nat) (l : List Int), ma = some ⟨mb, 0, none⟩ ∧ mn = ms.length ∧ gs[i]? = some g ∧ ms[i]? = some l ∧ ms.getD i [] = l ∧ w.cell? ⟨mb, i, none⟩ = some (.slice (some ⟨g, 0, none⟩) l.length l.length) ∧ Blk w g (J2j l) 2 := by
 have hg : i < gs.length := by rw [k.len]; exact hi
 obtain ⟨mb, c, hv, _, _⟩ := k.own.form (by omega)
 have hv' : ma = some ⟨mb, 0, none⟩ ∧ mn = ms.length := by cases hv; exact ⟨rfl, rfl⟩
 obtain ⟨rfl, rfl⟩ := hv'
 refine ⟨mb, gs[i], ms[i], rfl, rfl, List.getElem?_eq_getElem hg, List.getElem?_eq_getElem hi, ?_, ?_, (k.blk i _ _ (List.getElem?_eq_getElem hg) (List.getElem?_eq_getElem hi)).2⟩
 ·simp [List.getD_eq_getElem?_getD, List.getElem?_eq_getElem hi]
 ·have := World.ownsRow.cellAt k.own i (by omega)
  rw [this]
  unfold rowsV
  rw [List.getElem?_zipWith, List.getElem?_eq_getElem hg, List.getElem?_eq_getElem hi]
theorem Jiw {w : World} {g : Nat} {l : List Int} (h : Blk w g (J2j l) 2) : SIn w (some ⟨g, 0, none⟩) g 0 l := Jdk h (fun j c hc => by simp [J2j, hc])

set_option maxHeartbeats 1000000 in
theorem Jg1 {B G : Nat} {x : Sta} {rv cv mv : Value} (r : Int) (w : World) (h : Dp B G x rv cv mv w) (hw : Wf x) (HL0 : Lai w) :
  Calls Tryz.prog 55 #[.pointer (some ⟨G, 0, none⟩), V r] w fun e w' => ∃ a, e = .returned (.string (txt a)) ∧ J9a [r] x x a ∧ More w w' := by
 suffices hP : ∀ P : Ending → World → Prop, (∀ a w', J9a [r] x x a → More w w' → P (.returned (.string (txt a))) w') → Calls Tryz.prog 55 #[.pointer (some ⟨G, 0, none⟩), V r] w P from hP _ (fun a w' h m => ⟨a, rfl, h, m⟩)
 intro P hP0
 have HP : Hid (∀ a w', J9a [r] x x a → More w w' → P (.returned (.string (txt a))) w') := hP0
 have CH := J04 (Jbb r w h)
 clear hP0
 by_cases ht : There x r
 ·rw [(J4w hw r).2 ht] at CH
  obtain ⟨gs, hgs⟩ := h.mem
  obtain ⟨ml, rfl, _⟩ := hgs.raw
  obtain ⟨rn, rfl⟩ := Int.eq_ofNat_of_zero_le ht.1
  have hrn : rn < x.ms.length := by have := ht.2; omega
  obtain ⟨mb, g, l, hma, _, hg, hl, hgl, hcell, hblk⟩ := Jii hgs hrn
  have b2 : w.cell? ⟨G, 2, none⟩ = some (.slice ml.ma x.ms.length ml.mc) := h.blk.cell rfl
  rw [hma] at b2
  have hlm : l ∈ x.ms := List.mem_of_getElem? hl
  have h64 := hw.len l hlm
  have CT : Hid (∀ w1, w1 = w → Calls Tryz.prog 92 #[.string ⟨#[105, 115]⟩, .slice (some ⟨g, 0, none⟩) l.length l.length] w1 fun e w' => e = .returned (.string (txt (ansL isW l))) ∧ More w1 w') := fun w1 e => by
   subst e
   exact J9i isW l _ g 0 l.length l.length w1 HL0 rfl (hw.wd l hlm) (by show 2 + _ ≤ _; omega) (Jiw hblk)
  have HE : Hid (∀ w', More w w' → P (.returned (.string (txt (ansL isW l)))) w') := fun w' m => HP.out _ w' (.inl ⟨(rn : Int), rfl, ht, rfl, by rw [Int.toNat_natCast, hgl]⟩) m
  obtain ⟨R, HR⟩ : ∃ R, Hid (txt (ansL isW l) = R) := ⟨_, rfl⟩
  rw [HR.out] at CT HE
  obtain ⟨ln, Hln⟩ : ∃ z, Hid (l.length = z) := ⟨_, rfl⟩
  obtain ⟨mn, Hmn⟩ : ∃ z, Hid (x.ms.length = z) := ⟨_, rfl⟩
  obtain ⟨mc, Hmc⟩ : ∃ z, Hid (ml.mc = z) := ⟨_, rfl⟩
  rw [Hln.out] at CT hcell
  rw [Hmn.out] at b2 hrn
  rw [Hmc.out] at b2
  have hr0 : (0 : Int) ≤ rn := by omega
  have hr1 : (rn : Int) < mn := by omega
  clear HP h hgs hw HL0 ht hg hl hgl hlm h64 hblk hma
  go_enter Tryz.func55, Tryz.ntmps55
  go_wp2_with (fail)
  refine CH.out.mono ?_
  rintro e w1 ⟨rfl, rfl⟩
  clear CH
  go_wp2_with (fail)
  refine (CT.out _ rfl).mono ?_
  rintro e w2 ⟨rfl, m2⟩
  have HF := J04 (HE.out w2 m2)
  clear m2 HE CT
  go_wp2
  exact HF.out
 ·have e : hasB x r = false := by
   cases q : hasB x r with
   | false => rfl
   | true => exact absurd ((J4w hw r).1 q) ht
  rw [e] at CH
  have HE : Hid (P (.returned (.string ⟨#[63]⟩)) w) := HP.out [63] w (.inr ⟨fun ⟨r', e, t⟩ => by cases e; exact ht t, rfl, rfl⟩) (More.refl _)
  clear HP h hw HL0 ht e
  go_enter Tryz.func55, Tryz.ntmps55
  go_wp2_with (fail)
  refine CH.out.mono ?_
  rintro e w1 ⟨rfl, rfl⟩
  clear CH
  go_wp2
  exact HE.out
def Jav (h : List UInt8) (n : Nat) : Prop := ((h = J92 ∨ h = hardW ∨ h = loadW ∨ h = textW) ∧ n = 0) ∨ ((h = runW ∨ h = lookW) ∧ n = 1) ∨ (h = J5j ∧ n = 2) ∨ (h = insW ∧ n = 5) ∨ ((h = fillW ∨ h = J8x) ∧ 1 ≤ n)
theorem J3c {h : List UInt8} {s : ByteArray} (e : txt h = s) (c : List UInt8) (n : ¬ h = c) : (s.toList == c) = false ∧ ¬ s.toList = c := by
 have q : ¬ s.toList = c := fun k => n (by rw [← e, ByteArray.toList_mk] at k; exact k)
 exact ⟨by simp only [beq_eq_false_iff_ne]; exact q, q⟩

set_option maxHeartbeats 4000000 in
theorem Jdu (h : List UInt8) (n : Nat) (w : World) :
  Calls Tryz.prog 46 #[.string (txt h), V n] w fun e w' => ∃ b : Bool, e = .returned (.bool b) ∧ (b = true ↔ Jav h n) ∧ w' = w := by
 suffices hP : ∀ P : Ending → World → Prop, (∀ b : Bool, (b = true ↔ Jav h n) → P (.returned (.bool b)) w) → Calls Tryz.prog 46 #[.string (txt h), V n] w P from hP _ (fun b h => ⟨b, rfl, h, rfl⟩)
 intro P hP0
 have HP : Hid (∀ b : Bool, (b = true ↔ Jav h n) → P (.returned (.bool b)) w) := hP0
 clear hP0
 by_cases hw : J45 h
 ·rcases hw with rfl | rfl | rfl | rfl | rfl | rfl | rfl | rfl | rfl | rfl
  ·by_cases hn : n = 2
   ·have HE := J04 (HP.out true ⟨fun _ => .inr (.inr (.inl ⟨rfl, hn⟩)), fun _ => rfl⟩)
    subst hn
    clear HP
    go_enter Tryz.func46, Tryz.ntmps46
    go_wp2
    exact HE.out
   ·have HE := J04 (HP.out false ⟨fun q => by simp at q, fun q => absurd q (fun q => by rcases q with ⟨a, b⟩ | ⟨a, b⟩ | ⟨a, b⟩ | ⟨a, b⟩ | ⟨a, b⟩ <;> first | exact hn b | exact absurd a (by decide))⟩)
    have hi : ((n : Int) == 2) = false := by simp; omega
    clear HP hn
    go_enter Tryz.func46, Tryz.ntmps46
    go_wp2
    exact HE.out
  ·by_cases hn : 1 ≤ n
   ·have HE := J04 (HP.out true ⟨fun _ => .inr (.inr (.inr (.inr ⟨.inl rfl, hn⟩))), fun _ => rfl⟩)
    have hi : (1 : Int) ≤ n := by omega
    clear HP
    go_enter Tryz.func46, Tryz.ntmps46
    go_wp2
    exact HE.out
   ·have HE := J04 (HP.out false ⟨fun q => by simp at q, fun q => absurd q (fun q => by rcases q with ⟨a, b⟩ | ⟨a, b⟩ | ⟨a, b⟩ | ⟨a, b⟩ | ⟨a, b⟩ <;> first | exact hn b | exact absurd a (by decide))⟩)
    have hi : decide ((1 : Int) ≤ n) = false := by simp; omega
    clear HP hn
    go_enter Tryz.func46, Tryz.ntmps46
    go_wp2
    exact HE.out
  ·by_cases hn : n = 1
   ·have HE := J04 (HP.out true ⟨fun _ => .inr (.inl ⟨.inr rfl, hn⟩), fun _ => rfl⟩)
    subst hn
    clear HP
    go_enter Tryz.func46, Tryz.ntmps46
    go_wp2
    exact HE.out
   ·have HE := J04 (HP.out false ⟨fun q => by simp at q, fun q => absurd q (fun q => by rcases q with ⟨a, b⟩ | ⟨a, b⟩ | ⟨a, b⟩ | ⟨a, b⟩ | ⟨a, b⟩ <;> first | exact hn b | exact absurd a (by decide))⟩)
    have hi : ((n : Int) == 1) = false := by simp; omega
    clear HP hn
    go_enter Tryz.func46, Tryz.ntmps46
    go_wp2
    exact HE.out
  ·by_cases hn : n = 5
   ·have HE := J04 (HP.out true ⟨fun _ => .inr (.inr (.inr (.inl ⟨rfl, hn⟩))), fun _ => rfl⟩)
    subst hn
    clear HP
    go_enter Tryz.func46, Tryz.ntmps46
    go_wp2
    exact HE.out
   ·have HE := J04 (HP.out false ⟨fun q => by simp at q, fun q => absurd q (fun q => by rcases q with ⟨a, b⟩ | ⟨a, b⟩ | ⟨a, b⟩ | ⟨a, b⟩ | ⟨a, b⟩ <;> first | exact hn b | exact absurd a (by decide))⟩)
    have hi : ((n : Int) == 5) = false := by simp; omega
    clear HP hn
    go_enter Tryz.func46, Tryz.ntmps46
    go_wp2
    exact HE.out
  ·by_cases hn : n = 1
   ·have HE := J04 (HP.out true ⟨fun _ => .inr (.inl ⟨.inl rfl, hn⟩), fun _ => rfl⟩)
    subst hn
    clear HP
    go_enter Tryz.func46, Tryz.ntmps46
    go_wp2
    exact HE.out
   ·have HE := J04 (HP.out false ⟨fun q => by simp at q, fun q => absurd q (fun q => by rcases q with ⟨a, b⟩ | ⟨a, b⟩ | ⟨a, b⟩ | ⟨a, b⟩ | ⟨a, b⟩ <;> first | exact hn b | exact absurd a (by decide))⟩)
    have hi : ((n : Int) == 1) = false := by simp; omega
    clear HP hn
    go_enter Tryz.func46, Tryz.ntmps46
    go_wp2
    exact HE.out
  ·by_cases hn : 1 ≤ n
   ·have HE := J04 (HP.out true ⟨fun _ => .inr (.inr (.inr (.inr ⟨.inr rfl, hn⟩))), fun _ => rfl⟩)
    have hi : (1 : Int) ≤ n := by omega
    clear HP
    go_enter Tryz.func46, Tryz.ntmps46
    go_wp2
    exact HE.out
   ·have HE := J04 (HP.out false ⟨fun q => by simp at q, fun q => absurd q (fun q => by rcases q with ⟨a, b⟩ | ⟨a, b⟩ | ⟨a, b⟩ | ⟨a, b⟩ | ⟨a, b⟩ <;> first | exact hn b | exact absurd a (by decide))⟩)
    have hi : decide ((1 : Int) ≤ n) = false := by simp; omega
    clear HP hn
    go_enter Tryz.func46, Tryz.ntmps46
    go_wp2
    exact HE.out
  ·by_cases hn : n = 0
   ·have HE := J04 (HP.out true ⟨fun _ => .inl ⟨.inl rfl, hn⟩, fun _ => rfl⟩)
    subst hn
    clear HP
    go_enter Tryz.func46, Tryz.ntmps46
    go_wp2
    exact HE.out
   ·have HE := J04 (HP.out false ⟨fun q => by simp at q, fun q => absurd q (fun q => by rcases q with ⟨a, b⟩ | ⟨a, b⟩ | ⟨a, b⟩ | ⟨a, b⟩ | ⟨a, b⟩ <;> first | exact hn b | exact absurd a (by decide))⟩)
    have hi : ((n : Int) == 0) = false := by simp; omega
    clear HP hn
    go_enter Tryz.func46, Tryz.ntmps46
    go_wp2
    exact HE.out
  ·by_cases hn : n = 0
   ·have HE := J04 (HP.out true ⟨fun _ => .inl ⟨.inr (.inl rfl), hn⟩, fun _ => rfl⟩)
    subst hn
    clear HP
    go_enter Tryz.func46, Tryz.ntmps46
    go_wp2
    exact HE.out
   ·have HE := J04 (HP.out false ⟨fun q => by simp at q, fun q => absurd q (fun q => by rcases q with ⟨a, b⟩ | ⟨a, b⟩ | ⟨a, b⟩ | ⟨a, b⟩ | ⟨a, b⟩ <;> first | exact hn b | exact absurd a (by decide))⟩)
    have hi : ((n : Int) == 0) = false := by simp; omega
    clear HP hn
    go_enter Tryz.func46, Tryz.ntmps46
    go_wp2
    exact HE.out
  ·by_cases hn : n = 0
   ·have HE := J04 (HP.out true ⟨fun _ => .inl ⟨.inr (.inr (.inr rfl)), hn⟩, fun _ => rfl⟩)
    subst hn
    clear HP
    go_enter Tryz.func46, Tryz.ntmps46
    go_wp2
    exact HE.out
   ·have HE := J04 (HP.out false ⟨fun q => by simp at q, fun q => absurd q (fun q => by rcases q with ⟨a, b⟩ | ⟨a, b⟩ | ⟨a, b⟩ | ⟨a, b⟩ | ⟨a, b⟩ <;> first | exact hn b | exact absurd a (by decide))⟩)
    have hi : ((n : Int) == 0) = false := by simp; omega
    clear HP hn
    go_enter Tryz.func46, Tryz.ntmps46
    go_wp2
    exact HE.out
  ·by_cases hn : n = 0
   ·have HE := J04 (HP.out true ⟨fun _ => .inl ⟨.inr (.inr (.inl rfl)), hn⟩, fun _ => rfl⟩)
    subst hn
    clear HP
    go_enter Tryz.func46, Tryz.ntmps46
    go_wp2
    exact HE.out
   ·have HE := J04 (HP.out false ⟨fun q => by simp at q, fun q => absurd q (fun q => by rcases q with ⟨a, b⟩ | ⟨a, b⟩ | ⟨a, b⟩ | ⟨a, b⟩ | ⟨a, b⟩ <;> first | exact hn b | exact absurd a (by decide))⟩)
    have hi : ((n : Int) == 0) = false := by simp; omega
    clear HP hn
    go_enter Tryz.func46, Tryz.ntmps46
    go_wp2
    exact HE.out
 ·have HE := J04 (HP.out false ⟨fun q => by simp at q, fun q => absurd q (fun q => hw (by
   unfold J45
   rcases q with ⟨a, b⟩ | ⟨a, b⟩ | ⟨a, b⟩ | ⟨a, b⟩ | ⟨a, b⟩ <;> first | (rcases a with a | a | a | a <;> simp [a]) | (rcases a with a | a <;> simp [a]) | simp [a]))⟩)
  obtain ⟨n1, n2, n3, n4, n5, n6, n7, n8, n9, n10⟩ := Jey hw
  obtain ⟨ss, Hss⟩ : ∃ x, Hid (txt h = x) := ⟨_, rfl⟩
  obtain ⟨u0, t0⟩ := J3c Hss.out [114, 101, 103, 105, 111, 110] n1
  obtain ⟨u1, t1⟩ := J3c Hss.out [102, 105, 108, 108] n2
  obtain ⟨u2, t2⟩ := J3c Hss.out [108, 111, 111, 107] n3
  obtain ⟨u3, t3⟩ := J3c Hss.out [105, 110, 115] n4
  obtain ⟨u4, t4⟩ := J3c Hss.out [114, 117, 110] n5
  obtain ⟨u5, t5⟩ := J3c Hss.out [97, 104, 101, 97, 100] n6
  obtain ⟨u6, t6⟩ := J3c Hss.out [99, 104, 101, 99, 107] n7
  obtain ⟨u7, t7⟩ := J3c Hss.out [104, 97, 114, 100] n8
  obtain ⟨u8, t8⟩ := J3c Hss.out [116, 101, 120, 116] n9
  obtain ⟨u9, t9⟩ := J3c Hss.out [108, 111, 97, 100] n10
  rw [Hss.out]
  clear HP hw n1 n2 n3 n4 n5 n6 n7 n8 n9 n10
  go_enter Tryz.func46, Tryz.ntmps46
  go_wp2
  exact HE.out
theorem Jkv {l row : List Int} {k : Nat} {v : Int} (hv : l[k]? = some v) (hk : k < row.length) : (over (l.take k) row).set k v = over (l.take (k + 1)) row := by
 have hl : k < l.length := (List.getElem?_eq_some_iff.1 hv).1
 have h1 : (l.take k).length = k := by simp; omega
 have h2 : (l.take (k + 1)).length = k + 1 := by simp; omega
 unfold over
 rw [h1, h2, List.take_add_one, hv]
 apply List.ext_getElem?
 intro j
 rw [List.getElem?_set]
 by_cases e : k = j
 ·subst e
  rw [if_pos rfl, if_pos (by simp; omega), List.getElem?_append_left (by simp; omega), List.getElem?_append_right (by omega), h1]
  simp
 ·rw [if_neg e]
  by_cases c : j < k
  ·rw [List.getElem?_append_left (by omega), List.getElem?_append_left (by simp; omega), List.getElem?_append_left (by omega)]
  ·rw [List.getElem?_append_right (by omega), List.getElem?_append_right (by simp; omega), List.getElem?_drop, List.getElem?_drop]
   congr 1
   simp
   omega
theorem Jku (row : List Int) : over [] row = row := rfl
theorem SIn.other {w : World} {sa : Option Addr} {sb so : Nat} {l : List Int} (h : SIn w sa sb so l) {T : TypeId} (ht : 0 < l.length → OfType w (some sb) T) {g : Nat} {c : Array Value} {U : TypeId} (hb : Blk w g c U) (ne : T ≠ U) (j : Nat) (v : Value) : SIn (w.setCell ⟨g, j, none⟩ v) sa sb so l ∧ (0 < l.length → OfType (w.setCell ⟨g, j, none⟩ v) (some sb) T) := by
 have hne : 0 < l.length → ¬ sb = g := fun h0 e => by
  obtain ⟨c', fz, q⟩ := ht h0 sb rfl
  subst e
  unfold Blk at hb
  rw [hb] at q
  injection (Option.some.inj q) with _ k _
  exact ne k.symm
 refine ⟨⟨h.ha, fun i x hx => ?_⟩, fun h0 => (ht h0).keptT (J0k _ _ _ _) hb.ofType (fun e => ne e.symm)⟩
 have h0 : 0 < l.length := Nat.lt_of_le_of_lt (Nat.zero_le _) (List.getElem?_eq_some_iff.1 hx).1
 exact (J0k w g j v).cell (h.cells i x hx) (fun e => hne h0 (Option.some.inj e))

set_option maxHeartbeats 4000000 in
theorem Jfg {B G : Nat} {x : Sta} {rv cv mv : Value} (r : Int) (l : List Int) (sa : Option Addr) (sb so sn sc : Nat) (w : World) (h : Dp B G x rv cv mv w) (hw : Wf x) (hL : l.length = sn) (hn : sn ≤ 100000) (hs : SIn w sa sb so l) (ht0 : 0 < l.length → OfType w (some sb) 3) :
  Calls Tryz.prog 48 #[.pointer (some ⟨G, 0, none⟩), V r, .slice sa sn sc] w fun e w' => ∃ y a, e = .returned (.string (txt a)) ∧ J95 (r :: l) x y a ∧ DAns B G w y w' := by
 suffices hP : ∀ P : Ending → World → Prop, (∀ y a w', J95 (r :: l) x y a → DAns B G w y w' → P (.returned (.string (txt a))) w') → Calls Tryz.prog 48 #[.pointer (some ⟨G, 0, none⟩), V r, .slice sa sn sc] w P from hP _ (fun y a w' h m => ⟨y, a, rfl, h, m⟩)
 intro P hP0
 have HP : Hid (∀ y a w', J95 (r :: l) x y a → DAns B G w y w' → P (.returned (.string (txt a))) w') := hP0
 have CH := J04 (Jbb r w h)
 clear hP0
 by_cases ht : There x r
 ·rw [(J4w hw r).2 ht] at CH
  obtain ⟨gs, hgs⟩ := h.mem
  obtain ⟨ml, rfl, _⟩ := hgs.raw
  obtain ⟨rn, rfl⟩ := Int.eq_ofNat_of_zero_le ht.1
  have hrn : rn < x.ms.length := by have := ht.2; omega
  obtain ⟨mb, g, row, hma, _, hg, hl, hgl, hcell, hblk⟩ := Jii hgs hrn
  have b2 : w.cell? ⟨G, 2, none⟩ = some (.slice ml.ma x.ms.length ml.mc) := h.blk.cell rfl
  rw [hma] at b2
  have h64 := hw.len row (List.mem_of_getElem? hl)
  have hr0 : (0 : Int) ≤ rn := by omega
  have hr1 : (rn : Int) < x.ms.length := by omega
  obtain ⟨mn, Hmn⟩ : ∃ z, Hid (x.ms.length = z) := ⟨_, rfl⟩
  obtain ⟨mc, Hmc⟩ : ∃ z, Hid (ml.mc = z) := ⟨_, rfl⟩
  obtain ⟨ln, Hln⟩ : ∃ z, Hid (row.length = z) := ⟨_, rfl⟩
  rw [Hmn.out] at b2 hr1
  rw [Hmc.out] at b2
  rw [Hln.out] at hcell h64
  by_cases hlen : sn ≤ ln
  ·have hlen' : ¬ (ln : Int) < (sn : Int) := by omega
   have dlen : decide ((ln : Int) < (sn : Int)) = false := decide_eq_false hlen'
   have HE : Hid (∀ w', DAns B G w ⟨x.rs, x.cs, x.ms.set rn (over l row)⟩ w' → P (.returned (.string ⟨#[111, 107]⟩)) w') := fun w' hd => HP.out _ okW w' (.inl ⟨(rn : Int), l, rfl, ht, by rw [Int.toNat_natCast, hgl, Hln.out, hL]; exact hlen, by rw [Int.toNat_natCast, hgl], rfl⟩) hd
   have HI : Hid (∀ k wr, (∃ rv cv, Dp B G ⟨x.rs, x.cs, x.ms.set rn (over (l.take k) row)⟩ rv cv (.slice ml.ma x.ms.length ml.mc) wr) → Words B gs (x.ms.set rn (over (l.take k) row)) (.slice ml.ma x.ms.length ml.mc) wr → k ≤ sn → wr.cell? ⟨G, 2, none⟩ = some (.slice (some ⟨mb, 0, none⟩) mn mc) ∧ wr.cell? ⟨mb, rn, none⟩ = some (.slice (some ⟨g, 0, none⟩) ln ln) ∧ Blk wr g (J2j (over (l.take k) row)) 2) := fun k wr hd hk hks => by
    obtain ⟨rv, cv, hd⟩ := hd
    have e1 := hd.blk.cell (j := 2) rfl
    have hset : (x.ms.set rn (over (l.take k) row))[rn]? = some (over (l.take k) row) := by rw [List.getElem?_set]; simp [hrn]
    obtain ⟨mb', g', row', a1, a2, a3, a4, a5, a6, a7⟩ := Jii (i := rn) hk (by simpa using hrn)
    rw [hma] at a1
    cases a1
    rw [hg] at a3
    obtain rfl := Option.some.inj a3
    rw [hset] at a4
    obtain rfl := Option.some.inj a4
    have hol : (over (l.take k) row).length = ln := by
     rw [J5g (by rw [Hln.out]; simp; omega), Hln.out]
    rw [hol] at a6
    rw [hma, Hmn.out, Hmc.out] at e1
    exact ⟨e1, a6, a7⟩
   have H : Hid (l.length = sn ∧ gs[rn]? = some g ∧ rn < x.ms.length ∧ row.length = ln ∧ x.ms[rn]? = some row) := ⟨hL, hg, hrn, Hln.out, hl⟩
   have H0 : Hid ((∃ rv cv, Dp B G ⟨x.rs, x.cs, x.ms.set rn (over (l.take 0) row)⟩ rv cv (.slice ml.ma x.ms.length ml.mc) w) ∧ Words B gs (x.ms.set rn (over (l.take 0) row)) (.slice ml.ma x.ms.length ml.mc) w ∧ SIn w sa sb so l ∧ (0 < l.length → OfType w (some sb) 3) ∧ Below G w w ∧ Spar w w) := by
    have e : x.ms.set rn (over (l.take 0) row) = x.ms := by
     have hg2 : x.ms[rn] = row := (List.getElem?_eq_some_iff.1 hl).2
     show x.ms.set rn (over [] row) = x.ms
     rw [Jku, ← hg2, List.set_getElem_self]
    rw [e]
    exact ⟨⟨_, _, h⟩, hgs, hs, ht0, Below.refl _ _, Spar.of (More.refl _)⟩
   clear HP h hgs hw ht hg hl hgl hma hs ht0 hblk hrn hL hcell b2
   have b2 := (HI.out 0 w H0.out.1 H0.out.2.1 (Nat.zero_le _)).1
   have b3 := (HI.out 0 w H0.out.1 H0.out.2.1 (Nat.zero_le _)).2.1
   go_enter Tryz.func48, Tryz.ntmps48
   go_wp2_with (fail)
   refine CH.out.mono ?_
   rintro e w1 ⟨rfl, rfl⟩
   clear CH
   go_wp2_with (fail)
   go_loopg [28] sn (fun g' kv wr => ∃ k : Nat, k + g' = sn ∧ kv = V k ∧ Hid ((∃ rv cv, Dp B G ⟨x.rs, x.cs, x.ms.set rn (over (l.take k) row)⟩ rv cv (.slice ml.ma x.ms.length ml.mc) wr) ∧ Words B gs (x.ms.set rn (over (l.take k) row)) (.slice ml.ma x.ms.length ml.mc) wr ∧ SIn wr sa sb so l ∧ (0 < l.length → OfType wr (some sb) 3) ∧ Below G w1 wr ∧ Spar w1 wr))
   case atStart => exact ⟨0, by omega, rfl, H0.out⟩
   case round =>
    obtain ⟨k, hkg, rfl, Hr⟩ := hrel
    clear H0 b2 b3
    cases gk with
    | zero =>
     obtain rfl : k = sn := by omega
     have HF : Hid (P (.returned (.string ⟨#[111, 107]⟩)) wr) := by
      obtain ⟨⟨rv, cv, a1⟩, a2, a3, a4, a5, a6⟩ := Hr.out
      rw [List.take_of_length_le (by rw [H.out.1]; exact Nat.le_refl _)] at a1
      exact HE.out wr ⟨⟨_, _, _, a1⟩, a5, a6⟩
     clear HE HI Hr
     go_wp2
     exact HF.out
    | succ g' =>
     have hk : k < sn := by omega
     have hki : (k : Int) < sn := by omega
     have hk0 : (0 : Int) ≤ k := by omega
     have hkl : (k : Int) < ln := by omega
     have hk63 : wrap64 ((k : Int) + 1) = (k : Int) + 1 := by unfold wrap64; omega
     obtain ⟨b2, b3, b4⟩ := HI.out k wr Hr.out.1 Hr.out.2.1 (by omega)
     have HB4 := J04 b4
     obtain ⟨v, Hv⟩ : ∃ v, Hid (l[k]? = some v) := ⟨_, List.getElem?_eq_getElem (by rw [H.out.1]; exact hk)⟩
     obtain rfl := Hr.out.2.2.1.ha (by rw [H.out.1]; omega)
     have q := Hr.out.2.2.1.cells k v Hv.out
     have hol : (over (l.take k) row).length = ln := by
      have h1 := H.out.2.2.2.1
      rw [J5g (by rw [h1]; simp; omega), h1]
     have c4 : wr.cell? ⟨g, k, none⟩ = some (V ((over (l.take k) row)[k]'(by omega))) := b4.cell (by simp [J2j, hol])
     have f4 := b4.frozen k
     have HN : Hid ((∃ rv cv, Dp B G ⟨x.rs, x.cs, x.ms.set rn (over (l.take (k + 1)) row)⟩ rv cv (.slice ml.ma x.ms.length ml.mc) (wr.setCell ⟨g, k, none⟩ (V v))) ∧ Words B gs (x.ms.set rn (over (l.take (k + 1)) row)) (.slice ml.ma x.ms.length ml.mc) (wr.setCell ⟨g, k, none⟩ (V v)) ∧ SIn (wr.setCell ⟨g, k, none⟩ (V v)) (some ⟨sb, so, none⟩) sb so l ∧ (0 < l.length → OfType (wr.setCell ⟨g, k, none⟩ (V v)) (some sb) 3) ∧ Below G w1 (wr.setCell ⟨g, k, none⟩ (V v)) ∧ Spar w1 (wr.setCell ⟨g, k, none⟩ (V v))) := by
      obtain ⟨⟨rv, cv, a1⟩, a2, a3, a4, a5, a6⟩ := Hr.out
      have hset : (x.ms.set rn (over (l.take k) row))[rn]? = some (over (l.take k) row) := by
       have := H.out.2.2.1
       rw [List.getElem?_set]; simp [this]
      have hp := a1.put (j := k) gs a2 H.out.2.1 hset (by omega) v
      rw [List.set_set, Jkv Hv.out (by have := H.out.2.2.2.1; omega)] at hp
      have hso := a3.other a4 HB4.out (by decide) k (V v)
      have hgB := (a2.blk rn g _ H.out.2.1 hset).1
      exact ⟨⟨rv, cv, hp.1⟩, hp.2, hso.1, hso.2, a5.setCell (p := ⟨g, k, none⟩) (by have := a1.lo; show G ≤ g; omega) _, a6.set HB4.out own5W _ _⟩
     clear HE HI Hr b4 HB4
     go_wp2
     go_roundg g'
     case measure => omega
     case rel => exact ⟨k + 1, by omega, by first | rfl | simp [hk63], HN.out⟩
  ·have hlen' : (ln : Int) < (sn : Int) := by omega
   have dlen : decide ((ln : Int) < (sn : Int)) = true := decide_eq_true hlen'
   have HF : Hid (P (.returned (.string ⟨#[63]⟩)) w) := HP.out x [63] w (.inr ⟨fun ⟨r', l', e, t', c'⟩ => by
    cases e
    rw [Int.toNat_natCast, hgl, Hln.out, hL] at c'
    omega, rfl, rfl⟩) (DAns.same h (More.refl _))
   rw [hma] at h
   clear HP h hgs hw ht hg hl hgl hma hs ht0 hblk hrn hL
   go_enter Tryz.func48, Tryz.ntmps48
   go_wp2_with (fail)
   refine CH.out.mono ?_
   rintro e w1 ⟨rfl, rfl⟩
   clear CH
   go_wp2
   exact HF.out
 ·have e : hasB x r = false := by
   cases q : hasB x r with
   | false => rfl
   | true => exact absurd ((J4w hw r).1 q) ht
  rw [e] at CH
  have HE : Hid (P (.returned (.string ⟨#[63]⟩)) w) := HP.out x [63] w (.inr ⟨fun ⟨r', l', e, t, _⟩ => by cases e; exact ht t, rfl, rfl⟩) (DAns.same h (More.refl _))
  clear HP h hw ht e hs ht0
  go_enter Tryz.func48, Tryz.ntmps48
  go_wp2_with (fail)
  refine CH.out.mono ?_
  rintro e w1 ⟨rfl, rfl⟩
  clear CH
  go_wp2
  exact HE.out
theorem Jnw : (Tryz.prog.info? 41).map (fun i => (i.zero, i.size, i.bytes)) = some (some (.agg #[V 0, V 0, V 0, V 0, V 0]), 5, 40) := by kernel_rfl

set_option maxHeartbeats 4000000 in
theorem Jax {B G : Nat} {x : Sta} {rv cv mv : Value} (o a b c n : Int) (w : World) (h : Dp B G x rv cv mv w) (hw : Wf x) (HL0 : LaiG G w) :
  Calls Tryz.prog 49 #[.pointer (some ⟨G, 0, none⟩), .agg #[V o, V a, V b, V c, V n]] w fun e w' => ∃ y r, e = .returned (.string (txt r)) ∧ insTo [o, a, b, c, n] x y r ∧ DAns B G w y w' := by
 suffices hP : ∀ P : Ending → World → Prop, (∀ y r w', insTo [o, a, b, c, n] x y r → DAns B G w y w' → P (.returned (.string (txt r))) w') → Calls Tryz.prog 49 #[.pointer (some ⟨G, 0, none⟩), .agg #[V o, V a, V b, V c, V n]] w P from hP _ (fun y a w' h m => ⟨y, a, rfl, h, m⟩)
 intro P hP0
 have HP : Hid (∀ y r w', insTo [o, a, b, c, n] x y r → DAns B G w y w' → P (.returned (.string (txt r))) w') := hP0
 have HL : Hid (LaiG G w) := HL0
 clear hP0
 obtain ⟨lp, rfl, rfl, _⟩ := h.pin
 have H : Hid (Dp B G x (.slice lp.ra x.rs.length lp.rc) (.slice lp.ca x.cs.length lp.cc) mv w) := h
 obtain ⟨ca, Hca⟩ : ∃ z, Hid (lp.ca = z) := ⟨_, rfl⟩
 obtain ⟨cc, Hcc⟩ : ∃ z, Hid (lp.cc = z) := ⟨_, rfl⟩
 obtain ⟨cl, Hcl⟩ : ∃ z, Hid (x.cs.length = z) := ⟨_, rfl⟩
 obtain ⟨rv, Hrv⟩ : ∃ z, Hid (Value.slice lp.ra x.rs.length lp.rc = z) := ⟨_, rfl⟩
 rw [Hrv.out, Hca.out, Hcc.out, Hcl.out] at H
 have hc6 := hw.cl
 rw [Hcl.out] at hc6
 obtain ⟨W, HW⟩ : ∃ w_ : World, Hid (w_ = w.alloc (.cells #[V o, V a, V b, V c, V n] 41)) := ⟨_, rfl⟩
 have HmW : Hid (More w W) := HW.out ▸ (More.refl _).alloc _ _
 have HbW : Hid (Blk W w.heap.size #[V o, V a, V b, V c, V n] 41) := HW.out ▸ Blk.last _ _ _
 have HQ : Hid (Dp B G x rv (.slice ca cl cc) mv W) := H.out.more HmW.out
 obtain ⟨N, HN⟩ : ∃ z, Hid (w.heap.size = z) := ⟨_, rfl⟩
 have hNG : ¬ N = G := by have := H.out.blk.lt; rw [← HN.out]; omega
 rw [HN.out] at HbW
 have b1 : W.cell? ⟨G, 1, none⟩ = some (.slice ca cl cc) := HQ.out.blk.cell rfl
 have b1w : w.cell? ⟨G, 1, none⟩ = some (.slice ca cl cc) := H.out.blk.cell rfl
 have hGw : G < w.heap.size := H.out.blk.lt
 clear h hw HL0 Hrv
 by_cases hlt : cl < 200
 ·have d : decide ((200 : Int) ≤ (cl : Int)) = false := decide_eq_false (by omega)
  have hn2 : ¬ (200 : Int) ≤ (cl : Int) := by omega
  have HG : Hid (∀ y r w', y = ⟨x.rs, x.cs ++ [⟨o, a, b, c, n⟩], x.ms⟩ → r = ansL okW [(cl : Int) + 1] → DAns B G w y w' → P (.returned (.string (txt r))) w') := fun y r w' e1 e2 => HP.out y r w' (.inl ⟨o, a, b, c, n, rfl, by rw [Hcl.out]; exact hlt, e1, by rw [Hcl.out]; exact e2⟩)
  clear HP
  obtain ⟨j0, hj1, hj2, hj3, hj4⟩ := info_parts Jnw
  have Hj : Hid (Tryz.prog.info? 41 = some j0 ∧ j0.zero = some (.agg #[V 0, V 0, V 0, V 0, V 0]) ∧ j0.size = 5 ∧ j0.bytes = 40) := ⟨hj1, hj2, hj3, hj4⟩
  clear hj1 hj2 hj3 hj4
  obtain ⟨S, HS⟩ : ∃ S : World → Prop, Hid (∀ w', S w' ↔ (w'.cell? ⟨G, 1, none⟩ = some (.slice ca cl cc) ∧ Blk w' N #[V o, V a, V b, V c, V n] 41)) := ⟨_, fun _ => Iff.rfl⟩
  have k0 : ∀ i : { w' // S w' }, i.val.cell? ⟨G, 1, none⟩ = some (.slice ca cl cc) := fun i => ((HS.out _).1 i.property).1
  have k1 : ∀ i : { w' // S w' }, i.val.cell? ⟨N, 0, none⟩ = some (V o) := fun i => ((HS.out _).1 i.property).2.cell rfl
  have k2 : ∀ i : { w' // S w' }, i.val.cell? ⟨N, 1, none⟩ = some (V a) := fun i => ((HS.out _).1 i.property).2.cell rfl
  have k3 : ∀ i : { w' // S w' }, i.val.cell? ⟨N, 2, none⟩ = some (V b) := fun i => ((HS.out _).1 i.property).2.cell rfl
  have k4 : ∀ i : { w' // S w' }, i.val.cell? ⟨N, 3, none⟩ = some (V c) := fun i => ((HS.out _).1 i.property).2.cell rfl
  have k5 : ∀ i : { w' // S w' }, i.val.cell? ⟨N, 4, none⟩ = some (V n) := fun i => ((HS.out _).1 i.property).2.cell rfl
  have hS : S W.drew := (HS.out _).2 ⟨b1, HbW.out.drew⟩
  have hne : Nonempty { w' // S w' } := ⟨⟨_, hS⟩⟩
  obtain ⟨W2, HW2⟩ : ∃ w_ : World, Hid (w_ = (W.alloc (.cells #[V o, V a, V b, V c, V n] 41)).drew) := ⟨_, rfl⟩
  have Hm2 : Hid (More W W2) := HW2.out ▸ ((More.refl _).alloc _ _).drew
  have HQ2 : Hid (Dp B G x rv (.slice ca cl cc) mv W2) := HQ.out.more Hm2.out
  have Hown : Hid (W2.ownsRow B 41 5 (.slice ca cl cc) cl (celI x.cs)) := by
   have := HQ2.out.ownC
   rw [Hcl.out] at this
   exact this
  have Hnews : Hid (∀ i u, (celI [⟨o, a, b, c, n⟩])[i]? = some u → W2.cell? ((⟨W.heap.size, 0, none⟩ : Addr).add i) = some u) := by
   have hb : Blk W2 W.heap.size #[V o, V a, V b, V c, V n] 41 := by
    rw [HW2.out]
    exact (Blk.last W _ _).drew
   exact fun i u hu => World.news_of_block hb i u hu
  have Hsz : Hid (B ≤ W2.heap.size) := by have := HQ2.out.blk.lt; have := HQ2.out.lo; show _ ≤ _; omega
  obtain ⟨NW, HNW⟩ : ∃ z, Hid (W.heap.size = z) := ⟨_, rfl⟩
  have hzz : w.heap.size + 1 = NW := by rw [← HNW.out, HW.out]; simp
  rw [HNW.out] at Hnews
  go_enter Tryz.func49, Tryz.ntmps49
  go_wp2_with (fail)
  rw [← HW.out]
  rw [HN.out]
  refine J4s (S := S) [9, 10] [(0, true), (1, true), (2, true), (3, true), (4, true), (5, true), (6, true), (7, false), (8, false), (9, true), (10, true), (11, true), (12, false)] (by kernel_rfl) (by kernel_rfl) (by kernel_rfl) hS ?_
  iterate 7 (refine J42 rfl (by kernel_rfl) (by kernel_rfl) (fun K hK => ?_); go_simp; refine hK _ _ ?_; clear hK K)
  clear k0 k1 k2 k3 k4 k5
  refine J2x rfl (by kernel_rfl) (fun K hK => ?_)
  go_simp
  refine hK _ _ ((HS.out _).2 ⟨((More.refl W).alloc _ _).drew.cell b1, HbW.out.more ((More.refl W).alloc _ _).drew⟩) ?_
  clear hK K
  rw [← HW2.out]
  rw [HNW.out]
  refine J2x rfl (by kernel_rfl) (fun K hK => ?_)
  refine wp_append_lies _ (.tmp 17) (.tmp 19) 26 rfl B 41 j0 (.agg #[V 0, V 0, V 0, V 0, V 0]) 5 40 Tryz.underlying26 Hj.out.1 Hj.out.2.1 Hj.out.2.2.1 Hj.out.2.2.2 rfl (by decide) (.slice ca cl cc) cl (celI x.cs) rfl Hown.out ⟨NW, 0, none⟩ 1 1 (celI [⟨o, a, b, c, n⟩]) rfl (by rw [J3r]; rfl) Hnews.out (Jeg _) (by decide) (by unfold maxLen; omega) (by omega) Hsz.out _ rfl ?_
  intro g3 cap3 w5 own3 gr3 hat3 hlt3
  have hty := J2d Hown.out
  have B3 : Blk w5 G #[rv, .slice ca cl cc, mv] 63 := HQ2.out.blk.keptT gr3 hty (by decide)
  have y1 := B3.cell (j := 1) rfl
  have y2 := B3.frozen 1
  have B5 : Blk w5 N #[V o, V a, V b, V c, V n] 41 := by
   have q := HbW.out.more Hm2.out
   refine (gr3.block N q.lt (fun e => ?_)).trans q
   have := (H.out.ownC.lt N e.symm).2
   have := HN.out
   omega
  have Hr3 : Hid (Dp B G ⟨x.rs, x.cs ++ [⟨o, a, b, c, n⟩], x.ms⟩ rv (.slice (some ⟨g3, 0, none⟩) (cl + 1) cap3) mv (w5.setCell ⟨G, 1, none⟩ (.slice (some ⟨g3, 0, none⟩) (cl + 1) cap3))) := HQ2.out.addC gr3 (by rw [Hcl.out]; exact own3)
  have Hb5 : Hid (Below G w (w5.setCell ⟨G, 1, none⟩ (.slice (some ⟨g3, 0, none⟩) (cl + 1) cap3))) := HQ2.out.below (Below.mono (HmW.out.trans Hm2.out) (Nat.le_of_lt H.out.blk.lt)) gr3 (fun k e => (Hown.out.lt k e).1) _ _
  have Hs5 : Hid (Spar w (w5.setCell ⟨G, 1, none⟩ (.slice (some ⟨g3, 0, none⟩) (cl + 1) cap3))) := ((Spar.of (HmW.out.trans Hm2.out)).grown gr3 hty own5I).set B3 own5P _ _
  refine hK _ _ ((HS.out _).2 ⟨y1, B5⟩) ?_
  clear hK K own3 gr3 hat3 hlt3 hty B5
  have hnw : Nonempty World := ⟨w⟩
  iterate 2 (refine J8l rfl (by kernel_rfl) (fun K hK => ?_); go_simp; refine hK _ _ ?_; clear hK K)
  clear hnw
  refine J42 rfl (by kernel_rfl) (by kernel_rfl) (fun K hK => ?_); go_simp; refine hK _ _ ?_; clear hK K
  refine J8k rfl (by kernel_rfl) (by kernel_rfl) (fun K hK => ?_)
  go_simp
  refine hK _ _ ?_
  clear hK K hne hS
  refine NoPanic.normal ?_
  obtain ⟨w6, Hw6⟩ : ∃ w_, Hid (w_ = w5.setCell ⟨G, 1, none⟩ (.slice (some ⟨g3, 0, none⟩) (cl + 1) cap3)) := ⟨_, rfl⟩
  rw [← Hw6.out] at Hr3 Hb5 Hs5 ⊢
  clear y1 y2 B3 b1 b1w
  have e0 : w6.cell? ⟨G, 1, none⟩ = some (.slice (some ⟨g3, 0, none⟩) (cl + 1) cap3) := Hr3.out.blk.cell rfl
  have HL6 : Hid (Lai w6) := (HL.out.low Hb5.out).toLai
  have CD : Hid (∀ (w1 : World) (b : Nat) (T : TypeId), More w6 w1 → Blk w1 b #[V ((cl : Int) + 1)] T → Calls Tryz.prog 88 #[.string ⟨#[111, 107]⟩, .slice (some ⟨b, 0, none⟩) 1 1] w1 fun e w' => e = .returned (.string (txt (ansL okW [(cl : Int) + 1]))) ∧ More w1 w') := fun w1 b T m h => J9h okW _ w1 b T (HL6.out.more m) (by decide) (by unfold B64; omega) h
  have HE : Hid (∀ w', More w6 w' → P (.returned (.string (txt (ansL okW [(cl : Int) + 1])))) w') := fun w' mm => HG.out _ _ w' rfl rfl (DAns.more ⟨⟨_, _, _, Hr3.out⟩, Hb5.out, Hs5.out⟩ mm)
  obtain ⟨R, HR⟩ : ∃ R, Hid (txt (ansL okW [(cl : Int) + 1]) = R) := ⟨_, rfl⟩
  rw [HR.out] at CD HE
  clear HG HR
  go_wp2_with (fail)
  have hb := Blk.last w6 #[V ((cl : Int) + 1)] 3
  refine (CD.out _ _ _ ((More.refl _).alloc _ _) hb).mono ?_
  rintro e w11 ⟨rfl, m11⟩
  have Hend : Hid (P (.returned (.string R)) w11) := HE.out w11 (((More.refl _).alloc _ _).trans m11)
  clear m11 HE
  go_wp2
  exact Hend.out
 ·have d : decide ((200 : Int) ≤ (cl : Int)) = true := decide_eq_true (by omega)
  have hn2 : (200 : Int) ≤ (cl : Int) := by omega
  have HE : Hid (P (.returned (.string ⟨#[63]⟩)) W) := HP.out x [63] W (.inr ⟨fun e => hlt (by have := e.2; rw [Hcl.out] at this; exact this), rfl, rfl⟩) (DAns.same H.out HmW.out)
  clear HP hlt
  go_enter Tryz.func49, Tryz.ntmps49
  go_wp2
  rw [← HW.out]
  exact HE.out
set_option maxHeartbeats 4000000 in
theorem J7e {B G : Nat} {x : Sta} {rv cv mv : Value} (u v : Int) (w : World) (h : Dp B G x rv cv mv w) (hw : Wf x) (HL0 : LaiG G w) :
  Calls Tryz.prog 47 #[.pointer (some ⟨G, 0, none⟩), V u, V v] w fun e w' => ∃ y r, e = .returned (.string (txt r)) ∧ J4y [u, v] x y r ∧ DAns B G w y w' := by
 suffices hP : ∀ P : Ending → World → Prop, (∀ y r w', J4y [u, v] x y r → DAns B G w y w' → P (.returned (.string (txt r))) w') → Calls Tryz.prog 47 #[.pointer (some ⟨G, 0, none⟩), V u, V v] w P from hP _ (fun y a w' h m => ⟨y, a, rfl, h, m⟩)
 intro P hP0
 have HP : Hid (∀ y r w', J4y [u, v] x y r → DAns B G w y w' → P (.returned (.string (txt r))) w') := hP0
 have HL : Hid (LaiG G w) := HL0
 clear hP0
 obtain ⟨lp, rfl, _, _⟩ := h.pin
 obtain ⟨gs, hgs⟩ := h.mem
 obtain ⟨ml, rfl, _⟩ := hgs.raw
 clear hgs
 have H : Hid (Dp B G x (.slice lp.ra x.rs.length lp.rc) cv (.slice ml.ma x.ms.length ml.mc) w) := h
 obtain ⟨ra, Hra⟩ : ∃ z, Hid (lp.ra = z) := ⟨_, rfl⟩
 obtain ⟨rc, Hrc⟩ : ∃ z, Hid (lp.rc = z) := ⟨_, rfl⟩
 obtain ⟨rl, Hrl⟩ : ∃ z, Hid (x.rs.length = z) := ⟨_, rfl⟩
 obtain ⟨ma, Hma⟩ : ∃ z, Hid (ml.ma = z) := ⟨_, rfl⟩
 obtain ⟨mc, Hmc⟩ : ∃ z, Hid (ml.mc = z) := ⟨_, rfl⟩
 have hml := hw.ml
 have hr6 := hw.rl
 rw [Hra.out, Hrc.out, Hma.out, Hmc.out, hml, Hrl.out] at H
 rw [Hrl.out] at hr6 hml
 have b0 : w.cell? ⟨G, 0, none⟩ = some (.slice ra rl rc) := H.out.blk.cell rfl
 have hGw : G < w.heap.size := H.out.blk.lt
 clear h hw HL0
 by_cases hbad : Je7 x.rs u v
 ·obtain ⟨u0, u6, v0, v1, r6⟩ := hbad
  have HG : Hid (∀ y r w', y = ⟨x.rs ++ [(u, decide (v = 1))], x.cs, x.ms ++ [List.replicate (2 ^ u.toNat) 0]⟩ → r = ansL okW [(rl : Int) + 1] → DAns B G w y w' → P (.returned (.string (txt r))) w') := fun y r w' e1 e2 => by
   subst e1
   exact HP.out _ r w' (.inl ⟨u, v, rfl, .inr ⟨⟨u0, u6, v0, v1, r6⟩, rfl, rfl, by rw [Hrl.out]; exact e2⟩, rfl⟩)
  rw [Hrl.out] at r6
  have d1 : decide (u < 0) = false := by simp; omega
  have d2 : decide (6 < u) = false := by simp; omega
  have d3 : decide (v < 0) = false := by simp; omega
  have d4 : decide (1 < v) = false := by simp; omega
  have d5 : decide ((6 : Int) ≤ (rl : Int)) = false := by simp; omega
  clear HP
  obtain ⟨un, rfl⟩ := Int.eq_ofNat_of_zero_le u0
  have hx6 : un ≤ 6 := by omega
  obtain ⟨vb, Hvb⟩ : ∃ vb : Bool, Hid (decide (v = 1) = vb ∧ (v == 1) = vb) := ⟨decide (v = 1), rfl, rfl⟩
  have hvb : (v == 1) = vb := Hvb.out.2
  obtain ⟨j0, hj1, hj2, hj3, hj4⟩ := info_parts Jny
  have Hj : Hid (Tryz.prog.info? 76 = some j0 ∧ j0.zero = some (.agg #[V 0, .bool false]) ∧ j0.size = 2 ∧ j0.bytes = 16) := ⟨hj1, hj2, hj3, hj4⟩
  clear hj1 hj2 hj3 hj4
  obtain ⟨W, HW⟩ : ∃ w_ : World, Hid (w_ = w.alloc (.cells #[V un, .bool vb] 76)) := ⟨_, rfl⟩
  have HmW : Hid (More w W) := HW.out ▸ (More.refl _).alloc _ _
  have HQ : Hid (Ply 63 B G x.rs x.cs x.ms (.slice ra rl rc) cv (.slice ma rl mc) W) := H.out.more HmW.out
  have Hown : Hid (W.ownsRow B 76 2 (.slice ra rl rc) rl (celR x.rs)) := by
   have := HQ.out.ownR
   rw [Hrl.out] at this
   exact this
  have Hnews : Hid (∀ i t, (celR [((un : Int), vb)])[i]? = some t → W.cell? ((⟨w.heap.size, 0, none⟩ : Addr).add i) = some t) := by
   have hb : Blk W w.heap.size #[V un, .bool vb] 76 := by
    rw [HW.out]
    exact Blk.last _ _ _
   exact fun i t ht => World.news_of_block hb i t ht
  have Hsz : Hid (B ≤ W.heap.size) := by have := HQ.out.blk.lt; have := HQ.out.lo; show _ ≤ _; omega
  have Hnx : Hid (∀ g3 cap3 w5, w5.ownsRow B 76 2 (.slice (some ⟨g3, 0, none⟩) (rl + 1) cap3) (rl + 1) (celR x.rs ++ celR [((un : Int), vb)]) → W.grownBy w5 (Value.slice ra rl rc).ownBlock → w5.cell? ⟨G, 0, none⟩ = some (.slice ra rl rc) ∧ w5.frozen? ⟨G, 0, none⟩ = false ∧ G < w5.heap.size ∧ Hid (Ply 63 B G (x.rs ++ [((un : Int), vb)]) x.cs x.ms (.slice (some ⟨g3, 0, none⟩) (rl + 1) cap3) cv (.slice ma rl mc) (w5.setCell ⟨G, 0, none⟩ (.slice (some ⟨g3, 0, none⟩) (rl + 1) cap3)) ∧ Below G w (w5.setCell ⟨G, 0, none⟩ (.slice (some ⟨g3, 0, none⟩) (rl + 1) cap3)) ∧ Spar w (w5.setCell ⟨G, 0, none⟩ (.slice (some ⟨g3, 0, none⟩) (rl + 1) cap3)))) := fun g3 cap3 w5 own3 gr3 => by
   have hty := J2d Hown.out
   have B3 : Blk w5 G #[.slice ra rl rc, cv, .slice ma rl mc] 63 := HQ.out.blk.keptT gr3 hty (by decide)
   exact ⟨B3.cell (j := 0) rfl, B3.frozen 0, B3.lt, HQ.out.addR gr3 (by rw [Hrl.out]; exact own3), HQ.out.below (Below.mono HmW.out (Nat.le_of_lt H.out.blk.lt)) gr3 (fun k e => (Hown.out.lt k e).1) _ _, ((Spar.of HmW.out).grown gr3 hty own5R).set B3 own5P _ _⟩
  go_enter Tryz.func47, Tryz.ntmps47
  go_wp2_with (at_builtin; rw [← HW.out]; refine wpList_append_lies _ rfl (.tmp 35) (.tmp 40) 25 rfl B 76 j0 (.agg #[V 0, .bool false]) 2 16 Tryz.underlying25 Hj.out.1 Hj.out.2.1 Hj.out.2.2.1 Hj.out.2.2.2 rfl (by decide) (.slice ra rl rc) rl (celR x.rs) rfl Hown.out ⟨w.heap.size, 0, none⟩ 1 1 (celR [((un : Int), vb)]) rfl (by rw [J3s]; rfl) Hnews.out (Jei _) (by decide) (by unfold maxLen; omega) (by omega) Hsz.out W.heap.size rfl ?_; intro g3 cap3 w5 own3 gr3 hat3 hlt3; obtain ⟨y1, y2, y3, Hy⟩ := Hnx.out g3 cap3 w5 own3 gr3; clear own3 gr3 hat3 hlt3)
  obtain ⟨w6, Hw6⟩ : ∃ w_, Hid (w_ = w5.setCell ⟨G, 0, none⟩ (.slice (some ⟨g3, 0, none⟩) (rl + 1) cap3)) := ⟨_, rfl⟩
  rw [← Hw6.out] at Hy ⊢
  clear y1 y2 y3 b0 Hnx Hnews Hown
  obtain ⟨nw, Hnw⟩ : ∃ nw : Nat, Hid (nw = 2 ^ un ∧ 1 ≤ nw ∧ nw ≤ 64) := by
   refine ⟨2 ^ un, rfl, ?_⟩
   have : un = 0 ∨ un = 1 ∨ un = 2 ∨ un = 3 ∨ un = 4 ∨ un = 5 ∨ un = 6 := by omega
   rcases this with rfl | rfl | rfl | rfl | rfl | rfl | rfl <;> decide
  have hsh : IntKind.i64.wrap ((2 : Int) ^ un) = (nw : Int) := by
   rw [Hnw.out.1]
   have : un = 0 ∨ un = 1 ∨ un = 2 ∨ un = 3 ∨ un = 4 ∨ un = 5 ∨ un = 6 := by omega
   rcases this with rfl | rfl | rfl | rfl | rfl | rfl | rfl <;> decide
  obtain ⟨gs2, hgs2⟩ := Hy.out.1.mem
  have Hgs2 : Hid (Words B gs2 x.ms (.slice ma rl mc) w6) := hgs2
  clear hgs2
  obtain ⟨i0, hi1, hi2, hi3, hi4⟩ := info_parts Jnx
  have Hi : Hid (Tryz.prog.info? 35 = some i0 ∧ i0.zero = some (.slice none 0 0) ∧ i0.size = 1 ∧ i0.bytes = 24) := ⟨hi1, hi2, hi3, hi4⟩
  clear hi1 hi2 hi3 hi4
  have hmk := run_make_row' (P := Tryz.prog) 35 2 (V 0) 8 Tryz.underlying35 info2 rfl .i64 .i64 nw (by have := Hnw.out; omega) (by have := Hnw.out; omega)
  have c2 : w6.cell? ⟨G, 2, none⟩ = some (.slice ma rl mc) := Hy.out.1.blk.cell rfl
  obtain ⟨S, HS⟩ : ∃ S : World → Prop, Hid (∀ w', S w' ↔ w'.cell? ⟨G, 2, none⟩ = some (.slice ma rl mc)) := ⟨_, fun _ => Iff.rfl⟩
  have k0 : ∀ i : { w' // S w' }, i.val.cell? ⟨G, 2, none⟩ = some (.slice ma rl mc) := fun i => (HS.out _).1 i.property
  have hS : S w6.drew := (HS.out _).2 c2
  have hne : Nonempty { w' // S w' } := ⟨⟨_, hS⟩⟩
  obtain ⟨W8, HW8⟩ : ∃ w_ : World, Hid (w_ = ((w6.alloc (.cells (madeCells #[V 0] nw) 2)).alloc (.cells #[.slice (some ⟨w6.heap.size, 0, none⟩) nw nw] 35)).drew) := ⟨_, rfl⟩
  have Hm8 : Hid (More w6 W8) := HW8.out ▸ (((More.refl _).alloc _ _).alloc _ _).drew
  have Hb8 : Hid (Blk W8 w6.heap.size (J2j (List.replicate nw 0)) 2) := by
   have q : Blk W8 w6.heap.size (madeCells #[V 0] nw) 2 := HW8.out ▸ ((Blk.last w6 _ _).alloc _ _).drew
   rw [Jg3] at q
   exact q
  have Hnews8 : Hid (∀ i t, [Value.slice (some ⟨w6.heap.size, 0, none⟩) nw nw][i]? = some t → W8.cell? ((⟨w6.heap.size + 1, 0, none⟩ : Addr).add i) = some t) := by
   have hb : Blk W8 (w6.heap.size + 1) #[.slice (some ⟨w6.heap.size, 0, none⟩) nw nw] 35 := by
    rw [HW8.out]
    have := Blk.last (w6.alloc (.cells (madeCells #[V 0] nw) 2)) #[.slice (some ⟨w6.heap.size, 0, none⟩) nw nw] 35
    rw [show (w6.alloc (.cells (madeCells #[V 0] nw) 2)).heap.size = w6.heap.size + 1 by simp] at this
    exact this.drew
   exact fun i t ht => World.news_of_block hb i t ht
  have Hown8 : Hid (W8.ownsRow B 35 1 (.slice ma rl mc) rl (rowsV gs2 x.ms)) := by
   have := (Hgs2.out.more Hm8.out).own
   rw [hml] at this
   exact this
  have Hsz8 : Hid (B ≤ W8.heap.size) := by have := (Hy.out.1.more Hm8.out).blk.lt; have := Hy.out.1.lo; show _ ≤ _; omega
  have hz6 := Hy.out.1.blk.lt
  refine J4s (S := S) [10] [(0, true), (1, true), (2, true), (3, true), (4, true), (5, true), (6, true), (7, false), (8, false), (9, false), (10, true), (11, true), (12, false)] (by kernel_rfl) (by kernel_rfl) (by kernel_rfl) hS ?_
  iterate 7 (refine J42 rfl (by kernel_rfl) (by kernel_rfl) (fun K hK => ?_); go_simp; refine hK _ _ ?_; clear hK K)
  clear k0 hsh
  refine J2x rfl (by kernel_rfl) (fun K hK => ?_)
  go_simp
  refine hK _ _ ((HS.out _).2 (((More.refl w6).alloc _ _).drew.cell c2)) ?_
  clear hK K hmk
  refine J2x rfl (by kernel_rfl) (fun K hK => ?_)
  go_simp
  rw [← HW8.out]
  refine hK _ _ ((HS.out _).2 (Hm8.out.cell c2)) ?_
  clear hK K
  refine J2x rfl (by kernel_rfl) (fun K hK => ?_)
  refine wp_append_lies _ (.tmp 49) (.tmp 53) 29 rfl B 35 i0 (.slice none 0 0) 1 24 Tryz.underlying29 Hi.out.1 Hi.out.2.1 Hi.out.2.2.1 Hi.out.2.2.2 rfl (by decide) (.slice ma rl mc) rl (rowsV gs2 x.ms) rfl Hown8.out ⟨w6.heap.size + 1, 0, none⟩ 1 1 [.slice (some ⟨w6.heap.size, 0, none⟩) nw nw] rfl rfl Hnews8.out (fun u hu => by simp at hu; subst hu; rfl) (by decide) (by unfold maxLen; omega) (by omega) Hsz8.out _ rfl ?_
  intro g4 cap4 w9 own4 gr4 hat4 hlt4
  have hty4 := J2d Hown8.out
  have B4 : Blk w9 G #[.slice (some ⟨g3, 0, none⟩) (rl + 1) cap3, cv, .slice ma rl mc] 63 := (Hy.out.1.more Hm8.out).blk.keptT gr4 hty4 (by decide)
  have y1 := B4.cell (j := 2) rfl
  have y2 := B4.frozen 2
  have Hr4 : Hid (Ply 63 B G (x.rs ++ [((un : Int), vb)]) x.cs (x.ms ++ [List.replicate nw 0]) (.slice (some ⟨g3, 0, none⟩) (rl + 1) cap3) cv (.slice (some ⟨g4, 0, none⟩) (rl + 1) cap4) (w9.setCell ⟨G, 2, none⟩ (.slice (some ⟨g4, 0, none⟩) (rl + 1) cap4))) := Hy.out.1.addM Hgs2.out Hb8.out (Nat.le_refl _) Hm8.out gr4 (by rw [hml, List.length_replicate]; exact own4)
  have Hb9 : Hid (Below G w (w9.setCell ⟨G, 2, none⟩ (.slice (some ⟨g4, 0, none⟩) (rl + 1) cap4))) := (Hy.out.1.more Hm8.out).below (Hy.out.2.1.trans (Below.mono Hm8.out (Nat.le_of_lt hz6))) gr4 (fun k e => (Hown8.out.lt k e).1) _ _
  have Hs9 : Hid (Spar w (w9.setCell ⟨G, 2, none⟩ (.slice (some ⟨g4, 0, none⟩) (rl + 1) cap4))) := ((Hy.out.2.2.trans (Spar.of Hm8.out)).grown gr4 hty4 own5S).set B4 own5P _ _
  refine hK _ _ ((HS.out _).2 y1) ?_
  clear hK K own4 gr4 hat4 hlt4 hty4
  have hnw : Nonempty World := ⟨w⟩
  refine J8l rfl (by kernel_rfl) (fun K hK => ?_); go_simp; refine hK _ _ ?_; clear hK K
  clear hnw
  refine J42 rfl (by kernel_rfl) (by kernel_rfl) (fun K hK => ?_); go_simp; refine hK _ _ ?_; clear hK K
  refine J8k rfl (by kernel_rfl) (by kernel_rfl) (fun K hK => ?_)
  go_simp
  refine hK _ _ ?_
  clear hK K hne hS
  refine NoPanic.normal ?_
  obtain ⟨w10, Hw10⟩ : ∃ w_, Hid (w_ = w9.setCell ⟨G, 2, none⟩ (.slice (some ⟨g4, 0, none⟩) (rl + 1) cap4)) := ⟨_, rfl⟩
  rw [← Hw10.out] at Hr4 Hb9 Hs9 ⊢
  clear y1 y2 B4 c2 hz6
  have e0 : w10.cell? ⟨G, 0, none⟩ = some (.slice (some ⟨g3, 0, none⟩) (rl + 1) cap3) := Hr4.out.blk.cell rfl
  have HL10 : Hid (Lai w10) := (HL.out.low Hb9.out).toLai
  have CD : Hid (∀ (w1 : World) (b : Nat) (T : TypeId), More w10 w1 → Blk w1 b #[V ((rl : Int) + 1)] T → Calls Tryz.prog 88 #[.string ⟨#[111, 107]⟩, .slice (some ⟨b, 0, none⟩) 1 1] w1 fun e w' => e = .returned (.string (txt (ansL okW [(rl : Int) + 1]))) ∧ More w1 w') := fun w1 b T m h => J9h okW _ w1 b T (HL10.out.more m) (by decide) (by unfold B64; omega) h
  have HE : Hid (∀ w', More w10 w' → P (.returned (.string (txt (ansL okW [(rl : Int) + 1])))) w') := fun w' mm => HG.out _ _ w' rfl rfl (DAns.more ⟨⟨_, _, _, by have h1 := Hr4.out; rw [← Hvb.out.1, Hnw.out.1] at h1; exact h1⟩, Hb9.out, Hs9.out⟩ mm)
  obtain ⟨R, HR⟩ : ∃ R, Hid (txt (ansL okW [(rl : Int) + 1]) = R) := ⟨_, rfl⟩
  rw [HR.out] at CD HE
  clear HG HR
  go_wp2_with (fail)
  have hb := Blk.last w10 #[V ((rl : Int) + 1)] 3
  refine (CD.out _ _ _ ((More.refl _).alloc _ _) hb).mono ?_
  rintro e w11 ⟨rfl, m11⟩
  have Hend : Hid (P (.returned (.string R)) w11) := HE.out w11 (((More.refl _).alloc _ _).trans m11)
  clear m11 HE
  go_wp2
  exact Hend.out
 ·have HE : Hid (P (.returned (.string ⟨#[63]⟩)) w) := HP.out x [63] w (.inl ⟨u, v, rfl, .inl ⟨hbad, rfl, rfl, rfl⟩, rfl⟩) (DAns.same H.out (More.refl _))
  have hc : decide (u < 0) = true ∨ (decide (u < 0) = false ∧ decide (6 < u) = true) ∨ (decide (u < 0) = false ∧ decide (6 < u) = false ∧ decide (v < 0) = true) ∨ (decide (u < 0) = false ∧ decide (6 < u) = false ∧ decide (v < 0) = false ∧ decide (1 < v) = true) ∨ (decide (u < 0) = false ∧ decide (6 < u) = false ∧ decide (v < 0) = false ∧ decide (1 < v) = false ∧ decide ((6 : Int) ≤ (rl : Int)) = true) := by
   unfold Je7 at hbad
   rw [Hrl.out] at hbad
   simp
   omega
  clear HP hbad
  rcases hc with d1 | ⟨d1, d2⟩ | ⟨d1, d2, d3⟩ | ⟨d1, d2, d3, d4⟩ | ⟨d1, d2, d3, d4, d5⟩
  all_goals
   go_enter Tryz.func47, Tryz.ntmps47
   go_wp2
   exact HE.out
theorem Jmn : (Tryz.prog.info? 76).map (fun i => (i.zero, i.size, i.bytes)) = some (some (.agg #[V 0, .bool false]), 2, 16) := by kernel_rfl

def regK (log : Nat → Int) (sec : Nat → Bool) : KS := fun i => ⟨log i, sec i⟩

set_option maxHeartbeats 1000000 in
theorem Jh5 (a : Option Addr) (n c b o : Nat) (log : Nat → Int) (sec : Nat → Bool) (w : World) (ha : 0 < n → a = some ⟨b, o, none⟩) (hr : RegsAt w b o n log sec) (hn : n ≤ 6) :
  Calls Tryz.prog 36 #[.slice a n c] w fun e w' => ∃ (a' : Option Addr) (g c' : Nat), e = .returned (.slice a' n c') ∧ (0 < n → a' = some ⟨g, 0, none⟩) ∧ w.heap.size ≤ g ∧ RegsAt w' g 0 n log sec ∧ RowT 76 2 w.heap.size w' (.slice a' n c') n ∧ More w w' := by
 have qn : ∀ (w : World) (a : Option Addr) (n c n' c' : Nat), (binOp .eql 25 (.slice a n c) (.slice none n' c')).run Tryz.prog w = .ok (.bool a.isNone) w := fun w a n c n' c' => Lib.run_eql_slice_nil w _ _ a n c n' c' Tryz.underlying25
 cases a with
 | none =>
  obtain rfl : n = 0 := by
   rcases Nat.eq_zero_or_pos n with q | q
   ·exact q
   ·exact absurd (ha q) (by simp)
  clear ha hr hn
  go_enter Tryz.func36, Tryz.ntmps36
  go_wp2
  go_ret
  exact ⟨none, w.heap.size, 0, rfl, fun h => absurd h (Nat.lt_irrefl _), Nat.le_refl _, fun i hi => absurd hi (Nat.not_lt_zero _), .inl ⟨rfl, rfl⟩, More.refl _⟩
 | some ad =>
  obtain ⟨i0, hi, hz0, hz1, hz2⟩ := info_parts Jmn
  have Hi : Hid (Tryz.prog.info? 76 = some i0 ∧ i0.zero = some (.agg #[V 0, .bool false]) ∧ i0.size = 2 ∧ i0.bytes = 16) := ⟨hi, hz0, hz1, hz2⟩
  have Hn : Hid (n ≤ 6) := hn
  have Hown1 : Hid ((w.alloc (.cells #[] 76)).ownsRow w.heap.size 76 2 (.slice (some ⟨w.heap.size, 0, none⟩) 0 0) 0 []) := World.ownsRow_made _ #[] 0 (Nat.le_refl _) (by unfold maxLen; omega) rfl
  have Hnews : Hid (0 < n → ∃ ad', some ad = some ad' ∧ ∀ j u, (flatK (regK log sec) n)[j]? = some u → (w.alloc (.cells #[] 76)).cell? (ad'.add j) = some u) := fun h0 => by
   refine ⟨_, ha h0, fun j u hu => ?_⟩
   have hj : j < n * 2 := by have := (List.getElem?_eq_some_iff.1 hu).1; rw [J13] at this; exact this
   rw [Go.WideShapes.add_plain]
   have hk := hr (j / 2) (by omega)
   have hf := J78 (regK log sec) n (j / 2) (by omega)
   by_cases e : j % 2 = 0
   ·have e2 : j / 2 * 2 = j := by omega
    rw [e2] at hk hf
    rw [hf.1] at hu; rw [← Option.some.inj hu]; exact ((More.refl _).alloc _ _).cell hk.1
   ·have e2 : j / 2 * 2 + 1 = j := by omega
    have e3 : o + j / 2 * 2 + 1 = o + j := by omega
    rw [e3] at hk
    rw [e2] at hf
    rw [hf.2] at hu; rw [← Option.some.inj hu]; exact ((More.refl _).alloc _ _).cell hk.2
  clear hi hz0 hz1 hz2 hn ha hr
  go_enter Tryz.func36, Tryz.ntmps36
  go_wp2_with (at_builtin; refine J6p _ rfl (.tmp 5) (.tmp 6) 25 rfl w.heap.size 76 i0 (.agg #[V 0, .bool false]) 2 16 Tryz.underlying25 Hi.out.1 Hi.out.2.1 Hi.out.2.2.1 Hi.out.2.2.2 rfl (by decide) (.slice (some ⟨w.heap.size, 0, none⟩) 0 0) 0 [] rfl Hown1.out (some ad) n c (flatK (regK log sec) n) rfl (by rw [J13]) Hnews.out (J7n _ n) (by have := Hn.out; unfold maxLen; omega) (by have := Hn.out; omega) (by simp) ?_; intro va cap w2 own2 gr2 hat2 hnn2)
  go_ret
  simp only [Nat.zero_add, List.nil_append] at own2 ⊢
  have hm : More w w2 := ((More.refl _).alloc _ _).grownBy gr2 (fun k hk => by
   have : w.heap.size = k := by simpa [Value.ownBlock] using hk
   omega)
  by_cases h0 : 0 < n
  ·obtain ⟨g, cap', hv, hlo, _⟩ := own2.form h0
   cases hv
   refine ⟨_, g, cap, rfl, fun _ => rfl, hlo, fun i hi => ?_, RowT.of_own own2, hm⟩
   have hf := J78 (regK log sec) n i hi
   simp only [Nat.zero_add]
   exact ⟨by rw [World.ownsRow.cellAt own2 (i * 2) (by omega)]; exact hf.1, by rw [World.ownsRow.cellAt own2 (i * 2 + 1) (by omega)]; exact hf.2⟩
  ·exact ⟨va, w.heap.size, cap, rfl, fun h => absurd h h0, Nat.le_refl _, fun i hi => absurd hi (by omega), RowT.of_own own2, hm⟩
abbrev prgV (p : Prg) (l : Loc) : Value := .agg #[.slice l.ra p.rl l.rc, .slice l.ca p.cl l.cc]

theorem RegsAt.other {w : World} {b o rl : Nat} {log : Nat → Int} {sec : Nat → Bool} (h : RegsAt w b o rl log sec) {b' : Nat} (hb : b' ≠ b) (o' : Nat) (v : Value) : RegsAt (w.setCell ⟨b', o', none⟩ v) b o rl log sec := fun i hi =>
  ⟨by rw [World.cell?_setCell_other _ _ _ _ (by intro e; simp only [Addr.mk.injEq] at e; exact hb e.1)]; exact (h i hi).1, by rw [World.cell?_setCell_other _ _ _ _ (by intro e; simp only [Addr.mk.injEq] at e; exact hb e.1)]; exact (h i hi).2⟩
theorem CodeAt.other {w : World} {b o cl : Nat} {ins : Nat → Ins} (h : CodeAt w b o cl ins) {b' : Nat} (hb : b' ≠ b) (o' : Nat) (v : Value) : CodeAt (w.setCell ⟨b', o', none⟩ v) b o cl ins := fun i hi => by
  have k : ∀ x, (w.setCell ⟨b', o', none⟩ v).cell? ⟨b, x, none⟩ = w.cell? ⟨b, x, none⟩ := fun x => World.cell?_setCell_other _ _ _ _ (by intro e; simp only [Addr.mk.injEq] at e; exact hb e.1)
  rw [k, k, k, k, k]
  exact h i hi

def Made (p : Prg) (w : World) (e : Ending) (w' : World) : Prop :=
  ∃ f : Int × Int, Told p f ∧ More w w' ∧
    ((f.1 = 0 ∧ ∃ lh : Loc, PIn w' (hardP p) lh ∧ e = .returned (.tuple #[prgV (hardP p) lh, .agg #[V 0, V 0]])) ∨
     (¬ f.1 = 0 ∧ e = .returned (.tuple #[.agg #[.slice none 0 0, .slice none 0 0], .agg #[V f.1, V f.2]])))
def MadeO (p : Prg) (w : World) (e : Ending) (w' : World) : Prop :=
  ∃ f : Int × Int, Told p f ∧ More w w' ∧
    ((f.1 = 0 ∧ ∃ lh : Loc, PIn w' (hardP p) lh ∧ e = .returned (.tuple #[prgV (hardP p) lh, .agg #[V 0, V 0]]) ∧ RowT 76 2 w.heap.size w' (.slice lh.ra (hardP p).rl lh.rc) (hardP p).rl ∧ RowT 41 5 w.heap.size w' (.slice lh.ca (hardP p).cl lh.cc) (hardP p).cl) ∨
     (¬ f.1 = 0 ∧ e = .returned (.tuple #[.agg #[.slice none 0 0, .slice none 0 0], .agg #[V f.1, V f.2]])))

set_option maxHeartbeats 2000000 in
theorem Jex (p : Prg) (l : Loc) (w : World) (hp : PIn w p l) (hf : p.Fit) : Calls Tryz.prog 16 #[prgV p l] w (MadeO p w) := by
  unfold prgV
  have C1 : Hid (∀ w1 : World, More w w1 → Calls Tryz.prog 14 #[.agg #[.slice l.ra p.rl l.rc, .slice l.ca p.cl l.cc]] w1 fun e w' => ∃ f : Int × Int, Told p f ∧ e = .returned (.agg #[V f.1, V f.2]) ∧ More w1 w') := fun w1 m1 => J93 p l w1 (hp.more m1) hf
  have C2 : Hid (p.Ok 200 8 → ∀ w1 : World, More w w1 → Calls Tryz.prog 36 #[.slice l.ra p.rl l.rc] w1 fun e w' => ∃ (a' : Option Addr) (g c' : Nat), e = .returned (.slice a' p.rl c') ∧ (0 < p.rl → a' = some ⟨g, 0, none⟩) ∧ w1.heap.size ≤ g ∧ RegsAt w' g 0 p.rl p.log p.sec ∧ RowT 76 2 w1.heap.size w' (.slice a' p.rl c') p.rl ∧ More w1 w') := fun ok w1 m1 =>
    Jh5 l.ra p.rl l.rc l.rb l.ro p.log p.sec w1 hp.hr (hp.regs.more m1) ok.1.1
  have C3 : Hid (p.Ok 200 8 → ∀ w1 : World, More w w1 → Calls Tryz.prog 37 #[.agg #[.slice l.ra p.rl l.rc, .slice l.ca p.cl l.cc]] w1 fun e w' => ∃ gc cap, e = .returned (.slice (some ⟨gc, 0, none⟩) (J0c p p.cl) cap) ∧ w1.heap.size ≤ gc ∧ CodeAt w' gc 0 (J0c p p.cl) (hardL p) ∧ RowT 41 5 w1.heap.size w' (.slice (some ⟨gc, 0, none⟩) (J0c p p.cl) cap) (J0c p p.cl) ∧ More w1 w') := fun ok w1 m1 => Jba p l w1 (hp.more m1) ok
  clear hp hf
  obtain ⟨ra, Hra⟩ : ∃ x, Hid (l.ra = x) := ⟨_, rfl⟩
  obtain ⟨rl, Hrl⟩ : ∃ x, Hid (p.rl = x) := ⟨_, rfl⟩
  obtain ⟨rc, Hrc⟩ : ∃ x, Hid (l.rc = x) := ⟨_, rfl⟩
  obtain ⟨ca, Hca⟩ : ∃ x, Hid (l.ca = x) := ⟨_, rfl⟩
  obtain ⟨cl, Hcl⟩ : ∃ x, Hid (p.cl = x) := ⟨_, rfl⟩
  obtain ⟨cc, Hcc⟩ : ∃ x, Hid (l.cc = x) := ⟨_, rfl⟩
  obtain ⟨sn, Hsn⟩ : ∃ x, Hid (J0c p p.cl = x) := ⟨_, rfl⟩
  rw [Hsn.out] at C3
  rw [Hra.out, Hrl.out, Hrc.out, Hca.out, Hcl.out, Hcc.out] at C1 C3 ⊢
  rw [Hra.out, Hrl.out, Hrc.out] at C2
  go_enter Tryz.func16, Tryz.ntmps16
  obtain ⟨W0, HW0⟩ : ∃ W : World, Hid (W = ((w.alloc (.cells #[.slice ra rl rc, .slice ca cl cc] 28)).alloc (.cells #[.slice none 0 0, .slice none 0 0] 28)).alloc (.cells #[V 0, V 0] 52)) := ⟨_, rfl⟩
  have Hm0 : Hid (More w W0) := HW0.out ▸ (((More.refl _).alloc _ _).alloc _ _).alloc _ _
  have B0 : Hid (Blk W0 w.heap.size #[.slice ra rl rc, .slice ca cl cc] 28) := HW0.out ▸ (((Blk.last _ _ _).alloc _ _).alloc _ _)
  have B1 : Hid (Blk W0 (w.heap.size + 1) #[.slice none 0 0, .slice none 0 0] 28) := HW0.out ▸ ((by simpa using Blk.last (w.alloc (.cells #[.slice ra rl rc, .slice ca cl cc] 28)) #[.slice none 0 0, .slice none 0 0] 28 : Blk _ (w.heap.size + 1) _ _).alloc _ _)
  have B2 : Hid (Blk W0 (w.heap.size + 1 + 1) #[V 0, V 0] 52) := HW0.out ▸ (by simpa using Blk.last ((w.alloc (.cells #[.slice ra rl rc, .slice ca cl cc] 28)).alloc (.cells #[.slice none 0 0, .slice none 0 0] 28)) #[V 0, V 0] 52 : Blk _ (w.heap.size + 1 + 1) _ _)
  go_wp2_with (fail)
  rw [← HW0.out]
  refine (C1.out W0 Hm0.out).mono ?_
  rintro e w1 ⟨⟨f1, f2⟩, hT, rfl, m1⟩
  dsimp only
  have HT : Hid (Told p (f1, f2)) := hT
  have Hm1 : Hid (More W0 w1) := m1
  clear hT m1 C1
  obtain ⟨W, HW⟩ : ∃ W : World, Hid (W = w1.alloc (.cells #[V f1, V f2] 52)) := ⟨_, rfl⟩
  have HmW : Hid (More W0 W) := by rw [HW.out]; exact Hm1.out.alloc _ _
  have D0 : Hid (Blk W w.heap.size #[.slice ra rl rc, .slice ca cl cc] 28) := B0.out.more HmW.out
  have D1 : Hid (Blk W (w.heap.size + 1) #[.slice none 0 0, .slice none 0 0] 28) := B1.out.more HmW.out
  have D2 : Hid (Blk W (w.heap.size + 1 + 1) #[V 0, V 0] 52) := B2.out.more HmW.out
  have D3 : Hid (Blk W w1.heap.size #[V f1, V f2] 52) := by rw [HW.out]; exact Blk.last _ _ _
  have Hz1 : Hid (w.heap.size + 3 ≤ w1.heap.size) := by
    have h1 := (B2.out.more Hm1.out).lt
    show _ ≤ _
    omega
  by_cases h0 : f1 = 0
  · subst h0
    obtain ⟨hok, lk, hk, hk0⟩ := HT.out.ok rfl
    have HO : Hid (p.Ok 200 8) := hok
    clear hok hk hk0
    have C2' : Hid (∀ w1 : World, More w w1 → Calls Tryz.prog 36 #[.slice ra rl rc] w1 fun e w' => ∃ (a' : Option Addr) (g c' : Nat), e = .returned (.slice a' rl c') ∧ (0 < rl → a' = some ⟨g, 0, none⟩) ∧ w1.heap.size ≤ g ∧ RegsAt w' g 0 rl p.log p.sec ∧ RowT 76 2 w1.heap.size w' (.slice a' rl c') rl ∧ More w1 w') := C2.out HO.out
    have C3' : Hid (∀ w1 : World, More w w1 → Calls Tryz.prog 37 #[.agg #[.slice ra rl rc, .slice ca cl cc]] w1 fun e w' => ∃ gc cap, e = .returned (.slice (some ⟨gc, 0, none⟩) sn cap) ∧ w1.heap.size ≤ gc ∧ CodeAt w' gc 0 sn (hardL p) ∧ RowT 41 5 w1.heap.size w' (.slice (some ⟨gc, 0, none⟩) sn cap) sn ∧ More w1 w') := C3.out HO.out
    clear C2 C3
    obtain ⟨S, HS⟩ : ∃ S : World → Prop, Hid (∀ w', S w' ↔ Blk w' w.heap.size #[.slice ra rl rc, .slice ca cl cc] 28) := ⟨_, fun _ => Iff.rfl⟩
    have HS0 : S W.drew := (HS.out _).2 D0.out
    have k0 : ∀ i : { w' // S w' }, i.val.cell? ⟨w.heap.size, 0, none⟩ = some (.slice ra rl rc) := fun i => ((HS.out _).1 i.property).cell rfl
    have k1 : ∀ i : { w' // S w' }, i.val.cell? ⟨w.heap.size, 1, none⟩ = some (.slice ca cl cc) := fun i => ((HS.out _).1 i.property).cell rfl
    have hne : Nonempty { w' // S w' } := ⟨⟨_, HS0⟩⟩
    go_wp2_with (fail)
    rw [← HW.out]
    refine J03 (S := S) [(0, true), (1, true), (3, true), (6, true), (2, false), (4, false), (5, true), (7, false), (8, false)] (by kernel_rfl) (by kernel_rfl) (by kernel_rfl) HS0 ?_
    iterate 4 (refine J01 rfl (by kernel_rfl) (fun K hK => ?_); go_simp; refine hK _ _ ?_; clear hK K)
    refine J02 rfl (by kernel_rfl) (fun K hK => ?_); go_simp
    have HmD : Hid (More w W.drew) := (Hm0.out.trans HmW.out).drew
    refine (C2'.out _ HmD.out).mono ?_
    rintro e w2 ⟨a', g, c', rfl, ha', hg, hregs, hrow2, m2⟩
    have Hrow2 : Hid (RowT 76 2 w.heap.size w2 (.slice a' rl c') rl) := hrow2.low (by have := HmD.out.size; omega)
    have Hm2 : Hid (More W w2) := (More.refl W).drew.trans m2
    have Hreg2 : Hid ((0 < rl → a' = some ⟨g, 0, none⟩) ∧ W.heap.size ≤ g ∧ RegsAt w2 g 0 rl p.log p.sec) := ⟨ha', hg, hregs⟩
    clear ha' hg hregs m2 hrow2
    go_simp
    refine hK _ _ ((HS.out _).2 (D0.out.more Hm2.out)) ?_; clear hK K
    refine J02 rfl (by kernel_rfl) (fun K hK => ?_); go_simp
    refine (C3'.out w2 ((Hm0.out.trans HmW.out).trans Hm2.out)).mono ?_
    rintro e w3 ⟨gc, cap, rfl, hgc, hcode, hrow3, m3⟩
    have Hrow3 : Hid (RowT 76 2 w.heap.size w3 (.slice a' rl c') rl ∧ RowT 41 5 w.heap.size w3 (.slice (some ⟨gc, 0, none⟩) sn cap) sn) := ⟨Hrow2.out.more m3, hrow3.low (by have := ((Hm0.out.trans HmW.out).trans Hm2.out).size; omega)⟩
    have Hm3 : Hid (More W w3) := Hm2.out.trans m3
    have Hreg3 : Hid (RegsAt w3 g 0 rl p.log p.sec) := Hreg2.out.2.2.more m3
    have Hcode3 : Hid (W.heap.size ≤ gc ∧ CodeAt w3 gc 0 sn (hardL p)) := ⟨Nat.le_trans Hm2.out.size hgc, hcode⟩
    clear hgc hcode m3 hrow3
    have E1 : Hid (Blk w3 (w.heap.size + 1) #[.slice none 0 0, .slice none 0 0] 28) := D1.out.more Hm3.out
    have E2 : Hid (Blk w3 (w.heap.size + 1 + 1) #[V 0, V 0] 52) := D2.out.more Hm3.out
    have a0 : w3.cell? ⟨w.heap.size + 1, 0, none⟩ = some (.slice none 0 0) := E1.out.cell rfl
    have a1 : w3.cell? ⟨w.heap.size + 1, 1, none⟩ = some (.slice none 0 0) := E1.out.cell rfl
    have a2 : w3.cell? ⟨w.heap.size + 1 + 1, 0, none⟩ = some (V 0) := E2.out.cell rfl
    have a3 : w3.cell? ⟨w.heap.size + 1 + 1, 1, none⟩ = some (V 0) := E2.out.cell rfl
    have z0 := E1.out.frozen 0
    have z1 := E1.out.frozen 1
    have z2 := E2.out.frozen 0
    have z3 := E2.out.frozen 1
    go_simp
    refine hK _ _ ((HS.out _).2 (D0.out.more Hm3.out)) ?_; clear hK K
    refine J01 rfl (by kernel_rfl) (fun K hK => ?_); go_simp; refine hK _ _ ?_; clear hK K
    refine J02 rfl (by kernel_rfl) (fun K hK => ?_); go_simp
    refine hK _ _ ((HS.out _).2 (((D0.out.more Hm3.out).other (by omega) _ _).other (by omega) _ _)) ?_; clear hK K
    refine J02 rfl (by kernel_rfl) (fun K hK => ?_); go_simp
    refine hK _ _ ((HS.out _).2 (((((D0.out.more Hm3.out).other (by omega) _ _).other (by omega) _ _).other (by omega) _ _).other (by omega) _ _)) ?_; clear hK K
    refine J07 ?_
    clear k0 k1 hne HS0
    go_wp2
    refine bodyPost_ret (v := .tuple #[.agg #[.slice a' rl c', .slice (some ⟨gc, 0, none⟩) sn cap], .agg #[V 0, V 0]]) (by simp [results, Tryz.results16, go_sem, *]) rfl ?_
    have hzW := HmW.out.size
    have hz0 := (D2.out).lt
    have hg := Hreg2.out.2.1
    have hgc := Hcode3.out.1
    refine ⟨(0, f2), HT.out, ?_, .inl ⟨rfl, ⟨a', g, 0, c', some ⟨gc, 0, none⟩, gc, 0, cap⟩, ⟨?_, fun _ => rfl, ?_, ?_⟩, ?_, ?_, ?_⟩⟩
    · exact ((((((Hm0.out.trans HmW.out).trans Hm3.out).setCell (by show w.heap.size ≤ _; simp) _).setCell (by show w.heap.size ≤ _; simp) _).setCell (by show w.heap.size ≤ _; simp; omega) _).setCell (by show w.heap.size ≤ _; simp; omega) _)
    · intro h
      exact Hreg2.out.1 (by rw [← Hrl.out]; exact h)
    · have := (((Hreg3.out.other (b' := w.heap.size + 1) (by omega) 0 (.slice a' rl c')).other (b' := w.heap.size + 1) (by omega) 1 (.slice (some ⟨gc, 0, none⟩) sn cap)).other (b' := w.heap.size + 1 + 1) (by omega) 0 (V 0)).other (b' := w.heap.size + 1 + 1) (by omega) 1 (V 0)
      rw [← Hrl.out] at this ⊢
      exact this
    · have := (((Hcode3.out.2.other (b' := w.heap.size + 1) (by omega) 0 (.slice a' rl c')).other (b' := w.heap.size + 1) (by omega) 1 (.slice (some ⟨gc, 0, none⟩) sn cap)).other (b' := w.heap.size + 1 + 1) (by omega) 0 (V 0)).other (b' := w.heap.size + 1 + 1) (by omega) 1 (V 0)
      rw [← Hsn.out] at this ⊢
      exact this
    · unfold prgV hardP
      dsimp only
      rw [Hrl.out, Hsn.out]
    · have := (((Hrow3.out.1.put (w.heap.size + 1) 0 (.slice a' rl c')).put (w.heap.size + 1) 1 (.slice (some ⟨gc, 0, none⟩) sn cap)).put (w.heap.size + 1 + 1) 0 (V 0)).put (w.heap.size + 1 + 1) 1 (V 0)
      rw [← Hrl.out] at this ⊢
      exact this
    · have := (((Hrow3.out.2.put (w.heap.size + 1) 0 (.slice a' rl c')).put (w.heap.size + 1) 1 (.slice (some ⟨gc, 0, none⟩) sn cap)).put (w.heap.size + 1 + 1) 0 (V 0)).put (w.heap.size + 1 + 1) 1 (V 0)
      rw [← Hsn.out] at this ⊢
      exact this
  · have e0 : (f1 == 0) = false := by simp [h0]
    have e1 : (f1 != 0) = true := by simp [h0]
    have H0 : Hid (¬ f1 = 0) := h0
    clear h0 C2 C3
    obtain ⟨S, HS⟩ : ∃ S : World → Prop, Hid (∀ w', S w' ↔ Blk w' w1.heap.size #[V f1, V f2] 52) := ⟨_, fun _ => Iff.rfl⟩
    have HS0 : S W.drew := (HS.out _).2 D3.out
    have k0 : ∀ i : { w' // S w' }, i.val.cell? ⟨w1.heap.size, 0, none⟩ = some (V f1) := fun i => ((HS.out _).1 i.property).cell rfl
    have k1 : ∀ i : { w' // S w' }, i.val.cell? ⟨w1.heap.size, 1, none⟩ = some (V f2) := fun i => ((HS.out _).1 i.property).cell rfl
    have hne : Nonempty { w' // S w' } := ⟨⟨_, HS0⟩⟩
    have hz1 := Hz1.out
    have a0 : W.cell? ⟨w.heap.size + 1, 0, none⟩ = some (.slice none 0 0) := D1.out.cell rfl
    have a1 : W.cell? ⟨w.heap.size + 1, 1, none⟩ = some (.slice none 0 0) := D1.out.cell rfl
    have a2 : W.cell? ⟨w.heap.size + 1 + 1, 0, none⟩ = some (V 0) := D2.out.cell rfl
    have a3 : W.cell? ⟨w.heap.size + 1 + 1, 1, none⟩ = some (V 0) := D2.out.cell rfl
    have z0 := D1.out.frozen 0
    have z1 := D1.out.frozen 1
    have z2 := D2.out.frozen 0
    have z3 := D2.out.frozen 1
    go_wp2_with (fail)
    rw [← HW.out]
    refine J03 (S := S) [(0, true), (1, true), (2, false), (3, false)] (by kernel_rfl) (by kernel_rfl) (by kernel_rfl) HS0 ?_
    iterate 2 (refine J01 rfl (by kernel_rfl) (fun K hK => ?_); go_simp; refine hK _ _ ?_; clear hK K)
    refine J02 rfl (by kernel_rfl) (fun K hK => ?_); go_simp
    refine hK _ _ ((HS.out _).2 ((D3.out.other (by omega) _ _).other (by omega) _ _)) ?_; clear hK K
    refine J02 rfl (by kernel_rfl) (fun K hK => ?_); go_simp
    refine hK _ _ ((HS.out _).2 ((((D3.out.other (by omega) _ _).other (by omega) _ _).other (by omega) _ _).other (by omega) _ _)) ?_; clear hK K
    refine J07 ?_
    clear k0 k1 hne HS0
    go_wp2
    refine bodyPost_ret (v := .tuple #[.agg #[.slice none 0 0, .slice none 0 0], .agg #[V f1, V f2]]) (by simp [results, Tryz.results16, go_sem, *]) rfl ?_
    refine ⟨(f1, f2), HT.out, ?_, .inr ⟨H0.out, rfl⟩⟩
    exact (((((Hm0.out.trans HmW.out).setCell (by show w.heap.size ≤ _; simp) _).setCell (by show w.heap.size ≤ _; simp) _).setCell (by show w.heap.size ≤ _; simp; omega) _).setCell (by show w.heap.size ≤ _; simp; omega) _).drew

theorem Jg4 (p : Prg) (l : Loc) (w : World) (hp : PIn w p l) (hf : p.Fit) : Calls Tryz.prog 16 #[prgV p l] w (Made p w) := by
  refine (Jex p l w hp hf).mono ?_
  rintro e w' ⟨f, h1, h2, h | h⟩
  · obtain ⟨h0, lh, a, b, _⟩ := h
    exact ⟨f, h1, h2, .inl ⟨h0, lh, a, b⟩⟩
  · exact ⟨f, h1, h2, .inr h⟩
theorem Jl4 {w : World} {p : Prg} {l : Loc} {B : Nat} {T : TypeId} {rs : List (Int × Bool)} (hp : PIn w p l) (hl : p.rl = rs.length) (e : ∀ i r, rs[i]? = some r → p.log i = r.1 ∧ p.sec i = r.2) (R : RowT T 2 B w (.slice l.ra p.rl l.rc) p.rl) : w.ownsRow B T 2 (.slice l.ra p.rl l.rc) rs.length (celR rs) := by
 have h := R.own (celR rs) (by rw [J3s, hl]) (fun g hg j u hu => ?_)
 ·rw [hl] at h ⊢; exact h
 ·have hj : j < rs.length * 2 := by rw [← J3s]; exact (List.getElem?_eq_some_iff.1 hu).1
  have hi : j / 2 < rs.length := by omega
  obtain ⟨ra, rb, ro, rc, ca, cb, co, cc⟩ := l
  have h1 := hp.hr (by omega)
  dsimp only at h1 hg
  subst h1
  rcases R with ⟨q, _⟩ | ⟨g', cap, cur, q, _⟩
  ·cases q
  ·cases q
   obtain rfl : rb = g := by simpa [Value.ownBlock] using hg
   obtain ⟨c0, c1⟩ := hp.regs (j / 2) (by omega)
   obtain ⟨e0, e1⟩ := e (j / 2) _ (List.getElem?_eq_getElem hi)
   obtain ⟨a0, a1⟩ := Jcg rs (j / 2) _ (List.getElem?_eq_getElem hi)
   dsimp only at c0 c1
   rw [e0, Nat.zero_add] at c0
   rw [e1, Nat.zero_add] at c1
   have hm : j = j / 2 * 2 ∨ j = j / 2 * 2 + 1 := by omega
   rcases hm with hm | hm
   ·rw [hm] at hu ⊢
    rw [a0] at hu
    rw [c0, hu]
   ·rw [hm] at hu ⊢
    rw [a1] at hu
    rw [c1, hu]
theorem Jj8 {w : World} {p : Prg} {l : Loc} {B : Nat} {T : TypeId} {cs : List Ins} (hp : PIn w p l) (hl : p.cl = cs.length) (e : ∀ i r, cs[i]? = some r → p.ins i = r) (R : RowT T 5 B w (.slice l.ca p.cl l.cc) p.cl) : w.ownsRow B T 5 (.slice l.ca p.cl l.cc) cs.length (celI cs) := by
 have h := R.own (celI cs) (by rw [J3r, hl]) (fun g hg j u hu => ?_)
 ·rw [hl] at h ⊢; exact h
 ·have hj : j < cs.length * 5 := by rw [← J3r]; exact (List.getElem?_eq_some_iff.1 hu).1
  have hi : j / 5 < cs.length := by omega
  obtain ⟨ra, rb, ro, rc, ca, cb, co, cc⟩ := l
  have h1 := hp.hc (by omega)
  dsimp only at h1 hg
  subst h1
  rcases R with ⟨q, _⟩ | ⟨g', cap, cur, q, _⟩
  ·cases q
  ·cases q
   obtain rfl : cb = g := by simpa [Value.ownBlock] using hg
   obtain ⟨c0, c1, c2, c3, c4⟩ := hp.code (j / 5) (by omega)
   have e0 := e (j / 5) _ (List.getElem?_eq_getElem hi)
   obtain ⟨a0, a1, a2, a3, a4⟩ := Jcf cs (j / 5) _ (List.getElem?_eq_getElem hi)
   dsimp only at c0 c1 c2 c3 c4
   rw [e0, Nat.zero_add] at c0 c1 c2 c3 c4
   have hm : j = j / 5 * 5 ∨ j = j / 5 * 5 + 1 ∨ j = j / 5 * 5 + 2 ∨ j = j / 5 * 5 + 3 ∨ j = j / 5 * 5 + 4 := by omega
   rcases hm with hm | hm | hm | hm | hm
   ·rw [hm] at hu ⊢
    rw [a0] at hu
    rw [c0, hu]
   ·rw [hm] at hu ⊢
    rw [a1] at hu
    rw [c1, hu]
   ·rw [hm] at hu ⊢
    rw [a2] at hu
    rw [c2, hu]
   ·rw [hm] at hu ⊢
    rw [a3] at hu
    rw [c3, hu]
   ·rw [hm] at hu ⊢
    rw [a4] at hu
    rw [c4, hu]
theorem Jkc {x : Sta} {w' : World} {lh : Loc} {B : Nat} (hp : PIn w' (hardP x.prg) lh) (r1 : RowT 76 2 B w' (.slice lh.ra (hardP x.prg).rl lh.rc) (hardP x.prg).rl) (r2 : RowT 41 5 B w' (.slice lh.ca (hardP x.prg).cl lh.cc) (hardP x.prg).cl) :
  w'.ownsRow B 76 2 (.slice lh.ra x.rs.length lh.rc) x.rs.length (celR x.rs) ∧ w'.ownsRow B 41 5 (.slice lh.ca (J0c x.prg x.prg.cl) lh.cc) (hardC x.prg).length (celI (hardC x.prg)) := by
 refine ⟨Jl4 (rs := x.rs) hp rfl (fun i r hr => ?_) r1, Jj8 (cs := hardC x.prg) hp (J4e _).symm (fun i r hr => ?_) r2⟩
 ·show (x.rs.getD i (0, false)).1 = _ ∧ (x.rs.getD i (0, false)).2 = _
  rw [List.getD_eq_getElem?_getD, hr]
  exact ⟨rfl, rfl⟩
 ·have hi : i < J0c x.prg x.prg.cl := by rw [← J4e]; exact (List.getElem?_eq_some_iff.1 hr).1
  rw [Jjw _ hi] at hr
  exact Option.some.inj hr
set_option maxHeartbeats 4000000 in
theorem Jb9 {B G : Nat} {x : Sta} {rv cv mv : Value} (w : World) (h : Dp B G x rv cv mv w) (hw : Wf x) (HL0 : LaiG G w) :
  Calls Tryz.prog 52 #[.pointer (some ⟨G, 0, none⟩)] w fun e w' => ∃ y r, e = .returned (.string (txt r)) ∧ J96 [] x y r ∧ DAns B G w y w' := by
 suffices hP : ∀ P : Ending → World → Prop, (∀ y r w', J96 [] x y r → DAns B G w y w' → P (.returned (.string (txt r))) w') → Calls Tryz.prog 52 #[.pointer (some ⟨G, 0, none⟩)] w P from hP _ (fun y a w' h m => ⟨y, a, rfl, h, m⟩)
 intro P hP0
 have HP : Hid (∀ y r w', J96 [] x y r → DAns B G w y w' → P (.returned (.string (txt r))) w') := hP0
 have HL : Hid (LaiG G w) := HL0
 clear hP0
 obtain ⟨lp, rfl, rfl, hpin⟩ := h.pin
 have CM : Hid (Calls Tryz.prog 16 #[.agg #[.slice lp.ra x.rs.length lp.rc, .slice lp.ca x.cs.length lp.cc]] w (MadeO x.prg w)) := Jex x.prg lp w hpin hw.fit
 have H : Hid (Dp B G x (.slice lp.ra x.rs.length lp.rc) (.slice lp.ca x.cs.length lp.cc) mv w) := h
 have Hw : Hid (Wf x) := hw
 obtain ⟨ra, Hra⟩ : ∃ z, Hid (lp.ra = z) := ⟨_, rfl⟩
 obtain ⟨rc, Hrc⟩ : ∃ z, Hid (lp.rc = z) := ⟨_, rfl⟩
 obtain ⟨rl, Hrl⟩ : ∃ z, Hid (x.rs.length = z) := ⟨_, rfl⟩
 obtain ⟨ca, Hca⟩ : ∃ z, Hid (lp.ca = z) := ⟨_, rfl⟩
 obtain ⟨cc, Hcc⟩ : ∃ z, Hid (lp.cc = z) := ⟨_, rfl⟩
 obtain ⟨cl, Hcl⟩ : ∃ z, Hid (x.cs.length = z) := ⟨_, rfl⟩
 rw [Hra.out, Hrc.out, Hrl.out, Hca.out, Hcc.out, Hcl.out] at H CM
 have b0 : w.cell? ⟨G, 0, none⟩ = some (.slice ra rl rc) := H.out.blk.cell rfl
 have b1 : w.cell? ⟨G, 1, none⟩ = some (.slice ca cl cc) := H.out.blk.cell rfl
 have hGw : G < w.heap.size := H.out.blk.lt
 clear h hw HL0 hpin
 go_enter Tryz.func52, Tryz.ntmps52
 go_wp2_with (fail)
 refine CM.out.mono ?_
 rintro e w1 ⟨f, ht, m1, ⟨h0, lh, hpin, rfl, r1, r2⟩ | ⟨h0, rfl⟩⟩
 ·have Hown : Hid (w1.ownsRow B 76 2 (.slice lh.ra x.rs.length lh.rc) x.rs.length (celR x.rs) ∧ w1.ownsRow B 41 5 (.slice lh.ca (J0c x.prg x.prg.cl) lh.cc) (hardC x.prg).length (celI (hardC x.prg))) := Jkc hpin (r1.low (by have := H.out.lo; omega)) (r2.low (by have := H.out.lo; omega))
  have hv : prgV (hardP x.prg) lh = .agg #[.slice lh.ra x.rs.length lh.rc, .slice lh.ca (J0c x.prg x.prg.cl) lh.cc] := rfl
  rw [hv]
  have Hf : Hid (Told x.prg f ∧ f.1 = 0) := ⟨ht, h0⟩
  have Hm1 := J04 m1
  clear CM ht h0 hpin r1 r2 m1 hv
  obtain ⟨n, Hn⟩ : ∃ z, Hid (J0c x.prg x.prg.cl = z) := ⟨_, rfl⟩
  obtain ⟨a1, Ha1⟩ : ∃ z, Hid (lh.ra = z) := ⟨_, rfl⟩
  obtain ⟨a2, Ha2⟩ : ∃ z, Hid (lh.rc = z) := ⟨_, rfl⟩
  obtain ⟨a3, Ha3⟩ : ∃ z, Hid (lh.ca = z) := ⟨_, rfl⟩
  obtain ⟨a4, Ha4⟩ : ∃ z, Hid (lh.cc = z) := ⟨_, rfl⟩
  rw [Ha1.out, Ha2.out, Ha3.out, Ha4.out, Hn.out] at Hown ⊢
  rw [Hrl.out]
  rw [Hrl.out] at Hown
  have Q1 : Hid (Dp B G x (.slice ra rl rc) (.slice ca cl cc) mv w1) := H.out.more Hm1.out
  have c0 : w1.cell? ⟨G, 0, none⟩ = some (.slice ra rl rc) := Q1.out.blk.cell rfl
  have c1 : w1.cell? ⟨G, 1, none⟩ = some (.slice ca cl cc) := Q1.out.blk.cell rfl
  have z0 := Q1.out.blk.frozen 0
  have z1 := Q1.out.blk.frozen 1
  have hG1 := Q1.out.blk.lt
  clear b0 b1 hGw
  obtain ⟨W0, HW0⟩ : ∃ w_ : World, Hid (w_ = (w1.setCell ⟨G, 0, none⟩ (.slice a1 rl a2)).setCell ⟨G, 1, none⟩ (.slice a3 n a4)) := ⟨_, rfl⟩
  have HD : Hid (DAns B G w ⟨x.rs, hardC x.prg, x.ms⟩ W0 ∧ W0.heap.size = w1.heap.size) := by
   have hp := Q1.out.newP (rs' := x.rs) (cs' := hardC x.prg) (rv' := .slice a1 rl a2) (cv' := .slice a3 n a4) (by rw [Hrl.out]; exact Hown.out.1) Hown.out.2
   have hB : Blk (w1.setCell ⟨G, 0, none⟩ (.slice a1 rl a2)) G #[.slice a1 rl a2, .slice ca cl cc, mv] 63 := by simpa using Q1.out.blk.put 0 (.slice a1 rl a2)
   rw [HW0.out]
   refine ⟨⟨⟨_, _, _, hp⟩, ?_, ((Spar.of Hm1.out).set Q1.out.blk own5P _ _).set hB own5P _ _⟩, by simp [World.setCell]⟩
   exact ((Below.mono Hm1.out (Nat.le_of_lt H.out.blk.lt)).setCell (p := ⟨G, 0, none⟩) (Nat.le_refl _) _).setCell (p := ⟨G, 1, none⟩) (Nat.le_refl _) _
  have HL6 : Hid (Lai W0) := (HL.out.low HD.out.1.low).toLai
  have hn6 : n ≤ 600 := by
   have h1 := J2u x.prg x.prg.cl
   have h2 := ((Hf.out.1.ok Hf.out.2).1).2.2.1
   rw [← Hn.out]
   omega
  have CD : Hid (∀ (w1 : World) (b : Nat) (T : TypeId), More W0 w1 → Blk w1 b #[V n] T → Calls Tryz.prog 88 #[.string ⟨#[111, 107]⟩, .slice (some ⟨b, 0, none⟩) 1 1] w1 fun e w' => e = .returned (.string (txt (ansL okW [(n : Int)]))) ∧ More w1 w') := fun w1 b T m h => J9h okW _ w1 b T (HL6.out.more m) (by decide) (by unfold B64; omega) h
  have HE : Hid (∀ w', More W0 w' → P (.returned (.string (txt (ansL okW [(n : Int)])))) w') := fun w' mm => HP.out _ _ w' (.inl ⟨rfl, f, Hf.out.1, by rw [if_pos Hf.out.2], by rw [fauL, if_pos Hf.out.2, Hn.out]⟩) (HD.out.1.more mm)
  obtain ⟨R, HR⟩ : ∃ R, Hid (txt (ansL okW [(n : Int)]) = R) := ⟨_, rfl⟩
  rw [HR.out] at CD HE
  clear HP HR hn6
  go_wp2_with (fail)
  rw [← HW0.out]
  have hb := Blk.last ((W0.alloc (.cells #[.slice a1 rl a2, .slice a3 n a4] 28)).alloc (.cells #[V 0, V 0] 52)) #[V n] 3
  have hz : ((W0.alloc (.cells #[.slice a1 rl a2, .slice a3 n a4] 28)).alloc (.cells #[V 0, V 0] 52)).heap.size = w1.heap.size + 1 + 1 := by simp [HD.out.2]
  rw [hz] at hb
  refine (CD.out _ _ _ ((((More.refl _).alloc _ _).alloc _ _).alloc _ _) hb).mono ?_
  rintro e w11 ⟨rfl, m11⟩
  have Hend : Hid (P (.returned (.string R)) w11) := HE.out w11 (((((More.refl _).alloc _ _).alloc _ _).alloc _ _).trans m11)
  clear m11 HE hb hz CD
  go_wp2
  exact Hend.out
 ·obtain ⟨f1, f2⟩ := f
  have hb := ht.b64 (by have := Hw.out.cl; exact this)
  have HE : Hid (∀ w', More w w' → P (.returned (.string (txt (ansL badW [f1, f2])))) w') := fun w' mm => HP.out x _ w' (.inl ⟨rfl, (f1, f2), ht, by rw [if_neg h0], by rw [fauL, if_neg h0]⟩) (DAns.same H.out mm)
  have CF : Hid (∀ w2, More w w2 → Calls Tryz.prog 90 #[.agg #[V f1, V f2]] w2 fun e w' => e = .returned (.string (txt (ansL badW [f1, f2]))) ∧ More w2 w') := fun w2 m => J48 f1 f2 w2 (HL.out.toLai.more m) hb.1 hb.2
  obtain ⟨R, HR⟩ : ∃ R, Hid (txt (ansL badW [f1, f2]) = R) := ⟨_, rfl⟩
  rw [HR.out] at CF HE
  dsimp only at h0
  have e0 : (f1 == 0) = false := by simp [h0]
  have e1 : (f1 != 0) = true := by simp [h0]
  have Hm1 := J04 m1
  clear HP CM ht m1 hb HR b0 b1 hGw
  go_wp2_with (fail)
  refine (CF.out _ ((Hm1.out.alloc _ _).alloc _ _)).mono ?_
  rintro e w2 ⟨rfl, m2⟩
  have Hend : Hid (P (.returned (.string R)) w2) := HE.out w2 (((Hm1.out.alloc _ _).alloc _ _).trans m2)
  clear m2 HE CF
  go_wp2
  exact Hend.out
theorem J8y (c : Int) (w : World) : Calls Tryz.prog 65 #[V c] w fun e w' => e = .returned (.bool (decide (c < 0))) ∧ w' = w := by
 go_enter Tryz.func65, Tryz.ntmps65
 go_wp2
 go_ret
 exact ⟨rfl, rfl⟩

set_option maxHeartbeats 400000 in
theorem Jcz (sa : Option Addr) (sb so n cap : Nat) (L : List Int) (hn : L.length = n) (h2 : n ≤ 2000) (w : World) (h : SIn w sa sb so L) :
  Calls Tryz.prog 98 #[.slice sa n cap, .func (.func 65) #[] #[]] w fun e w' => ∃ r : Int, e = .returned (V r) ∧ (0 ≤ r ↔ ∃ (j : Nat) (c : Int), L[j]? = some c ∧ c < 0) ∧ w' = w := by
 have H := J38 (And.intro h hn)
 clear h hn
 go_enter Tryz.func98, Tryz.ntmps98
 go_wp2
 go_loopg [8] n (fun g i wr => ∃ k : Nat, k + g = n ∧ i = V k ∧ (∀ (j : Nat) (c : Int), j < k → L[j]? = some c → 0 ≤ c) ∧ wr = w)
 case atStart => exact ⟨0, by omega, rfl, fun j c hj => by omega, rfl⟩
 case round =>
  obtain ⟨k, hkg, rfl, hok, rfl⟩ := hrel
  have Hok := J38 hok
  clear hok
  cases gk with
  | zero =>
   obtain rfl : k = n := by omega
   go_wp2
   go_ret
   refine ⟨-1, rfl, ⟨fun h => by omega, ?_⟩, rfl⟩
   rintro ⟨j, c, h1, h2⟩
   have hj : j < L.length := (List.getElem?_eq_some_iff.1 h1).1
   have := Hok.out j c (by have := H.out.2; omega) h1
   omega
  | succ g =>
   have hk : k < n := by omega
   have hk' : (k : Int) < (n : Int) := by omega
   have hkw : wrap64 ((k : Int) + 1) = (k : Int) + 1 := by unfold wrap64; omega
   obtain rfl := H.out.1.ha (by have := H.out.2; omega)
   obtain ⟨c, hc⟩ : ∃ c, L[k]? = some c := ⟨L[k]'(by have := H.out.2; omega), List.getElem?_eq_getElem _⟩
   have hcell := H.out.1.cells k c hc
   have Hc := J38 hc
   clear hc
   by_cases c0 : c < 0
   ·have hB := J8y c wr
    rw [decide_eq_true c0] at hB
    have HB := J38 hB
    clear hB
    go_wp2_with (fail)
    refine HB.out.mono ?_
    rintro e w2 ⟨rfl, rfl⟩
    go_wp2
    go_ret
    exact ⟨k, rfl, ⟨fun _ => ⟨k, c, Hc.out, c0⟩, fun _ => by omega⟩, rfl⟩
   ·have hB := J8y c wr
    rw [decide_eq_false c0] at hB
    have HB := J38 hB
    clear hB
    go_wp2_with (fail)
    refine HB.out.mono ?_
    rintro e w2 ⟨rfl, rfl⟩
    go_wp2
    go_roundg g
    case measure => omega
    case rel =>
     refine ⟨k + 1, by omega, by first | rfl | (push_cast; rfl) | simp, fun j c' hj hc' => ?_, rfl⟩
     by_cases e : j = k
     ·subst e
      rw [Hc.out] at hc'
      obtain rfl := Option.some.inj hc'
      omega
     ·exact Hok.out j c' (by omega) hc'

theorem J8n (sa : Option Addr) (sb so n cap : Nat) (L : List Int) (hn : L.length = n) (h2 : n ≤ 2000) (w : World) (h : SIn w sa sb so L) :
  Calls Tryz.prog 66 #[.slice sa n cap, .func (.func 65) #[] #[]] w fun e w' => ∃ r : Bool, e = .returned (.bool r) ∧ (r = true ↔ ∃ (j : Nat) (c : Int), L[j]? = some c ∧ c < 0) ∧ w' = w := by
 have HI := J38 (Jcz sa sb so n cap L hn h2 w h)
 clear h hn
 go_enter Tryz.func66, Tryz.ntmps66
 go_wp2_with (fail)
 refine HI.out.mono ?_
 rintro e w2 ⟨r, rfl, hr, rfl⟩
 have Hr := J38 hr
 clear hr HI
 go_wp2
 go_ret
 exact ⟨decide (0 ≤ r), rfl, by rw [decide_eq_true_eq]; exact Hr.out, rfl⟩

theorem J74 (sa : Option Addr) (sb so n cap : Nat) (L : List Int) (hn : L.length = n) (w : World) (h : SIn w sa sb so L) :
  Calls Tryz.prog 29 #[.slice sa n cap] w fun e w' => ∃ r : Bool, e = .returned (.bool r) ∧ (r = true ↔ ScOk L) ∧ w' = w := by
 have Hn := J38 hn
 by_cases h2 : n ≤ 2000
 ·have h2' : (n : Int) ≤ 2000 := by omega
  have HI := J38 (J8n sa sb so n cap L hn h2 w h)
  clear h hn
  go_enter Tryz.func29, Tryz.ntmps29
  go_wp2_with (fail)
  refine HI.out.mono ?_
  rintro e w2 ⟨r, rfl, hr, rfl⟩
  have Hr := J38 hr
  clear hr HI
  go_wp2
  go_ret
  refine ⟨!r, by simp, ?_, rfl⟩
  constructor
  ·intro h
   refine ⟨by rw [Hn.out]; exact h2, fun j c hc => ?_⟩
   by_cases c0 : 0 ≤ c
   ·exact c0
   ·have := Hr.out.2 ⟨j, c, hc, by omega⟩
    rw [this] at h
    cases h
  ·intro h
   cases r with
   | false => rfl
   | true =>
    obtain ⟨j, c, h3, h4⟩ := Hr.out.1 rfl
    have := h.2 j c h3
    omega
 ·have h2' : decide ((n : Int) ≤ 2000) = false := by simp; omega
  clear h hn
  go_enter Tryz.func29, Tryz.ntmps29
  go_wp2
  go_ret
  exact ⟨false, by first | rfl | (simp; done) | (simp; omega), ⟨(fun h => by cases h), fun h => by have := h.1; rw [Hn.out] at this; omega⟩, rfl⟩
end
section
open Go.RowKit
set_option linter.unusedVariables false
structure Ms where
 fin : Int
 val : Int
 steps : Int
 sv : Value
 mv : Value
 r : Nat → Int
 wd : Nat → Int
 next : Int
 fuel : Int
 ended : Bool
 st : Nat → Int
 T : TypeId
 tl : Nat → Option Value
 mo : List (Nat × Obj)

def cellF (rv cv : Value) (x : Ms) (j : Nat) : Value :=
 if j = 0 then rv else if j = 1 then cv else if j = 2 then V x.fin else if j = 3 then V x.val else if j = 4 then V x.steps
 else if j = 5 then x.sv else if j = 6 then x.mv else if j < 17 then V (x.r (j - 7)) else if j < 401 then V (x.wd (j - 17))
 else if j = 401 then V x.next else if j = 402 then V x.fuel else if j = 403 then .bool x.ended else V (x.st (j - 404))

theorem Jch (rv cv : Value) (x : Ms) (j : Nat) (hj : j < 10) : cellF rv cv x (7 + j) = V (x.r j) := by
 unfold cellF
 rw [if_neg (by omega), if_neg (by omega), if_neg (by omega), if_neg (by omega), if_neg (by omega), if_neg (by omega), if_neg (by omega), if_pos (by omega), show 7 + j - 7 = j by omega]
theorem J9o (rv cv : Value) (x : Ms) (j : Nat) (hj : j < 384) : cellF rv cv x (17 + j) = V (x.wd j) := by
 unfold cellF
 rw [if_neg (by omega), if_neg (by omega), if_neg (by omega), if_neg (by omega), if_neg (by omega), if_neg (by omega), if_neg (by omega), if_neg (by omega), if_pos (by omega), show 17 + j - 17 = j by omega]
theorem Jej (rv cv : Value) (x : Ms) (j : Nat) (hj : j < 7) : cellF rv cv x (404 + j) = V (x.st j) := by
 unfold cellF
 rw [if_neg (by omega), if_neg (by omega), if_neg (by omega), if_neg (by omega), if_neg (by omega), if_neg (by omega), if_neg (by omega), if_neg (by omega), if_neg (by omega), if_neg (by omega), if_neg (by omega), if_neg (by omega), show 404 + j - 404 = j by omega]

structure MC (c : Array Value) (rv cv : Value) (x : Ms) : Prop where
 big : 411 ≤ c.size
 at_ : ∀ j, j < 411 → c[j]? = some (cellF rv cv x j)
 tail : ∀ j, 411 ≤ j → c[j]? = x.tl j

theorem MC.size {c : Array Value} {rv cv : Value} {x : Ms} (h : MC c rv cv x) (ht : x.tl 411 = none) : c.size = 411 := by
 have h1 := h.tail 411 (Nat.le_refl _)
 rw [ht, Array.getElem?_eq_none_iff] at h1
 have := h.big
 omega

structure MAt (w : World) (M : Nat) (rv cv : Value) (x : Ms) : Prop where
 out : ∃ c, w.heap[M]? = some (.cells c x.T (0, 0)) ∧ MC c rv cv x

def setN (r : Nat → Int) (k : Nat) (v : Int) : Nat → Int := fun j => if j = k then v else r j

section
variable {w w' : World} {M : Nat} {rv cv : Value} {x : Ms}

theorem MAt.wr (h : MAt w M rv cv x) (j : Nat) (hj : j < 411) : Wr w M j (cellF rv cv x j) := by
 obtain ⟨c, hh, hc⟩ := h.out
 exact ⟨by rw [cell_of_row w M j c x.T (0, 0) hh]; exact hc.at_ j hj, by simp [World.frozen?, hh]⟩
theorem MAt.lt (h : MAt w M rv cv x) : M < w.heap.size := J0x (h.wr 0 (by omega)).1

theorem MAt.p0 (h : MAt w M rv cv x) : Wr w M 0 rv := h.wr 0 (by omega)
theorem MAt.p1 (h : MAt w M rv cv x) : Wr w M 1 cv := h.wr 1 (by omega)
theorem MAt.fin (h : MAt w M rv cv x) : Wr w M 2 (V x.fin) := h.wr 2 (by omega)
theorem MAt.val (h : MAt w M rv cv x) : Wr w M 3 (V x.val) := h.wr 3 (by omega)
theorem MAt.steps (h : MAt w M rv cv x) : Wr w M 4 (V x.steps) := h.wr 4 (by omega)
theorem MAt.sv (h : MAt w M rv cv x) : Wr w M 5 x.sv := h.wr 5 (by omega)
theorem MAt.mv (h : MAt w M rv cv x) : Wr w M 6 x.mv := h.wr 6 (by omega)
theorem MAt.next (h : MAt w M rv cv x) : Wr w M 401 (V x.next) := h.wr 401 (by omega)
theorem MAt.fuel (h : MAt w M rv cv x) : Wr w M 402 (V x.fuel) := h.wr 402 (by omega)
theorem MAt.ended (h : MAt w M rv cv x) : Wr w M 403 (.bool x.ended) := h.wr 403 (by omega)
theorem MAt.r (h : MAt w M rv cv x) (j : Nat) (hj : j < 10) : Wr w M (7 + j) (V (x.r j)) := by
 have := h.wr (7 + j) (by omega)
 rw [Jch rv cv x j hj] at this
 exact this
theorem MAt.wd (h : MAt w M rv cv x) (j : Nat) (hj : j < 384) : Wr w M (17 + j) (V (x.wd j)) := by
 have := h.wr (17 + j) (by omega)
 rw [J9o rv cv x j hj] at this
 exact this
theorem MAt.st (h : MAt w M rv cv x) (j : Nat) (hj : j < 7) : Wr w M (404 + j) (V (x.st j)) := by
 have := h.wr (404 + j) (by omega)
 rw [Jej rv cv x j hj] at this
 exact this

theorem MAt.kept (h : MAt w M rv cv x) {row : Option Nat} (hg : w.grownBy w' row) (hne : some M ≠ row) : MAt w' M rv cv x := by
 obtain ⟨c, hh, hc⟩ := h.out
 exact ⟨c, by rw [hg.block M h.lt hne]; exact hh, hc⟩
theorem MAt.alloc (h : MAt w M rv cv x) (o : Obj) : MAt (w.alloc o) M rv cv x := h.kept (World.grownBy_alloc w o none) (by simp)
theorem MAt.drew (h : MAt w M rv cv x) : MAt w.drew M rv cv x := h.kept (J3h w none) (by simp)
theorem MAt.more (h : MAt w M rv cv x) (m : More w w') : MAt w' M rv cv x := h.kept (m.grow none) (by simp)

theorem MAt.set (h : MAt w M rv cv x) (j : Nat) (v : Value) (x' : Ms) (hj : j < 411) (hT : x'.T = x.T) (htl : x'.tl = x.tl) (hx : ∀ i, i < 411 → cellF rv cv x' i = if i = j then v else cellF rv cv x i) : MAt (w.setCell ⟨M, j, none⟩ v) M rv cv x' := by
 obtain ⟨c, hh, hc⟩ := h.out
 refine ⟨c.setIfInBounds j v, ?_, by simp [hc.big], fun i hi => ?_, fun i hi => ?_⟩
 ·rw [setCell_eq_setRow w M j c x.T (0, 0) v hh, hT]
  exact setRow_heap w M c _ x.T _ hh
 ·rw [hx i hi, Array.getElem?_setIfInBounds]
  by_cases e : i = j
  ·subst e
   rw [if_pos rfl, if_pos rfl, if_pos (by have := hc.big; omega)]
  ·rw [if_neg (fun h => e h.symm), if_neg e]
   exact hc.at_ i hi
 ·rw [Array.getElem?_setIfInBounds, if_neg (by omega), htl]
  exact hc.tail i hi

theorem MAt.setTl (h : MAt w M rv cv x) (j : Nat) (v u : Value) (tl : Nat → Option Value) (hj : 411 ≤ j) (hu : x.tl j = some u) (htl : ∀ i, 411 ≤ i → tl i = if i = j then some v else x.tl i) : MAt (w.setCell ⟨M, j, none⟩ v) M rv cv { x with tl := tl } := by
 obtain ⟨c, hh, hc⟩ := h.out
 have hlt : j < c.size := by
  have h1 := hc.tail j hj
  rw [hu] at h1
  exact (Array.getElem?_eq_some_iff.1 h1).1
 refine ⟨c.setIfInBounds j v, ?_, by simp [hc.big], fun i hi => ?_, fun i hi => ?_⟩
 ·rw [setCell_eq_setRow w M j c x.T (0, 0) v hh]
  exact setRow_heap w M c _ x.T _ hh
 ·rw [Array.getElem?_setIfInBounds, if_neg (by omega)]
  exact hc.at_ i hi
 ·show _ = tl i
  rw [Array.getElem?_setIfInBounds, htl i hi]
  by_cases e : i = j
  ·subst e
   rw [if_pos rfl, if_pos rfl, if_pos hlt]
  ·rw [if_neg (fun h => e h.symm), if_neg e]
   exact hc.tail i hi
theorem MAt.tlw (h : MAt w M rv cv x) (j : Nat) (hj : 411 ≤ j) (v : Value) (hv : x.tl j = some v) : Wr w M j v := by
 obtain ⟨c, hh, hc⟩ := h.out
 exact ⟨by rw [cell_of_row w M j c x.T (0, 0) hh, hc.tail j hj]; exact hv, by simp [World.frozen?, hh]⟩

theorem MAt.setFin (h : MAt w M rv cv x) (n : Int) : MAt (w.setCell ⟨M, 2, none⟩ (V n)) M rv cv { x with fin := n } :=
 h.set 2 _ _ (by omega) rfl rfl fun i hi => by unfold cellF; by_cases e : i = 2 <;> simp [e]
theorem MAt.setVal (h : MAt w M rv cv x) (n : Int) : MAt (w.setCell ⟨M, 3, none⟩ (V n)) M rv cv { x with val := n } :=
 h.set 3 _ _ (by omega) rfl rfl fun i hi => by unfold cellF; by_cases e : i = 3 <;> simp [e]
theorem MAt.setSteps (h : MAt w M rv cv x) (n : Int) : MAt (w.setCell ⟨M, 4, none⟩ (V n)) M rv cv { x with steps := n } :=
 h.set 4 _ _ (by omega) rfl rfl fun i hi => by unfold cellF; by_cases e : i = 4 <;> simp [e]
theorem MAt.setSv (h : MAt w M rv cv x) (v : Value) : MAt (w.setCell ⟨M, 5, none⟩ v) M rv cv { x with sv := v } :=
 h.set 5 _ _ (by omega) rfl rfl fun i hi => by unfold cellF; by_cases e : i = 5 <;> simp [e]
theorem MAt.setMv (h : MAt w M rv cv x) (v : Value) : MAt (w.setCell ⟨M, 6, none⟩ v) M rv cv { x with mv := v } :=
 h.set 6 _ _ (by omega) rfl rfl fun i hi => by unfold cellF; by_cases e : i = 6 <;> simp [e]
theorem MAt.setNext (h : MAt w M rv cv x) (n : Int) : MAt (w.setCell ⟨M, 401, none⟩ (V n)) M rv cv { x with next := n } :=
 h.set 401 _ _ (by omega) rfl rfl fun i hi => by unfold cellF; by_cases e : i = 401 <;> simp [e]
theorem MAt.setEnded (h : MAt w M rv cv x) (b : Bool) : MAt (w.setCell ⟨M, 403, none⟩ (.bool b)) M rv cv { x with ended := b } :=
 h.set 403 _ _ (by omega) rfl rfl fun i hi => by unfold cellF; by_cases e : i = 403 <;> simp [e]
theorem MAt.setR (h : MAt w M rv cv x) (k : Nat) (hk : k < 10) (n : Int) : MAt (w.setCell ⟨M, 7 + k, none⟩ (V n)) M rv cv { x with r := setN x.r k n } :=
 h.set (7 + k) _ _ (by omega) rfl rfl fun i hi => by
  by_cases e : i = 7 + k
  ·subst e; rw [if_pos rfl, Jch _ _ _ k hk]; simp [setN]
  ·rw [if_neg e]
   unfold cellF setN
   by_cases e1 : i < 7
   ·have : i = 0 ∨ i = 1 ∨ i = 2 ∨ i = 3 ∨ i = 4 ∨ i = 5 ∨ i = 6 := by omega
    rcases this with rfl | rfl | rfl | rfl | rfl | rfl | rfl <;> simp
   ·have e2 : ¬ i - 7 = k := by omega
    simp [e2]
theorem MAt.setWd (h : MAt w M rv cv x) (k : Nat) (hk : k < 384) (n : Int) : MAt (w.setCell ⟨M, 17 + k, none⟩ (V n)) M rv cv { x with wd := setN x.wd k n } :=
 h.set (17 + k) _ _ (by omega) rfl rfl fun i hi => by
  by_cases e : i = 17 + k
  ·subst e; rw [if_pos rfl, J9o _ _ _ k hk]; simp [setN]
  ·rw [if_neg e]
   unfold cellF setN
   by_cases e1 : i < 17
   ·simp [e1]
   ·have e2 : ¬ i - 17 = k := by omega
    simp [e2]
theorem MAt.setSt (h : MAt w M rv cv x) (k : Nat) (hk : k < 7) (n : Int) : MAt (w.setCell ⟨M, 404 + k, none⟩ (V n)) M rv cv { x with st := setN x.st k n } :=
 h.set (404 + k) _ _ (by omega) rfl rfl fun i hi => by
  by_cases e : i = 404 + k
  ·subst e; rw [if_pos rfl, Jej _ _ _ k hk]; simp [setN]
  ·rw [if_neg e]
   unfold cellF setN
   by_cases e1 : i < 404
   ·have : i < 401 ∨ i = 401 ∨ i = 402 ∨ i = 403 := by omega
    rcases this with h1 | rfl | rfl | rfl
    ·simp [h1]
    ·simp
    ·simp
    ·simp
   ·have e2 : ¬ i - 404 = k := by omega
    simp [e2]
end

structure Run (w : World) (M : Nat) (rv cv : Value) (x : Ms) (se : List Se) : Prop where
 out : ∃ sv, MAt w M rv cv { x with sv := sv } ∧ SeenOwn w (M + 1) sv se ∧ ∀ q ∈ x.mo, M < q.1 ∧ some q.1 ≠ sv.ownBlock ∧ w.heap[q.1]? = some q.2

section
variable {w w' : World} {M : Nat} {rv cv : Value} {x x' : Ms} {se : List Se}
theorem Run.lt (h : Run w M rv cv x se) : M < w.heap.size := by
 obtain ⟨sv, hm, _⟩ := h.out
 exact hm.lt
theorem Run.kept (h : Run w M rv cv x se) {row : Option Nat} (hg : w.grownBy w' row) (hr : ∀ b, row = some b → b < M) : Run w' M rv cv x se := by
 obtain ⟨sv, hm, ho, hq⟩ := h.out
 exact ⟨sv, hm.kept hg (fun e => by have := hr M e.symm; omega), ho.kept hg (fun b hb => by have := hr b hb; omega), fun q e => ⟨(hq q e).1, (hq q e).2.1, by rw [hg.block q.1 (J15 (hq q e).2.2) (fun e' => by have := hr q.1 e'.symm; have := (hq q e).1; omega)]; exact (hq q e).2.2⟩⟩
theorem Run.more (h : Run w M rv cv x se) (m : More w w') : Run w' M rv cv x se := h.kept (m.grow none) (fun b hb => by cases hb)
theorem Run.alloc (h : Run w M rv cv x se) (o : Obj) : Run (w.alloc o) M rv cv x se := h.kept (World.grownBy_alloc w o none) (fun b hb => by cases hb)
theorem Run.drew (h : Run w M rv cv x se) : Run w.drew M rv cv x se := h.kept (J3h w none) (fun b hb => by cases hb)
theorem Run.put (h : Run w M rv cv x se) {j : Nat} {v : Value} (hmo : x'.mo = x.mo) (hm : ∀ sv, MAt w M rv cv { x with sv := sv } → MAt (w.setCell ⟨M, j, none⟩ v) M rv cv { x' with sv := sv }) : Run (w.setCell ⟨M, j, none⟩ v) M rv cv x' se := by
 obtain ⟨sv, h1, ho, hq⟩ := h.out
 exact ⟨sv, hm sv h1, ho.kept (J14 w M j v) (fun b hb => by have := Option.some.inj hb; omega), fun q e => by
  rw [hmo] at e
  exact ⟨(hq q e).1, (hq q e).2.1, by rw [(J14 w M j v).block q.1 (J15 (hq q e).2.2) (fun e' => by have := Option.some.inj e'; have := (hq q e).1; omega)]; exact (hq q e).2.2⟩⟩
theorem Run.setFin (h : Run w M rv cv x se) (n : Int) : Run (w.setCell ⟨M, 2, none⟩ (V n)) M rv cv { x with fin := n } se := h.put rfl fun _ m => m.setFin n
theorem Run.setVal (h : Run w M rv cv x se) (n : Int) : Run (w.setCell ⟨M, 3, none⟩ (V n)) M rv cv { x with val := n } se := h.put rfl fun _ m => m.setVal n
theorem Run.setSteps (h : Run w M rv cv x se) (n : Int) : Run (w.setCell ⟨M, 4, none⟩ (V n)) M rv cv { x with steps := n } se := h.put rfl fun _ m => m.setSteps n
theorem Run.setNext (h : Run w M rv cv x se) (n : Int) : Run (w.setCell ⟨M, 401, none⟩ (V n)) M rv cv { x with next := n } se := h.put rfl fun _ m => m.setNext n
theorem Run.setEnded (h : Run w M rv cv x se) (b : Bool) : Run (w.setCell ⟨M, 403, none⟩ (.bool b)) M rv cv { x with ended := b } se := h.put rfl fun _ m => m.setEnded b
theorem Run.setR (h : Run w M rv cv x se) (k : Nat) (hk : k < 10) (n : Int) : Run (w.setCell ⟨M, 7 + k, none⟩ (V n)) M rv cv { x with r := setN x.r k n } se := h.put rfl fun _ m => m.setR k hk n
theorem Run.setWd (h : Run w M rv cv x se) (k : Nat) (hk : k < 384) (n : Int) : Run (w.setCell ⟨M, 17 + k, none⟩ (V n)) M rv cv { x with wd := setN x.wd k n } se := h.put rfl fun _ m => m.setWd k hk n

theorem Run.fin (h : Run w M rv cv x se) : Wr w M 2 (V x.fin) := by obtain ⟨sv, m, _⟩ := h.out; exact m.fin
theorem Run.val (h : Run w M rv cv x se) : Wr w M 3 (V x.val) := by obtain ⟨sv, m, _⟩ := h.out; exact m.val
theorem Run.steps (h : Run w M rv cv x se) : Wr w M 4 (V x.steps) := by obtain ⟨sv, m, _⟩ := h.out; exact m.steps
theorem Run.p0 (h : Run w M rv cv x se) : Wr w M 0 rv := by obtain ⟨sv, m, _⟩ := h.out; exact m.p0
theorem Run.p1 (h : Run w M rv cv x se) : Wr w M 1 cv := by obtain ⟨sv, m, _⟩ := h.out; exact m.p1
theorem Run.next (h : Run w M rv cv x se) : Wr w M 401 (V x.next) := by obtain ⟨sv, m, _⟩ := h.out; exact m.next
theorem Run.fuel (h : Run w M rv cv x se) : Wr w M 402 (V x.fuel) := by obtain ⟨sv, m, _⟩ := h.out; exact m.fuel
theorem Run.ended (h : Run w M rv cv x se) : Wr w M 403 (.bool x.ended) := by obtain ⟨sv, m, _⟩ := h.out; exact m.ended
theorem Run.r (h : Run w M rv cv x se) (j : Nat) (hj : j < 10) : Wr w M (7 + j) (V (x.r j)) := by obtain ⟨sv, m, _⟩ := h.out; exact m.r j hj
theorem Run.wd (h : Run w M rv cv x se) (j : Nat) (hj : j < 384) : Wr w M (17 + j) (V (x.wd j)) := by obtain ⟨sv, m, _⟩ := h.out; exact m.wd j hj
theorem Run.tlw (h : Run w M rv cv x se) (j : Nat) (hj : 411 ≤ j) (v : Value) (hv : x.tl j = some v) : Wr w M j v := by obtain ⟨sv, m, _⟩ := h.out; exact m.tlw j hj v hv
theorem Run.setTl (h : Run w M rv cv x se) (j : Nat) (v u : Value) (tl : Nat → Option Value) (hj : 411 ≤ j) (hu : x.tl j = some u) (htl : ∀ i, 411 ≤ i → tl i = if i = j then some v else x.tl i) : Run (w.setCell ⟨M, j, none⟩ v) M rv cv { x with tl := tl } se := h.put rfl fun _ m => m.setTl j v u tl hj hu htl
theorem Run.st (h : Run w M rv cv x se) (j : Nat) (hj : j < 7) : Wr w M (404 + j) (V (x.st j)) := by obtain ⟨sv, m, _⟩ := h.out; exact m.st j hj
end

theorem MAt.mos {w : World} {M : Nat} {rv cv : Value} {x : Ms} (h : MAt w M rv cv x) (l : List (Nat × Obj)) : MAt w M rv cv { x with mo := l } := by
 obtain ⟨c, hh, hc⟩ := h.out
 exact ⟨c, hh, hc.big, hc.at_, hc.tail⟩
theorem Run.left {w : World} {M : Nat} {rv cv : Value} {x : Ms} {se : List Se} (h : Run w M rv cv x se) {q : Nat × Obj} (hq : q ∈ x.mo) : w.heap[q.1]? = some q.2 := by obtain ⟨sv, _, _, h3⟩ := h.out; exact (h3 q hq).2.2
theorem Run.beside {w : World} {M : Nat} {rv cv : Value} {x : Ms} {se : List Se} (h : Run w M rv cv x se) (o : Obj) : Run (w.alloc o) M rv cv { x with mo := (w.heap.size, o) :: x.mo } se := by
 have h0 := h.alloc o
 obtain ⟨sv, h1, h2, h3⟩ := h.out
 refine ⟨sv, (h1.alloc o).mos _, h2.kept (World.grownBy_alloc w o none) (fun b hb => by cases hb), fun q hq => ?_⟩
 rcases List.mem_cons.1 hq with rfl | hq
 ·refine ⟨h.lt, fun e => ?_, heap_alloc_last w o⟩
  have := (World.ownsRow.lt h2 _ e.symm).2
  dsimp only at this
  omega
 ·refine ⟨(h3 q hq).1, (h3 q hq).2.1, ?_⟩
  rw [(World.grownBy_alloc w o none).block q.1 (J15 (h3 q hq).2.2) (by simp)]
  exact (h3 q hq).2.2
theorem Run.fewer {w : World} {M : Nat} {rv cv : Value} {x : Ms} {se : List Se} (h : Run w M rv cv x se) (l : List (Nat × Obj)) (hl : ∀ q ∈ l, q ∈ x.mo) : Run w M rv cv { x with mo := l } se := by
 obtain ⟨sv, h1, h2, h3⟩ := h.out
 exact ⟨sv, h1.mos _, h2, fun q hq => h3 q (hl q hq)⟩
end
section
open Go.RowKit
set_option linter.unusedSimpArgs false
set_option linter.unusedVariables false
theorem J3u (w : World) (M : Nat) (a b : Int) (s4 : w.cell? ⟨M, 4, none⟩ = some (V a)) (s402 : w.cell? ⟨M, 402, none⟩ = some (V b)) :
  Calls Tryz.prog 57 #[.pointer (some ⟨M, 0, none⟩)] w fun e w' => e = .returned (.bool (decide (a < b))) ∧ More w w' := by
 go_enter Tryz.func57, Tryz.ntmps57
 go_wp2
 go_region
 go_wp2
 go_ret
 exact ⟨rfl, (More.refl _).drew⟩

theorem J5m (w : World) (M : Nat) (a : Int) (ca : Option Addr) (cl cc : Nat) (s : w.cell? ⟨M, 401, none⟩ = some (V a)) (s1 : w.cell? ⟨M, 1, none⟩ = some (.slice ca cl cc)) :
  Calls Tryz.prog 59 #[.pointer (some ⟨M, 0, none⟩)] w fun e w' => e = .returned (.bool (decide (a < (cl : Int)))) ∧ More w w' := by
 go_enter Tryz.func59, Tryz.ntmps59
 go_wp2
 go_region
 go_wp2
 go_ret
 exact ⟨rfl, (More.refl _).drew⟩

theorem J3k (w : World) (M : Nat) (rv cv : Value) (x : Ms) (se : List Se) (n : Int) (h : Run w M rv cv x se) :
  Calls Tryz.prog 58 #[.pointer (some ⟨M, 0, none⟩), V n] w fun e w' => e = .returned (.tuple #[]) ∧ Run w' M rv cv { x with fin := n, ended := true } se ∧ Below M w w' := by
 obtain ⟨c0, f0⟩ := h.fin
 obtain ⟨c1, f1⟩ := h.ended
 have H : Hid (Run w M rv cv x se) := h
 clear h
 go_enter Tryz.func58, Tryz.ntmps58
 go_wp2
 go_end0
 exact ⟨rfl, (H.out.setFin n).setEnded true, J0d (J0d (Below.refl _ _) _ _) _ _⟩

def OwnNot (w : World) (M B : Nat) : Prop := ∀ sv, w.cell? ⟨M, 5, none⟩ = some sv → some B ≠ sv.ownBlock
theorem Run.notOwn {w : World} {M : Nat} {rv cv : Value} {x : Ms} {se : List Se} (h : Run w M rv cv x se) (B : Nat) (hB : w.heap.size ≤ B) : OwnNot w M B := by
 intro sv hc e
 obtain ⟨sv', hm, ho, _⟩ := h.out
 have h5 := hm.sv.1
 dsimp only at h5
 rw [hc] at h5
 obtain rfl := Option.some.inj h5
 have := (World.ownsRow.lt ho B e.symm).2
 omega

theorem OwnNot.of {w w' : World} {M B : Nat} (h : OwnNot w M B) (e : w'.cell? ⟨M, 5, none⟩ = w.cell? ⟨M, 5, none⟩) : OwnNot w' M B := fun sv hc => h sv (by rw [← e]; exact hc)
structure RunA (w : World) (M : Nat) (rv cv : Value) (x : Ms) (se : List Se) (R : Nat) : Prop where
 run : Run w M rv cv x se
 own : OwnNot w M R
 ne : R ≠ M
 mo : ∀ q ∈ x.mo, q.1 ≠ R
theorem Run.moLt {w : World} {M : Nat} {rv cv : Value} {x : Ms} {se : List Se} (h : Run w M rv cv x se) : ∀ q ∈ x.mo, q.1 ≠ w.heap.size := by
 intro q e
 obtain ⟨sv, _, _, hq⟩ := h.out
 have := J15 (hq q e).2.2
 omega
theorem RunA.set {w : World} {M : Nat} {rv cv : Value} {x : Ms} {se : List Se} {R : Nat} (h : RunA w M rv cv x se R) (j : Nat) (v : Value) : RunA (w.setCell ⟨R, j, none⟩ v) M rv cv x se R := by
 obtain ⟨sv, hm, ho, hq⟩ := h.run.out
 have hne : some M ≠ some R := fun e => h.ne (Option.some.inj e).symm
 refine ⟨⟨sv, hm.kept (J14 w R j v) hne, World.ownsRow.kept ho (J14 w R j v) (.inr fun e => h.own sv hm.sv.1 e.symm), fun q e => ⟨(hq q e).1, (hq q e).2.1, by rw [(J14 w R j v).block q.1 (J15 (hq q e).2.2) (fun e' => h.mo q e (Option.some.inj e'))]; exact (hq q e).2.2⟩⟩, h.own.of (World.cell?_setCell_other _ _ _ _ ?_), h.ne, h.mo⟩
 intro e
 simp only [Addr.mk.injEq] at e
 exact h.ne e.1

set_option maxHeartbeats 400000 in
theorem J3v (w : World) (M : Nat) (rv cv : Value) (x : Ms) (se : List Se) (k a b : Int) (hl : se.length ≤ 200000) (h : Run w M rv cv x se) :
  Calls Tryz.prog 63 #[.pointer (some ⟨M, 0, none⟩), V k, V a, V b] w fun e w' => e = .returned (.tuple #[]) ∧ Run w' M rv cv x (se ++ [⟨k, a, b⟩]) ∧ Below M w w' ∧ ∀ B, B < w.heap.size → B ≠ M → OwnNot w M B → w'.heap[B]? = w.heap[B]? ∧ OwnNot w' M B := by
 obtain ⟨sv, hm, ho, hq⟩ := h.out
 obtain ⟨sa, sc, rfl⟩ := Jab ho
 obtain ⟨c5, f5⟩ := hm.sv
 dsimp only at c5
 have hlt := hm.lt
 obtain ⟨i2, hi2, hz0, hz1, hz2⟩ := info_parts Jo4
 have Hi : Hid (Tryz.prog.info? 165 = some i2 ∧ i2.zero = some (.agg #[V 0, V 0, V 0]) ∧ i2.size = 3 ∧ i2.bytes = 24) := ⟨hi2, hz0, hz1, hz2⟩
 clear hi2 hz0 hz1 hz2
 have H : Hid (MAt w M rv cv { x with sv := .slice sa se.length sc } ∧ SeenOwn w (M + 1) (.slice sa se.length sc) se ∧ se.length ≤ 200000 ∧ M < w.heap.size) := ⟨hm, ho, hl, hlt⟩
 have Hrow : Hid (some M ≠ (Value.slice sa se.length sc).ownBlock) := fun e => by have := (World.ownsRow.lt ho M e.symm).1; omega
 have Hown : Hid (SeenOwn (w.alloc (.cells #[V k, V a, V b] 165)) (M + 1) (.slice sa se.length sc) se) := ho.kept (World.grownBy_alloc w _ none) (fun b hb => by cases hb)
 have HQ : Hid (∀ q ∈ x.mo, M < q.1 ∧ some q.1 ≠ (Value.slice sa se.length sc).ownBlock ∧ w.heap[q.1]? = some q.2) := hq
 clear hm ho hl h hlt hq
 go_enter Tryz.func63, Tryz.ntmps63
 go_wp2_with (at_builtin; refine wpList_append_lies _ rfl (.tmp 13) (.tmp 18) 42 rfl (M + 1) 165 i2 (.agg #[V 0, V 0, V 0]) 3 24 Tryz.underlying42 Hi.out.1 Hi.out.2.1 Hi.out.2.2.1 Hi.out.2.2.2 rfl (by decide) (.slice sa se.length sc) se.length (flatS se) rfl Hown.out ⟨w.heap.size, 0, none⟩ 1 1 [V k, V a, V b] rfl rfl (by simpa using J7h w (V k) (V a) (V b) 165) (fun x hx => by simp at hx; rcases hx with rfl | rfl | rfl <;> rfl) (by decide) (by have := H.out.2.2.1; unfold maxLen; omega) (by have := H.out.2.2.1; omega) (by have := H.out.2.2.2; simp; omega) (w.heap.size + 1) (by simp) ?_; intro g_ cap w2 own2 gr2 hat2 hlt2; obtain ⟨t5c, t5f⟩ := (H.out.1.sv.kept (World.grownBy_alloc w (.cells #[V k, V a, V b] 165) none) (by simp)).kept gr2 Hrow.out)
 go_end0
 have kp : ∀ B, B < w.heap.size → B ≠ M → some B ≠ (Value.slice sa se.length sc).ownBlock → (w2.setCell ⟨M, 5, none⟩ (.slice (some ⟨g_, 0, none⟩) (se.length + 1) cap)).heap[B]? = w.heap[B]? ∧ B ≠ g_ := by
  intro B hB hM hO
  refine ⟨by rw [Below.heap_setCell _ _ _ _ (by simpa using hM), gr2.block B (by simp; omega) hO, (World.grownBy_alloc w _ none).block B hB (by simp)], fun e => ?_⟩
  subst e
  rcases hat2 with h1 | h1
  ·exact hO h1.symm
  ·omega
 refine ⟨rfl, ⟨.slice (some ⟨g_, 0, none⟩) (se.length + 1) cap, ((H.out.1.alloc _).kept gr2 Hrow.out).setSv _, ?_, fun q e => ?_⟩, J0d (Below.grown (J05 (Below.refl _ _) (by have := H.out.2.2.2; omega) _) gr2 ?_ ?_) _ _, ?_⟩
 ·refine SeenOwn.kept ?_ (J14 _ _ _ _) (fun b hb => by have := Option.some.inj hb; omega)
  unfold SeenOwn; rw [J6t, List.length_append]; exact own2
 ·obtain ⟨q1, q2, q3⟩ := HQ.out q e
  have h1 := kp q.1 (J15 q3) (by omega) q2
  refine ⟨q1, fun e' => h1.2 ?_, by rw [h1.1]; exact q3⟩
  simpa [Value.ownBlock] using e'
 ·have := H.out.2.2.2; simp; omega
 ·intro b hb; have := (World.ownsRow.lt H.out.2.1 b hb).1; omega
 ·intro B hB hM hO
  have h1 := kp B hB hM (hO _ H.out.1.sv.1)
  refine ⟨h1.1, fun sv hc e => ?_⟩
  rw [World.cell?_setCell_same _ _ _ t5c] at hc
  obtain rfl := Option.some.inj hc
  exact h1.2 (by simpa [Value.ownBlock] using e)
end
end Go.Proofs.YtephohhigbfafaaGreatDoor
