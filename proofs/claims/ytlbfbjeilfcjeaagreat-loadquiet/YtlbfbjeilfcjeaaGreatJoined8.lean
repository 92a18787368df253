/-
  The texts LdFit, RPlace, HdMask, HdCode, HdClone, HdMake, WdPut, WdGet, LdLay, one behind the other, with what is used of them.
-/
import Derived.Test.YtlbfbjeilfcjeaaGreatJoined0
import Derived.Test.YtlbfbjeilfcjeaaGreatJoined7
import Derived.Test.YtlbfbjeilfcjeaaGreatJoined5
import Derived.Deep.AppendLies
import Derived.Laws.AppendOwnNone
import Derived.Test.YtlbfbjeilfcjeaaGreatProg
import Derived.Test.YtlbfbjeilfcjeaaGreatJoined1
import Derived.Deep.LoopGhost
import Derived.Deep.OwnRows
import Derived.Lib.SliceRun
import Derived.Test.YtlbfbjeilfcjeaaGreatJoined4
namespace Go.Proofs.YtlbfbjeilfcjeaaGreat
set_option maxHeartbeats 4000000
section
open Go.RowKit
set_option linter.unusedSimpArgs false
set_option linter.unusedVariables false
def J16 (a : Int) : Nat -> Int -> List Ins
 | 0, n => [⟨1, a, 0, 0, n⟩]
 | f + 1, n => if N14 n then [⟨1, a, 0, 0, n⟩] else J16 a f (n / 8192) ++ [⟨27, a, a, 9, 0⟩, ⟨10, a, a, 0, n % 8192⟩]
def numL (a n : Int) : List Ins := ⟨1, 9, 0, 0, 13⟩ :: J16 a 4 n
def fitL (i : Ins) : List Ins := if N14 i.n then [i] else if i.op = 1 then numL i.a i.n else if i.op = 10 then numL 8 i.n ++ [⟨21, i.a, i.b, 8, 0⟩] else [i]
def fitP (q : Prg) : Prg := ⟨q.rl, q.log, q.sec, J0k fitL q.ins q.cl, hardG fitL q.ins q.cl⟩

theorem J1w {i : Ins} (h1 : ¬ i.op = 1) (h2 : ¬ i.op = 10) : fitL i = [i] := by unfold fitL; simp [h1, h2]

theorem J6w {P : Ins -> Prop} {a : Int} (h1 : ∀ n, P ⟨1, a, 0, 0, n⟩) (h2 : P ⟨27, a, a, 9, 0⟩) (h3 : ∀ n, P ⟨10, a, a, 0, n⟩) : ∀ (f : Nat) (n : Int), ∀ i ∈ J16 a f n, P i
 | 0, n, i, hi => by simp [J16] at hi; subst hi; exact h1 n
 | f + 1, n, i, hi => by
  unfold J16 at hi
  split at hi
  ·simp at hi; subst hi; exact h1 n
  ·simp at hi
   rcases hi with hi | rfl | rfl
   ·exact J6w h1 h2 h3 f _ i hi
   ·exact h2
   ·exact h3 _
def lim : Nat -> Int
 | 0 => 8192
 | f + 1 => lim f * 8192
theorem J7t (a : Int) : ∀ (f : Nat) (n : Int), -lim f <= n -> n < lim f -> ∀ i ∈ J16 a f n, N14 i.n
 | 0, n, h1, h2, i, hi => by simp only [lim] at h1 h2; simp [J16] at hi; subst hi; unfold N14; dsimp only; omega
 | f + 1, n, h1, h2, i, hi => by
  unfold J16 at hi
  split at hi
  ·simp at hi; subst hi; assumption
  ·simp only [lim] at h1 h2
   simp at hi;rcases hi with hi | rfl | rfl
   ·exact J7t a f _ (by omega) (by omega) i hi
   ·unfold N14; dsimp only; omega
   ·unfold N14; dsimp only; omega
theorem lim4 {n : Int} (h : B64 n) : -lim 4 <= n /\ n < lim 4 := by
 unfold B64 at h;simp only [lim];omega
theorem J6x (a : Int) : ∀ (f : Nat) (n : Int), 1 <= (J16 a f n).length /\ (J16 a f n).length <= 1 + 2 * f
 | 0, n => by simp [J16]
 | f + 1, n => by
  unfold J16
  split
  ·simp
  ·have := J6x a f (n / 8192)
   simp; omega
theorem Jd4 (r : Nat -> Int) (a x y : Int) : setR (setR r a x) a y = setR r a y := by
 funext j; unfold setR; split <;> rfl
theorem Jaw (r : Nat -> Int) (a x : Int) : setR r a x a.toNat = x := by unfold setR; rw [if_pos rfl]
theorem Jax (r : Nat -> Int) (a x : Int) {j : Nat} (h : ¬ j = a.toNat) : setR r a x j = r j := by unfold setR; rw [if_neg h]
theorem shl13 {n : Int} (h : B64 n) : wrap64 (opI 7 (n / 8192) 13 + n % 8192) = n := by
 unfold B64 at h;unfold opI toU wrap64
 simp
 omega
theorem J9f {a : Int} (ha : ¬ 9 = a.toNat) : ∀ (f : Nat) (n : Int), B64 n -> ∀ r : Nat -> Int, r 9 = 13 -> seqR (J16 a f n) r = setR r a n
 | 0, n, h, r, h9 => by simp [J16, seqR, regsI]
 | f + 1, n, h, r, h9 => by
  unfold J16
  split
  ·simp [seqR, regsI]
  ·rw [J21, J9f ha f _ (by unfold B64 at *; omega) r h9]
   simp [seqR, regsI, Jd4, Jaw];rw [Jax _ _ _ ha, h9, shl13 h]
theorem J7u {a : Int} (ha : ¬ 9 = a.toNat) : ∀ (f : Nat) (n : Int) (L : Nat -> Bool), L 9 = false -> ∀ j, labs (J16 a f n) L j = if j = a.toNat then false else L j
 | 0, n, L, h9, j => by simp [J16, labs, J17]
 | f + 1, n, L, h9, j => by
  unfold J16
  split
  ·simp [labs, J17]
  ·rw [J2q]
   have h := J7u ha f (n / 8192) L h9;simp [labs, J17, h, h9]

theorem Je5 {a : Int} (ha : ¬ 9 = a.toNat) {n : Int} (h : B64 n) (r : Nat -> Int) : seqR (numL a n) r = setR (setR r 9 13) a n := by
 unfold numL;simp only [seqR];rw [J9f ha 4 n h]
 ·simp [regsI]
 ·simp [regsI, setR]
theorem Jbo {a : Int} (ha : ¬ 9 = a.toNat) (n : Int) (L : Nat -> Bool) (j : Nat) : labs (numL a n) L j = if j = a.toNat then false else if j = 9 then false else L j := by
 unfold numL;simp only [labs];rw [J7u ha 4 n _ (by simp [J17])];simp [J17]
theorem J8h {a : Int} (ha : a.toNat < 10) (n : Int) : ∀ i ∈ numL a n, StrI i := by
 intro i hi;unfold numL at hi;rcases List.mem_cons.1 hi with rfl | hi
 ·unfold StrI; simp
 ·exact J6w (P := StrI) (fun n => ⟨by simp, ha, by simp, by simp⟩) ⟨by simp, ha, ha, by simp⟩ (fun n => ⟨by simp, ha, ha, by simp⟩) 4 n i hi
theorem Jak (a n : Int) : 1 <= (numL a n).length /\ (numL a n).length <= 10 := by
 have := J6x a 4 n;unfold numL; simp; omega
theorem J86 (i : Ins) : 1 <= (fitL i).length /\ (fitL i).length <= 11 := by
 unfold fitL
 split
 ·simp
 split
 ·have := Jak i.a i.n; omega
 split
 ·have := Jak 8 i.n; simp; omega
 ·simp

theorem Jkb {i : Ins} (h1 : i.op = 1) (ha : i.a.toNat < 8) (hn : B64 i.n) (r : Nat -> Int) {j : Nat} (hj : j < 8) : seqR (fitL i) r j = setR r i.a i.n j := by
 unfold fitL
 split
 ·simp [seqR, regsI, h1]
 ·rw [Je5 (by omega) hn]
  unfold setR
  simp
  split
  ·rfl
  ·rw [if_neg (by omega)]
theorem Ji2 {i : Ins} (h1 : i.op = 1) (ha : i.a.toNat < 8) (L : Nat -> Bool) (h9 : L 9 = false) (j : Nat) : labs (fitL i) L j = if j = i.a.toNat then false else L j := by
 unfold fitL
 split
 ·simp [labs, J17, h1]
 ·rw [Jbo (by omega)]
  split
  ·rfl
  ·split
   ·rename_i e; rw [e, h9]
   ·rfl
theorem Jdc {i : Ins} (h1 : i.op = 10) (hb : i.b.toNat < 8) (hn : B64 i.n) (r : Nat -> Int) {j : Nat} (hj : j < 8 \/ j = i.a.toNat) : seqR (fitL i) r j = setR r i.a (wrap64 (r i.b.toNat + i.n)) j := by
 unfold fitL
 split
 ·simp [seqR, regsI, h1]
 ·rw [if_neg (by omega), J21, Je5 (by decide) hn]
  simp [seqR, regsI];by_cases e : j = i.a.toNat
  ·rw [e, Jaw, Jaw]
   unfold opI;simp [setR];rw [if_neg (by omega), if_neg (by omega)]
  ·rw [Jax _ _ _ e, Jax _ _ _ e]
   unfold setR
   simp
   rw [if_neg (by omega), if_neg (by omega)]
theorem Jb6 {i : Ins} (h1 : i.op = 10) (hb : i.b.toNat < 8) (L : Nat -> Bool) (hL : ∀ j, 8 <= j -> L j = false) (j : Nat) : labs (fitL i) L j = if j = i.a.toNat then L i.b.toNat else L j := by
 have h8 := hL 8 (by omega);have h9 := hL 9 (by omega);unfold fitL
 split
 ·simp [labs, J17, h1]
 ·rw [if_neg (by omega), J2q]
  simp only [labs, J17];have e := Jbo (a := 8) (by decide) i.n L;simp [e]
  split
  ·simp [show ¬ i.b.toNat = 8 by omega, show ¬ i.b.toNat = 9 by omega]
  ·by_cases q8 : j = 8
   ·simp [q8, h8]
   ·by_cases q9 : j = 9
    ·simp [q9, h9]
    ·simp [q8, q9]
theorem J50 {i : Ins} (h : StrI i) : ∀ x ∈ fitL i, StrI x := by
 intro x hx;unfold fitL at hx
 split at hx
 ·simp at hx; subst hx; exact h
 split at hx
 ·exact J8h h.2.1 _ x hx
 split at hx
 ·rcases List.mem_append.1 hx with hx | hx
  ·exact J8h (by decide) _ x hx
  ·simp at hx; subst hx
   exact ⟨by simp, h.2.1, h.2.2.1, by simp⟩
 ·simp at hx; subst hx; exact h

section
variable (p : Prg)
def stF (k : Nat) : Nat := J0k fitL (hardP p).ins (J0m p k)
def fitB (k : Nat) : List Ins :=
 if (p.ins k).op = 3 \/ (p.ins k).op = 4 then fitL ⟨10, 8, (p.ins k).b, 0, (p.ins k).n⟩ ++ [⟨11, 8, 0, 0, J0c (p.log (p.ins k).c.toNat)⟩, ⟨(p.ins k).op, (p.ins k).a, 8, (p.ins k).c, 0⟩]
 else if (p.ins k).op = 7 \/ (p.ins k).op = 8 then [⟨(p.ins k).op, (p.ins k).a, (p.ins k).b, (p.ins k).c, (stF p (p.ins k).n.toNat : Int)⟩]
 else fitL (p.ins k)
end
section
variable {p : Prg} {k : Nat}
theorem J5x (h : (p.ins k).op = 3 \/ (p.ins k).op = 4) : fitB p k = fitL ⟨10, 8, (p.ins k).b, 0, (p.ins k).n⟩ ++ [⟨11, 8, 0, 0, J0c (p.log (p.ins k).c.toNat)⟩, ⟨(p.ins k).op, (p.ins k).a, 8, (p.ins k).c, 0⟩] := by unfold fitB; rw [if_pos h]
theorem J85 (h : (p.ins k).op = 7 \/ (p.ins k).op = 8) : fitB p k = [⟨(p.ins k).op, (p.ins k).a, (p.ins k).b, (p.ins k).c, (stF p (p.ins k).n.toNat : Int)⟩] := by unfold fitB; rw [if_neg (by omega), if_pos h]
theorem J3w (h : ¬ ((p.ins k).op = 3 \/ (p.ins k).op = 4)) (h2 : ¬ ((p.ins k).op = 7 \/ (p.ins k).op = 8)) : fitB p k = fitL (p.ins k) := by unfold fitB; rw [if_neg h, if_neg h2]
theorem fitB_len : 1 <= (fitB p k).length /\ (fitB p k).length <= 13 := by
 unfold fitB
 split
 ·have := J86 ⟨10, 8, (p.ins k).b, 0, (p.ins k).n⟩; simp; omega
 split
 ·simp
 ·have := J86 (p.ins k); omega

theorem Jby (hk : k < p.cl) : stF p (k + 1) = stF p k + (fitB p k).length := by
 have S := J6f p;unfold stF;rw [J2u];by_cases m : (p.ins k).op = 3 \/ (p.ins k).op = 4
 ·obtain ⟨m0, m1, m2⟩ := S.mem k hk m
  rw [J58 m, J1o, J1o, J1o, m0, m1, m2, J5x m, J1w (i := ⟨11, _, _, _, _⟩) (by simp) (by simp), J1w (i := ⟨(p.ins k).op, _, _, _, _⟩) (by dsimp only; omega) (by dsimp only; omega)]
  simp
  omega
 ·rw [J44 m, J1o]
  by_cases w : (p.ins k).op = 7 \/ (p.ins k).op = 8
  ·rw [S.go k hk w, J85 w, J1w (by dsimp only; omega) (by dsimp only; omega)]; rfl
  ·rw [S.copy k hk m w, J3w m w]
theorem Jbf {q : Prg} {m o : Nat} {i : Ins} (hm : m < q.cl) (e : (fitL (q.ins m))[o]? = some i) (h7 : ¬ (i.op = 7 \/ i.op = 8)) : (fitP q).ins (J0k fitL q.ins m + o) = i := by
 show hardG fitL q.ins q.cl (J0k fitL q.ins m + o) = i;rw [J8b _ _ hm e, J2p _ _ h7]
theorem str78 {i : Ins} (h : StrI i) : ¬ (i.op = 7 \/ i.op = 8) := by
 have := h.1;omega

theorem Jdq (ok : p.Ok 200 8) (hk : k < p.cl) (o : Nat) (i : Ins) (e : (fitB p k)[o]? = some i) : (fitP (hardP p)).ins (stF p k + o) = i := by
 have S := J6f p;have hlt : ∀ o, o < sizeK p k -> J0m p k + o < (hardP p).cl := fun o ho => S.lt hk ho
 have hi := ok.2.2.2 k hk;by_cases m : (p.ins k).op = 3 \/ (p.ins k).op = 4
 ·obtain ⟨m0, m1, m2⟩ := S.mem k hk m
  have hs := J58 m;have hr : Reg 8 (p.ins k).b := by unfold InsOk at hi; rcases m with m | m <;> simp [m] at hi <;> exact hi.2.1
  unfold Reg at hr;rw [J5x m] at e;have l0 : (fitL ((hardP p).ins (J0m p k))) = fitL ⟨10, 8, (p.ins k).b, 0, (p.ins k).n⟩ := by rw [m0]
  have n0 := J1o fitL (hardP p).ins (J0m p k);rw [l0] at n0;have l1 : fitL ((hardP p).ins (J0m p k + 1)) = [⟨11, 8, 0, 0, J0c (p.log (p.ins k).c.toNat)⟩] := by rw [m1]; exact J1w (by simp) (by simp)
  have n1 := J1o fitL (hardP p).ins (J0m p k + 1);rw [l1] at n1;have l2 : fitL ((hardP p).ins (J0m p k + 2)) = [⟨(p.ins k).op, (p.ins k).a, 8, (p.ins k).c, 0⟩] := by rw [m2]; exact J1w (by dsimp only; omega) (by dsimp only; omega)
  unfold stF;by_cases c : o < (fitL ⟨10, 8, (p.ins k).b, 0, (p.ins k).n⟩).length
  ·rw [List.getElem?_append_left c] at e
   refine Jbf (hlt 0 (by omega)) (by rw [l0]; exact e) (str78 (J50 ?_ i (List.mem_of_getElem? e)));exact ⟨by simp, by simp, by dsimp only; omega, by simp⟩
  ·rw [List.getElem?_append_right (by omega)] at e
   generalize hd : o - (fitL ⟨10, 8, (p.ins k).b, 0, (p.ins k).n⟩).length = d at e
   match d, e with
   | 0, e =>
    obtain rfl := Option.some.inj e;have := Jbf (o := 0) (hlt 1 (by omega)) (by rw [l1]; rfl) (by simp);rw [n0] at this;rw [show J0k fitL (hardP p).ins (J0m p k) + o = J0k fitL (hardP p).ins (J0m p k) + (fitL ⟨10, 8, (p.ins k).b, 0, (p.ins k).n⟩).length + 0 by omega];exact this
   | 1, e =>
    obtain rfl := Option.some.inj e;have := Jbf (o := 0) (hlt 2 (by omega)) (by rw [l2]; rfl) (by dsimp only; omega);rw [show J0m p k + 2 = J0m p k + 1 + 1 by omega, n1, n0] at this;rw [show J0k fitL (hardP p).ins (J0m p k) + o = J0k fitL (hardP p).ins (J0m p k) + (fitL ⟨10, 8, (p.ins k).b, 0, (p.ins k).n⟩).length + 1 + 0 by omega];exact this
   | d + 2, e => simp at e
 ·have hs := J44 m
  by_cases w : (p.ins k).op = 7 \/ (p.ins k).op = 8
  ·rw [J85 w] at e
   have h1 := S.go k hk w;have l0 : fitL ((hardP p).ins (J0m p k)) = [⟨(p.ins k).op, (p.ins k).a, (p.ins k).b, (p.ins k).c, (J0m p (p.ins k).n.toNat : Int)⟩] := by rw [h1]; exact J1w (by dsimp only; omega) (by dsimp only; omega)
   match o, e with
   | 0, e =>
    obtain rfl := Option.some.inj e;have := J8b fitL (hardP p).ins (o := 0) (hlt 0 (by omega)) (by rw [Nat.add_zero, l0]; rfl);refine this.trans ?_;unfold leadG stF;rw [if_pos w]
    simp
   | o + 1, e => simp at e
  ·rw [J3w m w] at e
   have h1 := S.copy k hk m w;refine Jbf (hlt 0 (by omega)) (by rw [h1]; exact e) ?_;unfold fitL at e
   split at e
   ·simp [List.getElem?_singleton] at e; rw [<- e.2]; exact w
   split at e
   ·refine str78 (J8h ?_ _ i (List.mem_of_getElem? e))
    rename_i q; unfold InsOk Reg at hi; rw [if_pos q] at hi; omega
   split at e
   ·refine str78 ?_
    rcases List.mem_append.1 (List.mem_of_getElem? e) with hx | hx
    ·exact J8h (by decide) _ i hx
    ·simp at hx; subst hx
     rename_i q; unfold InsOk Reg at hi; simp [q] at hi;exact ⟨by simp, by dsimp only; omega, by dsimp only; omega, by simp⟩
   ·simp [List.getElem?_singleton] at e; rw [<- e.2]; exact w

theorem Jdp (ok : p.Ok 200 8) (hf : p.Fit) : Blo p (fitP (hardP p)) (stF p) (fitB p) 8 := by
 refine ⟨.inl rfl, rfl, fun i hi => ⟨rfl, rfl⟩, rfl, fun k hk => Jby hk, rfl, fun k hk => fitB_len.1, fun k hk => Jdq ok hk, fun k hk h => J85 h, fun k hk h => ?_, fun k hk m => ?_, fun k hk h1 h2 h3 => ?_⟩
 ·rw [J3w (by omega) (by omega), J1w (by omega) (by omega)]
 ·have hi := ok.2.2.2 k hk
  have hn : B64 (p.ins k).n := (hf.ins k hk).2.2.2.2;have hr : Reg 8 (p.ins k).b /\ Rgn p.rl (p.ins k).c := by unfold InsOk at hi; rcases m with m | m <;> simp [m] at hi <;> exact hi.2
  obtain ⟨hb, hc⟩ := hr;unfold Reg at hb;unfold Rgn at hc;have hl := ok.1.2 (p.ins k).c.toNat (by omega);have hw : 1 <= J0c (p.log (p.ins k).c.toNat) := (J1b (by omega)).1;have sq : ∀ r j, j < 8 \/ j = 8 -> seqR (fitL ⟨10, 8, (p.ins k).b, 0, (p.ins k).n⟩) r j = setR r 8 (wrap64 (r (p.ins k).b.toNat + (p.ins k).n)) j := fun r j hj => Jdc (i := ⟨10, 8, (p.ins k).b, 0, (p.ins k).n⟩) rfl (by dsimp only; omega) hn r hj
  have s8 : ∀ r, seqR (fitL ⟨10, 8, (p.ins k).b, 0, (p.ins k).n⟩) r 8 = wrap64 (r (p.ins k).b.toNat + (p.ins k).n) := fun r => by rw [sq r 8 (.inr rfl)]; rfl
  generalize hW : J0c (p.log (p.ins k).c.toNat) = W at hw;have ix : ∀ r, idxI r (p.ins k) = wrap64 (r (p.ins k).b.toNat + (p.ins k).n) := fun r => by unfold idxI; rw [if_neg (by omega)]
  have m8 : ∀ r, seqR [⟨11, 8, 0, 0, W⟩] r 8 = if r 8 < 0 \/ W <= r 8 then 0 else r 8 := fun r => by
   simp [seqR, regsI]
   split
   ·simp [setR]
   ·rfl
  have mj : ∀ r j, j < 8 -> seqR [⟨11, 8, 0, 0, W⟩] r j = r j := fun r j hj => by
   simp [seqR, regsI]
   split
   ·unfold setR; simp; omega
   ·rfl
  refine ⟨fitL ⟨10, 8, (p.ins k).b, 0, (p.ins k).n⟩ ++ [⟨11, 8, 0, 0, W⟩], ?_, fun i hi => ?_, fun r j hj => ?_, fun r => ?_, fun r _ h0 h1 => ?_, fun L hL hb0 j hj => ?_⟩
  ·rw [J5x m, hW]; simp
  ·rcases List.mem_append.1 hi with h | h
   ·exact J50 ⟨by simp, by simp, by dsimp only; omega, by simp⟩ i h
   ·simp at h; subst h; exact ⟨by simp, by simp, by simp, by simp⟩
  ·rw [J21, mj _ _ hj, sq r j (.inl hj)]
   unfold setR; simp; omega
  ·rw [J21]
   show 0 <= seqR _ _ 8 /\ seqR _ _ 8 < W;rw [m8]
   split <;> omega
  ·rw [J21]
   show seqR _ _ 8 = _;rw [m8, s8, <- ix];rw [if_neg (by omega)]
  ·rw [J2q] at hj
   have e := Jb6 (i := ⟨10, 8, (p.ins k).b, 0, (p.ins k).n⟩) rfl (by dsimp only; omega) L hL;simp only [labs, J17] at hj;simp [e] at hj;by_cases q : j = 8
   ·simp [q, hb0] at hj
   ·simp [q] at hj
    refine ⟨?_, hj⟩;rcases Nat.lt_or_ge j 8 with c | c
    ·exact c
    ·rw [hL j c] at hj; cases hj
 ·have hi := ok.2.2.2 k hk
  have hn : B64 (p.ins k).n := (hf.ins k hk).2.2.2.2;have hg := J20 hi;rw [J3w h1 h2];have hI := hi;unfold InsOk Reg at hI
  have lowL : ∀ (L : Nat -> Bool), (∀ j, 8 <= j -> L j = false) -> (p.ins k).a.toNat < 8 -> ∀ j, J17 (p.ins k) L j = true -> j < 8 /\ J17 (p.ins k) L j = true := fun L hL ha j hj => by
   refine ⟨?_, hj⟩;rcases Nat.lt_or_ge j 8 with c | c
   ·exact c
   ·unfold J17 at hj
    rw [if_neg (by omega), hL j c] at hj; cases hj
  have single : StrI (p.ins k) -> (p.ins k).a.toNat < 8 -> fitL (p.ins k) = [p.ins k] -> (∀ i ∈ fitL (p.ins k), StrI i) /\ (∀ r, (∀ j, j < 8 -> B64 (r j)) -> ∀ j, j < 8 -> seqR (fitL (p.ins k)) r j = (regsI r (p.ins k)).1 j) /\ (∀ L : Nat -> Bool, (∀ j, 8 <= j -> L j = false) -> ∀ j, labs (fitL (p.ins k)) L j = true -> j < 8 /\ J17 (p.ins k) L j = true) := fun hs ha e => by
   rw [e];exact ⟨fun i h => by simp at h; subst h; exact hs, fun r _ j _ => rfl, fun L hL j hj => lowL L hL ha j hj⟩
  by_cases q1 : (p.ins k).op = 1
  ·rw [if_pos q1] at hI
   refine ⟨J50 ⟨.inl q1, by omega, by omega, by omega⟩, fun r _ j hj => ?_, fun L hL j hj => ?_⟩
   ·rw [Jkb q1 (by omega) hn r hj]; unfold regsI; rw [if_pos q1]
   ·rw [Ji2 q1 (by omega) L (hL 9 (by omega))] at hj
    have e : J17 (p.ins k) L j = if j = (p.ins k).a.toNat then false else L j := by unfold J17; rw [if_pos q1]
    exact lowL L hL (by omega) j (e.trans hj)
  ·rw [if_neg q1] at hI
   by_cases q10 : (p.ins k).op = 10
   ·simp [q10] at hI
    refine ⟨J50 ⟨by omega, by omega, by omega, by omega⟩, fun r _ j hj => ?_, fun L hL j hj => ?_⟩
    ·rw [Jdc q10 (by omega) hn r (.inl hj)]; unfold regsI; rw [if_neg (by omega), if_neg (by omega), if_pos q10]
    ·rw [Jb6 q10 (by omega) L hL] at hj
     have e : J17 (p.ins k) L j = if j = (p.ins k).a.toNat then L (p.ins k).b.toNat else L j := by unfold J17; simp [q10]
     exact lowL L hL (by omega) j (e.trans hj)
   ·have e := J1w q1 q10
    by_cases q2 : (p.ins k).op = 2
    ·rw [if_pos q2] at hI
     exact single ⟨.inr (.inl q2), by omega, by omega, by omega⟩ (by omega) e
    by_cases q11 : (p.ins k).op = 11
    ·simp [q11] at hI
     exact single ⟨by omega, by omega, by omega, by omega⟩ (by omega) e
    ·rw [if_neg q2, if_neg (by omega), if_neg (by omega), if_neg (by omega), if_neg (by omega), if_neg (by omega), if_neg (by omega), if_neg (by omega), if_neg q10, if_neg q11, if_neg (by omega)] at hI
     exact single ⟨by omega, by omega, by omega, by omega⟩ (by omega) e
end
theorem J3r {P : Program} {w : World} (base : Nat) (t ty e : TypeId) (i : TypeInfo) (size : Nat) (ht : P.underlying t = some (.slice e)) (hi : P.info? e = some i)
  (v : Value) (n : Nat) (xs : List Value) (hown : w.ownsRow base e size v n xs) (ad : Option Addr) (c : Nat) :
  (Builtin.append_ #[t, t] ty #[v, .slice ad 0 c]).run P w = .ok v w := by
 have hl : ∀ a : Addr, (loadCells a 0).run P w = .ok #[] w := fun a => rfl
 rcases hown.2 with ⟨rfl, rfl⟩ | ⟨g, cap, cur, rfl, _, _, hnc, _⟩
 ·cases ad <;> simp [Builtin.append_, run_underlying ht, sizeOf, typeInfo, hi, Builtin.lenOf, Builtin.firstCells, hl]
 ·cases ad <;> simp [Builtin.append_, run_underlying ht, sizeOf, typeInfo, hi, Builtin.lenOf, Builtin.firstCells, hnc, storeCells, hl]

theorem J5c {P : Program} {o : Oper} {a : Act} (w : World) {K : Act -> World -> Prop} {Q : Exit -> Act -> World -> Prop} (s x : Operand) (t : TypeId)
  (ho : o.op = .call { callee := .builtin .append, args := #[s, x], argTypes := #[t, t] })
  (base : Nat) (e : TypeId) (i : TypeInfo) (z : Value) (size bytes : Nat) (ht : P.underlying t = some (.slice e)) (hi : P.info? e = some i) (hz : i.zero = some z)
  (hsize : i.size = size) (hby : i.bytes = bytes) (hzs : z.cells.size = size) (hsz : 0 < size)
  (v : Value) (n : Nat) (xs : List Value) (hs : a.eval s = v) (hown : w.ownsRow base e size v n xs)
  (ad : Option Addr) (m c : Nat) (news : List Value) (hx : a.eval x = .slice ad m c) (hl : news.length = m * size) (hnews : 0 < m -> ∃ ad', ad = some ad' /\ ∀ j u, news[j]? = some u -> w.cell? (ad'.add j) = some u) (h1 : ∀ u ∈ news, u.oneCell' = true)
  (h63 : n + m <= maxLen) (hbytes : (n + m) * bytes <= 140737488355328) (hbase : base <= w.heap.size)
  (h : ∀ va cap w', w'.ownsRow base e size (.slice va (n + m) cap) (n + m) (xs ++ news) -> w.grownBy w' v.ownBlock -> (∀ b, (Value.slice va (n + m) cap).ownBlock = some b -> v.ownBlock = some b \/ b = w.heap.size) -> (v.ownBlock ≠ none -> va ≠ none) -> K (a.put o.dst (.slice va (n + m) cap)) w') : o.wp P a w K Q := by
 by_cases hm : 0 < m
 ·obtain ⟨ad', rfl, hn2⟩ := hnews hm
  refine wp_append_lies w s x t ho base e i z size bytes ht hi hz hsize hby hzs hsz v n xs hs hown ad' m c news hx hl hn2 h1 hm h63 hbytes hbase w.heap.size rfl (fun g cap w' h2 h3 h4 h5 => h _ _ _ h2 h3 (fun b hb => ?_) (fun _ => by simp));have : b = g := by simpa [Value.ownBlock] using hb.symm
  subst this;exact h4
 ·obtain rfl : m = 0 := by omega
  have hnl : news = [] := List.eq_nil_of_length_eq_zero (by rw [hl]; omega);subst hnl;have hrun := J3r (P := P) (w := w) base t o.type e i size ht hi v n xs hown ad c;obtain ⟨va, cap, rfl⟩ := J27 hown;unfold Oper.wp;simp [execOp, ho, resolve, invoke, builtin, hs, hx, hrun, Result.andThen];exact h va cap w (by simpa using hown) (J0j _ _) (fun b hb => .inl hb) (fun h1 h2 => h1 (by rw [h2]; rfl))
theorem J1r {P : Program} {ops : Array Oper} {rest : List Oper} {o : Oper} {a : Act} (w : World) {Q : Exit -> Act -> World -> Prop} (hgd : o.guard = none) (s x : Operand) (t : TypeId)
  (ho : o.op = .call { callee := .builtin .append, args := #[s, x], argTypes := #[t, t] })
  (base : Nat) (e : TypeId) (i : TypeInfo) (z : Value) (size bytes : Nat) (ht : P.underlying t = some (.slice e)) (hi : P.info? e = some i) (hz : i.zero = some z)
  (hsize : i.size = size) (hby : i.bytes = bytes) (hzs : z.cells.size = size) (hsz : 0 < size)
  (v : Value) (n : Nat) (xs : List Value) (hs : a.eval s = v) (hown : w.ownsRow base e size v n xs)
  (ad : Option Addr) (m c : Nat) (news : List Value) (hx : a.eval x = .slice ad m c) (hl : news.length = m * size) (hnews : 0 < m -> ∃ ad', ad = some ad' /\ ∀ j u, news[j]? = some u -> w.cell? (ad'.add j) = some u) (h1 : ∀ u ∈ news, u.oneCell' = true)
  (h63 : n + m <= maxLen) (hbytes : (n + m) * bytes <= 140737488355328) (hbase : base <= w.heap.size)
  (h : ∀ va cap w', w'.ownsRow base e size (.slice va (n + m) cap) (n + m) (xs ++ news) -> w.grownBy w' v.ownBlock -> (∀ b, (Value.slice va (n + m) cap).ownBlock = some b -> v.ownBlock = some b \/ b = w.heap.size) -> (v.ownBlock ≠ none -> va ≠ none) -> wpList P ops Q rest (a.put o.dst (.slice va (n + m) cap)) w') : wpList P ops Q (o :: rest) a w :=
 wpList_plain hgd fun _ hK => J5c w s x t ho base e i z size bytes ht hi hz hsize hby hzs hsz v n xs hs hown ad m c news hx hl hnews h1 h63 hbytes hbase fun va cap w' h2 h3 h4 h5 => hK _ _ (h va cap w' h2 h3 h4 h5)

def ints (l : List Int) : List Value := l.map fun x => .int .i64 x
theorem J6h (l : List Int) : (ints l).length = l.length := by simp [ints]
theorem Jgm (l : List Int) : ∀ u ∈ ints l, u.oneCell' = true := by
 intro u hu;simp only [ints, List.mem_map] at hu;obtain ⟨i, _, rfl⟩ := hu
 rfl

structure PV where
 rg : Nat
 rc : Nat
 wg : Nat
 wa : Option Addr
 wc : Nat
 pg : Nat
 pa : Option Addr
 pc : Nat
 P : Nat -> Value
def PV.regs (a : PV) : Value := .slice (some ⟨a.rg, 0, none⟩) 10 a.rc
def PV.words (a : PV) (N : Nat) : Value := .slice a.wa N a.wc
def PV.past (a : PV) (N : Nat) : Value := .slice a.pa N a.pc

def InR (K l : Nat) : Prop := K < l /\ l < K + 1000

structure PlL (w : World) (lo N K : Nat) (lab : Nat -> Nat) (q : Pl) (a : PV) : Prop where
 lr : lab a.rg = K + 1
 regs : RegsR w a.rg q.r
 lw : 0 < N -> lab a.wg = K + 2
 wa : 0 < N -> a.wa = some ⟨a.wg, 0, none⟩
 words : ∀ j, j < N -> Wr w a.wg j (.int .i64 (q.wd j))
 lp : 0 < N -> lab a.pg = K + 3
 pa : 0 < N -> a.pa = some ⟨a.pg, 0, none⟩
 past : ∀ j, j < N -> Wr w a.pg j (a.P j)
 rows : ∀ j, j < N -> w.ownsRow lo 2 1 (a.P j) (q.past j).length (ints (q.past j))
 lrow : ∀ j, j < N -> ∀ b, (a.P j).ownBlock = some b -> lab b = K + 10 + j
 cap : N <= a.wc

section
variable {w w' : World} {lo N K : Nat} {lab lab' : Nat -> Nat} {q : Pl} {a : PV}

theorem PlL.labs (h : PlL w lo N K lab q a) (hl : ∀ b, lab b ≠ 0 -> lab' b = lab b) : PlL w lo N K lab' q a :=
 ⟨by rw [hl _ (by rw [h.lr]; omega)]; exact h.lr, h.regs, fun hN => by rw [hl _ (by rw [h.lw hN]; omega)]; exact h.lw hN, h.wa, h.words, fun hN => by rw [hl _ (by rw [h.lp hN]; omega)]; exact h.lp hN, h.pa, h.past, h.rows, fun j hj b hb => by rw [hl _ (by rw [h.lrow j hj b hb]; omega)]; exact h.lrow j hj b hb, h.cap⟩
theorem PlL.kept (h : PlL w lo N K lab q a) (hN : N <= 384) {row : Option Nat} (hg : w.grownBy w' row) (hr : ∀ b, row = some b -> ¬ InR K (lab b)) : PlL w' lo N K lab q a := by
 have ne : ∀ b, InR K (lab b) -> some b ≠ row := fun b hb e => hr b e.symm hb
 refine ⟨h.lr, h.regs.kept hg (ne _ (by rw [h.lr]; unfold InR; omega)), h.lw, h.wa, fun j hj => (h.words j hj).kept hg (ne _ (by rw [h.lw (by omega)]; unfold InR; omega)), h.lp, h.pa, fun j hj => (h.past j hj).kept hg (ne _ (by rw [h.lp (by omega)]; unfold InR; omega)), fun j hj => ?_, h.lrow, h.cap⟩;refine World.ownsRow.kept (h.rows j hj) hg ?_;cases hv : (a.P j).ownBlock with
 | none => left; rfl
 | some b => right; exact ne b (by rw [h.lrow j hj b hv]; unfold InR; omega)
theorem PlL.go (h : PlL w lo N K lab q a) (n : Nat) : PlL w lo N K lab { q with at_ := n } a := ⟨h.lr, h.regs, h.lw, h.wa, h.words, h.lp, h.pa, h.past, h.rows, h.lrow, h.cap⟩
theorem PlL.base (h : PlL w lo N K lab q a) {lo' : Nat} (hl : lo' <= lo) : PlL w lo' N K lab q a :=
 ⟨h.lr, h.regs, h.lw, h.wa, h.words, h.lp, h.pa, h.past, fun j hj => ⟨(h.rows j hj).1, by
  rcases (h.rows j hj).2 with h1 | ⟨g, cap, cur, h1, h2, h3⟩
  ·exact .inl h1
  ·exact .inr ⟨g, cap, cur, h1, by omega, h3⟩⟩, h.lrow, h.cap⟩
theorem PlL.regd (h : PlL w lo N K lab q a) (hN : N <= 384) (r : Nat -> Int) (hg : w.grownBy w' (some a.rg)) (hr : RegsR w' a.rg r) : PlL w' lo N K lab { q with r := r } a := by
 have ne : ∀ b, lab b ≠ K + 1 -> some b ≠ some a.rg := fun b hb e => hb (by rw [Option.some.inj e]; exact h.lr)
 refine ⟨h.lr, hr, h.lw, h.wa, fun j hj => (h.words j hj).kept hg (ne _ (by rw [h.lw (by omega)]; omega)), h.lp, h.pa, fun j hj => (h.past j hj).kept hg (ne _ (by rw [h.lp (by omega)]; omega)), fun j hj => ?_, h.lrow, h.cap⟩;refine World.ownsRow.kept (h.rows j hj) hg ?_;cases hv : (a.P j).ownBlock with
 | none => left; rfl
 | some b => right; exact ne b (by rw [h.lrow j hj b hv]; omega)
theorem PlL.reg (h : PlL w lo N K lab q a) (hN : N <= 384) (k v : Int) : PlL (w.setCell ⟨a.rg, k.toNat, none⟩ (.int .i64 v)) lo N K lab { q with r := setR q.r k v } a :=
 h.regd hN _ (J0q w a.rg _ _) (h.regs.set k v)
theorem PlL.word (h : PlL w lo N K lab q a) (hN : N <= 384) (n : Nat) (hn : n < N) (v : Int) : PlL (w.setCell ⟨a.wg, n, none⟩ (.int .i64 v)) lo N K lab { q with wd := setF q.wd n v } a := by
 have hg := J0q w a.wg n (.int .i64 v);have ne : ∀ b, lab b ≠ K + 2 -> some b ≠ some a.wg := fun b hb e => hb (by rw [Option.some.inj e]; exact h.lw (by omega))
 refine ⟨h.lr, h.regs.kept hg (ne _ (by rw [h.lr]; omega)), h.lw, h.wa, fun j hj => ?_, h.lp, h.pa, fun j hj => (h.past j hj).kept hg (ne _ (by rw [h.lp (by omega)]; omega)), fun j hj => ?_, h.lrow, h.cap⟩
 ·dsimp only [setF]
  by_cases e : j = n
  ·subst e; rw [if_pos rfl]; exact (h.words j hj).same _
  ·rw [if_neg e]; exact (h.words j hj).other _ _ _ (by omega)
 ·refine World.ownsRow.kept (h.rows j hj) hg ?_
  cases hv : (a.P j).ownBlock with
  | none => left; rfl
  | some b => right; exact ne b (by rw [h.lrow j hj b hv]; omega)
theorem PlL.push (h : PlL w lo N K lab q a) (hN : N <= 384) (n : Nat) (hn : n < N) (x : Int) (v : Value) (hg : w.grownBy w' (a.P n).ownBlock) (own : w'.ownsRow lo 2 1 v ((q.past n).length + 1) (ints (q.past n) ++ [.int .i64 x]))
  (hl : ∀ b, lab b ≠ 0 -> lab' b = lab b) (hv : ∀ b, v.ownBlock = some b -> lab' b = K + 10 + n) :
  PlL (w'.setCell ⟨a.pg, n, none⟩ v) lo N K lab' { q with past := setF q.past n (q.past n ++ [x]) } { a with P := setF a.P n v } := by
 have h' := h.labs hl;have ne : ∀ b, lab b ≠ K + 10 + n -> some b ≠ (a.P n).ownBlock := fun b hb e => hb (h.lrow n hn b e.symm)
 have hg2 := J0q w' a.pg n v;have lp := h'.lp (by omega);have lw := h.lw (by omega);have lpo := h.lp (by omega);have ne2 : ∀ b, lab' b ≠ K + 3 -> some b ≠ some a.pg := fun b hb e => hb (by rw [Option.some.inj e]; exact lp)
 refine ⟨h'.lr, (h.regs.kept hg (ne _ (by rw [h.lr]; omega))).kept hg2 (ne2 _ (by rw [h'.lr]; omega)), h'.lw, h.wa, fun j hj => ((h.words j hj).kept hg (ne _ (by rw [lw]; omega))).kept hg2 (ne2 _ (by rw [h'.lw (by omega)]; omega)), h'.lp, h.pa, fun j hj => ?_, fun j hj => ?_, fun j hj b hb => ?_, h.cap⟩
 ·dsimp only [setF]
  by_cases e : j = n
  ·subst e; rw [if_pos rfl]; exact ((h.past j hj).kept hg (ne _ (by rw [lpo]; omega))).same _
  ·rw [if_neg e]; exact ((h.past j hj).kept hg (ne _ (by rw [lpo]; omega))).other _ _ _ (by omega)
 ·dsimp only [setF]
  by_cases e : j = n
  ·subst e
   rw [if_pos rfl, if_pos rfl, List.length_append];have e1 : ints (q.past j ++ [x]) = ints (q.past j) ++ [.int .i64 x] := by simp [ints]
   rw [e1];refine World.ownsRow.kept own hg2 ?_;cases hvb : v.ownBlock with
   | none => left; rfl
   | some b => right; exact ne2 b (by rw [hv b hvb]; omega)
  ·rw [if_neg e, if_neg e]
   refine World.ownsRow.kept (World.ownsRow.kept (h.rows j hj) hg ?_) hg2 ?_
   ·cases hb : (a.P j).ownBlock with
    | none => left; rfl
    | some b => right; exact ne b (by rw [h.lrow j hj b hb]; omega)
   ·cases hb : (a.P j).ownBlock with
    | none => left; rfl
    | some b => right; exact ne2 b (by rw [h'.lrow j hj b hb]; omega)
 ·dsimp only [setF] at hb
  by_cases e : j = n
  ·subst e; rw [if_pos rfl] at hb; exact hv b hb
  ·rw [if_neg e] at hb; exact h'.lrow j hj b hb
end
end
section
open Go.RowKit
set_option linter.unusedSimpArgs false
set_option linter.unusedVariables false
set_option maxRecDepth 8000
def NewsAt (w : World) (g : Nat) (L : List Ins) : Prop := ∀ j u, (flatI L)[j]? = some u -> w.cell? ((⟨g, 0, none⟩ : Addr).add j) = some u
theorem NewsAt.of {w : World} {g : Nat} {L : List Ins} {cs : Array Value} {T : TypeId} (h : Blk w g cs T) (e : cs.toList = flatI L) : NewsAt w g L := fun j u hu => by
 rw [<- e] at hu;exact World.news_of_block h j u hu

theorem Jhw (l : Int) (h0 : 0 <= l) (h1 : l <= 6) (w : World) : (Op.shift .shl .i64 1 .i64 l).run Tryz.prog w = .ok (.int .i64 (J0c l)) w := by
 have : l = 0 \/ l = 1 \/ l = 2 \/ l = 3 \/ l = 4 \/ l = 5 \/ l = 6 := by omega
 rcases this with rfl | rfl | rfl | rfl | rfl | rfl | rfl
 all_goals (clear h0 h1; go_simp; rfl)

theorem J95 (p : Prg) (i : Ins) (ra : Option Addr) (rc rb ro : Nat) (w : World) (hra : 0 < p.rl -> ra = some ⟨rb, ro, none⟩) (hr : RegsAt w rb ro p.rl p.log p.sec) (hok : J0g p.rl p.log) (hc : i.op = 3 \/ i.op = 4 -> Rgn p.rl i.c) :
  Calls Tryz.prog 57 #[.agg #[.int .i64 i.op, .int .i64 i.a, .int .i64 i.b, .int .i64 i.c, .int .i64 i.n], .slice ra p.rl rc] w fun e w' => ∃ g, e = .returned (.slice (some ⟨g, 0, none⟩) (maskL p i).length (maskL p i).length) /\ NewsAt w' g (maskL p i) /\ More w w' := by
 obtain ⟨op, a, b, c, n⟩ := i;dsimp only at hc |-;by_cases hm : op = 3 \/ op = 4
 ·have hL : maskL p ⟨op, a, b, c, n⟩ = [⟨10, 8, b, 0, n⟩, ⟨11, 8, 0, 0, J0c (p.log c.toNat)⟩, ⟨op, a, 8, c, 0⟩] := by unfold maskL; rw [if_pos hm]
  rw [hL];have hc' := hc hm;obtain ⟨c0, c1⟩ := hc';obtain ⟨cn, rfl⟩ := Int.eq_ofNat_of_zero_le c0;have hcn : cn < p.rl := by omega
  have hci : (cn : Int) < (p.rl : Int) := by omega
  obtain rfl := hra (by omega);have hrc := (hr cn hcn).1;have hlg := hok.2 cn hcn;simp only [Int.toNat_natCast] at hL |-;obtain ⟨lg, Hlg⟩ : ∃ x, Hid (p.log cn = x) := ⟨_, rfl⟩;obtain ⟨rl, Hrl⟩ : ∃ x, Hid (p.rl = x) := ⟨_, rfl⟩;rw [Hlg.out] at hrc hlg |-;rw [Hrl.out] at hci |-;clear hL hc c0 c1 hra hok hr Hlg Hrl hcn;have hsh := Jhw lg hlg.1 hlg.2;obtain ⟨wd, Hwd⟩ : ∃ x, Hid (J0c lg = x) := ⟨_, rfl⟩;rw [Hwd.out] at hsh |-;clear hlg Hwd;have Hm : Hid (op = 3 \/ op = 4) := hm;clear hm;obtain ⟨W, HW⟩ : ∃ W : World, Hid (W = w.alloc (.cells #[.int .i64 op, .int .i64 a, .int .i64 b, .int .i64 (cn : Int), .int .i64 n] 53)) := ⟨_, rfl⟩;have HwW : Hid (More w W) := HW.out ▸ ((More.refl _).alloc _ _);have HbW : Hid (Blk W w.heap.size #[.int .i64 op, .int .i64 a, .int .i64 b, .int .i64 (cn : Int), .int .i64 n] 53) := HW.out ▸ Blk.last _ _ _;obtain ⟨S, HS⟩ : ∃ S : World -> Prop, Hid (∀ w', S w' ↔ More W w') := ⟨fun w' => More W w', fun _ => Iff.rfl⟩;have HS0 : S W.drew := (HS.out _).2 (More.refl _).drew;have k0 : ∀ i : { w' // S w' }, i.val.cell? ⟨w.heap.size, 0, none⟩ = some (.int .i64 op) := fun i => (HbW.out.more ((HS.out _).1 i.property)).cell rfl
  have k1 : ∀ i : { w' // S w' }, i.val.cell? ⟨w.heap.size, 1, none⟩ = some (.int .i64 a) := fun i => (HbW.out.more ((HS.out _).1 i.property)).cell rfl
  have k2 : ∀ i : { w' // S w' }, i.val.cell? ⟨w.heap.size, 2, none⟩ = some (.int .i64 b) := fun i => (HbW.out.more ((HS.out _).1 i.property)).cell rfl
  have k3 : ∀ i : { w' // S w' }, i.val.cell? ⟨w.heap.size, 3, none⟩ = some (.int .i64 (cn : Int)) := fun i => (HbW.out.more ((HS.out _).1 i.property)).cell rfl
  have k4 : ∀ i : { w' // S w' }, i.val.cell? ⟨w.heap.size, 4, none⟩ = some (.int .i64 n) := fun i => (HbW.out.more ((HS.out _).1 i.property)).cell rfl
  have kr : ∀ i : { w' // S w' }, i.val.cell? ⟨rb, ro + cn * 2, none⟩ = some (.int .i64 lg) := fun i => ((HS.out _).1 i.property).cell (HwW.out.cell hrc)
  have hne : Nonempty { w' // S w' } := ⟨⟨_, HS0⟩⟩;clear hrc;have hop := Hm.out;clear Hm;rcases hop with rfl | rfl
  all_goals
   go_enter Tryz.func57, Tryz.ntmps57;go_wp2_with (fail)
   rw [<- HW.out];refine J01 (S := S) [(0, true), (1, true), (2, true), (3, true), (4, true), (5, true), (6, true), (7, true), (8, true), (9, true), (10, true), (11, true), (12, true), (13, true), (14, true), (15, true), (16, true), (17, true), (18, true), (19, true), (20, false), (21, true)] (by kernel_rfl) (by kernel_rfl) (by kernel_rfl) HS0 ?_
   iterate 20 (refine J00 rfl (by kernel_rfl) (fun K hK => ?_); go_simp; refine hK _ _ ?_; clear hK K)
   refine J02 rfl (by kernel_rfl) (fun K hK => ?_); go_simp;refine hK _ _ ((HS.out _).2 ((More.refl _).alloc _ _).drew) ?_; clear hK K;refine J00 rfl (by kernel_rfl) (fun K hK => ?_); go_simp; refine hK _ _ ?_; clear hK K;refine J04 ?_;clear k0 k1 k2 k3 k4 kr hne HS0 hsh;go_wp2;go_ret;refine ⟨_, rfl, ?_, ((HwW.out.alloc _ _).drew)⟩;exact NewsAt.of (T := 53) (Blk.last W _ 53) rfl
 ·have hL : maskL p ⟨op, a, b, c, n⟩ = [⟨op, a, b, c, n⟩] := by unfold maskL; rw [if_neg hm]
  rw [hL];have e3 : (op != 3) = true := by simp; exact fun h => hm (.inl h)
  have e4 : (op != 4) = true := by simp; exact fun h => hm (.inr h)
  clear hL hm hc hra hr hok;go_enter Tryz.func57, Tryz.ntmps57;go_wp2;go_ret;refine ⟨_, rfl, NewsAt.of (cs := #[.int .i64 op, .int .i64 a, .int .i64 b, .int .i64 c, .int .i64 n]) (T := 53) (by simpa using Blk.last (w.alloc (.cells #[.int .i64 op, .int .i64 a, .int .i64 b, .int .i64 c, .int .i64 n] 53)) #[.int .i64 op, .int .i64 a, .int .i64 b, .int .i64 c, .int .i64 n] 53) rfl, ((More.refl _).alloc _ _).alloc _ _⟩
theorem Jjc : (Tryz.prog.info? 53).map (fun i => (i.zero, i.size, i.bytes)) = some (some (.agg #[.int .i64 0, .int .i64 0, .int .i64 0, .int .i64 0, .int .i64 0]), 5, 40) := by kernel_rfl
theorem J8g (x : Value) (n j : Nat) (h : j < n) : (madeCells #[x] n)[j]? = some x := by unfold madeCells; simp [h, Nat.mod_one]

theorem Jai {p : Prg} {k : Nat} (ok : p.Ok 200 8) (hk : k < p.cl) : ∀ i ∈ maskL p (p.ins k), i.op = 7 \/ i.op = 8 -> 0 <= i.n /\ i.n < p.cl := by
 intro i hi h;unfold maskL at hi;by_cases hm : (p.ins k).op = 3 \/ (p.ins k).op = 4
 ·rw [if_pos hm] at hi
  simp only [List.mem_cons, List.not_mem_nil, or_false] at hi;rcases hi with rfl | rfl | rfl
  ·dsimp only at h; omega
  ·dsimp only at h; omega
  ·dsimp only at h; omega
 ·rw [if_neg hm] at hi
  obtain rfl : i = p.ins k := by simpa using hi
  have hI := ok.2.2.2 k hk;unfold InsOk at hI;rcases h with h | h
  ·simp [h] at hI
   exact hI.2.2.2
  ·simp [h] at hI
   exact hI.2.2.2
theorem J6c {p : Prg} (ok : p.Ok 200 8) : ∀ n, n <= p.cl -> ∀ i ∈ codeL p n, i.op = 7 \/ i.op = 8 -> 0 <= i.n /\ i.n < p.cl
 | 0, _, i, hi, _ => by simp [codeL, codeG] at hi
 | n + 1, hn, i, hi, h => by
  rcases List.mem_append.1 hi with hi | hi
  ·exact J6c ok n (by omega) i hi h
  ·exact Jai ok (by omega) i hi h

structure H1 (w : World) (p : Prg) (rv c0 : Value) (k : Nat) (cv : Value) (wr : World) : Prop where
 box : Blk wr w.heap.size #[rv, c0] 25
 own : wr.ownsRow (w.heap.size + 2) 53 5 cv (J0m p k) (flatI (codeL p k))
 room : ∀ j, j < p.cl -> ∃ v, Wr wr (w.heap.size + 1) j v
 done : ∀ j, j < k -> wr.cell? ⟨w.heap.size + 1, j, none⟩ = some (.int .i64 (J0m p j : Nat))
 more : More w wr

theorem H1.start (w : World) (p : Prg) (rv c0 : Value) : H1 w p rv c0 0 (.slice none 0 0) ((w.alloc (.cells #[rv, c0] 25)).alloc (.cells (madeCells #[.int .i64 0] p.cl) 2)) := by
 have hb : Blk ((w.alloc (.cells #[rv, c0] 25)).alloc (.cells (madeCells #[.int .i64 0] p.cl) 2)) (w.heap.size + 1) (madeCells #[.int .i64 0] p.cl) 2 := by
  simpa using Blk.last (w.alloc (.cells #[rv, c0] 25)) (madeCells #[.int .i64 0] p.cl) 2
 exact ⟨(Blk.last _ _ _).more ((More.refl _).alloc _ _), World.ownsRow_nil _ _ _ _, fun j hj => ⟨_, hb.cell (J8g _ _ _ hj), hb.frozen _⟩, fun j hj => absurd hj (Nat.not_lt_zero _), ((More.refl _).alloc _ _).alloc _ _⟩

theorem H1.step {w : World} {p : Prg} {rv c0 : Value} {k : Nat} {cv : Value} {wr : World} (h : H1 w p rv c0 k cv wr) (hk : k < p.cl) {w1 w2 w3 : World} (cs : Array Value)
  (e1 : w1 = (wr.setCell ⟨w.heap.size + 1, k, none⟩ (.int .i64 (J0m p k : Nat))).alloc (.cells cs 53)) (m2 : More w1 w2) (g3 : w2.grownBy w3 cv.ownBlock) {cv' : Value}
  (own : w3.ownsRow (w.heap.size + 2) 53 5 cv' (J0m p (k + 1)) (flatI (codeL p (k + 1)))) : H1 w p rv c0 (k + 1) cv' w3 := by
 have hb : ∀ b, cv.ownBlock = some b -> w.heap.size + 2 <= b := fun b hb => (h.own.lt b hb).1
 have g1 : wr.grownBy w1 (some (w.heap.size + 1)) := by rw [e1]; exact J1m (J10 (J0j _ _) _ _) _
 have g2 : wr.grownBy w2 (some (w.heap.size + 1)) := J4s g1 m2;have n3 : ∀ b, b < w.heap.size + 2 -> some b ≠ cv.ownBlock := fun b hlt e => by have := hb b e.symm; omega
 have r1 : ∀ j, j < p.cl -> ∃ v, Wr w1 (w.heap.size + 1) j v := fun j hj => by
  obtain ⟨v, hv⟩ := h.room j hj;rw [e1];by_cases q : k = j
  ·subst q; exact ⟨_, (hv.same _).kept (World.grownBy_alloc _ _ none) (by simp)⟩
  ·exact ⟨v, (hv.other _ _ _ (.inr q)).kept (World.grownBy_alloc _ _ none) (by simp)⟩
 have d1 : ∀ j, j < k + 1 -> w1.cell? ⟨w.heap.size + 1, j, none⟩ = some (.int .i64 (J0m p j : Nat)) := fun j hj => by
  obtain ⟨v, hv⟩ := h.room j (by omega);rw [e1];refine ((More.refl _).alloc _ _).cell ?_;by_cases q : k = j
  ·subst q; exact (hv.same _).1
  ·rw [World.cell?_setCell_other _ _ _ _ (by intro e; simp only [Addr.mk.injEq] at e; omega)]
   exact h.done j (by omega)
 refine ⟨?_, own, fun j hj => ?_, fun j hj => ?_, ?_⟩
 ·have h2 : Blk w2 w.heap.size #[rv, c0] 25 := (g2.block _ h.box.lt (by simp)).trans h.box
  exact (g3.block _ h2.lt (n3 _ (by omega))).trans h2
 ·obtain ⟨v, hv⟩ := r1 j hj
  exact ⟨v, (hv.kept (m2.grow none) (by simp)).kept g3 (n3 _ (by omega))⟩
 ·exact g3.cell (m2.cell (d1 j hj)) (n3 _ (by show w.heap.size + 1 < _; omega))
 ·have m1 : More w w1 := by rw [e1]; exact (h.more.setCell (by simp) _).alloc _ _
  exact (m1.trans m2).grownBy g3 (fun b e => by have := hb b e; omega)

structure InsWr (w : World) (g j : Nat) (i : Ins) : Prop where
 op : Wr w g (j * 5) (.int .i64 i.op)
 a : Wr w g (j * 5 + 1) (.int .i64 i.a)
 b : Wr w g (j * 5 + 2) (.int .i64 i.b)
 c : Wr w g (j * 5 + 3) (.int .i64 i.c)
 n : Wr w g (j * 5 + 4) (.int .i64 i.n)
theorem InsWr.more {w w' : World} {g j : Nat} {i : Ins} (m : More w w') (h : InsWr w g j i) : InsWr w' g j i :=
 ⟨h.op.kept (m.grow none) (by simp), h.a.kept (m.grow none) (by simp), h.b.kept (m.grow none) (by simp), h.c.kept (m.grow none) (by simp), h.n.kept (m.grow none) (by simp)⟩
theorem Ja9 {L : List Ins} {j : Nat} (hj : j < L.length) (d : Ins) : L[j]? = some (L.getD j d) := by
 rw [List.getD_eq_getElem?_getD];rw [List.getElem?_eq_getElem hj]
 rfl
section
variable {M : Ins -> List Ins} {g : Nat -> Ins} {cl : Nat}
def mixG (M : Ins -> List Ins) (g : Nat -> Ins) (cl q j : Nat) : Ins := if j < q then hardG M g cl j else (codeG M g cl).getD j ⟨0, 0, 0, 0, 0⟩
structure H2 (M : Ins -> List Ins) (g : Nat -> Ins) (cl : Nat) (w : World) (bs : List (Nat × Array Value × TypeId)) (sb gc q : Nat) (wr : World) : Prop where
 code : ∀ j, j < J0k M g cl -> InsWr wr gc j (mixG M g cl q j)
 starts : ∀ j, j < cl -> wr.cell? ⟨sb, j, none⟩ = some (.int .i64 (J0k M g j : Nat))
 box : ∀ x ∈ bs, Blk wr x.1 x.2.1 x.2.2 /\ x.1 < gc
 ne : sb < gc
 lo : w.heap.size <= gc
 hi : gc < wr.heap.size
 more : More w wr
variable {w : World} {bs : List (Nat × Array Value × TypeId)} {sb gc q : Nat} {wr w' : World}
theorem H2.start {lo cap : Nat} (own : wr.ownsRow lo 53 5 (.slice (some ⟨gc, 0, none⟩) (J0k M g cl) cap) (J0k M g cl) (flatI (codeG M g cl)))
  (starts : ∀ j, j < cl -> wr.cell? ⟨sb, j, none⟩ = some (.int .i64 (J0k M g j : Nat))) (box : ∀ x ∈ bs, Blk wr x.1 x.2.1 x.2.2 /\ x.1 < lo) (hl : sb < lo /\ w.heap.size <= lo) (m : More w wr) : H2 M g cl w bs sb gc 0 wr := by
 have hg := own.lt gc rfl;refine ⟨fun j hj => ?_, starts, fun x hx => ⟨(box x hx).1, by have := (box x hx).2; omega⟩, by omega, by omega, hg.2, m⟩;have e := J8a (codeG M g cl) j _ (Ja9 hj ⟨0, 0, 0, 0, 0⟩);have fz : ∀ o, wr.frozen? ⟨gc, o, none⟩ = false := fun o => World.ownsRow.frozenAt own o
 have c : ∀ o v, (flatI (codeG M g cl))[o]? = some v -> o < J0k M g cl * 5 -> Wr wr gc o v := fun o v hv ho => ⟨by rw [World.ownsRow.cellAt own _ ho]; exact hv, fz _⟩
 exact ⟨c _ _ e.1 (by omega), c _ _ e.2.1 (by omega), c _ _ e.2.2.1 (by omega), c _ _ e.2.2.2.1 (by omega), c _ _ e.2.2.2.2 (by omega)⟩
theorem J6s : mixG M g cl q q = (codeG M g cl).getD q ⟨0, 0, 0, 0, 0⟩ := by unfold mixG; rw [if_neg (Nat.lt_irrefl _)]
theorem J98 {j : Nat} (h : j ≠ q) : mixG M g cl (q + 1) j = mixG M g cl q j := by
 unfold mixG;by_cases e : j < q
 ·rw [if_pos e, if_pos (by omega)]
 ·rw [if_neg e, if_neg (by omega)]
theorem J97 : mixG M g cl (q + 1) q = leadG M g (mixG M g cl q q) := by
 rw [J6s]; unfold mixG hardG; rw [if_pos (by omega)]

theorem H2.far (h : H2 M g cl w bs sb gc q wr) (m : More wr w') : H2 M g cl w bs sb gc q w' :=
 ⟨fun j hj => (h.code j hj).more m, fun j hj => m.cell (h.starts j hj), fun x hx => ⟨(h.box x hx).1.more m, (h.box x hx).2⟩, h.ne, h.lo, Nat.lt_of_lt_of_le h.hi m.size, h.more.trans m⟩
theorem H2.pass (h : H2 M g cl w bs sb gc q wr) (m : More wr w') (h7 : ¬ ((mixG M g cl q q).op = 7 \/ (mixG M g cl q q).op = 8)) : H2 M g cl w bs sb gc (q + 1) w' := by
 have k := h.far m;refine ⟨fun j hj => ?_, k.starts, k.box, k.ne, k.lo, k.hi, k.more⟩;by_cases e : j = q
 ·subst e
  rw [J97, J2p _ _ h7];exact k.code j hj
 ·rw [J98 e]
  exact k.code j hj
theorem H2.lead (h : H2 M g cl w bs sb gc q wr) (h7 : (mixG M g cl q q).op = 7 \/ (mixG M g cl q q).op = 8) : H2 M g cl w bs sb gc (q + 1) (wr.setCell ⟨gc, q * 5 + 4, none⟩ (.int .i64 (J0k M g (mixG M g cl q q).n.toNat : Nat))) := by
 have hlo := h.lo;have hne := h.ne;refine ⟨fun j hj => ?_, fun j hj => ?_, fun x hx => ⟨(h.box x hx).1.other (by have := (h.box x hx).2; omega) _ _, (h.box x hx).2⟩, h.ne, h.lo, ?_, ?_⟩
 ·have hc := h.code j hj
  by_cases e : j = q
  ·subst e
   rw [J97];unfold leadG;rw [if_pos h7];exact ⟨hc.op.other _ _ _ (.inr (by omega)), hc.a.other _ _ _ (.inr (by omega)), hc.b.other _ _ _ (.inr (by omega)), hc.c.other _ _ _ (.inr (by omega)), hc.n.same _⟩
  ·rw [J98 e]
   exact ⟨hc.op.other _ _ _ (.inr (by omega)), hc.a.other _ _ _ (.inr (by omega)), hc.b.other _ _ _ (.inr (by omega)), hc.c.other _ _ _ (.inr (by omega)), hc.n.other _ _ _ (.inr (by omega))⟩
 ·rw [World.cell?_setCell_other _ _ _ _ (by intro e; simp only [Addr.mk.injEq] at e; omega)]
  exact h.starts j hj
 ·simp [World.setCell]; exact h.hi
 ·exact h.more.setCell (by show w.heap.size <= gc; omega) _
theorem H2.end_ (h : H2 M g cl w bs sb gc (J0k M g cl) wr) : CodeAt wr gc 0 (J0k M g cl) (hardG M g cl) := fun j hj => by
 have hc := h.code j hj;have e : mixG M g cl (J0k M g cl) j = hardG M g cl j := by unfold mixG; rw [if_pos hj]
 rw [e] at hc;simp only [Nat.zero_add];exact ⟨hc.op.1, hc.a.1, hc.b.1, hc.c.1, hc.n.1⟩
end
abbrev mixL (p : Prg) (q j : Nat) : Ins := mixG (maskL p) p.ins p.cl q j
theorem H1.second {w : World} {p : Prg} {rv c0 : Value} {gc cap : Nat} {wr : World} (h : H1 w p rv c0 p.cl (.slice (some ⟨gc, 0, none⟩) (J0m p p.cl) cap) wr) : H2 (maskL p) p.ins p.cl w [] (w.heap.size + 1) gc 0 wr :=
 H2.start h.own h.done (by simp) (by omega) h.more

theorem J7g (p : Prg) (l : Loc) (w : World) (hp : PIn w p l) (hok : p.Ok 200 8) :
  Calls Tryz.prog 38 #[.agg #[.slice l.ra p.rl l.rc, .slice l.ca p.cl l.cc]] w fun e w' => ∃ gc cap, e = .returned (.slice (some ⟨gc, 0, none⟩) (J0m p p.cl) cap) /\ w.heap.size <= gc /\ CodeAt w' gc 0 (J0m p p.cl) (hardL p) /\ More w w' := by
 suffices hP : ∀ P : Ending -> World -> Prop, (∀ gc cap w', w.heap.size <= gc -> CodeAt w' gc 0 (J0m p p.cl) (hardL p) -> More w w' -> P (.returned (.slice (some ⟨gc, 0, none⟩) (J0m p p.cl) cap)) w') -> Calls Tryz.prog 38 #[.agg #[.slice l.ra p.rl l.rc, .slice l.ca p.cl l.cc]] w P from hP _ (fun gc cap w' h a b => ⟨gc, cap, rfl, h, a, b⟩)
 intro P hP0;have HP : Hid (∀ gc cap w', w.heap.size <= gc -> CodeAt w' gc 0 (J0m p p.cl) (hardL p) -> More w w' -> P (.returned (.slice (some ⟨gc, 0, none⟩) (J0m p p.cl) cap)) w') := hP0;have Hp : Hid (PIn w p l /\ p.Ok 200 8) := ⟨hp, hok⟩;have hcl0 := hok.2.1;have hcl1 := hok.2.2.1;have hca := hp.hc (by omega);obtain ⟨i0, hi, hz0, hz1, hz2⟩ := info_parts Jjc;have Hi : Hid (Tryz.prog.info? 53 = some i0 /\ i0.zero = some (.agg #[.int .i64 0, .int .i64 0, .int .i64 0, .int .i64 0, .int .i64 0]) /\ i0.size = 5 /\ i0.bytes = 40) := ⟨hi, hz0, hz1, hz2⟩;obtain ⟨ra, Hra⟩ : ∃ x, Hid (l.ra = x) := ⟨_, rfl⟩;obtain ⟨rl, Hrl⟩ : ∃ x, Hid (p.rl = x) := ⟨_, rfl⟩;obtain ⟨rc, Hrc⟩ : ∃ x, Hid (l.rc = x) := ⟨_, rfl⟩;obtain ⟨cb, Hcb⟩ : ∃ x, Hid (l.cb = x) := ⟨_, rfl⟩;obtain ⟨co, Hco⟩ : ∃ x, Hid (l.co = x) := ⟨_, rfl⟩;obtain ⟨cc, Hcc⟩ : ∃ x, Hid (l.cc = x) := ⟨_, rfl⟩;obtain ⟨cl, Hcl⟩ : ∃ x, Hid (p.cl = x) := ⟨_, rfl⟩;rw [hca, Hra.out, Hrl.out, Hrc.out, Hcb.out, Hco.out, Hcc.out, Hcl.out];rw [Hcl.out] at hcl0 hcl1
 have HC : Hid (∀ w1 : World, More w w1 -> CodeAt w1 cb co cl p.ins) := fun w1 m1 => by
  have := hp.code.more m1;rw [Hcb.out, Hco.out, Hcl.out] at this;exact this
 have HM : Hid (∀ k, k < cl -> ∀ w1 : World, More w w1 -> Calls Tryz.prog 57 #[.agg #[.int .i64 (p.ins k).op, .int .i64 (p.ins k).a, .int .i64 (p.ins k).b, .int .i64 (p.ins k).c, .int .i64 (p.ins k).n], .slice ra rl rc] w1 fun e w' => ∃ g, e = .returned (.slice (some ⟨g, 0, none⟩) (maskL p (p.ins k)).length (maskL p (p.ins k)).length) /\ NewsAt w' g (maskL p (p.ins k)) /\ More w1 w') := fun k hk w1 m1 => by
  have hI := hok.2.2.2 k (by rw [Hcl.out]; exact hk)
  have := J95 p (p.ins k) l.ra l.rc l.rb l.ro w1 hp.hr (hp.regs.more m1) hok.1 (fun h => by
   unfold InsOk at hI;rcases h with h | h
   ·simp [h] at hI; exact hI.2.2
   ·simp [h] at hI; exact hI.2.2)
  rw [Hra.out, Hrl.out, Hrc.out] at this;exact this
 have Hst : Hid (∀ k, k <= cl -> J0m p k <= 600) := fun k hk => by have := J4v p k; omega
 have HS0 : Hid (H1 w p (.slice ra rl rc) (.slice (some ⟨cb, co, none⟩) cl cc) 0 (.slice none 0 0) ((w.alloc (.cells #[.slice ra rl rc, .slice (some ⟨cb, co, none⟩) cl cc] 25)).alloc (.cells (madeCells #[.int .i64 0] cl) 2))) := by
  have := H1.start w p (.slice ra rl rc) (.slice (some ⟨cb, co, none⟩) cl cc);rw [Hcl.out] at this;exact this
 have hmk := run_make_row' (P := Tryz.prog) 65 2 (.int .i64 0) 8 Tryz.underlying65 info2 rfl .i64 .i64 cl (by omega) (by omega);clear hP0 hp hok hi hz0 hz1 hz2 hca;go_enter Tryz.func38, Tryz.ntmps38;go_wp2_with (fail)
 clear hmk;go_loopg [16, 3] cl (fun g iv cv wr => ∃ (k : Nat) (va : Option Addr) (vc : Nat), k + g = cl /\ iv = .int .i64 k /\ cv = .slice va (J0m p k) vc /\ Hid (H1 w p (.slice ra rl rc) (.slice (some ⟨cb, co, none⟩) cl cc) k (.slice va (J0m p k) vc) wr))
 case atStart => exact ⟨0, none, 0, by omega, rfl, rfl, HS0.out⟩
 case round =>
  obtain ⟨k, va, vc, hkg, rfl, rfl, Hr⟩ := hrel;clear HS0;cases gk with
  | zero =>
   obtain rfl : k = cl := by omega
   have hn0 : 1 <= J0m p k := by
    obtain ⟨j, rfl⟩ : ∃ j, k = j + 1 := ⟨k - 1, by omega⟩;rw [J2u];have := (J2t p j).1;omega
   have hn1 := Hst.out k (Nat.le_refl _);obtain ⟨gc, cap, hv, _, _⟩ := Hr.out.own.form (by omega);cases hv
   have H20 : Hid (H2 (maskL p) p.ins p.cl w [] (w.heap.size + 1) gc 0 wr) := by
    have h1 := Hr.out;rw [<- Hcl.out] at h1;exact h1.second
   have Hpl : Hid (∀ q, q < J0m p k -> (mixL p q q).op = 7 \/ (mixL p q q).op = 8 -> 0 <= (mixL p q q).n /\ (mixL p q q).n < k) := fun q hq h => by
    simp only [mixL, J6s] at h |-;have := J6c Hp.out.2 p.cl (Nat.le_refl _) _ (List.mem_of_getElem? (Ja9 (L := codeL p p.cl) (j := q) (by rw [Hcl.out]; exact hq) ⟨0, 0, 0, 0, 0⟩)) h;rw [Hcl.out] at this |-;exact this
   have Hend : Hid (∀ w', H2 (maskL p) p.ins p.cl w [] (w.heap.size + 1) gc (J0m p k) w' -> P (.returned (.slice (some ⟨gc, 0, none⟩) (J0m p k) vc)) w') := fun w' h2 => by
    have h1 := HP.out gc vc w';rw [Hcl.out] at h1;refine h1 (by have := h2.lo; omega) ?_ h2.more;have h3 := h2;rw [<- Hcl.out] at h3;rw [<- Hcl.out];exact h3.end_
   clear HP HM HC;obtain ⟨sn, Hsn⟩ : ∃ x, Hid (J0m p k = x) := ⟨_, rfl⟩;rw [Hsn.out] at hn0 hn1 Hpl Hend Hr |-;obtain ⟨wm, rfl⟩ : ∃ wm, wm = wr := ⟨wr, rfl⟩;go_wp2_with (fail)
   go_loopg [35] sn (fun g2 iv wr2 => ∃ q : Nat, q + g2 = sn /\ iv = .int .i64 q /\ Hid (H2 (maskL p) p.ins p.cl w [] (w.heap.size + 1) gc q wr2))
   case atStart => exact ⟨0, by omega, rfl, H20.out⟩
   case round =>
    obtain ⟨q, hqg, rfl, Hr2⟩ := hrel;clear H20;cases gk with
    | zero =>
     obtain rfl : q = sn := by omega
     have He : Hid (P (.returned (.slice (some ⟨gc, 0, none⟩) q vc)) wr) := Hend.out wr Hr2.out;clear Hend;go_wp2;exact He.out
    | succ g =>
     have hq : q < sn := by omega
     have hqi : (q : Int) < sn := by omega
     have hq63 : wrap64 ((q : Int) + 1) = (q : Int) + 1 := by unfold wrap64; omega
     have hI : InsWr wr gc q (mixL p q q) := Hr2.out.code q (by show q < J0m p p.cl; rw [Hcl.out, Hsn.out]; exact hq);have Hpq := Hpl.out q hq;have Hps : Hid (¬ ((mixL p q q).op = 7 \/ (mixL p q q).op = 8) -> ∀ w', More wr w' -> H2 (maskL p) p.ins p.cl w [] (w.heap.size + 1) gc (q + 1) w') := fun h w' m => Hr2.out.pass m h
     have Hld : Hid ((mixL p q q).op = 7 \/ (mixL p q q).op = 8 -> H2 (maskL p) p.ins p.cl w [] (w.heap.size + 1) gc (q + 1) (wr.setCell ⟨gc, q * 5 + 4, none⟩ (.int .i64 (J0m p (mixL p q q).n.toNat : Nat)))) := fun h => Hr2.out.lead h
     obtain ⟨⟨op, a, b, c, n⟩, HI⟩ : ∃ x, Hid (mixL p q q = x) := ⟨_, rfl⟩;rw [HI.out] at hI Hpq Hps Hld;obtain ⟨⟨c0, _⟩, ⟨c1, _⟩, ⟨c2, _⟩, ⟨c3, _⟩, ⟨c4, f4⟩⟩ := hI;dsimp only at c0 c1 c2 c3 c4 Hpq Hps Hld;have zg := Hr2.out.hi;by_cases h78 : op = 7 \/ op = 8
     ·have hpq := Hpq h78
      obtain ⟨n0, n1⟩ := hpq;obtain ⟨nn, rfl⟩ := Int.eq_ofNat_of_zero_le n0;have hnk : (nn : Int) < (k : Int) := n1;have hsN : wr.cell? ⟨w.heap.size + 1, nn, none⟩ = some (.int .i64 (J0m p nn : Nat)) := Hr2.out.starts nn (by rw [Hcl.out]; omega);have zs := J05 hsN;dsimp only at zs;have Hn2 : Hid (∀ w', More (wr.setCell ⟨gc, q * 5 + 4, none⟩ (.int .i64 (J0m p nn : Nat))) w' -> H2 (maskL p) p.ins p.cl w [] (w.heap.size + 1) gc (q + 1) w') := fun w' m' => (Hld.out h78).far m'
      obtain ⟨sN, HsN⟩ : ∃ x, Hid (J0m p nn = x) := ⟨_, rfl⟩;rw [HsN.out] at hsN Hn2;have ne1 : ¬ wr.heap.size = gc := by omega
      have ne2 : ¬ gc = wr.heap.size := by omega
      clear Hps Hld Hpq n0 n1;rcases h78 with rfl | rfl
      all_goals
       go_wp2;go_roundg g
       case measure => omega
       case rel => exact ⟨q + 1, by omega, by first | rfl | simp, Hn2.out _ ((More.refl _).alloc _ _)⟩
     ·have e7 : (op == 7) = false := by simp; omega
      have e8 : (op == 8) = false := by simp; omega
      have Hn2 : Hid (∀ w', More wr w' -> H2 (maskL p) p.ins p.cl w [] (w.heap.size + 1) gc (q + 1) w') := Hps.out h78;clear h78 Hps Hld Hpq;go_wp2;go_roundg g
      case measure => omega
      case rel => exact ⟨q + 1, by omega, by first | rfl | simp, Hn2.out _ ((More.refl _).alloc _ _)⟩
  | succ g =>
   have hk : k < cl := by omega
   have hki : (k : Int) < cl := by omega
   have hk63 : wrap64 ((k : Int) + 1) = (k : Int) + 1 := by unfold wrap64; omega
   obtain ⟨q0, q1, q2, q3, q4⟩ := HC.out wr Hr.out.more k hk;have HM1 := HM.out k hk;have HL : Hid (codeL p (k + 1) = codeL p k ++ maskL p (p.ins k) /\ J0m p k + (maskL p (p.ins k)).length = J0m p (k + 1) /\ 1 <= (maskL p (p.ins k)).length /\ (maskL p (p.ins k)).length <= 3) := ⟨rfl, by rw [J2z, J2u], by rw [J2z]; exact (J2t p k).1, by rw [J2z]; exact (J2t p k).2⟩;obtain ⟨L, HLL⟩ : ∃ x, Hid (maskL p (p.ins k) = x) := ⟨_, rfl⟩;rw [HLL.out] at HM1 HL;obtain ⟨m, Hlen⟩ : ∃ x, Hid (L.length = x) := ⟨_, rfl⟩;rw [Hlen.out] at HM1 HL;have hst0 := Hst.out k (by omega);obtain ⟨st, Hstk⟩ : ∃ x, Hid (J0m p k = x) := ⟨_, rfl⟩;rw [Hstk.out] at HL hst0 Hr |-;obtain ⟨⟨op, a, b, c, n⟩, HI⟩ : ∃ x, Hid (p.ins k = x) := ⟨_, rfl⟩;rw [HI.out] at q0 q1 q2 q3 q4 HM1;dsimp only at q0 q1 q2 q3 q4 HM1;have HM2 : Hid (∀ w1 : World, More w w1 -> Calls Tryz.prog 57 #[.agg #[.int .i64 op, .int .i64 a, .int .i64 b, .int .i64 c, .int .i64 n], .slice ra rl rc] w1 fun e w' => ∃ g, e = .returned (.slice (some ⟨g, 0, none⟩) m m) /\ NewsAt w' g L /\ More w1 w') := HM1;have b0 : wr.cell? ⟨w.heap.size, 0, none⟩ = some (.slice ra rl rc) := Hr.out.box.cell rfl;have hz0 := Hr.out.box.lt;obtain ⟨rv, hrv, hfz⟩ := Hr.out.room k (by rw [Hcl.out]; exact hk);have hz1 : w.heap.size + 1 < wr.heap.size := J05 hrv;have n1 : ¬ wr.heap.size = w.heap.size + 1 := by omega
   have n2 : ¬ w.heap.size + 1 = wr.heap.size := by omega
   obtain ⟨w1, Hw1⟩ : ∃ w_ : World, Hid (w_ = (wr.setCell ⟨w.heap.size + 1, k, none⟩ (.int .i64 (st : Nat))).alloc (.cells #[.int .i64 op, .int .i64 a, .int .i64 b, .int .i64 c, .int .i64 n] 53)) := ⟨_, rfl⟩;have Hm1 : Hid (More w w1) := by rw [Hw1.out]; exact (Hr.out.more.setCell (by simp) _).alloc _ _
   have Hg1 : Hid (wr.grownBy w1 (some (w.heap.size + 1))) := by rw [Hw1.out]; exact J1m (J10 (J0j _ _) _ _) _
   clear HM1;go_wp2_with (fail)
   rw [<- Hw1.out];refine (HM2.out w1 Hm1.out).mono ?_;rintro e w2 ⟨g0, rfl, hnews, m2⟩;have Hnews : Hid (NewsAt w2 g0 L) := hnews;have Hm2 : Hid (More w1 w2) := m2
   have Hown2 : Hid (w2.ownsRow (w.heap.size + 2) 53 5 (.slice va st vc) st (flatI (codeL p k))) := by
    have ho := Hr.out.own;rw [Hstk.out] at ho;refine World.ownsRow.kept ho (J4s Hg1.out m2) ?_;cases hv : (Value.slice va st vc).ownBlock with
    | none => left; rfl
    | some b =>
     right;intro e;have h1 := (World.ownsRow.lt ho b hv).1;have h2 := Option.some.inj e;omega
   have Hb2 : Hid (w.heap.size + 2 <= w2.heap.size) := by
    have h1 := m2.size;have h2 := Hg1.out.size;show _ <= _;omega
   clear hnews m2 q0 q1 q2 q3 q4 b0 hrv hfz;go_wp2_with (at_builtin; refine wpList_append_lies _ rfl (.tmp 26) (.tmp 30) 23 rfl (w.heap.size + 2) 53 i0 (.agg #[.int .i64 0, .int .i64 0, .int .i64 0, .int .i64 0, .int .i64 0]) 5 40 Tryz.underlying23 Hi.out.1 Hi.out.2.1 Hi.out.2.2.1 Hi.out.2.2.2 rfl (by decide) (.slice va st vc) st (flatI (codeL p k)) rfl Hown2.out ⟨g0, 0, none⟩ m m (flatI L) rfl (by rw [J2g, Hlen.out]) Hnews.out (J3x L) (by have := HL.out.2.2.1; omega) (by have := HL.out.2.2.2; unfold maxLen; omega) (by have := HL.out.2.2.2; omega) Hb2.out w2.heap.size rfl ?_; intro g3 cap3 w3 own3 gr3 hat3 hlt3)
   have hst3 : st + m = J0m p (k + 1) := HL.out.2.1
   have Hr3 : Hid (H1 w p (.slice ra rl rc) (.slice (some ⟨cb, co, none⟩) cl cc) (k + 1) (.slice (some ⟨g3, 0, none⟩) (J0m p (k + 1)) cap3) w3) := by
    rw [hst3, <- J2f, <- HL.out.1] at own3;have e1 := Hw1.out;rw [<- Hstk.out] at e1 gr3;have hr := Hr.out;rw [<- Hstk.out] at hr;exact hr.step (by rw [Hcl.out]; exact hk) _ e1 Hm2.out gr3 own3
   clear own3 gr3 hat3 hlt3;go_wp2;go_roundg g
   case measure => omega
   case rel => exact ⟨k + 1, _, cap3, by omega, by first | rfl | simp, by rw [<- hst3], Hr3.out⟩
theorem Jjd : (Tryz.prog.info? 62).map (fun i => (i.zero, i.size, i.bytes)) = some (some (.agg #[.int .i64 0, .bool false]), 2, 16) := by kernel_rfl

def regK (log : Nat -> Int) (sec : Nat -> Bool) : KS := fun i => ⟨log i, sec i⟩

theorem Ja5 (a : Option Addr) (n c b o : Nat) (log : Nat -> Int) (sec : Nat -> Bool) (w : World) (ha : 0 < n -> a = some ⟨b, o, none⟩) (hr : RegsAt w b o n log sec) (hn : n <= 6) :
  Calls Tryz.prog 37 #[.slice a n c] w fun e w' => ∃ (a' : Option Addr) (g c' : Nat), e = .returned (.slice a' n c') /\ (0 < n -> a' = some ⟨g, 0, none⟩) /\ w.heap.size <= g /\ RegsAt w' g 0 n log sec /\ More w w' := by
 have qn : ∀ (w : World) (a : Option Addr) (n c n' c' : Nat), (binOp .eql 22 (.slice a n c) (.slice none n' c')).run Tryz.prog w = .ok (.bool a.isNone) w := fun w a n c n' c' => Lib.run_eql_slice_nil w _ _ a n c n' c' Tryz.underlying22
 cases a with
 | none =>
  obtain rfl : n = 0 := by
   rcases Nat.eq_zero_or_pos n with q | q
   ·exact q
   ·exact absurd (ha q) (by simp)
  clear ha hr hn;go_enter Tryz.func37, Tryz.ntmps37;go_wp2;go_ret;exact ⟨none, w.heap.size, 0, rfl, fun h => absurd h (Nat.lt_irrefl _), Nat.le_refl _, fun i hi => absurd hi (Nat.not_lt_zero _), More.refl _⟩
 | some ad =>
  obtain ⟨i0, hi, hz0, hz1, hz2⟩ := info_parts Jjd;have Hi : Hid (Tryz.prog.info? 62 = some i0 /\ i0.zero = some (.agg #[.int .i64 0, .bool false]) /\ i0.size = 2 /\ i0.bytes = 16) := ⟨hi, hz0, hz1, hz2⟩;have Hn : Hid (n <= 6) := hn;have Hown1 : Hid ((w.alloc (.cells #[] 62)).ownsRow w.heap.size 62 2 (.slice (some ⟨w.heap.size, 0, none⟩) 0 0) 0 []) := World.ownsRow_made _ #[] 0 (Nat.le_refl _) (by unfold maxLen; omega) rfl
  have Hnews : Hid (0 < n -> ∃ ad', some ad = some ad' /\ ∀ j u, (flatK (regK log sec) n)[j]? = some u -> (w.alloc (.cells #[] 62)).cell? (ad'.add j) = some u) := fun h0 => by
   refine ⟨_, ha h0, fun j u hu => ?_⟩;have hj : j < n * 2 := by have := (List.getElem?_eq_some_iff.1 hu).1; rw [J11] at this; exact this
   rw [Go.WideShapes.add_plain];have hk := hr (j / 2) (by omega);have hf := J4e (regK log sec) n (j / 2) (by omega);by_cases e : j % 2 = 0
   ·have e2 : j / 2 * 2 = j := by omega
    rw [e2] at hk hf;rw [hf.1] at hu; rw [<- Option.some.inj hu]; exact ((More.refl _).alloc _ _).cell hk.1
   ·have e2 : j / 2 * 2 + 1 = j := by omega
    have e3 : o + j / 2 * 2 + 1 = o + j := by omega
    rw [e3] at hk;rw [e2] at hf;rw [hf.2] at hu; rw [<- Option.some.inj hu]; exact ((More.refl _).alloc _ _).cell hk.2
  clear hi hz0 hz1 hz2 hn ha hr;go_enter Tryz.func37, Tryz.ntmps37;go_wp2_with (at_builtin; refine J1r _ rfl (.tmp 5) (.tmp 6) 22 rfl w.heap.size 62 i0 (.agg #[.int .i64 0, .bool false]) 2 16 Tryz.underlying22 Hi.out.1 Hi.out.2.1 Hi.out.2.2.1 Hi.out.2.2.2 rfl (by decide) (.slice (some ⟨w.heap.size, 0, none⟩) 0 0) 0 [] rfl Hown1.out (some ad) n c (flatK (regK log sec) n) rfl (by rw [J11]) Hnews.out (J51 _ n) (by have := Hn.out; unfold maxLen; omega) (by have := Hn.out; omega) (by simp) ?_; intro va cap w2 own2 gr2 hat2 hnn2)
  go_ret;simp only [Nat.zero_add, List.nil_append] at own2 |-
  have hm : More w w2 := ((More.refl _).alloc _ _).grownBy gr2 (fun k hk => by
   have : w.heap.size = k := by simpa [Value.ownBlock] using hk
   omega)
  by_cases h0 : 0 < n
  ·obtain ⟨g, cap', hv, hlo, _⟩ := own2.form h0
   cases hv
   refine ⟨_, g, cap, rfl, fun _ => rfl, hlo, fun i hi => ?_, hm⟩;have hf := J4e (regK log sec) n i hi;simp only [Nat.zero_add];exact ⟨by rw [World.ownsRow.cellAt own2 (i * 2) (by omega)]; exact hf.1, by rw [World.ownsRow.cellAt own2 (i * 2 + 1) (by omega)]; exact hf.2⟩
  ·exact ⟨va, w.heap.size, cap, rfl, fun h => absurd h h0, Nat.le_refl _, fun i hi => absurd hi (by omega), hm⟩
abbrev prgV (p : Prg) (l : Loc) : Value := .agg #[.slice l.ra p.rl l.rc, .slice l.ca p.cl l.cc]

theorem RegsAt.other {w : World} {b o rl : Nat} {log : Nat -> Int} {sec : Nat -> Bool} (h : RegsAt w b o rl log sec) {b' : Nat} (hb : b' ≠ b) (o' : Nat) (v : Value) : RegsAt (w.setCell ⟨b', o', none⟩ v) b o rl log sec := fun i hi =>
  ⟨by rw [World.cell?_setCell_other _ _ _ _ (by intro e; simp only [Addr.mk.injEq] at e; exact hb e.1)]; exact (h i hi).1, by rw [World.cell?_setCell_other _ _ _ _ (by intro e; simp only [Addr.mk.injEq] at e; exact hb e.1)]; exact (h i hi).2⟩
theorem CodeAt.other {w : World} {b o cl : Nat} {ins : Nat -> Ins} (h : CodeAt w b o cl ins) {b' : Nat} (hb : b' ≠ b) (o' : Nat) (v : Value) : CodeAt (w.setCell ⟨b', o', none⟩ v) b o cl ins := fun i hi => by
  have k : ∀ x, (w.setCell ⟨b', o', none⟩ v).cell? ⟨b, x, none⟩ = w.cell? ⟨b, x, none⟩ := fun x => World.cell?_setCell_other _ _ _ _ (by intro e; simp only [Addr.mk.injEq] at e; exact hb e.1)
  rw [k, k, k, k, k];exact h i hi

def Made (p : Prg) (w : World) (e : Ending) (w' : World) : Prop :=
  ∃ f : Int × Int, Told p f /\ More w w' /\
    ((f.1 = 0 /\ ∃ lh : Loc, PIn w' (hardP p) lh /\ e = .returned (.tuple #[prgV (hardP p) lh, .agg #[.int .i64 0, .int .i64 0]])) \/
     (¬ f.1 = 0 /\ e = .returned (.tuple #[.agg #[.slice none 0 0, .slice none 0 0], .agg #[.int .i64 f.1, .int .i64 f.2]])))

theorem Jco (p : Prg) (l : Loc) (w : World) (hp : PIn w p l) (hf : p.Fit) : Calls Tryz.prog 19 #[prgV p l] w (Made p w) := by
  unfold prgV;have C1 : Hid (∀ w1 : World, More w w1 -> Calls Tryz.prog 36 #[.agg #[.slice l.ra p.rl l.rc, .slice l.ca p.cl l.cc]] w1 fun e w' => ∃ f : Int × Int, Told p f /\ e = .returned (.agg #[.int .i64 f.1, .int .i64 f.2]) /\ More w1 w') := fun w1 m1 => Jca p l w1 (hp.more m1) hf
  have C2 : Hid (p.Ok 200 8 -> ∀ w1 : World, More w w1 -> Calls Tryz.prog 37 #[.slice l.ra p.rl l.rc] w1 fun e w' => ∃ (a' : Option Addr) (g c' : Nat), e = .returned (.slice a' p.rl c') /\ (0 < p.rl -> a' = some ⟨g, 0, none⟩) /\ w1.heap.size <= g /\ RegsAt w' g 0 p.rl p.log p.sec /\ More w1 w') := fun ok w1 m1 =>
    Ja5 l.ra p.rl l.rc l.rb l.ro p.log p.sec w1 hp.hr (hp.regs.more m1) ok.1.1
  have C3 : Hid (p.Ok 200 8 -> ∀ w1 : World, More w w1 -> Calls Tryz.prog 38 #[.agg #[.slice l.ra p.rl l.rc, .slice l.ca p.cl l.cc]] w1 fun e w' => ∃ gc cap, e = .returned (.slice (some ⟨gc, 0, none⟩) (J0m p p.cl) cap) /\ w1.heap.size <= gc /\ CodeAt w' gc 0 (J0m p p.cl) (hardL p) /\ More w1 w') := fun ok w1 m1 => J7g p l w1 (hp.more m1) ok
  clear hp hf;obtain ⟨ra, Hra⟩ : ∃ x, Hid (l.ra = x) := ⟨_, rfl⟩;obtain ⟨rl, Hrl⟩ : ∃ x, Hid (p.rl = x) := ⟨_, rfl⟩;obtain ⟨rc, Hrc⟩ : ∃ x, Hid (l.rc = x) := ⟨_, rfl⟩;obtain ⟨ca, Hca⟩ : ∃ x, Hid (l.ca = x) := ⟨_, rfl⟩;obtain ⟨cl, Hcl⟩ : ∃ x, Hid (p.cl = x) := ⟨_, rfl⟩;obtain ⟨cc, Hcc⟩ : ∃ x, Hid (l.cc = x) := ⟨_, rfl⟩;obtain ⟨sn, Hsn⟩ : ∃ x, Hid (J0m p p.cl = x) := ⟨_, rfl⟩;rw [Hsn.out] at C3;rw [Hra.out, Hrl.out, Hrc.out, Hca.out, Hcl.out, Hcc.out] at C1 C3 |-;rw [Hra.out, Hrl.out, Hrc.out] at C2;go_enter Tryz.func19, Tryz.ntmps19;obtain ⟨W0, HW0⟩ : ∃ W : World, Hid (W = ((w.alloc (.cells #[.slice ra rl rc, .slice ca cl cc] 25)).alloc (.cells #[.slice none 0 0, .slice none 0 0] 25)).alloc (.cells #[.int .i64 0, .int .i64 0] 30)) := ⟨_, rfl⟩;have Hm0 : Hid (More w W0) := HW0.out ▸ (((More.refl _).alloc _ _).alloc _ _).alloc _ _;have B0 : Hid (Blk W0 w.heap.size #[.slice ra rl rc, .slice ca cl cc] 25) := HW0.out ▸ (((Blk.last _ _ _).alloc _ _).alloc _ _);have B1 : Hid (Blk W0 (w.heap.size + 1) #[.slice none 0 0, .slice none 0 0] 25) := HW0.out ▸ ((by simpa using Blk.last (w.alloc (.cells #[.slice ra rl rc, .slice ca cl cc] 25)) #[.slice none 0 0, .slice none 0 0] 25 : Blk _ (w.heap.size + 1) _ _).alloc _ _)
  have B2 : Hid (Blk W0 (w.heap.size + 1 + 1) #[.int .i64 0, .int .i64 0] 30) := HW0.out ▸ (by simpa using Blk.last ((w.alloc (.cells #[.slice ra rl rc, .slice ca cl cc] 25)).alloc (.cells #[.slice none 0 0, .slice none 0 0] 25)) #[.int .i64 0, .int .i64 0] 30 : Blk _ (w.heap.size + 1 + 1) _ _);go_wp2_with (fail)
  rw [<- HW0.out];refine (C1.out W0 Hm0.out).mono ?_;rintro e w1 ⟨⟨f1, f2⟩, hT, rfl, m1⟩;dsimp only;have HT : Hid (Told p (f1, f2)) := hT;have Hm1 : Hid (More W0 w1) := m1;clear hT m1 C1;obtain ⟨W, HW⟩ : ∃ W : World, Hid (W = w1.alloc (.cells #[.int .i64 f1, .int .i64 f2] 30)) := ⟨_, rfl⟩;have HmW : Hid (More W0 W) := by rw [HW.out]; exact Hm1.out.alloc _ _
  have D0 : Hid (Blk W w.heap.size #[.slice ra rl rc, .slice ca cl cc] 25) := B0.out.more HmW.out;have D1 : Hid (Blk W (w.heap.size + 1) #[.slice none 0 0, .slice none 0 0] 25) := B1.out.more HmW.out;have D2 : Hid (Blk W (w.heap.size + 1 + 1) #[.int .i64 0, .int .i64 0] 30) := B2.out.more HmW.out;have D3 : Hid (Blk W w1.heap.size #[.int .i64 f1, .int .i64 f2] 30) := by rw [HW.out]; exact Blk.last _ _ _
  have Hz1 : Hid (w.heap.size + 3 <= w1.heap.size) := by
    have h1 := (B2.out.more Hm1.out).lt;show _ <= _;omega
  by_cases h0 : f1 = 0
  · subst h0
    obtain ⟨hok, lk, hk, hk0⟩ := HT.out.ok rfl;have HO : Hid (p.Ok 200 8) := hok;clear hok hk hk0;have C2' : Hid (∀ w1 : World, More w w1 -> Calls Tryz.prog 37 #[.slice ra rl rc] w1 fun e w' => ∃ (a' : Option Addr) (g c' : Nat), e = .returned (.slice a' rl c') /\ (0 < rl -> a' = some ⟨g, 0, none⟩) /\ w1.heap.size <= g /\ RegsAt w' g 0 rl p.log p.sec /\ More w1 w') := C2.out HO.out;have C3' : Hid (∀ w1 : World, More w w1 -> Calls Tryz.prog 38 #[.agg #[.slice ra rl rc, .slice ca cl cc]] w1 fun e w' => ∃ gc cap, e = .returned (.slice (some ⟨gc, 0, none⟩) sn cap) /\ w1.heap.size <= gc /\ CodeAt w' gc 0 sn (hardL p) /\ More w1 w') := C3.out HO.out;clear C2 C3;obtain ⟨S, HS⟩ : ∃ S : World -> Prop, Hid (∀ w', S w' ↔ Blk w' w.heap.size #[.slice ra rl rc, .slice ca cl cc] 25) := ⟨_, fun _ => Iff.rfl⟩;have HS0 : S W.drew := (HS.out _).2 D0.out;have k0 : ∀ i : { w' // S w' }, i.val.cell? ⟨w.heap.size, 0, none⟩ = some (.slice ra rl rc) := fun i => ((HS.out _).1 i.property).cell rfl
    have k1 : ∀ i : { w' // S w' }, i.val.cell? ⟨w.heap.size, 1, none⟩ = some (.slice ca cl cc) := fun i => ((HS.out _).1 i.property).cell rfl
    have hne : Nonempty { w' // S w' } := ⟨⟨_, HS0⟩⟩;go_wp2_with (fail)
    rw [<- HW.out];refine J01 (S := S) [(0, true), (1, true), (3, true), (6, true), (2, false), (4, false), (5, true), (7, false), (8, false)] (by kernel_rfl) (by kernel_rfl) (by kernel_rfl) HS0 ?_
    iterate 4 (refine J00 rfl (by kernel_rfl) (fun K hK => ?_); go_simp; refine hK _ _ ?_; clear hK K)
    refine J02 rfl (by kernel_rfl) (fun K hK => ?_); go_simp;have HmD : Hid (More w W.drew) := (Hm0.out.trans HmW.out).drew;refine (C2'.out _ HmD.out).mono ?_;rintro e w2 ⟨a', g, c', rfl, ha', hg, hregs, m2⟩;have Hm2 : Hid (More W w2) := (More.refl W).drew.trans m2;have Hreg2 : Hid ((0 < rl -> a' = some ⟨g, 0, none⟩) /\ W.heap.size <= g /\ RegsAt w2 g 0 rl p.log p.sec) := ⟨ha', hg, hregs⟩;clear ha' hg hregs m2
    go_simp
    refine hK _ _ ((HS.out _).2 (D0.out.more Hm2.out)) ?_; clear hK K;refine J02 rfl (by kernel_rfl) (fun K hK => ?_); go_simp;refine (C3'.out w2 ((Hm0.out.trans HmW.out).trans Hm2.out)).mono ?_;rintro e w3 ⟨gc, cap, rfl, hgc, hcode, m3⟩;have Hm3 : Hid (More W w3) := Hm2.out.trans m3;have Hreg3 : Hid (RegsAt w3 g 0 rl p.log p.sec) := Hreg2.out.2.2.more m3;have Hcode3 : Hid (W.heap.size <= gc /\ CodeAt w3 gc 0 sn (hardL p)) := ⟨Nat.le_trans Hm2.out.size hgc, hcode⟩;clear hgc hcode m3;have E1 : Hid (Blk w3 (w.heap.size + 1) #[.slice none 0 0, .slice none 0 0] 25) := D1.out.more Hm3.out;have E2 : Hid (Blk w3 (w.heap.size + 1 + 1) #[.int .i64 0, .int .i64 0] 30) := D2.out.more Hm3.out;have a0 : w3.cell? ⟨w.heap.size + 1, 0, none⟩ = some (.slice none 0 0) := E1.out.cell rfl;have a1 : w3.cell? ⟨w.heap.size + 1, 1, none⟩ = some (.slice none 0 0) := E1.out.cell rfl;have a2 : w3.cell? ⟨w.heap.size + 1 + 1, 0, none⟩ = some (.int .i64 0) := E2.out.cell rfl;have a3 : w3.cell? ⟨w.heap.size + 1 + 1, 1, none⟩ = some (.int .i64 0) := E2.out.cell rfl;have z0 := E1.out.frozen 0;have z1 := E1.out.frozen 1;have z2 := E2.out.frozen 0;have z3 := E2.out.frozen 1
    go_simp
    refine hK _ _ ((HS.out _).2 (D0.out.more Hm3.out)) ?_; clear hK K;refine J00 rfl (by kernel_rfl) (fun K hK => ?_); go_simp; refine hK _ _ ?_; clear hK K;refine J02 rfl (by kernel_rfl) (fun K hK => ?_); go_simp;refine hK _ _ ((HS.out _).2 (((D0.out.more Hm3.out).other (by omega) _ _).other (by omega) _ _)) ?_; clear hK K;refine J02 rfl (by kernel_rfl) (fun K hK => ?_); go_simp;refine hK _ _ ((HS.out _).2 (((((D0.out.more Hm3.out).other (by omega) _ _).other (by omega) _ _).other (by omega) _ _).other (by omega) _ _)) ?_; clear hK K;refine J04 ?_;clear k0 k1 hne HS0;go_wp2;refine bodyPost_ret (v := .tuple #[.agg #[.slice a' rl c', .slice (some ⟨gc, 0, none⟩) sn cap], .agg #[.int .i64 0, .int .i64 0]]) (by simp [results, Tryz.results19, go_sem, *]) rfl ?_;have hzW := HmW.out.size;have hz0 := (D2.out).lt;have hg := Hreg2.out.2.1;have hgc := Hcode3.out.1;refine ⟨(0, f2), HT.out, ?_, .inl ⟨rfl, ⟨a', g, 0, c', some ⟨gc, 0, none⟩, gc, 0, cap⟩, ⟨?_, fun _ => rfl, ?_, ?_⟩, ?_⟩⟩
    · exact ((((((Hm0.out.trans HmW.out).trans Hm3.out).setCell (by show w.heap.size <= _; simp) _).setCell (by show w.heap.size <= _; simp) _).setCell (by show w.heap.size <= _; simp; omega) _).setCell (by show w.heap.size <= _; simp; omega) _)
    · intro h
      exact Hreg2.out.1 (by rw [<- Hrl.out]; exact h)
    · have := (((Hreg3.out.other (b' := w.heap.size + 1) (by omega) 0 (.slice a' rl c')).other (b' := w.heap.size + 1) (by omega) 1 (.slice (some ⟨gc, 0, none⟩) sn cap)).other (b' := w.heap.size + 1 + 1) (by omega) 0 (.int .i64 0)).other (b' := w.heap.size + 1 + 1) (by omega) 1 (.int .i64 0)
      rw [<- Hrl.out] at this |-;exact this
    · have := (((Hcode3.out.2.other (b' := w.heap.size + 1) (by omega) 0 (.slice a' rl c')).other (b' := w.heap.size + 1) (by omega) 1 (.slice (some ⟨gc, 0, none⟩) sn cap)).other (b' := w.heap.size + 1 + 1) (by omega) 0 (.int .i64 0)).other (b' := w.heap.size + 1 + 1) (by omega) 1 (.int .i64 0)
      rw [<- Hsn.out] at this |-;exact this
    · unfold prgV hardP
      dsimp only;rw [Hrl.out, Hsn.out]
  · have e0 : (f1 == 0) = false := by simp [h0]
    have e1 : (f1 != 0) = true := by simp [h0]
    have H0 : Hid (¬ f1 = 0) := h0;clear h0 C2 C3;obtain ⟨S, HS⟩ : ∃ S : World -> Prop, Hid (∀ w', S w' ↔ Blk w' w1.heap.size #[.int .i64 f1, .int .i64 f2] 30) := ⟨_, fun _ => Iff.rfl⟩;have HS0 : S W.drew := (HS.out _).2 D3.out;have k0 : ∀ i : { w' // S w' }, i.val.cell? ⟨w1.heap.size, 0, none⟩ = some (.int .i64 f1) := fun i => ((HS.out _).1 i.property).cell rfl
    have k1 : ∀ i : { w' // S w' }, i.val.cell? ⟨w1.heap.size, 1, none⟩ = some (.int .i64 f2) := fun i => ((HS.out _).1 i.property).cell rfl
    have hne : Nonempty { w' // S w' } := ⟨⟨_, HS0⟩⟩;have hz1 := Hz1.out;have a0 : W.cell? ⟨w.heap.size + 1, 0, none⟩ = some (.slice none 0 0) := D1.out.cell rfl;have a1 : W.cell? ⟨w.heap.size + 1, 1, none⟩ = some (.slice none 0 0) := D1.out.cell rfl;have a2 : W.cell? ⟨w.heap.size + 1 + 1, 0, none⟩ = some (.int .i64 0) := D2.out.cell rfl;have a3 : W.cell? ⟨w.heap.size + 1 + 1, 1, none⟩ = some (.int .i64 0) := D2.out.cell rfl;have z0 := D1.out.frozen 0;have z1 := D1.out.frozen 1;have z2 := D2.out.frozen 0;have z3 := D2.out.frozen 1;go_wp2_with (fail)
    rw [<- HW.out];refine J01 (S := S) [(0, true), (1, true), (2, false), (3, false)] (by kernel_rfl) (by kernel_rfl) (by kernel_rfl) HS0 ?_
    iterate 2 (refine J00 rfl (by kernel_rfl) (fun K hK => ?_); go_simp; refine hK _ _ ?_; clear hK K)
    refine J02 rfl (by kernel_rfl) (fun K hK => ?_); go_simp;refine hK _ _ ((HS.out _).2 ((D3.out.other (by omega) _ _).other (by omega) _ _)) ?_; clear hK K;refine J02 rfl (by kernel_rfl) (fun K hK => ?_); go_simp;refine hK _ _ ((HS.out _).2 ((((D3.out.other (by omega) _ _).other (by omega) _ _).other (by omega) _ _).other (by omega) _ _)) ?_; clear hK K;refine J04 ?_;clear k0 k1 hne HS0;go_wp2;refine bodyPost_ret (v := .tuple #[.agg #[.slice none 0 0, .slice none 0 0], .agg #[.int .i64 f1, .int .i64 f2]]) (by simp [results, Tryz.results19, go_sem, *]) rfl ?_;refine ⟨(f1, f2), HT.out, ?_, .inr ⟨H0.out, rfl⟩⟩;exact (((((Hm0.out.trans HmW.out).setCell (by show w.heap.size <= _; simp) _).setCell (by show w.heap.size <= _; simp) _).setCell (by show w.heap.size <= _; simp; omega) _).setCell (by show w.heap.size <= _; simp; omega) _).drew
theorem Jl1 : (Tryz.prog.info? 91).map (fun i => (i.zero, i.size, i.bytes)) = some (some (.int .u32 0), 1, 4) := by kernel_rfl

def Jif (p : Prg) (w : World) (e : Ending) (w' : World) : Prop :=
  ∃ f : Int × Int, PutR p f /\ More w w' /\
    ((f.1 = 0 /\ ∃ g c, e = .returned (.tuple #[.slice (some ⟨g, 0, none⟩) p.cl c, .agg #[.int .i64 0, .int .i64 0]]) /\ w.heap.size <= g /\ WordsAt w' g 0 p.cl (fun j => encW (p.ins j))) \/
     (¬ f.1 = 0 /\ e = .returned (.tuple #[.slice none 0 0, .agg #[.int .i64 f.1, .int .i64 f.2]])))
theorem Jja : (Tryz.prog.info? 53).map (fun i => (i.zero, i.size, i.bytes)) = some (some (.agg #[.int .i64 0, .int .i64 0, .int .i64 0, .int .i64 0, .int .i64 0]), 5, 40) := by kernel_rfl

def getP (rl : Nat) (log : Nat -> Int) (sec : Nat -> Bool) (n : Nat) (f : Nat -> Int) : Prg := ⟨rl, log, sec, n, fun j => decW (f j)⟩
def insL (f : Nat -> Int) (n : Nat) : List Ins := (List.range n).map fun j => decW (f j)
theorem Jdx (f : Nat -> Int) (n : Nat) : insL f (n + 1) = insL f n ++ [decW (f n)] := by simp [insL, List.range_succ]
theorem Jgk (f : Nat -> Int) (n j : Nat) (h : j < n) : (insL f n)[j]? = some (decW (f j)) := by simp [insL, h]

structure G8 (w : World) (rv : Value) (f : Nat -> Int) (k : Nat) (lv : Value) (wr : World) : Prop where
 res : Blk wr w.heap.size #[.slice none 0 0, .slice none 0 0] 25
 flt : Blk wr (w.heap.size + 1) #[.int .i64 0, .int .i64 0] 30
 prg : Blk wr (w.heap.size + 2) #[rv, lv] 25
 own : wr.ownsRow (w.heap.size + 3) 53 5 lv k (flatI (insL f k))
 more : More w wr

theorem Blk.put {w : World} {n : Nat} {cs : Array Value} {T : TypeId} (h : Blk w n cs T) (j : Nat) (v : Value) : Blk (w.setCell ⟨n, j, none⟩ v) n (cs.setIfInBounds j v) T := by
 unfold Blk at h |-;unfold World.setCell;simp [Array.getElem?_modify, h]
theorem Blk.put1 {w : World} {n : Nat} {x y z : Value} {T : TypeId} (h : Blk w n #[x, y] T) : Blk (w.setCell ⟨n, 1, none⟩ z) n #[x, z] T := by
 simpa using h.put 1 z

theorem G8.step {w : World} {rv : Value} {f : Nat -> Int} {k : Nat} {lv : Value} {wr w1 w2 w3 : World} (h : G8 w rv f k lv wr) (m1 : More wr w1) (g2 : w1.grownBy w2 lv.ownBlock) {g c : Nat}
  (own : w2.ownsRow (w.heap.size + 3) 53 5 (.slice (some ⟨g, 0, none⟩) (k + 1) c) (k + 1) (flatI (insL f (k + 1)))) (e3 : w3 = w2.setCell ⟨w.heap.size + 2, 1, none⟩ (.slice (some ⟨g, 0, none⟩) (k + 1) c)) : G8 w rv f (k + 1) (.slice (some ⟨g, 0, none⟩) (k + 1) c) w3 := by
 have hb : ∀ b, lv.ownBlock = some b -> w.heap.size + 3 <= b := fun b hb => (h.own.lt b hb).1
 have n3 : ∀ b, b < w.heap.size + 3 -> some b ≠ lv.ownBlock := fun b hlt e => by have := hb b e.symm; omega
 have hg := (own.lt g rfl).1
 have up : ∀ {n cs T}, n < w.heap.size + 3 -> Blk wr n cs T -> Blk w2 n cs T := fun hn hB => by
  have h2 := hB.more m1;exact (g2.block _ h2.lt (n3 _ hn)).trans h2
 subst e3;refine ⟨(up (by omega) h.res).other (by omega) _ _, (up (by omega) h.flt).other (by omega) _ _, (up (by omega) h.prg).put1, ?_, ?_⟩
 ·exact World.ownsRow.kept own (J0q _ _ _ _) (.inr (by simp [Value.ownBlock]; omega))
 ·exact ((h.more.trans m1).grownBy g2 (fun b e => by have := hb b e; omega)).setCell (by show w.heap.size <= _; simp) _

def Jkw (q : Prg) (w : World) (e : Ending) (w' : World) : Prop :=
 More w w' /\ ((q.Ok 8000 10 /\ ∃ lq : Loc, PIn w' q lq /\ e = .returned (.tuple #[.agg #[.slice lq.ra q.rl lq.rc, .slice lq.ca q.cl lq.cc], .agg #[.int .i64 0, .int .i64 0]])) \/
  (¬ q.Ok 8000 10 /\ e = .returned (.tuple #[.agg #[.slice none 0 0, .slice none 0 0], .agg #[.int .i64 2, .int .i64 0]])))

theorem Jhn (ra : Option Addr) (rl rc rb ro : Nat) (log : Nat -> Int) (sec : Nat -> Bool) (wa : Option Addr) (n wc wb wo : Nat) (f : Nat -> Int) (w : World) (hra : 0 < rl -> ra = some ⟨rb, ro, none⟩) (hr : RegsAt w rb ro rl log sec)
  (hwa : 0 < n -> wa = some ⟨wb, wo, none⟩) (hw : WordsAt w wb wo n f) (hf : ∀ i, i < n -> W32 (f i)) (hn : n <= 3000000000000) :
  Calls Tryz.prog 22 #[.slice ra rl rc, .slice wa n wc] w (Jkw (getP rl log sec n f) w) := by
 have H : Hid ((0 < rl -> ra = some ⟨rb, ro, none⟩) /\ RegsAt w rb ro rl log sec /\ (0 < n -> wa = some ⟨wb, wo, none⟩) /\ WordsAt w wb wo n f /\ ∀ i, i < n -> W32 (f i)) := ⟨hra, hr, hwa, hw, hf⟩;clear hra hr hwa hw hf;obtain ⟨i0, hi, hz0, hz1, hz2⟩ := info_parts Jja;have Hi : Hid (Tryz.prog.info? 53 = some i0 /\ i0.zero = some (.agg #[.int .i64 0, .int .i64 0, .int .i64 0, .int .i64 0, .int .i64 0]) /\ i0.size = 5 /\ i0.bytes = 40) := ⟨hi, hz0, hz1, hz2⟩;clear hi hz0 hz1 hz2
 have HS0 : Hid (G8 w (.slice ra rl rc) f 0 (.slice none 0 0) (((w.alloc (.cells #[.slice none 0 0, .slice none 0 0] 25)).alloc (.cells #[.int .i64 0, .int .i64 0] 30)).alloc (.cells #[.slice ra rl rc, .slice none 0 0] 25))) := by
  refine ⟨((Blk.last _ _ _).alloc _ _).alloc _ _, ?_, ?_, World.ownsRow_nil _ _ _ _, (((More.refl _).alloc _ _).alloc _ _).alloc _ _⟩
  ·exact (by simpa using Blk.last (w.alloc (.cells #[.slice none 0 0, .slice none 0 0] 25)) #[.int .i64 0, .int .i64 0] 30 : Blk _ (w.heap.size + 1) _ _).alloc _ _
  ·simpa using Blk.last ((w.alloc (.cells #[.slice none 0 0, .slice none 0 0] 25)).alloc (.cells #[.int .i64 0, .int .i64 0] 30)) #[.slice ra rl rc, .slice none 0 0] 25
 go_enter Tryz.func22, Tryz.ntmps22;go_wp2_with (fail)
 go_loopg [7] n (fun g iv wr => ∃ (k : Nat) (va : Option Addr) (vc : Nat), k + g = n /\ iv = .int .i64 k /\ Hid (G8 w (.slice ra rl rc) f k (.slice va k vc) wr))
 case atStart => exact ⟨0, none, 0, by omega, rfl, HS0.out⟩
 case round =>
  obtain ⟨k, va, vc, hkg, rfl, Hr⟩ := hrel;clear HS0;have p0 : wr.cell? ⟨w.heap.size + 2, 0, none⟩ = some (.slice ra rl rc) := Hr.out.prg.cell rfl;have p1 : wr.cell? ⟨w.heap.size + 2, 1, none⟩ = some (.slice va k vc) := Hr.out.prg.cell rfl;have zp := Hr.out.prg.lt;have zf := Hr.out.prg.frozen 1;cases gk with
  | zero =>
   obtain rfl : k = n := by omega
   have hin : ∃ g, PIn wr (getP rl log sec k f) ⟨ra, rb, ro, rc, va, g, 0, vc⟩ /\ (0 < k -> w.heap.size + 3 <= g) := by
    by_cases h0 : 0 < k
    ·obtain ⟨g, c, hv, hlo, _⟩ := Hr.out.own.form h0
     cases hv
     refine ⟨g, ⟨H.out.1, fun _ => rfl, H.out.2.1.more Hr.out.more, fun i hi => ?_⟩, fun _ => hlo⟩;have hi' : i < k := hi;have e := J8a (insL f k) i _ (Jgk f k i hi');simp only [Nat.zero_add];exact ⟨by rw [World.ownsRow.cellAt Hr.out.own _ (by omega)]; exact e.1, by rw [World.ownsRow.cellAt Hr.out.own _ (by omega)]; exact e.2.1, by rw [World.ownsRow.cellAt Hr.out.own _ (by omega)]; exact e.2.2.1, by rw [World.ownsRow.cellAt Hr.out.own _ (by omega)]; exact e.2.2.2.1, by rw [World.ownsRow.cellAt Hr.out.own _ (by omega)]; exact e.2.2.2.2⟩
    ·exact ⟨0, ⟨H.out.1, fun h => absurd h h0, H.out.2.1.more Hr.out.more, fun i hi => absurd hi (by show ¬ i < k; omega)⟩, fun h => absurd h h0⟩
   obtain ⟨g, hin, hg⟩ := hin;have Hin : Hid (PIn wr (getP rl log sec k f) ⟨ra, rb, ro, rc, va, g, 0, vc⟩ /\ (0 < k -> w.heap.size + 3 <= g)) := ⟨hin, hg⟩;have CH : Calls Tryz.prog 42 #[.agg #[.slice ra rl rc, .slice va k vc]] wr fun e w' => ∃ r : Bool, e = .returned (.bool r) /\ (r = true ↔ (getP rl log sec k f).Ok 8000 10) /\ More wr w' := Jhp (getP rl log sec k f) ⟨ra, rb, ro, rc, va, g, 0, vc⟩ wr hin
   clear hin hg;go_wp2_with (fail)
   refine CH.mono ?_;rintro e w1 ⟨r, rfl, hr, m1⟩;have E0 : Hid (Blk w1 w.heap.size #[.slice none 0 0, .slice none 0 0] 25) := Hr.out.res.more m1;have E1 : Hid (Blk w1 (w.heap.size + 1) #[.int .i64 0, .int .i64 0] 30) := Hr.out.flt.more m1;have E2 : Hid (Blk w1 (w.heap.size + 2) #[.slice ra rl rc, .slice va k vc] 25) := Hr.out.prg.more m1;have Hm1 : Hid (More w w1) := Hr.out.more.trans m1;have Hin1 : Hid (PIn w1 (getP rl log sec k f) ⟨ra, rb, ro, rc, va, g, 0, vc⟩) := Hin.out.1.more m1;clear m1 CH p0 p1 zp zf;have p0 : w1.cell? ⟨w.heap.size + 2, 0, none⟩ = some (.slice ra rl rc) := E2.out.cell rfl;have p1 : w1.cell? ⟨w.heap.size + 2, 1, none⟩ = some (.slice va k vc) := E2.out.cell rfl;have a0 : w1.cell? ⟨w.heap.size, 0, none⟩ = some (.slice none 0 0) := E0.out.cell rfl;have a1 : w1.cell? ⟨w.heap.size, 1, none⟩ = some (.slice none 0 0) := E0.out.cell rfl;have a2 : w1.cell? ⟨w.heap.size + 1, 0, none⟩ = some (.int .i64 0) := E1.out.cell rfl;have a3 : w1.cell? ⟨w.heap.size + 1, 1, none⟩ = some (.int .i64 0) := E1.out.cell rfl;have z0 := E0.out.frozen 0;have z1 := E0.out.frozen 1;have z2 := E1.out.frozen 0;have z3 := E1.out.frozen 1;cases r with
   | false =>
    have Hno : Hid (¬ (getP rl log sec k f).Ok 8000 10) := fun h => by simpa using hr.2 h
    clear hr;go_wp2;refine bodyPost_ret (v := .tuple #[.agg #[.slice none 0 0, .slice none 0 0], .agg #[.int .i64 2, .int .i64 0]]) (by simp [results, Tryz.results22, go_sem, *]) rfl ?_;refine ⟨?_, .inr ⟨Hno.out, rfl⟩⟩;exact (((Hm1.out.setCell (by show w.heap.size <= _; simp) _).setCell (by show w.heap.size <= _; simp) _).setCell (by show w.heap.size <= _; simp) _).setCell (by show w.heap.size <= _; simp) _
   | true =>
    have Hok : Hid ((getP rl log sec k f).Ok 8000 10) := hr.1 rfl;clear hr;go_wp2;refine bodyPost_ret (v := .tuple #[.agg #[.slice ra rl rc, .slice va k vc], .agg #[.int .i64 0, .int .i64 0]]) (by simp [results, Tryz.results22, go_sem, *]) rfl ?_
    have hm : More w ((((w1.setCell ⟨w.heap.size, 0, none⟩ (.slice ra rl rc)).setCell ⟨w.heap.size, 1, none⟩ (.slice va k vc)).setCell ⟨w.heap.size + 1, 0, none⟩ (.int .i64 0)).setCell ⟨w.heap.size + 1, 1, none⟩ (.int .i64 0)) :=
     (((Hm1.out.setCell (by show w.heap.size <= _; simp) _).setCell (by show w.heap.size <= _; simp) _).setCell (by show w.heap.size <= _; simp) _).setCell (by show w.heap.size <= _; simp) _
    refine ⟨hm, .inl ⟨Hok.out, ⟨ra, rb, ro, rc, va, g, 0, vc⟩, ⟨H.out.1, Hin1.out.hc, H.out.2.1.more hm, ?_⟩, rfl⟩⟩;by_cases h0 : 0 < k
    ·have hg := Hin.out.2 h0
     exact (((Hin1.out.code.other (b' := w.heap.size) (by show _ ≠ g; omega) _ _).other (b' := w.heap.size) (by show _ ≠ g; omega) _ _).other (b' := w.heap.size + 1) (by show _ ≠ g; omega) _ _).other (b' := w.heap.size + 1) (by show _ ≠ g; omega) _ _
    ·exact fun i hi => absurd hi (by show ¬ i < k; omega)
  | succ g =>
   have hk : k < n := by omega
   have hki : (k : Int) < n := by omega
   have hk63 : wrap64 ((k : Int) + 1) = (k : Int) + 1 := by unfold wrap64; omega
   obtain rfl := H.out.2.2.1 (by omega);have q0 := (H.out.2.2.2.1.more Hr.out.more) k hk;have hu := H.out.2.2.2.2 k hk;have HL : Hid (insL f (k + 1) = insL f k ++ [decW (f k)]) := Jdx f k;obtain ⟨u, Hu⟩ : ∃ x, Hid (f k = x) := ⟨_, rfl⟩;rw [Hu.out] at q0 hu HL;unfold W32 at hu;obtain ⟨u0, u1⟩ := hu;by_cases h8 : 8192 <= u % 16384
   ·have hd : decide (8192 <= u % 16384) = true := by simp [h8]
    obtain ⟨W2, HW2⟩ : ∃ w_ : World, Hid (w_ = (wr.alloc (.cells #[.int .i64 (u / 16384 / 16 / 16 / 16), .int .i64 (u / 16384 / 16 / 16 % 16), .int .i64 (u / 16384 / 16 % 16), .int .i64 (u / 16384 % 16), .int .i64 (u % 16384 - 16384)] 53)).alloc (.cells #[.int .i64 (u / 16384 / 16 / 16 / 16), .int .i64 (u / 16384 / 16 / 16 % 16), .int .i64 (u / 16384 / 16 % 16), .int .i64 (u / 16384 % 16), .int .i64 (u % 16384 - 16384)] 53)) := ⟨_, rfl⟩;have Hm2 : Hid (More wr W2) := by rw [HW2.out]; exact ((More.refl _).alloc _ _).alloc _ _
    have Hown : Hid (W2.ownsRow (w.heap.size + 3) 53 5 (.slice va k vc) k (flatI (insL f k))) := by
     refine World.ownsRow.kept Hr.out.own (Hm2.out.grow none) ?_;cases (Value.slice va k vc).ownBlock with
     | none => left; rfl
     | some b => right; simp
    have Hnews : Hid (∀ j v, (flatI [decW u])[j]? = some v -> W2.cell? ((⟨wr.heap.size + 1, 0, none⟩ : Addr).add j) = some v) := by
     have hb : Blk W2 (wr.heap.size + 1) #[.int .i64 (u / 16384 / 16 / 16 / 16), .int .i64 (u / 16384 / 16 / 16 % 16), .int .i64 (u / 16384 / 16 % 16), .int .i64 (u / 16384 % 16), .int .i64 (u % 16384 - 16384)] 53 := by
      rw [HW2.out];simpa using Blk.last (wr.alloc (.cells #[.int .i64 (u / 16384 / 16 / 16 / 16), .int .i64 (u / 16384 / 16 / 16 % 16), .int .i64 (u / 16384 / 16 % 16), .int .i64 (u / 16384 % 16), .int .i64 (u % 16384 - 16384)] 53)) #[.int .i64 (u / 16384 / 16 / 16 / 16), .int .i64 (u / 16384 / 16 / 16 % 16), .int .i64 (u / 16384 / 16 % 16), .int .i64 (u / 16384 % 16), .int .i64 (u % 16384 - 16384)] 53
     refine NewsAt.of hb ?_;unfold decW;rw [if_pos h8]
     rfl
    have Hsz : Hid (w.heap.size + 3 <= W2.heap.size) := by have := Hm2.out.size; show _ <= _; omega
    have Hst : Hid (∀ (w3 w4 : World) (g3 c3 : Nat), W2.grownBy w3 (Value.slice va k vc).ownBlock -> w3.ownsRow (w.heap.size + 3) 53 5 (.slice (some ⟨g3, 0, none⟩) (k + 1) c3) (k + 1) (flatI (insL f (k + 1))) -> w4 = w3.setCell ⟨w.heap.size + 2, 1, none⟩ (.slice (some ⟨g3, 0, none⟩) (k + 1) c3) -> G8 w (.slice ra rl rc) f (k + 1) (.slice (some ⟨g3, 0, none⟩) (k + 1) c3) w4) := fun w3 w4 g3 c3 g2 own e => Hr.out.step Hm2.out g2 own e
    have Hp2 : Hid (Blk W2 (w.heap.size + 2) #[.slice ra rl rc, .slice va k vc] 25 /\ ∀ b, (Value.slice va k vc).ownBlock = some b -> w.heap.size + 3 <= b) := ⟨Hr.out.prg.more Hm2.out, fun b hb => (Hr.out.own.lt b hb).1⟩;go_wp2_with (at_builtin; rw [<- HW2.out]; refine wpList_append_lies _ rfl (.tmp 53) (.tmp 55) 23 rfl (w.heap.size + 3) 53 i0 (.agg #[.int .i64 0, .int .i64 0, .int .i64 0, .int .i64 0, .int .i64 0]) 5 40 Tryz.underlying23 Hi.out.1 Hi.out.2.1 Hi.out.2.2.1 Hi.out.2.2.2 rfl (by decide) (.slice va k vc) k (flatI (insL f k)) rfl Hown.out ⟨wr.heap.size + 1, 0, none⟩ 1 1 (flatI [decW u]) rfl (by rw [J2g]; rfl) Hnews.out (J3x _) (by decide) (by unfold maxLen; omega) (by omega) Hsz.out _ rfl ?_; intro g3 cap3 w3 own3 gr3 hat3 hlt3; have B3 : Blk w3 (w.heap.size + 2) #[.slice ra rl rc, .slice va k vc] 25 := (gr3.block _ Hp2.out.1.lt (fun e => by have := Hp2.out.2 _ e.symm; omega)).trans Hp2.out.1; have x1 := B3.cell (j := 1) rfl; have x2 := B3.frozen 1)
    have Hr3 : Hid (G8 w (.slice ra rl rc) f (k + 1) (.slice (some ⟨g3, 0, none⟩) (k + 1) cap3) (w3.setCell ⟨w.heap.size + 2, 1, none⟩ (.slice (some ⟨g3, 0, none⟩) (k + 1) cap3))) := by
     rw [<- J2f, <- HL.out] at own3;exact Hst.out _ _ _ _ gr3 own3 rfl
    go_roundg g
    case measure => omega
    case rel => exact ⟨k + 1, _, cap3, by omega, by first | rfl | simp, Hr3.out⟩
   ·have hd : decide (8192 <= u % 16384) = false := by simp; omega
    obtain ⟨W2, HW2⟩ : ∃ w_ : World, Hid (w_ = (wr.alloc (.cells #[.int .i64 (u / 16384 / 16 / 16 / 16), .int .i64 (u / 16384 / 16 / 16 % 16), .int .i64 (u / 16384 / 16 % 16), .int .i64 (u / 16384 % 16), .int .i64 (u % 16384)] 53)).alloc (.cells #[.int .i64 (u / 16384 / 16 / 16 / 16), .int .i64 (u / 16384 / 16 / 16 % 16), .int .i64 (u / 16384 / 16 % 16), .int .i64 (u / 16384 % 16), .int .i64 (u % 16384)] 53)) := ⟨_, rfl⟩;have Hm2 : Hid (More wr W2) := by rw [HW2.out]; exact ((More.refl _).alloc _ _).alloc _ _
    have Hown : Hid (W2.ownsRow (w.heap.size + 3) 53 5 (.slice va k vc) k (flatI (insL f k))) := by
     refine World.ownsRow.kept Hr.out.own (Hm2.out.grow none) ?_;cases (Value.slice va k vc).ownBlock with
     | none => left; rfl
     | some b => right; simp
    have Hnews : Hid (∀ j v, (flatI [decW u])[j]? = some v -> W2.cell? ((⟨wr.heap.size + 1, 0, none⟩ : Addr).add j) = some v) := by
     have hb : Blk W2 (wr.heap.size + 1) #[.int .i64 (u / 16384 / 16 / 16 / 16), .int .i64 (u / 16384 / 16 / 16 % 16), .int .i64 (u / 16384 / 16 % 16), .int .i64 (u / 16384 % 16), .int .i64 (u % 16384)] 53 := by
      rw [HW2.out];simpa using Blk.last (wr.alloc (.cells #[.int .i64 (u / 16384 / 16 / 16 / 16), .int .i64 (u / 16384 / 16 / 16 % 16), .int .i64 (u / 16384 / 16 % 16), .int .i64 (u / 16384 % 16), .int .i64 (u % 16384)] 53)) #[.int .i64 (u / 16384 / 16 / 16 / 16), .int .i64 (u / 16384 / 16 / 16 % 16), .int .i64 (u / 16384 / 16 % 16), .int .i64 (u / 16384 % 16), .int .i64 (u % 16384)] 53
     refine NewsAt.of hb ?_;unfold decW;rw [if_neg h8]
     rfl
    have Hsz : Hid (w.heap.size + 3 <= W2.heap.size) := by have := Hm2.out.size; show _ <= _; omega
    have Hst : Hid (∀ (w3 w4 : World) (g3 c3 : Nat), W2.grownBy w3 (Value.slice va k vc).ownBlock -> w3.ownsRow (w.heap.size + 3) 53 5 (.slice (some ⟨g3, 0, none⟩) (k + 1) c3) (k + 1) (flatI (insL f (k + 1))) -> w4 = w3.setCell ⟨w.heap.size + 2, 1, none⟩ (.slice (some ⟨g3, 0, none⟩) (k + 1) c3) -> G8 w (.slice ra rl rc) f (k + 1) (.slice (some ⟨g3, 0, none⟩) (k + 1) c3) w4) := fun w3 w4 g3 c3 g2 own e => Hr.out.step Hm2.out g2 own e
    have Hp2 : Hid (Blk W2 (w.heap.size + 2) #[.slice ra rl rc, .slice va k vc] 25 /\ ∀ b, (Value.slice va k vc).ownBlock = some b -> w.heap.size + 3 <= b) := ⟨Hr.out.prg.more Hm2.out, fun b hb => (Hr.out.own.lt b hb).1⟩;go_wp2_with (at_builtin; rw [<- HW2.out]; refine wpList_append_lies _ rfl (.tmp 53) (.tmp 55) 23 rfl (w.heap.size + 3) 53 i0 (.agg #[.int .i64 0, .int .i64 0, .int .i64 0, .int .i64 0, .int .i64 0]) 5 40 Tryz.underlying23 Hi.out.1 Hi.out.2.1 Hi.out.2.2.1 Hi.out.2.2.2 rfl (by decide) (.slice va k vc) k (flatI (insL f k)) rfl Hown.out ⟨wr.heap.size + 1, 0, none⟩ 1 1 (flatI [decW u]) rfl (by rw [J2g]; rfl) Hnews.out (J3x _) (by decide) (by unfold maxLen; omega) (by omega) Hsz.out _ rfl ?_; intro g3 cap3 w3 own3 gr3 hat3 hlt3; have B3 : Blk w3 (w.heap.size + 2) #[.slice ra rl rc, .slice va k vc] 25 := (gr3.block _ Hp2.out.1.lt (fun e => by have := Hp2.out.2 _ e.symm; omega)).trans Hp2.out.1; have x1 := B3.cell (j := 1) rfl; have x2 := B3.frozen 1)
    have Hr3 : Hid (G8 w (.slice ra rl rc) f (k + 1) (.slice (some ⟨g3, 0, none⟩) (k + 1) cap3) (w3.setCell ⟨w.heap.size + 2, 1, none⟩ (.slice (some ⟨g3, 0, none⟩) (k + 1) cap3))) := by
     rw [<- J2f, <- HL.out] at own3;exact Hst.out _ _ _ _ gr3 own3 rfl
    go_roundg g
    case measure => omega
    case rel => exact ⟨k + 1, _, cap3, by omega, by first | rfl | simp, Hr3.out⟩
structure Kp (Lb : Nat) (ob ob' : Option Nat) (w w' : World) : Prop where
 os : w'.os = w.os
 tape : w'.tape = w.tape
 output : w'.output = w.output
 size : w.heap.size <= w'.heap.size
 block : ∀ b, b < w.heap.size -> b ≠ Lb -> some b ≠ ob -> w'.heap[b]? = w.heap[b]?
 own : ob' = ob \/ ∃ b, ob' = some b /\ w.heap.size <= b
theorem Kp.of {Lb : Nat} {ob : Option Nat} {w w' : World} (m : More w w') : Kp Lb ob ob w w' := ⟨m.os, m.tape, m.output, m.size, fun b h _ _ => m.block b h, .inl rfl⟩
theorem Kp.trans {Lb : Nat} {o1 o2 o3 : Option Nat} {a b c : World} (h : Kp Lb o1 o2 a b) (k : Kp Lb o2 o3 b c) : Kp Lb o1 o3 a c := by
 refine ⟨k.os.trans h.os, k.tape.trans h.tape, k.output.trans h.output, Nat.le_trans h.size k.size, fun x hx h1 h2 => (k.block x (Nat.lt_of_lt_of_le hx h.size) h1 ?_).trans (h.block x hx h1 h2), ?_⟩
 ·rcases h.own with e | ⟨y, e, hy⟩
  ·rw [e]; exact h2
  ·rw [e]; intro q; cases q; omega
 ·rcases k.own with e | ⟨y, e, hy⟩
  ·rw [e]; exact h.own
  ·exact .inr ⟨y, e, Nat.le_trans h.size hy⟩
theorem Kp.blk {Lb : Nat} {ob ob' : Option Nat} {w w' : World} (h : Kp Lb ob ob' w w') {b : Nat} {cs : Array Value} {T : TypeId} (k : Blk w b cs T) (h1 : b ≠ Lb) (h2 : some b ≠ ob) : Blk w' b cs T := (h.block b k.lt h1 h2).trans k
theorem Kp.more {Lb : Nat} {ob ob' : Option Nat} {w0 w w' : World} (h : Kp Lb ob ob' w w') (m : More w0 w) (h1 : w0.heap.size <= Lb) (h2 : ∀ b, ob = some b -> w0.heap.size <= b) : More w0 w' :=
 ⟨h.os.trans m.os, h.tape.trans m.tape, h.output.trans m.output, Nat.le_trans m.size h.size, fun b hb => (h.block b (Nat.lt_of_lt_of_le hb m.size) (by omega) (fun e => by have := h2 b e.symm; omega)).trans (m.block b hb)⟩

def Ld (w : World) (Lb : Nat) (rv cv : Value) (lo : Nat) (L : List Ins) (ob : Option Nat) : Prop :=
 Lb < lo /\ ∃ va vc, Blk w Lb #[rv, cv, .slice va L.length vc] 69 /\ w.ownsRow lo 53 5 (.slice va L.length vc) L.length (flatI L) /\ (Value.slice va L.length vc).ownBlock = ob
theorem Ld.lo {w : World} {Lb : Nat} {rv cv : Value} {lo : Nat} {L : List Ins} {ob : Option Nat} (h : Ld w Lb rv cv lo L ob) : ∀ b, ob = some b -> lo <= b /\ b < w.heap.size := by
 obtain ⟨_, va, vc, _, h2, rfl⟩ := h;exact fun b hb => h2.lt b hb
theorem Ld.more {w w' : World} {Lb : Nat} {rv cv : Value} {lo : Nat} {L : List Ins} {ob : Option Nat} (h : Ld w Lb rv cv lo L ob) (m : More w w') : Ld w' Lb rv cv lo L ob := by
 obtain ⟨h0, va, vc, h1, h2, h3⟩ := h;exact ⟨h0, va, vc, h1.more m, World.ownsRow.kept h2 (m.grow none) (by cases (Value.slice va L.length vc).ownBlock <;> simp), h3⟩
def Lw (Lb : Nat) (rv cv : Value) (lo : Nat) (L X : List Ins) (ob : Option Nat) (w w' : World) : Prop := ∃ ob', Ld w' Lb rv cv lo (L ++ X) ob' /\ Kp Lb ob ob' w w'
def Laid (Lb : Nat) (rv cv : Value) (lo : Nat) (L X : List Ins) (ob : Option Nat) (w : World) (e : Ending) (w' : World) : Prop := e = .returned (.tuple #[]) /\ Lw Lb rv cv lo L X ob w w'
theorem Ld.start {w : World} {Lb : Nat} {rv cv : Value} {lo : Nat} {L : List Ins} {ob : Option Nat} (h : Ld w Lb rv cv lo L ob) : Lw Lb rv cv lo L [] ob w w := ⟨ob, by rw [List.append_nil]; exact h, Kp.of (More.refl _)⟩
theorem Lw.more {w w1 w2 : World} {Lb : Nat} {rv cv : Value} {lo : Nat} {L X : List Ins} {ob : Option Nat} (h : Lw Lb rv cv lo L X ob w w1) (m : More w1 w2) : Lw Lb rv cv lo L X ob w w2 := by
 obtain ⟨o, h1, h2⟩ := h;exact ⟨o, h1.more m, h2.trans (Kp.of m)⟩
theorem Lw.size {w w1 : World} {Lb : Nat} {rv cv : Value} {lo : Nat} {L X : List Ins} {ob : Option Nat} (h : Lw Lb rv cv lo L X ob w w1) : w.heap.size <= w1.heap.size := by
 obtain ⟨o, h1, h2⟩ := h;exact h2.size
theorem Lw.call {F : Nat} {args : Array Value} {w w1 : World} {Lb : Nat} {rv cv : Value} {lo : Nat} {L X Y : List Ins} {ob : Option Nat} (h : Lw Lb rv cv lo L X ob w w1) (c : ∀ ob1, Ld w1 Lb rv cv lo (L ++ X) ob1 -> Calls Tryz.prog F args w1 (Laid Lb rv cv lo (L ++ X) Y ob1 w1)) : Calls Tryz.prog F args w1 (Laid Lb rv cv lo L (X ++ Y) ob w) := by
 obtain ⟨o, h1, h2⟩ := h;refine (c o h1).mono ?_;rintro e w' ⟨he, o', h3, h4⟩;exact ⟨he, o', by rw [<- List.append_assoc]; exact h3, h2.trans h4⟩

theorem Jl2 : (Tryz.prog.info? 53).map (fun i => (i.zero, i.size, i.bytes)) = some (some (.agg #[.int .i64 0, .int .i64 0, .int .i64 0, .int .i64 0, .int .i64 0]), 5, 40) := by kernel_rfl

theorem Je3 (Lb : Nat) (rv cv : Value) (lo : Nat) (L X : List Ins) (ob : Option Nat) (w : World) (h : Ld w Lb rv cv lo L ob) (hlo : lo <= w.heap.size) (g m : Nat) (hm : X.length = m) (h1 : 1 <= m) (h2 : m <= 2) (hL : L.length <= 9000) (hX : NewsAt w g X) :
  Calls Tryz.prog 61 #[.pointer (some ⟨Lb, 0, none⟩), .slice (some ⟨g, 0, none⟩) m m] w (Laid Lb rv cv lo L X ob w) := by
 obtain ⟨hlt, va, vc, hB, hO, hob⟩ := h;obtain ⟨i0, hi, hz0, hz1, hz2⟩ := info_parts Jl2;have Hi : Hid (Tryz.prog.info? 53 = some i0 /\ i0.zero = some (.agg #[.int .i64 0, .int .i64 0, .int .i64 0, .int .i64 0, .int .i64 0]) /\ i0.size = 5 /\ i0.bytes = 40) := ⟨hi, hz0, hz1, hz2⟩;have hc : w.cell? ⟨Lb, 2, none⟩ = some (.slice va L.length vc) := hB.cell rfl;have HB : Hid (Blk w Lb #[rv, cv, .slice va L.length vc] 69) := hB;obtain ⟨n, Hn⟩ : ∃ x, Hid (L.length = x) := ⟨_, rfl⟩;rw [Hn.out] at hO hc hob HB hL;have HO : Hid (w.ownsRow lo 53 5 (.slice va n vc) n (flatI L)) := hO;have HX : Hid (NewsAt w g X /\ X.length = m) := ⟨hX, hm⟩;have Hob : Hid ((Value.slice va n vc).ownBlock = ob) := hob;have hne : ∀ b, (Value.slice va n vc).ownBlock = some b -> lo <= b := fun b hb => (hO.lt b hb).1
 have Hne : Hid (∀ b, (Value.slice va n vc).ownBlock = some b -> lo <= b) := hne;clear hi hz0 hz1 hz2 hB hO hX hm hob hne;go_enter Tryz.func61, Tryz.ntmps61;go_wp2_with (at_builtin; refine wpList_append_lies _ rfl (.tmp 8) (.tmp 9) 23 rfl lo 53 i0 (.agg #[.int .i64 0, .int .i64 0, .int .i64 0, .int .i64 0, .int .i64 0]) 5 40 Tryz.underlying23 Hi.out.1 Hi.out.2.1 Hi.out.2.2.1 Hi.out.2.2.2 rfl (by decide) (.slice va n vc) n (flatI L) rfl HO.out ⟨g, 0, none⟩ m m (flatI X) rfl (by rw [J2g, HX.out.2]) HX.out.1 (J3x X) (by omega) (by unfold maxLen; omega) (by omega) hlo w.heap.size rfl ?_; intro g3 cap3 w3 own3 gr3 hat3 hlt3; have HB3 : Hid (Blk w3 Lb #[rv, cv, .slice va n vc] 69) := (gr3.block _ HB.out.lt (fun e => by have := Hne.out _ e.symm; omega)).trans HB.out; have c3 : w3.cell? ⟨Lb, 2, none⟩ = some (.slice va n vc) := HB3.out.cell rfl; have f3 := HB3.out.frozen 2)
 go_end0;have hg := (own3.lt g3 rfl).1;have hl : (L ++ X).length = n + m := by rw [List.length_append, Hn.out, HX.out.2]
 refine ⟨rfl, some g3, ⟨hlt, some ⟨g3, 0, none⟩, cap3, ?_, ?_, ?_⟩, gr3.os, gr3.tape, gr3.output, ?_, fun b hb h1 h2 => ?_, ?_⟩
 ·have := HB3.out.put 2 (.slice (some ⟨g3, 0, none⟩) (n + m) cap3)
  rw [hl];simpa using this
 ·rw [hl, J2f]
  exact World.ownsRow.kept own3 (J0q _ _ _ _) (.inr (by simp [Value.ownBlock]; omega))
 ·rfl
 ·simpa [World.setCell] using gr3.size
 ·have h3 : (w3.setCell ⟨Lb, 2, none⟩ (.slice (some ⟨g3, 0, none⟩) (n + m) cap3)).heap[b]? = w3.heap[b]? := by
   simp [World.setCell, Array.getElem?_modify, h1.symm]
  rw [h3];exact gr3.block b hb (by rw [Hob.out]; exact h2)
 ·rcases hat3 with e | e
  ·left; rw [<- Hob.out, e]
  ·exact .inr ⟨g3, rfl, by omega⟩

theorem J6l {Lb : Nat} {rv cv : Value} {lo : Nat} {L X : List Ins} {ob : Option Nat} {w w1 : World} (h : Lw Lb rv cv lo L X ob w w1) (hlo : lo <= w.heap.size) (Y : List Ins) (m : Nat) (cs : Array Value) (hY : cs.toList = flatI Y) (hm : Y.length = m) (h1 : 1 <= m) (h2 : m <= 2) (hL : (L ++ X).length <= 9000) :
  Calls Tryz.prog 61 #[.pointer (some ⟨Lb, 0, none⟩), .slice (some ⟨w1.heap.size, 0, none⟩) m m] (w1.alloc (.cells cs 53)) (Laid Lb rv cv lo L (X ++ Y) ob w) := by
 have m1 := (More.refl w1).alloc cs 53;exact (h.more m1).call fun o h3 => Je3 Lb rv cv lo _ Y o _ h3 (Nat.le_trans hlo (Nat.le_trans h.size m1.size)) _ m hm h1 h2 hL (NewsAt.of (Blk.last _ _ _) hY)

theorem J5h (n : Int) (w : World) : Calls Tryz.prog 59 #[.int .i64 n] w fun e w' => e = .returned (.bool (decide (N14 n))) /\ More w w' := by
 by_cases h1 : -8192 <= n
 ·have d1 : decide (n ≥ -8192) = true := by simp; omega
  have e : decide (N14 n) = decide (n <= 8191) := by unfold N14; simp [h1]
  rw [e];go_enter Tryz.func59, Tryz.ntmps59;go_wp2;go_ret;exact ⟨rfl, More.refl _⟩
 ·have d1 : decide (n ≥ -8192) = false := by simp; omega
  have e : decide (N14 n) = false := by unfold N14; simp [h1]
  rw [e];go_enter Tryz.func59, Tryz.ntmps59;go_wp2;go_ret;exact ⟨rfl, More.refl _⟩

theorem and13 (n : Int) : bits .and .i64 n 8191 = n % 8192 := by
 have e : (BitVec.ofInt 64 n &&& BitVec.ofInt 64 8191).toNat = (n % ((2 ^ 64 : Nat) : Int)).toNat % 2 ^ 13 := by
  rw [BitVec.toNat_and, BitVec.toNat_ofInt, show (BitVec.ofInt 64 8191).toNat = 2 ^ 13 - 1 by decide, Nat.and_two_pow_sub_one_eq_mod]
 show IntKind.i64.wrap ((BitVec.ofInt 64 n &&& BitVec.ofInt 64 8191).toNat : Nat) = _;rw [e, IntKind.wrap_i64];omega
theorem Jct {n : Int} (h : N14 n) (a : Int) (f : Nat) : J16 a f n = [⟨1, a, 0, 0, n⟩] := by
 cases f with
 | zero => rfl
 | succ f => unfold J16; rw [if_pos h]

theorem J5r (Lb : Nat) (rv cv : Value) (lo : Nat) (a : Int) (f : Nat) (n : Int) (L : List Ins) (ob : Option Nat) (w : World) (h : Ld w Lb rv cv lo L ob) (hlo : lo <= w.heap.size) (hL : L.length + 1 + 2 * f <= 9000) (h14 : N14 n) :
  Calls Tryz.prog 73 #[.pointer (some ⟨Lb, 0, none⟩), .int .i64 a, .int .i64 n] w (Laid Lb rv cv lo L (J16 a f n) ob w) := by
 rw [Jct h14]
 have CF : Hid (Calls Tryz.prog 59 #[.int .i64 n] w fun e w' => e = .returned (.bool true) /\ More w w') := by
  have := J5h n w;rw [show decide (N14 n) = true by simp [h14]] at this;exact this
 have HK : Hid (∀ w1 : World, More w w1 -> Calls Tryz.prog 61 #[.pointer (some ⟨Lb, 0, none⟩), .slice (some ⟨w1.heap.size, 0, none⟩) 1 1] (w1.alloc (.cells #[.int .i64 1, .int .i64 a, .int .i64 0, .int .i64 0, .int .i64 n] 53)) (Laid Lb rv cv lo L [⟨1, a, 0, 0, n⟩] ob w)) := fun w1 m1 =>
  J6l (h.start.more m1) hlo [⟨1, a, 0, 0, n⟩] 1 _ rfl rfl (by omega) (by omega) (by rw [List.append_nil]; omega)
 clear h hL h14 hlo;go_enter Tryz.func73, Tryz.ntmps73;go_wp2_with (fail)
 refine CF.out.mono ?_;rintro e w1 ⟨rfl, m1⟩;have HK1 := HK.out w1 m1;go_wp2_with (fail)
 refine HK1.mono ?_;rintro e w3 ⟨rfl, hw3⟩;have Hw3 : Hid (Lw Lb rv cv lo L [⟨1, a, 0, 0, n⟩] ob w w3) := hw3;clear hw3;go_wp2;go_end0;exact ⟨rfl, Hw3.out⟩

theorem J9g (Lb : Nat) (rv cv : Value) (lo : Nat) (a : Int) : ∀ (f : Nat) (n : Int) (L : List Ins) (ob : Option Nat) (w : World), Ld w Lb rv cv lo L ob -> lo <= w.heap.size -> L.length + 1 + 2 * f <= 9000 -> B64 n -> -lim f <= n -> n < lim f ->
  Calls Tryz.prog 73 #[.pointer (some ⟨Lb, 0, none⟩), .int .i64 a, .int .i64 n] w (Laid Lb rv cv lo L (J16 a f n) ob w) := by
 intro f
 induction f with
 | zero =>
  intro n L ob w h hlo hL hn l1 l2;have h14 : N14 n := by simp only [lim] at l1 l2; unfold N14; omega
  exact J5r Lb rv cv lo a 0 n L ob w h hlo hL h14
 | succ f ih =>
  intro n L ob w h hlo hL hn l1 l2;by_cases h14 : N14 n
  ·exact J5r Lb rv cv lo a (f + 1) n L ob w h hlo hL h14
  ·have CF : Hid (Calls Tryz.prog 59 #[.int .i64 n] w fun e w' => e = .returned (.bool false) /\ More w w') := by
    have := J5h n w;rw [show decide (N14 n) = false by simp [h14]] at this;exact this
   have eL : J16 a (f + 1) n = J16 a f (n / 8192) ++ [⟨27, a, a, 9, 0⟩, ⟨10, a, a, 0, n % 8192⟩] := by rw [J16, if_neg h14]
   rw [eL]
   have HR : Hid (∀ w1 : World, More w w1 -> Calls Tryz.prog 73 #[.pointer (some ⟨Lb, 0, none⟩), .int .i64 a, .int .i64 (n / 8192)] w1 (Laid Lb rv cv lo L ([] ++ J16 a f (n / 8192)) ob w)) := fun w1 m1 =>
    (h.start.more m1).call fun o h3 => ih _ _ _ _ h3 (Nat.le_trans hlo m1.size) (by rw [List.append_nil]; omega) (by unfold B64 at *; omega) (by simp only [lim] at l1; omega) (by simp only [lim] at l2; omega)
   have HL2 : Hid (∀ w1 : World, Lw Lb rv cv lo L (J16 a f (n / 8192)) ob w w1 -> Calls Tryz.prog 61 #[.pointer (some ⟨Lb, 0, none⟩), .slice (some ⟨w1.heap.size, 0, none⟩) 2 2] (w1.alloc (.cells #[.int .i64 27, .int .i64 a, .int .i64 a, .int .i64 9, .int .i64 0, .int .i64 10, .int .i64 a, .int .i64 a, .int .i64 0, .int .i64 (n % 8192)] 53)) (Laid Lb rv cv lo L (J16 a f (n / 8192) ++ [⟨27, a, a, 9, 0⟩, ⟨10, a, a, 0, n % 8192⟩]) ob w)) := fun w1 h1 =>
    J6l h1 hlo [⟨27, a, a, 9, 0⟩, ⟨10, a, a, 0, n % 8192⟩] 2 _ rfl rfl (by omega) (by omega) (by have := (J6x a f (n / 8192)).2; rw [List.length_append]; omega)
   clear h hL hlo l1 l2 ih eL h14;go_enter Tryz.func73, Tryz.ntmps73;go_wp2_with (fail)
   refine CF.out.mono ?_;rintro e w1 ⟨rfl, m1⟩;have HR1 := HR.out w1 m1;go_wp2_with (fail)
   refine HR1.mono ?_;rintro e w2 ⟨rfl, hw2⟩;have HL3 := HL2.out w2 hw2;go_wp2_with (fail)
   rw [and13];refine HL3.mono ?_;rintro e w3 ⟨rfl, hw3⟩;have Hw3 : Hid (Lw Lb rv cv lo L (J16 a f (n / 8192) ++ [⟨27, a, a, 9, 0⟩, ⟨10, a, a, 0, n % 8192⟩]) ob w w3) := hw3;clear hw3 hw2;go_wp2;go_end0;exact ⟨rfl, Hw3.out⟩

theorem J99 (Lb : Nat) (rv cv : Value) (lo : Nat) (a n : Int) (L : List Ins) (ob : Option Nat) (w : World) (h : Ld w Lb rv cv lo L ob) (hlo : lo <= w.heap.size) (hL : L.length <= 8900) (hn : B64 n) :
  Calls Tryz.prog 60 #[.pointer (some ⟨Lb, 0, none⟩), .int .i64 a, .int .i64 n] w (Laid Lb rv cv lo L (numL a n) ob w) := by
 have HK : Hid (Calls Tryz.prog 61 #[.pointer (some ⟨Lb, 0, none⟩), .slice (some ⟨w.heap.size, 0, none⟩) 1 1] (w.alloc (.cells #[.int .i64 1, .int .i64 9, .int .i64 0, .int .i64 0, .int .i64 13] 53)) (Laid Lb rv cv lo L [⟨1, 9, 0, 0, 13⟩] ob w)) :=
  J6l h.start hlo [⟨1, 9, 0, 0, 13⟩] 1 _ rfl rfl (by omega) (by omega) (by rw [List.append_nil]; omega)
 have HP : Hid (∀ w1 : World, Lw Lb rv cv lo L [⟨1, 9, 0, 0, 13⟩] ob w w1 -> Calls Tryz.prog 73 #[.pointer (some ⟨Lb, 0, none⟩), .int .i64 a, .int .i64 n] w1 (Laid Lb rv cv lo L ([⟨1, 9, 0, 0, 13⟩] ++ J16 a 4 n) ob w)) := fun w1 h1 =>
  h1.call fun o h3 => J9g Lb rv cv lo a 4 n _ o w1 h3 (Nat.le_trans hlo h1.size) (by rw [List.length_append]; simp; omega) hn (lim4 hn).1 (lim4 hn).2
 clear h hL hn hlo;go_enter Tryz.func60, Tryz.ntmps60;go_wp2_with (fail)
 refine HK.out.mono ?_;rintro e w1 ⟨rfl, h1⟩;have HP1 := HP.out w1 h1;clear h1;go_wp2_with (fail)
 refine HP1.mono ?_;rintro e w2 ⟨rfl, h2⟩;have H2 : Hid (Lw Lb rv cv lo L (numL a n) ob w w2) := h2;clear h2;go_wp2;go_end0;exact ⟨rfl, H2.out⟩

theorem J7f (Lb : Nat) (rv cv : Value) (lo : Nat) (i : Ins) (L : List Ins) (ob : Option Nat) (w : World) (h : Ld w Lb rv cv lo L ob) (hlo : lo <= w.heap.size) (hL : L.length <= 8800) (hn : B64 i.n) :
  Calls Tryz.prog 41 #[.pointer (some ⟨Lb, 0, none⟩), .agg #[.int .i64 i.op, .int .i64 i.a, .int .i64 i.b, .int .i64 i.c, .int .i64 i.n]] w (Laid Lb rv cv lo L (fitL i) ob w) := by
 obtain ⟨op, a, b, c, n⟩ := i;dsimp only at hn |-;have HF : Hid (∀ w1 : World, Calls Tryz.prog 59 #[.int .i64 n] w1 fun e w' => e = .returned (.bool (decide (N14 n))) /\ More w1 w') := fun w1 => J5h n w1
 have HN : Hid (∀ a w1, More w w1 -> Calls Tryz.prog 60 #[.pointer (some ⟨Lb, 0, none⟩), .int .i64 a, .int .i64 n] w1 (Laid Lb rv cv lo L (numL a n) ob w1)) := fun a w1 m1 => J99 Lb rv cv lo a n _ ob w1 (h.more m1) (Nat.le_trans hlo m1.size) (by omega) hn
 have Hob : Hid (∀ x, ob = some x -> x < w.heap.size) := fun x hx => (h.lo x hx).2
 have hLb : Lb < w.heap.size := by have := h.1; omega
 obtain ⟨W, HW⟩ : ∃ W : World, Hid (W = w.alloc (.cells #[.int .i64 op, .int .i64 a, .int .i64 b, .int .i64 c, .int .i64 n] 53)) := ⟨_, rfl⟩;have HmW : Hid (More w W) := HW.out ▸ (More.refl _).alloc _ _;have HbW : Hid (Blk W w.heap.size #[.int .i64 op, .int .i64 a, .int .i64 b, .int .i64 c, .int .i64 n] 53) := HW.out ▸ Blk.last _ _ _
 have HL1 : Hid (∀ w1 : World, More w w1 -> Calls Tryz.prog 61 #[.pointer (some ⟨Lb, 0, none⟩), .slice (some ⟨w1.heap.size, 0, none⟩) 1 1] (w1.alloc (.cells #[.int .i64 op, .int .i64 a, .int .i64 b, .int .i64 c, .int .i64 n] 53)) (Laid Lb rv cv lo L [⟨op, a, b, c, n⟩] ob w)) := fun w1 m1 =>
  J6l (h.start.more m1) hlo [⟨op, a, b, c, n⟩] 1 _ rfl rfl (by omega) (by omega) (by rw [List.append_nil]; omega)
 have HL2 : Hid (∀ w1 : World, Lw Lb rv cv lo L (numL 8 n) ob w w1 -> Calls Tryz.prog 61 #[.pointer (some ⟨Lb, 0, none⟩), .slice (some ⟨w1.heap.size, 0, none⟩) 1 1] (w1.alloc (.cells #[.int .i64 21, .int .i64 a, .int .i64 b, .int .i64 8, .int .i64 0] 53)) (Laid Lb rv cv lo L (numL 8 n ++ [⟨21, a, b, 8, 0⟩]) ob w)) := fun w1 h1 =>
  J6l h1 hlo [⟨21, a, b, 8, 0⟩] 1 _ rfl rfl (by omega) (by omega) (by have := (Jak 8 n).2; rw [List.length_append]; omega)
 have HB : Hid (∀ w1, More W w1 -> Blk w1 w.heap.size #[.int .i64 op, .int .i64 a, .int .i64 b, .int .i64 c, .int .i64 n] 53) := fun w1 m1 => HbW.out.more m1
 have HB2 : Hid (∀ w1 w2, More W w1 -> Lw Lb rv cv lo L (numL 8 n) ob w1 w2 -> Blk w2 w.heap.size #[.int .i64 op, .int .i64 a, .int .i64 b, .int .i64 c, .int .i64 n] 53 /\ Lw Lb rv cv lo L (numL 8 n) ob w w2) := fun w1 w2 m1 ⟨o, h1, k⟩ =>
  ⟨k.blk (HbW.out.more m1) (by omega) (by intro q; have := Hob.out _ q.symm; omega), o, h1, (Kp.of (HmW.out.trans m1)).trans k⟩
 have HK : Hid (∀ a w1 w2, More W w1 -> Lw Lb rv cv lo L (numL a n) ob w1 w2 -> Lw Lb rv cv lo L (numL a n) ob w w2) := fun a w1 w2 m1 ⟨o, h1, k⟩ => ⟨o, h1, (Kp.of (HmW.out.trans m1)).trans k⟩
 clear h hlo hL hLb;by_cases h1 : op = 1
 ·subst h1
  have a0 : W.cell? ⟨w.heap.size, 0, none⟩ = some (.int .i64 1) := HbW.out.cell rfl;have a1 : W.cell? ⟨w.heap.size, 1, none⟩ = some (.int .i64 a) := HbW.out.cell rfl;have a2 : W.cell? ⟨w.heap.size, 2, none⟩ = some (.int .i64 b) := HbW.out.cell rfl;have a3 : W.cell? ⟨w.heap.size, 3, none⟩ = some (.int .i64 c) := HbW.out.cell rfl;have a4 : W.cell? ⟨w.heap.size, 4, none⟩ = some (.int .i64 n) := HbW.out.cell rfl;by_cases h14 : N14 n
  ·rw [show fitL ⟨1, a, b, c, n⟩ = [⟨1, a, b, c, n⟩] by unfold fitL; rw [if_pos h14]]
   rw [show decide (N14 n) = true by simp [h14]] at HF;clear h14;go_enter Tryz.func41, Tryz.ntmps41;go_wp2_with (fail)
   rw [<- HW.out];refine (HF.out W).mono ?_;rintro e w1 ⟨rfl, m1⟩;have Hb1 : Hid (Blk w1 w.heap.size #[.int .i64 1, .int .i64 a, .int .i64 b, .int .i64 c, .int .i64 n] 53) := HB.out w1 m1;have c0 : w1.cell? ⟨w.heap.size, 0, none⟩ = some (.int .i64 1) := Hb1.out.cell rfl;have c1 : w1.cell? ⟨w.heap.size, 1, none⟩ = some (.int .i64 a) := Hb1.out.cell rfl;have c2 : w1.cell? ⟨w.heap.size, 2, none⟩ = some (.int .i64 b) := Hb1.out.cell rfl;have c3 : w1.cell? ⟨w.heap.size, 3, none⟩ = some (.int .i64 c) := Hb1.out.cell rfl;have c4 : w1.cell? ⟨w.heap.size, 4, none⟩ = some (.int .i64 n) := Hb1.out.cell rfl;have HL3 := HL1.out w1 (HmW.out.trans m1);go_wp2_with (fail)
   refine HL3.mono ?_;rintro e w3 ⟨rfl, hw3⟩;have Hw3 : Hid (Lw Lb rv cv lo L [⟨1, a, b, c, n⟩] ob w w3) := hw3;clear hw3;go_wp2;go_end0;exact ⟨rfl, Hw3.out⟩
  ·rw [show fitL ⟨1, a, b, c, n⟩ = numL a n by unfold fitL; rw [if_neg h14]; rfl]
   rw [show decide (N14 n) = false by simp [h14]] at HF;clear h14;go_enter Tryz.func41, Tryz.ntmps41;go_wp2_with (fail)
   rw [<- HW.out];refine (HF.out W).mono ?_;rintro e w1 ⟨rfl, m1⟩;have Hb1 : Hid (Blk w1 w.heap.size #[.int .i64 1, .int .i64 a, .int .i64 b, .int .i64 c, .int .i64 n] 53) := HB.out w1 m1;have c0 : w1.cell? ⟨w.heap.size, 0, none⟩ = some (.int .i64 1) := Hb1.out.cell rfl;have c1 : w1.cell? ⟨w.heap.size, 1, none⟩ = some (.int .i64 a) := Hb1.out.cell rfl;have c2 : w1.cell? ⟨w.heap.size, 2, none⟩ = some (.int .i64 b) := Hb1.out.cell rfl;have c3 : w1.cell? ⟨w.heap.size, 3, none⟩ = some (.int .i64 c) := Hb1.out.cell rfl;have c4 : w1.cell? ⟨w.heap.size, 4, none⟩ = some (.int .i64 n) := Hb1.out.cell rfl;have HL3 := HN.out a w1 (HmW.out.trans m1);go_wp2_with (fail)
   refine HL3.mono ?_;rintro e w3 ⟨rfl, hw3⟩;have Hw3 : Hid (Lw Lb rv cv lo L (numL a n) ob w w3) := HK.out a w1 w3 m1 hw3;clear hw3;go_wp2;go_end0;exact ⟨rfl, Hw3.out⟩
 have e1 : (op == 1) = false := by simp [h1]
 by_cases h10 : op = 10
 ·subst h10
  have a0 : W.cell? ⟨w.heap.size, 0, none⟩ = some (.int .i64 10) := HbW.out.cell rfl;have a1 : W.cell? ⟨w.heap.size, 1, none⟩ = some (.int .i64 a) := HbW.out.cell rfl;have a2 : W.cell? ⟨w.heap.size, 2, none⟩ = some (.int .i64 b) := HbW.out.cell rfl;have a3 : W.cell? ⟨w.heap.size, 3, none⟩ = some (.int .i64 c) := HbW.out.cell rfl;have a4 : W.cell? ⟨w.heap.size, 4, none⟩ = some (.int .i64 n) := HbW.out.cell rfl;by_cases h14 : N14 n
  ·rw [show fitL ⟨10, a, b, c, n⟩ = [⟨10, a, b, c, n⟩] by unfold fitL; rw [if_pos h14]]
   rw [show decide (N14 n) = true by simp [h14]] at HF;clear h14;go_enter Tryz.func41, Tryz.ntmps41;go_wp2_with (fail)
   rw [<- HW.out];refine (HF.out W).mono ?_;rintro e w1 ⟨rfl, m1⟩;have Hb1 : Hid (Blk w1 w.heap.size #[.int .i64 10, .int .i64 a, .int .i64 b, .int .i64 c, .int .i64 n] 53) := HB.out w1 m1;have c0 : w1.cell? ⟨w.heap.size, 0, none⟩ = some (.int .i64 10) := Hb1.out.cell rfl;have c1 : w1.cell? ⟨w.heap.size, 1, none⟩ = some (.int .i64 a) := Hb1.out.cell rfl;have c2 : w1.cell? ⟨w.heap.size, 2, none⟩ = some (.int .i64 b) := Hb1.out.cell rfl;have c3 : w1.cell? ⟨w.heap.size, 3, none⟩ = some (.int .i64 c) := Hb1.out.cell rfl;have c4 : w1.cell? ⟨w.heap.size, 4, none⟩ = some (.int .i64 n) := Hb1.out.cell rfl;have HL3 := HL1.out w1 (HmW.out.trans m1);go_wp2_with (fail)
   refine HL3.mono ?_;rintro e w3 ⟨rfl, hw3⟩;have Hw3 : Hid (Lw Lb rv cv lo L [⟨10, a, b, c, n⟩] ob w w3) := hw3;clear hw3;go_wp2;go_end0;exact ⟨rfl, Hw3.out⟩
  ·rw [show fitL ⟨10, a, b, c, n⟩ = numL 8 n ++ [⟨21, a, b, 8, 0⟩] by unfold fitL; rw [if_neg h14]; rfl]
   rw [show decide (N14 n) = false by simp [h14]] at HF;clear h14;go_enter Tryz.func41, Tryz.ntmps41;go_wp2_with (fail)
   rw [<- HW.out];refine (HF.out W).mono ?_;rintro e w1 ⟨rfl, m1⟩;have Hb1 : Hid (Blk w1 w.heap.size #[.int .i64 10, .int .i64 a, .int .i64 b, .int .i64 c, .int .i64 n] 53) := HB.out w1 m1;have c0 : w1.cell? ⟨w.heap.size, 0, none⟩ = some (.int .i64 10) := Hb1.out.cell rfl;have c1 : w1.cell? ⟨w.heap.size, 1, none⟩ = some (.int .i64 a) := Hb1.out.cell rfl;have c2 : w1.cell? ⟨w.heap.size, 2, none⟩ = some (.int .i64 b) := Hb1.out.cell rfl;have c3 : w1.cell? ⟨w.heap.size, 3, none⟩ = some (.int .i64 c) := Hb1.out.cell rfl;have c4 : w1.cell? ⟨w.heap.size, 4, none⟩ = some (.int .i64 n) := Hb1.out.cell rfl;have HL4 := HN.out 8 w1 (HmW.out.trans m1);go_wp2_with (fail)
   refine HL4.mono ?_;rintro e w2 ⟨rfl, hw2⟩;obtain ⟨hb2, hw2⟩ := HB2.out w1 w2 m1 hw2;have Hb2 : Hid (Blk w2 w.heap.size #[.int .i64 10, .int .i64 a, .int .i64 b, .int .i64 c, .int .i64 n] 53) := hb2;have HL3 := HL2.out w2 hw2;clear hb2 hw2 c0 c1 c2 c3 c4;have d0 : w2.cell? ⟨w.heap.size, 0, none⟩ = some (.int .i64 10) := Hb2.out.cell rfl;have d1 : w2.cell? ⟨w.heap.size, 1, none⟩ = some (.int .i64 a) := Hb2.out.cell rfl;have d2 : w2.cell? ⟨w.heap.size, 2, none⟩ = some (.int .i64 b) := Hb2.out.cell rfl;have d3 : w2.cell? ⟨w.heap.size, 3, none⟩ = some (.int .i64 c) := Hb2.out.cell rfl;have d4 : w2.cell? ⟨w.heap.size, 4, none⟩ = some (.int .i64 n) := Hb2.out.cell rfl;go_wp2_with (fail)
   refine HL3.mono ?_;rintro e w3 ⟨rfl, hw3⟩;have Hw3 : Hid (Lw Lb rv cv lo L (numL 8 n ++ [⟨21, a, b, 8, 0⟩]) ob w w3) := hw3;clear hw3;go_wp2;go_end0;exact ⟨rfl, Hw3.out⟩
 ·have e10 : (op == 10) = false := by simp [h10]
  rw [J1w h1 h10];clear h1 h10;have a0 : W.cell? ⟨w.heap.size, 0, none⟩ = some (.int .i64 op) := HbW.out.cell rfl;have a1 : W.cell? ⟨w.heap.size, 1, none⟩ = some (.int .i64 a) := HbW.out.cell rfl;have a2 : W.cell? ⟨w.heap.size, 2, none⟩ = some (.int .i64 b) := HbW.out.cell rfl;have a3 : W.cell? ⟨w.heap.size, 3, none⟩ = some (.int .i64 c) := HbW.out.cell rfl;have a4 : W.cell? ⟨w.heap.size, 4, none⟩ = some (.int .i64 n) := HbW.out.cell rfl;have HL3 := HL1.out W HmW.out;rw [show W.heap.size = w.heap.size + 1 by rw [HW.out]; simp] at HL3;clear a0 a1 a2 a3 a4;go_enter Tryz.func41, Tryz.ntmps41;go_wp2_with (fail)
  rw [<- HW.out];refine HL3.mono ?_;rintro e w3 ⟨rfl, hw3⟩;have Hw3 : Hid (Lw Lb rv cv lo L [⟨op, a, b, c, n⟩] ob w w3) := hw3;clear hw3;go_wp2;go_end0;exact ⟨rfl, Hw3.out⟩
end
end Go.Proofs.YtlbfbjeilfcjeaaGreat
