/-
  The texts SMeth, SBuilt, SBack, Reach, Num, NumAll, Operate, Do, SReach, STake, SPut, SBranch, one behind the other, with what is used of them.
-/
import Derived.Test.YtapagihngaiebaaGreatJoined7
import Derived.Test.YtapagihngaiebaaGreatJoined1
import Derived.Test.YtapagihngaiebaaGreatProg
import Derived.WalkKit
import Derived.WalkSpells
import Derived.WalkLawsBesides
import Derived.Test.YtapagihngaiebaaGreatJoined0
import Derived.Deep.RegionWith
namespace Go.Proofs.YtapagihngaiebaaGreat
set_option maxHeartbeats 4000000
section
open Go.RowKit
set_option linter.unusedSimpArgs false
set_option linter.unusedVariables false
set_option maxRecDepth 8000
theorem J3k (w : World) (M B : Nat) (rv cv : Value) (x : Ms) (q : Tl) (se : List Se) (L : List Int) (h : RunS w M rv cv x q se) (hs : ScAt w B q.sc L) (hB : B <= M) :
  Calls Tryz.prog 85 #[.pointer (some ⟨M, 0, none⟩)] w fun e w' => e = .returned (V (L.headD 0)) /\ Below M w w' /\ ∃ sc', RunS w' M rv cv x { q with sc := sc' } se /\ ScAt w' B sc' L.tail := by
 obtain ⟨sa, cap, hsc, hcap, hl⟩ := hs.out;have hM := h.lt;obtain ⟨c411, f411⟩ := h.sc;rw [hsc] at c411;have H : Hid (RunS w M rv cv x q se /\ ScAt w B q.sc L) := ⟨h, hs⟩;cases L with
 | nil =>
  clear h hs hl;go_enter Tryz.func85, Tryz.ntmps85;go_wp2;go_ret;exact ⟨rfl, Below.refl _ _, q.sc, H.out.1, H.out.2⟩
 | cons c L =>
  obtain ⟨sb, so, rfl, hsb, hcell⟩ := hl (by simp);have c0 := hcell 0 c (by simp);rw [Nat.add_zero] at c0;have Hc : Hid (sb < B /\ B <= M /\ ∀ j c', (c :: L)[j]? = some c' -> w.cell? ⟨sb, so + j, none⟩ = some (V c')) := ⟨hsb, hB, hcell⟩;have hne : ¬ sb = M := by omega
  have hn1 : (1 : Int) <= ((c :: L).length : Int) := by simp; omega
  have hn2 : ((c :: L).length : Int) <= (cap : Int) := by omega
  obtain ⟨n, hn⟩ : ∃ n, (c :: L).length = n := ⟨_, rfl⟩;have Hn : Hid ((c :: L).length = n) := hn;rw [hn] at c411 hn1 hn2 hcap;have hn0 : ¬ (n : Int) = 0 := by omega
  have hn3 : ¬ n = 0 := by omega
  have hz : ((n : Int) == 0) = false := by simp; omega
  have hcap1 : 1 <= cap := by omega
  clear h hs hl hcell hn hsc;by_cases e1 : cap = 1
  ·subst e1
   go_enter Tryz.func85, Tryz.ntmps85;go_wp2;go_ret;refine ⟨rfl, J0i (Below.refl _ _) _ _, _, H.out.1.setSc _, ?_⟩;have hL : L = [] := by have := Hn.out; simp at this; cases L with | nil => rfl | cons a l => simp at this; omega
   subst hL;exact ⟨_, _, rfl, Nat.zero_le _, fun h => absurd rfl h⟩
  ·go_enter Tryz.func85, Tryz.ntmps85
   go_wp2;go_ret;refine ⟨rfl, J0i (Below.refl _ _) _ _, _, H.out.1.setSc _, ?_⟩;have hL : n - 1 = L.length := by have := Hn.out; simp at this; omega
   refine ⟨some ⟨sb, so + 1, none⟩, cap - 1, by rw [List.tail_cons, <- hL], by rw [List.tail_cons]; omega, fun h => ⟨sb, so + 1, rfl, Hc.out.1, fun j c' hc => ?_⟩⟩;rw [World.cell?_setCell_other _ _ _ _ (by simp <;> omega), show so + 1 + j = so + (j + 1) by omega];exact Hc.out.2.2 (j + 1) c' (by simpa using hc)

theorem J2l (w : World) (M : Nat) (ra : Option Addr) (rl rc : Nat) (cv : Value) (x : Ms) (se : List Se) (n : Int) (h : Run w M (.slice ra rl rc) cv x se) (hrl : rl <= 6) :
  Calls Tryz.prog 88 #[.pointer (some ⟨M, 0, none⟩), V n] w fun e w' => e = .returned (.bool (decide (0 <= n) && decide (n < x.st rl))) /\ More w w' := by
 have c0 := h.p0.1;have cs := (h.st rl (by omega)).1;have r0 : (0 : Int) <= (rl : Int) := by omega
 have r7 : (rl : Int) < 7 := by omega
 clear h;by_cases h0 : 0 <= n
 ·go_enter Tryz.func88, Tryz.ntmps88
  go_wp2
  go_region
  go_wp2;go_ret;exact ⟨by simp [h0], (More.refl _).drew⟩
 ·have h0' : decide (0 <= n) = false := by simp; omega
  go_enter Tryz.func88, Tryz.ntmps88;go_wp2
  go_region
  go_wp2;go_ret;exact ⟨by simp [h0]; intro h; omega, (More.refl _).drew⟩

theorem Jbu (w : World) (M : Nat) (rv cv : Value) (x : Ms) (q : Tl) (se : List Se) (n c : Int) (h : RunS w M rv cv x q se) (n0 : 0 <= n) (n1 : n < 384) (hc : c = 0 \/ q.puts n.toNat < c) :
  Calls Tryz.prog 89 #[.pointer (some ⟨M, 0, none⟩), V n, V c] w fun e w' => e = .returned (.tuple #[V 0, .bool false]) /\ w' = w := by
 have c0 := (h.puts n.toNat (by omega)).1;obtain ⟨t, ht⟩ : ∃ t, q.puts n.toNat = t := ⟨_, rfl⟩;rw [ht] at c0 hc;clear h ht;by_cases e : c = 0
 ·subst e
  clear hc;go_enter Tryz.func89, Tryz.ntmps89;go_wp2;go_ret2;exact ⟨rfl, rfl⟩
 ·have e' : (c == 0) = false := by simp [e]
  have e2 : t < c := by omega
  clear hc;go_enter Tryz.func89, Tryz.ntmps89;go_wp2;go_ret2;exact ⟨rfl, rfl⟩

theorem Jac (w : World) (M : Nat) (rv cv : Value) (x : Ms) (q : Tl) (se : List Se) (f : Int -> Int -> Int) (n c : Int) (h : RunS w M rv cv x q se) (hm : MapAt w q.mb f) (n0 : 0 <= n) (n1 : n < 384) (c0 : 0 < c) (c1 : c <= q.puts n.toNat) (hp : q.puts n.toNat <= 100000) :
  Calls Tryz.prog 89 #[.pointer (some ⟨M, 0, none⟩), V n, V c] w fun e w' => e = .returned (.tuple #[V (f n (q.puts n.toNat - c)), .bool true]) /\ w' = w := by
 have cp := (h.puts n.toNat (by omega)).1;have cm := h.map.1;obtain ⟨t, ht⟩ : ∃ t, q.puts n.toNat = t := ⟨_, rfl⟩;rw [ht] at cp c1 hp |-;obtain ⟨mb, hmb⟩ : ∃ mb, q.mb = mb := ⟨_, rfl⟩;rw [hmb] at cm hm;have hw : wrap64 (t - c) = t - c := by unfold wrap64; omega
 have hwr := J1y;have HM : Hid (MapAt w mb f /\ B64 n /\ B64 (t - c)) := ⟨hm, by unfold B64; omega, by unfold B64; omega⟩;obtain ⟨v, hv⟩ : ∃ v, f n (t - c) = v := ⟨_, rfl⟩;rw [hv];have Hv : Hid (f n (t - c) = v) := hv;have e' : (c == 0) = false := by simp; omega
 have e2 : ¬ t < c := by omega
 clear h hm ht hmb hv;go_enter Tryz.func89, Tryz.ntmps89;go_wp2_with (refine Jc0 rfl (.tmp 25) (.tmp 30) rfl mb f n (t - c) rfl rfl HM.out.1 HM.out.2.1 HM.out.2.2 ?_; rw [Hv.out])
 go_ret2;exact ⟨rfl, rfl⟩
theorem Jmf : (Tryz.prog.info? 101).map (·.size) = some 779 := by kernel_rfl
theorem Jev : (Tryz.prog.info? 91).map (·.size) = some 395 := by kernel_rfl
theorem Jew : (Tryz.prog.info? 99).map (·.size) = some 384 := by kernel_rfl
theorem Jm2 : (Tryz.prog.info? 101).map (fun i => i.zero.map (fun z => z.cells.size)) = some (some 779) := by kernel_rfl
theorem Jic : (J44 Tryz.prog 101).mapM (fun f => (Tryz.prog.info? f.type).map fun i => (f.offset, i.size)) = some [(0, 395), (395, 384)] := by kernel_rfl
theorem Jid : (J44 Tryz.prog 103).mapM (fun f => (Tryz.prog.info? f.type).map fun i => (f.offset, i.size)) = some [(0, 411), (411, 1), (412, 1), (413, 384), (797, 1), (798, 779), (1577, 1)] := by kernel_rfl

theorem Jjx (A B : Array Value) (hA : A.size = 395) (hB : B.size = 384) : ∃ C, Tryz.prog.built 101 [(0, .agg A), (1, .agg B)] = some C /\ C.size = 779 /\ ∀ j, j < 779 -> C[j]? = if j < 395 then A[j]? else B[j - 395]? := by
 have hz := Jm2;cases hi : Tryz.prog.info? 101 with
 | none => rw [hi] at hz; simp at hz
 | some it =>
  rw [hi] at hz;simp only [Option.map_some, Option.some.injEq] at hz;cases hzz : it.zero with
  | none => rw [hzz] at hz; simp at hz
  | some z =>
   rw [hzz] at hz;simp only [Option.map_some, Option.some.injEq] at hz;have hp := Jic;unfold J44 at hp;rw [Tryz.underlying101] at hp;rw [J3r hi Tryz.underlying101 hzz hp];obtain ⟨c1, e1, s1, g1⟩ := J2p (fun x => [(0, 395), (395, 384)].toArray[x]?) z.cells 0 (.agg A) [(1, .agg B)] 0 395 rfl hA (by omega);obtain ⟨c2, e2, s2, g2⟩ := J2p (fun x => [(0, 395), (395, 384)].toArray[x]?) c1 1 (.agg B) [] 395 384 rfl hB (by omega);refine ⟨c2, by rw [e1, e2]; rfl, by omega, fun j hj => ?_⟩;rw [g2 j, g1 j];by_cases e : j < 395
   ·rw [if_neg (by omega), if_pos (by omega), if_pos e]; rfl
   ·rw [if_pos (by omega), if_neg e]; rfl

def zTl (sc : Value) (mb : Nat) : Tl := ⟨sc, mb, fun _ => 0, false, fun _ => 0, fun _ => 0, 0, fun _ => 0, 0⟩
def rowS (rv cv : Value) (x : Ms) (q : Tl) : Array Value := ((List.range 1578).map fun j => if j < 411 then cellF rv cv x j else tlV q j).toArray
theorem Jgi : (Tryz.prog.info? 103).map (fun i => (i.zero, i.size)) = some (some (.agg ((rowS (.slice none 0 0) (.slice none 0 0) (ms0 0) (zTl (.slice none 0 0) 0)).setIfInBounds 412 (.map none))), 1578) := by kernel_rfl

theorem Jjy (c : Array Value) (rv cv : Value) (x : Ms) (hc : MC c rv cv x) (hx : x.tl 411 = none) (sa : Option Addr) (n cap mb : Nat) :
  ∃ C, Tryz.prog.built 103 [(0, .agg c), (1, .slice sa n cap), (2, .map (some mb))] = some C /\ C.size = 1578 /\ MC C rv cv { x with T := 103, tl := tlF (zTl (.slice sa n cap) mb) } := by
 have hcs := hc.size hx;cases hi : Tryz.prog.info? 103 with
 | none => have := Jgi; rw [hi] at this; simp at this
 | some it =>
  have h0 := Jgi;rw [hi] at h0;simp only [Option.map_some, Option.some.injEq, Prod.mk.injEq] at h0;have hp := Jid;unfold J44 at hp;rw [Tryz.underlying103] at hp;rw [J3r hi Tryz.underlying103 h0.1 hp];obtain ⟨Z, hZ⟩ : ∃ Z, Z = (rowS (.slice none 0 0) (.slice none 0 0) (ms0 0) (zTl (.slice none 0 0) 0)).setIfInBounds 412 (.map none) := ⟨_, rfl⟩;have hZs : Z.size = 1578 := by rw [hZ]; simp [rowS]
  rw [<- hZ];obtain ⟨c1, e1, s1, g1⟩ := J2p (fun x => [(0, 411), (411, 1), (412, 1), (413, 384), (797, 1), (798, 779), (1577, 1)].toArray[x]?) (Value.agg Z).cells 0 (.agg c) [(1, .slice sa n cap), (2, .map (some mb))] 0 411 rfl hcs (by show _ <= Z.size; omega);obtain ⟨c2, e2, s2, g2⟩ := J2p (fun x => [(0, 411), (411, 1), (412, 1), (413, 384), (797, 1), (798, 779), (1577, 1)].toArray[x]?) c1 1 (.slice sa n cap) [(2, .map (some mb))] 411 1 rfl rfl (by rw [s1]; show _ <= Z.size; omega);obtain ⟨c3, e3, s3, g3⟩ := J2p (fun x => [(0, 411), (411, 1), (412, 1), (413, 384), (797, 1), (798, 779), (1577, 1)].toArray[x]?) c2 2 (.map (some mb)) [] 412 1 rfl rfl (by rw [s2, s1]; show _ <= Z.size; omega);have hsz : c3.size = 1578 := by rw [s3, s2, s1]; exact hZs
  refine ⟨c3, by rw [e1, e2, e3]; rfl, hsz, by omega, fun j hj => ?_, fun j hj => ?_⟩
  ·rw [g3 j, g2 j, g1 j, if_neg (by omega), if_neg (by omega), if_pos (by omega)]
   exact hc.at_ j hj
  ·show _ = tlF (zTl (.slice sa n cap) mb) j
   by_cases e : j < 1578
   ·rw [J7e _ _ e, g3 j, g2 j, g1 j]
    by_cases e411 : j = 411
    ·subst e411; rfl
    by_cases e412 : j = 412
    ·subst e412; rfl
    rw [if_neg (by omega), if_neg (by omega), if_neg (by omega)];show Z[j]? = _;rw [hZ, Array.getElem?_setIfInBounds, if_neg (by omega)];unfold rowS;simp only [List.getElem?_toArray, List.getElem?_map, List.getElem?_range e, Option.map_some];rw [if_neg (by omega)];unfold tlV zTl;simp [e411, e412]
   ·rw [Array.getElem?_eq_none (by omega)]
    unfold tlF;rw [if_neg e]
theorem J4f (w : World) (M : Nat) (rv cv : Value) (x : Ms) (q : Tl) (se : List Se) (h : RunS w M rv cv x q se) (ha : q.ahead = true) :
  Calls Tryz.prog 86 #[.pointer (some ⟨M, 0, none⟩)] w fun e w' => e = .returned (.tuple #[]) /\ w' = w := by
 have c0 := h.ahead.1;rw [ha] at c0;clear h ha;go_enter Tryz.func86, Tryz.ntmps86;go_wp2;refine bodyPost_ret (results_none (by kernel_rfl) _ _ _) rfl ?_;exact ⟨rfl, rfl⟩

theorem J6t {C : Array Value} {l : List Value} (hs : C.size = l.length) (h : ∀ j, j < l.length -> C[j]? = l[j]?) : C = l.toArray := by
 apply Array.ext_getElem?;intro j;by_cases e : j < l.length
 ·rw [h j e]; simp
 ·rw [Array.getElem?_eq_none (by omega)]
  simp
  omega
theorem Jgm (r wd : Nat -> Int) (n : Int) (f : Nat -> Int) : Tryz.prog.built 101 [(0, .agg (stL r wd n).toArray), (1, .agg (puL f).toArray)] = some (stL r wd n ++ puL f).toArray := by
 obtain ⟨C, h1, h2, h3⟩ := Jjx (stL r wd n).toArray (puL f).toArray (by simp [J0y]) (by simp [J1e]);rw [h1, J6t (C := C) (l := stL r wd n ++ puL f) (by rw [h2, List.length_append, J0y, J1e]) (fun j hj => ?_)];rw [List.length_append, J0y, J1e] at hj;rw [h3 j hj, List.getElem?_append, J0y]
 simp

theorem Ja9 (w : World) (M : Nat) (rv cv : Value) (x : Ms) (q : Tl) (se : List Se) (h : RunS w M rv cv x q se) (ha : q.ahead = false) (s0 : 0 <= x.steps) (s1 : x.steps <= 100000) :
  Calls Tryz.prog 86 #[.pointer (some ⟨M, 0, none⟩)] w fun e w' => e = .returned (.tuple #[]) /\ RunS w' M rv cv x { q with ahead := true, br := x.r, bw := x.wd, bn := x.next, bp := q.puts, til := x.steps + 12 } se /\ Below M w w' := by
 obtain ⟨c0, f0⟩ := h.ahead;rw [ha] at c0;have h1 := h.setAhead true;have hw : wrap64 (x.steps + 12) = x.steps + 12 := by unfold wrap64; omega
 have hwr := J1y;obtain ⟨A, hA⟩ : ∃ A, A = stL x.r x.wd x.next := ⟨_, rfl⟩;obtain ⟨B, hB⟩ : ∃ B, B = puL q.puts := ⟨_, rfl⟩;have hAc := h1.stateC;have hBc := h1.putsC;dsimp only at hBc;rw [<- hA] at hAc;rw [<- hB] at hBc;have hbu := Jgm x.r x.wd x.next q.puts;rw [<- hA, <- hB] at hbu;have hAl : A.length = 395 := by rw [hA, J0y]
 have hBl : B.length = 384 := by rw [hB, J1e]
 have hone : ∀ v ∈ A ++ B, v.oneCell' = true := by
  intro v hv;rw [hA, hB] at hv;rcases List.mem_append.1 hv with h2 | h2
  ·exact Jg2 _ _ _ v h2
  ·exact Jfe _ v h2
 have h2 := (h1.drew).setBack x.r x.wd x.next q.puts;rw [<- hA, <- hB] at h2;obtain ⟨w1, hw1⟩ : ∃ w1, w1 = w.setCell ⟨M, 797, none⟩ (.bool true) := ⟨_, rfl⟩;rw [<- hw1] at h1 h2 hAc hBc;obtain ⟨w2, hw2⟩ : ∃ w2, w2 = w1.drew.setCells M 798 (A ++ B) := ⟨_, rfl⟩;rw [<- hw2] at h2;have c4 := h2.run.steps.1;dsimp only at c4;obtain ⟨ct, ft⟩ := h2.til;dsimp only at ct;obtain ⟨ti, hti⟩ : ∃ ti, q.til = ti := ⟨_, rfl⟩;obtain ⟨st, hst⟩ : ∃ st, x.steps = st := ⟨_, rfl⟩;rw [hti] at ct;rw [hst] at c4 hw;have Hst : Hid (x.steps = st) := hst;have H : Hid (RunS w M rv cv x q se /\ (∀ j v, A[j]? = some v -> w1.cell? ⟨M, 7 + j, none⟩ = some v) /\ (∀ j v, B[j]? = some v -> w1.cell? ⟨M, 413 + j, none⟩ = some v) /\ A.length = 395 /\ B.length = 384 /\ (∀ v ∈ A ++ B, v.oneCell' = true) /\ RunS w1 M rv cv x { q with ahead := true } se) := ⟨h, hAc, hBc, hAl, hBl, hone, h1⟩;have H2 := J01 h2;have HW1 : Hid (w1 = w.setCell ⟨M, 797, none⟩ (.bool true)) := hw1;have HW2 : Hid (w2 = w1.drew.setCells M 798 (A ++ B)) := hw2;have HB : Hid (Tryz.prog.built 101 [(0, .agg A.toArray), (1, .agg B.toArray)] = some (A ++ B).toArray) := hbu;obtain ⟨S, HS⟩ : ∃ S : World -> Prop, Hid (∀ w', S w' ↔ ((∀ j v, A[j]? = some v -> w'.cell? ⟨M, 7 + j, none⟩ = some v) /\ (∀ j v, B[j]? = some v -> w'.cell? ⟨M, 413 + j, none⟩ = some v))) := ⟨_, fun _ => Iff.rfl⟩
 clear h h1 h2 hAc hBc hbu hA hB hone hw1 hw2 ha hti hst hAl hBl s0 s1;obtain ⟨P, hP⟩ : ∃ P, P = fun (e : Ending) (w' : World) => e = .returned (.tuple #[]) /\ RunS w' M rv cv x { q with ahead := true, br := x.r, bw := x.wd, bn := x.next, bp := q.puts, til := x.steps + 12 } se /\ Below M w w' := ⟨_, rfl⟩
 rw [<- hP];have HP : Hid (P = fun (e : Ending) (w' : World) => e = .returned (.tuple #[]) /\ RunS w' M rv cv x { q with ahead := true, br := x.r, bw := x.wd, bn := x.next, bp := q.puts, til := x.steps + 12 } se /\ Below M w w') := hP;clear hP;go_enter Tryz.func86, Tryz.ntmps86;go_wp2_with (fail)
 rw [<- HW1.out];refine J03 (S := S) [(0, true), (1, true), (2, true), (3, true), (4, true), (5, true), (6, true), (7, true), (8, true), (9, true), (10, true), (11, true), (12, true), (13, false)] (by kernel_rfl) (by kernel_rfl) (by kernel_rfl) ((HS.out _).2 ⟨H.out.2.1, H.out.2.2.1⟩) ?_;have hne : Nonempty { w' // S w' } := ⟨⟨w1, (HS.out _).2 ⟨H.out.2.1, H.out.2.2.1⟩⟩⟩
 iterate 5 (refine J00 rfl (by kernel_rfl) (fun K hK => ?_); go_simp; refine hK _ _ ?_; clear hK K)
 refine J00 rfl (by kernel_rfl) (fun K hK => ⟨.agg A.toArray, fun i => J28 91 (.tmp 13) rfl M 7 rfl A _ ((HS.out _).1 i.property).1 Tryz.underlying91 rfl (by rw [H.out.2.2.2.1]; exact Jev), ?_⟩); refine hK _ _ ?_; clear hK K
 go_simp
 iterate 3 (refine J00 rfl (by kernel_rfl) (fun K hK => ?_); go_simp; refine hK _ _ ?_; clear hK K)
 refine J00 rfl (by kernel_rfl) (fun K hK => ⟨.agg B.toArray, fun i => J28 99 (.tmp 17) rfl M 413 rfl B _ ((HS.out _).1 i.property).2 Tryz.underlying99 rfl (by rw [H.out.2.2.2.2.1]; exact Jew), ?_⟩); refine hK _ _ ?_; clear hK K
 go_simp
 refine J00 rfl (by kernel_rfl) (fun K hK => ⟨.agg (A ++ B).toArray, fun i => Jd5 101 #[(0, .tmp 14), (1, .tmp 18)] rfl _ (by simp [Act.eval]; exact HB.out), ?_⟩); refine hK _ _ ?_; clear hK K
 go_simp
 iterate 2 (refine J00 rfl (by kernel_rfl) (fun K hK => ?_); go_simp; refine hK _ _ ?_; clear hK K)
 refine J02 rfl (by kernel_rfl) (fun K hK => ?_);refine J32 101 (.tmp 21) (.tmp 19) rfl M 798 (A ++ B).toArray rfl rfl (by rw [show (A ++ B).toArray.size = 779 by simp [H.out.2.2.2.1, H.out.2.2.2.2.1]]; exact Jmf) (fun j hj => H.out.2.2.2.2.2.2.drew.any (798 + j) (by simp [H.out.2.2.2.1, H.out.2.2.2.2.1] at hj; omega)) (by simpa using H.out.2.2.2.2.2.1) ?_;have e2 : (A ++ B).toArray.toList = A ++ B := by simp
 rw [e2, <- HW2.out];clear e2;refine hK _ _ ((HS.out _).2 ⟨fun j v hv => ?_, fun j v hv => ?_⟩) ?_
 ·rw [HW2.out, World.cell?_setCells_out _ _ _ _ _ (fun _ _ => .inl (by have := (List.getElem?_eq_some_iff.1 hv).1; have := H.out.2.2.2.1; dsimp only; omega))]
  exact H.out.2.1 j v hv
 ·rw [HW2.out, World.cell?_setCells_out _ _ _ _ _ (fun _ _ => .inl (by have := (List.getElem?_eq_some_iff.1 hv).1; have := H.out.2.2.2.2.1; dsimp only; omega))]
  exact H.out.2.2.1 j v hv
 clear hK K;refine J04 ?_;clear hne
 go_simp
 go_wp2;go_end0;rw [HP.out, Hst.out];refine ⟨rfl, H2.out.setTil _, ?_⟩;rw [HW2.out, HW1.out];exact J0i (Below.grown (J0b (J0i (Below.refl _ _) _ _)) (J0w M _ _ _) (by have := H.out.1.lt; simp; omega) (fun b hb => by have := Option.some.inj hb; omega)) _ _

theorem J52 (w : World) (M : Nat) (rv cv : Value) (x : Ms) (q : Tl) (se : List Se) (h : RunS w M rv cv x q se) :
  Calls Tryz.prog 67 #[.pointer (some ⟨M, 0, none⟩)] w fun e w' => e = .returned (.tuple #[]) /\ RunS w' M rv cv { x with r := q.br, wd := q.bw, next := q.bn } { q with puts := q.bp, ahead := false } se /\ Below M w w' := by
 obtain ⟨A, hA⟩ : ∃ A, A = stL q.br q.bw q.bn := ⟨_, rfl⟩;obtain ⟨B, hB⟩ : ∃ B, B = puL q.bp := ⟨_, rfl⟩;have hAc := h.backS;have hBc := h.backP;rw [<- hA] at hAc;rw [<- hB] at hBc;have hAl : A.length = 395 := by rw [hA, J0y]
 have hBl : B.length = 384 := by rw [hB, J1e]
 have hone : (∀ v ∈ A, v.oneCell' = true) /\ (∀ v ∈ B, v.oneCell' = true) := by rw [hA, hB]; exact ⟨Jg2 _ _ _, Jfe _⟩
 have h1 := h.drew.setState q.br q.bw q.bn;have h2 := h1.setPuts q.bp;rw [<- hA] at h1 h2;rw [<- hB] at h2;obtain ⟨w1, hw1⟩ : ∃ w1, w1 = w.drew.setCells M 7 A := ⟨_, rfl⟩;rw [<- hw1] at h1 h2;obtain ⟨w2, hw2⟩ : ∃ w2, w2 = w1.setCells M 413 B := ⟨_, rfl⟩;rw [<- hw2] at h2;obtain ⟨c0, f0⟩ := h2.ahead;dsimp only at c0;obtain ⟨b, hb⟩ : ∃ b, q.ahead = b := ⟨_, rfl⟩;rw [hb] at c0;have H : Hid (RunS w M rv cv x q se /\ (∀ j v, A[j]? = some v -> w.cell? ⟨M, 798 + j, none⟩ = some v) /\ (∀ j v, B[j]? = some v -> w.cell? ⟨M, 1193 + j, none⟩ = some v) /\ A.length = 395 /\ B.length = 384 /\ ((∀ v ∈ A, v.oneCell' = true) /\ (∀ v ∈ B, v.oneCell' = true)) /\ RunS w1 M rv cv { x with r := q.br, wd := q.bw, next := q.bn } q se) := ⟨h, hAc, hBc, hAl, hBl, hone, h1⟩;have H2 := J01 h2;have HW1 : Hid (w1 = w.drew.setCells M 7 A) := hw1;have HW2 : Hid (w2 = w1.setCells M 413 B) := hw2;obtain ⟨S, HS⟩ : ∃ S : World -> Prop, Hid (∀ w', S w' ↔ ((∀ j v, A[j]? = some v -> w'.cell? ⟨M, 798 + j, none⟩ = some v) /\ (∀ j v, B[j]? = some v -> w'.cell? ⟨M, 1193 + j, none⟩ = some v))) := ⟨_, fun _ => Iff.rfl⟩;have hS0 : S w.drew := (HS.out _).2 ⟨hAc, hBc⟩
 have hS1 : S w1 := by
  refine (HS.out _).2 ⟨fun j v hv => ?_, fun j v hv => ?_⟩
  ·rw [hw1, World.cell?_setCells_out _ _ _ _ _ (fun _ _ => .inr (by dsimp only; omega))]
   exact hAc j v hv
  ·rw [hw1, World.cell?_setCells_out _ _ _ _ _ (fun _ _ => .inr (by dsimp only; omega))]
   exact hBc j v hv
 have hS2 : S w2 := by
  refine (HS.out _).2 ⟨fun j v hv => ?_, fun j v hv => ?_⟩
  ·rw [hw2, World.cell?_setCells_out _ _ _ _ _ (fun _ _ => .inr (by dsimp only; omega))]
   exact ((HS.out _).1 hS1).1 j v hv
  ·rw [hw2, World.cell?_setCells_out _ _ _ _ _ (fun _ _ => .inr (by dsimp only; omega))]
   exact ((HS.out _).1 hS1).2 j v hv
 have HSS : Hid (S w.drew /\ S w1 /\ S w2) := ⟨hS0, hS1, hS2⟩;clear h h1 h2 hAc hBc hA hB hone hw1 hw2 hb hAl hBl hS0 hS1 hS2;obtain ⟨P, hP⟩ : ∃ P, P = fun (e : Ending) (w' : World) => e = .returned (.tuple #[]) /\ RunS w' M rv cv { x with r := q.br, wd := q.bw, next := q.bn } { q with puts := q.bp, ahead := false } se /\ Below M w w' := ⟨_, rfl⟩
 rw [<- hP];have HP : Hid (P = fun (e : Ending) (w' : World) => e = .returned (.tuple #[]) /\ RunS w' M rv cv { x with r := q.br, wd := q.bw, next := q.bn } { q with puts := q.bp, ahead := false } se /\ Below M w w') := hP;clear hP;go_enter Tryz.func67, Tryz.ntmps67;go_wp2_with (fail)
 refine J03 (S := S) [(0, true), (1, true), (2, true), (3, true), (4, true), (5, true), (6, true), (7, true), (8, true), (9, true), (10, true), (11, true), (12, true), (13, true), (14, true), (15, false), (16, true), (17, true), (18, false)] (by kernel_rfl) (by kernel_rfl) (by kernel_rfl) HSS.out.1 ?_;have hne : Nonempty { w' // S w' } := ⟨⟨w1, HSS.out.2.1⟩⟩
 iterate 6 (refine J00 rfl (by kernel_rfl) (fun K hK => ?_); go_simp; refine hK _ _ ?_; clear hK K)
 refine J00 rfl (by kernel_rfl) (fun K hK => ⟨.agg A.toArray, fun i => J28 91 (.tmp 7) rfl M 798 rfl A _ ((HS.out _).1 i.property).1 Tryz.underlying91 rfl (by rw [H.out.2.2.2.1]; exact Jev), ?_⟩); refine hK _ _ ?_; clear hK K
 go_simp
 iterate 4 (refine J00 rfl (by kernel_rfl) (fun K hK => ?_); go_simp; refine hK _ _ ?_; clear hK K)
 refine J00 rfl (by kernel_rfl) (fun K hK => ⟨.agg B.toArray, fun i => J28 99 (.tmp 12) rfl M 1193 rfl B _ ((HS.out _).1 i.property).2 Tryz.underlying99 rfl (by rw [H.out.2.2.2.2.1]; exact Jew), ?_⟩); refine hK _ _ ?_; clear hK K
 go_simp
 iterate 3 (refine J00 rfl (by kernel_rfl) (fun K hK => ?_); go_simp; refine hK _ _ ?_; clear hK K)
 refine J02 rfl (by kernel_rfl) (fun K hK => ?_);refine J32 91 (.tmp 16) (.tmp 8) rfl M 7 A.toArray rfl rfl (by rw [show A.toArray.size = 395 by simp [H.out.2.2.2.1]]; exact Jev) (fun j hj => H.out.1.drew.any (7 + j) (by simp [H.out.2.2.2.1] at hj; omega)) (by simpa using H.out.2.2.2.2.2.1.1) ?_;have e2 : A.toArray.toList = A := by simp
 rw [e2, <- HW1.out];clear e2;refine hK _ _ HSS.out.2.1 ?_;clear hK K
 go_simp
 iterate 2 (refine J00 rfl (by kernel_rfl) (fun K hK => ?_); go_simp; refine hK _ _ ?_; clear hK K)
 refine J02 rfl (by kernel_rfl) (fun K hK => ?_);refine J32 99 (.tmp 18) (.tmp 13) rfl M 413 B.toArray rfl rfl (by rw [show B.toArray.size = 384 by simp [H.out.2.2.2.2.1]]; exact Jew) (fun j hj => H.out.2.2.2.2.2.2.any (413 + j) (by simp [H.out.2.2.2.2.1] at hj; omega)) (by simpa using H.out.2.2.2.2.2.1.2) ?_;have e2 : B.toArray.toList = B := by simp
 rw [e2, <- HW2.out];clear e2;refine hK _ _ HSS.out.2.2 ?_;clear hK K;refine J04 ?_;clear hne
 go_simp
 go_wp2;go_end0;rw [HP.out];refine ⟨rfl, H2.out.setAhead _, ?_⟩;rw [HW2.out, HW1.out];have hM := H.out.1.lt;exact J0i (Below.grown (Below.grown (J0b (Below.refl _ _)) (J0w M _ _ _) (by simp; omega) (fun b hb => by have := Option.some.inj hb; omega)) (J0w M _ _ _) (by have := (J0w M A 7 w.drew).size; simp at this; omega) (fun b hb => by have := Option.some.inj hb; omega)) _ _

theorem J19 (w : World) (M : Nat) (rv cv : Value) (x : Ms) (q : Tl) (se : List Se) (hl : se.length <= 200000) (h : RunS w M rv cv x q se) :
  Calls Tryz.prog 58 #[.pointer (some ⟨M, 0, none⟩)] w fun e w' => e = .returned (.tuple #[]) /\ RunS w' M rv cv { x with r := q.br, wd := q.bw, next := q.bn } { q with puts := q.bp, ahead := false } (se ++ [⟨4, 0, 0⟩]) /\ Below M w w' := by
 have H : Hid (RunS w M rv cv x q se /\ se.length <= 200000) := ⟨h, hl⟩;clear h hl;go_enter Tryz.func58, Tryz.ntmps58;go_wp2_with (fail)
 refine (J4a _ M rv cv _ se 4 0 0 H.out.2 H.out.1.run).mono ?_;rintro e w2 ⟨rfl, r2, b2, _⟩;have H2 : Hid (RunS w2 M rv cv x q (se ++ [⟨4, 0, 0⟩]) /\ Below M w w2) := ⟨⟨r2⟩, b2⟩;clear r2 b2;go_wp2_with (fail)
 refine (J52 w2 M rv cv x q _ H2.out.1).mono ?_;rintro e w3 ⟨rfl, r3, b3⟩;have H3 := J01 (And.intro r3 (Below.trans H2.out.2 b3));clear r3 b3;go_wp2;go_end0;exact ⟨rfl, H3.out.1, H3.out.2⟩
end
section
open Go.RowKit
set_option linter.unusedSimpArgs false
set_option linter.unusedVariables false
theorem Ja7 (op a b c n s t x i : Int) (w : World) (M : Nat) (hop : op = 3 \/ op = 4) (b0 : 0 <= b) (b1 : b < 10) (c0 : 0 <= c) (c1 : c < 6) (hi : wrap64 (n + x) = i)
  (hs : w.cell? ⟨M, 404 + c.toNat, none⟩ = some (V s)) (ht : w.cell? ⟨M, 404 + (c + 1).toNat, none⟩ = some (V t)) (hx : w.cell? ⟨M, 7 + b.toNat, none⟩ = some (V x)) (hM : M < w.heap.size) :
  Calls Tryz.prog 102 #[.pointer (some ⟨M, 0, none⟩), .agg #[V op, V a, V b, V c, V n]] w fun e w' =>
   e = .returned (.tuple #[V (wrap64 (i + s)), .bool (decide (0 <= i) && decide (i < wrap64 (t - s)))]) /\ More w w' := by
 have hn : ¬ M = w.heap.size := by omega
 have hn' : ¬ w.heap.size = M := by omega
 have hc1 : wrap64 (c + 1) = c + 1 := by unfold wrap64; omega
 have c2 : c + 1 < 7 := by omega
 have c3 : 0 <= c + 1 := by omega
 have c4 : c < 7 := by omega
 have hwr := J1y;by_cases h0 : 0 <= i
 ·rcases hop with rfl | rfl
  all_goals
   go_enter Tryz.func102, Tryz.ntmps102;go_wp2
   go_region
   go_wp2
   go_region
   go_wp2;go_ret2;refine ⟨by simp [h0, hi], ?_⟩;exact ((More.refl _).alloc _ _).drew.drew
 ·rcases hop with rfl | rfl
  all_goals
   go_enter Tryz.func102, Tryz.ntmps102;go_wp2
   go_region
   go_wp2
   go_region
   go_wp2;go_ret2;refine ⟨by simp [hi]; omega, ?_⟩;exact ((More.refl _).alloc _ _).drew.drew

theorem Ja6 (op a b c i s t : Int) (w : World) (M : Nat) (hop : op = 5 \/ op = 6) (c0 : 0 <= c) (c1 : c < 6)
  (hs : w.cell? ⟨M, 404 + c.toNat, none⟩ = some (V s)) (ht : w.cell? ⟨M, 404 + (c + 1).toNat, none⟩ = some (V t)) (hM : M < w.heap.size) :
  Calls Tryz.prog 102 #[.pointer (some ⟨M, 0, none⟩), .agg #[V op, V a, V b, V c, V i]] w fun e w' =>
   e = .returned (.tuple #[V (wrap64 (i + s)), .bool (decide (0 <= i) && decide (i < wrap64 (t - s)))]) /\ More w w' := by
 have hn : ¬ M = w.heap.size := by omega
 have hn' : ¬ w.heap.size = M := by omega
 have hc1 : wrap64 (c + 1) = c + 1 := by unfold wrap64; omega
 have c2 : c + 1 < 7 := by omega
 have c3 : 0 <= c + 1 := by omega
 have c4 : c < 7 := by omega
 have hwr := J1y;by_cases h0 : 0 <= i
 ·rcases hop with rfl | rfl
  all_goals
   go_enter Tryz.func102, Tryz.ntmps102;go_wp2
   go_region
   go_wp2;go_ret2;refine ⟨by simp [h0], ?_⟩;exact ((More.refl _).alloc _ _).drew
 ·rcases hop with rfl | rfl
  all_goals
   go_enter Tryz.func102, Tryz.ntmps102;go_wp2
   go_region
   go_wp2;go_ret2;refine ⟨by simp; omega, ?_⟩;exact ((More.refl _).alloc _ _).drew
end
section
open Go.RowKit
theorem op_1 (a b : Int) (w : World) :
  Calls Tryz.prog 103 #[V 1, V a, V b] w fun e w' => e = .returned (V (wrap64 (a + b))) /\ w' = w := by
 rw [<- Jj1 a b];go_enter Tryz.func103, Tryz.ntmps103;go_wp2;go_ret;exact ⟨rfl, rfl⟩

theorem op_2 (a b : Int) (w : World) :
  Calls Tryz.prog 103 #[V 2, V a, V b] w fun e w' => e = .returned (V (wrap64 (a - b))) /\ w' = w := by
 rw [<- Jj8 a b];go_enter Tryz.func103, Tryz.ntmps103;go_wp2;go_ret;exact ⟨rfl, rfl⟩

theorem op_3 (a b : Int) (w : World) :
  Calls Tryz.prog 103 #[V 3, V a, V b] w fun e w' => e = .returned (V (wrap64 (a * b))) /\ w' = w := by
 rw [<- Jj3 a b];go_enter Tryz.func103, Tryz.ntmps103;go_wp2;go_ret;exact ⟨rfl, rfl⟩

theorem op_4 (a b : Int) (w : World) :
  Calls Tryz.prog 103 #[V 4, V a, V b] w fun e w' => e = .returned (V (wrap64 ((toU a &&& toU b : Nat) : Int))) /\ w' = w := by
 rw [<- Jj2 a b];go_enter Tryz.func103, Tryz.ntmps103;go_wp2;go_ret;exact ⟨rfl, rfl⟩

theorem op_5 (a b : Int) (w : World) :
  Calls Tryz.prog 103 #[V 5, V a, V b] w fun e w' => e = .returned (V (wrap64 ((toU a ||| toU b : Nat) : Int))) /\ w' = w := by
 rw [<- Jm1 a b];go_enter Tryz.func103, Tryz.ntmps103;go_wp2;go_ret;exact ⟨rfl, rfl⟩

theorem op_6 (a b : Int) (w : World) :
  Calls Tryz.prog 103 #[V 6, V a, V b] w fun e w' => e = .returned (V (wrap64 ((toU a ^^^ toU b : Nat) : Int))) /\ w' = w := by
 rw [<- Jj9 a b];go_enter Tryz.func103, Tryz.ntmps103;go_wp2;go_ret;exact ⟨rfl, rfl⟩

theorem op_7 (a b : Int) (w : World) :
  Calls Tryz.prog 103 #[V 7, V a, V b] w fun e w' => e = .returned (V (wrap64 ((toU a * 2 ^ (toU b % 64) : Nat) : Int))) /\ w' = w := by
 have h63 := and63 b;have h0 : (0 : Int) <= ((toU b % 64 : Nat) : Int) := by omega
 have hk : min (toU b % 64) 64 = toU b % 64 := by omega
 rw [<- Jj6 a _];go_enter Tryz.func103, Tryz.ntmps103;go_wp2;go_ret;exact ⟨rfl, rfl⟩

theorem op_8 (a b : Int) (w : World) :
  Calls Tryz.prog 103 #[V 8, V a, V b] w fun e w' => e = .returned (V (wrap64 ((toU a / 2 ^ (toU b % 64) : Nat) : Int))) /\ w' = w := by
 have h63 := and63 b;have h0 : (0 : Int) <= ((toU b % 64 : Nat) : Int) := by omega
 have hk : min (toU b % 64) 64 = toU b % 64 := by omega
 rw [<- Jj7 a _];go_enter Tryz.func103, Tryz.ntmps103;go_wp2;go_ret;exact ⟨rfl, rfl⟩

theorem Jf9 (a b : Int) (w : World) (hy : toU b = 0) :
  Calls Tryz.prog 103 #[V 9, V a, V b] w fun e w' => e = .returned (V (wrap64 ((toU a / toU b : Nat) : Int))) /\ w' = w := by
 have hy' : (IntKind.u64.wrap b == 0) = true := by rw [uwrap, hy]; rfl
 rw [<- Jig a b hy];go_enter Tryz.func103, Tryz.ntmps103;go_wp2;go_ret;exact ⟨rfl, rfl⟩

theorem Jf8 (a b : Int) (w : World) (hy : toU b ≠ 0) :
  Calls Tryz.prog 103 #[V 9, V a, V b] w fun e w' => e = .returned (V (wrap64 ((toU a / toU b : Nat) : Int))) /\ w' = w := by
 have hy' : (IntKind.u64.wrap b == 0) = false := by rw [uwrap]; simp [hy]
 have hy2 : ¬ IntKind.u64.wrap b = 0 := by rw [uwrap]; omega
 rw [<- Jj4 a b];go_enter Tryz.func103, Tryz.ntmps103;go_wp2;go_ret;exact ⟨rfl, rfl⟩

theorem Jds (a b : Int) (w : World) (hy : toU b = 0) :
  Calls Tryz.prog 103 #[V 10, V a, V b] w fun e w' => e = .returned (V (wrap64 ((toU a % toU b : Nat) : Int))) /\ w' = w := by
 have hy' : (IntKind.u64.wrap b == 0) = true := by rw [uwrap, hy]; rfl
 rw [<- Jil a b hy];go_enter Tryz.func103, Tryz.ntmps103;go_wp2;go_ret;exact ⟨rfl, rfl⟩

theorem Jdr (a b : Int) (w : World) (hy : toU b ≠ 0) :
  Calls Tryz.prog 103 #[V 10, V a, V b] w fun e w' => e = .returned (V (wrap64 ((toU a % toU b : Nat) : Int))) /\ w' = w := by
 have hy' : (IntKind.u64.wrap b == 0) = false := by rw [uwrap]; simp [hy]
 have hy2 : ¬ IntKind.u64.wrap b = 0 := by rw [uwrap]; omega
 rw [<- Jj5 a b];go_enter Tryz.func103, Tryz.ntmps103;go_wp2;go_ret;exact ⟨rfl, rfl⟩

theorem Jib (op a b : Int) (w : World) (h : op < 1 \/ 10 < op) :
  Calls Tryz.prog 103 #[V op, V a, V b] w fun e w' => e = .returned (V 0) /\ w' = w := by
 have e1 : (op == 1) = false := by simp; omega
 have e2 : (op == 2) = false := by simp; omega
 have e3 : (op == 3) = false := by simp; omega
 have e4 : (op == 4) = false := by simp; omega
 have e5 : (op == 5) = false := by simp; omega
 have e6 : (op == 6) = false := by simp; omega
 have e7 : (op == 7) = false := by simp; omega
 have e8 : (op == 8) = false := by simp; omega
 have e9 : (op == 9) = false := by simp; omega
 have e10 : (op == 10) = false := by simp; omega
 clear h;go_enter Tryz.func103, Tryz.ntmps103;go_wp2;go_ret;exact ⟨rfl, rfl⟩

theorem Jay (a b : Int) (w : World) (h : (IntKind.u64.wrap a == IntKind.u64.wrap b) = true) :
  Calls Tryz.prog 101 #[V 1, V a, V b] w fun e w' => e = .returned (.bool true) /\ w' = w.alloc (.cells #[V 1] 3) := by
 go_enter Tryz.func101, Tryz.ntmps101;go_wp2;go_ret;exact ⟨rfl, rfl⟩

theorem Jd9 (a b : Int) (w : World) (h : (IntKind.u64.wrap a == IntKind.u64.wrap b) = false) :
  Calls Tryz.prog 101 #[V 1, V a, V b] w fun e w' => e = .returned (.bool false) /\ w' = w.alloc (.cells #[V 1] 3) := by
 go_enter Tryz.func101, Tryz.ntmps101;go_wp2;go_ret;exact ⟨rfl, rfl⟩

theorem Jaz (a b : Int) (w : World) (h : (IntKind.u64.wrap a != IntKind.u64.wrap b) = true) :
  Calls Tryz.prog 101 #[V 2, V a, V b] w fun e w' => e = .returned (.bool true) /\ w' = w.alloc (.cells #[V 2] 3) := by
 go_enter Tryz.func101, Tryz.ntmps101;go_wp2;go_ret;exact ⟨rfl, rfl⟩

theorem Jda (a b : Int) (w : World) (h : (IntKind.u64.wrap a != IntKind.u64.wrap b) = false) :
  Calls Tryz.prog 101 #[V 2, V a, V b] w fun e w' => e = .returned (.bool false) /\ w' = w.alloc (.cells #[V 2] 3) := by
 go_enter Tryz.func101, Tryz.ntmps101;go_wp2;go_ret;exact ⟨rfl, rfl⟩

theorem Jb0 (a b : Int) (w : World) (h : decide (IntKind.u64.wrap a < IntKind.u64.wrap b) = true) :
  Calls Tryz.prog 101 #[V 3, V a, V b] w fun e w' => e = .returned (.bool true) /\ w' = w.alloc (.cells #[V 3] 3) := by
 go_enter Tryz.func101, Tryz.ntmps101;go_wp2;go_ret;exact ⟨rfl, rfl⟩

theorem Jdb (a b : Int) (w : World) (h : decide (IntKind.u64.wrap a < IntKind.u64.wrap b) = false) :
  Calls Tryz.prog 101 #[V 3, V a, V b] w fun e w' => e = .returned (.bool false) /\ w' = w.alloc (.cells #[V 3] 3) := by
 go_enter Tryz.func101, Tryz.ntmps101;go_wp2;go_ret;exact ⟨rfl, rfl⟩

theorem Jb1 (a b : Int) (w : World) (h : decide (IntKind.u64.wrap b <= IntKind.u64.wrap a) = true) :
  Calls Tryz.prog 101 #[V 4, V a, V b] w fun e w' => e = .returned (.bool true) /\ w' = w.alloc (.cells #[V 4] 3) := by
 go_enter Tryz.func101, Tryz.ntmps101;go_wp2;go_ret;exact ⟨rfl, rfl⟩

theorem Jdc (a b : Int) (w : World) (h : decide (IntKind.u64.wrap b <= IntKind.u64.wrap a) = false) :
  Calls Tryz.prog 101 #[V 4, V a, V b] w fun e w' => e = .returned (.bool false) /\ w' = w.alloc (.cells #[V 4] 3) := by
 go_enter Tryz.func101, Tryz.ntmps101;go_wp2;go_ret;exact ⟨rfl, rfl⟩

theorem Jb3 (c a b : Int) (w : World) (h1 : (c == 1) = false) (h2 : (c == 2) = false) (h3 : (c == 3) = false) (h4 : (c == 4) = false) :
  Calls Tryz.prog 101 #[V c, V a, V b] w fun e w' => e = .returned (.bool false) /\ w' = w.alloc (.cells #[V c] 3) := by
 go_enter Tryz.func101, Tryz.ntmps101;go_wp2;go_ret;exact ⟨rfl, rfl⟩
theorem J8q (op a b : Int) (w : World) :
  Calls Tryz.prog 103 #[V op, V a, V b] w fun e w' => e = .returned (V (opI op a b)) /\ w' = w := by
 by_cases h : op < 1 \/ 10 < op
 ·rw [show opI op a b = 0 by unfold opI; rw [if_neg (by omega), if_neg (by omega), if_neg (by omega), if_neg (by omega), if_neg (by omega), if_neg (by omega), if_neg (by omega), if_neg (by omega), if_neg (by omega), if_neg (by omega)]]
  exact Jib op a b w h
 have hs : op = 1 \/ op = 2 \/ op = 3 \/ op = 4 \/ op = 5 \/ op = 6 \/ op = 7 \/ op = 8 \/ op = 9 \/ op = 10 := by omega
 rcases hs with rfl | rfl | rfl | rfl | rfl | rfl | rfl | rfl | rfl | rfl
 ·rw [opI_1]; exact op_1 a b w
 ·rw [opI_2]; exact op_2 a b w
 ·rw [opI_3]; exact op_3 a b w
 ·rw [opI_4]; exact op_4 a b w
 ·rw [opI_5]; exact op_5 a b w
 ·rw [opI_6]; exact op_6 a b w
 ·rw [opI_7]; exact op_7 a b w
 ·rw [opI_8]; exact op_8 a b w
 ·rw [opI_9]
  by_cases hy : toU b = 0
  ·exact Jf9 a b w hy
  ·exact Jf8 a b w hy
 ·rw [Jjp]
  by_cases hy : toU b = 0
  ·exact Jds a b w hy
  ·exact Jdr a b w hy

theorem Jb2 (c a b : Int) (w : World) :
  Calls Tryz.prog 101 #[V c, V a, V b] w fun e w' => e = .returned (.bool (J0u c a b)) /\ w' = w.alloc (.cells #[V c] 3) := by
 by_cases h1 : c = 1
 ·subst h1
  rw [Jhe];cases h : (IntKind.u64.wrap a == IntKind.u64.wrap b)
  ·exact Jd9 a b w h
  ·exact Jay a b w h
 by_cases h2 : c = 2
 ·subst h2
  rw [Jhf];cases h : (IntKind.u64.wrap a != IntKind.u64.wrap b)
  ·exact Jda a b w h
  ·exact Jaz a b w h
 by_cases h3 : c = 3
 ·subst h3
  rw [Jhg];cases h : decide (IntKind.u64.wrap a < IntKind.u64.wrap b)
  ·exact Jdb a b w h
  ·exact Jb0 a b w h
 by_cases h4 : c = 4
 ·subst h4
  rw [Jhh];cases h : decide (IntKind.u64.wrap b <= IntKind.u64.wrap a)
  ·exact Jdc a b w h
  ·exact Jb1 a b w h
 rw [show J0u c a b = false by simp [J0u, *]];exact Jb3 c a b w (by simp [h1]) (by simp [h2]) (by simp [h3]) (by simp [h4])
end
section
open Go.RowKit
set_option linter.unusedSimpArgs false
set_option linter.unusedVariables false
theorem seq_holds (op a b c n x y : Int) (w : World) (M : Nat) (a0 : 0 <= a) (a1 : a < 10) (b0 : 0 <= b) (b1 : b < 10)
  (hx : w.cell? ⟨M, 7 + a.toNat, none⟩ = some (V x)) (hy : w.cell? ⟨M, 7 + b.toNat, none⟩ = some (V y)) (hM : M < w.heap.size) :
  Calls Tryz.prog 84 #[.pointer (some ⟨M, 0, none⟩), .agg #[V op, V a, V b, V c, V n]] w fun e w' => e = .returned (.bool (J0u c x y)) /\ More w w' := by
 have hn : ¬ M = w.heap.size := by omega
 have hn' : ¬ w.heap.size = M := by omega
 have Hh : Hid (∀ w : World, Calls Tryz.prog 101 #[V c, V x, V y] w fun e w' => e = .returned (.bool (J0u c x y)) /\ More w w') := fun w => (Jb2 c x y w).mono (by rintro e w' ⟨rfl, rfl⟩; exact ⟨rfl, (More.refl _).alloc _ _⟩)
 obtain ⟨h, hh⟩ : ∃ h, J0u c x y = h := ⟨_, rfl⟩;rw [hh] at Hh |-;clear hh;obtain ⟨S, HS⟩ : ∃ S : World -> Prop, Hid (∀ w', S w' ↔ More (w.alloc (.cells #[V op, V a, V b, V c, V n] 42)) w') := ⟨_, fun _ => Iff.rfl⟩;have k1 : ∀ i : { w' // S w' }, i.val.cell? ⟨w.heap.size, 1, none⟩ = some (V a) := fun i => ((HS.out _).1 i.property).cell (by go_simp)
 have k2 : ∀ i : { w' // S w' }, i.val.cell? ⟨w.heap.size, 2, none⟩ = some (V b) := fun i => ((HS.out _).1 i.property).cell (by go_simp)
 have k3 : ∀ i : { w' // S w' }, i.val.cell? ⟨w.heap.size, 3, none⟩ = some (V c) := fun i => ((HS.out _).1 i.property).cell (by go_simp)
 have ka : ∀ i : { w' // S w' }, i.val.cell? ⟨M, 7 + a.toNat, none⟩ = some (V x) := fun i => ((HS.out _).1 i.property).cell (by go_simp)
 have kb : ∀ i : { w' // S w' }, i.val.cell? ⟨M, 7 + b.toNat, none⟩ = some (V y) := fun i => ((HS.out _).1 i.property).cell (by go_simp)
 have hne : Nonempty { w' // S w' } := ⟨⟨_, (HS.out _).2 (More.refl _)⟩⟩;go_enter Tryz.func84, Tryz.ntmps84;go_wp2_with (fail)
 refine J03 (S := S) [(0, true), (1, true), (2, true), (3, true), (4, true), (5, true), (6, true), (7, true), (8, true), (9, true), (10, true), (11, true), (12, true), (13, true), (14, true), (15, true), (16, true), (17, true), (18, false), (19, true)] (by kernel_rfl) (by kernel_rfl) (by kernel_rfl) ((HS.out _).2 (More.refl _).drew) ?_
 iterate 18 (refine J00 rfl (by kernel_rfl) (fun K hK => ?_); go_simp; refine hK _ _ ?_; clear hK K)
 refine J02 rfl (by kernel_rfl) (fun K hK => ?_); go_simp;refine (Hh.out _).mono ?_;rintro e w5 ⟨rfl, m5⟩;have Hm5 : Hid (More (w.alloc (.cells #[V op, V a, V b, V c, V n] 42)) w5) := (More.refl _).drew.trans m5;clear m5
 go_simp
 refine hK _ _ ((HS.out _).2 Hm5.out) ?_; clear hK K;refine J00 rfl (by kernel_rfl) (fun K hK => ?_); go_simp; refine hK _ _ ?_; clear hK K;refine J04 ?_;clear k1 k2 k3 ka kb hne;go_wp2;go_ret;exact ⟨rfl, ((More.refl _).alloc _ _).trans Hm5.out⟩

theorem J7s (op a b c n : Int) (w : World) (M : Nat) (rv cv : Value) (x : Ms) (se : List Se) (h : Run w M rv cv x se) (o0 : 21 <= op) (o1 : op <= 30) (h9 : ¬ op = 29) (h10 : ¬ op = 30) (a0 : 0 <= a) (a1 : a < 10) (b0 : 0 <= b) (b1 : b < 10) (c0 : 0 <= c) (c1 : c < 10) :
  Calls Tryz.prog 91 #[.pointer (some ⟨M, 0, none⟩), .agg #[V op, V a, V b, V c, V n]] w fun e w' =>
   e = .returned (.tuple #[]) /\ Run w' M rv cv { x with r := setR x.r a (opI (op - 20) (x.r b.toNat) (x.r c.toNat)) } se /\ Below M w w' := by
 have hM := h.lt;have hn : ¬ M = w.heap.size := by omega
 have hn' : ¬ w.heap.size = M := by omega
 have hw : wrap64 (op - 20) = op - 20 := by unfold wrap64; omega
 have hwr := J1y;have t9 : (op - 20 == 9) = false := by simp; omega
 have t10 : (op - 20 == 10) = false := by simp; omega
 have t9' : ¬ op - 20 = 9 := by omega
 have t10' : ¬ op - 20 = 10 := by omega
 obtain ⟨ya, fa⟩ := h.r a.toNat (by omega);have yb := (h.r b.toNat (by omega)).1;have yc := (h.r c.toNat (by omega)).1;obtain ⟨y, hy⟩ : ∃ y, x.r b.toNat = y := ⟨_, rfl⟩;obtain ⟨z, hz⟩ : ∃ z, x.r c.toNat = z := ⟨_, rfl⟩;rw [hy] at yb |-;rw [hz] at yc |-;have Hh : Hid (∀ w : World, Calls Tryz.prog 103 #[V (op - 20), V y, V z] w fun e w' => e = .returned (V (opI (op - 20) y z)) /\ w' = w) := fun w => J8q _ _ _ w
 obtain ⟨q, hq⟩ : ∃ q, opI (op - 20) y z = q := ⟨_, rfl⟩;rw [hq] at Hh |-;have H : Hid (Run w M rv cv x se) := h;have Ha : Hid (a.toNat < 10) := (by omega : a.toNat < 10);clear hq hy hz h;obtain ⟨S, HS⟩ : ∃ S : World -> Prop, Hid (∀ w', S w' ↔ w'.cell? ⟨w.heap.size, 1, none⟩ = some (V a)) := ⟨_, fun _ => Iff.rfl⟩;have k1 : ∀ i : { w' // S w' }, i.val.cell? ⟨w.heap.size, 1, none⟩ = some (V a) := fun i => (HS.out _).1 i.property
 have hne : Nonempty { w' // S w' } := ⟨⟨w.alloc (.cells #[V op, V a, V b, V c, V n] 42), (HS.out _).2 (by go_simp)⟩⟩;go_enter Tryz.func91, Tryz.ntmps91;go_wp2
 go_region
 go_wp2_with (fail)
 refine J03 (S := S) [(0, true), (1, true), (2, true), (3, true), (4, true), (5, true), (7, true), (8, true), (9, true), (6, false), (10, true), (11, false)] (by kernel_rfl) (by kernel_rfl) (by kernel_rfl) ?_ ?_
 ·exact (HS.out _).2 (by go_simp)
 iterate 9 (refine J00 rfl (by kernel_rfl) (fun K hK => ?_); go_simp; refine hK _ _ ?_; clear hK K)
 refine J02 rfl (by kernel_rfl) (fun K hK => ?_); go_simp;refine (Hh.out _).mono ?_;rintro e w5 ⟨rfl, rfl⟩
 go_simp
 refine hK _ _ ((HS.out _).2 (by go_simp)) ?_; clear hK K;refine J00 rfl (by kernel_rfl) (fun K hK => ?_); go_simp; refine hK _ _ ?_; clear hK K;refine J02 rfl (by kernel_rfl) (fun K hK => ?_); go_simp;refine hK _ _ ((HS.out _).2 (by go_simp)) ?_; clear hK K;refine J04 ?_;clear k1 hne;go_wp2;go_end0;exact ⟨rfl, ((((H.out.setR a.toNat Ha.out q).alloc _).drew).drew), J0b (J0b (J07 (J0i (Below.refl _ _) _ _) (by have := H.out.lt; simp; omega) _))⟩

theorem J7q (a b c n : Int) (w : World) (M : Nat) (rv cv : Value) (x : Ms) (se : List Se) (h : Run w M rv cv x se) (hl : se.length <= 200000) (a0 : 0 <= a) (a1 : a < 10) (b0 : 0 <= b) (b1 : b < 10) (c0 : 0 <= c) (c1 : c < 10) :
  Calls Tryz.prog 91 #[.pointer (some ⟨M, 0, none⟩), .agg #[V 29, V a, V b, V c, V n]] w fun e w' =>
   e = .returned (.tuple #[]) /\ Run w' M rv cv { x with r := setR x.r a (opI (29 - 20) (x.r b.toNat) (x.r c.toNat)) } (se ++ [⟨3, x.r b.toNat, x.r c.toNat⟩]) /\ Below M w w' := by
 have hM := h.lt;have hn : ¬ M = w.heap.size := by omega
 have hn' : ¬ w.heap.size = M := by omega
 have hwr := J1y;have yb := (h.r b.toNat (by omega)).1;have yc := (h.r c.toNat (by omega)).1;obtain ⟨y, hy⟩ : ∃ y, x.r b.toNat = y := ⟨_, rfl⟩;obtain ⟨z, hz⟩ : ∃ z, x.r c.toNat = z := ⟨_, rfl⟩;rw [hy] at yb |-;rw [hz] at yc |-;have Hl : Hid (se.length <= 200000) := hl;have H : Hid (Run w M rv cv x se) := h;have Ha : Hid (a.toNat < 10) := (by omega : a.toNat < 10);have w9 : wrap64 9 = 9 := by unfold wrap64; omega
 have w10 : wrap64 10 = 10 := by unfold wrap64; omega
 have Hh : Hid (∀ w : World, Calls Tryz.prog 103 #[V 9, V y, V z] w fun e w' => e = .returned (V (opI (29 - 20) y z)) /\ w' = w) := fun w => J8q _ _ _ w
 obtain ⟨q, hq⟩ : ∃ q, opI (29 - 20) y z = q := ⟨_, rfl⟩;rw [hq] at Hh |-;clear hq hy hz h hl;go_enter Tryz.func91, Tryz.ntmps91;go_wp2
 go_region
 go_wp2_with (fail)
 refine (J4a _ M rv cv x se 3 y z Hl.out (H.out.alloc _).drew).mono ?_;rintro e w2 ⟨rfl, r2, b2, kp⟩;have kb := kp w.heap.size (by simp) (by omega) (fun sv hsv => H.out.notOwn w.heap.size (Nat.le_refl _) sv (by rw [<- hsv]; exact (World.cell?_of_block ((World.grownBy_alloc w _ none).block M hM (by simp))).symm));have q1 : w2.cell? ⟨w.heap.size, 1, none⟩ = some (V a) := by rw [World.cell?_of_block kb.1]; go_simp
 have H2 : Hid (Run w2 M rv cv x (se ++ [⟨3, y, z⟩]) /\ Below M (w.alloc (.cells #[V 29, V a, V b, V c, V n] 42)).drew w2) := ⟨r2, b2⟩;obtain ⟨ya, fa⟩ := r2.r a.toNat Ha.out;clear r2 b2 kp kb;obtain ⟨S, HS⟩ : ∃ S : World -> Prop, Hid (∀ w', S w' ↔ w'.cell? ⟨w.heap.size, 1, none⟩ = some (V a)) := ⟨_, fun _ => Iff.rfl⟩;have k1 : ∀ i : { w' // S w' }, i.val.cell? ⟨w.heap.size, 1, none⟩ = some (V a) := fun i => (HS.out _).1 i.property
 have hne : Nonempty { w' // S w' } := ⟨⟨w2, (HS.out _).2 q1⟩⟩;go_wp2_with (fail)
 refine J03 (S := S) [(0, true), (1, true), (2, true), (3, true), (4, true), (5, true), (7, true), (8, true), (9, true), (6, false), (10, true), (11, false)] (by kernel_rfl) (by kernel_rfl) (by kernel_rfl) ?_ ?_
 ·exact (HS.out _).2 (by go_simp)
 iterate 9 (refine J00 rfl (by kernel_rfl) (fun K hK => ?_); go_simp; refine hK _ _ ?_; clear hK K)
 refine J02 rfl (by kernel_rfl) (fun K hK => ?_); go_simp;refine (Hh.out _).mono ?_;rintro e w5 ⟨rfl, rfl⟩
 go_simp
 refine hK _ _ ((HS.out _).2 (by go_simp)) ?_; clear hK K;refine J00 rfl (by kernel_rfl) (fun K hK => ?_); go_simp; refine hK _ _ ?_; clear hK K;refine J02 rfl (by kernel_rfl) (fun K hK => ?_); go_simp;refine hK _ _ ((HS.out _).2 (by go_simp)) ?_; clear hK K;refine J04 ?_;clear k1 hne;go_wp2;go_end0;exact ⟨rfl, (H2.out.1.drew.setR a.toNat Ha.out q), J0i (J0b (Below.trans (J0b (J07 (Below.refl _ _) (Nat.le_of_lt H.out.lt) _)) H2.out.2)) _ _⟩

theorem J7r (a b c n : Int) (w : World) (M : Nat) (rv cv : Value) (x : Ms) (se : List Se) (h : Run w M rv cv x se) (hl : se.length <= 200000) (a0 : 0 <= a) (a1 : a < 10) (b0 : 0 <= b) (b1 : b < 10) (c0 : 0 <= c) (c1 : c < 10) :
  Calls Tryz.prog 91 #[.pointer (some ⟨M, 0, none⟩), .agg #[V 30, V a, V b, V c, V n]] w fun e w' =>
   e = .returned (.tuple #[]) /\ Run w' M rv cv { x with r := setR x.r a (opI (30 - 20) (x.r b.toNat) (x.r c.toNat)) } (se ++ [⟨3, x.r b.toNat, x.r c.toNat⟩]) /\ Below M w w' := by
 have hM := h.lt;have hn : ¬ M = w.heap.size := by omega
 have hn' : ¬ w.heap.size = M := by omega
 have hwr := J1y;have yb := (h.r b.toNat (by omega)).1;have yc := (h.r c.toNat (by omega)).1;obtain ⟨y, hy⟩ : ∃ y, x.r b.toNat = y := ⟨_, rfl⟩;obtain ⟨z, hz⟩ : ∃ z, x.r c.toNat = z := ⟨_, rfl⟩;rw [hy] at yb |-;rw [hz] at yc |-;have Hl : Hid (se.length <= 200000) := hl;have H : Hid (Run w M rv cv x se) := h;have Ha : Hid (a.toNat < 10) := (by omega : a.toNat < 10);have w9 : wrap64 9 = 9 := by unfold wrap64; omega
 have w10 : wrap64 10 = 10 := by unfold wrap64; omega
 have Hh : Hid (∀ w : World, Calls Tryz.prog 103 #[V 10, V y, V z] w fun e w' => e = .returned (V (opI (30 - 20) y z)) /\ w' = w) := fun w => J8q _ _ _ w
 obtain ⟨q, hq⟩ : ∃ q, opI (30 - 20) y z = q := ⟨_, rfl⟩;rw [hq] at Hh |-;clear hq hy hz h hl;go_enter Tryz.func91, Tryz.ntmps91;go_wp2
 go_region
 go_wp2_with (fail)
 refine (J4a _ M rv cv x se 3 y z Hl.out (H.out.alloc _).drew).mono ?_;rintro e w2 ⟨rfl, r2, b2, kp⟩;have kb := kp w.heap.size (by simp) (by omega) (fun sv hsv => H.out.notOwn w.heap.size (Nat.le_refl _) sv (by rw [<- hsv]; exact (World.cell?_of_block ((World.grownBy_alloc w _ none).block M hM (by simp))).symm));have q1 : w2.cell? ⟨w.heap.size, 1, none⟩ = some (V a) := by rw [World.cell?_of_block kb.1]; go_simp
 have H2 : Hid (Run w2 M rv cv x (se ++ [⟨3, y, z⟩]) /\ Below M (w.alloc (.cells #[V 30, V a, V b, V c, V n] 42)).drew w2) := ⟨r2, b2⟩;obtain ⟨ya, fa⟩ := r2.r a.toNat Ha.out;clear r2 b2 kp kb;obtain ⟨S, HS⟩ : ∃ S : World -> Prop, Hid (∀ w', S w' ↔ w'.cell? ⟨w.heap.size, 1, none⟩ = some (V a)) := ⟨_, fun _ => Iff.rfl⟩;have k1 : ∀ i : { w' // S w' }, i.val.cell? ⟨w.heap.size, 1, none⟩ = some (V a) := fun i => (HS.out _).1 i.property
 have hne : Nonempty { w' // S w' } := ⟨⟨w2, (HS.out _).2 q1⟩⟩;go_wp2_with (fail)
 refine J03 (S := S) [(0, true), (1, true), (2, true), (3, true), (4, true), (5, true), (7, true), (8, true), (9, true), (6, false), (10, true), (11, false)] (by kernel_rfl) (by kernel_rfl) (by kernel_rfl) ?_ ?_
 ·exact (HS.out _).2 (by go_simp)
 iterate 9 (refine J00 rfl (by kernel_rfl) (fun K hK => ?_); go_simp; refine hK _ _ ?_; clear hK K)
 refine J02 rfl (by kernel_rfl) (fun K hK => ?_); go_simp;refine (Hh.out _).mono ?_;rintro e w5 ⟨rfl, rfl⟩
 go_simp
 refine hK _ _ ((HS.out _).2 (by go_simp)) ?_; clear hK K;refine J00 rfl (by kernel_rfl) (fun K hK => ?_); go_simp; refine hK _ _ ?_; clear hK K;refine J02 rfl (by kernel_rfl) (fun K hK => ?_); go_simp;refine hK _ _ ((HS.out _).2 (by go_simp)) ?_; clear hK K;refine J04 ?_;clear k1 hne;go_wp2;go_end0;exact ⟨rfl, (H2.out.1.drew.setR a.toNat Ha.out q), J0i (J0b (Below.trans (J0b (J07 (Below.refl _ _) (Nat.le_of_lt H.out.lt) _)) H2.out.2)) _ _⟩
end
section
open Go.RowKit
set_option linter.unusedSimpArgs false
set_option linter.unusedVariables false
set_option maxRecDepth 8000
theorem do_1 (a b c n : Int) (w : World) (M : Nat) (rv cv : Value) (x : Ms) (se : List Se) (h : Run w M rv cv x se) (a0 : 0 <= a) (a1 : a < 10)  :
  Calls Tryz.prog 65 #[.pointer (some ⟨M, 0, none⟩), .agg #[V 1, V a, V b, V c, V n]] w fun e w' => e = .returned (.tuple #[]) /\ Run w' M rv cv { x with r := setR x.r a n } se /\ Below M w w' := by
 have hM := h.lt;have hn : ¬ M = w.heap.size := by omega
 have hn' : ¬ w.heap.size = M := by omega
 have hwr := J1y;have H : Hid (Run w M rv cv x se) := h;have Ha : Hid (a.toNat < 10) := (by omega : a.toNat < 10);obtain ⟨ya, fa⟩ := h.r a.toNat (by omega);clear h;go_enter Tryz.func65, Tryz.ntmps65;go_wp2
 go_region
 go_wp2;go_end0;exact ⟨rfl, (((H.out.setR a.toNat Ha.out n).alloc _).drew), J0b (J07 (J0i (Below.refl _ _) _ _) (by have := H.out.lt; simp; omega) _)⟩

theorem do_12 (a b c n : Int) (w : World) (M : Nat) (rv cv : Value) (x : Ms) (se : List Se) (h : Run w M rv cv x se) (a0 : 0 <= a) (a1 : a < 10)  :
  Calls Tryz.prog 65 #[.pointer (some ⟨M, 0, none⟩), .agg #[V 12, V a, V b, V c, V n]] w fun e w' => e = .returned (.tuple #[]) /\ Run w' M rv cv x se /\ Below M w w' := by
 have hM := h.lt;have hn : ¬ M = w.heap.size := by omega
 have hn' : ¬ w.heap.size = M := by omega
 have hwr := J1y;have H : Hid (Run w M rv cv x se) := h;have Ha : Hid (a.toNat < 10) := (by omega : a.toNat < 10);clear h;go_enter Tryz.func65, Tryz.ntmps65;go_wp2
 go_region
 go_wp2;go_end0;exact ⟨rfl, ((H.out.alloc _).drew), J0b (J07 (Below.refl _ _) (Nat.le_of_lt H.out.lt) _)⟩

theorem do_7 (a b c n : Int) (w : World) (M : Nat) (rv cv : Value) (x : Ms) (se : List Se) (h : Run w M rv cv x se) (a0 : 0 <= a) (a1 : a < 10)  :
  Calls Tryz.prog 65 #[.pointer (some ⟨M, 0, none⟩), .agg #[V 7, V a, V b, V c, V n]] w fun e w' => e = .returned (.tuple #[]) /\ Run w' M rv cv { x with next := n } se /\ Below M w w' := by
 have hM := h.lt;have hn : ¬ M = w.heap.size := by omega
 have hn' : ¬ w.heap.size = M := by omega
 have hwr := J1y;have H : Hid (Run w M rv cv x se) := h;have Ha : Hid (a.toNat < 10) := (by omega : a.toNat < 10);obtain ⟨ya, fa⟩ := h.next;clear h;go_enter Tryz.func65, Tryz.ntmps65;go_wp2
 go_region
 go_wp2;go_end0;exact ⟨rfl, (((H.out.setNext n).alloc _).drew), J0b (J07 (J0i (Below.refl _ _) _ _) (by have := H.out.lt; simp; omega) _)⟩

theorem do_2 (a b c n : Int) (w : World) (M : Nat) (rv cv : Value) (x : Ms) (se : List Se) (h : Run w M rv cv x se) (a0 : 0 <= a) (a1 : a < 10) (b0 : 0 <= b) (b1 : b < 10) :
  Calls Tryz.prog 65 #[.pointer (some ⟨M, 0, none⟩), .agg #[V 2, V a, V b, V c, V n]] w fun e w' => e = .returned (.tuple #[]) /\ Run w' M rv cv { x with r := setR x.r a (x.r b.toNat) } se /\ Below M w w' := by
 have hM := h.lt;have hn : ¬ M = w.heap.size := by omega
 have hn' : ¬ w.heap.size = M := by omega
 have hwr := J1y;have H : Hid (Run w M rv cv x se) := h;have Ha : Hid (a.toNat < 10) := (by omega : a.toNat < 10);obtain ⟨ya, fa⟩ := h.r a.toNat (by omega);have yb := (h.r b.toNat (by omega)).1;obtain ⟨y, hy⟩ : ∃ y, x.r b.toNat = y := ⟨_, rfl⟩;rw [hy] at yb |-;clear h hy;go_enter Tryz.func65, Tryz.ntmps65;go_wp2
 go_region
 go_wp2_with (fail)
 go_region
 go_wp2;go_end0;exact ⟨rfl, (((H.out.setR a.toNat Ha.out y).alloc _).drew.drew), J0b (J0b (J07 (J0i (Below.refl _ _) _ _) (by have := H.out.lt; simp; omega) _))⟩

theorem do_10 (a b c n : Int) (w : World) (M : Nat) (rv cv : Value) (x : Ms) (se : List Se) (h : Run w M rv cv x se) (a0 : 0 <= a) (a1 : a < 10) (b0 : 0 <= b) (b1 : b < 10) :
  Calls Tryz.prog 65 #[.pointer (some ⟨M, 0, none⟩), .agg #[V 10, V a, V b, V c, V n]] w fun e w' => e = .returned (.tuple #[]) /\ Run w' M rv cv { x with r := setR x.r a (wrap64 (x.r b.toNat + n)) } se /\ Below M w w' := by
 have hM := h.lt;have hn : ¬ M = w.heap.size := by omega
 have hn' : ¬ w.heap.size = M := by omega
 have hwr := J1y;have H : Hid (Run w M rv cv x se) := h;have Ha : Hid (a.toNat < 10) := (by omega : a.toNat < 10);obtain ⟨ya, fa⟩ := h.r a.toNat (by omega);have yb := (h.r b.toNat (by omega)).1;obtain ⟨y, hy⟩ : ∃ y, x.r b.toNat = y := ⟨_, rfl⟩;rw [hy] at yb |-;clear h hy;go_enter Tryz.func65, Tryz.ntmps65;go_wp2
 go_region
 go_wp2_with (fail)
 go_region
 go_wp2;go_end0;exact ⟨rfl, (((H.out.setR a.toNat Ha.out (wrap64 (y + n))).alloc _).drew.drew), J0b (J0b (J07 (J0i (Below.refl _ _) _ _) (by have := H.out.lt; simp; omega) _))⟩

theorem do_9 (a b c n : Int) (w : World) (M : Nat) (rv cv : Value) (x : Ms) (se : List Se) (h : Run w M rv cv x se) (a0 : 0 <= a) (a1 : a < 10)  :
  Calls Tryz.prog 65 #[.pointer (some ⟨M, 0, none⟩), .agg #[V 9, V a, V b, V c, V n]] w fun e w' => e = .returned (.tuple #[]) /\ Run w' M rv cv { x with val := x.r a.toNat, fin := 1, ended := true } se /\ Below M w w' := by
 have hM := h.lt;have hn : ¬ M = w.heap.size := by omega
 have hn' : ¬ w.heap.size = M := by omega
 have hwr := J1y;have H : Hid (Run w M rv cv x se) := h;have Ha : Hid (a.toNat < 10) := (by omega : a.toNat < 10);have ya := (h.r a.toNat (by omega)).1;obtain ⟨yv, fv⟩ := h.val;obtain ⟨y, hy⟩ : ∃ y, x.r a.toNat = y := ⟨_, rfl⟩;rw [hy] at ya |-;clear h hy;go_enter Tryz.func65, Tryz.ntmps65;go_wp2
 go_region
 go_wp2_with (fail)
 refine (J49 _ M rv cv { x with val := y } se 1 (((H.out.setVal y).alloc _).drew)).mono ?_;rintro e w2 ⟨rfl, r2, b2⟩;have H2 : Hid (Run w2 M rv cv { x with val := y, fin := 1, ended := true } se /\ Below M w w2) := ⟨r2, Below.trans (J0b (J07 (J0i (Below.refl _ _) _ _) (by have := H.out.lt; simp; omega) _)) b2⟩;clear r2 b2;go_wp2;go_end0;exact ⟨rfl, H2.out.1, H2.out.2⟩

theorem do_8y (a b c n : Int) (w : World) (M : Nat) (rv cv : Value) (x : Ms) (se : List Se) (h : Run w M rv cv x se) (a0 : 0 <= a) (a1 : a < 10) (b0 : 0 <= b) (b1 : b < 10) (hh : J0u c (x.r a.toNat) (x.r b.toNat) = true) :
  Calls Tryz.prog 65 #[.pointer (some ⟨M, 0, none⟩), .agg #[V 8, V a, V b, V c, V n]] w fun e w' => e = .returned (.tuple #[]) /\ Run w' M rv cv { x with next := n } se /\ Below M w w' := by
 have hM := h.lt;have hn : ¬ M = w.heap.size := by omega
 have hn' : ¬ w.heap.size = M := by omega
 have hwr := J1y;have H : Hid (Run w M rv cv x se) := h;have Ha : Hid (a.toNat < 10) := (by omega : a.toNat < 10)
 have Hh : Hid (∀ w1, More w w1 -> Calls Tryz.prog 84 #[.pointer (some ⟨M, 0, none⟩), .agg #[V 8, V a, V b, V c, V n]] w1 fun e w' => e = .returned (.bool true) /\ More w1 w') := fun w1 m => by
  have := seq_holds 8 a b c n (x.r a.toNat) (x.r b.toNat) w1 M a0 a1 b0 b1 ((h.more m).r a.toNat (by omega)).1 ((h.more m).r b.toNat (by omega)).1 (h.more m).lt;rw [hh] at this;exact this
 clear h hh;go_enter Tryz.func65, Tryz.ntmps65;go_wp2
 go_region
 go_wp2_with (fail)
 refine (Hh.out _ ((More.refl _).alloc _ _).drew).mono ?_;rintro e w2 ⟨rfl, m2⟩;have j4 : w2.cell? ⟨w.heap.size, 4, none⟩ = some (V n) := m2.cell (by go_simp);have Hm : Hid (More w w2) := ((More.refl _).alloc _ _).drew.trans m2;clear m2;obtain ⟨yv, fv⟩ := (H.out.more Hm.out).next;go_wp2;go_end0;exact ⟨rfl, (H.out.more Hm.out).setNext n, J0i (Below.mono Hm.out (Nat.le_of_lt H.out.lt)) _ _⟩

theorem do_8n (a b c n : Int) (w : World) (M : Nat) (rv cv : Value) (x : Ms) (se : List Se) (h : Run w M rv cv x se) (a0 : 0 <= a) (a1 : a < 10) (b0 : 0 <= b) (b1 : b < 10) (hh : J0u c (x.r a.toNat) (x.r b.toNat) = false) :
  Calls Tryz.prog 65 #[.pointer (some ⟨M, 0, none⟩), .agg #[V 8, V a, V b, V c, V n]] w fun e w' => e = .returned (.tuple #[]) /\ Run w' M rv cv x se /\ Below M w w' := by
 have hM := h.lt;have hn : ¬ M = w.heap.size := by omega
 have hn' : ¬ w.heap.size = M := by omega
 have hwr := J1y;have H : Hid (Run w M rv cv x se) := h;have Ha : Hid (a.toNat < 10) := (by omega : a.toNat < 10)
 have Hh : Hid (∀ w1, More w w1 -> Calls Tryz.prog 84 #[.pointer (some ⟨M, 0, none⟩), .agg #[V 8, V a, V b, V c, V n]] w1 fun e w' => e = .returned (.bool false) /\ More w1 w') := fun w1 m => by
  have := seq_holds 8 a b c n (x.r a.toNat) (x.r b.toNat) w1 M a0 a1 b0 b1 ((h.more m).r a.toNat (by omega)).1 ((h.more m).r b.toNat (by omega)).1 (h.more m).lt;rw [hh] at this;exact this
 clear h hh;go_enter Tryz.func65, Tryz.ntmps65;go_wp2
 go_region
 go_wp2_with (fail)
 refine (Hh.out _ ((More.refl _).alloc _ _).drew).mono ?_;rintro e w2 ⟨rfl, m2⟩;have j4 : w2.cell? ⟨w.heap.size, 4, none⟩ = some (V n) := m2.cell (by go_simp);have Hm : Hid (More w w2) := ((More.refl _).alloc _ _).drew.trans m2;clear m2;obtain ⟨yv, fv⟩ := (H.out.more Hm.out).next;go_wp2;go_end0;exact ⟨rfl, H.out.more Hm.out, Below.mono Hm.out (Nat.le_of_lt H.out.lt)⟩

theorem Jk7 (a b c n y : Int) (w : World) (M : Nat) (rv cv : Value) (x : Ms) (se : List Se) (h : Run w M rv cv x se) (a0 : 0 <= a) (a1 : a < 10) (hy : x.r a.toNat = y) (hl : y < 0) :
  Calls Tryz.prog 65 #[.pointer (some ⟨M, 0, none⟩), .agg #[V 11, V a, V b, V c, V n]] w fun e w' => e = .returned (.tuple #[]) /\ Run w' M rv cv { x with r := setR x.r a 0 } se /\ Below M w w' := by
 have hM := h.lt;have hn : ¬ M = w.heap.size := by omega
 have hn' : ¬ w.heap.size = M := by omega
 have hwr := J1y;have H : Hid (Run w M rv cv x se) := h;have Ha : Hid (a.toNat < 10) := (by omega : a.toNat < 10);obtain ⟨ya, fa⟩ := h.r a.toNat (by omega);rw [hy] at ya;clear h hy;go_enter Tryz.func65, Tryz.ntmps65;go_wp2
 go_region
 go_wp2_with (fail)
 go_region
 go_wp2;go_end0;exact ⟨rfl, (((H.out.setR a.toNat Ha.out 0).alloc _).drew.drew), J0b (J0b (J07 (J0i (Below.refl _ _) _ _) (by have := H.out.lt; simp; omega) _))⟩

theorem Jk5 (a b c n y : Int) (w : World) (M : Nat) (rv cv : Value) (x : Ms) (se : List Se) (h : Run w M rv cv x se) (a0 : 0 <= a) (a1 : a < 10) (hy : x.r a.toNat = y) (hl : ¬ y < 0) (hh : n <= y) :
  Calls Tryz.prog 65 #[.pointer (some ⟨M, 0, none⟩), .agg #[V 11, V a, V b, V c, V n]] w fun e w' => e = .returned (.tuple #[]) /\ Run w' M rv cv { x with r := setR x.r a 0 } se /\ Below M w w' := by
 have hM := h.lt;have hn : ¬ M = w.heap.size := by omega
 have hn' : ¬ w.heap.size = M := by omega
 have hwr := J1y;have H : Hid (Run w M rv cv x se) := h;have Ha : Hid (a.toNat < 10) := (by omega : a.toNat < 10);obtain ⟨ya, fa⟩ := h.r a.toNat (by omega);rw [hy] at ya;clear h hy;have hl' : decide (y < 0) = false := by simp; omega
 go_enter Tryz.func65, Tryz.ntmps65;go_wp2
 go_region
 go_wp2_with (fail)
 go_region
 go_wp2;go_end0;exact ⟨rfl, (((H.out.setR a.toNat Ha.out 0).alloc _).drew.drew), J0b (J0b (J07 (J0i (Below.refl _ _) _ _) (by have := H.out.lt; simp; omega) _))⟩

theorem Jk6 (a b c n y : Int) (w : World) (M : Nat) (rv cv : Value) (x : Ms) (se : List Se) (h : Run w M rv cv x se) (a0 : 0 <= a) (a1 : a < 10) (hy : x.r a.toNat = y) (hl : ¬ y < 0) (hh : y < n) :
  Calls Tryz.prog 65 #[.pointer (some ⟨M, 0, none⟩), .agg #[V 11, V a, V b, V c, V n]] w fun e w' => e = .returned (.tuple #[]) /\ Run w' M rv cv x se /\ Below M w w' := by
 have hM := h.lt;have hn : ¬ M = w.heap.size := by omega
 have hn' : ¬ w.heap.size = M := by omega
 have hwr := J1y;have H : Hid (Run w M rv cv x se) := h;have Ha : Hid (a.toNat < 10) := (by omega : a.toNat < 10);obtain ⟨ya, fa⟩ := h.r a.toNat (by omega);rw [hy] at ya;clear h hy;have hl' : decide (y < 0) = false := by simp; omega
 go_enter Tryz.func65, Tryz.ntmps65;go_wp2
 go_region
 go_wp2_with (fail)
 go_region
 go_wp2;go_end0;exact ⟨rfl, ((H.out.alloc _).drew.drew), J0b (J0b (J07 (Below.refl _ _) (Nat.le_of_lt H.out.lt) _))⟩

theorem do_op (op a b c n : Int) (w : World) (M : Nat) (rv cv : Value) (x : Ms) (se : List Se) (h : Run w M rv cv x se) (a0 : 0 <= a) (a1 : a < 10) (x2 : Ms) (se2 : List Se) (o0 : 21 <= op) (hR : ∀ w1, More w w1 -> Calls Tryz.prog 91 #[.pointer (some ⟨M, 0, none⟩), .agg #[V op, V a, V b, V c, V n]] w1 fun e w' => e = .returned (.tuple #[]) /\ Run w' M rv cv x2 se2 /\ Below M w1 w') :
  Calls Tryz.prog 65 #[.pointer (some ⟨M, 0, none⟩), .agg #[V op, V a, V b, V c, V n]] w fun e w' => e = .returned (.tuple #[]) /\ Run w' M rv cv x2 se2 /\ Below M w w' := by
 have hM := h.lt;have hn : ¬ M = w.heap.size := by omega
 have hn' : ¬ w.heap.size = M := by omega
 have hwr := J1y;have H : Hid (Run w M rv cv x se) := h;have Ha : Hid (a.toNat < 10) := (by omega : a.toNat < 10);have HR : Hid (∀ w1, More w w1 -> Calls Tryz.prog 91 #[.pointer (some ⟨M, 0, none⟩), .agg #[V op, V a, V b, V c, V n]] w1 fun e w' => e = .returned (.tuple #[]) /\ Run w' M rv cv x2 se2 /\ Below M w1 w') := hR;clear h hR;have n1 : ¬ op = 1 := by omega
 have n2 : ¬ op = 2 := by omega
 have n3 : ¬ op = 3 := by omega
 have n4 : ¬ op = 4 := by omega
 have n5 : ¬ op = 5 := by omega
 have n6 : ¬ op = 6 := by omega
 have n7 : ¬ op = 7 := by omega
 have n8 : ¬ op = 8 := by omega
 have n9 : ¬ op = 9 := by omega
 have n10 : ¬ op = 10 := by omega
 have n11 : ¬ op = 11 := by omega
 have n12 : ¬ op = 12 := by omega
 go_enter Tryz.func65, Tryz.ntmps65;go_wp2
 go_region
 go_wp2_with (fail)
 refine (HR.out _ ((More.refl _).alloc _ _).drew).mono ?_;rintro e w2 ⟨rfl, r2, b2⟩;have H2 : Hid (Run w2 M rv cv x2 se2 /\ Below M w w2) := ⟨r2, Below.trans (J0b (J07 (Below.refl _ _) (Nat.le_of_lt H.out.lt) _)) b2⟩;clear r2 b2;go_wp2;go_end0;exact ⟨rfl, H2.out.1, H2.out.2⟩
def numI (x : Ms) (i : Ins) : Int := wrap64 (idxI x.r i + x.st i.c.toNat)

theorem J7p (i : Ins) (w : World) (M : Nat) (rv cv : Value) (x : Ms) (se : List Se) (h : Run w M rv cv x se) (hop : i.op = 3 \/ i.op = 4 \/ i.op = 5 \/ i.op = 6) (b0 : 0 <= i.b) (b1 : i.b < 10) (c0 : 0 <= i.c) (c1 : i.c < 6)
  (s0 : 0 <= x.st i.c.toNat) (s1 : x.st i.c.toNat <= x.st (i.c.toNat + 1)) (s2 : x.st (i.c.toNat + 1) <= 384) :
  Calls Tryz.prog 102 #[.pointer (some ⟨M, 0, none⟩), .agg #[V i.op, V i.a, V i.b, V i.c, V i.n]] w fun e w' =>
   e = .returned (.tuple #[V (numI x i), .bool (decide (0 <= idxI x.r i /\ idxI x.r i < x.st (i.c.toNat + 1) - x.st i.c.toNat))]) /\ More w w' := by
 have ws : wrap64 (x.st (i.c.toNat + 1) - x.st i.c.toNat) = x.st (i.c.toNat + 1) - x.st i.c.toNat := by unfold wrap64; omega
 have hs := (h.st i.c.toNat (by omega)).1;have ht := (h.st (i.c.toNat + 1) (by omega)).1;rw [show i.c.toNat + 1 = (i.c + 1).toNat by omega] at ht
 have fin : ∀ (e : Ending) (w' : World), (e = .returned (.tuple #[V (wrap64 (idxI x.r i + x.st i.c.toNat)), .bool (decide (0 <= idxI x.r i) && decide (idxI x.r i < wrap64 (x.st (i.c.toNat + 1) - x.st i.c.toNat)))]) /\ More w w') ->
   e = .returned (.tuple #[V (numI x i), .bool (decide (0 <= idxI x.r i /\ idxI x.r i < x.st (i.c.toNat + 1) - x.st i.c.toNat))]) /\ More w w' := by
  rintro e w' ⟨rfl, m⟩;rw [ws];exact ⟨by rw [Bool.decide_and]; rfl, m⟩
 by_cases h34 : i.op = 3 \/ i.op = 4
 ·have hx := (h.r i.b.toNat (by omega)).1
  have e : idxI x.r i = wrap64 (i.n + x.r i.b.toNat) := by unfold idxI; rw [if_neg (by omega), Int.add_comm]
  rw [show (i.c.toNat + 1) = (i.c + 1).toNat by omega] at fin |-;exact (Ja7 i.op i.a i.b i.c i.n _ _ _ _ w M h34 b0 b1 c0 c1 e.symm hs ht hx h.lt).mono fin
 ·have e : idxI x.r i = i.n := by unfold idxI; rw [if_pos (by omega)]
  rw [show (i.c.toNat + 1) = (i.c + 1).toNat by omega] at fin |-;rw [e] at fin |-;exact (Ja6 i.op i.a i.b i.c i.n _ _ w M (by omega) c0 c1 hs ht h.lt).mono fin

theorem J2c (op a b c n k how : Int) (t : Bool) (w : World) (M : Nat) (rv cv : Value) (x : Ms) (q : Tl) (se : List Se) (h : RunS w M rv cv x q se) (hl : se.length <= 200000) (hok : t = true \/ q.ahead = true)
  (hN : ∀ w1, More w w1 -> Calls Tryz.prog 102 #[.pointer (some ⟨M, 0, none⟩), .agg #[V op, V a, V b, V c, V n]] w1 fun e w' => e = .returned (.tuple #[V k, .bool t]) /\ More w1 w') :
  Calls Tryz.prog 87 #[.pointer (some ⟨M, 0, none⟩), .agg #[V op, V a, V b, V c, V n], V how] w fun e w' =>
   e = .returned (.tuple #[V k, .bool true]) /\ RunS w' M rv cv x q (se ++ [⟨2, k, how⟩]) /\ Below M w w' := by
 have HN := J01 hN;have H : Hid (RunS w M rv cv x q se /\ se.length <= 200000) := ⟨h, hl⟩;obtain ⟨S, HS⟩ : ∃ S : World -> Prop, Hid (∀ w', S w' ↔ More (w.alloc (.cells #[V op, V a, V b, V c, V n] 42)) w') := ⟨_, fun _ => Iff.rfl⟩;have k0 : ∀ i : { w' // S w' }, i.val.cell? ⟨w.heap.size, 0, none⟩ = some (V op) := fun i => ((HS.out _).1 i.property).cell (by go_simp)
 have k1 : ∀ i : { w' // S w' }, i.val.cell? ⟨w.heap.size, 1, none⟩ = some (V a) := fun i => ((HS.out _).1 i.property).cell (by go_simp)
 have k2 : ∀ i : { w' // S w' }, i.val.cell? ⟨w.heap.size, 2, none⟩ = some (V b) := fun i => ((HS.out _).1 i.property).cell (by go_simp)
 have k3 : ∀ i : { w' // S w' }, i.val.cell? ⟨w.heap.size, 3, none⟩ = some (V c) := fun i => ((HS.out _).1 i.property).cell (by go_simp)
 have k4 : ∀ i : { w' // S w' }, i.val.cell? ⟨w.heap.size, 4, none⟩ = some (V n) := fun i => ((HS.out _).1 i.property).cell (by go_simp)
 have hne : Nonempty { w' // S w' } := ⟨⟨_, (HS.out _).2 (More.refl _)⟩⟩;have ca := h.ahead.1;have Hok : Hid (t = true \/ q.ahead = true) := hok;clear h hl hN hok;go_enter Tryz.func87, Tryz.ntmps87;go_wp2_with (fail)
 refine J03 (S := S) [(0, true), (1, true), (2, true), (3, true), (4, false), (5, true), (6, true), (7, true), (8, true), (9, true)] (by kernel_rfl) (by kernel_rfl) (by kernel_rfl) ((HS.out _).2 (More.refl _).drew) ?_
 iterate 4 (refine J00 rfl (by kernel_rfl) (fun K hK => ?_); go_simp; refine hK _ _ ?_; clear hK K)
 refine J02 rfl (by kernel_rfl) (fun K hK => ?_); go_simp;refine (HN.out _ ((More.refl _).alloc _ _).drew).mono ?_;rintro e w5 ⟨rfl, m5⟩;have Hm5 : Hid (More (w.alloc (.cells #[V op, V a, V b, V c, V n] 42)) w5) := (More.refl _).drew.trans m5;have Hm : Hid (More w w5) := ((More.refl _).alloc _ _).trans Hm5.out;have ca5 := Hm.out.cell ca;clear m5
 go_simp
 refine hK _ _ ((HS.out _).2 Hm5.out) ?_; clear hK K
 iterate 5 (refine J00 rfl (by kernel_rfl) (fun K hK => ?_); go_simp; refine hK _ _ ?_; clear hK K)
 refine J04 ?_;clear k0 k1 k2 k3 k4 hne ca;cases t with
 | true =>
  go_wp2_with (fail)
  refine (J4a _ M rv cv _ se 2 k how H.out.2 (H.out.1.more Hm.out).run).mono ?_;rintro e w2 ⟨rfl, r2, b2, _⟩;have H2 : Hid (RunS w2 M rv cv x q (se ++ [⟨2, k, how⟩]) /\ Below M w w2) := ⟨⟨r2⟩, Below.trans (Below.mono Hm.out (Nat.le_of_lt H.out.1.lt)) b2⟩;clear r2 b2;go_wp2;go_ret2;exact ⟨rfl, H2.out.1, H2.out.2⟩
 | false =>
  have ha : q.ahead = true := by rcases Hok.out with h | h; cases h; exact h
  rw [ha] at ca5;clear ha;go_wp2_with (fail)
  refine (J4a _ M rv cv _ se 2 k how H.out.2 (H.out.1.more Hm.out).run).mono ?_;rintro e w2 ⟨rfl, r2, b2, _⟩;have H2 : Hid (RunS w2 M rv cv x q (se ++ [⟨2, k, how⟩]) /\ Below M w w2) := ⟨⟨r2⟩, Below.trans (Below.mono Hm.out (Nat.le_of_lt H.out.1.lt)) b2⟩;clear r2 b2;go_wp2;go_ret2;exact ⟨rfl, H2.out.1, H2.out.2⟩

theorem J53 (op a b c n k how : Int) (w : World) (M : Nat) (rv cv : Value) (x : Ms) (q : Tl) (se : List Se) (h : RunS w M rv cv x q se) (ha : q.ahead = false)
  (hN : ∀ w1, More w w1 -> Calls Tryz.prog 102 #[.pointer (some ⟨M, 0, none⟩), .agg #[V op, V a, V b, V c, V n]] w1 fun e w' => e = .returned (.tuple #[V k, .bool false]) /\ More w1 w') :
  Calls Tryz.prog 87 #[.pointer (some ⟨M, 0, none⟩), .agg #[V op, V a, V b, V c, V n], V how] w fun e w' =>
   e = .returned (.tuple #[V 0, .bool false]) /\ RunS w' M rv cv { x with fin := 2, ended := true } q se /\ Below M w w' := by
 have HN := J01 hN;have H : Hid (RunS w M rv cv x q se) := h;obtain ⟨S, HS⟩ : ∃ S : World -> Prop, Hid (∀ w', S w' ↔ More (w.alloc (.cells #[V op, V a, V b, V c, V n] 42)) w') := ⟨_, fun _ => Iff.rfl⟩;have k0 : ∀ i : { w' // S w' }, i.val.cell? ⟨w.heap.size, 0, none⟩ = some (V op) := fun i => ((HS.out _).1 i.property).cell (by go_simp)
 have k1 : ∀ i : { w' // S w' }, i.val.cell? ⟨w.heap.size, 1, none⟩ = some (V a) := fun i => ((HS.out _).1 i.property).cell (by go_simp)
 have k2 : ∀ i : { w' // S w' }, i.val.cell? ⟨w.heap.size, 2, none⟩ = some (V b) := fun i => ((HS.out _).1 i.property).cell (by go_simp)
 have k3 : ∀ i : { w' // S w' }, i.val.cell? ⟨w.heap.size, 3, none⟩ = some (V c) := fun i => ((HS.out _).1 i.property).cell (by go_simp)
 have k4 : ∀ i : { w' // S w' }, i.val.cell? ⟨w.heap.size, 4, none⟩ = some (V n) := fun i => ((HS.out _).1 i.property).cell (by go_simp)
 have hne : Nonempty { w' // S w' } := ⟨⟨_, (HS.out _).2 (More.refl _)⟩⟩;have ca := h.ahead.1;rw [ha] at ca;clear h hN ha;go_enter Tryz.func87, Tryz.ntmps87;go_wp2_with (fail)
 refine J03 (S := S) [(0, true), (1, true), (2, true), (3, true), (4, false), (5, true), (6, true), (7, true), (8, true), (9, true)] (by kernel_rfl) (by kernel_rfl) (by kernel_rfl) ((HS.out _).2 (More.refl _).drew) ?_
 iterate 4 (refine J00 rfl (by kernel_rfl) (fun K hK => ?_); go_simp; refine hK _ _ ?_; clear hK K)
 refine J02 rfl (by kernel_rfl) (fun K hK => ?_); go_simp;refine (HN.out _ ((More.refl _).alloc _ _).drew).mono ?_;rintro e w5 ⟨rfl, m5⟩;have Hm5 : Hid (More (w.alloc (.cells #[V op, V a, V b, V c, V n] 42)) w5) := (More.refl _).drew.trans m5;have Hm : Hid (More w w5) := ((More.refl _).alloc _ _).trans Hm5.out;have ca5 := Hm.out.cell ca;clear m5
 go_simp
 refine hK _ _ ((HS.out _).2 Hm5.out) ?_; clear hK K
 iterate 5 (refine J00 rfl (by kernel_rfl) (fun K hK => ?_); go_simp; refine hK _ _ ?_; clear hK K)
 refine J04 ?_;clear k0 k1 k2 k3 k4 hne ca;go_wp2_with (fail)
 refine (J49 _ M rv cv _ se 2 (H.out.more Hm.out).run).mono ?_;rintro e w2 ⟨rfl, r2, b2⟩;have H2 : Hid (RunS w2 M rv cv { x with fin := 2, ended := true } q se /\ Below M w w2) := ⟨⟨r2⟩, Below.trans (Below.mono Hm.out (Nat.le_of_lt H.out.lt)) b2⟩;clear r2 b2;go_wp2;go_ret2;exact ⟨rfl, H2.out.1, H2.out.2⟩

theorem J1a (op a b c n : Int) (w : World) (M : Nat) (rv cv : Value) (x : Ms) (q : Tl) (se : List Se) (h : RunS w M rv cv x q se) :
  Calls Tryz.prog 66 #[.pointer (some ⟨M, 0, none⟩), .agg #[V op, V a, V b, V c, V n]] w fun e w' => e = .returned (.bool (decide (op = 12 \/ op = 9 \/ x.steps = q.til))) /\ More w w' := by
 have hM := h.lt;have hn : ¬ M = w.heap.size := by omega
 have hn' : ¬ w.heap.size = M := by omega
 have cs := h.run.steps.1;have ct := h.til.1;dsimp only at cs;obtain ⟨s, hs⟩ : ∃ s, x.steps = s := ⟨_, rfl⟩;obtain ⟨t, ht⟩ : ∃ t, q.til = t := ⟨_, rfl⟩;rw [hs] at cs |-;rw [ht] at ct |-;clear h hs ht;by_cases h12 : op = 12
 ·subst h12
  go_enter Tryz.func66, Tryz.ntmps66;go_wp2
  go_region
  go_wp2;go_ret;exact ⟨by simp, ((More.refl _).alloc _ _).drew⟩
 have h12' : (op == 12) = false := by simp [h12]
 by_cases h9 : op = 9
 ·subst h9
  go_enter Tryz.func66, Tryz.ntmps66;go_wp2
  go_region
  go_wp2;go_ret;exact ⟨by simp, ((More.refl _).alloc _ _).drew⟩
 have h9' : (op == 9) = false := by simp [h9]
 go_enter Tryz.func66, Tryz.ntmps66;go_wp2
 go_region
 go_wp2;go_ret;exact ⟨by simp [h12, h9]; by_cases e : s = t <;> simp [e], ((More.refl _).alloc _ _).drew⟩

theorem J7a (op a b c n : Int) (w : World) (M : Nat) (rv cv : Value) (x : Ms) (q : Tl) (se : List Se) (h : RunS w M rv cv x q se) (ha : q.ahead = true) :
  Calls Tryz.prog 64 #[.pointer (some ⟨M, 0, none⟩), .agg #[V op, V a, V b, V c, V n]] w fun e w' => e = .returned (.tuple #[]) /\ More w w' := by
 have hM := h.lt;have ca := h.ahead.1;rw [ha] at ca;clear h ha;go_enter Tryz.func64, Tryz.ntmps64;go_wp2;go_end0;exact ⟨rfl, (More.refl _).alloc _ _⟩

theorem Jg0 (op a b c n : Int) (w : World) (M : Nat) (rv cv : Value) (x x2 : Ms) (q q2 : Tl) (se se2 : List Se) (h : RunS w M rv cv x q se) (ha : q.ahead = false)
  (hD : ∀ w1, More w w1 -> Calls Tryz.prog 65 #[.pointer (some ⟨M, 0, none⟩), .agg #[V op, V a, V b, V c, V n]] w1 fun e w' => e = .returned (.tuple #[]) /\ RunS w' M rv cv x2 q2 se2 /\ Below M w1 w') :
  Calls Tryz.prog 64 #[.pointer (some ⟨M, 0, none⟩), .agg #[V op, V a, V b, V c, V n]] w fun e w' => e = .returned (.tuple #[]) /\ RunS w' M rv cv x2 q2 se2 /\ Below M w w' := by
 have hM := h.lt;have ca := h.ahead.1;rw [ha] at ca;have HD := J01 hD;clear h ha hD;go_enter Tryz.func64, Tryz.ntmps64;go_wp2_with (fail)
 go_region_with (go_at_call 65; refine (HD.out _ ?_).mono ?_; exact ((More.refl _).alloc _ _).drew; rintro e w2 ⟨rfl, r2, b2⟩; have H2 := J01 (And.intro r2 b2); clear r2 b2)
 go_wp2;go_end0;exact ⟨rfl, H2.out.1, Below.trans (J0b (J07 (Below.refl _ _) (Nat.le_of_lt hM) _)) H2.out.2⟩
def Tl.left (q : Tl) (x : Ms) : Tl := if q.ahead = true then q else { q with ahead := true, br := x.r, bw := x.wd, bn := x.next, bp := q.puts, til := x.steps + 12 }

theorem J5e (w : World) (M : Nat) (rv cv : Value) (x : Ms) (q : Tl) (se : List Se) (h : RunS w M rv cv x q se) (s0 : 0 <= x.steps) (s1 : x.steps <= 100000) :
  Calls Tryz.prog 86 #[.pointer (some ⟨M, 0, none⟩)] w fun e w' => e = .returned (.tuple #[]) /\ RunS w' M rv cv x (q.left x) se /\ Below M w w' := by
 unfold Tl.left;by_cases ha : q.ahead = true
 ·rw [if_pos ha]
  refine (J4f w M rv cv x q se h ha).mono ?_;rintro e w' ⟨rfl, rfl⟩;exact ⟨rfl, h, Below.refl _ _⟩
 ·rw [if_neg ha]
  exact Ja9 w M rv cv x q se h (by simpa using ha) s0 s1

theorem MapAt.below {w w' : World} {b M : Nat} {f : Int -> Int -> Int} (h : MapAt w b f) (hb : Below M w w') (hlt : b < M) : MapAt w' b f := h.block (Below.block hb b hlt)
def J5k (op a b c n k : Int) (t : Bool) (M : Nat) (rv cv : Value) (x : Ms) (q : Tl) (se : List Se) : Prop :=
 ∀ w1 mo, RunS w1 M rv cv { x with mo := mo } q se -> Calls Tryz.prog 102 #[.pointer (some ⟨M, 0, none⟩), .agg #[V op, V a, V b, V c, V n]] w1 fun e w' => e = .returned (.tuple #[V k, .bool t]) /\ More w1 w'

theorem Jab (op a b c n k : Int) (w : World) (M : Nat) (rv cv : Value) (x : Ms) (q : Tl) (se : List Se) (h : RunS w M rv cv x q se) (ha : q.ahead = false) (hN : J5k op a b c n k false M rv cv x q se) :
  Calls Tryz.prog 62 #[.pointer (some ⟨M, 0, none⟩), .agg #[V op, V a, V b, V c, V n]] w fun e w' => e = .returned (.tuple #[]) /\ RunS w' M rv cv { x with fin := 2, ended := true } q se /\ Below M w w' := by
 have hM := h.lt;have HR := J01 (J53 op a b c n k 0 _ M rv cv _ q se (h.beside (.cells #[V op, V a, V b, V c, V n] 42)) ha (fun w1 m1 => hN w1 _ ((h.beside _).more m1)));clear h ha hN;go_enter Tryz.func62, Tryz.ntmps62;go_wp2_with (fail)
 refine HR.out.mono ?_;rintro e w2 ⟨rfl, r2, b2⟩;have H2 := J01 (And.intro r2 b2);clear r2 b2 HR;go_wp2;refine bodyPost_ret (results_none (by kernel_rfl) _ _ _) rfl ?_;exact ⟨rfl, H2.out.1.fewer x.mo (fun p hp => List.mem_cons_of_mem _ hp), Below.trans (J07 (Below.refl _ _) (Nat.le_of_lt hM) _) H2.out.2⟩

theorem J8x (op a b c n k : Int) (t : Bool) (w : World) (M : Nat) (ra : Option Addr) (rl rc : Nat) (cv : Value) (x : Ms) (q : Tl) (se : List Se) (h : RunS w M (.slice ra rl rc) cv x q se) (hl : se.length <= 200000) (hok : t = true \/ q.ahead = true) (hrl : rl <= 6) (a0 : 0 <= a) (a1 : a < 10)
  (hk : ¬ (0 <= k /\ k < x.st rl)) (hN : J5k op a b c n k t M (.slice ra rl rc) cv x q se) :
  Calls Tryz.prog 62 #[.pointer (some ⟨M, 0, none⟩), .agg #[V op, V a, V b, V c, V n]] w fun e w' => e = .returned (.tuple #[]) /\ RunS w' M (.slice ra rl rc) cv { x with r := setR x.r a 0 } q (se ++ [⟨2, k, 0⟩]) /\ Below M w w' := by
 have hM := h.lt;have HR := J01 (J2c op a b c n k 0 t _ M (.slice ra rl rc) cv _ q se (h.beside (.cells #[V op, V a, V b, V c, V n] 42)) hl hok (fun w1 m1 => hN w1 _ ((h.beside _).more m1)));have Hk : Hid (¬ (0 <= k /\ k < x.st rl) /\ rl <= 6 /\ a.toNat < 10) := ⟨hk, hrl, by omega⟩;clear h hok hN hl hk hrl;go_enter Tryz.func62, Tryz.ntmps62;go_wp2_with (fail)
 refine HR.out.mono ?_;rintro e w2 ⟨rfl, r2, b2⟩;have H2 := J01 (And.intro r2 b2);clear r2 b2 HR;have hW := J2l w2 M ra rl rc cv _ _ k H2.out.1.run Hk.out.2.1;dsimp only at hW;rw [show (decide (0 <= k) && decide (k < x.st rl)) = false by rw [<- Bool.decide_and]; exact decide_eq_false Hk.out.1] at hW;have HW := J01 hW;clear hW;go_wp2_with (fail)
 refine HW.out.mono ?_;rintro e w3 ⟨rfl, m3⟩;have H3 := J01 (And.intro (H2.out.1.more m3) m3);have q1 := J05 (H3.out.1.left (List.mem_cons_self)) 1 (V a) (by simp);obtain ⟨ya, fa⟩ := H3.out.1.run.r a.toNat Hk.out.2.2;dsimp only at ya q1;clear m3 HW;have hn : ¬ M = w.heap.size := by omega
 have hn' : ¬ w.heap.size = M := by omega
 go_wp2
 go_region
 go_wp2;refine bodyPost_ret (results_none (by kernel_rfl) _ _ _) rfl ?_;refine ⟨rfl, ⟨((H3.out.1.fewer x.mo (fun p hp => List.mem_cons_of_mem _ hp)).run.setR a.toNat Hk.out.2.2 0).drew⟩, ?_⟩;exact J0b (J0i (J14 (Below.trans (J07 (Below.refl _ _) (Nat.le_of_lt hM) _) H2.out.2) (Nat.le_of_lt H2.out.1.lt) H3.out.2) _ _)

theorem J7c (op a b c n k : Int) (t : Bool) (w : World) (M B : Nat) (ra : Option Addr) (rl rc : Nat) (cv : Value) (x : Ms) (q : Tl) (se : List Se) (L : List Int) (f : Int -> Int -> Int) (h : RunS w M (.slice ra rl rc) cv x q se) (hl : se.length <= 200000) (hok : t = true \/ q.ahead = true) (hrl : rl <= 6) (a0 : 0 <= a) (a1 : a < 10)
  (hk : 0 <= k /\ k < x.st rl) (hst : x.st rl <= 384) (hp : q.puts k.toNat <= 100000) (hmb : q.mb < M) (hB : B <= M) (s0 : 0 <= x.steps) (s1 : x.steps <= 100000) (hs : ScAt w B q.sc L) (hm : MapAt w q.mb f) (hc : L.headD 0 = 0 \/ q.puts k.toNat < L.headD 0) (hN : J5k op a b c n k t M (.slice ra rl rc) cv x q se) :
  Calls Tryz.prog 62 #[.pointer (some ⟨M, 0, none⟩), .agg #[V op, V a, V b, V c, V n]] w fun e w' => e = .returned (.tuple #[]) /\ Below M w w' /\ ∃ sc', ScAt w' B sc' L.tail /\ RunS w' M (.slice ra rl rc) cv { x with r := setR x.r a (x.wd k.toNat) } { q with sc := sc' } (se ++ [⟨2, k, 0⟩]) := by
 suffices H0 : ∀ P : Ending -> World -> Prop, (∀ e w', (e = .returned (.tuple #[]) /\ Below M w w' /\ ∃ sc', ScAt w' B sc' L.tail /\ RunS w' M (.slice ra rl rc) cv { x with r := setR x.r a (x.wd k.toNat) } { q with sc := sc' } (se ++ [⟨2, k, 0⟩])) -> P e w') -> Calls Tryz.prog 62 #[.pointer (some ⟨M, 0, none⟩), .agg #[V op, V a, V b, V c, V n]] w P from H0 _ (fun _ _ h => h)
 intro P hP;have HP := J01 hP;clear hP;obtain ⟨d, hd⟩ : ∃ d, L.headD 0 = d := ⟨_, rfl⟩;rw [hd] at hc;have Hd := J01 hd;clear hd;have hM := h.lt;have HR := J01 (J2c op a b c n k 0 t _ M (.slice ra rl rc) cv _ q se (h.beside (.cells #[V op, V a, V b, V c, V n] 42)) hl hok (fun w1 m1 => hN w1 _ ((h.beside _).more m1)));have Hk : Hid ((0 <= k /\ k < x.st rl) /\ rl <= 6 /\ a.toNat < 10 /\ k.toNat < 384 /\ q.puts k.toNat <= 100000 /\ q.mb < M /\ B <= M) := ⟨hk, hrl, by omega, by omega, hp, hmb, hB⟩;have HS := J01 (And.intro hs hm);have HC := J01 hc;have Hst : Hid (0 <= x.steps /\ x.steps <= 100000) := ⟨s0, s1⟩;have k0 : 0 <= k := hk.1;have k1 : k < 384 := by omega
 clear h hok hN hl hk hrl hs hm hc hp hmb hst hB s0 s1;go_enter Tryz.func62, Tryz.ntmps62;go_wp2_with (fail)
 refine HR.out.mono ?_;rintro e w2 ⟨rfl, r2, b2⟩;have H2 := J01 (And.intro r2 b2);clear r2 b2 HR;have hW := J2l w2 M ra rl rc cv _ _ k H2.out.1.run Hk.out.2.1;dsimp only at hW;rw [show (decide (0 <= k) && decide (k < x.st rl)) = true by rw [<- Bool.decide_and]; exact decide_eq_true Hk.out.1] at hW;have HW := J01 hW;clear hW;go_wp2_with (fail)
 refine HW.out.mono ?_;rintro e w3 ⟨rfl, m3⟩;have H3 := J01 (And.intro (H2.out.1.more m3) (J14 (Below.trans (J07 (Below.refl _ _) (Nat.le_of_lt hM) _) H2.out.2) (Nat.le_of_lt H2.out.1.lt) m3));have q1 := J05 (H3.out.1.left (List.mem_cons_self)) 1 (V a) (by simp);obtain ⟨ya, fa⟩ := H3.out.1.run.r a.toNat Hk.out.2.2.1;have yk := (H3.out.1.run.wd k.toNat Hk.out.2.2.2.1).1;dsimp only at ya q1 yk;clear m3 HW;have hn : ¬ M = w.heap.size := by omega
 have hn' : ¬ w.heap.size = M := by omega
 go_wp2
 go_region
 obtain ⟨w4, hw4⟩ : ∃ w4, w4 = (w3.setCell ⟨M, 7 + a.toNat, none⟩ (V (x.wd k.toNat))).drew := ⟨_, rfl⟩;have HW4 := J01 hw4;rw [<- hw4]
 have h4 : RunS w4 M (.slice ra rl rc) cv { x with r := setR x.r a (x.wd k.toNat), mo := (w.heap.size, .cells #[V op, V a, V b, V c, V n] 42) :: x.mo } q (se ++ [⟨2, k, 0⟩]) /\ Below M w w4 := by
  rw [hw4];exact ⟨⟨(H3.out.1.run.setR a.toNat Hk.out.2.2.1 (x.wd k.toNat)).drew⟩, J0b (J0i H3.out.2 _ _)⟩
 have H4 := J01 h4;clear q1 ya fa yk hw4 h4;have hCh := (J3k w4 M B (.slice ra rl rc) cv _ q _ L H4.out.1 (HS.out.1.below (Below.mono H4.out.2 Hk.out.2.2.2.2.2.2)) Hk.out.2.2.2.2.2.2);rw [Hd.out] at hCh;have HCh := J01 hCh;clear hCh;go_wp2_with (fail)
 refine HCh.out.mono ?_;rintro e w5 ⟨rfl, b5, sc', r5, s5⟩;have H5 := J01 (And.intro r5 (And.intro s5 (Below.trans H4.out.2 b5)));clear r5 s5 b5 HCh;have HWs := J01 (Jbu w5 M (.slice ra rl rc) cv _ _ _ k d H5.out.1 k0 k1 HC.out);go_wp2_with (fail)
 refine HWs.out.mono ?_;rintro e w6 ⟨rfl, rfl⟩;clear HWs;go_wp2;go_end0;exact HP.out _ _ ⟨rfl, H5.out.2.2, sc', H5.out.2.1, H5.out.1.fewer x.mo (fun p hp => List.mem_cons_of_mem _ hp)⟩

theorem J8y (op a b c n k : Int) (t : Bool) (w : World) (M B : Nat) (ra : Option Addr) (rl rc : Nat) (cv : Value) (x : Ms) (q : Tl) (se : List Se) (L : List Int) (f : Int -> Int -> Int) (h : RunS w M (.slice ra rl rc) cv x q se) (hl : se.length <= 200000) (hok : t = true \/ q.ahead = true) (hrl : rl <= 6) (a0 : 0 <= a) (a1 : a < 10)
  (hk : 0 <= k /\ k < x.st rl) (hst : x.st rl <= 384) (hp : q.puts k.toNat <= 100000) (hmb : q.mb < M) (hB : B <= M) (s0 : 0 <= x.steps) (s1 : x.steps <= 100000) (hs : ScAt w B q.sc L) (hm : MapAt w q.mb f) (hc : 0 < L.headD 0 /\ L.headD 0 <= q.puts k.toNat) (hN : J5k op a b c n k t M (.slice ra rl rc) cv x q se) :
  Calls Tryz.prog 62 #[.pointer (some ⟨M, 0, none⟩), .agg #[V op, V a, V b, V c, V n]] w fun e w' => e = .returned (.tuple #[]) /\ Below M w w' /\ ∃ sc', ScAt w' B sc' L.tail /\ RunS w' M (.slice ra rl rc) cv { x with r := setR (setR x.r a (x.wd k.toNat)) a (f k (q.puts k.toNat - L.headD 0)) } (Tl.left { q with sc := sc' } { x with r := setR x.r a (x.wd k.toNat) }) (se ++ [⟨2, k, 0⟩]) := by
 suffices H0 : ∀ P : Ending -> World -> Prop, (∀ e w', (e = .returned (.tuple #[]) /\ Below M w w' /\ ∃ sc', ScAt w' B sc' L.tail /\ RunS w' M (.slice ra rl rc) cv { x with r := setR (setR x.r a (x.wd k.toNat)) a (f k (q.puts k.toNat - L.headD 0)) } (Tl.left { q with sc := sc' } { x with r := setR x.r a (x.wd k.toNat) }) (se ++ [⟨2, k, 0⟩])) -> P e w') -> Calls Tryz.prog 62 #[.pointer (some ⟨M, 0, none⟩), .agg #[V op, V a, V b, V c, V n]] w P from H0 _ (fun _ _ h => h)
 intro P hP;have HP := J01 hP;clear hP;obtain ⟨d, hd⟩ : ∃ d, L.headD 0 = d := ⟨_, rfl⟩;rw [hd] at hc HP;have Hd := J01 hd;clear hd;have hM := h.lt;have HR := J01 (J2c op a b c n k 0 t _ M (.slice ra rl rc) cv _ q se (h.beside (.cells #[V op, V a, V b, V c, V n] 42)) hl hok (fun w1 m1 => hN w1 _ ((h.beside _).more m1)));have Hk : Hid ((0 <= k /\ k < x.st rl) /\ rl <= 6 /\ a.toNat < 10 /\ k.toNat < 384 /\ q.puts k.toNat <= 100000 /\ q.mb < M /\ B <= M) := ⟨hk, hrl, by omega, by omega, hp, hmb, hB⟩;have HS := J01 (And.intro hs hm);have HC := J01 hc;have Hst : Hid (0 <= x.steps /\ x.steps <= 100000) := ⟨s0, s1⟩;have k0 : 0 <= k := hk.1;have k1 : k < 384 := by omega
 clear h hok hN hl hk hrl hs hm hc hp hmb hst hB s0 s1;go_enter Tryz.func62, Tryz.ntmps62;go_wp2_with (fail)
 refine HR.out.mono ?_;rintro e w2 ⟨rfl, r2, b2⟩;have H2 := J01 (And.intro r2 b2);clear r2 b2 HR;have hW := J2l w2 M ra rl rc cv _ _ k H2.out.1.run Hk.out.2.1;dsimp only at hW;rw [show (decide (0 <= k) && decide (k < x.st rl)) = true by rw [<- Bool.decide_and]; exact decide_eq_true Hk.out.1] at hW;have HW := J01 hW;clear hW;go_wp2_with (fail)
 refine HW.out.mono ?_;rintro e w3 ⟨rfl, m3⟩;have H3 := J01 (And.intro (H2.out.1.more m3) (J14 (Below.trans (J07 (Below.refl _ _) (Nat.le_of_lt hM) _) H2.out.2) (Nat.le_of_lt H2.out.1.lt) m3));have q1 := J05 (H3.out.1.left (List.mem_cons_self)) 1 (V a) (by simp);obtain ⟨ya, fa⟩ := H3.out.1.run.r a.toNat Hk.out.2.2.1;have yk := (H3.out.1.run.wd k.toNat Hk.out.2.2.2.1).1;dsimp only at ya q1 yk;clear m3 HW;have hn : ¬ M = w.heap.size := by omega
 have hn' : ¬ w.heap.size = M := by omega
 go_wp2
 go_region
 obtain ⟨w4, hw4⟩ : ∃ w4, w4 = (w3.setCell ⟨M, 7 + a.toNat, none⟩ (V (x.wd k.toNat))).drew := ⟨_, rfl⟩;have HW4 := J01 hw4;rw [<- hw4]
 have h4 : RunS w4 M (.slice ra rl rc) cv { x with r := setR x.r a (x.wd k.toNat), mo := (w.heap.size, .cells #[V op, V a, V b, V c, V n] 42) :: x.mo } q (se ++ [⟨2, k, 0⟩]) /\ Below M w w4 := by
  rw [hw4];exact ⟨⟨(H3.out.1.run.setR a.toNat Hk.out.2.2.1 (x.wd k.toNat)).drew⟩, J0b (J0i H3.out.2 _ _)⟩
 have H4 := J01 h4;clear q1 ya fa yk hw4 h4;have hCh := (J3k w4 M B (.slice ra rl rc) cv _ q _ L H4.out.1 (HS.out.1.below (Below.mono H4.out.2 Hk.out.2.2.2.2.2.2)) Hk.out.2.2.2.2.2.2);rw [Hd.out] at hCh;have HCh := J01 hCh;clear hCh;go_wp2_with (fail)
 refine HCh.out.mono ?_;rintro e w5 ⟨rfl, b5, sc', r5, s5⟩;have H5 := J01 (And.intro r5 (And.intro s5 (Below.trans H4.out.2 b5)));clear r5 s5 b5 HCh;have HWs := J01 (Jac w5 M (.slice ra rl rc) cv _ _ _ f k d H5.out.1 (HS.out.2.below H5.out.2.2 Hk.out.2.2.2.2.2.1) k0 k1 HC.out.1 HC.out.2 Hk.out.2.2.2.2.1);dsimp only at HWs;obtain ⟨v, hv⟩ : ∃ v, f k (q.puts k.toNat - d) = v := ⟨_, rfl⟩;rw [hv] at HWs HP;clear hv;go_wp2_with (fail)
 refine HWs.out.mono ?_;rintro e w6 ⟨rfl, rfl⟩;clear HWs;have HLv := J01 (J5e w6 M (.slice ra rl rc) cv _ _ _ H5.out.1 Hst.out.1 Hst.out.2);go_wp2_with (fail)
 refine HLv.out.mono ?_;rintro e w7 ⟨rfl, r7, b7⟩;have H7 := J01 (And.intro r7 (And.intro (H5.out.2.1.below (Below.mono b7 Hk.out.2.2.2.2.2.2)) (Below.trans H5.out.2.2 b7)));have q7 := J05 (H7.out.1.left (List.mem_cons_self)) 1 (V a) (by simp);obtain ⟨y7, f7⟩ := H7.out.1.run.r a.toNat Hk.out.2.2.1;dsimp only at q7 y7;clear r7 b7 HLv;go_wp2
 go_region
 go_wp2;go_end0;refine HP.out _ _ ⟨rfl, J0b (J0i H7.out.2.2 _ _), sc', ?_, ⟨((H7.out.1.fewer x.mo (fun p hp => List.mem_cons_of_mem _ hp)).run.setR a.toNat Hk.out.2.2.1 v).drew⟩⟩;exact H7.out.2.1.below (Below.mono (J0b (J0i (Below.refl _ _) _ _)) Hk.out.2.2.2.2.2.2)
theorem RunS.setWd {w : World} {M : Nat} {rv cv : Value} {x : Ms} {q : Tl} {se : List Se} (h : RunS w M rv cv x q se) (k : Nat) (hk : k < 384) (n : Int) : RunS (w.setCell ⟨M, 17 + k, none⟩ (V n)) M rv cv { x with wd := setN x.wd k n } q se := ⟨h.run.setWd k hk n⟩
theorem RunS.setNext {w : World} {M : Nat} {rv cv : Value} {x : Ms} {q : Tl} {se : List Se} (h : RunS w M rv cv x q se) (n : Int) : RunS (w.setCell ⟨M, 401, none⟩ (V n)) M rv cv { x with next := n } q se := ⟨h.run.setNext n⟩

theorem Jbm (op a b c n k : Int) (w : World) (M : Nat) (rv cv : Value) (x : Ms) (q : Tl) (se : List Se) (h : RunS w M rv cv x q se) (ha : q.ahead = false) (hN : J5k op a b c n k false M rv cv x q se) :
  Calls Tryz.prog 63 #[.pointer (some ⟨M, 0, none⟩), .agg #[V op, V a, V b, V c, V n]] w fun e w' => e = .returned (.tuple #[]) /\ RunS w' M rv cv { x with fin := 2, ended := true } q se /\ Below M w w' := by
 have hM := h.lt;have HR := J01 (J53 op a b c n k 1 _ M rv cv _ q se (h.beside (.cells #[V op, V a, V b, V c, V n] 42)) ha (fun w1 m1 => hN w1 _ ((h.beside _).more m1)));clear h ha hN;go_enter Tryz.func63, Tryz.ntmps63;go_wp2_with (fail)
 refine HR.out.mono ?_;rintro e w2 ⟨rfl, r2, b2⟩;have H2 := J01 (And.intro r2 b2);clear r2 b2 HR;go_wp2;refine bodyPost_ret (results_none (by kernel_rfl) _ _ _) rfl ?_;exact ⟨rfl, H2.out.1.fewer x.mo (fun p hp => List.mem_cons_of_mem _ hp), Below.trans (J07 (Below.refl _ _) (Nat.le_of_lt hM) _) H2.out.2⟩

theorem Jaa (op a b c n k : Int) (t : Bool) (w : World) (M : Nat) (ra : Option Addr) (rl rc : Nat) (cv : Value) (x : Ms) (q : Tl) (se : List Se) (h : RunS w M (.slice ra rl rc) cv x q se) (hl : se.length <= 200000) (hok : t = true \/ q.ahead = true) (hrl : rl <= 6)
  (hk : ¬ (0 <= k /\ k < x.st rl)) (hN : J5k op a b c n k t M (.slice ra rl rc) cv x q se) :
  Calls Tryz.prog 63 #[.pointer (some ⟨M, 0, none⟩), .agg #[V op, V a, V b, V c, V n]] w fun e w' => e = .returned (.tuple #[]) /\ RunS w' M (.slice ra rl rc) cv x q (se ++ [⟨2, k, 1⟩]) /\ Below M w w' := by
 have hM := h.lt;have HR := J01 (J2c op a b c n k 1 t _ M (.slice ra rl rc) cv _ q se (h.beside (.cells #[V op, V a, V b, V c, V n] 42)) hl hok (fun w1 m1 => hN w1 _ ((h.beside _).more m1)));have Hk : Hid (¬ (0 <= k /\ k < x.st rl) /\ rl <= 6) := ⟨hk, hrl⟩;clear h hok hN hl hk hrl;go_enter Tryz.func63, Tryz.ntmps63;go_wp2_with (fail)
 refine HR.out.mono ?_;rintro e w2 ⟨rfl, r2, b2⟩;have H2 := J01 (And.intro r2 b2);clear r2 b2 HR;have hW := J2l w2 M ra rl rc cv _ _ k H2.out.1.run Hk.out.2;dsimp only at hW;rw [show (decide (0 <= k) && decide (k < x.st rl)) = false by rw [<- Bool.decide_and]; exact decide_eq_false Hk.out.1] at hW;have HW := J01 hW;clear hW;go_wp2_with (fail)
 refine HW.out.mono ?_;rintro e w3 ⟨rfl, m3⟩;have H3 := J01 (And.intro (H2.out.1.more m3) m3);clear m3 HW;go_wp2;refine bodyPost_ret (results_none (by kernel_rfl) _ _ _) rfl ?_;exact ⟨rfl, H3.out.1.fewer x.mo (fun p hp => List.mem_cons_of_mem _ hp), J14 (Below.trans (J07 (Below.refl _ _) (Nat.le_of_lt hM) _) H2.out.2) (Nat.le_of_lt H2.out.1.lt) H3.out.2⟩

theorem J8v (op a b c n k : Int) (t : Bool) (w : World) (M : Nat) (ra : Option Addr) (rl rc : Nat) (cv : Value) (x : Ms) (q : Tl) (se : List Se) (f : Int -> Int -> Int) (h : RunS w M (.slice ra rl rc) cv x q se) (hl : se.length <= 200000) (hok : t = true \/ q.ahead = true) (hrl : rl <= 6) (a0 : 0 <= a) (a1 : a < 10)
  (hk : 0 <= k /\ k < x.st rl) (hst : x.st rl <= 384) (hp0 : 0 <= q.puts k.toNat) (hp : q.puts k.toNat <= 100000) (hmb : q.mb < M) (hm : MapAt w q.mb f) (hN : J5k op a b c n k t M (.slice ra rl rc) cv x q se) :
  Calls Tryz.prog 63 #[.pointer (some ⟨M, 0, none⟩), .agg #[V op, V a, V b, V c, V n]] w fun e w' => e = .returned (.tuple #[]) /\ Below q.mb w w' /\ MapAt w' q.mb (fun n' t' => if n' = k /\ t' = q.puts k.toNat then x.wd k.toNat else f n' t') /\ RunS w' M (.slice ra rl rc) cv { x with wd := setN x.wd k.toNat (x.r a.toNat) } { q with puts := setN q.puts k.toNat (q.puts k.toNat + 1) } (se ++ [⟨2, k, 1⟩]) := by
 suffices H0 : ∀ P : Ending -> World -> Prop, (∀ e w', (e = .returned (.tuple #[]) /\ Below q.mb w w' /\ MapAt w' q.mb (fun n' t' => if n' = k /\ t' = q.puts k.toNat then x.wd k.toNat else f n' t') /\ RunS w' M (.slice ra rl rc) cv { x with wd := setN x.wd k.toNat (x.r a.toNat) } { q with puts := setN q.puts k.toNat (q.puts k.toNat + 1) } (se ++ [⟨2, k, 1⟩])) -> P e w') -> Calls Tryz.prog 63 #[.pointer (some ⟨M, 0, none⟩), .agg #[V op, V a, V b, V c, V n]] w P from H0 _ (fun _ _ h => h)
 intro P hP;have HP := J01 hP;clear hP;have hM := h.lt;have HR := J01 (J2c op a b c n k 1 t _ M (.slice ra rl rc) cv _ q se (h.beside (.cells #[V op, V a, V b, V c, V n] 42)) hl hok (fun w1 m1 => hN w1 _ ((h.beside _).more m1)));have Hk : Hid ((0 <= k /\ k < x.st rl) /\ rl <= 6 /\ a.toNat < 10 /\ k.toNat < 384 /\ q.puts k.toNat <= 100000 /\ q.mb < M /\ 0 <= q.puts k.toNat) := ⟨hk, hrl, by omega, by omega, hp, hmb, hp0⟩;have HM := J01 hm;have k0 : 0 <= k := hk.1;have k1 : k < 384 := by omega
 clear h hok hN hl hk hrl hm hp hmb hst hp0;go_enter Tryz.func63, Tryz.ntmps63;go_wp2_with (fail)
 refine HR.out.mono ?_;rintro e w2 ⟨rfl, r2, b2⟩;have H2 := J01 (And.intro r2 b2);clear r2 b2 HR;have hW := J2l w2 M ra rl rc cv _ _ k H2.out.1.run Hk.out.2.1;dsimp only at hW;rw [show (decide (0 <= k) && decide (k < x.st rl)) = true by rw [<- Bool.decide_and]; exact decide_eq_true Hk.out.1] at hW;have HW := J01 hW;clear hW;go_wp2_with (fail)
 refine HW.out.mono ?_;rintro e w3 ⟨rfl, m3⟩;have H3 := J01 (And.intro (H2.out.1.more m3) (J14 (Below.trans (J07 (Below.refl _ _) (Nat.le_of_lt hM) _) H2.out.2) (Nat.le_of_lt H2.out.1.lt) m3));have c412 := H3.out.1.map.1;have cp := (H3.out.1.puts k.toNat Hk.out.2.2.2.1).1;have cw := (H3.out.1.run.wd k.toNat Hk.out.2.2.2.1).1;dsimp only at cw;obtain ⟨tm, htm⟩ : ∃ tm, q.puts k.toNat = tm := ⟨_, rfl⟩;obtain ⟨v, hv⟩ : ∃ v, x.wd k.toNat = v := ⟨_, rfl⟩;obtain ⟨mb, hmb⟩ : ∃ mb, q.mb = mb := ⟨_, rfl⟩;rw [htm] at cp;rw [hv] at cw;rw [hmb] at c412;have Hv := J01 (And.intro htm (And.intro hv hmb));clear m3 HW htm hv hmb;have hn : ¬ M = w.heap.size := by omega
 have hn' : ¬ w.heap.size = M := by omega
 obtain ⟨S, HS⟩ : ∃ S : World -> Prop, Hid (∀ w', S w' ↔ (w'.cell? ⟨M, 412, none⟩ = some (.map (some mb)) /\ w'.cell? ⟨M, 413 + k.toNat, none⟩ = some (V tm) /\ w'.cell? ⟨M, 17 + k.toNat, none⟩ = some (V v))) := ⟨_, fun _ => Iff.rfl⟩;have j1 : ∀ i : { w' // S w' }, i.val.cell? ⟨M, 412, none⟩ = some (.map (some mb)) := fun i => ((HS.out _).1 i.property).1
 have j2 : ∀ i : { w' // S w' }, i.val.cell? ⟨M, 413 + k.toNat, none⟩ = some (V tm) := fun i => ((HS.out _).1 i.property).2.1
 have j3 : ∀ i : { w' // S w' }, i.val.cell? ⟨M, 17 + k.toNat, none⟩ = some (V v) := fun i => ((HS.out _).1 i.property).2.2
 have hne : Nonempty { w' // S w' } := ⟨⟨w3, (HS.out _).2 ⟨c412, cp, cw⟩⟩⟩;have hS3 : S w3.drew := (HS.out _).2 ⟨c412, cp, cw⟩;go_wp2_with (fail)
 refine J03 (S := S) [(0, true), (1, true), (2, true), (3, true), (4, true), (5, true), (6, true), (7, true), (8, true), (9, true), (10, true), (11, true), (12, true), (13, true), (14, true), (15, true), (16, true), (17, true), (18, true), (19, true), (20, false)] (by kernel_rfl) (by kernel_rfl) (by kernel_rfl) hS3 ?_
 iterate 20 (refine J00 rfl (by kernel_rfl) (fun K hK => ?_); go_simp; refine hK _ _ ?_; clear hK K)
 refine J02 rfl (by kernel_rfl) (fun K hK => ?_)
 have hm3 : MapAt w3.drew mb f := by
  have := (HM.out.below H3.out.2 Hk.out.2.2.2.2.2.1).block (w' := w3.drew) rfl;rw [Hv.out.2.2] at this;exact this
 have hmM : mb < M := by rw [<- Hv.out.2.2]; exact Hk.out.2.2.2.2.2.1
 refine Jgd (.tmp 25) (.tmp 33) (.tmp 41) rfl mb f k tm v rfl rfl rfl hm3 (by unfold B64; omega) (by have h1 := Hk.out.2.2.2.2.1; have h2 := Hk.out.2.2.2.2.2.2; rw [Hv.out.1] at h1 h2; unfold B64; omega) ?_;intro w4 m4 g4;have r4 := H3.out.1.drew.kept g4 (fun b hb => by have := Option.some.inj hb; omega);obtain ⟨c413, f413⟩ := r4.puts k.toNat Hk.out.2.2.2.1;rw [Hv.out.1] at c413;obtain ⟨c17, f17⟩ := r4.run.wd k.toNat Hk.out.2.2.2.1;have c7 := (r4.run.r a.toNat Hk.out.2.2.1).1;have c412' := r4.map.1;rw [Hv.out.2.2] at c412';have q4 := J05 (r4.left (List.mem_cons_self)) 1 (V a) (by simp);dsimp only at q4 c7 c17;rw [Hv.out.2.1] at c17;obtain ⟨ya, hya⟩ : ∃ y, x.r a.toNat = y := ⟨_, rfl⟩;rw [hya] at c7;have H4 := J01 (And.intro r4 (And.intro m4 (And.intro g4 hya)));refine hK _ _ ((HS.out _).2 ⟨c412', c413, c17⟩) ?_; clear hK K;refine J04 ?_;clear j1 j2 j3 hne hS3 hm3 r4 m4 g4 hya c412 cp cw c412';have hwt : wrap64 (tm + 1) = tm + 1 := by have h1 := Hk.out.2.2.2.2.1; have h2 := Hk.out.2.2.2.2.2.2; rw [Hv.out.1] at h1 h2; unfold wrap64; omega
 have hwr := J1y;have hnk : ¬ 7 + a.toNat = 413 + k.toNat := by have := Hk.out.2.2.1; omega
 have hnk' : ¬ 17 + k.toNat = 413 + k.toNat := by omega
 go_simp
 go_wp2_with (fail)
 go_region
 go_wp2_with (fail)
 go_region
 go_wp2;go_end0;obtain ⟨e1, e2, e3⟩ := Hv.out;have h5 := ((((H4.out.1.setPut k.toNat Hk.out.2.2.2.1 (tm + 1)).drew).setWd k.toNat Hk.out.2.2.2.1 ya).drew).fewer x.mo (fun p hp => List.mem_cons_of_mem _ hp);refine HP.out _ _ ⟨rfl, ?_, ?_, ?_⟩
 ·rw [e3]
  have hle : mb <= M := Nat.le_of_lt hmM;exact J0b (J0b (Below.setCell (Below.setCell (Below.grown (J0b (Below.mono H3.out.2 hle)) H4.out.2.2.1 (by have := H3.out.1.lt; simp; omega) (fun b hb => by have := Option.some.inj hb; omega)) hle _) hle _))
 ·rw [e1, e2, e3]
  refine H4.out.2.1.block ?_;show ((w4.setCell ⟨M, 413 + k.toNat, none⟩ _).setCell ⟨M, 17 + k.toNat, none⟩ _).heap[mb]? = _;rw [Below.heap_setCell _ _ _ _ (by dsimp only; omega), Below.heap_setCell _ _ _ _ (by dsimp only; omega)]
 ·rw [e1, H4.out.2.2.2]
  exact h5
theorem RunS.next {w : World} {M : Nat} {rv cv : Value} {x : Ms} {q : Tl} {se : List Se} (h : RunS w M rv cv x q se) : Wr w M 401 (V x.next) := h.run.next

theorem Jbl (a b c n oth : Int) (hh : Bool) (w : World) (M B : Nat) (rv cv : Value) (x x2 : Ms) (q : Tl) (se : List Se) (L : List Int) (h : RunS w M rv cv x q se) (hB : B <= M) (hs : ScAt w B q.sc L) (s0 : 0 <= x2.steps) (s1 : x2.steps <= 100000)
  (hoth : oth = if hh = true then x.next else n)
  (hH : ∀ w1 mo, RunS w1 M rv cv { x with mo := mo } q se -> Calls Tryz.prog 84 #[.pointer (some ⟨M, 0, none⟩), .agg #[V 8, V a, V b, V c, V n]] w1 fun e w' => e = .returned (.bool hh) /\ More w1 w')
  (hD : ∀ w1 mo, RunS w1 M rv cv { x with mo := mo } q se -> Calls Tryz.prog 65 #[.pointer (some ⟨M, 0, none⟩), .agg #[V 8, V a, V b, V c, V n]] w1 fun e w' => e = .returned (.tuple #[]) /\ RunS w' M rv cv { x2 with mo := mo } q se /\ Below M w1 w') :
  Calls Tryz.prog 61 #[.pointer (some ⟨M, 0, none⟩), .agg #[V 8, V a, V b, V c, V n]] w fun e w' => e = .returned (.tuple #[]) /\ Below M w w' /\ ∃ sc', ScAt w' B sc' L.tail /\
   RunS w' M rv cv (if L.headD 0 = 0 then { x2 with mo := x.mo } else { x2 with next := oth, mo := x.mo }) (if L.headD 0 = 0 then { q with sc := sc' } else Tl.left { q with sc := sc' } x2) se := by
 suffices H0 : ∀ P : Ending -> World -> Prop, (∀ e w', (e = .returned (.tuple #[]) /\ Below M w w' /\ ∃ sc', ScAt w' B sc' L.tail /\
   RunS w' M rv cv (if L.headD 0 = 0 then { x2 with mo := x.mo } else { x2 with next := oth, mo := x.mo }) (if L.headD 0 = 0 then { q with sc := sc' } else Tl.left { q with sc := sc' } x2) se) -> P e w') -> Calls Tryz.prog 61 #[.pointer (some ⟨M, 0, none⟩), .agg #[V 8, V a, V b, V c, V n]] w P from H0 _ (fun _ _ h => h)
 intro P hP;obtain ⟨d, hd⟩ : ∃ d, L.headD 0 = d := ⟨_, rfl⟩;rw [hd] at hP;have HP := J01 hP;have Hd := J01 hd;clear hP hd;have hM := h.lt;have hn : ¬ M = w.heap.size := by omega
 have hn' : ¬ w.heap.size = M := by omega
 have hx := h.next.1;obtain ⟨nx, hnx⟩ : ∃ nx, x.next = nx := ⟨_, rfl⟩;rw [hnx] at hx hoth;have H := J01 (And.intro (h.beside (.cells #[V 8, V a, V b, V c, V n] 42)) (And.intro hs (And.intro hB (And.intro s0 s1))));have HH := J01 hH;have HD := J01 hD;have Ho := J01 hoth;clear h hs hB s0 s1 hH hD hoth hnx;obtain ⟨S, HS⟩ : ∃ S : World -> Prop, Hid (∀ w', S w' ↔ More (w.alloc (.cells #[V 8, V a, V b, V c, V n] 42)) w') := ⟨_, fun _ => Iff.rfl⟩;have k0 : ∀ i : { w' // S w' }, i.val.cell? ⟨w.heap.size, 0, none⟩ = some (V 8) := fun i => ((HS.out _).1 i.property).cell (by go_simp)
 have k1 : ∀ i : { w' // S w' }, i.val.cell? ⟨w.heap.size, 1, none⟩ = some (V a) := fun i => ((HS.out _).1 i.property).cell (by go_simp)
 have k2 : ∀ i : { w' // S w' }, i.val.cell? ⟨w.heap.size, 2, none⟩ = some (V b) := fun i => ((HS.out _).1 i.property).cell (by go_simp)
 have k3 : ∀ i : { w' // S w' }, i.val.cell? ⟨w.heap.size, 3, none⟩ = some (V c) := fun i => ((HS.out _).1 i.property).cell (by go_simp)
 have k4 : ∀ i : { w' // S w' }, i.val.cell? ⟨w.heap.size, 4, none⟩ = some (V n) := fun i => ((HS.out _).1 i.property).cell (by go_simp)
 have hne : Nonempty { w' // S w' } := ⟨⟨_, (HS.out _).2 (More.refl _)⟩⟩;go_enter Tryz.func61, Tryz.ntmps61;go_wp2_with (fail)
 refine J03 (S := S) [(0, true), (1, true), (2, true), (3, true), (4, false), (5, true)] (by kernel_rfl) (by kernel_rfl) (by kernel_rfl) ((HS.out _).2 (More.refl _).drew) ?_
 iterate 4 (refine J00 rfl (by kernel_rfl) (fun K hK => ?_); go_simp; refine hK _ _ ?_; clear hK K)
 refine J02 rfl (by kernel_rfl) (fun K hK => ?_); go_simp;refine (HH.out _ _ H.out.1.drew).mono ?_;rintro e w5 ⟨rfl, m5⟩;have Hm5 : Hid (More (w.alloc (.cells #[V 8, V a, V b, V c, V n] 42)) w5) := (More.refl _).drew.trans m5;have q0 := Hm5.out.cell (a := ⟨w.heap.size, 0, none⟩) (v := V 8) (by go_simp);have q1 := Hm5.out.cell (a := ⟨w.heap.size, 1, none⟩) (v := V a) (by go_simp);have q2 := Hm5.out.cell (a := ⟨w.heap.size, 2, none⟩) (v := V b) (by go_simp);have q3 := Hm5.out.cell (a := ⟨w.heap.size, 3, none⟩) (v := V c) (by go_simp);have q4 := Hm5.out.cell (a := ⟨w.heap.size, 4, none⟩) (v := V n) (by go_simp);clear m5
 go_simp
 refine hK _ _ ((HS.out _).2 Hm5.out) ?_; clear hK K;refine J00 rfl (by kernel_rfl) (fun K hK => ?_); go_simp; refine hK _ _ ?_; clear hK K;refine J04 ?_;clear k0 k1 k2 k3 k4 hne;have hr5 := H.out.1.more Hm5.out;have hb5 : Below M w w5 := J14 (J07 (Below.refl _ _) (Nat.le_of_lt hM) _) (by have := H.out.1.lt; omega) Hm5.out;have H5 := J01 (And.intro hr5 hb5);have HD5 := J01 (HD.out _ _ H5.out.1.drew);clear hr5 hb5 HS HH HD;cases hh with
 | true =>
  obtain rfl : oth = nx := Ho.out;clear Ho;go_wp2_with (fail)
  go_region_with (go_at_call 65; refine HD5.out.mono ?_; rintro e w6 ⟨rfl, r6, b6⟩; have H6 := J01 (And.intro r6 (Below.trans (J0b H5.out.2) b6)); clear r6 b6)
  clear HD5;have hCh := (J3k w6 M B rv cv _ q _ L H6.out.1 (H.out.2.1.below (Below.mono H6.out.2 H.out.2.2.1)) H.out.2.2.1);rw [Hd.out] at hCh;have HCh := J01 hCh;clear hCh;by_cases d0 : d = 0
  ·subst d0
   go_wp2_with (fail)
   refine HCh.out.mono ?_;rintro e w7 ⟨rfl, b7, sc', r7, s7⟩;have H7 := J01 (And.intro r7 (And.intro s7 (Below.trans H6.out.2 b7)));clear r7 s7 b7 HCh;go_wp2;go_end0;refine HP.out _ _ ⟨rfl, H7.out.2.2, sc', H7.out.2.1, ?_⟩;rw [if_pos trivial, if_pos trivial];exact H7.out.1.fewer x.mo (fun p hp => List.mem_cons_of_mem _ hp)
  ·have d0' : (d == 0) = false := by simp [d0]
   go_wp2_with (fail)
   refine HCh.out.mono ?_;rintro e w7 ⟨rfl, b7, sc', r7, s7⟩;have H7 := J01 (And.intro r7 (And.intro s7 (Below.trans H6.out.2 b7)));clear r7 s7 b7 HCh;have HLv := J01 (J5e w7 M rv cv _ _ _ H7.out.1 H.out.2.2.2.1 H.out.2.2.2.2);go_wp2_with (fail)
   refine HLv.out.mono ?_;rintro e w8 ⟨rfl, r8, b8⟩;have H8 := J01 (And.intro r8 (And.intro (H7.out.2.1.below (Below.mono b8 H.out.2.2.1)) (Below.trans H7.out.2.2 b8)));obtain ⟨y8, f8⟩ := r8.next;dsimp only at y8;clear r8 b8 HLv;go_wp2;go_end0;refine HP.out _ _ ⟨rfl, J0i H8.out.2.2 _ _, sc', H8.out.2.1.below (Below.mono (J0i (Below.refl _ _) _ _) H.out.2.2.1), ?_⟩;rw [if_neg d0, if_neg d0];exact (H8.out.1.setNext _).fewer x.mo (fun p hp => List.mem_cons_of_mem _ hp)
 | false =>
  obtain rfl : oth = n := Ho.out;clear Ho;go_wp2_with (fail)
  go_region_with (go_at_call 65; refine HD5.out.mono ?_; rintro e w6 ⟨rfl, r6, b6⟩; have H6 := J01 (And.intro r6 (Below.trans (J0b H5.out.2) b6)); clear r6 b6)
  clear HD5;have hCh := (J3k w6 M B rv cv _ q _ L H6.out.1 (H.out.2.1.below (Below.mono H6.out.2 H.out.2.2.1)) H.out.2.2.1);rw [Hd.out] at hCh;have HCh := J01 hCh;clear hCh;by_cases d0 : d = 0
  ·subst d0
   go_wp2_with (fail)
   refine HCh.out.mono ?_;rintro e w7 ⟨rfl, b7, sc', r7, s7⟩;have H7 := J01 (And.intro r7 (And.intro s7 (Below.trans H6.out.2 b7)));clear r7 s7 b7 HCh;go_wp2;go_end0;refine HP.out _ _ ⟨rfl, H7.out.2.2, sc', H7.out.2.1, ?_⟩;rw [if_pos trivial, if_pos trivial];exact H7.out.1.fewer x.mo (fun p hp => List.mem_cons_of_mem _ hp)
  ·have d0' : (d == 0) = false := by simp [d0]
   go_wp2_with (fail)
   refine HCh.out.mono ?_;rintro e w7 ⟨rfl, b7, sc', r7, s7⟩;have H7 := J01 (And.intro r7 (And.intro s7 (Below.trans H6.out.2 b7)));clear r7 s7 b7 HCh;have HLv := J01 (J5e w7 M rv cv _ _ _ H7.out.1 H.out.2.2.2.1 H.out.2.2.2.2);go_wp2_with (fail)
   refine HLv.out.mono ?_;rintro e w8 ⟨rfl, r8, b8⟩;have H8 := J01 (And.intro r8 (And.intro (H7.out.2.1.below (Below.mono b8 H.out.2.2.1)) (Below.trans H7.out.2.2 b8)));obtain ⟨y8, f8⟩ := r8.next;dsimp only at y8;clear r8 b8 HLv;go_wp2;go_end0;refine HP.out _ _ ⟨rfl, J0i H8.out.2.2 _ _, sc', H8.out.2.1.below (Below.mono (J0i (Below.refl _ _) _ _) H.out.2.2.1), ?_⟩;rw [if_neg d0, if_neg d0];exact (H8.out.1.setNext _).fewer x.mo (fun p hp => List.mem_cons_of_mem _ hp)
end
end Go.Proofs.YtapagihngaiebaaGreat
