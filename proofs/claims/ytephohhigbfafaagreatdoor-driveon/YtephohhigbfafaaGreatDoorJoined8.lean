/-
  The texts SReach, STake, SPut, SBranch, SStep, Told, SGoes, SSim, SActs, one behind the other, with what is used of them.
-/
import Derived.Test.YtephohhigbfafaaGreatDoorJoined7
import Derived.Deep.RegionWith
import Derived.Test.YtephohhigbfafaaGreatDoorJoined5
import Derived.Test.YtephohhigbfafaaGreatDoorJoined6
import Derived.Lib.SliceRun
namespace Go.Proofs.YtephohhigbfafaaGreatDoor
section
open Go.RowKit
set_option linter.unusedSimpArgs false
set_option linter.unusedVariables false
set_option maxRecDepth 8000
def numI (x : Ms) (i : Ins) : Int := wrap64 (idxI x.r i + x.st i.c.toNat)

theorem J8v (i : Ins) (w : World) (M : Nat) (rv cv : Value) (x : Ms) (se : List Se) (h : Run w M rv cv x se) (hop : i.op = 3 ∨ i.op = 4 ∨ i.op = 5 ∨ i.op = 6) (b0 : 0 ≤ i.b) (b1 : i.b < 10) (c0 : 0 ≤ i.c) (c1 : i.c < 6)
  (s0 : 0 ≤ x.st i.c.toNat) (s1 : x.st i.c.toNat ≤ x.st (i.c.toNat + 1)) (s2 : x.st (i.c.toNat + 1) ≤ 384) :
  Calls Tryz.prog 95 #[.pointer (some ⟨M, 0, none⟩), .agg #[V i.op, V i.a, V i.b, V i.c, V i.n]] w fun e w' =>
   e = .returned (.tuple #[V (numI x i), .bool (decide (0 ≤ idxI x.r i ∧ idxI x.r i < x.st (i.c.toNat + 1) - x.st i.c.toNat))]) ∧ More w w' := by
 have ws : wrap64 (x.st (i.c.toNat + 1) - x.st i.c.toNat) = x.st (i.c.toNat + 1) - x.st i.c.toNat := by unfold wrap64; omega
 have hs := (h.st i.c.toNat (by omega)).1
 have ht := (h.st (i.c.toNat + 1) (by omega)).1
 rw [show i.c.toNat + 1 = (i.c + 1).toNat by omega] at ht
 have fin : ∀ (e : Ending) (w' : World), (e = .returned (.tuple #[V (wrap64 (idxI x.r i + x.st i.c.toNat)), .bool (decide (0 ≤ idxI x.r i) && decide (idxI x.r i < wrap64 (x.st (i.c.toNat + 1) - x.st i.c.toNat)))]) ∧ More w w') →
   e = .returned (.tuple #[V (numI x i), .bool (decide (0 ≤ idxI x.r i ∧ idxI x.r i < x.st (i.c.toNat + 1) - x.st i.c.toNat))]) ∧ More w w' := by
  rintro e w' ⟨rfl, m⟩
  rw [ws]
  exact ⟨by rw [Bool.decide_and]; rfl, m⟩
 by_cases h34 : i.op = 3 ∨ i.op = 4
 ·have hx := (h.r i.b.toNat (by omega)).1
  have e : idxI x.r i = wrap64 (i.n + x.r i.b.toNat) := by unfold idxI; rw [if_neg (by omega), Int.add_comm]
  rw [show (i.c.toNat + 1) = (i.c + 1).toNat by omega] at fin ⊢
  exact (J73 i.op i.a i.b i.c i.n _ _ _ _ w M h34 b0 b1 c0 c1 e.symm hs ht hx h.lt).mono fin
 ·have e : idxI x.r i = i.n := by unfold idxI; rw [if_pos (by omega)]
  rw [show (i.c.toNat + 1) = (i.c + 1).toNat by omega] at fin ⊢
  rw [e] at fin ⊢
  exact (J72 i.op i.a i.b i.c i.n _ _ w M (by omega) c0 c1 hs ht h.lt).mono fin

theorem J2a (op a b c n k how : Int) (t : Bool) (w : World) (M : Nat) (rv cv : Value) (x : Ms) (q : Tl) (se : List Se) (h : RunS w M rv cv x q se) (hl : se.length ≤ 200000) (hok : t = true ∨ q.ahead = true)
  (hN : ∀ w1, More w w1 → Calls Tryz.prog 95 #[.pointer (some ⟨M, 0, none⟩), .agg #[V op, V a, V b, V c, V n]] w1 fun e w' => e = .returned (.tuple #[V k, .bool t]) ∧ More w1 w') :
  Calls Tryz.prog 101 #[.pointer (some ⟨M, 0, none⟩), .agg #[V op, V a, V b, V c, V n], V how] w fun e w' =>
   e = .returned (.tuple #[V k, .bool true]) ∧ RunS w' M rv cv x q (se ++ [⟨2, k, how⟩]) ∧ Below M w w' := by
 have HN := J00 hN
 have H : Hid (RunS w M rv cv x q se ∧ se.length ≤ 200000) := ⟨h, hl⟩
 obtain ⟨S, HS⟩ : ∃ S : World → Prop, Hid (∀ w', S w' ↔ More (w.alloc (.cells #[V op, V a, V b, V c, V n] 41)) w') := ⟨_, fun _ => Iff.rfl⟩
 have k0 : ∀ i : { w' // S w' }, i.val.cell? ⟨w.heap.size, 0, none⟩ = some (V op) := fun i => ((HS.out _).1 i.property).cell (by go_simp)
 have k1 : ∀ i : { w' // S w' }, i.val.cell? ⟨w.heap.size, 1, none⟩ = some (V a) := fun i => ((HS.out _).1 i.property).cell (by go_simp)
 have k2 : ∀ i : { w' // S w' }, i.val.cell? ⟨w.heap.size, 2, none⟩ = some (V b) := fun i => ((HS.out _).1 i.property).cell (by go_simp)
 have k3 : ∀ i : { w' // S w' }, i.val.cell? ⟨w.heap.size, 3, none⟩ = some (V c) := fun i => ((HS.out _).1 i.property).cell (by go_simp)
 have k4 : ∀ i : { w' // S w' }, i.val.cell? ⟨w.heap.size, 4, none⟩ = some (V n) := fun i => ((HS.out _).1 i.property).cell (by go_simp)
 have hne : Nonempty { w' // S w' } := ⟨⟨_, (HS.out _).2 (More.refl _)⟩⟩
 have ca := h.ahead.1
 have Hok : Hid (t = true ∨ q.ahead = true) := hok
 clear h hl hN hok
 go_enter Tryz.func101, Tryz.ntmps101
 go_wp2_with (fail)
 refine J03 (S := S) [(0, true), (1, true), (2, true), (3, true), (4, false), (5, true), (6, true), (7, true), (8, true), (9, true)] (by kernel_rfl) (by kernel_rfl) (by kernel_rfl) ((HS.out _).2 (More.refl _).drew) ?_
 iterate 4 (refine J01 rfl (by kernel_rfl) (fun K hK => ?_); go_simp; refine hK _ _ ?_; clear hK K)
 refine J02 rfl (by kernel_rfl) (fun K hK => ?_); go_simp
 refine (HN.out _ ((More.refl _).alloc _ _).drew).mono ?_
 rintro e w5 ⟨rfl, m5⟩
 have Hm5 : Hid (More (w.alloc (.cells #[V op, V a, V b, V c, V n] 41)) w5) := (More.refl _).drew.trans m5
 have Hm : Hid (More w w5) := ((More.refl _).alloc _ _).trans Hm5.out
 have ca5 := Hm.out.cell ca
 clear m5
 go_simp
 refine hK _ _ ((HS.out _).2 Hm5.out) ?_; clear hK K
 iterate 5 (refine J01 rfl (by kernel_rfl) (fun K hK => ?_); go_simp; refine hK _ _ ?_; clear hK K)
 refine J07 ?_
 clear k0 k1 k2 k3 k4 hne ca
 cases t with
 | true =>
  go_wp2_with (fail)
  refine (J3v _ M rv cv _ se 2 k how H.out.2 (H.out.1.more Hm.out).run).mono ?_
  rintro e w2 ⟨rfl, r2, b2, _⟩
  have H2 : Hid (RunS w2 M rv cv x q (se ++ [⟨2, k, how⟩]) ∧ Below M w w2) := ⟨⟨r2⟩, Below.trans (Below.mono Hm.out (Nat.le_of_lt H.out.1.lt)) b2⟩
  clear r2 b2
  go_wp2
  go_ret2
  exact ⟨rfl, H2.out.1, H2.out.2⟩
 | false =>
  have ha : q.ahead = true := by rcases Hok.out with h | h; cases h; exact h
  rw [ha] at ca5
  clear ha
  go_wp2_with (fail)
  refine (J3v _ M rv cv _ se 2 k how H.out.2 (H.out.1.more Hm.out).run).mono ?_
  rintro e w2 ⟨rfl, r2, b2, _⟩
  have H2 : Hid (RunS w2 M rv cv x q (se ++ [⟨2, k, how⟩]) ∧ Below M w w2) := ⟨⟨r2⟩, Below.trans (Below.mono Hm.out (Nat.le_of_lt H.out.1.lt)) b2⟩
  clear r2 b2
  go_wp2
  go_ret2
  exact ⟨rfl, H2.out.1, H2.out.2⟩

theorem J67 (op a b c n k how : Int) (w : World) (M : Nat) (rv cv : Value) (x : Ms) (q : Tl) (se : List Se) (h : RunS w M rv cv x q se) (ha : q.ahead = false)
  (hN : ∀ w1, More w w1 → Calls Tryz.prog 95 #[.pointer (some ⟨M, 0, none⟩), .agg #[V op, V a, V b, V c, V n]] w1 fun e w' => e = .returned (.tuple #[V k, .bool false]) ∧ More w1 w') :
  Calls Tryz.prog 101 #[.pointer (some ⟨M, 0, none⟩), .agg #[V op, V a, V b, V c, V n], V how] w fun e w' =>
   e = .returned (.tuple #[V 0, .bool false]) ∧ RunS w' M rv cv { x with fin := 2, ended := true } q se ∧ Below M w w' := by
 have HN := J00 hN
 have H : Hid (RunS w M rv cv x q se) := h
 obtain ⟨S, HS⟩ : ∃ S : World → Prop, Hid (∀ w', S w' ↔ More (w.alloc (.cells #[V op, V a, V b, V c, V n] 41)) w') := ⟨_, fun _ => Iff.rfl⟩
 have k0 : ∀ i : { w' // S w' }, i.val.cell? ⟨w.heap.size, 0, none⟩ = some (V op) := fun i => ((HS.out _).1 i.property).cell (by go_simp)
 have k1 : ∀ i : { w' // S w' }, i.val.cell? ⟨w.heap.size, 1, none⟩ = some (V a) := fun i => ((HS.out _).1 i.property).cell (by go_simp)
 have k2 : ∀ i : { w' // S w' }, i.val.cell? ⟨w.heap.size, 2, none⟩ = some (V b) := fun i => ((HS.out _).1 i.property).cell (by go_simp)
 have k3 : ∀ i : { w' // S w' }, i.val.cell? ⟨w.heap.size, 3, none⟩ = some (V c) := fun i => ((HS.out _).1 i.property).cell (by go_simp)
 have k4 : ∀ i : { w' // S w' }, i.val.cell? ⟨w.heap.size, 4, none⟩ = some (V n) := fun i => ((HS.out _).1 i.property).cell (by go_simp)
 have hne : Nonempty { w' // S w' } := ⟨⟨_, (HS.out _).2 (More.refl _)⟩⟩
 have ca := h.ahead.1
 rw [ha] at ca
 clear h hN ha
 go_enter Tryz.func101, Tryz.ntmps101
 go_wp2_with (fail)
 refine J03 (S := S) [(0, true), (1, true), (2, true), (3, true), (4, false), (5, true), (6, true), (7, true), (8, true), (9, true)] (by kernel_rfl) (by kernel_rfl) (by kernel_rfl) ((HS.out _).2 (More.refl _).drew) ?_
 iterate 4 (refine J01 rfl (by kernel_rfl) (fun K hK => ?_); go_simp; refine hK _ _ ?_; clear hK K)
 refine J02 rfl (by kernel_rfl) (fun K hK => ?_); go_simp
 refine (HN.out _ ((More.refl _).alloc _ _).drew).mono ?_
 rintro e w5 ⟨rfl, m5⟩
 have Hm5 : Hid (More (w.alloc (.cells #[V op, V a, V b, V c, V n] 41)) w5) := (More.refl _).drew.trans m5
 have Hm : Hid (More w w5) := ((More.refl _).alloc _ _).trans Hm5.out
 have ca5 := Hm.out.cell ca
 clear m5
 go_simp
 refine hK _ _ ((HS.out _).2 Hm5.out) ?_; clear hK K
 iterate 5 (refine J01 rfl (by kernel_rfl) (fun K hK => ?_); go_simp; refine hK _ _ ?_; clear hK K)
 refine J07 ?_
 clear k0 k1 k2 k3 k4 hne ca
 go_wp2_with (fail)
 refine (J3k _ M rv cv _ se 2 (H.out.more Hm.out).run).mono ?_
 rintro e w2 ⟨rfl, r2, b2⟩
 have H2 : Hid (RunS w2 M rv cv { x with fin := 2, ended := true } q se ∧ Below M w w2) := ⟨⟨r2⟩, Below.trans (Below.mono Hm.out (Nat.le_of_lt H.out.lt)) b2⟩
 clear r2 b2
 go_wp2
 go_ret2
 exact ⟨rfl, H2.out.1, H2.out.2⟩

set_option maxHeartbeats 400000 in
theorem J19 (op a b c n : Int) (w : World) (M : Nat) (rv cv : Value) (x : Ms) (q : Tl) (se : List Se) (h : RunS w M rv cv x q se) :
  Calls Tryz.prog 72 #[.pointer (some ⟨M, 0, none⟩), .agg #[V op, V a, V b, V c, V n]] w fun e w' => e = .returned (.bool (decide (op = 12 ∨ op = 9 ∨ x.steps = q.til))) ∧ More w w' := by
 have hM := h.lt
 have hn : ¬ M = w.heap.size := by omega
 have hn' : ¬ w.heap.size = M := by omega
 have cs := h.run.steps.1
 have ct := h.til.1
 dsimp only at cs
 obtain ⟨s, hs⟩ : ∃ s, x.steps = s := ⟨_, rfl⟩
 obtain ⟨t, ht⟩ : ∃ t, q.til = t := ⟨_, rfl⟩
 rw [hs] at cs ⊢
 rw [ht] at ct ⊢
 clear h hs ht
 by_cases h12 : op = 12
 ·subst h12
  go_enter Tryz.func72, Tryz.ntmps72
  go_wp2
  go_region
  go_wp2
  go_ret
  exact ⟨by simp, ((More.refl _).alloc _ _).drew⟩
 have h12' : (op == 12) = false := by simp [h12]
 by_cases h9 : op = 9
 ·subst h9
  go_enter Tryz.func72, Tryz.ntmps72
  go_wp2
  go_region
  go_wp2
  go_ret
  exact ⟨by simp, ((More.refl _).alloc _ _).drew⟩
 have h9' : (op == 9) = false := by simp [h9]
 go_enter Tryz.func72, Tryz.ntmps72
 go_wp2
 go_region
 go_wp2
 go_ret
 exact ⟨by simp [h12, h9]; by_cases e : s = t <;> simp [e], ((More.refl _).alloc _ _).drew⟩

theorem J87 (op a b c n : Int) (w : World) (M : Nat) (rv cv : Value) (x : Ms) (q : Tl) (se : List Se) (h : RunS w M rv cv x q se) (ha : q.ahead = true) :
  Calls Tryz.prog 71 #[.pointer (some ⟨M, 0, none⟩), .agg #[V op, V a, V b, V c, V n]] w fun e w' => e = .returned (.tuple #[]) ∧ More w w' := by
 have hM := h.lt
 have ca := h.ahead.1
 rw [ha] at ca
 clear h ha
 go_enter Tryz.func71, Tryz.ntmps71
 go_wp2
 go_end0
 exact ⟨rfl, (More.refl _).alloc _ _⟩

theorem Jil (op a b c n : Int) (w : World) (M : Nat) (rv cv : Value) (x x2 : Ms) (q q2 : Tl) (se se2 : List Se) (h : RunS w M rv cv x q se) (ha : q.ahead = false)
  (hD : ∀ w1, More w w1 → Calls Tryz.prog 26 #[.pointer (some ⟨M, 0, none⟩), .agg #[V op, V a, V b, V c, V n]] w1 fun e w' => e = .returned (.tuple #[]) ∧ RunS w' M rv cv x2 q2 se2 ∧ Below M w1 w') :
  Calls Tryz.prog 71 #[.pointer (some ⟨M, 0, none⟩), .agg #[V op, V a, V b, V c, V n]] w fun e w' => e = .returned (.tuple #[]) ∧ RunS w' M rv cv x2 q2 se2 ∧ Below M w w' := by
 have hM := h.lt
 have ca := h.ahead.1
 rw [ha] at ca
 have HD := J00 hD
 clear h ha hD
 go_enter Tryz.func71, Tryz.ntmps71
 go_wp2_with (fail)
 go_region_with (go_at_call 26; refine (HD.out _ ?_).mono ?_; exact ((More.refl _).alloc _ _).drew; rintro e w2 ⟨rfl, r2, b2⟩; have H2 := J00 (And.intro r2 b2); clear r2 b2)
 go_wp2
 go_end0
 exact ⟨rfl, H2.out.1, Below.trans (J08 (J05 (Below.refl _ _) (Nat.le_of_lt hM) _)) H2.out.2⟩
def Tl.left (q : Tl) (x : Ms) : Tl := if q.ahead = true then q else { q with ahead := true, br := x.r, bw := x.wd, bn := x.next, bp := q.puts, til := x.steps + 12 }

theorem J6k (w : World) (M : Nat) (rv cv : Value) (x : Ms) (q : Tl) (se : List Se) (h : RunS w M rv cv x q se) (s0 : 0 ≤ x.steps) (s1 : x.steps ≤ 100000) :
  Calls Tryz.prog 100 #[.pointer (some ⟨M, 0, none⟩)] w fun e w' => e = .returned (.tuple #[]) ∧ RunS w' M rv cv x (q.left x) se ∧ Below M w w' := by
 unfold Tl.left
 by_cases ha : q.ahead = true
 ·rw [if_pos ha]
  refine (J50 w M rv cv x q se h ha).mono ?_
  rintro e w' ⟨rfl, rfl⟩
  exact ⟨rfl, h, Below.refl _ _⟩
 ·rw [if_neg ha]
  exact Jbz w M rv cv x q se h (by simpa using ha) s0 s1

theorem MapAt.below {w w' : World} {b M : Nat} {f : Int → Int → Int} (h : MapAt w b f) (hb : Below M w w') (hlt : b < M) : MapAt w' b f := h.block (Below.block hb b hlt)
def J6r (op a b c n k : Int) (t : Bool) (M : Nat) (rv cv : Value) (x : Ms) (q : Tl) (se : List Se) : Prop :=
 ∀ w1 mo, RunS w1 M rv cv { x with mo := mo } q se → Calls Tryz.prog 95 #[.pointer (some ⟨M, 0, none⟩), .agg #[V op, V a, V b, V c, V n]] w1 fun e w' => e = .returned (.tuple #[V k, .bool t]) ∧ More w1 w'

theorem Jc2 (op a b c n k : Int) (w : World) (M : Nat) (rv cv : Value) (x : Ms) (q : Tl) (se : List Se) (h : RunS w M rv cv x q se) (ha : q.ahead = false) (hN : J6r op a b c n k false M rv cv x q se) :
  Calls Tryz.prog 69 #[.pointer (some ⟨M, 0, none⟩), .agg #[V op, V a, V b, V c, V n]] w fun e w' => e = .returned (.tuple #[]) ∧ RunS w' M rv cv { x with fin := 2, ended := true } q se ∧ Below M w w' := by
 have hM := h.lt
 have HR := J00 (J67 op a b c n k 0 _ M rv cv _ q se (h.beside (.cells #[V op, V a, V b, V c, V n] 41)) ha (fun w1 m1 => hN w1 _ ((h.beside _).more m1)))
 clear h ha hN
 go_enter Tryz.func69, Tryz.ntmps69
 go_wp2_with (fail)
 refine HR.out.mono ?_
 rintro e w2 ⟨rfl, r2, b2⟩
 have H2 := J00 (And.intro r2 b2)
 clear r2 b2 HR
 go_wp2
 refine bodyPost_ret (results_none (by kernel_rfl) _ _ _) rfl ?_
 exact ⟨rfl, H2.out.1.fewer x.mo (fun p hp => List.mem_cons_of_mem _ hp), Below.trans (J05 (Below.refl _ _) (Nat.le_of_lt hM) _) H2.out.2⟩

set_option maxHeartbeats 400000 in
theorem Jak (op a b c n k : Int) (t : Bool) (w : World) (M : Nat) (ra : Option Addr) (rl rc : Nat) (cv : Value) (x : Ms) (q : Tl) (se : List Se) (h : RunS w M (.slice ra rl rc) cv x q se) (hl : se.length ≤ 200000) (hok : t = true ∨ q.ahead = true) (hrl : rl ≤ 6) (a0 : 0 ≤ a) (a1 : a < 10)
  (hk : ¬ (0 ≤ k ∧ k < x.st rl)) (hN : J6r op a b c n k t M (.slice ra rl rc) cv x q se) :
  Calls Tryz.prog 69 #[.pointer (some ⟨M, 0, none⟩), .agg #[V op, V a, V b, V c, V n]] w fun e w' => e = .returned (.tuple #[]) ∧ RunS w' M (.slice ra rl rc) cv { x with r := setR x.r a 0 } q (se ++ [⟨2, k, 0⟩]) ∧ Below M w w' := by
 have hM := h.lt
 have HR := J00 (J2a op a b c n k 0 t _ M (.slice ra rl rc) cv _ q se (h.beside (.cells #[V op, V a, V b, V c, V n] 41)) hl hok (fun w1 m1 => hN w1 _ ((h.beside _).more m1)))
 have Hk : Hid (¬ (0 ≤ k ∧ k < x.st rl) ∧ rl ≤ 6 ∧ a.toNat < 10) := ⟨hk, hrl, by omega⟩
 clear h hok hN hl hk hrl
 go_enter Tryz.func69, Tryz.ntmps69
 go_wp2_with (fail)
 refine HR.out.mono ?_
 rintro e w2 ⟨rfl, r2, b2⟩
 have H2 := J00 (And.intro r2 b2)
 clear r2 b2 HR
 have hW := J2h w2 M ra rl rc cv _ _ k H2.out.1.run Hk.out.2.1
 dsimp only at hW
 rw [show (decide (0 ≤ k) && decide (k < x.st rl)) = false by rw [← Bool.decide_and]; exact decide_eq_false Hk.out.1] at hW
 have HW := J00 hW
 clear hW
 go_wp2_with (fail)
 refine HW.out.mono ?_
 rintro e w3 ⟨rfl, m3⟩
 have H3 := J00 (And.intro (H2.out.1.more m3) m3)
 have q1 := J06 (H3.out.1.left (List.mem_cons_self)) 1 (V a) (by simp)
 obtain ⟨ya, fa⟩ := H3.out.1.run.r a.toNat Hk.out.2.2
 dsimp only at ya q1
 clear m3 HW
 have hn : ¬ M = w.heap.size := by omega
 have hn' : ¬ w.heap.size = M := by omega
 go_wp2
 go_region
 go_wp2
 refine bodyPost_ret (results_none (by kernel_rfl) _ _ _) rfl ?_
 refine ⟨rfl, ⟨((H3.out.1.fewer x.mo (fun p hp => List.mem_cons_of_mem _ hp)).run.setR a.toNat Hk.out.2.2 0).drew⟩, ?_⟩
 exact J08 (J0d (J0w (Below.trans (J05 (Below.refl _ _) (Nat.le_of_lt hM) _) H2.out.2) (Nat.le_of_lt H2.out.1.lt) H3.out.2) _ _)

set_option maxHeartbeats 400000 in
theorem J8a (op a b c n k : Int) (t : Bool) (w : World) (M B : Nat) (ra : Option Addr) (rl rc : Nat) (cv : Value) (x : Ms) (q : Tl) (se : List Se) (L : List Int) (f : Int → Int → Int) (h : RunS w M (.slice ra rl rc) cv x q se) (hl : se.length ≤ 200000) (hok : t = true ∨ q.ahead = true) (hrl : rl ≤ 6) (a0 : 0 ≤ a) (a1 : a < 10)
  (hk : 0 ≤ k ∧ k < x.st rl) (hst : x.st rl ≤ 384) (hp : q.puts k.toNat ≤ 100000) (hmb : q.mb < M) (hB : B ≤ M) (s0 : 0 ≤ x.steps) (s1 : x.steps ≤ 100000) (hs : ScAt w B q.sc L) (hm : MapAt w q.mb f) (hc : L.headD 0 = 0 ∨ q.puts k.toNat < L.headD 0) (hN : J6r op a b c n k t M (.slice ra rl rc) cv x q se) :
  Calls Tryz.prog 69 #[.pointer (some ⟨M, 0, none⟩), .agg #[V op, V a, V b, V c, V n]] w fun e w' => e = .returned (.tuple #[]) ∧ Below M w w' ∧ ∃ sc', ScAt w' B sc' L.tail ∧ RunS w' M (.slice ra rl rc) cv { x with r := setR x.r a (x.wd k.toNat) } { q with sc := sc' } (se ++ [⟨2, k, 0⟩]) := by
 suffices H0 : ∀ P : Ending → World → Prop, (∀ e w', (e = .returned (.tuple #[]) ∧ Below M w w' ∧ ∃ sc', ScAt w' B sc' L.tail ∧ RunS w' M (.slice ra rl rc) cv { x with r := setR x.r a (x.wd k.toNat) } { q with sc := sc' } (se ++ [⟨2, k, 0⟩])) → P e w') → Calls Tryz.prog 69 #[.pointer (some ⟨M, 0, none⟩), .agg #[V op, V a, V b, V c, V n]] w P from H0 _ (fun _ _ h => h)
 intro P hP
 have HP := J00 hP
 clear hP
 obtain ⟨d, hd⟩ : ∃ d, L.headD 0 = d := ⟨_, rfl⟩
 rw [hd] at hc
 have Hd := J00 hd
 clear hd
 have hM := h.lt
 have HR := J00 (J2a op a b c n k 0 t _ M (.slice ra rl rc) cv _ q se (h.beside (.cells #[V op, V a, V b, V c, V n] 41)) hl hok (fun w1 m1 => hN w1 _ ((h.beside _).more m1)))
 have Hk : Hid ((0 ≤ k ∧ k < x.st rl) ∧ rl ≤ 6 ∧ a.toNat < 10 ∧ k.toNat < 384 ∧ q.puts k.toNat ≤ 100000 ∧ q.mb < M ∧ B ≤ M) := ⟨hk, hrl, by omega, by omega, hp, hmb, hB⟩
 have HS := J00 (And.intro hs hm)
 have HC := J00 hc
 have Hst : Hid (0 ≤ x.steps ∧ x.steps ≤ 100000) := ⟨s0, s1⟩
 have k0 : 0 ≤ k := hk.1
 have k1 : k < 384 := by omega
 clear h hok hN hl hk hrl hs hm hc hp hmb hst hB s0 s1
 go_enter Tryz.func69, Tryz.ntmps69
 go_wp2_with (fail)
 refine HR.out.mono ?_
 rintro e w2 ⟨rfl, r2, b2⟩
 have H2 := J00 (And.intro r2 b2)
 clear r2 b2 HR
 have hW := J2h w2 M ra rl rc cv _ _ k H2.out.1.run Hk.out.2.1
 dsimp only at hW
 rw [show (decide (0 ≤ k) && decide (k < x.st rl)) = true by rw [← Bool.decide_and]; exact decide_eq_true Hk.out.1] at hW
 have HW := J00 hW
 clear hW
 go_wp2_with (fail)
 refine HW.out.mono ?_
 rintro e w3 ⟨rfl, m3⟩
 have H3 := J00 (And.intro (H2.out.1.more m3) (J0w (Below.trans (J05 (Below.refl _ _) (Nat.le_of_lt hM) _) H2.out.2) (Nat.le_of_lt H2.out.1.lt) m3))
 have q1 := J06 (H3.out.1.left (List.mem_cons_self)) 1 (V a) (by simp)
 obtain ⟨ya, fa⟩ := H3.out.1.run.r a.toNat Hk.out.2.2.1
 have yk := (H3.out.1.run.wd k.toNat Hk.out.2.2.2.1).1
 dsimp only at ya q1 yk
 clear m3 HW
 have hn : ¬ M = w.heap.size := by omega
 have hn' : ¬ w.heap.size = M := by omega
 go_wp2
 go_region
 obtain ⟨w4, hw4⟩ : ∃ w4, w4 = (w3.setCell ⟨M, 7 + a.toNat, none⟩ (V (x.wd k.toNat))).drew := ⟨_, rfl⟩
 have HW4 := J00 hw4
 rw [← hw4]
 have h4 : RunS w4 M (.slice ra rl rc) cv { x with r := setR x.r a (x.wd k.toNat), mo := (w.heap.size, .cells #[V op, V a, V b, V c, V n] 41) :: x.mo } q (se ++ [⟨2, k, 0⟩]) ∧ Below M w w4 := by
  rw [hw4]
  exact ⟨⟨(H3.out.1.run.setR a.toNat Hk.out.2.2.1 (x.wd k.toNat)).drew⟩, J08 (J0d H3.out.2 _ _)⟩
 have H4 := J00 h4
 clear q1 ya fa yk hw4 h4
 have hCh := (J3x w4 M B (.slice ra rl rc) cv _ q _ L H4.out.1 (HS.out.1.below (Below.mono H4.out.2 Hk.out.2.2.2.2.2.2)) Hk.out.2.2.2.2.2.2)
 rw [Hd.out] at hCh
 have HCh := J00 hCh
 clear hCh
 go_wp2_with (fail)
 refine HCh.out.mono ?_
 rintro e w5 ⟨rfl, b5, sc', r5, s5⟩
 have H5 := J00 (And.intro r5 (And.intro s5 (Below.trans H4.out.2 b5)))
 clear r5 s5 b5 HCh
 have HWs := J00 (Jdt w5 M (.slice ra rl rc) cv _ _ _ k d H5.out.1 k0 k1 HC.out)
 go_wp2_with (fail)
 refine HWs.out.mono ?_
 rintro e w6 ⟨rfl, rfl⟩
 clear HWs
 go_wp2
 go_end0
 exact HP.out _ _ ⟨rfl, H5.out.2.2, sc', H5.out.2.1, H5.out.1.fewer x.mo (fun p hp => List.mem_cons_of_mem _ hp)⟩

set_option maxHeartbeats 400000 in
theorem Jal (op a b c n k : Int) (t : Bool) (w : World) (M B : Nat) (ra : Option Addr) (rl rc : Nat) (cv : Value) (x : Ms) (q : Tl) (se : List Se) (L : List Int) (f : Int → Int → Int) (h : RunS w M (.slice ra rl rc) cv x q se) (hl : se.length ≤ 200000) (hok : t = true ∨ q.ahead = true) (hrl : rl ≤ 6) (a0 : 0 ≤ a) (a1 : a < 10)
  (hk : 0 ≤ k ∧ k < x.st rl) (hst : x.st rl ≤ 384) (hp : q.puts k.toNat ≤ 100000) (hmb : q.mb < M) (hB : B ≤ M) (s0 : 0 ≤ x.steps) (s1 : x.steps ≤ 100000) (hs : ScAt w B q.sc L) (hm : MapAt w q.mb f) (hc : 0 < L.headD 0 ∧ L.headD 0 ≤ q.puts k.toNat) (hN : J6r op a b c n k t M (.slice ra rl rc) cv x q se) :
  Calls Tryz.prog 69 #[.pointer (some ⟨M, 0, none⟩), .agg #[V op, V a, V b, V c, V n]] w fun e w' => e = .returned (.tuple #[]) ∧ Below M w w' ∧ ∃ sc', ScAt w' B sc' L.tail ∧ RunS w' M (.slice ra rl rc) cv { x with r := setR (setR x.r a (x.wd k.toNat)) a (f k (q.puts k.toNat - L.headD 0)) } (Tl.left { q with sc := sc' } { x with r := setR x.r a (x.wd k.toNat) }) (se ++ [⟨2, k, 0⟩]) := by
 suffices H0 : ∀ P : Ending → World → Prop, (∀ e w', (e = .returned (.tuple #[]) ∧ Below M w w' ∧ ∃ sc', ScAt w' B sc' L.tail ∧ RunS w' M (.slice ra rl rc) cv { x with r := setR (setR x.r a (x.wd k.toNat)) a (f k (q.puts k.toNat - L.headD 0)) } (Tl.left { q with sc := sc' } { x with r := setR x.r a (x.wd k.toNat) }) (se ++ [⟨2, k, 0⟩])) → P e w') → Calls Tryz.prog 69 #[.pointer (some ⟨M, 0, none⟩), .agg #[V op, V a, V b, V c, V n]] w P from H0 _ (fun _ _ h => h)
 intro P hP
 have HP := J00 hP
 clear hP
 obtain ⟨d, hd⟩ : ∃ d, L.headD 0 = d := ⟨_, rfl⟩
 rw [hd] at hc HP
 have Hd := J00 hd
 clear hd
 have hM := h.lt
 have HR := J00 (J2a op a b c n k 0 t _ M (.slice ra rl rc) cv _ q se (h.beside (.cells #[V op, V a, V b, V c, V n] 41)) hl hok (fun w1 m1 => hN w1 _ ((h.beside _).more m1)))
 have Hk : Hid ((0 ≤ k ∧ k < x.st rl) ∧ rl ≤ 6 ∧ a.toNat < 10 ∧ k.toNat < 384 ∧ q.puts k.toNat ≤ 100000 ∧ q.mb < M ∧ B ≤ M) := ⟨hk, hrl, by omega, by omega, hp, hmb, hB⟩
 have HS := J00 (And.intro hs hm)
 have HC := J00 hc
 have Hst : Hid (0 ≤ x.steps ∧ x.steps ≤ 100000) := ⟨s0, s1⟩
 have k0 : 0 ≤ k := hk.1
 have k1 : k < 384 := by omega
 clear h hok hN hl hk hrl hs hm hc hp hmb hst hB s0 s1
 go_enter Tryz.func69, Tryz.ntmps69
 go_wp2_with (fail)
 refine HR.out.mono ?_
 rintro e w2 ⟨rfl, r2, b2⟩
 have H2 := J00 (And.intro r2 b2)
 clear r2 b2 HR
 have hW := J2h w2 M ra rl rc cv _ _ k H2.out.1.run Hk.out.2.1
 dsimp only at hW
 rw [show (decide (0 ≤ k) && decide (k < x.st rl)) = true by rw [← Bool.decide_and]; exact decide_eq_true Hk.out.1] at hW
 have HW := J00 hW
 clear hW
 go_wp2_with (fail)
 refine HW.out.mono ?_
 rintro e w3 ⟨rfl, m3⟩
 have H3 := J00 (And.intro (H2.out.1.more m3) (J0w (Below.trans (J05 (Below.refl _ _) (Nat.le_of_lt hM) _) H2.out.2) (Nat.le_of_lt H2.out.1.lt) m3))
 have q1 := J06 (H3.out.1.left (List.mem_cons_self)) 1 (V a) (by simp)
 obtain ⟨ya, fa⟩ := H3.out.1.run.r a.toNat Hk.out.2.2.1
 have yk := (H3.out.1.run.wd k.toNat Hk.out.2.2.2.1).1
 dsimp only at ya q1 yk
 clear m3 HW
 have hn : ¬ M = w.heap.size := by omega
 have hn' : ¬ w.heap.size = M := by omega
 go_wp2
 go_region
 obtain ⟨w4, hw4⟩ : ∃ w4, w4 = (w3.setCell ⟨M, 7 + a.toNat, none⟩ (V (x.wd k.toNat))).drew := ⟨_, rfl⟩
 have HW4 := J00 hw4
 rw [← hw4]
 have h4 : RunS w4 M (.slice ra rl rc) cv { x with r := setR x.r a (x.wd k.toNat), mo := (w.heap.size, .cells #[V op, V a, V b, V c, V n] 41) :: x.mo } q (se ++ [⟨2, k, 0⟩]) ∧ Below M w w4 := by
  rw [hw4]
  exact ⟨⟨(H3.out.1.run.setR a.toNat Hk.out.2.2.1 (x.wd k.toNat)).drew⟩, J08 (J0d H3.out.2 _ _)⟩
 have H4 := J00 h4
 clear q1 ya fa yk hw4 h4
 have hCh := (J3x w4 M B (.slice ra rl rc) cv _ q _ L H4.out.1 (HS.out.1.below (Below.mono H4.out.2 Hk.out.2.2.2.2.2.2)) Hk.out.2.2.2.2.2.2)
 rw [Hd.out] at hCh
 have HCh := J00 hCh
 clear hCh
 go_wp2_with (fail)
 refine HCh.out.mono ?_
 rintro e w5 ⟨rfl, b5, sc', r5, s5⟩
 have H5 := J00 (And.intro r5 (And.intro s5 (Below.trans H4.out.2 b5)))
 clear r5 s5 b5 HCh
 have HWs := J00 (Jc3 w5 M (.slice ra rl rc) cv _ _ _ f k d H5.out.1 (HS.out.2.below H5.out.2.2 Hk.out.2.2.2.2.2.1) k0 k1 HC.out.1 HC.out.2 Hk.out.2.2.2.2.1)
 dsimp only at HWs
 obtain ⟨v, hv⟩ : ∃ v, f k (q.puts k.toNat - d) = v := ⟨_, rfl⟩
 rw [hv] at HWs HP
 clear hv
 go_wp2_with (fail)
 refine HWs.out.mono ?_
 rintro e w6 ⟨rfl, rfl⟩
 clear HWs
 have HLv := J00 (J6k w6 M (.slice ra rl rc) cv _ _ _ H5.out.1 Hst.out.1 Hst.out.2)
 go_wp2_with (fail)
 refine HLv.out.mono ?_
 rintro e w7 ⟨rfl, r7, b7⟩
 have H7 := J00 (And.intro r7 (And.intro (H5.out.2.1.below (Below.mono b7 Hk.out.2.2.2.2.2.2)) (Below.trans H5.out.2.2 b7)))
 have q7 := J06 (H7.out.1.left (List.mem_cons_self)) 1 (V a) (by simp)
 obtain ⟨y7, f7⟩ := H7.out.1.run.r a.toNat Hk.out.2.2.1
 dsimp only at q7 y7
 clear r7 b7 HLv
 go_wp2
 go_region
 go_wp2
 go_end0
 refine HP.out _ _ ⟨rfl, J08 (J0d H7.out.2.2 _ _), sc', ?_, ⟨((H7.out.1.fewer x.mo (fun p hp => List.mem_cons_of_mem _ hp)).run.setR a.toNat Hk.out.2.2.1 v).drew⟩⟩
 exact H7.out.2.1.below (Below.mono (J08 (J0d (Below.refl _ _) _ _)) Hk.out.2.2.2.2.2.2)
theorem RunS.setWd {w : World} {M : Nat} {rv cv : Value} {x : Ms} {q : Tl} {se : List Se} (h : RunS w M rv cv x q se) (k : Nat) (hk : k < 384) (n : Int) : RunS (w.setCell ⟨M, 17 + k, none⟩ (V n)) M rv cv { x with wd := setN x.wd k n } q se := ⟨h.run.setWd k hk n⟩
theorem RunS.setNext {w : World} {M : Nat} {rv cv : Value} {x : Ms} {q : Tl} {se : List Se} (h : RunS w M rv cv x q se) (n : Int) : RunS (w.setCell ⟨M, 401, none⟩ (V n)) M rv cv { x with next := n } q se := ⟨h.run.setNext n⟩

theorem Jdm (op a b c n k : Int) (w : World) (M : Nat) (rv cv : Value) (x : Ms) (q : Tl) (se : List Se) (h : RunS w M rv cv x q se) (ha : q.ahead = false) (hN : J6r op a b c n k false M rv cv x q se) :
  Calls Tryz.prog 70 #[.pointer (some ⟨M, 0, none⟩), .agg #[V op, V a, V b, V c, V n]] w fun e w' => e = .returned (.tuple #[]) ∧ RunS w' M rv cv { x with fin := 2, ended := true } q se ∧ Below M w w' := by
 have hM := h.lt
 have HR := J00 (J67 op a b c n k 1 _ M rv cv _ q se (h.beside (.cells #[V op, V a, V b, V c, V n] 41)) ha (fun w1 m1 => hN w1 _ ((h.beside _).more m1)))
 clear h ha hN
 go_enter Tryz.func70, Tryz.ntmps70
 go_wp2_with (fail)
 refine HR.out.mono ?_
 rintro e w2 ⟨rfl, r2, b2⟩
 have H2 := J00 (And.intro r2 b2)
 clear r2 b2 HR
 go_wp2
 refine bodyPost_ret (results_none (by kernel_rfl) _ _ _) rfl ?_
 exact ⟨rfl, H2.out.1.fewer x.mo (fun p hp => List.mem_cons_of_mem _ hp), Below.trans (J05 (Below.refl _ _) (Nat.le_of_lt hM) _) H2.out.2⟩

theorem Jc0 (op a b c n k : Int) (t : Bool) (w : World) (M : Nat) (ra : Option Addr) (rl rc : Nat) (cv : Value) (x : Ms) (q : Tl) (se : List Se) (h : RunS w M (.slice ra rl rc) cv x q se) (hl : se.length ≤ 200000) (hok : t = true ∨ q.ahead = true) (hrl : rl ≤ 6)
  (hk : ¬ (0 ≤ k ∧ k < x.st rl)) (hN : J6r op a b c n k t M (.slice ra rl rc) cv x q se) :
  Calls Tryz.prog 70 #[.pointer (some ⟨M, 0, none⟩), .agg #[V op, V a, V b, V c, V n]] w fun e w' => e = .returned (.tuple #[]) ∧ RunS w' M (.slice ra rl rc) cv x q (se ++ [⟨2, k, 1⟩]) ∧ Below M w w' := by
 have hM := h.lt
 have HR := J00 (J2a op a b c n k 1 t _ M (.slice ra rl rc) cv _ q se (h.beside (.cells #[V op, V a, V b, V c, V n] 41)) hl hok (fun w1 m1 => hN w1 _ ((h.beside _).more m1)))
 have Hk : Hid (¬ (0 ≤ k ∧ k < x.st rl) ∧ rl ≤ 6) := ⟨hk, hrl⟩
 clear h hok hN hl hk hrl
 go_enter Tryz.func70, Tryz.ntmps70
 go_wp2_with (fail)
 refine HR.out.mono ?_
 rintro e w2 ⟨rfl, r2, b2⟩
 have H2 := J00 (And.intro r2 b2)
 clear r2 b2 HR
 have hW := J2h w2 M ra rl rc cv _ _ k H2.out.1.run Hk.out.2
 dsimp only at hW
 rw [show (decide (0 ≤ k) && decide (k < x.st rl)) = false by rw [← Bool.decide_and]; exact decide_eq_false Hk.out.1] at hW
 have HW := J00 hW
 clear hW
 go_wp2_with (fail)
 refine HW.out.mono ?_
 rintro e w3 ⟨rfl, m3⟩
 have H3 := J00 (And.intro (H2.out.1.more m3) m3)
 clear m3 HW
 go_wp2
 refine bodyPost_ret (results_none (by kernel_rfl) _ _ _) rfl ?_
 exact ⟨rfl, H3.out.1.fewer x.mo (fun p hp => List.mem_cons_of_mem _ hp), J0w (Below.trans (J05 (Below.refl _ _) (Nat.le_of_lt hM) _) H2.out.2) (Nat.le_of_lt H2.out.1.lt) H3.out.2⟩

set_option maxHeartbeats 400000 in
theorem Jah (op a b c n k : Int) (t : Bool) (w : World) (M : Nat) (ra : Option Addr) (rl rc : Nat) (cv : Value) (x : Ms) (q : Tl) (se : List Se) (f : Int → Int → Int) (h : RunS w M (.slice ra rl rc) cv x q se) (hl : se.length ≤ 200000) (hok : t = true ∨ q.ahead = true) (hrl : rl ≤ 6) (a0 : 0 ≤ a) (a1 : a < 10)
  (hk : 0 ≤ k ∧ k < x.st rl) (hst : x.st rl ≤ 384) (hp0 : 0 ≤ q.puts k.toNat) (hp : q.puts k.toNat ≤ 100000) (hmb : q.mb < M) (hm : MapAt w q.mb f) (hN : J6r op a b c n k t M (.slice ra rl rc) cv x q se) :
  Calls Tryz.prog 70 #[.pointer (some ⟨M, 0, none⟩), .agg #[V op, V a, V b, V c, V n]] w fun e w' => e = .returned (.tuple #[]) ∧ Below q.mb w w' ∧ MapAt w' q.mb (fun n' t' => if n' = k ∧ t' = q.puts k.toNat then x.wd k.toNat else f n' t') ∧ RunS w' M (.slice ra rl rc) cv { x with wd := setN x.wd k.toNat (x.r a.toNat) } { q with puts := setN q.puts k.toNat (q.puts k.toNat + 1) } (se ++ [⟨2, k, 1⟩]) := by
 suffices H0 : ∀ P : Ending → World → Prop, (∀ e w', (e = .returned (.tuple #[]) ∧ Below q.mb w w' ∧ MapAt w' q.mb (fun n' t' => if n' = k ∧ t' = q.puts k.toNat then x.wd k.toNat else f n' t') ∧ RunS w' M (.slice ra rl rc) cv { x with wd := setN x.wd k.toNat (x.r a.toNat) } { q with puts := setN q.puts k.toNat (q.puts k.toNat + 1) } (se ++ [⟨2, k, 1⟩])) → P e w') → Calls Tryz.prog 70 #[.pointer (some ⟨M, 0, none⟩), .agg #[V op, V a, V b, V c, V n]] w P from H0 _ (fun _ _ h => h)
 intro P hP
 have HP := J00 hP
 clear hP
 have hM := h.lt
 have HR := J00 (J2a op a b c n k 1 t _ M (.slice ra rl rc) cv _ q se (h.beside (.cells #[V op, V a, V b, V c, V n] 41)) hl hok (fun w1 m1 => hN w1 _ ((h.beside _).more m1)))
 have Hk : Hid ((0 ≤ k ∧ k < x.st rl) ∧ rl ≤ 6 ∧ a.toNat < 10 ∧ k.toNat < 384 ∧ q.puts k.toNat ≤ 100000 ∧ q.mb < M ∧ 0 ≤ q.puts k.toNat) := ⟨hk, hrl, by omega, by omega, hp, hmb, hp0⟩
 have HM := J00 hm
 have k0 : 0 ≤ k := hk.1
 have k1 : k < 384 := by omega
 clear h hok hN hl hk hrl hm hp hmb hst hp0
 go_enter Tryz.func70, Tryz.ntmps70
 go_wp2_with (fail)
 refine HR.out.mono ?_
 rintro e w2 ⟨rfl, r2, b2⟩
 have H2 := J00 (And.intro r2 b2)
 clear r2 b2 HR
 have hW := J2h w2 M ra rl rc cv _ _ k H2.out.1.run Hk.out.2.1
 dsimp only at hW
 rw [show (decide (0 ≤ k) && decide (k < x.st rl)) = true by rw [← Bool.decide_and]; exact decide_eq_true Hk.out.1] at hW
 have HW := J00 hW
 clear hW
 go_wp2_with (fail)
 refine HW.out.mono ?_
 rintro e w3 ⟨rfl, m3⟩
 have H3 := J00 (And.intro (H2.out.1.more m3) (J0w (Below.trans (J05 (Below.refl _ _) (Nat.le_of_lt hM) _) H2.out.2) (Nat.le_of_lt H2.out.1.lt) m3))
 have c412 := H3.out.1.map.1
 have cp := (H3.out.1.puts k.toNat Hk.out.2.2.2.1).1
 have cw := (H3.out.1.run.wd k.toNat Hk.out.2.2.2.1).1
 dsimp only at cw
 obtain ⟨tm, htm⟩ : ∃ tm, q.puts k.toNat = tm := ⟨_, rfl⟩
 obtain ⟨v, hv⟩ : ∃ v, x.wd k.toNat = v := ⟨_, rfl⟩
 obtain ⟨mb, hmb⟩ : ∃ mb, q.mb = mb := ⟨_, rfl⟩
 rw [htm] at cp
 rw [hv] at cw
 rw [hmb] at c412
 have Hv := J00 (And.intro htm (And.intro hv hmb))
 clear m3 HW htm hv hmb
 have hn : ¬ M = w.heap.size := by omega
 have hn' : ¬ w.heap.size = M := by omega
 obtain ⟨S, HS⟩ : ∃ S : World → Prop, Hid (∀ w', S w' ↔ (w'.cell? ⟨M, 412, none⟩ = some (.map (some mb)) ∧ w'.cell? ⟨M, 413 + k.toNat, none⟩ = some (V tm) ∧ w'.cell? ⟨M, 17 + k.toNat, none⟩ = some (V v))) := ⟨_, fun _ => Iff.rfl⟩
 have j1 : ∀ i : { w' // S w' }, i.val.cell? ⟨M, 412, none⟩ = some (.map (some mb)) := fun i => ((HS.out _).1 i.property).1
 have j2 : ∀ i : { w' // S w' }, i.val.cell? ⟨M, 413 + k.toNat, none⟩ = some (V tm) := fun i => ((HS.out _).1 i.property).2.1
 have j3 : ∀ i : { w' // S w' }, i.val.cell? ⟨M, 17 + k.toNat, none⟩ = some (V v) := fun i => ((HS.out _).1 i.property).2.2
 have hne : Nonempty { w' // S w' } := ⟨⟨w3, (HS.out _).2 ⟨c412, cp, cw⟩⟩⟩
 have hS3 : S w3.drew := (HS.out _).2 ⟨c412, cp, cw⟩
 go_wp2_with (fail)
 refine J03 (S := S) [(0, true), (1, true), (2, true), (3, true), (4, true), (5, true), (6, true), (7, true), (8, true), (9, true), (10, true), (11, true), (12, true), (13, true), (14, true), (15, true), (16, true), (17, true), (18, true), (19, true), (20, false)] (by kernel_rfl) (by kernel_rfl) (by kernel_rfl) hS3 ?_
 iterate 20 (refine J01 rfl (by kernel_rfl) (fun K hK => ?_); go_simp; refine hK _ _ ?_; clear hK K)
 refine J02 rfl (by kernel_rfl) (fun K hK => ?_)
 have hm3 : MapAt w3.drew mb f := by
  have := (HM.out.below H3.out.2 Hk.out.2.2.2.2.2.1).block (w' := w3.drew) rfl
  rw [Hv.out.2.2] at this
  exact this
 have hmM : mb < M := by rw [← Hv.out.2.2]; exact Hk.out.2.2.2.2.2.1
 refine Jix (.tmp 25) (.tmp 33) (.tmp 41) rfl mb f k tm v rfl rfl rfl hm3 (by unfold B64; omega) (by have h1 := Hk.out.2.2.2.2.1; have h2 := Hk.out.2.2.2.2.2.2; rw [Hv.out.1] at h1 h2; unfold B64; omega) ?_
 intro w4 m4 g4
 have r4 := H3.out.1.drew.kept g4 (fun b hb => by have := Option.some.inj hb; omega)
 obtain ⟨c413, f413⟩ := r4.puts k.toNat Hk.out.2.2.2.1
 rw [Hv.out.1] at c413
 obtain ⟨c17, f17⟩ := r4.run.wd k.toNat Hk.out.2.2.2.1
 have c7 := (r4.run.r a.toNat Hk.out.2.2.1).1
 have c412' := r4.map.1
 rw [Hv.out.2.2] at c412'
 have q4 := J06 (r4.left (List.mem_cons_self)) 1 (V a) (by simp)
 dsimp only at q4 c7 c17
 rw [Hv.out.2.1] at c17
 obtain ⟨ya, hya⟩ : ∃ y, x.r a.toNat = y := ⟨_, rfl⟩
 rw [hya] at c7
 have H4 := J00 (And.intro r4 (And.intro m4 (And.intro g4 hya)))
 refine hK _ _ ((HS.out _).2 ⟨c412', c413, c17⟩) ?_; clear hK K
 refine J07 ?_
 clear j1 j2 j3 hne hS3 hm3 r4 m4 g4 hya c412 cp cw c412'
 have hwt : wrap64 (tm + 1) = tm + 1 := by have h1 := Hk.out.2.2.2.2.1; have h2 := Hk.out.2.2.2.2.2.2; rw [Hv.out.1] at h1 h2; unfold wrap64; omega
 have hwr := J12
 have hnk : ¬ 7 + a.toNat = 413 + k.toNat := by have := Hk.out.2.2.1; omega
 have hnk' : ¬ 17 + k.toNat = 413 + k.toNat := by omega
 go_simp
 go_wp2_with (fail)
 go_region
 go_wp2_with (fail)
 go_region
 go_wp2
 go_end0
 obtain ⟨e1, e2, e3⟩ := Hv.out
 have h5 := ((((H4.out.1.setPut k.toNat Hk.out.2.2.2.1 (tm + 1)).drew).setWd k.toNat Hk.out.2.2.2.1 ya).drew).fewer x.mo (fun p hp => List.mem_cons_of_mem _ hp)
 refine HP.out _ _ ⟨rfl, ?_, ?_, ?_⟩
 ·rw [e3]
  have hle : mb ≤ M := Nat.le_of_lt hmM
  exact J08 (J08 (Below.setCell (Below.setCell (Below.grown (J08 (Below.mono H3.out.2 hle)) H4.out.2.2.1 (by have := H3.out.1.lt; simp; omega) (fun b hb => by have := Option.some.inj hb; omega)) hle _) hle _))
 ·rw [e1, e2, e3]
  refine H4.out.2.1.block ?_
  show ((w4.setCell ⟨M, 413 + k.toNat, none⟩ _).setCell ⟨M, 17 + k.toNat, none⟩ _).heap[mb]? = _
  rw [Below.heap_setCell _ _ _ _ (by dsimp only; omega), Below.heap_setCell _ _ _ _ (by dsimp only; omega)]
 ·rw [e1, H4.out.2.2.2]
  exact h5
theorem RunS.next {w : World} {M : Nat} {rv cv : Value} {x : Ms} {q : Tl} {se : List Se} (h : RunS w M rv cv x q se) : Wr w M 401 (V x.next) := h.run.next

set_option maxHeartbeats 400000 in
theorem Jdl (a b c n oth : Int) (hh : Bool) (w : World) (M B : Nat) (rv cv : Value) (x x2 : Ms) (q : Tl) (se : List Se) (L : List Int) (h : RunS w M rv cv x q se) (hB : B ≤ M) (hs : ScAt w B q.sc L) (s0 : 0 ≤ x2.steps) (s1 : x2.steps ≤ 100000)
  (hoth : oth = if hh = true then x.next else n)
  (hH : ∀ w1 mo, RunS w1 M rv cv { x with mo := mo } q se → Calls Tryz.prog 61 #[.pointer (some ⟨M, 0, none⟩), .agg #[V 8, V a, V b, V c, V n]] w1 fun e w' => e = .returned (.bool hh) ∧ More w1 w')
  (hD : ∀ w1 mo, RunS w1 M rv cv { x with mo := mo } q se → Calls Tryz.prog 26 #[.pointer (some ⟨M, 0, none⟩), .agg #[V 8, V a, V b, V c, V n]] w1 fun e w' => e = .returned (.tuple #[]) ∧ RunS w' M rv cv { x2 with mo := mo } q se ∧ Below M w1 w') :
  Calls Tryz.prog 68 #[.pointer (some ⟨M, 0, none⟩), .agg #[V 8, V a, V b, V c, V n]] w fun e w' => e = .returned (.tuple #[]) ∧ Below M w w' ∧ ∃ sc', ScAt w' B sc' L.tail ∧
   RunS w' M rv cv (if L.headD 0 = 0 then { x2 with mo := x.mo } else { x2 with next := oth, mo := x.mo }) (if L.headD 0 = 0 then { q with sc := sc' } else Tl.left { q with sc := sc' } x2) se := by
 suffices H0 : ∀ P : Ending → World → Prop, (∀ e w', (e = .returned (.tuple #[]) ∧ Below M w w' ∧ ∃ sc', ScAt w' B sc' L.tail ∧
   RunS w' M rv cv (if L.headD 0 = 0 then { x2 with mo := x.mo } else { x2 with next := oth, mo := x.mo }) (if L.headD 0 = 0 then { q with sc := sc' } else Tl.left { q with sc := sc' } x2) se) → P e w') → Calls Tryz.prog 68 #[.pointer (some ⟨M, 0, none⟩), .agg #[V 8, V a, V b, V c, V n]] w P from H0 _ (fun _ _ h => h)
 intro P hP
 obtain ⟨d, hd⟩ : ∃ d, L.headD 0 = d := ⟨_, rfl⟩
 rw [hd] at hP
 have HP := J00 hP
 have Hd := J00 hd
 clear hP hd
 have hM := h.lt
 have hn : ¬ M = w.heap.size := by omega
 have hn' : ¬ w.heap.size = M := by omega
 have hx := h.next.1
 obtain ⟨nx, hnx⟩ : ∃ nx, x.next = nx := ⟨_, rfl⟩
 rw [hnx] at hx hoth
 have H := J00 (And.intro (h.beside (.cells #[V 8, V a, V b, V c, V n] 41)) (And.intro hs (And.intro hB (And.intro s0 s1))))
 have HH := J00 hH
 have HD := J00 hD
 have Ho := J00 hoth
 clear h hs hB s0 s1 hH hD hoth hnx
 obtain ⟨S, HS⟩ : ∃ S : World → Prop, Hid (∀ w', S w' ↔ More (w.alloc (.cells #[V 8, V a, V b, V c, V n] 41)) w') := ⟨_, fun _ => Iff.rfl⟩
 have k0 : ∀ i : { w' // S w' }, i.val.cell? ⟨w.heap.size, 0, none⟩ = some (V 8) := fun i => ((HS.out _).1 i.property).cell (by go_simp)
 have k1 : ∀ i : { w' // S w' }, i.val.cell? ⟨w.heap.size, 1, none⟩ = some (V a) := fun i => ((HS.out _).1 i.property).cell (by go_simp)
 have k2 : ∀ i : { w' // S w' }, i.val.cell? ⟨w.heap.size, 2, none⟩ = some (V b) := fun i => ((HS.out _).1 i.property).cell (by go_simp)
 have k3 : ∀ i : { w' // S w' }, i.val.cell? ⟨w.heap.size, 3, none⟩ = some (V c) := fun i => ((HS.out _).1 i.property).cell (by go_simp)
 have k4 : ∀ i : { w' // S w' }, i.val.cell? ⟨w.heap.size, 4, none⟩ = some (V n) := fun i => ((HS.out _).1 i.property).cell (by go_simp)
 have hne : Nonempty { w' // S w' } := ⟨⟨_, (HS.out _).2 (More.refl _)⟩⟩
 go_enter Tryz.func68, Tryz.ntmps68
 go_wp2_with (fail)
 refine J03 (S := S) [(0, true), (1, true), (2, true), (3, true), (4, false), (5, true)] (by kernel_rfl) (by kernel_rfl) (by kernel_rfl) ((HS.out _).2 (More.refl _).drew) ?_
 iterate 4 (refine J01 rfl (by kernel_rfl) (fun K hK => ?_); go_simp; refine hK _ _ ?_; clear hK K)
 refine J02 rfl (by kernel_rfl) (fun K hK => ?_); go_simp
 refine (HH.out _ _ H.out.1.drew).mono ?_
 rintro e w5 ⟨rfl, m5⟩
 have Hm5 : Hid (More (w.alloc (.cells #[V 8, V a, V b, V c, V n] 41)) w5) := (More.refl _).drew.trans m5
 have q0 := Hm5.out.cell (a := ⟨w.heap.size, 0, none⟩) (v := V 8) (by go_simp)
 have q1 := Hm5.out.cell (a := ⟨w.heap.size, 1, none⟩) (v := V a) (by go_simp)
 have q2 := Hm5.out.cell (a := ⟨w.heap.size, 2, none⟩) (v := V b) (by go_simp)
 have q3 := Hm5.out.cell (a := ⟨w.heap.size, 3, none⟩) (v := V c) (by go_simp)
 have q4 := Hm5.out.cell (a := ⟨w.heap.size, 4, none⟩) (v := V n) (by go_simp)
 clear m5
 go_simp
 refine hK _ _ ((HS.out _).2 Hm5.out) ?_; clear hK K
 refine J01 rfl (by kernel_rfl) (fun K hK => ?_); go_simp; refine hK _ _ ?_; clear hK K
 refine J07 ?_
 clear k0 k1 k2 k3 k4 hne
 have hr5 := H.out.1.more Hm5.out
 have hb5 : Below M w w5 := J0w (J05 (Below.refl _ _) (Nat.le_of_lt hM) _) (by have := H.out.1.lt; omega) Hm5.out
 have H5 := J00 (And.intro hr5 hb5)
 have HD5 := J00 (HD.out _ _ H5.out.1.drew)
 clear hr5 hb5 HS HH HD
 cases hh with
 | true =>
  obtain rfl : oth = nx := Ho.out
  clear Ho
  go_wp2_with (fail)
  go_region_with (go_at_call 26; refine HD5.out.mono ?_; rintro e w6 ⟨rfl, r6, b6⟩; have H6 := J00 (And.intro r6 (Below.trans (J08 H5.out.2) b6)); clear r6 b6)
  clear HD5
  have hCh := (J3x w6 M B rv cv _ q _ L H6.out.1 (H.out.2.1.below (Below.mono H6.out.2 H.out.2.2.1)) H.out.2.2.1)
  rw [Hd.out] at hCh
  have HCh := J00 hCh
  clear hCh
  by_cases d0 : d = 0
  ·subst d0
   go_wp2_with (fail)
   refine HCh.out.mono ?_
   rintro e w7 ⟨rfl, b7, sc', r7, s7⟩
   have H7 := J00 (And.intro r7 (And.intro s7 (Below.trans H6.out.2 b7)))
   clear r7 s7 b7 HCh
   go_wp2
   go_end0
   refine HP.out _ _ ⟨rfl, H7.out.2.2, sc', H7.out.2.1, ?_⟩
   rw [if_pos trivial, if_pos trivial]
   exact H7.out.1.fewer x.mo (fun p hp => List.mem_cons_of_mem _ hp)
  ·have d0' : (d == 0) = false := by simp [d0]
   go_wp2_with (fail)
   refine HCh.out.mono ?_
   rintro e w7 ⟨rfl, b7, sc', r7, s7⟩
   have H7 := J00 (And.intro r7 (And.intro s7 (Below.trans H6.out.2 b7)))
   clear r7 s7 b7 HCh
   have HLv := J00 (J6k w7 M rv cv _ _ _ H7.out.1 H.out.2.2.2.1 H.out.2.2.2.2)
   go_wp2_with (fail)
   refine HLv.out.mono ?_
   rintro e w8 ⟨rfl, r8, b8⟩
   have H8 := J00 (And.intro r8 (And.intro (H7.out.2.1.below (Below.mono b8 H.out.2.2.1)) (Below.trans H7.out.2.2 b8)))
   obtain ⟨y8, f8⟩ := r8.next
   dsimp only at y8
   clear r8 b8 HLv
   go_wp2
   go_end0
   refine HP.out _ _ ⟨rfl, J0d H8.out.2.2 _ _, sc', H8.out.2.1.below (Below.mono (J0d (Below.refl _ _) _ _) H.out.2.2.1), ?_⟩
   rw [if_neg d0, if_neg d0]
   exact (H8.out.1.setNext _).fewer x.mo (fun p hp => List.mem_cons_of_mem _ hp)
 | false =>
  obtain rfl : oth = n := Ho.out
  clear Ho
  go_wp2_with (fail)
  go_region_with (go_at_call 26; refine HD5.out.mono ?_; rintro e w6 ⟨rfl, r6, b6⟩; have H6 := J00 (And.intro r6 (Below.trans (J08 H5.out.2) b6)); clear r6 b6)
  clear HD5
  have hCh := (J3x w6 M B rv cv _ q _ L H6.out.1 (H.out.2.1.below (Below.mono H6.out.2 H.out.2.2.1)) H.out.2.2.1)
  rw [Hd.out] at hCh
  have HCh := J00 hCh
  clear hCh
  by_cases d0 : d = 0
  ·subst d0
   go_wp2_with (fail)
   refine HCh.out.mono ?_
   rintro e w7 ⟨rfl, b7, sc', r7, s7⟩
   have H7 := J00 (And.intro r7 (And.intro s7 (Below.trans H6.out.2 b7)))
   clear r7 s7 b7 HCh
   go_wp2
   go_end0
   refine HP.out _ _ ⟨rfl, H7.out.2.2, sc', H7.out.2.1, ?_⟩
   rw [if_pos trivial, if_pos trivial]
   exact H7.out.1.fewer x.mo (fun p hp => List.mem_cons_of_mem _ hp)
  ·have d0' : (d == 0) = false := by simp [d0]
   go_wp2_with (fail)
   refine HCh.out.mono ?_
   rintro e w7 ⟨rfl, b7, sc', r7, s7⟩
   have H7 := J00 (And.intro r7 (And.intro s7 (Below.trans H6.out.2 b7)))
   clear r7 s7 b7 HCh
   have HLv := J00 (J6k w7 M rv cv _ _ _ H7.out.1 H.out.2.2.2.1 H.out.2.2.2.2)
   go_wp2_with (fail)
   refine HLv.out.mono ?_
   rintro e w8 ⟨rfl, r8, b8⟩
   have H8 := J00 (And.intro r8 (And.intro (H7.out.2.1.below (Below.mono b8 H.out.2.2.1)) (Below.trans H7.out.2.2 b8)))
   obtain ⟨y8, f8⟩ := r8.next
   dsimp only at y8
   clear r8 b8 HLv
   go_wp2
   go_end0
   refine HP.out _ _ ⟨rfl, J0d H8.out.2.2 _ _, sc', H8.out.2.1.below (Below.mono (J0d (Below.refl _ _) _ _) H.out.2.2.1), ?_⟩
   rw [if_neg d0, if_neg d0]
   exact (H8.out.1.setNext _).fewer x.mo (fun p hp => List.mem_cons_of_mem _ hp)
def endsS (op : Int) (x : Ms) (q : Tl) : Bool := q.ahead && decide (op = 12 ∨ op = 9 ∨ x.steps = q.til)
def backX (b : Bool) (x : Ms) (q : Tl) : Ms := if b = true then { x with r := q.br, wd := q.bw, next := q.bn } else x
def backQ (b : Bool) (q : Tl) : Tl := if b = true then { q with puts := q.bp, ahead := false } else q
def J1a (b : Bool) (se : List Se) : List Se := if b = true then se ++ [⟨4, 0, 0⟩] else se

structure Acts (F : Nat) (op a b c n : Int) (w : World) (M B : Nat) (rv cv : Value) (x1 : Ms) (q : Tl) (se1 : List Se) (Good : World → Ms → Tl → List Se → Prop) : Prop where
 out : ∀ w1 mo, RunS w1 M rv cv { x1 with mo := mo } q se1 → Below M w w1 → Calls Tryz.prog F #[.pointer (some ⟨M, 0, none⟩), .agg #[V op, V a, V b, V c, V n]] w1 fun e w' =>
  e = .returned (.tuple #[]) ∧ Below B w1 w' ∧ ∃ x2 q2 se2, Good w' x2 q2 se2 ∧ RunS w' M rv cv { x2 with mo := mo } q2 se2

set_option maxHeartbeats 400000 in
theorem J8w (op : Int) (a b c n : Int) (w : World) (M B : Nat) (rv cv : Value) (x x1 : Ms) (q : Tl) (se1 : List Se) (Good : World → Ms → Tl → List Se → Prop) (n3 : ¬ op = 3) (n4 : ¬ op = 4) (n5 : ¬ op = 5) (n6 : ¬ op = 6) (n8 : ¬ op = 8) (n9 : ¬ op = 9) (hB : B ≤ M) (hmo : x1.mo = x.mo) (hMw : M < w.heap.size)
  (hst : ∀ w1 w2 x2 q2 se2, Good w1 x2 q2 se2 → Below M w1 w2 → Good w2 x2 q2 se2) (hlen : ∀ w1 x2 q2 se2, Good w1 x2 q2 se2 → se2.length ≤ 200000)
  (hBg : Calls Tryz.prog 27 #[.pointer (some ⟨M, 0, none⟩)] w fun e w' => e = .returned (.agg #[V op, V a, V b, V c, V n]) ∧ RunS w' M rv cv x1 q se1 ∧ Below M w w')
  (hA : Acts 26 op a b c n w M B rv cv x1 q se1 Good) :
  Calls Tryz.prog 31 #[.pointer (some ⟨M, 0, none⟩)] w fun e w' => e = .returned (.tuple #[]) ∧ Below B w w' ∧ ∃ x2 q2 se2, Good w' x2 q2 se2 ∧ RunS w' M rv cv { backX (endsS op x2 q2) x2 q2 with mo := x.mo } (backQ (endsS op x2 q2) q2) (J1a (endsS op x2 q2) se2) := by
 suffices H0 : ∀ P : Ending → World → Prop, (∀ e w', (e = .returned (.tuple #[]) ∧ Below B w w' ∧ ∃ x2 q2 se2, Good w' x2 q2 se2 ∧ RunS w' M rv cv { backX (endsS op x2 q2) x2 q2 with mo := x.mo } (backQ (endsS op x2 q2) q2) (J1a (endsS op x2 q2) se2)) → P e w') → Calls Tryz.prog 31 #[.pointer (some ⟨M, 0, none⟩)] w P from H0 _ (fun _ _ h => h)
 intro P hP
 have HP := J00 hP
 have H := J00 (And.intro hst (And.intro hlen (And.intro hB (And.intro hmo hMw))))
 have HB := J00 hBg
 have HA := J00 hA
 clear hP hst hlen hB hmo hMw hBg hA
 go_enter Tryz.func31, Tryz.ntmps31
 go_wp2_with (fail)
 refine HB.out.mono ?_
 rintro e w1 ⟨rfl, r1, b1⟩
 have H1 := J00 (And.intro r1 b1)
 have hM1 := r1.lt
 clear r1 b1 HB
 have HA2 := J00 (HA.out.out _ _ (H1.out.1.beside (.cells #[V op, V a, V b, V c, V n] 41)).drew (J08 (J05 H1.out.2 (Nat.le_of_lt hM1) _)))
 clear HA
 go_wp2_with (fail)
 go_region_with (go_at_call 26; refine HA2.out.mono ?_; rintro e w3 ⟨rfl, b3, x2, q2, se2, g3, r3⟩; have H3 := J00 (And.intro g3 (And.intro r3 b3)); clear g3 r3 b3)
 have hb3 : Below B w w3 := Below.trans (Below.mono (J08 (J05 H1.out.2 (Nat.le_of_lt hM1) _)) H.out.2.2.1) H3.out.2.2
 have HB3 := J00 hb3
 have ca := H3.out.2.1.ahead.1
 have hbox := H3.out.2.1.left (List.mem_cons_self)
 have z0 := J06 hbox 0 (V op) (by simp)
 have z1 := J06 hbox 1 (V a) (by simp)
 have z2 := J06 hbox 2 (V b) (by simp)
 have z3 := J06 hbox 3 (V c) (by simp)
 have z4 := J06 hbox 4 (V n) (by simp)
 dsimp only at z0 z1 z2 z3 z4
 clear hbox HA2 hb3
 cases hah : q2.ahead with
 | false =>
  rw [hah] at ca
  have Hah := J00 hah
  clear hah
  go_wp2
  go_end0
  refine HP.out _ _ ⟨rfl, HB3.out, x2, q2, se2, H3.out.1, ?_⟩
  have e0 : endsS op x2 q2 = false := by unfold endsS; rw [Hah.out]; rfl
  rw [e0]
  show RunS w3 M rv cv { x2 with mo := x.mo } q2 se2
  rw [← H.out.2.2.2.1]
  exact H3.out.2.1.fewer x1.mo (fun p hp => List.mem_cons_of_mem _ hp)
 | true =>
  rw [hah] at ca
  have Hah := J00 hah
  clear hah
  have hE := J19 op a b c n w3 M rv cv _ q2 se2 H3.out.2.1
  dsimp only at hE
  obtain ⟨bb, hbb⟩ : ∃ bb, decide ((op : Int) = 12 ∨ (op : Int) = 9 ∨ x2.steps = q2.til) = bb := ⟨_, rfl⟩
  rw [hbb] at hE
  have e0 : endsS op x2 q2 = bb := by unfold endsS; rw [Hah.out, hbb]; rfl
  have He0 := J00 e0
  have HE := J00 hE
  clear hE e0 hbb
  go_wp2_with (fail)
  refine HE.out.mono ?_
  rintro e w4 ⟨rfl, m4⟩
  have H4 := J00 (And.intro (H3.out.2.1.more m4) (And.intro (H.out.1 _ _ _ _ _ H3.out.1 (Below.mono m4 (Nat.le_of_lt H3.out.2.1.lt))) (J0w HB3.out (by have := H3.out.2.1.lt; have := H.out.2.2.1; omega) m4)))
  clear m4 HE
  cases bb with
  | false =>
   go_wp2
   go_end0
   refine HP.out _ _ ⟨rfl, H4.out.2.2, x2, q2, se2, H4.out.2.1, ?_⟩
   rw [He0.out]
   show RunS w4 M rv cv { x2 with mo := x.mo } q2 se2
   rw [← H.out.2.2.2.1]
   exact H4.out.1.fewer x1.mo (fun p hp => List.mem_cons_of_mem _ hp)
  | true =>
   have HT := J00 (J17 w4 M rv cv _ q2 se2 (H.out.2.1 _ _ _ _ H4.out.2.1) H4.out.1)
   go_wp2_with (fail)
   refine HT.out.mono ?_
   rintro e w5 ⟨rfl, r5, b5⟩
   have H5 := J00 (And.intro r5 b5)
   clear r5 b5 HT
   go_wp2
   go_end0
   refine HP.out _ _ ⟨rfl, Below.trans H4.out.2.2 (Below.mono H5.out.2 H.out.2.2.1), x2, q2, se2, H.out.1 _ _ _ _ _ H4.out.2.1 H5.out.2, ?_⟩
   rw [He0.out]
   show RunS w5 M rv cv { x2 with r := q2.br, wd := q2.bw, next := q2.bn, mo := x.mo } { q2 with puts := q2.bp, ahead := false } (se2 ++ [⟨4, 0, 0⟩])
   rw [← H.out.2.2.2.1]
   exact H5.out.1.fewer x1.mo (fun p hp => List.mem_cons_of_mem _ hp)

set_option maxHeartbeats 400000 in
theorem Jdr (a b c n : Int) (w : World) (M B : Nat) (rv cv : Value) (x x1 : Ms) (q : Tl) (se1 : List Se) (Good : World → Ms → Tl → List Se → Prop) (hB : B ≤ M) (hmo : x1.mo = x.mo) (hMw : M < w.heap.size)
  (hst : ∀ w1 w2 x2 q2 se2, Good w1 x2 q2 se2 → Below M w1 w2 → Good w2 x2 q2 se2) (hlen : ∀ w1 x2 q2 se2, Good w1 x2 q2 se2 → se2.length ≤ 200000)
  (hBg : Calls Tryz.prog 27 #[.pointer (some ⟨M, 0, none⟩)] w fun e w' => e = .returned (.agg #[V 8, V a, V b, V c, V n]) ∧ RunS w' M rv cv x1 q se1 ∧ Below M w w')
  (hA : Acts 68 8 a b c n w M B rv cv x1 q se1 Good) :
  Calls Tryz.prog 31 #[.pointer (some ⟨M, 0, none⟩)] w fun e w' => e = .returned (.tuple #[]) ∧ Below B w w' ∧ ∃ x2 q2 se2, Good w' x2 q2 se2 ∧ RunS w' M rv cv { backX (endsS 8 x2 q2) x2 q2 with mo := x.mo } (backQ (endsS 8 x2 q2) q2) (J1a (endsS 8 x2 q2) se2) := by
 suffices H0 : ∀ P : Ending → World → Prop, (∀ e w', (e = .returned (.tuple #[]) ∧ Below B w w' ∧ ∃ x2 q2 se2, Good w' x2 q2 se2 ∧ RunS w' M rv cv { backX (endsS 8 x2 q2) x2 q2 with mo := x.mo } (backQ (endsS 8 x2 q2) q2) (J1a (endsS 8 x2 q2) se2)) → P e w') → Calls Tryz.prog 31 #[.pointer (some ⟨M, 0, none⟩)] w P from H0 _ (fun _ _ h => h)
 intro P hP
 have HP := J00 hP
 have H := J00 (And.intro hst (And.intro hlen (And.intro hB (And.intro hmo hMw))))
 have HB := J00 hBg
 have HA := J00 hA
 clear hP hst hlen hB hmo hMw hBg hA
 go_enter Tryz.func31, Tryz.ntmps31
 go_wp2_with (fail)
 refine HB.out.mono ?_
 rintro e w1 ⟨rfl, r1, b1⟩
 have H1 := J00 (And.intro r1 b1)
 have hM1 := r1.lt
 clear r1 b1 HB
 have HA2 := J00 (HA.out.out _ _ (H1.out.1.beside (.cells #[V 8, V a, V b, V c, V n] 41)) ((J05 H1.out.2 (Nat.le_of_lt hM1) _)))
 clear HA
 go_wp2_with (fail)
 refine HA2.out.mono ?_
 rintro e w3 ⟨rfl, b3, x2, q2, se2, g3, r3⟩
 have H3 := J00 (And.intro g3 (And.intro r3 b3))
 clear g3 r3 b3
 have hb3 : Below B w w3 := Below.trans (Below.mono ((J05 H1.out.2 (Nat.le_of_lt hM1) _)) H.out.2.2.1) H3.out.2.2
 have HB3 := J00 hb3
 have ca := H3.out.2.1.ahead.1
 have hbox := H3.out.2.1.left (List.mem_cons_self)
 have z0 := J06 hbox 0 (V 8) (by simp)
 have z1 := J06 hbox 1 (V a) (by simp)
 have z2 := J06 hbox 2 (V b) (by simp)
 have z3 := J06 hbox 3 (V c) (by simp)
 have z4 := J06 hbox 4 (V n) (by simp)
 dsimp only at z0 z1 z2 z3 z4
 clear hbox HA2 hb3
 cases hah : q2.ahead with
 | false =>
  rw [hah] at ca
  have Hah := J00 hah
  clear hah
  go_wp2
  go_end0
  refine HP.out _ _ ⟨rfl, HB3.out, x2, q2, se2, H3.out.1, ?_⟩
  have e0 : endsS 8 x2 q2 = false := by unfold endsS; rw [Hah.out]; rfl
  rw [e0]
  show RunS w3 M rv cv { x2 with mo := x.mo } q2 se2
  rw [← H.out.2.2.2.1]
  exact H3.out.2.1.fewer x1.mo (fun p hp => List.mem_cons_of_mem _ hp)
 | true =>
  rw [hah] at ca
  have Hah := J00 hah
  clear hah
  have hE := J19 8 a b c n w3 M rv cv _ q2 se2 H3.out.2.1
  dsimp only at hE
  obtain ⟨bb, hbb⟩ : ∃ bb, decide ((8 : Int) = 12 ∨ (8 : Int) = 9 ∨ x2.steps = q2.til) = bb := ⟨_, rfl⟩
  rw [hbb] at hE
  have e0 : endsS 8 x2 q2 = bb := by unfold endsS; rw [Hah.out, hbb]; rfl
  have He0 := J00 e0
  have HE := J00 hE
  clear hE e0 hbb
  go_wp2_with (fail)
  refine HE.out.mono ?_
  rintro e w4 ⟨rfl, m4⟩
  have H4 := J00 (And.intro (H3.out.2.1.more m4) (And.intro (H.out.1 _ _ _ _ _ H3.out.1 (Below.mono m4 (Nat.le_of_lt H3.out.2.1.lt))) (J0w HB3.out (by have := H3.out.2.1.lt; have := H.out.2.2.1; omega) m4)))
  clear m4 HE
  cases bb with
  | false =>
   go_wp2
   go_end0
   refine HP.out _ _ ⟨rfl, H4.out.2.2, x2, q2, se2, H4.out.2.1, ?_⟩
   rw [He0.out]
   show RunS w4 M rv cv { x2 with mo := x.mo } q2 se2
   rw [← H.out.2.2.2.1]
   exact H4.out.1.fewer x1.mo (fun p hp => List.mem_cons_of_mem _ hp)
  | true =>
   have HT := J00 (J17 w4 M rv cv _ q2 se2 (H.out.2.1 _ _ _ _ H4.out.2.1) H4.out.1)
   go_wp2_with (fail)
   refine HT.out.mono ?_
   rintro e w5 ⟨rfl, r5, b5⟩
   have H5 := J00 (And.intro r5 b5)
   clear r5 b5 HT
   go_wp2
   go_end0
   refine HP.out _ _ ⟨rfl, Below.trans H4.out.2.2 (Below.mono H5.out.2 H.out.2.2.1), x2, q2, se2, H.out.1 _ _ _ _ _ H4.out.2.1 H5.out.2, ?_⟩
   rw [He0.out]
   show RunS w5 M rv cv { x2 with r := q2.br, wd := q2.bw, next := q2.bn, mo := x.mo } { q2 with puts := q2.bp, ahead := false } (se2 ++ [⟨4, 0, 0⟩])
   rw [← H.out.2.2.2.1]
   exact H5.out.1.fewer x1.mo (fun p hp => List.mem_cons_of_mem _ hp)

set_option maxHeartbeats 400000 in
theorem Jdn (a b c n : Int) (w : World) (M B : Nat) (rv cv : Value) (x x1 : Ms) (q : Tl) (se1 : List Se) (Good : World → Ms → Tl → List Se → Prop) (hB : B ≤ M) (hmo : x1.mo = x.mo) (hMw : M < w.heap.size)
  (hst : ∀ w1 w2 x2 q2 se2, Good w1 x2 q2 se2 → Below M w1 w2 → Good w2 x2 q2 se2) (hlen : ∀ w1 x2 q2 se2, Good w1 x2 q2 se2 → se2.length ≤ 200000)
  (hBg : Calls Tryz.prog 27 #[.pointer (some ⟨M, 0, none⟩)] w fun e w' => e = .returned (.agg #[V 3, V a, V b, V c, V n]) ∧ RunS w' M rv cv x1 q se1 ∧ Below M w w')
  (hA : Acts 69 3 a b c n w M B rv cv x1 q se1 Good) :
  Calls Tryz.prog 31 #[.pointer (some ⟨M, 0, none⟩)] w fun e w' => e = .returned (.tuple #[]) ∧ Below B w w' ∧ ∃ x2 q2 se2, Good w' x2 q2 se2 ∧ RunS w' M rv cv { backX (endsS 3 x2 q2) x2 q2 with mo := x.mo } (backQ (endsS 3 x2 q2) q2) (J1a (endsS 3 x2 q2) se2) := by
 suffices H0 : ∀ P : Ending → World → Prop, (∀ e w', (e = .returned (.tuple #[]) ∧ Below B w w' ∧ ∃ x2 q2 se2, Good w' x2 q2 se2 ∧ RunS w' M rv cv { backX (endsS 3 x2 q2) x2 q2 with mo := x.mo } (backQ (endsS 3 x2 q2) q2) (J1a (endsS 3 x2 q2) se2)) → P e w') → Calls Tryz.prog 31 #[.pointer (some ⟨M, 0, none⟩)] w P from H0 _ (fun _ _ h => h)
 intro P hP
 have HP := J00 hP
 have H := J00 (And.intro hst (And.intro hlen (And.intro hB (And.intro hmo hMw))))
 have HB := J00 hBg
 have HA := J00 hA
 clear hP hst hlen hB hmo hMw hBg hA
 go_enter Tryz.func31, Tryz.ntmps31
 go_wp2_with (fail)
 refine HB.out.mono ?_
 rintro e w1 ⟨rfl, r1, b1⟩
 have H1 := J00 (And.intro r1 b1)
 have hM1 := r1.lt
 clear r1 b1 HB
 have HA2 := J00 (HA.out.out _ _ (H1.out.1.beside (.cells #[V 3, V a, V b, V c, V n] 41)) ((J05 H1.out.2 (Nat.le_of_lt hM1) _)))
 clear HA
 go_wp2_with (fail)
 refine HA2.out.mono ?_
 rintro e w3 ⟨rfl, b3, x2, q2, se2, g3, r3⟩
 have H3 := J00 (And.intro g3 (And.intro r3 b3))
 clear g3 r3 b3
 have hb3 : Below B w w3 := Below.trans (Below.mono ((J05 H1.out.2 (Nat.le_of_lt hM1) _)) H.out.2.2.1) H3.out.2.2
 have HB3 := J00 hb3
 have ca := H3.out.2.1.ahead.1
 have hbox := H3.out.2.1.left (List.mem_cons_self)
 have z0 := J06 hbox 0 (V 3) (by simp)
 have z1 := J06 hbox 1 (V a) (by simp)
 have z2 := J06 hbox 2 (V b) (by simp)
 have z3 := J06 hbox 3 (V c) (by simp)
 have z4 := J06 hbox 4 (V n) (by simp)
 dsimp only at z0 z1 z2 z3 z4
 clear hbox HA2 hb3
 cases hah : q2.ahead with
 | false =>
  rw [hah] at ca
  have Hah := J00 hah
  clear hah
  go_wp2
  go_end0
  refine HP.out _ _ ⟨rfl, HB3.out, x2, q2, se2, H3.out.1, ?_⟩
  have e0 : endsS 3 x2 q2 = false := by unfold endsS; rw [Hah.out]; rfl
  rw [e0]
  show RunS w3 M rv cv { x2 with mo := x.mo } q2 se2
  rw [← H.out.2.2.2.1]
  exact H3.out.2.1.fewer x1.mo (fun p hp => List.mem_cons_of_mem _ hp)
 | true =>
  rw [hah] at ca
  have Hah := J00 hah
  clear hah
  have hE := J19 3 a b c n w3 M rv cv _ q2 se2 H3.out.2.1
  dsimp only at hE
  obtain ⟨bb, hbb⟩ : ∃ bb, decide ((3 : Int) = 12 ∨ (3 : Int) = 9 ∨ x2.steps = q2.til) = bb := ⟨_, rfl⟩
  rw [hbb] at hE
  have e0 : endsS 3 x2 q2 = bb := by unfold endsS; rw [Hah.out, hbb]; rfl
  have He0 := J00 e0
  have HE := J00 hE
  clear hE e0 hbb
  go_wp2_with (fail)
  refine HE.out.mono ?_
  rintro e w4 ⟨rfl, m4⟩
  have H4 := J00 (And.intro (H3.out.2.1.more m4) (And.intro (H.out.1 _ _ _ _ _ H3.out.1 (Below.mono m4 (Nat.le_of_lt H3.out.2.1.lt))) (J0w HB3.out (by have := H3.out.2.1.lt; have := H.out.2.2.1; omega) m4)))
  clear m4 HE
  cases bb with
  | false =>
   go_wp2
   go_end0
   refine HP.out _ _ ⟨rfl, H4.out.2.2, x2, q2, se2, H4.out.2.1, ?_⟩
   rw [He0.out]
   show RunS w4 M rv cv { x2 with mo := x.mo } q2 se2
   rw [← H.out.2.2.2.1]
   exact H4.out.1.fewer x1.mo (fun p hp => List.mem_cons_of_mem _ hp)
  | true =>
   have HT := J00 (J17 w4 M rv cv _ q2 se2 (H.out.2.1 _ _ _ _ H4.out.2.1) H4.out.1)
   go_wp2_with (fail)
   refine HT.out.mono ?_
   rintro e w5 ⟨rfl, r5, b5⟩
   have H5 := J00 (And.intro r5 b5)
   clear r5 b5 HT
   go_wp2
   go_end0
   refine HP.out _ _ ⟨rfl, Below.trans H4.out.2.2 (Below.mono H5.out.2 H.out.2.2.1), x2, q2, se2, H.out.1 _ _ _ _ _ H4.out.2.1 H5.out.2, ?_⟩
   rw [He0.out]
   show RunS w5 M rv cv { x2 with r := q2.br, wd := q2.bw, next := q2.bn, mo := x.mo } { q2 with puts := q2.bp, ahead := false } (se2 ++ [⟨4, 0, 0⟩])
   rw [← H.out.2.2.2.1]
   exact H5.out.1.fewer x1.mo (fun p hp => List.mem_cons_of_mem _ hp)

set_option maxHeartbeats 400000 in
theorem Jdp (a b c n : Int) (w : World) (M B : Nat) (rv cv : Value) (x x1 : Ms) (q : Tl) (se1 : List Se) (Good : World → Ms → Tl → List Se → Prop) (hB : B ≤ M) (hmo : x1.mo = x.mo) (hMw : M < w.heap.size)
  (hst : ∀ w1 w2 x2 q2 se2, Good w1 x2 q2 se2 → Below M w1 w2 → Good w2 x2 q2 se2) (hlen : ∀ w1 x2 q2 se2, Good w1 x2 q2 se2 → se2.length ≤ 200000)
  (hBg : Calls Tryz.prog 27 #[.pointer (some ⟨M, 0, none⟩)] w fun e w' => e = .returned (.agg #[V 5, V a, V b, V c, V n]) ∧ RunS w' M rv cv x1 q se1 ∧ Below M w w')
  (hA : Acts 69 5 a b c n w M B rv cv x1 q se1 Good) :
  Calls Tryz.prog 31 #[.pointer (some ⟨M, 0, none⟩)] w fun e w' => e = .returned (.tuple #[]) ∧ Below B w w' ∧ ∃ x2 q2 se2, Good w' x2 q2 se2 ∧ RunS w' M rv cv { backX (endsS 5 x2 q2) x2 q2 with mo := x.mo } (backQ (endsS 5 x2 q2) q2) (J1a (endsS 5 x2 q2) se2) := by
 suffices H0 : ∀ P : Ending → World → Prop, (∀ e w', (e = .returned (.tuple #[]) ∧ Below B w w' ∧ ∃ x2 q2 se2, Good w' x2 q2 se2 ∧ RunS w' M rv cv { backX (endsS 5 x2 q2) x2 q2 with mo := x.mo } (backQ (endsS 5 x2 q2) q2) (J1a (endsS 5 x2 q2) se2)) → P e w') → Calls Tryz.prog 31 #[.pointer (some ⟨M, 0, none⟩)] w P from H0 _ (fun _ _ h => h)
 intro P hP
 have HP := J00 hP
 have H := J00 (And.intro hst (And.intro hlen (And.intro hB (And.intro hmo hMw))))
 have HB := J00 hBg
 have HA := J00 hA
 clear hP hst hlen hB hmo hMw hBg hA
 go_enter Tryz.func31, Tryz.ntmps31
 go_wp2_with (fail)
 refine HB.out.mono ?_
 rintro e w1 ⟨rfl, r1, b1⟩
 have H1 := J00 (And.intro r1 b1)
 have hM1 := r1.lt
 clear r1 b1 HB
 have HA2 := J00 (HA.out.out _ _ (H1.out.1.beside (.cells #[V 5, V a, V b, V c, V n] 41)) ((J05 H1.out.2 (Nat.le_of_lt hM1) _)))
 clear HA
 go_wp2_with (fail)
 refine HA2.out.mono ?_
 rintro e w3 ⟨rfl, b3, x2, q2, se2, g3, r3⟩
 have H3 := J00 (And.intro g3 (And.intro r3 b3))
 clear g3 r3 b3
 have hb3 : Below B w w3 := Below.trans (Below.mono ((J05 H1.out.2 (Nat.le_of_lt hM1) _)) H.out.2.2.1) H3.out.2.2
 have HB3 := J00 hb3
 have ca := H3.out.2.1.ahead.1
 have hbox := H3.out.2.1.left (List.mem_cons_self)
 have z0 := J06 hbox 0 (V 5) (by simp)
 have z1 := J06 hbox 1 (V a) (by simp)
 have z2 := J06 hbox 2 (V b) (by simp)
 have z3 := J06 hbox 3 (V c) (by simp)
 have z4 := J06 hbox 4 (V n) (by simp)
 dsimp only at z0 z1 z2 z3 z4
 clear hbox HA2 hb3
 cases hah : q2.ahead with
 | false =>
  rw [hah] at ca
  have Hah := J00 hah
  clear hah
  go_wp2
  go_end0
  refine HP.out _ _ ⟨rfl, HB3.out, x2, q2, se2, H3.out.1, ?_⟩
  have e0 : endsS 5 x2 q2 = false := by unfold endsS; rw [Hah.out]; rfl
  rw [e0]
  show RunS w3 M rv cv { x2 with mo := x.mo } q2 se2
  rw [← H.out.2.2.2.1]
  exact H3.out.2.1.fewer x1.mo (fun p hp => List.mem_cons_of_mem _ hp)
 | true =>
  rw [hah] at ca
  have Hah := J00 hah
  clear hah
  have hE := J19 5 a b c n w3 M rv cv _ q2 se2 H3.out.2.1
  dsimp only at hE
  obtain ⟨bb, hbb⟩ : ∃ bb, decide ((5 : Int) = 12 ∨ (5 : Int) = 9 ∨ x2.steps = q2.til) = bb := ⟨_, rfl⟩
  rw [hbb] at hE
  have e0 : endsS 5 x2 q2 = bb := by unfold endsS; rw [Hah.out, hbb]; rfl
  have He0 := J00 e0
  have HE := J00 hE
  clear hE e0 hbb
  go_wp2_with (fail)
  refine HE.out.mono ?_
  rintro e w4 ⟨rfl, m4⟩
  have H4 := J00 (And.intro (H3.out.2.1.more m4) (And.intro (H.out.1 _ _ _ _ _ H3.out.1 (Below.mono m4 (Nat.le_of_lt H3.out.2.1.lt))) (J0w HB3.out (by have := H3.out.2.1.lt; have := H.out.2.2.1; omega) m4)))
  clear m4 HE
  cases bb with
  | false =>
   go_wp2
   go_end0
   refine HP.out _ _ ⟨rfl, H4.out.2.2, x2, q2, se2, H4.out.2.1, ?_⟩
   rw [He0.out]
   show RunS w4 M rv cv { x2 with mo := x.mo } q2 se2
   rw [← H.out.2.2.2.1]
   exact H4.out.1.fewer x1.mo (fun p hp => List.mem_cons_of_mem _ hp)
  | true =>
   have HT := J00 (J17 w4 M rv cv _ q2 se2 (H.out.2.1 _ _ _ _ H4.out.2.1) H4.out.1)
   go_wp2_with (fail)
   refine HT.out.mono ?_
   rintro e w5 ⟨rfl, r5, b5⟩
   have H5 := J00 (And.intro r5 b5)
   clear r5 b5 HT
   go_wp2
   go_end0
   refine HP.out _ _ ⟨rfl, Below.trans H4.out.2.2 (Below.mono H5.out.2 H.out.2.2.1), x2, q2, se2, H.out.1 _ _ _ _ _ H4.out.2.1 H5.out.2, ?_⟩
   rw [He0.out]
   show RunS w5 M rv cv { x2 with r := q2.br, wd := q2.bw, next := q2.bn, mo := x.mo } { q2 with puts := q2.bp, ahead := false } (se2 ++ [⟨4, 0, 0⟩])
   rw [← H.out.2.2.2.1]
   exact H5.out.1.fewer x1.mo (fun p hp => List.mem_cons_of_mem _ hp)

set_option maxHeartbeats 400000 in
theorem Jdo (a b c n : Int) (w : World) (M B : Nat) (rv cv : Value) (x x1 : Ms) (q : Tl) (se1 : List Se) (Good : World → Ms → Tl → List Se → Prop) (hB : B ≤ M) (hmo : x1.mo = x.mo) (hMw : M < w.heap.size)
  (hst : ∀ w1 w2 x2 q2 se2, Good w1 x2 q2 se2 → Below M w1 w2 → Good w2 x2 q2 se2) (hlen : ∀ w1 x2 q2 se2, Good w1 x2 q2 se2 → se2.length ≤ 200000)
  (hBg : Calls Tryz.prog 27 #[.pointer (some ⟨M, 0, none⟩)] w fun e w' => e = .returned (.agg #[V 4, V a, V b, V c, V n]) ∧ RunS w' M rv cv x1 q se1 ∧ Below M w w')
  (hA : Acts 70 4 a b c n w M B rv cv x1 q se1 Good) :
  Calls Tryz.prog 31 #[.pointer (some ⟨M, 0, none⟩)] w fun e w' => e = .returned (.tuple #[]) ∧ Below B w w' ∧ ∃ x2 q2 se2, Good w' x2 q2 se2 ∧ RunS w' M rv cv { backX (endsS 4 x2 q2) x2 q2 with mo := x.mo } (backQ (endsS 4 x2 q2) q2) (J1a (endsS 4 x2 q2) se2) := by
 suffices H0 : ∀ P : Ending → World → Prop, (∀ e w', (e = .returned (.tuple #[]) ∧ Below B w w' ∧ ∃ x2 q2 se2, Good w' x2 q2 se2 ∧ RunS w' M rv cv { backX (endsS 4 x2 q2) x2 q2 with mo := x.mo } (backQ (endsS 4 x2 q2) q2) (J1a (endsS 4 x2 q2) se2)) → P e w') → Calls Tryz.prog 31 #[.pointer (some ⟨M, 0, none⟩)] w P from H0 _ (fun _ _ h => h)
 intro P hP
 have HP := J00 hP
 have H := J00 (And.intro hst (And.intro hlen (And.intro hB (And.intro hmo hMw))))
 have HB := J00 hBg
 have HA := J00 hA
 clear hP hst hlen hB hmo hMw hBg hA
 go_enter Tryz.func31, Tryz.ntmps31
 go_wp2_with (fail)
 refine HB.out.mono ?_
 rintro e w1 ⟨rfl, r1, b1⟩
 have H1 := J00 (And.intro r1 b1)
 have hM1 := r1.lt
 clear r1 b1 HB
 have HA2 := J00 (HA.out.out _ _ (H1.out.1.beside (.cells #[V 4, V a, V b, V c, V n] 41)) ((J05 H1.out.2 (Nat.le_of_lt hM1) _)))
 clear HA
 go_wp2_with (fail)
 refine HA2.out.mono ?_
 rintro e w3 ⟨rfl, b3, x2, q2, se2, g3, r3⟩
 have H3 := J00 (And.intro g3 (And.intro r3 b3))
 clear g3 r3 b3
 have hb3 : Below B w w3 := Below.trans (Below.mono ((J05 H1.out.2 (Nat.le_of_lt hM1) _)) H.out.2.2.1) H3.out.2.2
 have HB3 := J00 hb3
 have ca := H3.out.2.1.ahead.1
 have hbox := H3.out.2.1.left (List.mem_cons_self)
 have z0 := J06 hbox 0 (V 4) (by simp)
 have z1 := J06 hbox 1 (V a) (by simp)
 have z2 := J06 hbox 2 (V b) (by simp)
 have z3 := J06 hbox 3 (V c) (by simp)
 have z4 := J06 hbox 4 (V n) (by simp)
 dsimp only at z0 z1 z2 z3 z4
 clear hbox HA2 hb3
 cases hah : q2.ahead with
 | false =>
  rw [hah] at ca
  have Hah := J00 hah
  clear hah
  go_wp2
  go_end0
  refine HP.out _ _ ⟨rfl, HB3.out, x2, q2, se2, H3.out.1, ?_⟩
  have e0 : endsS 4 x2 q2 = false := by unfold endsS; rw [Hah.out]; rfl
  rw [e0]
  show RunS w3 M rv cv { x2 with mo := x.mo } q2 se2
  rw [← H.out.2.2.2.1]
  exact H3.out.2.1.fewer x1.mo (fun p hp => List.mem_cons_of_mem _ hp)
 | true =>
  rw [hah] at ca
  have Hah := J00 hah
  clear hah
  have hE := J19 4 a b c n w3 M rv cv _ q2 se2 H3.out.2.1
  dsimp only at hE
  obtain ⟨bb, hbb⟩ : ∃ bb, decide ((4 : Int) = 12 ∨ (4 : Int) = 9 ∨ x2.steps = q2.til) = bb := ⟨_, rfl⟩
  rw [hbb] at hE
  have e0 : endsS 4 x2 q2 = bb := by unfold endsS; rw [Hah.out, hbb]; rfl
  have He0 := J00 e0
  have HE := J00 hE
  clear hE e0 hbb
  go_wp2_with (fail)
  refine HE.out.mono ?_
  rintro e w4 ⟨rfl, m4⟩
  have H4 := J00 (And.intro (H3.out.2.1.more m4) (And.intro (H.out.1 _ _ _ _ _ H3.out.1 (Below.mono m4 (Nat.le_of_lt H3.out.2.1.lt))) (J0w HB3.out (by have := H3.out.2.1.lt; have := H.out.2.2.1; omega) m4)))
  clear m4 HE
  cases bb with
  | false =>
   go_wp2
   go_end0
   refine HP.out _ _ ⟨rfl, H4.out.2.2, x2, q2, se2, H4.out.2.1, ?_⟩
   rw [He0.out]
   show RunS w4 M rv cv { x2 with mo := x.mo } q2 se2
   rw [← H.out.2.2.2.1]
   exact H4.out.1.fewer x1.mo (fun p hp => List.mem_cons_of_mem _ hp)
  | true =>
   have HT := J00 (J17 w4 M rv cv _ q2 se2 (H.out.2.1 _ _ _ _ H4.out.2.1) H4.out.1)
   go_wp2_with (fail)
   refine HT.out.mono ?_
   rintro e w5 ⟨rfl, r5, b5⟩
   have H5 := J00 (And.intro r5 b5)
   clear r5 b5 HT
   go_wp2
   go_end0
   refine HP.out _ _ ⟨rfl, Below.trans H4.out.2.2 (Below.mono H5.out.2 H.out.2.2.1), x2, q2, se2, H.out.1 _ _ _ _ _ H4.out.2.1 H5.out.2, ?_⟩
   rw [He0.out]
   show RunS w5 M rv cv { x2 with r := q2.br, wd := q2.bw, next := q2.bn, mo := x.mo } { q2 with puts := q2.bp, ahead := false } (se2 ++ [⟨4, 0, 0⟩])
   rw [← H.out.2.2.2.1]
   exact H5.out.1.fewer x1.mo (fun p hp => List.mem_cons_of_mem _ hp)

set_option maxHeartbeats 400000 in
theorem Jdq (a b c n : Int) (w : World) (M B : Nat) (rv cv : Value) (x x1 : Ms) (q : Tl) (se1 : List Se) (Good : World → Ms → Tl → List Se → Prop) (hB : B ≤ M) (hmo : x1.mo = x.mo) (hMw : M < w.heap.size)
  (hst : ∀ w1 w2 x2 q2 se2, Good w1 x2 q2 se2 → Below M w1 w2 → Good w2 x2 q2 se2) (hlen : ∀ w1 x2 q2 se2, Good w1 x2 q2 se2 → se2.length ≤ 200000)
  (hBg : Calls Tryz.prog 27 #[.pointer (some ⟨M, 0, none⟩)] w fun e w' => e = .returned (.agg #[V 6, V a, V b, V c, V n]) ∧ RunS w' M rv cv x1 q se1 ∧ Below M w w')
  (hA : Acts 70 6 a b c n w M B rv cv x1 q se1 Good) :
  Calls Tryz.prog 31 #[.pointer (some ⟨M, 0, none⟩)] w fun e w' => e = .returned (.tuple #[]) ∧ Below B w w' ∧ ∃ x2 q2 se2, Good w' x2 q2 se2 ∧ RunS w' M rv cv { backX (endsS 6 x2 q2) x2 q2 with mo := x.mo } (backQ (endsS 6 x2 q2) q2) (J1a (endsS 6 x2 q2) se2) := by
 suffices H0 : ∀ P : Ending → World → Prop, (∀ e w', (e = .returned (.tuple #[]) ∧ Below B w w' ∧ ∃ x2 q2 se2, Good w' x2 q2 se2 ∧ RunS w' M rv cv { backX (endsS 6 x2 q2) x2 q2 with mo := x.mo } (backQ (endsS 6 x2 q2) q2) (J1a (endsS 6 x2 q2) se2)) → P e w') → Calls Tryz.prog 31 #[.pointer (some ⟨M, 0, none⟩)] w P from H0 _ (fun _ _ h => h)
 intro P hP
 have HP := J00 hP
 have H := J00 (And.intro hst (And.intro hlen (And.intro hB (And.intro hmo hMw))))
 have HB := J00 hBg
 have HA := J00 hA
 clear hP hst hlen hB hmo hMw hBg hA
 go_enter Tryz.func31, Tryz.ntmps31
 go_wp2_with (fail)
 refine HB.out.mono ?_
 rintro e w1 ⟨rfl, r1, b1⟩
 have H1 := J00 (And.intro r1 b1)
 have hM1 := r1.lt
 clear r1 b1 HB
 have HA2 := J00 (HA.out.out _ _ (H1.out.1.beside (.cells #[V 6, V a, V b, V c, V n] 41)) ((J05 H1.out.2 (Nat.le_of_lt hM1) _)))
 clear HA
 go_wp2_with (fail)
 refine HA2.out.mono ?_
 rintro e w3 ⟨rfl, b3, x2, q2, se2, g3, r3⟩
 have H3 := J00 (And.intro g3 (And.intro r3 b3))
 clear g3 r3 b3
 have hb3 : Below B w w3 := Below.trans (Below.mono ((J05 H1.out.2 (Nat.le_of_lt hM1) _)) H.out.2.2.1) H3.out.2.2
 have HB3 := J00 hb3
 have ca := H3.out.2.1.ahead.1
 have hbox := H3.out.2.1.left (List.mem_cons_self)
 have z0 := J06 hbox 0 (V 6) (by simp)
 have z1 := J06 hbox 1 (V a) (by simp)
 have z2 := J06 hbox 2 (V b) (by simp)
 have z3 := J06 hbox 3 (V c) (by simp)
 have z4 := J06 hbox 4 (V n) (by simp)
 dsimp only at z0 z1 z2 z3 z4
 clear hbox HA2 hb3
 cases hah : q2.ahead with
 | false =>
  rw [hah] at ca
  have Hah := J00 hah
  clear hah
  go_wp2
  go_end0
  refine HP.out _ _ ⟨rfl, HB3.out, x2, q2, se2, H3.out.1, ?_⟩
  have e0 : endsS 6 x2 q2 = false := by unfold endsS; rw [Hah.out]; rfl
  rw [e0]
  show RunS w3 M rv cv { x2 with mo := x.mo } q2 se2
  rw [← H.out.2.2.2.1]
  exact H3.out.2.1.fewer x1.mo (fun p hp => List.mem_cons_of_mem _ hp)
 | true =>
  rw [hah] at ca
  have Hah := J00 hah
  clear hah
  have hE := J19 6 a b c n w3 M rv cv _ q2 se2 H3.out.2.1
  dsimp only at hE
  obtain ⟨bb, hbb⟩ : ∃ bb, decide ((6 : Int) = 12 ∨ (6 : Int) = 9 ∨ x2.steps = q2.til) = bb := ⟨_, rfl⟩
  rw [hbb] at hE
  have e0 : endsS 6 x2 q2 = bb := by unfold endsS; rw [Hah.out, hbb]; rfl
  have He0 := J00 e0
  have HE := J00 hE
  clear hE e0 hbb
  go_wp2_with (fail)
  refine HE.out.mono ?_
  rintro e w4 ⟨rfl, m4⟩
  have H4 := J00 (And.intro (H3.out.2.1.more m4) (And.intro (H.out.1 _ _ _ _ _ H3.out.1 (Below.mono m4 (Nat.le_of_lt H3.out.2.1.lt))) (J0w HB3.out (by have := H3.out.2.1.lt; have := H.out.2.2.1; omega) m4)))
  clear m4 HE
  cases bb with
  | false =>
   go_wp2
   go_end0
   refine HP.out _ _ ⟨rfl, H4.out.2.2, x2, q2, se2, H4.out.2.1, ?_⟩
   rw [He0.out]
   show RunS w4 M rv cv { x2 with mo := x.mo } q2 se2
   rw [← H.out.2.2.2.1]
   exact H4.out.1.fewer x1.mo (fun p hp => List.mem_cons_of_mem _ hp)
  | true =>
   have HT := J00 (J17 w4 M rv cv _ q2 se2 (H.out.2.1 _ _ _ _ H4.out.2.1) H4.out.1)
   go_wp2_with (fail)
   refine HT.out.mono ?_
   rintro e w5 ⟨rfl, r5, b5⟩
   have H5 := J00 (And.intro r5 b5)
   clear r5 b5 HT
   go_wp2
   go_end0
   refine HP.out _ _ ⟨rfl, Below.trans H4.out.2.2 (Below.mono H5.out.2 H.out.2.2.1), x2, q2, se2, H.out.1 _ _ _ _ _ H4.out.2.1 H5.out.2, ?_⟩
   rw [He0.out]
   show RunS w5 M rv cv { x2 with r := q2.br, wd := q2.bw, next := q2.bn, mo := x.mo } { q2 with puts := q2.bp, ahead := false } (se2 ++ [⟨4, 0, 0⟩])
   rw [← H.out.2.2.2.1]
   exact H5.out.1.fewer x1.mo (fun p hp => List.mem_cons_of_mem _ hp)

set_option maxHeartbeats 400000 in
theorem Jds (a b c n : Int) (w : World) (M B : Nat) (rv cv : Value) (x x1 : Ms) (q : Tl) (se1 : List Se) (Good : World → Ms → Tl → List Se → Prop) (hB : B ≤ M) (hmo : x1.mo = x.mo) (hMw : M < w.heap.size)
  (hst : ∀ w1 w2 x2 q2 se2, Good w1 x2 q2 se2 → Below M w1 w2 → Good w2 x2 q2 se2) (hlen : ∀ w1 x2 q2 se2, Good w1 x2 q2 se2 → se2.length ≤ 200000)
  (hBg : Calls Tryz.prog 27 #[.pointer (some ⟨M, 0, none⟩)] w fun e w' => e = .returned (.agg #[V 9, V a, V b, V c, V n]) ∧ RunS w' M rv cv x1 q se1 ∧ Below M w w')
  (hA : Acts 71 9 a b c n w M B rv cv x1 q se1 Good) :
  Calls Tryz.prog 31 #[.pointer (some ⟨M, 0, none⟩)] w fun e w' => e = .returned (.tuple #[]) ∧ Below B w w' ∧ ∃ x2 q2 se2, Good w' x2 q2 se2 ∧ RunS w' M rv cv { backX (endsS 9 x2 q2) x2 q2 with mo := x.mo } (backQ (endsS 9 x2 q2) q2) (J1a (endsS 9 x2 q2) se2) := by
 suffices H0 : ∀ P : Ending → World → Prop, (∀ e w', (e = .returned (.tuple #[]) ∧ Below B w w' ∧ ∃ x2 q2 se2, Good w' x2 q2 se2 ∧ RunS w' M rv cv { backX (endsS 9 x2 q2) x2 q2 with mo := x.mo } (backQ (endsS 9 x2 q2) q2) (J1a (endsS 9 x2 q2) se2)) → P e w') → Calls Tryz.prog 31 #[.pointer (some ⟨M, 0, none⟩)] w P from H0 _ (fun _ _ h => h)
 intro P hP
 have HP := J00 hP
 have H := J00 (And.intro hst (And.intro hlen (And.intro hB (And.intro hmo hMw))))
 have HB := J00 hBg
 have HA := J00 hA
 clear hP hst hlen hB hmo hMw hBg hA
 go_enter Tryz.func31, Tryz.ntmps31
 go_wp2_with (fail)
 refine HB.out.mono ?_
 rintro e w1 ⟨rfl, r1, b1⟩
 have H1 := J00 (And.intro r1 b1)
 have hM1 := r1.lt
 clear r1 b1 HB
 have HA2 := J00 (HA.out.out _ _ (H1.out.1.beside (.cells #[V 9, V a, V b, V c, V n] 41)) ((J05 H1.out.2 (Nat.le_of_lt hM1) _)))
 clear HA
 go_wp2_with (fail)
 refine HA2.out.mono ?_
 rintro e w3 ⟨rfl, b3, x2, q2, se2, g3, r3⟩
 have H3 := J00 (And.intro g3 (And.intro r3 b3))
 clear g3 r3 b3
 have hb3 : Below B w w3 := Below.trans (Below.mono ((J05 H1.out.2 (Nat.le_of_lt hM1) _)) H.out.2.2.1) H3.out.2.2
 have HB3 := J00 hb3
 have ca := H3.out.2.1.ahead.1
 have hbox := H3.out.2.1.left (List.mem_cons_self)
 have z0 := J06 hbox 0 (V 9) (by simp)
 have z1 := J06 hbox 1 (V a) (by simp)
 have z2 := J06 hbox 2 (V b) (by simp)
 have z3 := J06 hbox 3 (V c) (by simp)
 have z4 := J06 hbox 4 (V n) (by simp)
 dsimp only at z0 z1 z2 z3 z4
 clear hbox HA2 hb3
 cases hah : q2.ahead with
 | false =>
  rw [hah] at ca
  have Hah := J00 hah
  clear hah
  go_wp2
  go_end0
  refine HP.out _ _ ⟨rfl, HB3.out, x2, q2, se2, H3.out.1, ?_⟩
  have e0 : endsS 9 x2 q2 = false := by unfold endsS; rw [Hah.out]; rfl
  rw [e0]
  show RunS w3 M rv cv { x2 with mo := x.mo } q2 se2
  rw [← H.out.2.2.2.1]
  exact H3.out.2.1.fewer x1.mo (fun p hp => List.mem_cons_of_mem _ hp)
 | true =>
  rw [hah] at ca
  have Hah := J00 hah
  clear hah
  have hE := J19 9 a b c n w3 M rv cv _ q2 se2 H3.out.2.1
  dsimp only at hE
  obtain ⟨bb, hbb⟩ : ∃ bb, decide ((9 : Int) = 12 ∨ (9 : Int) = 9 ∨ x2.steps = q2.til) = bb := ⟨_, rfl⟩
  rw [hbb] at hE
  have e0 : endsS 9 x2 q2 = bb := by unfold endsS; rw [Hah.out, hbb]; rfl
  have He0 := J00 e0
  have HE := J00 hE
  clear hE e0 hbb
  go_wp2_with (fail)
  refine HE.out.mono ?_
  rintro e w4 ⟨rfl, m4⟩
  have H4 := J00 (And.intro (H3.out.2.1.more m4) (And.intro (H.out.1 _ _ _ _ _ H3.out.1 (Below.mono m4 (Nat.le_of_lt H3.out.2.1.lt))) (J0w HB3.out (by have := H3.out.2.1.lt; have := H.out.2.2.1; omega) m4)))
  clear m4 HE
  cases bb with
  | false =>
   go_wp2
   go_end0
   refine HP.out _ _ ⟨rfl, H4.out.2.2, x2, q2, se2, H4.out.2.1, ?_⟩
   rw [He0.out]
   show RunS w4 M rv cv { x2 with mo := x.mo } q2 se2
   rw [← H.out.2.2.2.1]
   exact H4.out.1.fewer x1.mo (fun p hp => List.mem_cons_of_mem _ hp)
  | true =>
   have HT := J00 (J17 w4 M rv cv _ q2 se2 (H.out.2.1 _ _ _ _ H4.out.2.1) H4.out.1)
   go_wp2_with (fail)
   refine HT.out.mono ?_
   rintro e w5 ⟨rfl, r5, b5⟩
   have H5 := J00 (And.intro r5 b5)
   clear r5 b5 HT
   go_wp2
   go_end0
   refine HP.out _ _ ⟨rfl, Below.trans H4.out.2.2 (Below.mono H5.out.2 H.out.2.2.1), x2, q2, se2, H.out.1 _ _ _ _ _ H4.out.2.1 H5.out.2, ?_⟩
   rw [He0.out]
   show RunS w5 M rv cv { x2 with r := q2.br, wd := q2.bw, next := q2.bn, mo := x.mo } { q2 with puts := q2.bp, ahead := false } (se2 ++ [⟨4, 0, 0⟩])
   rw [← H.out.2.2.2.1]
   exact H5.out.1.fewer x1.mo (fun p hp => List.mem_cons_of_mem _ hp)
def intsL (f : Nat → Int) (n : Nat) : List Value := (List.range n).map fun j => .int .i64 (f j)
theorem J6u (f : Nat → Int) (n : Nat) : (intsL f n).length = n := by simp [intsL]
theorem Jeu (f : Nat → Int) (n j : Nat) (h : j < n) : (intsL f n)[j]? = some (.int .i64 (f j)) := by simp [intsL, h]

set_option maxHeartbeats 400000 in
theorem Jik (w : World) (b o n c : Nat) (f : Nat → Int) (n0 : 0 < n) (n1 : n ≤ 64) (hc : ∀ j, j < n → w.cell? ⟨b, o + j, none⟩ = some (.int .i64 (f j))) :
  Calls Tryz.prog 64 #[.slice (some ⟨b, o, none⟩) n c] w fun e w' => ∃ g cap : Nat, e = .returned (.slice (some ⟨g, 0, none⟩) n cap) ∧ w'.ownsRow w.heap.size 2 1 (.slice (some ⟨g, 0, none⟩) n cap) n (intsL f n) ∧ More w w' := by
 obtain ⟨i0, hi, hz0, hz1, hz2⟩ := info_parts info2
 have Hi : Hid (Tryz.prog.info? 2 = some i0 ∧ i0.zero = some (.int .i64 0) ∧ i0.size = 1 ∧ i0.bytes = 8) := ⟨hi, hz0, hz1, hz2⟩
 have Hn : Hid (0 < n ∧ n ≤ 64) := ⟨n0, n1⟩
 have Hown1 : Hid ((w.alloc (.cells #[] 2)).ownsRow w.heap.size 2 1 (.slice (some ⟨w.heap.size, 0, none⟩) 0 0) 0 []) := World.ownsRow_made _ #[] 0 (Nat.le_refl _) (by unfold maxLen; omega) rfl
 have Hnews : Hid (∀ j u, (intsL f n)[j]? = some u → (w.alloc (.cells #[] 2)).cell? ((⟨b, o, none⟩ : Addr).add j) = some u) := by
  intro j u hu
  have hj : j < n := by have := (List.getElem?_eq_some_iff.1 hu).1; rw [J6u] at this; exact this
  rw [Jeu f n j hj] at hu
  rw [Go.WideShapes.add_plain, ← Option.some.inj hu]
  exact ((More.refl _).alloc _ _).cell (hc j hj)
 have Hone : Hid (∀ v ∈ intsL f n, v.oneCell' = true) := by intro v hv; simp [intsL] at hv; obtain ⟨j, _, rfl⟩ := hv; rfl
 clear hi hz0 hz1 hz2 n0 n1 hc
 have q60 : ∀ (w : World) (a : Option Addr) (n c n' c' : Nat), (binOp .eql 35 (.slice a n c) (.slice none n' c')).run Tryz.prog w = .ok (.bool a.isNone) w := fun w a n c n' c' => Lib.run_eql_slice_nil w _ _ a n c n' c' Tryz.underlying35
 go_enter Tryz.func64, Tryz.ntmps64
 go_wp2_with (at_builtin; refine wpList_append_lies _ rfl (.tmp 5) (.tmp 6) 35 rfl w.heap.size 2 i0 (.int .i64 0) 1 8 Tryz.underlying35 Hi.out.1 Hi.out.2.1 Hi.out.2.2.1 Hi.out.2.2.2 rfl (by decide) (.slice (some ⟨w.heap.size, 0, none⟩) 0 0) 0 [] rfl Hown1.out ⟨b, o, none⟩ n c (intsL f n) rfl (by rw [J6u, Nat.mul_one]) Hnews.out Hone.out Hn.out.1 (by have := Hn.out.2; unfold maxLen; omega) (by have := Hn.out.2; omega) (by simp) (w.heap.size + 1) (by simp) ?_; intro g cap w2 own2 gr2 hat2 hlt2)
 go_ret
 refine ⟨g, cap, by simp, by simpa using own2, ((More.refl _).alloc _ _).grownBy gr2 (fun k hk => ?_)⟩
 have : w.heap.size = k := by simpa [Value.ownBlock] using hk
 omega

structure Tld (w wr : World) (M : Nat) (rv cv : Value) (x : Ms) (gm rl k : Nat) (base G C : Nat → Nat) : Prop where
 at_ : MAt wr M rv cv { x with mv := .slice (some ⟨gm, 0, none⟩) rl rl }
 grew : w.grownBy wr (some M)
 lo : w.heap.size < gm
 hi : gm < wr.heap.size
 cells : ∀ j, j < rl → ∃ v, Wr wr gm j v
 done : ∀ j, j < k → Wr wr gm j (.slice (some ⟨G j, 0, none⟩) (base (j + 1) - base j) (C j))
 words : ∀ j, j < k → ∀ i, i < base (j + 1) - base j → wr.cell? ⟨G j, i, none⟩ = some (.int .i64 (x.wd (base j + i)))
 apart : ∀ j, j < k → gm < G j ∧ G j < wr.heap.size
 r0 : Wr wr w.heap.size 0 (.int .i64 0)
 r1 : Wr wr w.heap.size 1 (.int .i64 0)
 r2 : Wr wr w.heap.size 2 (.int .i64 0)
 r3 : Wr wr w.heap.size 3 (.slice none 0 0)
 r4 : Wr wr w.heap.size 4 (.slice none 0 0)

theorem Tld.start {w : World} {M : Nat} {rv cv : Value} {x : Ms} (hm : MAt w M rv cv x) (rl : Nat) (base G C : Nat → Nat) :
  Tld w (((w.setCell ⟨M, 6, none⟩ (.slice (some ⟨w.heap.size + 1, 0, none⟩) rl rl)).alloc (.cells #[.int .i64 0, .int .i64 0, .int .i64 0, .slice none 0 0, .slice none 0 0] 44)).alloc (.cells (madeCells #[.slice none 0 0] rl) 35)) M rv cv x (w.heap.size + 1) rl 0 base G C := by
 have hlt := hm.lt
 refine ⟨((hm.setMv _).alloc _).alloc _, J79 (J79 (J14 _ _ _ _) _) _, by omega, by simp, fun j hj => ⟨.slice none 0 0, ?_⟩, fun j hj => by omega, fun j hj => by omega, fun j hj => by omega, ⟨by go_simp, by go_simp⟩, ⟨by go_simp, by go_simp⟩, ⟨by go_simp, by go_simp⟩, ⟨by go_simp, by go_simp⟩, ⟨by go_simp, by go_simp⟩⟩
 have hj2 := Jg2 rl j hj
 exact ⟨by go_simp, by go_simp⟩

theorem Tld.step {w wr w5 : World} {M : Nat} {rv cv : Value} {x : Ms} {gm rl k : Nat} {base G C : Nat → Nat} (h : Tld w wr M rv cv x gm rl k base G C) (hM : M < w.heap.size) (hk : k < rl) (m : More wr w5) (g cap : Nat)
  (own : w5.ownsRow wr.heap.size 2 1 (.slice (some ⟨g, 0, none⟩) (base (k + 1) - base k) cap) (base (k + 1) - base k) (intsL (fun i => x.wd (base k + i)) (base (k + 1) - base k))) :
  Tld w (w5.setCell ⟨gm, k, none⟩ (.slice (some ⟨g, 0, none⟩) (base (k + 1) - base k) cap)) M rv cv x gm rl (k + 1) base (fun j => if j = k then g else G j) (fun j => if j = k then cap else C j) := by
 have hg := own.lt g rfl
 have hlo := h.lo
 have hhi := h.hi
 have hgs := J14 w5 gm k (.slice (some ⟨g, 0, none⟩) (base (k + 1) - base k) cap)
 have hb : w.grownBy w5 (some M) := J1x h.grew (m.grow _)
 have hsz : w5.heap.size ≤ (w5.setCell ⟨gm, k, none⟩ (.slice (some ⟨g, 0, none⟩) (base (k + 1) - base k) cap)).heap.size := hgs.size
 have hres : ∀ j v, Wr wr w.heap.size j v → Wr (w5.setCell ⟨gm, k, none⟩ (.slice (some ⟨g, 0, none⟩) (base (k + 1) - base k) cap)) w.heap.size j v := fun j v hw => (hw.kept (m.grow none) (by simp)).other _ _ _ (by omega)
 refine ⟨(h.at_.more m).kept hgs (by simp; omega), ⟨hb.os, hb.tape, hb.output, Nat.le_trans hb.size hgs.size, fun i hi hne => ?_⟩, h.lo, by have := m.size; omega, fun j hj => ?_, fun j hj => ?_, fun j hj i hi => ?_, fun j hj => ?_, hres _ _ h.r0, hres _ _ h.r1, hres _ _ h.r2, hres _ _ h.r3, hres _ _ h.r4⟩
 ·rw [hgs.block i (by have := hb.size; omega) (by simp; omega)]
  exact hb.block i hi hne
 ·obtain ⟨v, hv⟩ := h.cells j hj
  have hv5 := hv.kept (m.grow none) (by simp)
  by_cases e : j = k
  ·subst e; exact ⟨_, hv5.same _⟩
  ·exact ⟨v, hv5.other _ _ _ (by omega)⟩
 ·by_cases e : j = k
  ·subst e
   obtain ⟨v, hv⟩ := h.cells j hk
   simp only [if_true]
   exact (hv.kept (m.grow none) (by simp)).same _
  ·simp only [e, if_false]
   exact ((h.done j (by omega)).kept (m.grow none) (by simp)).other _ _ _ (by omega)
 ·by_cases e : j = k
  ·subst e
   simp only [if_true]
   rw [hgs.cell (v := .int .i64 (x.wd (base j + i))) ?_ (by simp; omega)]
   rw [World.ownsRow.cellAt own i (by omega)]
   exact Jeu _ _ i hi
  ·simp only [e, if_false]
   have := h.apart j (by omega)
   exact hgs.cell (m.cell (h.words j (by omega) i hi)) (by simp; omega)
 ·have := m.size
  by_cases e : j = k
  ·simp only [e, if_true]; omega
  ·simp only [e, if_false]
   have := h.apart j (by omega)
   omega

theorem Tld.mem {w wr : World} {M : Nat} {rv cv : Value} {x : Ms} {gm rl : Nat} {base G C : Nat → Nat} (h : Tld w wr M rv cv x gm rl rl base G C) (hrl : rl ≤ 6) (hb : ∀ j, j < rl → base (j + 1) - base j ≤ 64) {w' : World} (hg : ∀ b o v, gm ≤ b → wr.cell? ⟨b, o, none⟩ = some v → w'.cell? ⟨b, o, none⟩ = some v) :
  MIn w' ⟨rl, fun j => base (j + 1) - base j, fun j i => x.wd (base j + i)⟩ ⟨some ⟨gm, 0, none⟩, gm, 0, rl, fun j => some ⟨G j, 0, none⟩, C, G, fun _ => 0⟩ := by
 have hlo := h.lo
 refine ⟨fun _ => rfl, fun j hj => ?_, fun j hj _ => rfl, fun j hj i hi => ?_, by dsimp only; omega, fun j hj => by have := hb j hj; dsimp only; omega⟩
 ·dsimp only
  rw [Nat.zero_add]
  exact hg _ _ _ (Nat.le_refl _) (h.done j hj).1
 ·dsimp only
  rw [Nat.zero_add]
  have := h.apart j hj
  exact hg _ _ _ (by omega) (h.words j hj i hi)

theorem SeenOwn.elsewhere {w w' : World} {base : Nat} {v : Value} {l : List Se} (h : SeenOwn w base v l) (hb : l.length < 4611686018427387904) (hk : ∀ b, v.ownBlock = some b → w'.heap[b]? = w.heap[b]?) : Je8 w' v l := by
 by_cases h0 : l.length = 0
 ·have : l = [] := List.eq_nil_of_length_eq_zero h0
  subst this
  obtain ⟨a, b, o, c, e, h1, h2, h3⟩ := h.at_ hb
  exact ⟨a, b, o, c, e, h1, fun i s h => by simp at h, h3⟩
 ·obtain ⟨g, cap, rfl, _, _⟩ := World.ownsRow.form h (by omega)
  have hg : w'.heap[g]? = w.heap[g]? := hk g rfl
  obtain ⟨a, b, o, c, e, h1, h2, h3⟩ := h.at_ hb
  have ha := h1 (by omega)
  rw [ha] at e
  have e2 : g = b := by simp at e; exact e.1.1
  subst e2
  refine ⟨_, g, o, c, e, fun _ => rfl, fun i s hs => ?_, h3⟩
  have := h2 i s hs
  exact ⟨by rw [World.cell?_of_block hg]; exact this.1, by rw [World.cell?_of_block hg]; exact this.2.1, by rw [World.cell?_of_block hg]; exact this.2.2⟩

set_option maxHeartbeats 1000000 in
theorem J4m (w : World) (M : Nat) (ra : Option Addr) (rl rc : Nat) (cv : Value) (x : Ms) (se : List Se) (base : Nat → Nat) (h : Run w M (.slice ra rl rc) cv x se) (hrl : rl ≤ 6) (hst : ∀ j, j ≤ rl → x.st j = (base j : Int)) (hb0 : ∀ j, j < rl → base j < base (j + 1)) (hb : ∀ j, j < rl → base (j + 1) - base j ≤ 64) (hb1 : ∀ j, j ≤ rl → base j ≤ 384) (hl : se.length ≤ 200000) :
  Calls Tryz.prog 28 #[.pointer (some ⟨M, 0, none⟩)] w fun e w' => ∃ v, e = .returned v ∧ (∀ w'' : World, (∀ b, M < b → b < w'.heap.size → (∀ p ∈ x.mo, p.1 ≠ b) → w''.heap[b]? = w'.heap[b]?) → J35 w'' v ⟨x.fin, x.val, x.steps, se, ⟨rl, fun j => base (j + 1) - base j, fun j i => x.wd (base j + i)⟩⟩) ∧ w.grownBy w' (some M) := by
 obtain ⟨sv, hm, ho, hqm⟩ := h.out
 obtain ⟨sa, sc, rfl⟩ := Jab ho
 have hM := hm.lt
 have hn : ¬ M = w.heap.size := by omega
 have hn' : ¬ w.heap.size = M := by omega
 have hn1 : ¬ M = w.heap.size + 1 := by omega
 have hn1' : ¬ w.heap.size + 1 = M := by omega
 have H : Hid (MAt w M (.slice ra rl rc) cv { x with sv := .slice sa se.length sc } ∧ SeenOwn w (M + 1) (.slice sa se.length sc) se ∧ rl ≤ 6 ∧ (∀ j, j ≤ rl → x.st j = (base j : Int)) ∧ (∀ j, j < rl → base j < base (j + 1)) ∧ (∀ j, j < rl → base (j + 1) - base j ≤ 64) ∧ (∀ j, j ≤ rl → base j ≤ 384) ∧ se.length ≤ 200000) := ⟨hm, ho, hrl, hst, hb0, hb, hb1, hl⟩
 have HM : Hid (M < w.heap.size) := hM
 have HQ : Hid (∀ b, (Value.slice sa se.length sc).ownBlock = some b → M < b ∧ b < w.heap.size ∧ ∀ p ∈ x.mo, p.1 ≠ b) := by
  intro b hb
  have h1 := World.ownsRow.lt ho b hb
  exact ⟨by omega, h1.2, fun p hp e => (hqm p hp).2.1 (by rw [e]; exact hb.symm)⟩
 have HQ2 : Hid (∀ p ∈ x.mo, p.1 < w.heap.size) := fun p hp => J15 (hqm p hp).2.2
 have c0 := hm.p0.1
 obtain ⟨c6, f6⟩ := hm.mv
 have Hst := Tld.start hm rl base (fun _ => 0) (fun _ => 0)
 have HT : Hid (Tld w (((w.setCell ⟨M, 6, none⟩ (.slice (some ⟨w.heap.size + 1, 0, none⟩) rl rl)).alloc (.cells #[Value.int .i64 0, Value.int .i64 0, Value.int .i64 0, .slice none 0 0, .slice none 0 0] 44)).alloc (.cells (madeCells #[.slice none 0 0] rl) 35)) M (.slice ra rl rc) cv { x with sv := .slice sa se.length sc } (w.heap.size + 1) rl 0 base (fun _ => 0) (fun _ => 0)) := Hst
 have hmk := run_make_row' (P := Tryz.prog) 29 35 (.slice none 0 0) 24 Tryz.underlying29 Jo2 rfl .i64 .i64 rl (by omega) (by omega)
 clear h hm ho hrl hst hb0 hb hb1 hl Hst hqm
 go_enter Tryz.func28, Tryz.ntmps28
 go_wp2
 go_loopg [21] rl (fun q i wr => ∃ (k : Nat) (G C : Nat → Nat), k + q = rl ∧ i = Value.int .i64 k ∧ Tld w wr M (.slice ra rl rc) cv { x with sv := .slice sa se.length sc } (w.heap.size + 1) rl k base G C)
 case atStart => exact ⟨0, _, _, by omega, rfl, HT.out⟩
 case round =>
  obtain ⟨k, G, C, hkq, rfl, hT⟩ := hrel
  have HTk : Hid (Tld w wr M (.slice ra rl rc) cv { x with sv := .slice sa se.length sc } (w.heap.size + 1) rl k base G C) := hT
  have d6 := hT.at_.mv.1
  dsimp only at d6
  clear hT HT hmk c0 c6 f6
  cases gk with
  | zero =>
   obtain rfl : k = rl := by omega
   have d2 := HTk.out.at_.fin.1
   have d3 := HTk.out.at_.val.1
   have d4 := HTk.out.at_.steps.1
   have d5 := HTk.out.at_.sv.1
   dsimp only at d2 d3 d4 d5
   obtain ⟨z0, g0⟩ := HTk.out.r0
   obtain ⟨z1, g1⟩ := HTk.out.r1
   obtain ⟨z2, g2⟩ := HTk.out.r2
   obtain ⟨z3, g3⟩ := HTk.out.r3
   obtain ⟨z4, g4⟩ := HTk.out.r4
   go_wp2
   refine bodyPost_ret (v := .agg #[Value.int .i64 x.fin, Value.int .i64 x.val, Value.int .i64 x.steps, .slice sa se.length sc, .slice (some ⟨w.heap.size + 1, 0, none⟩) k k]) (by simp [results, Tryz.results28, go_sem, *]) rfl ⟨_, rfl, ?_⟩
   have hg : wr.grownBy (((((wr.setCell ⟨w.heap.size, 0, none⟩ (Value.int .i64 x.fin)).setCell ⟨w.heap.size, 1, none⟩ (Value.int .i64 x.val)).setCell ⟨w.heap.size, 2, none⟩ (Value.int .i64 x.steps)).setCell ⟨w.heap.size, 3, none⟩ (.slice sa se.length sc)).setCell ⟨w.heap.size, 4, none⟩ (.slice (some ⟨w.heap.size + 1, 0, none⟩) k k)) (some w.heap.size) := J0p (J0p (J0p (J0p (J0p (J0r _ _) _ _) _ _) _ _) _ _) _ _
   have hw : w.grownBy (((((wr.setCell ⟨w.heap.size, 0, none⟩ (Value.int .i64 x.fin)).setCell ⟨w.heap.size, 1, none⟩ (Value.int .i64 x.val)).setCell ⟨w.heap.size, 2, none⟩ (Value.int .i64 x.steps)).setCell ⟨w.heap.size, 3, none⟩ (.slice sa se.length sc)).setCell ⟨w.heap.size, 4, none⟩ (.slice (some ⟨w.heap.size + 1, 0, none⟩) k k)) (some M) :=
    ⟨hg.os.trans HTk.out.grew.os, hg.tape.trans HTk.out.grew.tape, hg.output.trans HTk.out.grew.output, Nat.le_trans HTk.out.grew.size hg.size, fun i hi hne => by rw [hg.block i (by have := HTk.out.grew.size; omega) (by simp; omega)]; exact HTk.out.grew.block i hi hne⟩
   refine ⟨fun w2 hg2 => ⟨.slice sa se.length sc, ⟨some ⟨w.heap.size + 1, 0, none⟩, w.heap.size + 1, 0, k, fun j => some ⟨G j, 0, none⟩, C, G, fun _ => 0⟩, rfl, SeenOwn.elsewhere (H.out.2.1.kept hw (fun b hb => by have := Option.some.inj hb; omega)) (by have := H.out.2.2.2.2.2.2.2; dsimp only; omega) (fun b hb => hg2 b (HQ.out b hb).1 (by have := hw.size; have := (HQ.out b hb).2.1; omega) (HQ.out b hb).2.2), HTk.out.mem H.out.2.2.1 H.out.2.2.2.2.2.1 (fun b o v hb hc => ?_)⟩, ?_⟩
   ·have h1 := hg.cell hc (by simp; omega)
    have hlt := J0x h1
    dsimp only at hlt
    rw [World.cell?_of_block (hg2 b (by have := HM.out; omega) hlt (fun p hp e => by have := HQ2.out p hp; omega))]
    exact h1
   exact hw
  | succ q =>
   have hk : k < rl := by omega
   have hk' : (k : Int) < (rl : Int) := by omega
   have hk0 : (0 : Int) ≤ (k : Int) := by omega
   have Hk : Hid (k < rl ∧ rl ≤ 6 ∧ base k < base (k + 1) ∧ base (k + 1) - base k ≤ 64 ∧ base (k + 1) ≤ 384) := ⟨hk, H.out.2.2.1, H.out.2.2.2.2.1 k hk, H.out.2.2.2.2.2.1 k hk, H.out.2.2.2.2.2.2.1 (k + 1) (by omega)⟩
   have t0 : wr.cell? ⟨M, 404 + k, none⟩ = some (Value.int .i64 (base k : Int)) := by have := (HTk.out.at_.st k (by have := Hk.out; omega)).1; dsimp only at this; rw [H.out.2.2.2.1 k (by omega)] at this; exact this
   have t1 : wr.cell? ⟨M, 404 + (k + 1), none⟩ = some (Value.int .i64 (base (k + 1) : Int)) := by have := (HTk.out.at_.st (k + 1) (by have := Hk.out; omega)).1; dsimp only at this; rw [H.out.2.2.2.1 (k + 1) (by omega)] at this; exact this
   obtain ⟨lo, hlo⟩ : ∃ lo, base k = lo := ⟨_, rfl⟩
   obtain ⟨hi, hhi⟩ : ∃ hi, base (k + 1) = hi := ⟨_, rfl⟩
   rw [hlo] at t0
   rw [hhi] at t1
   have Hlo : Hid (base k = lo ∧ base (k + 1) = hi) := ⟨hlo, hhi⟩
   have b1 : (lo : Int) ≤ (hi : Int) := by have := Hk.out; omega
   have b2 : (hi : Int) ≤ 384 := by have := Hk.out; omega
   have b3 : (0 : Int) ≤ (lo : Int) := by omega
   have b4 : (0 : Int) ≤ (hi : Int) := by omega
   have b5 : (lo : Int) ≤ 384 := by omega
   have b6 : ¬ 384 = lo := by have := Hk.out; omega
   have hk7 : (k : Int) < 7 := by have := Hk.out; omega
   have hk17 : (k : Int) + 1 < 7 := by have := Hk.out; omega
   have hk10 : (0 : Int) ≤ (k : Int) + 1 := by omega
   have hkw : wrap64 ((k : Int) + 1) = (k : Int) + 1 := by unfold wrap64; have := Hk.out; omega
   have ht : ((k : Int) + 1).toNat = k + 1 := by omega
   obtain ⟨v0, hv0⟩ := HTk.out.cells k hk
   obtain ⟨y0, f0⟩ := hv0
   have hwr := J12
   obtain ⟨S, HS⟩ : ∃ S : World → Prop, Hid (∀ w', S w' ↔ w'.cell? ⟨M, 6, none⟩ = some (.slice (some ⟨w.heap.size + 1, 0, none⟩) rl rl) ∧ w'.cell? ⟨M, 404 + k, none⟩ = some (Value.int .i64 (lo : Int)) ∧ w'.cell? ⟨M, 404 + (k + 1), none⟩ = some (Value.int .i64 (hi : Int))) := ⟨_, fun _ => Iff.rfl⟩
   have k6 : ∀ i : { w' // S w' }, i.val.cell? ⟨M, 6, none⟩ = some (.slice (some ⟨w.heap.size + 1, 0, none⟩) rl rl) := fun i => ((HS.out _).1 i.property).1
   have kl : ∀ i : { w' // S w' }, i.val.cell? ⟨M, 404 + k, none⟩ = some (Value.int .i64 (lo : Int)) := fun i => ((HS.out _).1 i.property).2.1
   have kh : ∀ i : { w' // S w' }, i.val.cell? ⟨M, 404 + (k + 1), none⟩ = some (Value.int .i64 (hi : Int)) := fun i => ((HS.out _).1 i.property).2.2
   have hne : Nonempty { w' // S w' } := ⟨⟨wr, (HS.out _).2 ⟨d6, t0, t1⟩⟩⟩
   go_wp2_with (fail)
   refine J03 (S := S) [(0, true), (1, true), (2, true), (3, true), (4, true), (5, true), (6, true), (7, true), (8, true), (9, true), (10, true), (11, true), (12, true), (13, true), (14, true), (15, true), (16, true), (17, true), (18, true), (19, true), (20, true), (21, true), (22, true), (23, true), (24, false), (25, true), (26, false)] (by kernel_rfl) (by kernel_rfl) (by kernel_rfl) ?_ ?_
   ·exact (HS.out _).2 ⟨d6, t0, t1⟩
   iterate 23 (refine J01 rfl (by kernel_rfl) (fun K hK => ?_); go_simp; refine hK _ _ ?_; clear hK K)
   refine J01 rfl (by kernel_rfl) (fun K hK => ?_); go_simp; refine hK _ _ ?_; clear hK K
   refine J02 rfl (by kernel_rfl) (fun K hK => ?_); go_simp
   refine (Jik _ M (17 + lo) (hi - lo) _ (fun i => x.wd (lo + i)) (by have := Hk.out; have := Hlo.out; omega) (by have := Hk.out; have := Hlo.out; omega) (fun j hj => ?_)).mono ?_
   ·have := (HTk.out.at_.drew.wd (lo + j) (by have := Hk.out; have := Hlo.out; omega)).1
    rw [Nat.add_assoc]
    exact this
   rintro e w5 ⟨g, cap, rfl, own5, m5⟩
   have H5 : Hid (w5.ownsRow wr.heap.size 2 1 (.slice (some ⟨g, 0, none⟩) (hi - lo) cap) (hi - lo) (intsL (fun i => x.wd (lo + i)) (hi - lo)) ∧ More wr w5) := ⟨own5, (More.refl _).drew.trans m5⟩
   have y5 := H5.out.2.cell y0
   have f5 := (Wr.kept (H5.out.2.grow none) (⟨y0, f0⟩ : Wr wr (w.heap.size + 1) k v0) (by simp)).2
   have e6 := H5.out.2.cell d6
   have e0 := H5.out.2.cell t0
   have e1 := H5.out.2.cell t1
   clear own5 m5
   go_simp
   refine hK _ _ ((HS.out _).2 ⟨e6, e0, e1⟩) ?_; clear hK K
   refine J01 rfl (by kernel_rfl) (fun K hK => ?_); go_simp; refine hK _ _ ?_; clear hK K
   refine J02 rfl (by kernel_rfl) (fun K hK => ?_); go_simp
   refine hK _ _ ((HS.out _).2 (by go_simp)) ?_; clear hK K
   refine J07 ?_
   clear k6 kl kh hne
   go_wp2
   go_roundg q
   case measure => omega
   case rel =>
    have hst := HTk.out.step HM.out Hk.out.1 H5.out.2 g cap (by rw [Hlo.out.1, Hlo.out.2]; exact H5.out.1)
    rw [Hlo.out.1, Hlo.out.2] at hst
    exact ⟨k + 1, _, _, by omega, by first | rfl | (push_cast; rfl), hst⟩

theorem Jl9 (w : World) (M : Nat) (ra : Option Addr) (rl rc : Nat) (cv : Value) (x : Ms) (se : List Se) (base : Nat → Nat) (h : Run w M (.slice ra rl rc) cv x se) (hrl : rl ≤ 6) (hst : ∀ j, j ≤ rl → x.st j = (base j : Int)) (hb0 : ∀ j, j < rl → base j < base (j + 1)) (hb : ∀ j, j < rl → base (j + 1) - base j ≤ 64) (hb1 : ∀ j, j ≤ rl → base j ≤ 384) (hl : se.length ≤ 200000) :
  Calls Tryz.prog 28 #[.pointer (some ⟨M, 0, none⟩)] w fun e w' => ∃ v, e = .returned v ∧ (∀ (B : Nat) (w'' : World), B < M → w'.grownBy w'' (some B) → J35 w'' v ⟨x.fin, x.val, x.steps, se, ⟨rl, fun j => base (j + 1) - base j, fun j i => x.wd (base j + i)⟩⟩) ∧ Below M w w' := by
 have hM := h.lt
 refine (J4m w M ra rl rc cv x se base h hrl hst hb0 hb hb1 hl).mono ?_
 rintro e w' ⟨v, rfl, h1, h2⟩
 exact ⟨v, rfl, fun B w'' hB hg => h1 w'' (fun b hb hlt _ => hg.block b hlt (by simp; omega)), Below.grown (Below.refl _ _) h2 (Nat.le_of_lt hM) (fun b hb => by have := Option.some.inj hb; omega)⟩
def noneS (cl : Nat) (x : Ms) (q : Tl) : Bool := q.ahead && (decide (x.steps < x.fuel) && !decide (x.next < (cl : Int)))

set_option maxHeartbeats 400000 in
theorem J3y (w : World) (M : Nat) (rv : Value) (ca : Option Addr) (cl cc : Nat) (x x2 : Ms) (q : Tl) (se : List Se) (r : Bool) (h : RunS w M rv (.slice ca cl cc) x q se) (hl : se.length ≤ 200000)
  (hG : ∀ w1, RunS w1 M rv (.slice ca cl cc) (backX (noneS cl x q) x q) (backQ (noneS cl x q) q) (J1a (noneS cl x q) se) → Calls Tryz.prog 25 #[.pointer (some ⟨M, 0, none⟩)] w1 fun e w' => e = .returned (.bool r) ∧ RunS w' M rv (.slice ca cl cc) x2 (backQ (noneS cl x q) q) (J1a (noneS cl x q) se) ∧ Below M w1 w') :
  Calls Tryz.prog 30 #[.pointer (some ⟨M, 0, none⟩)] w fun e w' => e = .returned (.bool r) ∧ RunS w' M rv (.slice ca cl cc) x2 (backQ (noneS cl x q) q) (J1a (noneS cl x q) se) ∧ Below M w w' := by
 suffices H0 : ∀ P : Ending → World → Prop, (∀ e w', (e = .returned (.bool r) ∧ RunS w' M rv (.slice ca cl cc) x2 (backQ (noneS cl x q) q) (J1a (noneS cl x q) se) ∧ Below M w w') → P e w') → Calls Tryz.prog 30 #[.pointer (some ⟨M, 0, none⟩)] w P from H0 _ (fun _ _ h => h)
 intro P hP
 have HP := J00 hP
 have H := J00 (And.intro h hl)
 have HG := J00 hG
 have ch := h.ahead.1
 have hM := h.lt
 have hF := fun w1 (m : More w w1) => J3u w1 M _ _ (h.more m).run.steps.1 (h.more m).run.fuel.1
 have hN := fun w1 (m : More w w1) => J5m w1 M _ ca cl cc (h.more m).run.next.1 (h.more m).run.p1.1
 dsimp only at hF hN
 obtain ⟨bf, hbf⟩ : ∃ bf, decide (x.steps < x.fuel) = bf := ⟨_, rfl⟩
 obtain ⟨bn, hbn⟩ : ∃ bn, decide (x.next < (cl : Int)) = bn := ⟨_, rfl⟩
 rw [hbf] at hF
 rw [hbn] at hN
 have hno : noneS cl x q = (q.ahead && (bf && !bn)) := by unfold noneS; rw [hbf, hbn]
 have Hno := J00 hno
 have HF := J00 hF
 have HN := J00 hN
 clear h hl hP hG hF hN hbf hbn hno
 have fin : ∀ w1, RunS w1 M rv (.slice ca cl cc) (backX (noneS cl x q) x q) (backQ (noneS cl x q) q) (J1a (noneS cl x q) se) → Below M w w1 → Calls Tryz.prog 25 #[.pointer (some ⟨M, 0, none⟩)] w1 fun e w' => e = .returned (.bool r) ∧ P (.returned (.bool r)) w' := by
  intro w1 r1 b1
  refine (HG.out w1 r1).mono ?_
  rintro e w2 ⟨rfl, r2, b2⟩
  exact ⟨rfl, HP.out _ _ ⟨rfl, r2, Below.trans b1 b2⟩⟩
 have Hfin := J00 fin
 clear fin HG HP
 cases hah : q.ahead with
 | false =>
  rw [hah] at ch
  have e0 : noneS cl x q = false := by rw [Hno.out, hah]; rfl
  have r0 : RunS w M rv (.slice ca cl cc) (backX (noneS cl x q) x q) (backQ (noneS cl x q) q) (J1a (noneS cl x q) se) := by rw [e0]; exact H.out.1
  have Hf := J00 (Hfin.out w r0 (Below.refl _ _))
  clear r0 e0 hah Hfin
  go_enter Tryz.func30, Tryz.ntmps30
  go_wp2_with (fail)
  refine Hf.out.mono ?_
  rintro e w2 ⟨rfl, hp⟩
  have Hp := J00 hp
  clear hp Hf
  go_wp2
  exact Hp.out
 | true =>
  rw [hah] at ch
  have Hah := J00 hah
  clear hah
  go_enter Tryz.func30, Tryz.ntmps30
  go_wp2_with (fail)
  refine (HF.out _ (More.refl _)).mono ?_
  rintro e w1 ⟨rfl, m1⟩
  have Hm1 := J00 m1
  clear m1 HF
  cases bf with
  | false =>
   have e0 : noneS cl x q = false := by rw [Hno.out, Hah.out]; rfl
   have r0 : RunS w1 M rv (.slice ca cl cc) (backX (noneS cl x q) x q) (backQ (noneS cl x q) q) (J1a (noneS cl x q) se) := by rw [e0]; exact H.out.1.more Hm1.out
   have Hf := J00 (Hfin.out w1 r0 (Below.mono Hm1.out (Nat.le_of_lt hM)))
   clear r0 e0 Hfin
   go_wp2_with (fail)
   refine Hf.out.mono ?_
   rintro e w2 ⟨rfl, hp⟩
   have Hp := J00 hp
   clear hp Hf
   go_wp2
   exact Hp.out
  | true =>
   go_wp2_with (fail)
   refine (HN.out _ Hm1.out).mono ?_
   rintro e w2 ⟨rfl, m2⟩
   have Hm2 := J00 (Hm1.out.trans m2)
   clear m2 HN
   cases bn with
   | true =>
    have e0 : noneS cl x q = false := by rw [Hno.out, Hah.out]; rfl
    have r0 : RunS w2 M rv (.slice ca cl cc) (backX (noneS cl x q) x q) (backQ (noneS cl x q) q) (J1a (noneS cl x q) se) := by rw [e0]; exact H.out.1.more Hm2.out
    have Hf := J00 (Hfin.out w2 r0 (Below.mono Hm2.out (Nat.le_of_lt hM)))
    clear r0 e0 Hfin
    go_wp2_with (fail)
    refine Hf.out.mono ?_
    rintro e w3 ⟨rfl, hp⟩
    have Hp := J00 hp
    clear hp Hf
    go_wp2
    exact Hp.out
   | false =>
    have e0 : noneS cl x q = true := by rw [Hno.out, Hah.out]; rfl
    have HT := J00 (J17 w2 M rv (.slice ca cl cc) x q se H.out.2 (H.out.1.more Hm2.out))
    go_wp2_with (fail)
    refine HT.out.mono ?_
    rintro e w3 ⟨rfl, r3, b3⟩
    have r0 : RunS w3 M rv (.slice ca cl cc) (backX (noneS cl x q) x q) (backQ (noneS cl x q) q) (J1a (noneS cl x q) se) := by rw [e0]; exact r3
    have Hf := J00 (Hfin.out w3 r0 (Below.trans (Below.mono Hm2.out (Nat.le_of_lt hM)) b3))
    clear r0 e0 Hfin r3 b3 HT
    go_wp2_with (fail)
    refine Hf.out.mono ?_
    rintro e w4 ⟨rfl, hp⟩
    have Hp := J00 hp
    clear hp Hf
    go_wp2
    exact Hp.out

set_option maxHeartbeats 400000 in
theorem Jim (w : World) (M : Nat) (ra : Option Addr) (rl rc : Nat) (cv : Value) (x : Ms) (q : Tl) (se : List Se) (base : Nat → Nat) (h : RunS w M (.slice ra rl rc) cv x q se) (hrl : rl ≤ 6) (hst : ∀ j, j ≤ rl → x.st j = (base j : Int)) (hb0 : ∀ j, j < rl → base j < base (j + 1)) (hb : ∀ j, j < rl → base (j + 1) - base j ≤ 64) (hb1 : ∀ j, j ≤ rl → base j ≤ 384) (hl : se.length ≤ 200000) :
  Calls Tryz.prog 32 #[.pointer (some ⟨M, 0, none⟩)] w fun e w' => ∃ v, e = .returned v ∧ (∀ (B : Nat) (w'' : World), B < M → w'.grownBy w'' (some B) → J35 w'' v ⟨x.fin, x.val, x.steps, se, ⟨rl, fun j => base (j + 1) - base j, fun j i => (if q.ahead = true then q.bw else x.wd) (base j + i)⟩⟩) ∧ Below M w w' := by
 have hM := h.lt
 suffices H0 : ∀ P : Ending → World → Prop, (∀ e w', (∃ v, e = .returned v ∧ (∀ (B : Nat) (w'' : World), B < M → w'.grownBy w'' (some B) → J35 w'' v ⟨x.fin, x.val, x.steps, se, ⟨rl, fun j => base (j + 1) - base j, fun j i => (if q.ahead = true then q.bw else x.wd) (base j + i)⟩⟩) ∧ Below M w w') → P e w') → Calls Tryz.prog 32 #[.pointer (some ⟨M, 0, none⟩)] w P from H0 _ (fun _ _ h => h)
 intro P hP
 have HP := J00 hP
 have H := J00 (And.intro (h.beside (.cells #[V 0, V 0, V 0, .slice none 0 0, .slice none 0 0] 44)) (And.intro hrl (And.intro hst (And.intro hb0 (And.intro hb (And.intro hb1 hl))))))
 have ch := h.ahead.1
 clear h hrl hst hb0 hb hb1 hl hP
 cases hah : q.ahead with
 | false =>
  rw [hah] at ch
  have Hah := J00 hah
  have hT := J4m _ M ra rl rc cv _ se base H.out.1.run H.out.2.1 H.out.2.2.1 H.out.2.2.2.1 H.out.2.2.2.2.1 H.out.2.2.2.2.2.1 H.out.2.2.2.2.2.2
  dsimp only at hT
  have HT := J00 hT
  clear hah hT
  go_enter Tryz.func32, Tryz.ntmps32
  go_wp2_with (fail)
  refine HT.out.mono ?_
  rintro e w5 ⟨v, rfl, hsh, g5⟩
  have HSH := J00 hsh
  have hR : w5.heap[w.heap.size]? = some (.cells #[V 0, V 0, V 0, .slice none 0 0, .slice none 0 0] 44 (0, 0)) := by
   rw [g5.block w.heap.size (by simp) (by simp; omega)]
   exact heap_alloc_last _ _
  obtain ⟨sv, lm, hv, hs1, hs2⟩ := hsh w5 (fun _ _ _ _ => rfl)
  dsimp only at hv
  subst hv
  obtain ⟨sa, sb, so, sc, rfl, _, _, _⟩ := hs1
  have y0 := J06 hR 0 (V 0) (by simp)
  have y1 := J06 hR 1 (V 0) (by simp)
  have y2 := J06 hR 2 (V 0) (by simp)
  have y3 := J06 hR 3 (.slice none 0 0) (by simp)
  have y4 := J06 hR 4 (.slice none 0 0) (by simp)
  have ff : ∀ j, w5.frozen? ⟨w.heap.size, j, none⟩ = false := fun j => by simp [World.frozen?, hR]
  have g0 := ff 0
  have g1 := ff 1
  have g2 := ff 2
  have g3 := ff 3
  have g4 := ff 4
  have hb5 : Below M w w5 := Below.grown (J05 (Below.refl _ _) (Nat.le_of_lt hM) _) g5 (by simp; omega) (fun b hb => by have := Option.some.inj hb; omega)
  have HB5 := J00 hb5
  clear hs2 hsh g5 hR ff hb5 HT
  obtain ⟨la, hla⟩ : ∃ la, lm.ma = la := ⟨_, rfl⟩
  obtain ⟨lc, hlc⟩ : ∃ lc, lm.mc = lc := ⟨_, rfl⟩
  rw [hla, hlc] at HSH ⊢
  clear hla hlc
  go_wp2
  refine bodyPost_ret (v := .agg #[V x.fin, V x.val, V x.steps, .slice sa se.length sc, .slice la rl lc]) (by simp [results, Tryz.results32, go_sem, *]) rfl ?_
  refine HP.out _ _ ⟨_, rfl, fun B w'' hB hg => ?_, ?_⟩
  ·rw [Hah.out]
   refine HSH.out w'' (fun b hb hlt hne => ?_)
   have hbR : b ≠ w.heap.size := fun e => hne (w.heap.size, .cells #[V 0, V 0, V 0, .slice none 0 0, .slice none 0 0] 44) (List.mem_cons_self) e.symm
   rw [hg.block b (by simpa using hlt) (by simp; omega)]
   rw [Below.heap_setCell _ _ _ _ (by dsimp only; omega), Below.heap_setCell _ _ _ _ (by dsimp only; omega), Below.heap_setCell _ _ _ _ (by dsimp only; omega), Below.heap_setCell _ _ _ _ (by dsimp only; omega), Below.heap_setCell _ _ _ _ (by dsimp only; omega)]
  ·have hle : M ≤ w.heap.size := Nat.le_of_lt hM
   exact Below.setCell (Below.setCell (Below.setCell (Below.setCell (Below.setCell HB5.out hle _) hle _) hle _) hle _) hle _
 | true =>
  rw [hah] at ch
  have Hah := J00 hah
  clear hah
  have HC := J00 (J66 _ M (.slice ra rl rc) cv _ q se H.out.1)
  go_enter Tryz.func32, Tryz.ntmps32
  go_wp2_with (fail)
  refine HC.out.mono ?_
  rintro e w4 ⟨rfl, r4, b4⟩
  have H4 := J00 (And.intro r4 b4)
  have hT := J4m _ M ra rl rc cv _ se base r4.run H.out.2.1 H.out.2.2.1 H.out.2.2.2.1 H.out.2.2.2.2.1 H.out.2.2.2.2.2.1 H.out.2.2.2.2.2.2
  dsimp only at hT
  have HT := J00 hT
  clear hT r4 b4 HC
  go_wp2_with (fail)
  refine HT.out.mono ?_
  rintro e w5 ⟨v, rfl, hsh, g5⟩
  have HSH := J00 hsh
  have hR : w5.heap[w.heap.size]? = some (.cells #[V 0, V 0, V 0, .slice none 0 0, .slice none 0 0] 44 (0, 0)) := by
   rw [g5.block w.heap.size (J15 (H4.out.1.left (List.mem_cons_self))) (by simp; omega)]
   exact H4.out.1.left (List.mem_cons_self)
  obtain ⟨sv, lm, hv, hs1, hs2⟩ := hsh w5 (fun _ _ _ _ => rfl)
  dsimp only at hv
  subst hv
  obtain ⟨sa, sb, so, sc, rfl, _, _, _⟩ := hs1
  have y0 := J06 hR 0 (V 0) (by simp)
  have y1 := J06 hR 1 (V 0) (by simp)
  have y2 := J06 hR 2 (V 0) (by simp)
  have y3 := J06 hR 3 (.slice none 0 0) (by simp)
  have y4 := J06 hR 4 (.slice none 0 0) (by simp)
  have ff : ∀ j, w5.frozen? ⟨w.heap.size, j, none⟩ = false := fun j => by simp [World.frozen?, hR]
  have g0 := ff 0
  have g1 := ff 1
  have g2 := ff 2
  have g3 := ff 3
  have g4 := ff 4
  have hb5 : Below M w w5 := Below.grown (Below.trans (J05 (Below.refl _ _) (Nat.le_of_lt hM) _) H4.out.2) g5 (Nat.le_of_lt H4.out.1.lt) (fun b hb => by have := Option.some.inj hb; omega)
  have HB5 := J00 hb5
  clear hs2 hsh g5 hR ff hb5 HT
  obtain ⟨la, hla⟩ : ∃ la, lm.ma = la := ⟨_, rfl⟩
  obtain ⟨lc, hlc⟩ : ∃ lc, lm.mc = lc := ⟨_, rfl⟩
  rw [hla, hlc] at HSH ⊢
  clear hla hlc
  go_wp2
  refine bodyPost_ret (v := .agg #[V x.fin, V x.val, V x.steps, .slice sa se.length sc, .slice la rl lc]) (by simp [results, Tryz.results32, go_sem, *]) rfl ?_
  refine HP.out _ _ ⟨_, rfl, fun B w'' hB hg => ?_, ?_⟩
  ·rw [Hah.out]
   refine HSH.out w'' (fun b hb hlt hne => ?_)
   have hbR : b ≠ w.heap.size := fun e => hne (w.heap.size, .cells #[V 0, V 0, V 0, .slice none 0 0, .slice none 0 0] 44) (List.mem_cons_self) e.symm
   rw [hg.block b (by simpa using hlt) (by simp; omega)]
   rw [Below.heap_setCell _ _ _ _ (by dsimp only; omega), Below.heap_setCell _ _ _ _ (by dsimp only; omega), Below.heap_setCell _ _ _ _ (by dsimp only; omega), Below.heap_setCell _ _ _ _ (by dsimp only; omega), Below.heap_setCell _ _ _ _ (by dsimp only; omega)]
  ·have hle : M ≤ w.heap.size := Nat.le_of_lt hM
   exact Below.setCell (Below.setCell (Below.setCell (Below.setCell (Below.setCell HB5.out hle _) hle _) hle _) hle _) hle _
end
section
open Go.RowKit
set_option linter.unusedSimpArgs false
set_option linter.unusedVariables false
structure Sim (p : Prg) (fuel : Nat) (x : Ms) (q : Tl) (f : Int → Int → Int) (s : Sp) (k : Nat) (σ : Int) : Prop where
 r : x.r = s.pl.r
 wd : ∀ j : Nat, (j : Int) < allI p → x.wd j = s.pl.wd j
 next : x.next = (s.pl.at_ : Int)
 fin : x.fin = 0
 val : x.val = 0
 ended : x.ended = false
 steps : x.steps = (k : Int)
 fuel : x.fuel = (fuel : Int)
 st : ∀ j, j ≤ p.rl → x.st j = baseI p.log j
 puts : ∀ j : Nat, (j : Int) < allI p → q.puts j = ((s.pl.past j).length : Int)
 was : ∀ j : Nat, (j : Int) < allI p → ∀ (t : Nat) v, (s.pl.past j)[t]? = some v → f j t = v
 ahead : q.ahead = s.ahead
 br : s.ahead = true → q.br = s.back.r
 bw : s.ahead = true → ∀ j : Nat, (j : Int) < allI p → q.bw j = s.back.wd j
 bn : s.ahead = true → q.bn = (s.back.at_ : Int)
 bp : s.ahead = true → ∀ j : Nat, (j : Int) < allI p → q.bp j = ((s.back.past j).length : Int)
 bwas : s.ahead = true → ∀ j : Nat, (j : Int) < allI p → ∀ (t : Nat) v, (s.back.past j)[t]? = some v → f j t = v
 less : s.ahead = true → ∀ j : Nat, (j : Int) < allI p → (s.back.past j).length ≤ (s.pl.past j).length
 til : s.ahead = true → q.til = (k : Int) - σ + 12

section
variable {p : Prg} {fuel : Nat} {x : Ms} {q : Tl} {f : Int → Int → Int} {s : Sp} {k : Nat} {σ : Int}

theorem Sim.returns (h : Sim p fuel x q f s k σ) (ha : s.ahead = true) (σ' : Int) : Sim p fuel { x with r := q.br, wd := q.bw, next := q.bn } { q with puts := q.bp, ahead := false } f s.returns k σ' :=
 ⟨h.br ha, h.bw ha, h.bn ha, h.fin, h.val, h.ended, h.steps, h.fuel, h.st, h.bp ha, h.bwas ha, rfl, fun a => by simp [Sp.returns] at a, fun a => by simp [Sp.returns] at a, fun a => by simp [Sp.returns] at a, fun a => by simp [Sp.returns] at a, fun a => by simp [Sp.returns] at a, fun a => by simp [Sp.returns] at a, fun a => by simp [Sp.returns] at a⟩
theorem Sim.begin (h : Sim p fuel x q f s k σ) (se : Se) : Sim p fuel { x with steps := x.steps + 1, next := (s.pl.at_ : Int) + 1 } q f ((s.see se).go (s.pl.at_ + 1)) (k + 1) (σ + 1) :=
 ⟨h.r, h.wd, by simp [Sp.see, Sp.go], h.fin, h.val, h.ended, by dsimp only; rw [h.steps]; push_cast; rfl, h.fuel, h.st, h.puts, h.was, h.ahead, h.br, h.bw, h.bn, h.bp, h.bwas, h.less, fun a => by rw [h.til a]; push_cast; omega⟩
theorem Sim.see (h : Sim p fuel x q f s k σ) (se : Se) : Sim p fuel x q f (s.see se) k σ := ⟨h.r, h.wd, h.next, h.fin, h.val, h.ended, h.steps, h.fuel, h.st, h.puts, h.was, h.ahead, h.br, h.bw, h.bn, h.bp, h.bwas, h.less, h.til⟩
theorem Sim.seens (h : Sim p fuel x q f s k σ) (l : List Se) : Sim p fuel x q f { s with seen := l } k σ := ⟨h.r, h.wd, h.next, h.fin, h.val, h.ended, h.steps, h.fuel, h.st, h.puts, h.was, h.ahead, h.br, h.bw, h.bn, h.bp, h.bwas, h.less, h.til⟩
theorem Sim.go (h : Sim p fuel x q f s k σ) (n : Nat) (m : Int) (hm : m = (n : Int)) : Sim p fuel { x with next := m } q f (s.go n) k σ := ⟨h.r, h.wd, hm, h.fin, h.val, h.ended, h.steps, h.fuel, h.st, h.puts, h.was, h.ahead, h.br, h.bw, h.bn, h.bp, h.bwas, h.less, h.til⟩
theorem Sim.regs (h : Sim p fuel x q f s k σ) (r : Nat → Int) : Sim p fuel { x with r := r } q f { s with pl := { s.pl with r := r } } k σ := ⟨rfl, h.wd, h.next, h.fin, h.val, h.ended, h.steps, h.fuel, h.st, h.puts, h.was, h.ahead, h.br, h.bw, h.bn, h.bp, h.bwas, h.less, h.til⟩
theorem Sim.reg (h : Sim p fuel x q f s k σ) (a v : Int) : Sim p fuel { x with r := setR x.r a v } q f (s.reg a v) k σ := by
 have := h.regs (setR x.r a v)
 rw [h.r] at this ⊢
 exact this
theorem Sim.tail (h : Sim p fuel x q f s k σ) (sc : Value) : Sim p fuel x { q with sc := sc } f { s with script := s.script.tail } k σ := ⟨h.r, h.wd, h.next, h.fin, h.val, h.ended, h.steps, h.fuel, h.st, h.puts, h.was, h.ahead, h.br, h.bw, h.bn, h.bp, h.bwas, h.less, h.til⟩
theorem Sim.mos (h : Sim p fuel x q f s k σ) (l : List (Nat × Obj)) : Sim p fuel { x with mo := l } q f s k σ := ⟨h.r, h.wd, h.next, h.fin, h.val, h.ended, h.steps, h.fuel, h.st, h.puts, h.was, h.ahead, h.br, h.bw, h.bn, h.bp, h.bwas, h.less, h.til⟩
theorem Sim.leave (h : Sim p fuel x q f s k (s.since + 1)) : Sim p fuel x (q.left x) f s.leave k (s.leave.since + 1) := by
 unfold Sp.leave Tl.left
 by_cases ha : s.ahead = true
 ·rw [if_pos ha, if_pos (by rw [h.ahead]; exact ha)]
  exact h
 ·rw [if_neg ha, if_neg (by rw [h.ahead]; exact ha)]
  exact ⟨h.r, h.wd, h.next, h.fin, h.val, h.ended, h.steps, h.fuel, h.st, h.puts, h.was, rfl, fun _ => h.r, fun _ => h.wd, fun _ => h.next, fun _ => h.puts, fun _ => h.was, fun _ _ _ => Nat.le_refl _, fun _ => by dsimp only; rw [h.steps]; omega⟩
theorem Sim.put (h : Sim p fuel x q f s k σ) (n : Int) (n0 : 0 ≤ n) (n1 : n < allI p) (a : Int) (v : Int) (hv : v = x.r a.toNat) :
  Sim p fuel { x with wd := setN x.wd n.toNat v } { q with puts := setN q.puts n.toNat (q.puts n.toNat + 1) } (fun n' t' => if n' = n ∧ t' = q.puts n.toNat then x.wd n.toNat else f n' t')
   { s with pl := { s.pl with past := setF s.pl.past n.toNat (s.pl.past n.toNat ++ [s.pl.wd n.toNat]), wd := setF s.pl.wd n.toNat (s.pl.r a.toNat) } } k σ := by
 have hn : ((n.toNat : Nat) : Int) = n := by omega
 have hn1 : ((n.toNat : Nat) : Int) < allI p := by omega
 have hp := h.puts n.toNat hn1
 refine ⟨h.r, fun j hj => ?_, h.next, h.fin, h.val, h.ended, h.steps, h.fuel, h.st, fun j hj => ?_, fun j hj t u hu => ?_, h.ahead, h.br, h.bw, h.bn, h.bp, fun ha j hj t u hu => ?_, fun ha j hj => ?_, h.til⟩
 ·dsimp only [setN, setF]
  by_cases e : j = n.toNat
  ·rw [if_pos e, if_pos e, hv, h.r]
  ·rw [if_neg e, if_neg e]; exact h.wd j hj
 ·dsimp only [setN, setF]
  by_cases e : j = n.toNat
  ·rw [if_pos e, if_pos e, hp]; simp
  ·rw [if_neg e, if_neg e]; exact h.puts j hj
 ·dsimp only [setF] at hu ⊢
  by_cases e : j = n.toNat
  ·subst e
   rw [if_pos rfl] at hu
   rw [hn, hp]
   by_cases et : t = (s.pl.past n.toNat).length
   ·subst et
    rw [if_pos ⟨rfl, rfl⟩, h.wd _ hn1]
    simp at hu
    exact hu
   ·rw [if_neg (fun hh => et (by have := hh.2; omega))]
    have hlt : t < (s.pl.past n.toNat).length := by
     have := (List.getElem?_eq_some_iff.1 hu).1
     simp at this
     omega
    rw [List.getElem?_append_left hlt] at hu
    have := h.was n.toNat hn1 t u hu
    rw [hn] at this
    exact this
  ·rw [if_neg e] at hu
   rw [if_neg (fun hh => e (by omega))]
   exact h.was j hj t u hu
 ·replace hu : (s.back.past j)[t]? = some u := hu
  have hb := h.bwas ha j hj t u hu
  have hl := h.less ha j hj
  have ht := (List.getElem?_eq_some_iff.1 hu).1
  show (if (j : Int) = n ∧ (t : Int) = q.puts n.toNat then x.wd n.toNat else f j t) = u
  rw [if_neg]
  ·exact hb
  ·rintro ⟨h1, h2⟩
   obtain rfl : j = n.toNat := by omega
   rw [hp] at h2
   omega
 ·dsimp only [setF]
  have := h.less ha j hj
  split
  ·rename_i e; subst e; simp; omega
  ·exact this

theorem Sim.noneLeft (h : Sim p fuel x q f s k σ) (hf : k < fuel) : Sim p fuel (backX (noneS p.cl x q) x q) (backQ (noneS p.cl x q) q) f (s.noneLeft p.cl) k σ ∧ J1a (noneS p.cl x q) s.seen = (s.noneLeft p.cl).seen := by
 have e : noneS p.cl x q = decide (p.cl ≤ s.pl.at_ ∧ s.ahead = true) := by
  unfold noneS
  rw [h.ahead, h.steps, h.fuel, h.next, decide_eq_true (by omega : (k : Int) < (fuel : Int))]
  by_cases hc : p.cl ≤ s.pl.at_
  ·cases s.ahead <;> simp [hc] <;> omega
  ·cases s.ahead <;> simp [hc] <;> omega
 rw [e]
 unfold Sp.noneLeft
 by_cases hc : p.cl ≤ s.pl.at_ ∧ s.ahead = true
 ·rw [if_pos hc, decide_eq_true hc]
  exact ⟨h.returns hc.2 σ, rfl⟩
 ·rw [if_neg hc, decide_eq_false hc]
  exact ⟨h, rfl⟩
theorem Sim.after (h : Sim p fuel x q f s k (s.since + 1)) (op : Int) (over : Bool) (ho : over = true ↔ (op = 12 ∨ op = 9 ∧ s.ahead = true)) (hop : op = 9 → s.ahead = true) :
  Sim p fuel (backX (endsS op x q) x q) (backQ (endsS op x q) q) f (s.after over) k (s.after over).since ∧ J1a (endsS op x q) s.seen = (s.after over).seen := by
 unfold Sp.after
 by_cases ha : s.ahead = true
 ·rw [if_pos ha]
  have e : endsS op x q = decide (over = true ∨ s.since + 1 = 12) := by
   unfold endsS
   rw [h.ahead, ha, h.steps, h.til ha, Bool.true_and]
   congr 1
   rw [ho]
   apply propext
   constructor
   ·rintro (h1 | h1 | h1)
    ·exact .inl (.inl h1)
    ·exact .inl (.inr ⟨h1, ha⟩)
    ·right; omega
   ·rintro ((h1 | h1) | h1)
    ·exact .inl h1
    ·exact .inr (.inl h1.1)
    ·right; right; omega
  rw [e]
  by_cases hc : over = true ∨ s.since + 1 = 12
  ·rw [if_pos hc, decide_eq_true hc]
   have h2 : Sim p fuel x q f { s with since := s.since + 1 } k (s.since + 1) := ⟨h.r, h.wd, h.next, h.fin, h.val, h.ended, h.steps, h.fuel, h.st, h.puts, h.was, h.ahead, h.br, h.bw, h.bn, h.bp, h.bwas, h.less, h.til⟩
   exact ⟨h2.returns ha _, rfl⟩
  ·rw [if_neg hc, decide_eq_false hc]
   exact ⟨⟨h.r, h.wd, h.next, h.fin, h.val, h.ended, h.steps, h.fuel, h.st, h.puts, h.was, h.ahead, h.br, h.bw, h.bn, h.bp, h.bwas, h.less, h.til⟩, rfl⟩
 ·rw [if_neg ha]
  have e : endsS op x q = false := by unfold endsS; rw [h.ahead]; simp [ha]
  rw [e]
  exact ⟨⟨h.r, h.wd, h.next, h.fin, h.val, h.ended, h.steps, h.fuel, h.st, h.puts, h.was, h.ahead, h.br, h.bw, h.bn, h.bp, h.bwas, h.less, fun a => absurd a ha⟩, rfl⟩
end

structure Jlu (p : Prg) (x : Ms) (q : Tl) (wd : Nat → Int) (fn vl t : Int) : Prop where
 fin : x.fin = fn
 val : x.val = vl
 steps : x.steps = t
 ended : x.ended = true
 ahead : q.ahead = false
 wd : ∀ j : Nat, (j : Int) < allI p → x.wd j = wd j
 st : ∀ j, j ≤ p.rl → x.st j = baseI p.log j
end
section
open Go.RowKit
set_option linter.unusedSimpArgs false
set_option linter.unusedVariables false
set_option maxRecDepth 8000
structure GoodS (p : Prg) (fuel : Nat) (s : Sp) (k mb : Nat) (op : Int) (w : World) (x : Ms) (q : Tl) (se : List Se) : Prop where
 out : ∃ f, q.mb = mb ∧ MapAt w mb f ∧ ScAt w mb q.sc (stepS p s).1.script ∧ se = (stepS p s).1.seen ∧
  match (stepS p s).2.2 with
  | none => Sim p fuel x q f (stepS p s).1 (k + 1) ((stepS p s).1.since + 1) ∧ ((stepS p s).2.1 = true ↔ (op = 12 ∨ op = 9 ∧ (stepS p s).1.ahead = true)) ∧ (op = 9 → (stepS p s).1.ahead = true)
  | some e => Jlu p x q s.pl.wd e.1 e.2 ((k : Int) + 1)

structure Bgn (p : Prg) (fuel : Nat) (w : World) (M mb : Nat) (x : Ms) (q : Tl) (f : Int → Int → Int) (s : Sp) (k : Nat) : Prop where
 sim : Sim p fuel x q f s k s.since
 hmb : q.mb = mb
 mM : mb < M
 map : MapAt w mb f
 sc : ScAt w mb q.sc s.script
 inv : InvS p k (4 * k + 1) s
 some_ : k < fuel
 most : fuel ≤ 40000
 all : allI p ≤ 384
 base : ∀ j, j < p.rl → 0 ≤ baseI p.log j ∧ baseI p.log (j + 1) = baseI p.log j + J0g (p.log j) ∧ 0 ≤ J0g (p.log j) ∧ baseI p.log (j + 1) ≤ 384
 six : p.rl ≤ 6

section
variable {p : Prg} {fuel : Nat} {w : World} {M mb : Nat} {rv cv : Value} {x : Ms} {q : Tl} {f : Int → Int → Int} {s : Sp} {k : Nat}

def Ms.begun (x : Ms) (s : Sp) : Ms := { x with steps := x.steps + 1, next := (s.pl.at_ : Int) + 1 }

theorem Bgn.keep (h : Bgn p fuel w M mb x q f s k) {w1 w' : World} (b1 : Below M w w1) (b2 : Below M w1 w') : MapAt w' mb f ∧ ScAt w' mb q.sc s.script :=
 ⟨(h.map.below b1 h.mM).below b2 h.mM, (h.sc.below (Below.mono b1 (Nat.le_of_lt h.mM))).below (Below.mono b2 (Nat.le_of_lt h.mM))⟩
theorem Bgn.on (h : Bgn p fuel w M mb x q f s k) : Sim p fuel (x.begun s) q f s.on (k + 1) (s.since + 1) := h.sim.begin _

theorem Jcd (h : Bgn p fuel w M mb x q f s k) (op a b c n : Int) (x2 : Ms) (se2 : List Se)
  (hD : ∀ w1 mo, Run w1 M rv cv { x.begun s with T := 98, tl := tlF q, mo := mo } (s.seen ++ [⟨1, s.pl.at_, 0⟩]) → Calls Tryz.prog 26 #[.pointer (some ⟨M, 0, none⟩), .agg #[V op, V a, V b, V c, V n]] w1 fun e w' => e = .returned (.tuple #[]) ∧ Run w' M rv cv { x2 with T := 98, tl := tlF q, mo := mo } se2 ∧ Below M w1 w')
  (hs : (stepS p s).1.script = s.script) (hse : se2 = (stepS p s).1.seen) (hn : (stepS p s).2.2 = none) (hsim : Sim p fuel x2 q f (stepS p s).1 (k + 1) ((stepS p s).1.since + 1)) (hov : (stepS p s).2.1 = true ↔ (op = 12 ∨ op = 9 ∧ (stepS p s).1.ahead = true)) (h9 : ¬ op = 9) :
  Acts 26 op a b c n w M mb rv cv (x.begun s) q (s.seen ++ [⟨1, s.pl.at_, 0⟩]) (GoodS p fuel s k mb op) := by
 refine ⟨fun w1 mo r1 b1 => ?_⟩
 refine (hD w1 mo r1.run).mono ?_
 rintro e w' ⟨rfl, r2, b2⟩
 refine ⟨rfl, Below.mono b2 (Nat.le_of_lt h.mM), x2, q, se2, ⟨f, h.hmb, (h.keep b1 b2).1, by rw [hs]; exact (h.keep b1 b2).2, hse, ?_⟩, ⟨r2⟩⟩
 rw [hn]
 exact ⟨hsim, hov, fun e => absurd e h9⟩

theorem Jnr (h : Bgn p fuel w M mb x q f s k) (a b c n : Int) (hI : p.ins s.pl.at_ = ⟨7, a, b, c, n⟩) (a0 : 0 ≤ a) (a1 : a < 10) (n0 : 0 ≤ n) :
  Acts 26 7 a b c n w M mb rv cv (x.begun s) q (s.seen ++ [⟨1, s.pl.at_, 0⟩]) (GoodS p fuel s k mb 7) := by
 have e := J6n hI rfl
 refine Jcd h 7 a b c n { x.begun s with next := n } _ (fun w1 mo r1 => do_7 a b c n w1 M rv cv _ _ r1 a0 a1) (by rw [e]; rfl) (by rw [e]; rfl) (by rw [e]) ?_ (by rw [e]; simp) (by omega)
 rw [e]
 exact h.on.go n.toNat n (by omega)
theorem Jme (h : Bgn p fuel w M mb x q f s k) (a b c n : Int) (hI : p.ins s.pl.at_ = ⟨12, a, b, c, n⟩) (a0 : 0 ≤ a) (a1 : a < 10) :
  Acts 26 12 a b c n w M mb rv cv (x.begun s) q (s.seen ++ [⟨1, s.pl.at_, 0⟩]) (GoodS p fuel s k mb 12) := by
 have e := J2o hI (.inr rfl)
 refine Jcd h 12 a b c n (x.begun s) _ (fun w1 mo r1 => do_12 a b c n w1 M rv cv _ _ r1 a0 a1) (by rw [e]; rfl) (by rw [e]; rfl) (by rw [e]) ?_ (by rw [e]; simp) (by omega)
 rw [e]
 exact h.on
theorem Jgx (h : Bgn p fuel w M mb x q f s k) (op a b c n : Int) (hI : p.ins s.pl.at_ = ⟨op, a, b, c, n⟩) (h3 : ¬ op = 3) (h4 : ¬ op = 4) (h5 : ¬ op = 5) (h6 : ¬ op = 6) (h7 : ¬ op = 7) (h8 : ¬ op = 8) (h9 : ¬ op = 9) (h12 : ¬ op = 12)
  (hD : ∀ w1 mo, Run w1 M rv cv { x.begun s with T := 98, tl := tlF q, mo := mo } (s.seen ++ [⟨1, s.pl.at_, 0⟩]) → Calls Tryz.prog 26 #[.pointer (some ⟨M, 0, none⟩), .agg #[V op, V a, V b, V c, V n]] w1 fun e w' => e = .returned (.tuple #[]) ∧ Run w' M rv cv { x.begun s with r := (regsI x.r ⟨op, a, b, c, n⟩).1, T := 98, tl := tlF q, mo := mo } (s.seen ++ [⟨1, s.pl.at_, 0⟩] ++ (regsI x.r ⟨op, a, b, c, n⟩).2) ∧ Below M w1 w') :
  Acts 26 op a b c n w M mb rv cv (x.begun s) q (s.seen ++ [⟨1, s.pl.at_, 0⟩]) (GoodS p fuel s k mb op) := by
 have e := J6o hI h3 h4 h5 h6 h7 h8 h9 h12
 refine Jcd h op a b c n { x.begun s with r := (regsI x.r ⟨op, a, b, c, n⟩).1 } _ hD (by rw [e]; rfl) (by rw [e, h.sim.r]; rfl) (by rw [e]) ?_ (by rw [e]; simp; omega) h9
 rw [e]
 have := (h.on.regs (regsI x.r ⟨op, a, b, c, n⟩).1).seens (s.on.seen ++ (regsI s.pl.r ⟨op, a, b, c, n⟩).2)
 rw [h.sim.r] at this ⊢
 exact this

theorem Jgw (h : Bgn p fuel w M mb x q f s k) (op a b c n : Int) (hI : p.ins s.pl.at_ = ⟨op, a, b, c, n⟩) (hin : InsOk p.rl p.log p.cl 10 ⟨op, a, b, c, n⟩) (h3 : ¬ op = 3) (h4 : ¬ op = 4) (h5 : ¬ op = 5) (h6 : ¬ op = 6) (h8 : ¬ op = 8) (h9 : ¬ op = 9) :
  Acts 26 op a b c n w M mb rv cv (x.begun s) q (s.seen ++ [⟨1, s.pl.at_, 0⟩]) (GoodS p fuel s k mb op) := by
 have hlen : (s.seen ++ [(⟨1, s.pl.at_, 0⟩ : Se)]).length ≤ 200000 := by
  have := h.inv.seen
  have := h.some_
  have := h.most
  simp
  omega
 unfold InsOk Reg Plc at hin
 dsimp only at hin
 by_cases h7 : op = 7
 ·subst h7
  simp at hin
  exact Jnr h a b c n hI (by omega) (by omega) (by omega)
 by_cases h12 : op = 12
 ·subst h12
  simp at hin
  exact Jme h a b c n hI (by omega) (by omega)
 refine Jgx h op a b c n hI h3 h4 h5 h6 h7 h8 h9 h12 (fun w1 mo r1 => ?_)
 by_cases h1 : op = 1
 ·subst h1
  simp at hin
  have e : regsI x.r ⟨1, a, b, c, n⟩ = (setR x.r a n, []) := by simp [regsI]
  rw [e, List.append_nil]
  exact do_1 a b c n w1 M rv cv _ _ r1 (by omega) (by omega)
 by_cases h2 : op = 2
 ·subst h2
  simp at hin
  have e : regsI x.r ⟨2, a, b, c, n⟩ = (setR x.r a (x.r b.toNat), []) := by simp [regsI]
  rw [e, List.append_nil]
  exact do_2 a b c n w1 M rv cv _ _ r1 (by omega) (by omega) (by omega) (by omega)
 by_cases h10 : op = 10
 ·subst h10
  simp at hin
  have e : regsI x.r ⟨10, a, b, c, n⟩ = (setR x.r a (wrap64 (x.r b.toNat + n)), []) := by simp [regsI]
  rw [e, List.append_nil]
  exact do_10 a b c n w1 M rv cv _ _ r1 (by omega) (by omega) (by omega) (by omega)
 by_cases h11 : op = 11
 ·subst h11
  simp at hin
  by_cases lo : x.r a.toNat < 0
  ·have e : regsI x.r ⟨11, a, b, c, n⟩ = (setR x.r a 0, []) := by simp [regsI, lo]
   rw [e, List.append_nil]
   exact Jh9 a b c n _ w1 M rv cv _ _ r1 (by omega) (by omega) rfl lo
  ·by_cases hi : n ≤ x.r a.toNat
   ·have e : regsI x.r ⟨11, a, b, c, n⟩ = (setR x.r a 0, []) := by simp [regsI, hi]
    rw [e, List.append_nil]
    exact Jh7 a b c n _ w1 M rv cv _ _ r1 (by omega) (by omega) rfl lo hi
   ·have e : regsI x.r ⟨11, a, b, c, n⟩ = (x.r, []) := by unfold regsI; dsimp only; rw [if_neg (by decide), if_neg (by decide), if_neg (by decide), if_pos rfl, if_neg (by omega)]
    rw [e, List.append_nil]
    exact Jh8 a b c n _ w1 M rv cv _ _ r1 (by omega) (by omega) rfl lo (by show x.r a.toNat < n; omega)
 rw [if_neg h1, if_neg h2, if_neg h3, if_neg h4, if_neg h5, if_neg h6, if_neg h7, if_neg h8, if_neg h9, if_neg h10, if_neg h11, if_neg h12] at hin
 have er : regsI x.r ⟨op, a, b, c, n⟩ = (setR x.r a (opI (op - 20) (x.r b.toNat) (x.r c.toNat)), if op = 29 ∨ op = 30 then [⟨3, x.r b.toNat, x.r c.toNat⟩] else []) := by
  unfold regsI
  dsimp only
  rw [if_neg h1, if_neg h2, if_neg h10, if_neg h11, if_neg h12]
 rw [er]
 by_cases h29 : op = 29
 ·subst h29
  rw [if_pos (.inl rfl)]
  exact do_op 29 a b c n w1 M rv cv _ _ r1 (by omega) (by omega) _ _ (by omega) (fun w2 m2 => J54 a b c n w2 M rv cv _ _ (r1.more m2) hlen (by omega) (by omega) (by omega) (by omega) (by omega) (by omega))
 by_cases h30 : op = 30
 ·subst h30
  rw [if_pos (.inr rfl)]
  exact do_op 30 a b c n w1 M rv cv _ _ r1 (by omega) (by omega) _ _ (by omega) (fun w2 m2 => J55 a b c n w2 M rv cv _ _ (r1.more m2) hlen (by omega) (by omega) (by omega) (by omega) (by omega) (by omega))
 rw [if_neg (by omega), List.append_nil]
 exact do_op op a b c n w1 M rv cv _ _ r1 (by omega) (by omega) _ _ (by omega) (fun w2 m2 => J56 op a b c n w2 M rv cv _ _ (r1.more m2) (by omega) (by omega) h29 h30 (by omega) (by omega) (by omega) (by omega) (by omega) (by omega))
end
end
end Go.Proofs.YtephohhigbfafaaGreatDoor
