/-
  The texts CkStates, CkSecret, CkCheck, RefSame, HdLaw, HdDoes, HdLike, HdPlain, WdPlain, one behind the other, with what is used of them.
-/
import Derived.Test.YtlbfbjeilfcjeaaGreatJoined6
import Derived.Test.YtlbfbjeilfcjeaaGreatJoined1
import Derived.Deep.OwnRows
import Derived.Test.YtlbfbjeilfcjeaaGreatJoined5
import Derived.Test.YtlbfbjeilfcjeaaGreatRows
import Derived.WalkKit
import Derived.Deep.LoopGhost
import Derived.Test.YtlbfbjeilfcjeaaGreatJoined0
namespace Go.Proofs.YtlbfbjeilfcjeaaGreat
set_option maxHeartbeats 4000000
section
open Go.RowKit
set_option linter.unusedSimpArgs false
set_option linter.unusedVariables false
set_option maxRecDepth 8000
theorem J9p {P : Program} (t e : TypeId) (z0 z1 : Value) (bytes : Nat) (ht : P.underlying t = some (.slice e)) (hinfo : (P.info? e).map (fun i => (i.zero, i.size, i.bytes)) = some (some (.agg #[z0, z1]), 2, bytes))
  (kl kc : IntKind) (n : Nat) (hbytes : bytes * n <= 281474976710656) (h63 : n <= 9223372036854775807) (w : World) :
  (Instr.makeSlice t (.int kl (n : Int)) (.int kc (n : Int))).run P w = .ok (.slice (some ⟨w.heap.size, 0, none⟩) n n) (w.alloc (.cells (madeCells #[z0, z1] (n * 2)) e)) := by
 obtain ⟨i, hi, hzz⟩ := Option.map_eq_some_iff.1 hinfo;simp only [Prod.mk.injEq] at hzz;obtain ⟨hz, hs, hb⟩ := hzz
 have hb' : (i.bytes : Int) * (n : Int) <= 281474976710656 := by
  have h : ((i.bytes * n : Nat) : Int) <= 281474976710656 := by rw [hb]; omega
  rwa [Int.natCast_mul] at h
 have hr := run_make (P := P) w t e i (.agg #[z0, z1]) ht hi hz kl kc n n (by omega) (Int.le_refl _) hb' (by omega);simp only [Int.toNat_natCast, hs] at hr;exact hr
theorem Jbn (z0 z1 : Value) (n k : Nat) (h : k < n) : (madeCells #[z0, z1] (n * 2))[k * 2]? = some z0 /\ (madeCells #[z0, z1] (n * 2))[k * 2 + 1]? = some z1 := by
 unfold madeCells;refine ⟨?_, ?_⟩
 ·simp [show k * 2 < n * 2 by omega]
 ·simp [show k * 2 + 1 < n * 2 by omega, show (k * 2 + 1) % 2 = 1 by omega]

theorem Jl3 : (Tryz.prog.info? 51).map (fun i => (i.zero, i.size, i.bytes)) = some (some (.agg #[.bool false, .slice none 0 0]), 2, 32) := by kernel_rfl

structure Rnd (w0 : World) (p : Prg) (lo : Loc) (lb : Nat) (l : KV) (w : World) : Prop where
 v : VAt w lb p.cl l
 on : OnWay p l
 box : Blk w w0.heap.size #[.slice lo.ra p.rl lo.rc, .slice lo.ca p.cl lo.cc] 25
 pin : PIn w p lo
 more : More w0 w
theorem Rnd.step {w0 : World} {p : Prg} {lo : Loc} {lb : Nat} {l : KV} {w w' : World} (h0 : 0 < p.cl) (h : Rnd w0 p lo lb l w) (m : More w w') : Rnd w0 p lo lb l w' :=
 ⟨h.v.more m h0, h.on, h.box.more m, h.pin.more m, h.more.trans m⟩

theorem Jez {w : World} {p : Prg} {lo : Loc} (hp : PIn w p lo) (h0 : 0 < p.cl) {zs zk : Array Value} (Hzs : ∀ k, k < p.cl -> zs[k * 2]? = some (.bool false) /\ zs[k * 2 + 1]? = some (.slice none 0 0)) (Hzk : ∀ k, k < 8 -> zk[k * 2]? = some (.int .i64 0) /\ zk[k * 2 + 1]? = some (.bool false)) :
  Rnd w p lo (w.heap.size + 1) (putV (fun _ => none) 0 zeroK) (((w.alloc (.cells #[.slice lo.ra p.rl lo.rc, .slice lo.ca p.cl lo.cc] 25)).alloc (.cells ((zs.setIfInBounds 0 (.bool true)).setIfInBounds 1 (.slice (some ⟨w.heap.size + 1 + 1, 0, none⟩) 8 8)) 51)).alloc (.cells zk 59)) := by
 have e0 := (Blk.last w #[.slice lo.ra p.rl lo.rc, .slice lo.ca p.cl lo.cc] 25).more (((More.refl _).alloc ((zs.setIfInBounds 0 (.bool true)).setIfInBounds 1 (.slice (some ⟨w.heap.size + 1 + 1, 0, none⟩) 8 8)) 51).alloc zk 59);have e1 := (by simpa using Blk.last (w.alloc (.cells #[.slice lo.ra p.rl lo.rc, .slice lo.ca p.cl lo.cc] 25)) ((zs.setIfInBounds 0 (.bool true)).setIfInBounds 1 (.slice (some ⟨w.heap.size + 1 + 1, 0, none⟩) 8 8)) 51 : Blk ((w.alloc (.cells #[.slice lo.ra p.rl lo.rc, .slice lo.ca p.cl lo.cc] 25)).alloc (.cells ((zs.setIfInBounds 0 (.bool true)).setIfInBounds 1 (.slice (some ⟨w.heap.size + 1 + 1, 0, none⟩) 8 8)) 51)) (w.heap.size + 1) ((zs.setIfInBounds 0 (.bool true)).setIfInBounds 1 (.slice (some ⟨w.heap.size + 1 + 1, 0, none⟩) 8 8)) 51).more ((More.refl _).alloc zk 59);have e2 := (by simpa using Blk.last ((w.alloc (.cells #[.slice lo.ra p.rl lo.rc, .slice lo.ca p.cl lo.cc] 25)).alloc (.cells ((zs.setIfInBounds 0 (.bool true)).setIfInBounds 1 (.slice (some ⟨w.heap.size + 1 + 1, 0, none⟩) 8 8)) 51)) zk 59 : Blk (((w.alloc (.cells #[.slice lo.ra p.rl lo.rc, .slice lo.ca p.cl lo.cc] 25)).alloc (.cells ((zs.setIfInBounds 0 (.bool true)).setIfInBounds 1 (.slice (some ⟨w.heap.size + 1 + 1, 0, none⟩) 8 8)) 51)).alloc (.cells zk 59)) (w.heap.size + 1 + 1) zk 59)
 have m0 := (((More.refl w).alloc #[.slice lo.ra p.rl lo.rc, .slice lo.ca p.cl lo.cc] 25).alloc ((zs.setIfInBounds 0 (.bool true)).setIfInBounds 1 (.slice (some ⟨w.heap.size + 1 + 1, 0, none⟩) 8 8)) 51).alloc zk 59;have hz0 := Hzs 0 h0
 have hs : 1 < zs.size := by
  have := hz0.2;rcases Nat.lt_or_ge 1 zs.size with h | h
  ·exact h
  ·rw [Array.getElem?_eq_none (by omega)] at this; cases this
 refine ⟨⟨fun k hk => ?_, fun j => e1.frozen j⟩, OnWay.start h0, e0, hp.more m0, m0⟩;by_cases e : k = 0
 ·subst e
  rw [J1a];refine ⟨w.heap.size + 1 + 1, 8, e1.cell ?_, e1.cell ?_, fun j hj => ⟨⟨e2.cell (Hzk j hj).1, e2.cell (Hzk j hj).2⟩, e2.frozen _, e2.frozen _⟩, by omega⟩
  ·rw [Array.getElem?_setIfInBounds_ne (by omega), Array.getElem?_setIfInBounds_self_of_lt (by omega)]
  ·rw [Array.getElem?_setIfInBounds_self_of_lt (by simp; omega)]
 ·rw [J18 _ e]
  have := Hzs k hk;refine ⟨e1.cell ?_, e1.cell ?_⟩
  ·rw [Array.getElem?_setIfInBounds_ne (by omega), Array.getElem?_setIfInBounds_ne (by omega)]; exact this.1
  ·rw [Array.getElem?_setIfInBounds_ne (by omega), Array.getElem?_setIfInBounds_ne (by omega)]; exact this.2

structure OAt (w : World) (b : Bool) (a : Option Addr) (n c : Nat) (o : Option KS) : Prop where
 out : (o = none /\ b = false /\ a = none /\ n = 0 /\ c = 0) \/ ∃ s g, o = some s /\ b = true /\ a = some ⟨g, 0, none⟩ /\ n = 8 /\ KRow w g s
theorem OAt.more {w w' : World} (m : More w w') {b : Bool} {a : Option Addr} {n c : Nat} {o : Option KS} (h : OAt w b a n c o) : OAt w' b a n c o := by
 rcases h.out with h | ⟨s, g, h1, h2, h3, h4, h5⟩
 ·exact ⟨.inl h⟩
 ·exact ⟨.inr ⟨s, g, h1, h2, h3, h4, h5.more m⟩⟩
theorem CAt.oat {w : World} {lb k : Nat} {o : Option KS} (h : CAt w lb k o) : ∃ b a n c, w.cell? ⟨lb, k * 2, none⟩ = some (.bool b) /\ w.cell? ⟨lb, k * 2 + 1, none⟩ = some (.slice a n c) /\ OAt w b a n c o := by
 cases o with
 | none => exact ⟨false, none, 0, 0, h.1, h.2, ⟨.inl ⟨rfl, rfl, rfl, rfl, rfl⟩⟩⟩
 | some s =>
  obtain ⟨g, c, h1, h2, h3, _⟩ := h;exact ⟨true, some ⟨g, 0, none⟩, 8, c, h1, h2, ⟨.inr ⟨s, g, rfl, rfl, rfl, rfl, h3⟩⟩⟩

theorem Jbk (b : Bool) (a : Option Addr) (n c g cg : Nat) (o : Option KS) (t : KS) (w : World) (h : OAt w b a n c o) (ht : KRow w g t) :
  Calls Tryz.prog 29 #[.agg #[.bool b, .slice a n c], st true g cg] w fun e w' => ∃ g' c', e = .returned (st true g' c') /\ w.heap.size <= g' /\ KRow w' g' (joinV o t) /\ More w w' := by
 rcases h.out with ⟨rfl, rfl, rfl, rfl, rfl⟩ | ⟨s, ga, rfl, rfl, rfl, rfl, hs⟩
 ·exact Jdz _ ⟨_, _, _, rfl⟩ true g cg t w ht
 ·exact Je0 true true ga c g cg s t w hs ht rfl
theorem Jbw (b : Bool) (a : Option Addr) (n c g cg : Nat) (o : Option KS) (t : KS) (w : World) (h : OAt w b a n c o) (ht : KRow w g t) :
  Calls Tryz.prog 30 #[st true g cg, .agg #[.bool b, .slice a n c]] w (Says (SameV t o) w) := by
 rcases h.out with ⟨rfl, rfl, rfl, rfl, rfl⟩ | ⟨s, ga, rfl, rfl, rfl, rfl, hs⟩
 ·refine (Jf2 g cg w).mono ?_
  rintro e w' ⟨rfl, m⟩;exact Says.no (fun ⟨u, e, _⟩ => by cases e) m
 ·refine (Jf3 g cg ga c t s w ht hs).mono ?_
  rintro e w' ⟨r, rfl, hr, m⟩;refine ⟨r, rfl, hr.trans ⟨fun q => ⟨s, rfl, q⟩, fun ⟨u, e, q⟩ => ?_⟩, m⟩;cases e; exact q

theorem J9t (p : Prg) (lo : Loc) (w : World) (hp : PIn w p lo) (hok : p.Ok 200 8) (hn : ∀ i, i < p.cl -> -9223372036854775808 <= (p.ins i).n /\ (p.ins i).n <= 9223372036854775807) :
  Calls Tryz.prog 13 #[.agg #[.slice lo.ra p.rl lo.rc, .slice lo.ca p.cl lo.cc]] w fun e w' => ∃ lb l, e = .returned (.slice (some ⟨lb, 0, none⟩) p.cl p.cl) /\ VAt w' lb p.cl l /\ Known p l /\ More w w' := by
 suffices hP : ∀ P : Ending -> World -> Prop, (∀ lb l w', VAt w' lb p.cl l -> Known p l -> More w w' -> P (.returned (.slice (some ⟨lb, 0, none⟩) p.cl p.cl)) w') -> Calls Tryz.prog 13 #[.agg #[.slice lo.ra p.rl lo.rc, .slice lo.ca p.cl lo.cc]] w P from hP _ (fun lb l w' h1 h2 h3 => ⟨lb, l, rfl, h1, h2, h3⟩)
 intro P hP0;have HP : Hid (∀ lb l w', VAt w' lb p.cl l -> Known p l -> More w w' -> P (.returned (.slice (some ⟨lb, 0, none⟩) p.cl p.cl)) w') := hP0;have H : Hid (PIn w p lo /\ p.Ok 200 8 /\ ∀ i, i < p.cl -> -9223372036854775808 <= (p.ins i).n /\ (p.ins i).n <= 9223372036854775807) := ⟨hp, hok, hn⟩;have h1 : 1 <= p.cl := hok.2.1;have h2 : p.cl <= 200 := hok.2.2.1;have hi1 : (1 : Int) <= p.cl := by omega
 have hi2 : (p.cl : Int) <= 200 := by omega
 clear hP0 hp hok hn;obtain ⟨cl, hcl⟩ : ∃ cl, p.cl = cl := ⟨_, rfl⟩;have Hcl : Hid (p.cl = cl) := hcl;rw [hcl] at h1 h2 hi1 hi2 |-;clear hcl;have hmk := J9p (P := Tryz.prog) 47 51 (.bool false) (.slice none 0 0) 32 Tryz.underlying47 Jl3 .i64 .i64 cl (by omega) (by omega);have hmk2 := J9p (P := Tryz.prog) 49 59 (.int .i64 0) (.bool false) 16 Tryz.underlying49 Jik .i64 .i64 8 (by omega) (by omega)
 push_cast at hmk2
 obtain ⟨zs, hzs⟩ : ∃ z, madeCells #[.bool false, .slice none 0 0] (cl * 2) = z := ⟨_, rfl⟩;obtain ⟨zk, hzk⟩ : ∃ z, madeCells #[.int .i64 0, .bool false] (8 * 2) = z := ⟨_, rfl⟩;have Hzs : Hid (∀ k, k < cl -> zs[k * 2]? = some (.bool false) /\ zs[k * 2 + 1]? = some (.slice none 0 0)) := fun k hk => hzs ▸ Jbn _ _ _ _ hk
 have Hzk : Hid (∀ k, k < 8 -> zk[k * 2]? = some (.int .i64 0) /\ zk[k * 2 + 1]? = some (.bool false)) := fun k hk => hzk ▸ Jbn _ _ _ _ hk
 rw [hzs] at hmk;rw [hzk] at hmk2;clear hzs hzk;have z0 : zs[0]? = some (.bool false) := by have := (Hzs.out 0 (by omega)).1; simpa using this
 have z1 : zs[1]? = some (.slice none 0 0) := by have := (Hzs.out 0 (by omega)).2; simpa using this
 obtain ⟨ra, rb, ro, rc, ca, cb, co, cc⟩ := lo;dsimp only at *;obtain ⟨W0, HW0⟩ : ∃ W0 : World, Hid (W0 = ((w.alloc (.cells #[.slice ra p.rl rc, .slice ca cl cc] 25)).alloc (.cells ((zs.setIfInBounds 0 (.bool true)).setIfInBounds 1 (.slice (some ⟨w.heap.size + 1 + 1, 0, none⟩) 8 8)) 51)).alloc (.cells zk 59)) := ⟨_, rfl⟩
 have HR0 : Hid (Rnd w p ⟨ra, rb, ro, rc, ca, cb, co, cc⟩ (w.heap.size + 1) (putV (fun _ => none) 0 zeroK) W0) := by
  have := Jez (zs := zs) (zk := zk) H.out.1 (by have := Hcl.out; omega) (by rw [Hcl.out]; exact Hzs.out) Hzk.out;dsimp only at this;rw [Hcl.out] at this;rw [HW0.out]; exact this
 go_enter Tryz.func13, Tryz.ntmps13;go_wp2_with (fail)
 rw [<- HW0.out];clear hmk hmk2 z0 z1;go_loopg [4] (145 * cl + 1) (fun g av wr => ∃ (b : Bool) (L : KV), av = .bool b /\ Hid (Rnd w p ⟨ra, rb, ro, rc, ca, cb, co, cc⟩ (w.heap.size + 1) L wr /\ (b = false -> ∀ k, k < p.cl -> Held p L k) /\ (b = true -> 145 * cl < rankV L p.cl + g)))
 case atStart => exact ⟨true, _, rfl, HR0.out, fun h => absurd h (by simp), fun _ => by omega⟩
 case round =>
  obtain ⟨b, L, rfl, HL⟩ := hrel;cases b with
  | false =>
   have HE : Hid (VAt wr (w.heap.size + 1) p.cl L /\ Known p L /\ More w wr) := ⟨HL.out.1.v, HL.out.1.on.known (fun k s hk e => HL.out.2.1 rfl k hk s e), HL.out.1.more⟩;clear HL;go_wp2;have hE := HP.out _ L _ HE.out.1 HE.out.2.1 HE.out.2.2;rw [Hcl.out] at hE;exact hE
  | true =>
   cases gk with
   | zero =>
    have q := HL.out.2.2 rfl;have q2 := J60 HL.out.1.on.norm p.cl (Nat.le_refl _);rw [Hcl.out] at q q2;omega
   | succ g =>
    have HQ : Hid (145 * cl < rankV L p.cl + (g + 1)) := HL.out.2.2 rfl;have HR : Hid (Rnd w p ⟨ra, rb, ro, rc, ca, cb, co, cc⟩ (w.heap.size + 1) L wr) := HL.out.1;clear HL;go_wp2_with (fail)
    go_loopg [4, 5] cl (fun g2 av iv wr2 => ∃ (k : Nat) (b : Bool) (L2 : KV), k + g2 = cl /\ iv = .int .i64 k /\ av = .bool b /\ Hid (Rnd w p ⟨ra, rb, ro, rc, ca, cb, co, cc⟩ (w.heap.size + 1) L2 wr2 /\ (b = false -> ∀ j, j < k -> Held p L2 j) /\ rankV L p.cl <= rankV L2 p.cl /\ (b = true -> rankV L p.cl < rankV L2 p.cl)))
    case atStart => exact ⟨0, false, L, by omega, rfl, rfl, HR.out, fun _ j hj => absurd hj (Nat.not_lt_zero _), Nat.le_refl _, fun h => absurd h (by simp)⟩
    case round =>
     obtain ⟨k, b2, L2, hkg, rfl, rfl, HM⟩ := hrel;obtain ⟨wm, rfl⟩ : ∃ wm, wm = wr := ⟨wr, rfl⟩;have HV : Hid (Rnd w p ⟨ra, rb, ro, rc, ca, cb, co, cc⟩ (w.heap.size + 1) L2 wm) := HM.out.1;have HH : Hid (b2 = false -> ∀ j, j < k -> Held p L2 j) := HM.out.2.1;have HK : Hid (rankV L p.cl <= rankV L2 p.cl /\ (b2 = true -> rankV L p.cl < rankV L2 p.cl)) := HM.out.2.2;clear HM;cases gk with
     | zero =>
      obtain rfl : k = cl := by omega
      go_wp2;go_roundg g
      case measure => omega
      case rel =>
       refine ⟨b2, L2, rfl, HV.out, fun h j hj => HH.out h j (by rw [<- Hcl.out]; exact hj), fun h => ?_⟩;have q1 := HK.out.2 h;have q2 := HQ.out;omega
     | succ g2 =>
      have hk : k < cl := by omega
      have hki : (k : Int) < cl := by omega
      have hca := HV.out.v.at_ k (by rw [Hcl.out]; exact hk);cases eL : L2 k with
      | none =>
       rw [eL] at hca;have c0 := hca.1;have HeL : Hid (L2 k = none) := eL;clear hca eL;go_wp2;go_roundg g2
       case measure => omega
       case rel =>
        refine ⟨k + 1, b2, L2, by omega, by first | rfl | simp, rfl, HV.out, fun h j hj => ?_, HK.out⟩;by_cases q : j = k
        ·subst q; intro s e; rw [HeL.out] at e; cases e
        ·exact HH.out h j (by omega)
      | some s =>
       rw [eL] at hca;obtain ⟨gs, cs, c0, c1, hks, hgne⟩ := hca;have HeL : Hid (L2 k = some s) := eL;have Hks : Hid (KRow wm gs s) := hks;clear eL hks hgne;obtain ⟨S, HS⟩ : ∃ S : World -> Prop, Hid (∀ w', S w' ↔ More wm w') := ⟨_, fun _ => Iff.rfl⟩;have HS0 : S wm.drew := (HS.out _).2 (More.refl _).drew;have hne : Nonempty { w' // S w' } := ⟨⟨_, HS0⟩⟩;have k0 : ∀ i : { w' // S w' }, i.val.cell? ⟨w.heap.size + 1, k * 2, none⟩ = some (.bool true) := fun i => ((HS.out _).1 i.property).cell c0
       have k1 : ∀ i : { w' // S w' }, i.val.cell? ⟨w.heap.size + 1, k * 2 + 1, none⟩ = some (.slice (some ⟨gs, 0, none⟩) 8 cs) := fun i => ((HS.out _).1 i.property).cell c1
       have k2 : ∀ i : { w' // S w' }, i.val.cell? ⟨w.heap.size, 0, none⟩ = some (.slice ra p.rl rc) := fun i => (HV.out.box.more ((HS.out _).1 i.property)).cell rfl
       have k3 : ∀ i : { w' // S w' }, i.val.cell? ⟨w.heap.size, 1, none⟩ = some (.slice ca cl cc) := fun i => by have := (HV.out.box.more ((HS.out _).1 i.property)).cell (j := 1) rfl; rw [Hcl.out] at this; exact this
       have cld : ∀ w1 : World, More wm w1 -> Calls Tryz.prog 14 #[.agg #[.slice ra p.rl rc, .slice ca cl cc], .int .i64 k, st true gs cs] w1 fun e w' => ∃ v, e = .returned v /\ LdAt w' w1.heap.size v (J0f p k s) /\ More w1 w' := fun w1 m => by
        have hkp : k < p.cl := by rw [Hcl.out]; exact hk
        have := J6n p ⟨ra, rb, ro, rc, ca, cb, co, cc⟩ k gs cs s w1 (HV.out.pin.more m) hkp H.out.2.1.2.2.1 (H.out.2.1.2.2.2 k hkp) (H.out.2.2 k hkp).1 (H.out.2.2 k hkp).2 (Hks.out.more m);dsimp only at this;rw [Hcl.out] at this;exact this
       have Hld : Hid (∀ w1 : World, More wm w1 -> Calls Tryz.prog 14 #[.agg #[.slice ra p.rl rc, .slice ca cl cc], .int .i64 k, st true gs cs] w1 fun e w' => ∃ v, e = .returned v /\ LdAt w' w1.heap.size v (J0f p k s) /\ More w1 w') := cld;clear cld;go_wp2_with (fail)
       refine J01 (S := S) [(0, true), (1, true), (2, true), (3, true), (4, true), (5, true), (6, false), (7, true)] (by kernel_rfl) (by kernel_rfl) (by kernel_rfl) HS0 ?_
       iterate 6 (refine J00 rfl (by kernel_rfl) (fun K hK => ?_); go_simp; refine hK _ _ ?_; clear hK K)
       refine J02 rfl (by kernel_rfl) (fun K hK => ?_); go_simp;refine (Hld.out _ (More.refl _).drew).mono ?_;rintro e w3 ⟨lv, rfl, hlv, m3⟩;have Hm3 : Hid (More wm w3) := (More.refl _).drew.trans m3;have HS3 : S w3 := (HS.out _).2 Hm3.out;obtain ⟨ls, hls⟩ : ∃ ls, J0f p k s = ls := ⟨_, rfl⟩;have Hls : Hid (J0f p k s = ls) := hls;rw [hls] at hlv;clear hls;have Hlv0 : Hid (LdAt w3 wm.heap.size lv ls) := hlv;obtain ⟨la, lbk, lcap, rfl, hla, _, hl2, _⟩ := hlv;obtain ⟨nl, hnl⟩ : ∃ nl, ls.length = nl := ⟨_, rfl⟩;rw [hnl] at hla hl2 |-;have Hlv1 : Hid (LdAt w3 wm.heap.size (.slice la nl lcap) ls) := by have := Hlv0.out; rw [hnl] at this; exact this
       have Hnl : Hid (ls.length = nl /\ (0 < nl -> la = some ⟨lbk, 0, none⟩)) := ⟨hnl, hla⟩;clear m3 hnl hla
       go_simp
       refine hK _ _ HS3 ?_; clear hK K
       (refine J00 rfl (by kernel_rfl) (fun K hK => ?_); go_simp; refine hK _ _ ?_; clear hK K)
       refine J04 ?_;clear k0 k1 k2 k3 hne HS0 HS3 c0 c1;go_wp2_with (fail)
       go_loopg [4, 7] nl (fun g3 av iv wr3 => ∃ (j : Nat) (b3 : Bool) (L3 : KV), j + g3 = nl /\ iv = .int .i64 j /\ av = .bool b3 /\ Hid (Rnd w p ⟨ra, rb, ro, rc, ca, cb, co, cc⟩ (w.heap.size + 1) L3 wr3 /\ LdAt wr3 wm.heap.size (.slice la nl lcap) ls /\ (b3 = false -> b2 = false /\ L3 = L2 /\ ∀ i, i < j -> ∀ x, ls[i]? = some x -> x.1 < p.cl -> ∃ u, L2 x.1 = some u /\ leS x.2 u) /\ rankV L2 p.cl <= rankV L3 p.cl /\ (b3 = true -> b2 = true \/ rankV L2 p.cl < rankV L3 p.cl)))
       case atStart => exact ⟨0, b2, L2, by omega, rfl, rfl, HV.out.step (by have := Hcl.out; omega) Hm3.out, Hlv1.out, fun h => ⟨h, rfl, fun i hi => absurd hi (Nat.not_lt_zero _)⟩, Nat.le_refl _, fun h => .inl h⟩
       case round =>
        obtain ⟨j, b3, L3, hjg, rfl, rfl, HJ⟩ := hrel;obtain ⟨wr3, rfl⟩ : ∃ wr3, wr3 = wr := ⟨wr, rfl⟩;have HJ1 : Hid (Rnd w p ⟨ra, rb, ro, rc, ca, cb, co, cc⟩ (w.heap.size + 1) L3 wr3) := HJ.out.1;have HJ2 : Hid (LdAt wr3 wm.heap.size (.slice la nl lcap) ls) := HJ.out.2.1;have HJ3 : Hid (b3 = false -> b2 = false /\ L3 = L2 /\ ∀ i, i < j -> ∀ x, ls[i]? = some x -> x.1 < p.cl -> ∃ u, L2 x.1 = some u /\ leS x.2 u) := HJ.out.2.2.1;have HJ4 : Hid (rankV L2 p.cl <= rankV L3 p.cl /\ (b3 = true -> b2 = true \/ rankV L2 p.cl < rankV L3 p.cl)) := HJ.out.2.2.2;clear HJ;cases gk with
        | zero =>
         obtain rfl : j = nl := by omega
         go_wp2;go_roundg g2
         case measure => omega
         case rel =>
          refine ⟨k + 1, b3, L3, by omega, by first | rfl | simp, rfl, HJ1.out, fun h i hi => ?_, by have := HK.out.1; have := HJ4.out.1; omega, fun h => ?_⟩
          ·obtain ⟨q1, q2, q3⟩ := HJ3.out h
           rw [q2];by_cases q : i = k
           ·subst q
            intro s' e' x hx hxc;rw [HeL.out] at e';cases e'
            rw [Hls.out] at hx;obtain ⟨i', hi', hx'⟩ := List.mem_iff_getElem.1 hx;exact q3 i' (by rw [<- Hnl.out.1]; exact hi') x (by rw [List.getElem?_eq_getElem hi', hx']) hxc
           ·exact HH.out q1 i (by omega)
          ·rcases HJ4.out.2 h with q | q
           ·have := HK.out.2 q; have := HJ4.out.1; omega
           ·have := HK.out.1; omega
        | succ g3 =>
         have hj : j < nl := by omega
         have hji : (j : Int) < nl := by omega
         have hnli : (nl : Int) <= 2 := by omega
         obtain ⟨x, hx⟩ : ∃ x, ls[j]? = some x := ⟨ls[j]'(by rw [Hnl.out.1]; exact hj), List.getElem?_eq_getElem _⟩;obtain rfl : la = some ⟨lbk, 0, none⟩ := Hnl.out.2 (by omega);obtain ⟨_, lbk', _, hsl, hlb', hlob, _, hcells⟩ := HJ2.out;obtain ⟨gx, cx, l0, l1, l2, hkx, hgx⟩ := hcells j x hx
         have hlbk : lbk' = lbk := by
          have h1 := hlb' (by rw [Hnl.out.1]; omega)
          injection hsl with h2 _ _
          rw [h1] at h2
          injection h2 with h3
          injection h3 with h4
          exact h4.symm
         subst hlbk;obtain ⟨xto, xs⟩ := x;dsimp only at l0 hkx;have HKX : Hid (KRow wr3 gx xs) := hkx;clear hsl hlb' hcells hkx;by_cases hxc : p.cl <= xto
         ·have hxi : (cl : Int) <= xto := by have := Hcl.out; omega
          have Hxc : Hid (p.cl <= xto /\ ls[j]? = some (xto, xs)) := ⟨hxc, hx⟩;clear hxc hx;go_wp2;go_roundg g3
          case measure => omega
          case rel =>
           refine ⟨j + 1, b3, L3, by omega, by first | rfl | simp, rfl, HJ1.out, HJ2.out, fun h => ?_, HJ4.out⟩;obtain ⟨q1, q2, q3⟩ := HJ3.out h;refine ⟨q1, q2, fun i hi y hy hyc => ?_⟩;by_cases q : i = j
           ·subst q
            rw [Hxc.out.2] at hy;cases hy
            have := Hxc.out.1;dsimp only at hyc;omega
           ·exact q3 i (by omega) y hy hyc
         ·have hxi : ¬ (cl : Int) <= xto := by have := Hcl.out; omega
          have hxl : (xto : Int) < cl := by omega
          have HX : Hid (ls[j]? = some (xto, xs) /\ Just p (xto, xs) /\ xto < p.cl) := ⟨hx, HV.out.on.just H.out.2.1 (by rw [Hcl.out]; exact hk) HeL.out (by rw [Hls.out]; exact List.mem_of_getElem? hx), by omega⟩;clear hxc hx;obtain ⟨bo, oa, on, oc, d0, d1, hO⟩ := (HJ1.out.v.at_ xto HX.out.2.2).oat;have HO : Hid (OAt wr3 bo oa on oc (L3 xto)) := hO;clear hO;obtain ⟨S, HS⟩ : ∃ S : World -> Prop, Hid (∀ w', S w' ↔ More wr3 w') := ⟨_, fun _ => Iff.rfl⟩;have HS0 : S wr3.drew := (HS.out _).2 (More.refl _).drew;have hne : Nonempty { w' // S w' } := ⟨⟨_, HS0⟩⟩;have k0 : ∀ i : { w' // S w' }, i.val.cell? ⟨w.heap.size + 1, xto * 2, none⟩ = some (.bool bo) := fun i => ((HS.out _).1 i.property).cell d0
          have k1 : ∀ i : { w' // S w' }, i.val.cell? ⟨w.heap.size + 1, xto * 2 + 1, none⟩ = some (.slice oa on oc) := fun i => ((HS.out _).1 i.property).cell d1
          have k2 : ∀ i : { w' // S w' }, i.val.cell? ⟨lbk', j * 3, none⟩ = some (.int .i64 xto) := fun i => ((HS.out _).1 i.property).cell l0
          have k3 : ∀ i : { w' // S w' }, i.val.cell? ⟨lbk', j * 3 + 1, none⟩ = some (.bool true) := fun i => ((HS.out _).1 i.property).cell l1
          have k4 : ∀ i : { w' // S w' }, i.val.cell? ⟨lbk', j * 3 + 2, none⟩ = some (.slice (some ⟨gx, 0, none⟩) 8 cx) := fun i => ((HS.out _).1 i.property).cell l2
          have k5 : ∀ i : { w' // S w' }, i.val.cell? ⟨lbk', j * 3 + 1 + 1, none⟩ = some (.slice (some ⟨gx, 0, none⟩) 8 cx) := fun i => ((HS.out _).1 i.property).cell l2
          go_wp2_with (fail)
          clear l0 l1 l2;refine J1i (S := S) (by kernel_rfl) HS0 ?_;refine J07 0 rfl (by kernel_rfl) HS0 (by kernel_rfl) (fun K hK => ?_); go_simp; refine hK _ _ ?_; clear hK K;refine J07 1 rfl (by kernel_rfl) HS0 (by kernel_rfl) (fun K hK => ?_); go_simp; refine hK _ _ ?_; clear hK K;refine J07 2 rfl (by kernel_rfl) HS0 (by kernel_rfl) (fun K hK => ?_); go_simp; refine hK _ _ ?_; clear hK K;refine J07 3 rfl (by kernel_rfl) HS0 (by kernel_rfl) (fun K hK => ?_); go_simp; refine hK _ _ ?_; clear hK K;refine J07 4 rfl (by kernel_rfl) HS0 (by kernel_rfl) (fun K hK => ?_); go_simp; refine hK _ _ ?_; clear hK K;refine J07 5 rfl (by kernel_rfl) HS0 (by kernel_rfl) (fun K hK => ?_); go_simp; refine hK _ _ ?_; clear hK K;refine J07 6 rfl (by kernel_rfl) HS0 (by kernel_rfl) (fun K hK => ?_); go_simp; refine hK _ _ ?_; clear hK K;refine J07 7 rfl (by kernel_rfl) HS0 (by kernel_rfl) (fun K hK => ?_); go_simp; refine hK _ _ ?_; clear hK K;refine J07 8 rfl (by kernel_rfl) HS0 (by kernel_rfl) (fun K hK => ?_); go_simp; refine hK _ _ ?_; clear hK K;refine J3o 9 10 (by kernel_rfl) ?_ ?_
          ·-- the call, then the new block
           refine J08 rfl (by kernel_rfl) (fun K hK => ?_); go_simp;refine (Jbk bo oa on oc gx cx (L3 xto) xs _ (HO.out.more (More.refl _).drew) (HKX.out.more (More.refl _).drew)).mono ?_;rintro e w5 ⟨gj, cj, rfl, hgj, hjr, m5⟩;have M5 : Hid (More wr3 w5) := (More.refl _).drew.trans m5;have HJ5 : Hid (KRow w5 gj (joinV (L3 xto) xs) /\ wr3.heap.size <= gj) := ⟨hjr, by simpa using hgj⟩;clear m5 hjr hgj
           go_simp
           refine hK _ _ ((HS.out _).2 M5.out) ?_; clear hK K;refine J12 10 (by kernel_rfl) ?_;refine J08 rfl (by kernel_rfl) (fun K hK => ?_); go_simp;refine hK _ _ ((HS.out _).2 (M5.out.alloc _ _)) ?_; clear hK K;refine J12 11 (by kernel_rfl) ?_;refine J08 rfl (by kernel_rfl) (fun K hK => ?_); go_simp;obtain ⟨w6, Hw6⟩ : ∃ w6 : World, Hid (w6 = w5.alloc (.cells #[.bool true, .slice (some ⟨gj, 0, none⟩) 8 cj] 51)) := ⟨_, rfl⟩;have HM6 : Hid (More wr3 w6) := Hw6.out ▸ M5.out.alloc _ _;obtain ⟨bx, Hbx⟩ : ∃ bx, Hid (bx = w5.heap.size) := ⟨_, rfl⟩;have HB6 : Hid (Blk w6 bx #[.bool true, .slice (some ⟨gj, 0, none⟩) 8 cj] 51) := Hw6.out ▸ Hbx.out ▸ Blk.last _ _ _;have HJ6 : Hid (KRow w6 gj (joinV (L3 xto) xs)) := HJ5.out.1.more (Hw6.out ▸ (More.refl _).alloc _ _);have HG6 : Hid (w.heap.size + 1 < gj) := by show _ < _; have := HJ5.out.2; have := (HJ1.out.v.at_ 0 (by have := Hcl.out; omega)).lt; omega
           rw [<- Hw6.out, <- Hbx.out];refine hK _ _ ((HS.out _).2 HM6.out) ?_; clear hK K;refine J42 (by kernel_rfl) ?_;clear k0 k1 k2 k3 k4 k5 hne HS0;have HR6 : Hid (Rnd w p ⟨ra, rb, ro, rc, ca, cb, co, cc⟩ (w.heap.size + 1) L3 w6 /\ LdAt w6 wm.heap.size (.slice (some ⟨lbk', 0, none⟩) nl lcap) ls) := ⟨HJ1.out.step (by have := Hcl.out; omega) HM6.out, HJ2.out.more HM6.out⟩;have HO6 : Hid (OAt w6 bo oa on oc (L3 xto)) := HO.out.more HM6.out;obtain ⟨T, HT⟩ : ∃ T : World -> Prop, Hid (∀ w', T w' ↔ More w6 w') := ⟨_, fun _ => Iff.rfl⟩;have HT0 : T w6.drew := (HT.out _).2 (More.refl _).drew;have hneT : Nonempty { w' // T w' } := ⟨⟨_, HT0⟩⟩;have t0 : ∀ i : { w' // T w' }, i.val.cell? ⟨bx, 0, none⟩ = some (.bool true) := fun i => (HB6.out.more ((HT.out _).1 i.property)).cell rfl
           have t1 : ∀ i : { w' // T w' }, i.val.cell? ⟨bx, 1, none⟩ = some (.slice (some ⟨gj, 0, none⟩) 8 cj) := fun i => (HB6.out.more ((HT.out _).1 i.property)).cell rfl
           have t2 : ∀ i : { w' // T w' }, i.val.cell? ⟨w.heap.size + 1, xto * 2, none⟩ = some (.bool bo) := fun i => (HM6.out.trans ((HT.out _).1 i.property)).cell d0
           have t3 : ∀ i : { w' // T w' }, i.val.cell? ⟨w.heap.size + 1, xto * 2 + 1, none⟩ = some (.slice oa on oc) := fun i => (HM6.out.trans ((HT.out _).1 i.property)).cell d1
           go_wp2_with (fail)
           refine J01 (S := T) [(0, true), (1, true), (2, true), (3, true), (4, true), (5, false), (6, true)] (by kernel_rfl) (by kernel_rfl) (by kernel_rfl) HT0 ?_
           iterate 5 (refine J00 rfl (by kernel_rfl) (fun K hK => ?_); go_simp; refine hK _ _ ?_; clear hK K)
           refine J02 rfl (by kernel_rfl) (fun K hK => ?_); go_simp;refine (Jbw bo oa on oc gj cj (L3 xto) (joinV (L3 xto) xs) _ (HO6.out.more (More.refl _).drew) (HJ6.out.more (More.refl _).drew)).mono ?_;rintro e w7 ⟨r, rfl, hr, m7⟩;have HM7 : Hid (More w6 w7) := (More.refl _).drew.trans m7;have HT7 : T w7 := (HT.out _).2 HM7.out;have Hr : Hid (r = true ↔ SameV (joinV (L3 xto) xs) (L3 xto)) := hr;clear hr m7;cases r with
           | true =>
            have Hs : Hid (SameV (joinV (L3 xto) xs) (L3 xto)) := Hr.out.1 rfl;clear Hr
            go_simp
            refine hK _ _ HT7 ?_; clear hK K
            (refine J00 rfl (by kernel_rfl) (fun K hK => ?_); go_simp; refine hK _ _ ?_; clear hK K)
            refine J04 ?_;clear t0 t1 t2 t3 hneT HT0 HT7 d0 d1;go_wp2;go_roundg g3
            case measure => omega
            case rel =>
             refine ⟨j + 1, b3, L3, by omega, by first | rfl | simp, rfl, HR6.out.1.step (by have := Hcl.out; omega) HM7.out, HR6.out.2.more HM7.out, fun h => ?_, HJ4.out.1, HJ4.out.2⟩;obtain ⟨q1, q2, q3⟩ := HJ3.out h;refine ⟨q1, q2, fun i hi y hy hyc => ?_⟩;by_cases q : i = j
             ·subst q
              rw [HX.out.1] at hy;cases hy
              rw [<- q2];exact J3z Hs.out
             ·exact q3 i (by omega) y hy hyc
           | false =>
            have Hs : Hid (¬ SameV (joinV (L3 xto) xs) (L3 xto)) := fun q => absurd (Hr.out.2 q) (by simp)
            clear Hr
            go_simp
            refine hK _ _ HT7 ?_; clear hK K
            (refine J00 rfl (by kernel_rfl) (fun K hK => ?_); go_simp; refine hK _ _ ?_; clear hK K)
            refine J04 ?_;clear t0 t1 t2 t3 hneT HT0 HT7;have v0 := HM7.out.cell (HM6.out.cell d0);have v1 := HM7.out.cell (HM6.out.cell d1);have v2 : w7.cell? ⟨bx, 0, none⟩ = some (.bool true) := (HB6.out.more HM7.out).cell rfl;have v3 : w7.cell? ⟨bx, 1, none⟩ = some (.slice (some ⟨gj, 0, none⟩) 8 cj) := (HB6.out.more HM7.out).cell rfl;have HR7 : Hid (Rnd w p ⟨ra, rb, ro, rc, ca, cb, co, cc⟩ (w.heap.size + 1) L3 w7 /\ LdAt w7 wm.heap.size (.slice (some ⟨lbk', 0, none⟩) nl lcap) ls) := ⟨HR6.out.1.step (by have := Hcl.out; omega) HM7.out, HR6.out.2.more HM7.out⟩;have v4 := HR7.out.1.v.fr (xto * 2);have v5 := HR7.out.1.v.fr (xto * 2 + 1);clear d0 d1
            have Hend : Hid (Rnd w p ⟨ra, rb, ro, rc, ca, cb, co, cc⟩ (w.heap.size + 1) (putV L3 xto (joinV (L3 xto) xs)) ((w7.setCell ⟨w.heap.size + 1, xto * 2, none⟩ (.bool true)).setCell ⟨w.heap.size + 1, xto * 2 + 1, none⟩ (.slice (some ⟨gj, 0, none⟩) 8 cj)) /\ LdAt ((w7.setCell ⟨w.heap.size + 1, xto * 2, none⟩ (.bool true)).setCell ⟨w.heap.size + 1, xto * 2 + 1, none⟩ (.slice (some ⟨gj, 0, none⟩) 8 cj)) wm.heap.size (.slice (some ⟨lbk', 0, none⟩) nl lcap) ls) := by
             have hlb : w.heap.size + 1 < wm.heap.size := (HV.out.v.at_ 0 (by have := Hcl.out; omega)).lt;have hmm := (HR7.out.1.more.setCell (a := ⟨w.heap.size + 1, xto * 2, none⟩) (by dsimp only; omega) (.bool true)).setCell (a := ⟨w.heap.size + 1, xto * 2 + 1, none⟩) (by dsimp only; omega) (.slice (some ⟨gj, 0, none⟩) 8 cj);refine ⟨⟨HR7.out.1.v.put HX.out.2.2 (HJ6.out.more HM7.out) (by have := HG6.out; omega), HR7.out.1.on.joinJ (x := (xto, xs)) HX.out.2.1 HX.out.2.2, (HR7.out.1.box.other (by omega) _ _).other (by omega) _ _, H.out.1.more hmm, hmm⟩, (HR7.out.2.other (by omega) _ _).other (by omega) _ _⟩
            have Hrk : Hid (rankV L3 p.cl < rankV (putV L3 xto (joinV (L3 xto) xs)) p.cl) := Jan HR7.out.1.on.norm HX.out.2.2 HX.out.2.1.norm Hs.out;go_wp2;go_roundg g3
            case measure => omega
            case rel =>
             exact ⟨j + 1, true, _, by omega, by first | rfl | simp, rfl, Hend.out.1, Hend.out.2, fun h => absurd h (by simp), by have := HJ4.out.1; have := Hrk.out; omega, fun _ => .inr (by have := HJ4.out.1; have := Hrk.out; omega)⟩
          ·-- the new block, then the call
           refine J08 rfl (by kernel_rfl) (fun K hK => ?_); go_simp;refine hK _ _ ((HS.out _).2 ((More.refl _).drew.alloc _ _)) ?_; clear hK K;refine J12 9 (by kernel_rfl) ?_;refine J08 rfl (by kernel_rfl) (fun K hK => ?_); go_simp;refine (Jbk bo oa on oc gx cx (L3 xto) xs _ (HO.out.more ((More.refl _).drew.alloc _ _)) (HKX.out.more ((More.refl _).drew.alloc _ _))).mono ?_;rintro e w5 ⟨gj, cj, rfl, hgj, hjr, m5⟩;have M5 : Hid (More wr3 w5) := ((More.refl _).drew.alloc _ _).trans m5;have HJ5 : Hid (KRow w5 gj (joinV (L3 xto) xs) /\ wr3.heap.size < gj) := ⟨hjr, by have : (wr3.alloc (.cells #[.bool false, .slice none 0 0] 51)).heap.size <= gj := hgj; simp at this; omega⟩;have HB5 : Hid (Blk w5 wr3.heap.size #[.bool false, .slice none 0 0] 51) := (Blk.last wr3.drew _ _).more m5;clear m5 hjr hgj
           go_simp
           refine hK _ _ ((HS.out _).2 M5.out) ?_; clear hK K;refine J12 11 (by kernel_rfl) ?_;have y0 := HB5.out.cell (j := 0) (v := .bool false) rfl;have y1 := HB5.out.cell (j := 1) (v := .slice none 0 0) rfl;have y2 := HB5.out.frozen 0;have y3 := HB5.out.frozen 1;refine J08 rfl (by kernel_rfl) (fun K hK => ?_); go_simp;obtain ⟨w6, Hw6⟩ : ∃ w6 : World, Hid (w6 = (w5.setCell ⟨wr3.heap.size, 0, none⟩ (.bool true)).setCell ⟨wr3.heap.size, 1, none⟩ (.slice (some ⟨gj, 0, none⟩) 8 cj)) := ⟨_, rfl⟩;have HM6 : Hid (More wr3 w6) := Hw6.out ▸ (M5.out.setCell (Nat.le_refl _) _).setCell (Nat.le_refl _) _;obtain ⟨bx, Hbx⟩ : ∃ bx, Hid (bx = wr3.heap.size) := ⟨_, rfl⟩
           have HB6 : Hid (Blk w6 bx #[.bool true, .slice (some ⟨gj, 0, none⟩) 8 cj] 51) := by
            show Blk _ _ _ _;rw [Hw6.out, Hbx.out];have h1 := HB5.out;unfold Blk at h1 |-;simp [World.setCell, Array.getElem?_modify, h1]
           have HJ6 : Hid (KRow w6 gj (joinV (L3 xto) xs)) := Hw6.out ▸ (HJ5.out.1.other (by have := HJ5.out.2; omega) _ _).other (by have := HJ5.out.2; omega) _ _;have HG6 : Hid (w.heap.size + 1 < gj) := by show _ < _; have := HJ5.out.2; have := (HJ1.out.v.at_ 0 (by have := Hcl.out; omega)).lt; omega
           rw [<- Hw6.out];simp only [<- Hbx.out];clear y0 y1 y2 y3;refine hK _ _ ((HS.out _).2 HM6.out) ?_; clear hK K;refine J42 (by kernel_rfl) ?_;clear k0 k1 k2 k3 k4 k5 hne HS0;have HR6 : Hid (Rnd w p ⟨ra, rb, ro, rc, ca, cb, co, cc⟩ (w.heap.size + 1) L3 w6 /\ LdAt w6 wm.heap.size (.slice (some ⟨lbk', 0, none⟩) nl lcap) ls) := ⟨HJ1.out.step (by have := Hcl.out; omega) HM6.out, HJ2.out.more HM6.out⟩;have HO6 : Hid (OAt w6 bo oa on oc (L3 xto)) := HO.out.more HM6.out;obtain ⟨T, HT⟩ : ∃ T : World -> Prop, Hid (∀ w', T w' ↔ More w6 w') := ⟨_, fun _ => Iff.rfl⟩;have HT0 : T w6.drew := (HT.out _).2 (More.refl _).drew;have hneT : Nonempty { w' // T w' } := ⟨⟨_, HT0⟩⟩;have t0 : ∀ i : { w' // T w' }, i.val.cell? ⟨bx, 0, none⟩ = some (.bool true) := fun i => (HB6.out.more ((HT.out _).1 i.property)).cell rfl
           have t1 : ∀ i : { w' // T w' }, i.val.cell? ⟨bx, 1, none⟩ = some (.slice (some ⟨gj, 0, none⟩) 8 cj) := fun i => (HB6.out.more ((HT.out _).1 i.property)).cell rfl
           have t2 : ∀ i : { w' // T w' }, i.val.cell? ⟨w.heap.size + 1, xto * 2, none⟩ = some (.bool bo) := fun i => (HM6.out.trans ((HT.out _).1 i.property)).cell d0
           have t3 : ∀ i : { w' // T w' }, i.val.cell? ⟨w.heap.size + 1, xto * 2 + 1, none⟩ = some (.slice oa on oc) := fun i => (HM6.out.trans ((HT.out _).1 i.property)).cell d1
           go_wp2_with (fail)
           refine J01 (S := T) [(0, true), (1, true), (2, true), (3, true), (4, true), (5, false), (6, true)] (by kernel_rfl) (by kernel_rfl) (by kernel_rfl) HT0 ?_
           iterate 5 (refine J00 rfl (by kernel_rfl) (fun K hK => ?_); go_simp; refine hK _ _ ?_; clear hK K)
           refine J02 rfl (by kernel_rfl) (fun K hK => ?_); go_simp;refine (Jbw bo oa on oc gj cj (L3 xto) (joinV (L3 xto) xs) _ (HO6.out.more (More.refl _).drew) (HJ6.out.more (More.refl _).drew)).mono ?_;rintro e w7 ⟨r, rfl, hr, m7⟩;have HM7 : Hid (More w6 w7) := (More.refl _).drew.trans m7;have HT7 : T w7 := (HT.out _).2 HM7.out;have Hr : Hid (r = true ↔ SameV (joinV (L3 xto) xs) (L3 xto)) := hr;clear hr m7;cases r with
           | true =>
            have Hs : Hid (SameV (joinV (L3 xto) xs) (L3 xto)) := Hr.out.1 rfl;clear Hr
            go_simp
            refine hK _ _ HT7 ?_; clear hK K
            (refine J00 rfl (by kernel_rfl) (fun K hK => ?_); go_simp; refine hK _ _ ?_; clear hK K)
            refine J04 ?_;clear t0 t1 t2 t3 hneT HT0 HT7 d0 d1;go_wp2;go_roundg g3
            case measure => omega
            case rel =>
             refine ⟨j + 1, b3, L3, by omega, by first | rfl | simp, rfl, HR6.out.1.step (by have := Hcl.out; omega) HM7.out, HR6.out.2.more HM7.out, fun h => ?_, HJ4.out.1, HJ4.out.2⟩;obtain ⟨q1, q2, q3⟩ := HJ3.out h;refine ⟨q1, q2, fun i hi y hy hyc => ?_⟩;by_cases q : i = j
             ·subst q
              rw [HX.out.1] at hy;cases hy
              rw [<- q2];exact J3z Hs.out
             ·exact q3 i (by omega) y hy hyc
           | false =>
            have Hs : Hid (¬ SameV (joinV (L3 xto) xs) (L3 xto)) := fun q => absurd (Hr.out.2 q) (by simp)
            clear Hr
            go_simp
            refine hK _ _ HT7 ?_; clear hK K
            (refine J00 rfl (by kernel_rfl) (fun K hK => ?_); go_simp; refine hK _ _ ?_; clear hK K)
            refine J04 ?_;clear t0 t1 t2 t3 hneT HT0 HT7;have v0 := HM7.out.cell (HM6.out.cell d0);have v1 := HM7.out.cell (HM6.out.cell d1);have v2 : w7.cell? ⟨bx, 0, none⟩ = some (.bool true) := (HB6.out.more HM7.out).cell rfl;have v3 : w7.cell? ⟨bx, 1, none⟩ = some (.slice (some ⟨gj, 0, none⟩) 8 cj) := (HB6.out.more HM7.out).cell rfl;have HR7 : Hid (Rnd w p ⟨ra, rb, ro, rc, ca, cb, co, cc⟩ (w.heap.size + 1) L3 w7 /\ LdAt w7 wm.heap.size (.slice (some ⟨lbk', 0, none⟩) nl lcap) ls) := ⟨HR6.out.1.step (by have := Hcl.out; omega) HM7.out, HR6.out.2.more HM7.out⟩;have v4 := HR7.out.1.v.fr (xto * 2);have v5 := HR7.out.1.v.fr (xto * 2 + 1);clear d0 d1
            have Hend : Hid (Rnd w p ⟨ra, rb, ro, rc, ca, cb, co, cc⟩ (w.heap.size + 1) (putV L3 xto (joinV (L3 xto) xs)) ((w7.setCell ⟨w.heap.size + 1, xto * 2, none⟩ (.bool true)).setCell ⟨w.heap.size + 1, xto * 2 + 1, none⟩ (.slice (some ⟨gj, 0, none⟩) 8 cj)) /\ LdAt ((w7.setCell ⟨w.heap.size + 1, xto * 2, none⟩ (.bool true)).setCell ⟨w.heap.size + 1, xto * 2 + 1, none⟩ (.slice (some ⟨gj, 0, none⟩) 8 cj)) wm.heap.size (.slice (some ⟨lbk', 0, none⟩) nl lcap) ls) := by
             have hlb : w.heap.size + 1 < wm.heap.size := (HV.out.v.at_ 0 (by have := Hcl.out; omega)).lt;have hmm := (HR7.out.1.more.setCell (a := ⟨w.heap.size + 1, xto * 2, none⟩) (by dsimp only; omega) (.bool true)).setCell (a := ⟨w.heap.size + 1, xto * 2 + 1, none⟩) (by dsimp only; omega) (.slice (some ⟨gj, 0, none⟩) 8 cj);refine ⟨⟨HR7.out.1.v.put HX.out.2.2 (HJ6.out.more HM7.out) (by have := HG6.out; omega), HR7.out.1.on.joinJ (x := (xto, xs)) HX.out.2.1 HX.out.2.2, (HR7.out.1.box.other (by omega) _ _).other (by omega) _ _, H.out.1.more hmm, hmm⟩, (HR7.out.2.other (by omega) _ _).other (by omega) _ _⟩
            have Hrk : Hid (rankV L3 p.cl < rankV (putV L3 xto (joinV (L3 xto) xs)) p.cl) := Jan HR7.out.1.on.norm HX.out.2.2 HX.out.2.1.norm Hs.out;go_wp2;go_roundg g3
            case measure => omega
            case rel =>
             exact ⟨j + 1, true, _, by omega, by first | rfl | simp, rfl, Hend.out.1, Hend.out.2, fun h => absurd h (by simp), by have := HJ4.out.1; have := Hrk.out; omega, fun _ => .inr (by have := HJ4.out.1; have := Hrk.out; omega)⟩
theorem Jhx (ra : Option Addr) (rl rc : Nat) (cv : Value) (g c : Nat) (a b ic n : Int) (w : World) (zg : g < w.heap.size) (xb : Bool) (b0 : 0 <= b) (b1 : b < 8) (kb : w.cell? ⟨g, b.toNat * 2 + 1, none⟩ = some (.bool xb)) (hcv : ∃ x y z, cv = .slice x y z) :
  Calls Tryz.prog 16 #[.agg #[.slice ra rl rc, cv], .agg #[.int .i64 3, .int .i64 a, .int .i64 b, .int .i64 ic, .int .i64 n], .slice (some ⟨g, 0, none⟩) 8 c] w fun e w' => e = .returned (.bool (xb)) /\ More w w' := by
 obtain ⟨cx, cy, cz, rfl⟩ := hcv;have zg1 : g < w.heap.size + 1 := by omega
 cases xb
 all_goals
  go_enter Tryz.func16, Tryz.ntmps16;go_wp2;go_ret;exact ⟨rfl, ((More.refl _).alloc _ _).alloc _ _⟩

theorem Jhy (ra : Option Addr) (rl rc : Nat) (cv : Value) (g c : Nat) (a b ic n : Int) (w : World) (zg : g < w.heap.size) (xa xb xr : Bool) (a0 : 0 <= a) (a1 : a < 8) (ka : w.cell? ⟨g, a.toNat * 2 + 1, none⟩ = some (.bool xa)) (b0 : 0 <= b) (b1 : b < 8) (kb : w.cell? ⟨g, b.toNat * 2 + 1, none⟩ = some (.bool xb)) (rb ro : Nat) (hra : ra = some ⟨rb, ro, none⟩) (zr : rb < w.heap.size) (c0 : 0 <= ic) (c1 : ic < rl) (kr : w.cell? ⟨rb, ro + ic.toNat * 2 + 1, none⟩ = some (.bool xr)) (hcv : ∃ x y z, cv = .slice x y z) :
  Calls Tryz.prog 16 #[.agg #[.slice ra rl rc, cv], .agg #[.int .i64 4, .int .i64 a, .int .i64 b, .int .i64 ic, .int .i64 n], .slice (some ⟨g, 0, none⟩) 8 c] w fun e w' => e = .returned (.bool (xb || (xa && !xr))) /\ More w w' := by
 obtain ⟨cx, cy, cz, rfl⟩ := hcv;have zg1 : g < w.heap.size + 1 := by omega
 subst hra;have zr1 : rb < w.heap.size + 1 := by omega
 cases xb <;> cases xa <;> cases xr
 all_goals
  go_enter Tryz.func16, Tryz.ntmps16;go_wp2;go_ret;exact ⟨rfl, ((More.refl _).alloc _ _).alloc _ _⟩

theorem Jhz (ra : Option Addr) (rl rc : Nat) (cv : Value) (g c : Nat) (a b ic n : Int) (w : World) (zg : g < w.heap.size) (xa xr : Bool) (a0 : 0 <= a) (a1 : a < 8) (ka : w.cell? ⟨g, a.toNat * 2 + 1, none⟩ = some (.bool xa)) (rb ro : Nat) (hra : ra = some ⟨rb, ro, none⟩) (zr : rb < w.heap.size) (c0 : 0 <= ic) (c1 : ic < rl) (kr : w.cell? ⟨rb, ro + ic.toNat * 2 + 1, none⟩ = some (.bool xr)) (hcv : ∃ x y z, cv = .slice x y z) :
  Calls Tryz.prog 16 #[.agg #[.slice ra rl rc, cv], .agg #[.int .i64 6, .int .i64 a, .int .i64 b, .int .i64 ic, .int .i64 n], .slice (some ⟨g, 0, none⟩) 8 c] w fun e w' => e = .returned (.bool (xa && !xr)) /\ More w w' := by
 obtain ⟨cx, cy, cz, rfl⟩ := hcv;have zg1 : g < w.heap.size + 1 := by omega
 subst hra;have zr1 : rb < w.heap.size + 1 := by omega
 cases xa <;> cases xr
 all_goals
  go_enter Tryz.func16, Tryz.ntmps16;go_wp2;go_ret;exact ⟨rfl, ((More.refl _).alloc _ _).alloc _ _⟩

theorem Ji0 (ra : Option Addr) (rl rc : Nat) (cv : Value) (g c : Nat) (a b ic n : Int) (w : World) (zg : g < w.heap.size) (xa xb : Bool) (a0 : 0 <= a) (a1 : a < 8) (ka : w.cell? ⟨g, a.toNat * 2 + 1, none⟩ = some (.bool xa)) (b0 : 0 <= b) (b1 : b < 8) (kb : w.cell? ⟨g, b.toNat * 2 + 1, none⟩ = some (.bool xb)) (hcv : ∃ x y z, cv = .slice x y z) :
  Calls Tryz.prog 16 #[.agg #[.slice ra rl rc, cv], .agg #[.int .i64 8, .int .i64 a, .int .i64 b, .int .i64 ic, .int .i64 n], .slice (some ⟨g, 0, none⟩) 8 c] w fun e w' => e = .returned (.bool (xa || xb)) /\ More w w' := by
 obtain ⟨cx, cy, cz, rfl⟩ := hcv;have zg1 : g < w.heap.size + 1 := by omega
 cases xa <;> cases xb
 all_goals
  go_enter Tryz.func16, Tryz.ntmps16;go_wp2;go_ret;exact ⟨rfl, ((More.refl _).alloc _ _).alloc _ _⟩

theorem Jf4 (ra : Option Addr) (rl rc : Nat) (cv : Value) (g c : Nat) (a b ic n : Int) (w : World) (zg : g < w.heap.size) (xb xc : Bool) (b0 : 0 <= b) (b1 : b < 8) (kb : w.cell? ⟨g, b.toNat * 2 + 1, none⟩ = some (.bool xb)) (c0 : 0 <= ic) (c1 : ic < 8) (kc : w.cell? ⟨g, ic.toNat * 2 + 1, none⟩ = some (.bool xc)) (hcv : ∃ x y z, cv = .slice x y z) :
  Calls Tryz.prog 16 #[.agg #[.slice ra rl rc, cv], .agg #[.int .i64 29, .int .i64 a, .int .i64 b, .int .i64 ic, .int .i64 n], .slice (some ⟨g, 0, none⟩) 8 c] w fun e w' => e = .returned (.bool (xb || xc)) /\ More w w' := by
 obtain ⟨cx, cy, cz, rfl⟩ := hcv;have zg1 : g < w.heap.size + 1 := by omega
 cases xb <;> cases xc
 all_goals
  go_enter Tryz.func16, Tryz.ntmps16;go_wp2;go_ret;exact ⟨rfl, ((More.refl _).alloc _ _).alloc _ _⟩

theorem Jf5 (ra : Option Addr) (rl rc : Nat) (cv : Value) (g c : Nat) (a b ic n : Int) (w : World) (zg : g < w.heap.size) (xb xc : Bool) (b0 : 0 <= b) (b1 : b < 8) (kb : w.cell? ⟨g, b.toNat * 2 + 1, none⟩ = some (.bool xb)) (c0 : 0 <= ic) (c1 : ic < 8) (kc : w.cell? ⟨g, ic.toNat * 2 + 1, none⟩ = some (.bool xc)) (hcv : ∃ x y z, cv = .slice x y z) :
  Calls Tryz.prog 16 #[.agg #[.slice ra rl rc, cv], .agg #[.int .i64 30, .int .i64 a, .int .i64 b, .int .i64 ic, .int .i64 n], .slice (some ⟨g, 0, none⟩) 8 c] w fun e w' => e = .returned (.bool (xb || xc)) /\ More w w' := by
 obtain ⟨cx, cy, cz, rfl⟩ := hcv;have zg1 : g < w.heap.size + 1 := by omega
 cases xb <;> cases xc
 all_goals
  go_enter Tryz.func16, Tryz.ntmps16;go_wp2;go_ret;exact ⟨rfl, ((More.refl _).alloc _ _).alloc _ _⟩

theorem Ji1 (ra : Option Addr) (rl rc : Nat) (cv : Value) (g c : Nat) (a b ic n : Int) (w : World) (zg : g < w.heap.size) (xa : Bool) (a0 : 0 <= a) (a1 : a < 8) (ka : w.cell? ⟨g, a.toNat * 2 + 1, none⟩ = some (.bool xa)) (hcv : ∃ x y z, cv = .slice x y z) :
  Calls Tryz.prog 16 #[.agg #[.slice ra rl rc, cv], .agg #[.int .i64 9, .int .i64 a, .int .i64 b, .int .i64 ic, .int .i64 n], .slice (some ⟨g, 0, none⟩) 8 c] w fun e w' => e = .returned (.bool (xa)) /\ More w w' := by
 obtain ⟨cx, cy, cz, rfl⟩ := hcv;have zg1 : g < w.heap.size + 1 := by omega
 cases xa
 all_goals
  go_enter Tryz.func16, Tryz.ntmps16;go_wp2;go_ret;exact ⟨rfl, ((More.refl _).alloc _ _).alloc _ _⟩

theorem J9r (ra : Option Addr) (rl rc : Nat) (cv : Value) (g c : Nat) (op a b ic n : Int) (w : World) (zg : g < w.heap.size) (h3 : ¬ op = 3) (h4 : ¬ op = 4) (h6 : ¬ op = 6) (h8 : ¬ op = 8) (h29 : ¬ op = 29) (h30 : ¬ op = 30) (h9 : ¬ op = 9) (hcv : ∃ x y z, cv = .slice x y z) :
  Calls Tryz.prog 16 #[.agg #[.slice ra rl rc, cv], .agg #[.int .i64 op, .int .i64 a, .int .i64 b, .int .i64 ic, .int .i64 n], .slice (some ⟨g, 0, none⟩) 8 c] w fun e w' => e = .returned (.bool (false)) /\ More w w' := by
 obtain ⟨cx, cy, cz, rfl⟩ := hcv;have zg1 : g < w.heap.size + 1 := by omega
 have e3 : (op == 3) = false := by simp [h3]
 have e4 : (op == 4) = false := by simp [h4]
 have e6 : (op == 6) = false := by simp [h6]
 have e8 : (op == 8) = false := by simp [h8]
 have e29 : (op == 29) = false := by simp [h29]
 have e30 : (op == 30) = false := by simp [h30]
 have e9 : (op == 9) = false := by simp [h9]
 clear h3 h4 h6 h8 h29 h30 h9
 all_goals
  go_enter Tryz.func16, Tryz.ntmps16;go_wp2;go_ret;exact ⟨rfl, ((More.refl _).alloc _ _).alloc _ _⟩

theorem J9q (p : Prg) (lo : Loc) (at_ g c : Nat) (s : KS) (w : World) (hp : PIn w p lo) (hi : InsOk p.rl p.log p.cl 8 (p.ins at_)) (hk : KRow w g s) :
  Calls Tryz.prog 16 #[.agg #[.slice lo.ra p.rl lo.rc, .slice lo.ca p.cl lo.cc], .agg #[.int .i64 (p.ins at_).op, .int .i64 (p.ins at_).a, .int .i64 (p.ins at_).b, .int .i64 (p.ins at_).c, .int .i64 (p.ins at_).n], .slice (some ⟨g, 0, none⟩) 8 c] w
   fun e w' => e = .returned (.bool (J0h p (p.ins at_) s)) /\ More w w' := by
 have zg := hk.lt;have hI := hi;unfold InsOk Reg Rgn at hI;have reg : ∀ v : Int, 0 <= v -> v < 8 -> w.cell? ⟨g, v.toNat * 2 + 1, none⟩ = some (.bool (s v.toNat).s) := fun v h0 h1 => (hk v.toNat (by omega)).1.2
 have rgn : ∀ v : Int, 0 <= v -> v < p.rl -> lo.ra = some ⟨lo.rb, lo.ro, none⟩ /\ lo.rb < w.heap.size /\ w.cell? ⟨lo.rb, lo.ro + v.toNat * 2 + 1, none⟩ = some (.bool (p.sec v.toNat)) := fun v h0 h1 =>
  ⟨hp.hr (by omega), J05 (hp.regs v.toNat (by omega)).1, (hp.regs v.toNat (by omega)).2⟩
 by_cases h3 : (p.ins at_).op = 3
 ·simp [h3] at hI
  have e0 : J0h p (p.ins at_) s = (s (p.ins at_).b.toNat).s := by unfold J0h; simp [h3]
  rw [e0, h3];exact Jhx lo.ra p.rl lo.rc (.slice lo.ca p.cl lo.cc) g c (p.ins at_).a (p.ins at_).b (p.ins at_).c (p.ins at_).n w zg _ (by omega) (by omega) (reg (p.ins at_).b (by omega) (by omega)) ⟨_, _, _, rfl⟩
 by_cases h4 : (p.ins at_).op = 4
 ·simp [h4] at hI
  have e0 : J0h p (p.ins at_) s = ((s (p.ins at_).b.toNat).s || ((s (p.ins at_).a.toNat).s && !p.sec (p.ins at_).c.toNat)) := by unfold J0h; simp [h4]
  rw [e0, h4];exact Jhy lo.ra p.rl lo.rc (.slice lo.ca p.cl lo.cc) g c (p.ins at_).a (p.ins at_).b (p.ins at_).c (p.ins at_).n w zg _ _ _ (by omega) (by omega) (reg (p.ins at_).a (by omega) (by omega)) (by omega) (by omega) (reg (p.ins at_).b (by omega) (by omega)) lo.rb lo.ro (rgn (p.ins at_).c (by omega) (by omega)).1 (rgn (p.ins at_).c (by omega) (by omega)).2.1 (by omega) (by omega) (rgn (p.ins at_).c (by omega) (by omega)).2.2 ⟨_, _, _, rfl⟩
 by_cases h6 : (p.ins at_).op = 6
 ·simp [h6] at hI
  have e0 : J0h p (p.ins at_) s = ((s (p.ins at_).a.toNat).s && !p.sec (p.ins at_).c.toNat) := by unfold J0h; simp [h6]
  rw [e0, h6];exact Jhz lo.ra p.rl lo.rc (.slice lo.ca p.cl lo.cc) g c (p.ins at_).a (p.ins at_).b (p.ins at_).c (p.ins at_).n w zg _ _ (by omega) (by omega) (reg (p.ins at_).a (by omega) (by omega)) lo.rb lo.ro (rgn (p.ins at_).c (by omega) (by omega)).1 (rgn (p.ins at_).c (by omega) (by omega)).2.1 (by omega) (by omega) (rgn (p.ins at_).c (by omega) (by omega)).2.2 ⟨_, _, _, rfl⟩
 by_cases h8 : (p.ins at_).op = 8
 ·simp [h8] at hI
  have e0 : J0h p (p.ins at_) s = ((s (p.ins at_).a.toNat).s || (s (p.ins at_).b.toNat).s) := by unfold J0h; simp [h8]
  rw [e0, h8];exact Ji0 lo.ra p.rl lo.rc (.slice lo.ca p.cl lo.cc) g c (p.ins at_).a (p.ins at_).b (p.ins at_).c (p.ins at_).n w zg _ _ (by omega) (by omega) (reg (p.ins at_).a (by omega) (by omega)) (by omega) (by omega) (reg (p.ins at_).b (by omega) (by omega)) ⟨_, _, _, rfl⟩
 by_cases h29 : (p.ins at_).op = 29
 ·simp [h29] at hI
  have e0 : J0h p (p.ins at_) s = ((s (p.ins at_).b.toNat).s || (s (p.ins at_).c.toNat).s) := by unfold J0h; simp [h29]
  rw [e0, h29];exact Jf4 lo.ra p.rl lo.rc (.slice lo.ca p.cl lo.cc) g c (p.ins at_).a (p.ins at_).b (p.ins at_).c (p.ins at_).n w zg _ _ (by omega) (by omega) (reg (p.ins at_).b (by omega) (by omega)) (by omega) (by omega) (reg (p.ins at_).c (by omega) (by omega)) ⟨_, _, _, rfl⟩
 by_cases h30 : (p.ins at_).op = 30
 ·simp [h30] at hI
  have e0 : J0h p (p.ins at_) s = ((s (p.ins at_).b.toNat).s || (s (p.ins at_).c.toNat).s) := by unfold J0h; simp [h30]
  rw [e0, h30];exact Jf5 lo.ra p.rl lo.rc (.slice lo.ca p.cl lo.cc) g c (p.ins at_).a (p.ins at_).b (p.ins at_).c (p.ins at_).n w zg _ _ (by omega) (by omega) (reg (p.ins at_).b (by omega) (by omega)) (by omega) (by omega) (reg (p.ins at_).c (by omega) (by omega)) ⟨_, _, _, rfl⟩
 by_cases h9 : (p.ins at_).op = 9
 ·simp [h9] at hI
  have e0 : J0h p (p.ins at_) s = (s (p.ins at_).a.toNat).s := by unfold J0h; simp [h9]
  rw [e0, h9];exact Ji1 lo.ra p.rl lo.rc (.slice lo.ca p.cl lo.cc) g c (p.ins at_).a (p.ins at_).b (p.ins at_).c (p.ins at_).n w zg _ (by omega) (by omega) (reg (p.ins at_).a (by omega) (by omega)) ⟨_, _, _, rfl⟩
 ·have e0 : J0h p (p.ins at_) s = false := by unfold J0h; simp [h3, h4, h6, h8, h29, h30, h9]
  rw [e0];exact J9r lo.ra p.rl lo.rc (.slice lo.ca p.cl lo.cc) g c (p.ins at_).op (p.ins at_).a (p.ins at_).b (p.ins at_).c (p.ins at_).n w zg h3 h4 h6 h8 h29 h30 h9 ⟨_, _, _, rfl⟩
theorem Jk4 {p : Prg} {at_ : Nat} (hi : InsOk p.rl p.log p.cl 8 (p.ins at_)) (s : KS) : (∃ (i : Nat) (x : Nat × KS), (J0f p at_ s)[i]? = some x /\ p.cl <= x.1) ↔ outK p at_ = true := by
 unfold outK;have hI := hi;unfold InsOk Plc at hI;constructor
 ·rintro ⟨i, x, hx, hc⟩
  have hm := List.mem_of_getElem? hx;unfold J0f at hm;by_cases h7 : (p.ins at_).op = 7
  ·rw [if_pos h7] at hm
   simp [h7] at hI;simp at hm; subst hm; dsimp only at hc; omega
  rw [if_neg h7] at hm;by_cases h9 : (p.ins at_).op = 9
  ·rw [if_pos h9] at hm; simp at hm
  rw [if_neg h9] at hm;by_cases h8 : (p.ins at_).op = 8
  ·rw [if_pos h8] at hm
   simp [h8] at hI;simp at hm;rcases hm with rfl | rfl
   ·dsimp only at hc; omega
   ·simp [h7, h9]; exact hc
  ·rw [if_neg h8] at hm
   simp at hm; subst hm;simp [h7, h9]; exact hc
 ·intro h
  simp at h;obtain ⟨h7, h9, hc⟩ := h;unfold J0f;rw [if_neg h7, if_neg h9];by_cases h8 : (p.ins at_).op = 8
  ·rw [if_pos h8]; exact ⟨1, _, rfl, hc⟩
  ·rw [if_neg h8]; exact ⟨0, _, rfl, hc⟩

abbrev flt (c a : Int) : Value := .agg #[.int .i64 c, .int .i64 a]

theorem Ja3 (rv cv : Value) (hrv : ∃ a n c, rv = .slice a n c) (hcv : ∃ a n c, cv = .slice a n c) (w : World) (cm : ∀ w1 : World, More w w1 -> Calls Tryz.prog 12 #[.agg #[rv, cv]] w1 fun e w' => e = .returned (.bool false) /\ More w1 w') :
  Calls Tryz.prog 4 #[.agg #[rv, cv]] w fun e w' => e = .returned (flt 2 0) /\ More w w' := by
 obtain ⟨a, n, c, rfl⟩ := hrv;obtain ⟨a2, n2, c2, rfl⟩ := hcv;unfold flt;go_enter Tryz.func4, Tryz.ntmps4;go_wp2_with (fail)
 refine (cm _ (((More.refl _).alloc _ _).alloc _ _)).mono ?_;rintro e w1 ⟨rfl, m1⟩;have Hres : Hid (Blk w1 (w.heap.size + 1) #[.int .i64 0, .int .i64 0] 30) := (by simpa using Blk.last (w.alloc (.cells #[.slice a n c, .slice a2 n2 c2] 25)) #[.int .i64 0, .int .i64 0] 30 : Blk ((w.alloc (.cells #[.slice a n c, .slice a2 n2 c2] 25)).alloc (.cells #[.int .i64 0, .int .i64 0] 30)) (w.heap.size + 1) #[.int .i64 0, .int .i64 0] 30).more m1;have Hm1 : Hid (More w w1) := (((More.refl _).alloc _ _).alloc _ _).trans m1;clear m1;have t0 := Hres.out.cell (j := 0) (v := .int .i64 0) rfl;have t1 := Hres.out.cell (j := 1) (v := .int .i64 0) rfl;have u0 := Hres.out.frozen 0;have u1 := Hres.out.frozen 1;go_wp2;exact bodyPost_ret (by simp [results, Tryz.results4, go_sem, *]) rfl ⟨rfl, (Hm1.out.setCell (by dsimp only; omega) _).setCell (by dsimp only; omega) _⟩

theorem Jdj (p : Prg) (lo : Loc) (w : World) (hp : PIn w p lo) (hok : p.Ok 200 8) (hn : ∀ i, i < p.cl -> -9223372036854775808 <= (p.ins i).n /\ (p.ins i).n <= 9223372036854775807)
  (cm : ∀ w1 : World, More w w1 -> Calls Tryz.prog 12 #[.agg #[.slice lo.ra p.rl lo.rc, .slice lo.ca p.cl lo.cc]] w1 fun e w' => e = .returned (.bool true) /\ More w1 w') :
  Calls Tryz.prog 4 #[.agg #[.slice lo.ra p.rl lo.rc, .slice lo.ca p.cl lo.cc]] w fun e w' => ∃ l, Known p l /\ e = .returned (flt (J0e p l).1 (J0e p l).2) /\ More w w' := by
 suffices hP : ∀ P : Ending -> World -> Prop, (∀ l, Known p l -> ∀ w', More w w' -> P (.returned (flt (J0e p l).1 (J0e p l).2)) w') -> Calls Tryz.prog 4 #[.agg #[.slice lo.ra p.rl lo.rc, .slice lo.ca p.cl lo.cc]] w P from hP _ (fun l h1 w' h2 => ⟨l, h1, rfl, h2⟩)
 intro P hP0;have HP : Hid (∀ l, Known p l -> ∀ w', More w w' -> P (.returned (flt (J0e p l).1 (J0e p l).2)) w') := hP0;have H : Hid (PIn w p lo /\ p.Ok 200 8 /\ ∀ i, i < p.cl -> -9223372036854775808 <= (p.ins i).n /\ (p.ins i).n <= 9223372036854775807) := ⟨hp, hok, hn⟩;have h1 : 1 <= p.cl := hok.2.1;have h2 : p.cl <= 200 := hok.2.2.1;have hi1 : (1 : Int) <= p.cl := by omega
 have hi2 : (p.cl : Int) <= 200 := by omega
 clear hP0 hp hok hn;have HS0 : Hid (∀ w1 : World, More w w1 -> Calls Tryz.prog 13 #[.agg #[.slice lo.ra p.rl lo.rc, .slice lo.ca p.cl lo.cc]] w1 fun e w' => ∃ lb l, e = .returned (.slice (some ⟨lb, 0, none⟩) p.cl p.cl) /\ VAt w' lb p.cl l /\ Known p l /\ More w1 w') := fun w1 m => J9t p lo w1 (H.out.1.more m) H.out.2.1 H.out.2.2
 obtain ⟨cl, hcl⟩ : ∃ cl, p.cl = cl := ⟨_, rfl⟩;have Hcl : Hid (p.cl = cl) := hcl;rw [hcl] at h1 h2 hi1 hi2 cm |-
 have HSt : Hid (∀ w1 : World, More w w1 -> Calls Tryz.prog 13 #[.agg #[.slice lo.ra p.rl lo.rc, .slice lo.ca cl lo.cc]] w1 fun e w' => ∃ lb l, e = .returned (.slice (some ⟨lb, 0, none⟩) cl cl) /\ VAt w' lb p.cl l /\ Known p l /\ More w1 w') := by
  have := HS0.out;rw [hcl] at this;rw [hcl]; exact this
 have Hcm : Hid (∀ w1 : World, More w w1 -> Calls Tryz.prog 12 #[.agg #[.slice lo.ra p.rl lo.rc, .slice lo.ca cl lo.cc]] w1 fun e w' => e = .returned (.bool true) /\ More w1 w') := cm;clear hcl HS0 cm;obtain ⟨ra, rb, ro, rc, ca, cb, co, cc⟩ := lo;dsimp only at HSt Hcm |-;obtain rfl : ca = some ⟨cb, co, none⟩ := H.out.1.hc (by have := Hcl.out; omega);obtain ⟨W0, HW0⟩ : ∃ W0 : World, Hid (W0 = (w.alloc (.cells #[.slice ra p.rl rc, .slice (some ⟨cb, co, none⟩) cl cc] 25)).alloc (.cells #[.int .i64 0, .int .i64 0] 30)) := ⟨_, rfl⟩;have HM0 : Hid (More w W0) := HW0.out ▸ ((More.refl _).alloc _ _).alloc _ _;have HBX : Hid (Blk W0 w.heap.size #[.slice ra p.rl rc, .slice (some ⟨cb, co, none⟩) cl cc] 25) := HW0.out ▸ (Blk.last _ _ _).more ((More.refl _).alloc _ _)
 have HRES : Hid (Blk W0 (w.heap.size + 1) #[.int .i64 0, .int .i64 0] 30) := by
  show Blk _ _ _ _;rw [HW0.out];simpa using Blk.last (w.alloc (.cells #[.slice ra p.rl rc, .slice (some ⟨cb, co, none⟩) cl cc] 25)) #[.int .i64 0, .int .i64 0] 30
 go_enter Tryz.func4, Tryz.ntmps4;go_wp2_with (fail)
 rw [<- HW0.out];refine (Hcm.out _ HM0.out).mono ?_;rintro e w1 ⟨rfl, m1⟩;have HM1 : Hid (More W0 w1) := m1;clear m1;have p0 : w1.cell? ⟨w.heap.size, 0, none⟩ = some (.slice ra p.rl rc) := (HBX.out.more HM1.out).cell rfl;have p1 : w1.cell? ⟨w.heap.size, 1, none⟩ = some (.slice (some ⟨cb, co, none⟩) cl cc) := (HBX.out.more HM1.out).cell rfl;go_wp2_with (fail)
 refine (HSt.out _ (HM0.out.trans HM1.out)).mono ?_;rintro e w2 ⟨lb, L, rfl, hv, hkn, m2⟩;have HV2 : Hid (VAt w2 lb p.cl L /\ Known p L) := ⟨hv, hkn⟩;have HM2 : Hid (More W0 w2) := HM1.out.trans m2;clear m2 hv hkn p0 p1;go_wp2_with (fail)
 go_loopg [4] cl (fun g iv wr => ∃ k : Nat, k + g = cl /\ iv = .int .i64 k /\ Hid (More w2 wr /\ J0e p L = scanK p L g k))
 case atStart => exact ⟨0, by omega, rfl, More.refl _, by unfold J0e; rw [Hcl.out]⟩
 case round =>
  obtain ⟨k, hkg, rfl, HR⟩ := hrel;obtain ⟨wm, rfl⟩ : ∃ wm, wm = wr := ⟨wr, rfl⟩;have HMm : Hid (More W0 wm) := HM2.out.trans HR.out.1;have HVm : Hid (VAt wm lb p.cl L) := HV2.out.1.more HR.out.1 (by have := Hcl.out; omega);have Hsc : Hid (J0e p L = scanK p L gk k) := HR.out.2;have HMw : Hid (More w2 wm) := HR.out.1;clear HR;cases gk with
  | zero =>
   have He : Hid (J0e p L = (0, 0)) := Hsc.out;clear Hsc;have t0 := (HRES.out.more HMm.out).cell (j := 0) (v := .int .i64 0) rfl;have t1 := (HRES.out.more HMm.out).cell (j := 1) (v := .int .i64 0) rfl;have u0 := (HRES.out.more HMm.out).frozen 0;have u1 := (HRES.out.more HMm.out).frozen 1;go_wp2;refine bodyPost_ret (v := flt 0 0) (by simp [flt, results, Tryz.results4, go_sem, *]) rfl ?_;have hE := HP.out L HV2.out.2 _ (((HM0.out.trans HMm.out).setCell (a := ⟨w.heap.size + 1, 0, none⟩) (by dsimp only; omega) (.int .i64 0)).setCell (a := ⟨w.heap.size + 1, 1, none⟩) (by dsimp only; omega) (.int .i64 0));rw [He.out] at hE;exact hE
  | succ g =>
   have hk : k < cl := by omega
   have hki : (k : Int) < cl := by omega
   have hca := HVm.out.at_ k (by rw [Hcl.out]; exact hk);cases eL : L k with
   | none =>
    rw [eL] at hca;have c0 := hca.1;have Hn2 : Hid (J0e p L = scanK p L g (k + 1)) := by show _ = _; rw [Hsc.out]; simp only [scanK, eL]
    clear hca eL Hsc;go_wp2;go_roundg g
    case measure => omega
    case rel => exact ⟨k + 1, by omega, by first | rfl | simp, HMw.out, Hn2.out⟩
   | some s =>
    rw [eL] at hca;obtain ⟨gs, cs, c0, c1, hks, hgne⟩ := hca;have Hks : Hid (KRow wm gs s) := hks;have Hpk : Hid (k < p.cl) := by show _ < _; rw [Hcl.out]; exact hk
    have Hi : Hid (InsOk p.rl p.log p.cl 8 (p.ins k)) := H.out.2.1.2.2.2 k Hpk.out;have Hn2 : Hid (J0e p L = if J0t p k s = 0 then scanK p L g (k + 1) else (J0t p k s, (k : Int))) := by show _ = _; rw [Hsc.out]; simp only [scanK, eL]
    have Hout : Hid ((∃ (i : Nat) (x : Nat × KS), (J0f p k s)[i]? = some x /\ p.cl <= x.1) ↔ outK p k = true) := Jk4 Hi.out s;clear eL hks hgne Hsc;have q := (H.out.1.more (HM0.out.trans HMm.out)).code k Hpk.out;obtain ⟨q0, q1, q2, q3, q4⟩ := q;obtain ⟨i, hi⟩ : ∃ i, p.ins k = i := ⟨_, rfl⟩;rw [hi] at q0 q1 q2 q3 q4;have HI : Hid (p.ins k = i) := hi;clear hi;obtain ⟨op, a, b, ic, n⟩ := i;dsimp only at q0 q1 q2 q3 q4;have p0 : wm.cell? ⟨w.heap.size, 0, none⟩ = some (.slice ra p.rl rc) := (HBX.out.more HMm.out).cell rfl;have p1 : wm.cell? ⟨w.heap.size, 1, none⟩ = some (.slice (some ⟨cb, co, none⟩) cl cc) := (HBX.out.more HMm.out).cell rfl;obtain ⟨W8, HW8⟩ : ∃ W8 : World, Hid (W8 = wm.alloc (.cells #[.int .i64 op, .int .i64 a, .int .i64 b, .int .i64 ic, .int .i64 n] 53)) := ⟨_, rfl⟩;have HM8 : Hid (More wm W8) := HW8.out ▸ (More.refl _).alloc _ _;have HB8 : Hid (Blk W8 wm.heap.size #[.int .i64 op, .int .i64 a, .int .i64 b, .int .i64 ic, .int .i64 n] 53) := HW8.out ▸ Blk.last _ _ _;obtain ⟨S, HS⟩ : ∃ S : World -> Prop, Hid (∀ w', S w' ↔ More W8 w') := ⟨_, fun _ => Iff.rfl⟩;have HSd : S W8.drew := (HS.out _).2 (More.refl _).drew;have hne : Nonempty { w' // S w' } := ⟨⟨_, HSd⟩⟩;have k0 : ∀ i : { w' // S w' }, i.val.cell? ⟨lb, k * 2, none⟩ = some (.bool true) := fun i => (HM8.out.trans ((HS.out _).1 i.property)).cell c0
    have k1 : ∀ i : { w' // S w' }, i.val.cell? ⟨lb, k * 2 + 1, none⟩ = some (.slice (some ⟨gs, 0, none⟩) 8 cs) := fun i => (HM8.out.trans ((HS.out _).1 i.property)).cell c1
    have k2 : ∀ i : { w' // S w' }, i.val.cell? ⟨w.heap.size, 0, none⟩ = some (.slice ra p.rl rc) := fun i => (HM8.out.trans ((HS.out _).1 i.property)).cell p0
    have k3 : ∀ i : { w' // S w' }, i.val.cell? ⟨w.heap.size, 1, none⟩ = some (.slice (some ⟨cb, co, none⟩) cl cc) := fun i => (HM8.out.trans ((HS.out _).1 i.property)).cell p1
    have Hld : Hid (∀ w1 : World, More wm w1 -> Calls Tryz.prog 14 #[.agg #[.slice ra p.rl rc, .slice (some ⟨cb, co, none⟩) cl cc], .int .i64 k, st true gs cs] w1 fun e w' => ∃ v, e = .returned v /\ LdAt w' w1.heap.size v (J0f p k s) /\ More w1 w') := fun w1 m => by
     have := J6n p ⟨ra, rb, ro, rc, some ⟨cb, co, none⟩, cb, co, cc⟩ k gs cs s w1 (H.out.1.more ((HM0.out.trans HMm.out).trans m)) Hpk.out H.out.2.1.2.2.1 Hi.out (H.out.2.2 k Hpk.out).1 (H.out.2.2 k Hpk.out).2 (Hks.out.more m);dsimp only at this;rw [Hcl.out] at this;exact this
    have zb := J05 p0;have zc := J05 q0;have zl := J05 c0;dsimp only at zb zc zl;go_wp2_with (fail)
    rw [<- HW8.out];refine J01 (S := S) [(0, true), (1, true), (2, true), (3, true), (4, true), (5, true), (6, false), (7, true)] (by kernel_rfl) (by kernel_rfl) (by kernel_rfl) HSd ?_
    iterate 6 (refine J00 rfl (by kernel_rfl) (fun K hK => ?_); go_simp; refine hK _ _ ?_; clear hK K)
    refine J02 rfl (by kernel_rfl) (fun K hK => ?_); go_simp;refine (Hld.out _ (HM8.out.drew)).mono ?_;rintro e w3 ⟨lv, rfl, hlv, m3⟩;have HM3 : Hid (More W8 w3) := (More.refl _).drew.trans m3;have HS3 : S w3 := (HS.out _).2 HM3.out;obtain ⟨ls, hls⟩ : ∃ ls, J0f p k s = ls := ⟨_, rfl⟩;rw [hls] at hlv;have Hls : Hid ((∃ (i : Nat) (x : Nat × KS), ls[i]? = some x /\ p.cl <= x.1) ↔ outK p k = true) := by have := Hout.out; rw [hls] at this; exact this
    clear hls Hout;obtain ⟨la, lbk, lcap, rfl, hla, _, hl2, hcells⟩ := hlv;obtain ⟨nl, hnl⟩ : ∃ nl, ls.length = nl := ⟨_, rfl⟩;rw [hnl] at hla hl2 |-;have Hce : Hid (∀ j x, ls[j]? = some x -> w3.cell? ⟨lbk, j * 3, none⟩ = some (.int .i64 (x.1 : Int))) := fun j x hx => by obtain ⟨_, _, q, _⟩ := hcells j x hx; exact q
    have Hnl : Hid (ls.length = nl /\ (0 < nl -> la = some ⟨lbk, 0, none⟩)) := ⟨hnl, hla⟩;clear m3 hnl hla hcells
    go_simp
    refine hK _ _ HS3 ?_; clear hK K
    (refine J00 rfl (by kernel_rfl) (fun K hK => ?_); go_simp; refine hK _ _ ?_; clear hK K)
    refine J04 ?_;clear k0 k1 k2 k3 hne HSd HS3 q0 q1 q2 q3 q4 zb zc zl;go_wp2_with (fail)
    go_loopg [7, 8] nl (fun g3 bv iv wr3 => ∃ (j : Nat) (bb : Bool), j + g3 = nl /\ iv = .int .i64 j /\ bv = .bool bb /\ wr3 = w3 /\ Hid (bb = true ↔ ∃ (i : Nat) (x : Nat × KS), i < j /\ ls[i]? = some x /\ p.cl <= x.1))
    case atStart => exact ⟨0, false, by omega, rfl, rfl, rfl, ⟨fun h => absurd h (by simp), fun ⟨i, x, h, _⟩ => absurd h (Nat.not_lt_zero _)⟩⟩
    case round =>
     obtain ⟨j, bb, hjg, rfl, rfl, rfl, HJ⟩ := hrel;obtain ⟨w3, rfl⟩ : ∃ w3, w3 = wr := ⟨wr, rfl⟩;cases gk with
     | succ g3 =>
      have hj : j < nl := by omega
      have hji : (j : Int) < nl := by omega
      have hnli : (nl : Int) <= 2 := by omega
      obtain ⟨x, hx⟩ : ∃ x, ls[j]? = some x := ⟨ls[j]'(by rw [Hnl.out.1]; exact hj), List.getElem?_eq_getElem _⟩;obtain rfl : la = some ⟨lbk, 0, none⟩ := Hnl.out.2 (by omega);have l0 := Hce.out j x hx;have Hx : Hid (ls[j]? = some x) := hx;obtain ⟨xto, xs⟩ := x;dsimp only at l0;clear hx;obtain ⟨dd, hdd⟩ : ∃ d, decide (cl <= xto) = d := ⟨_, rfl⟩
      have Hnx : Hid ((bb || dd) = true ↔ ∃ (i : Nat) (x : Nat × KS), i < j + 1 /\ ls[i]? = some x /\ p.cl <= x.1) := by
       rw [Bool.or_eq_true, HJ.out];constructor
       ·rintro (⟨i, x, h1, h2, h3⟩ | h)
        ·exact ⟨i, x, by omega, h2, h3⟩
        ·refine ⟨j, _, by omega, Hx.out, ?_⟩
         rw [<- hdd, decide_eq_true_eq] at h;have := Hcl.out;dsimp only; omega
       ·rintro ⟨i, x, h1, h2, h3⟩
        by_cases e : i = j
        ·subst e
         rw [Hx.out] at h2;cases h2
         right;rw [<- hdd, decide_eq_true_eq];have := Hcl.out;dsimp only at h3; omega
        ·exact .inl ⟨i, x, by omega, h2, h3⟩
      clear HJ;cases bb
      ·simp only [Bool.false_or] at Hnx
       go_wp2;go_roundg g3
       case measure => omega
       case rel => exact ⟨j + 1, dd, by omega, by first | rfl | simp, rfl, rfl, Hnx.out⟩
      ·simp only [Bool.true_or] at Hnx
       clear hdd;go_wp2;go_roundg g3
       case measure => omega
       case rel => exact ⟨j + 1, true, by omega, by first | rfl | simp, rfl, rfl, ⟨fun _ => Hnx.out.1 trivial, fun _ => rfl⟩⟩
     | zero =>
      have HO : Hid (bb = outK p k) := by
       show _ = _;rw [Bool.eq_iff_iff, HJ.out, <- Hls.out];constructor
       ·rintro ⟨i, x, _, h2, h3⟩; exact ⟨i, x, h2, h3⟩
       ·rintro ⟨i, x, h2, h3⟩
        have : i < ls.length := (List.getElem?_eq_some_iff.1 h2).1;exact ⟨i, x, by rw [Hnl.out.1] at this; omega, h2, h3⟩
      clear HJ;obtain ⟨sc, hsc⟩ : ∃ x, J0h p (p.ins k) s = x := ⟨_, rfl⟩;have Hsc2 : Hid (J0h p (p.ins k) s = sc) := hsc
      have Csec : Hid (∀ w1 : World, More wm w1 -> Calls Tryz.prog 16 #[.agg #[.slice ra p.rl rc, .slice (some ⟨cb, co, none⟩) cl cc], .agg #[.int .i64 op, .int .i64 a, .int .i64 b, .int .i64 ic, .int .i64 n], .slice (some ⟨gs, 0, none⟩) 8 cs] w1 fun e w' => e = .returned (.bool sc) /\ More w1 w') := fun w1 m => by
       have := J9q p ⟨ra, rb, ro, rc, some ⟨cb, co, none⟩, cb, co, cc⟩ k gs cs s w1 (H.out.1.more ((HM0.out.trans HMm.out).trans m)) Hi.out (Hks.out.more m);rw [hsc, HI.out] at this;dsimp only at this;rw [Hcl.out] at this;exact this
      clear hsc;have HB3 : Hid (Blk w3 wm.heap.size #[.int .i64 op, .int .i64 a, .int .i64 b, .int .i64 ic, .int .i64 n] 53) := HB8.out.more HM3.out;have i0 : w3.cell? ⟨wm.heap.size, 0, none⟩ = some (.int .i64 op) := HB3.out.cell rfl;have Hrf : Hid (More w3 w3) := More.refl _;by_cases hop : op = 3 \/ op = 4
      ·-- a word at an index
       rcases hop with rfl | rfl
       all_goals
        have hI := Hi.out;unfold InsOk Reg Rgn at hI;rw [HI.out] at hI;simp at hI;obtain rfl : ra = some ⟨rb, ro, none⟩ := H.out.1.hr (by omega);obtain ⟨lg, hlg⟩ : ∃ x, p.log ic.toNat = x := ⟨_, rfl⟩
        have Hlg : Hid (∀ w' : World, More wm w' -> w'.cell? ⟨rb, ro + ic.toNat * 2, none⟩ = some (.int .i64 lg)) := fun w' m => by
         have := ((H.out.1.more ((HM0.out.trans HMm.out).trans m)).regs ic.toNat (by omega)).1;rw [hlg] at this; exact this
        obtain ⟨xb, hxb⟩ : ∃ x, s b.toNat = x := ⟨_, rfl⟩;obtain ⟨v, hv⟩ : ∃ v, Kn.index xb n = v := ⟨_, rfl⟩;have hnn := H.out.2.2 k Hpk.out;rw [HI.out] at hnn;dsimp only at hnn;have Cix : Hid (∀ w : World, Calls Tryz.prog 15 #[kn xb.b xb.s, .int .i64 n] w fun e w' => e = .returned (kn v.b v.s) /\ More w w') := fun w => hv ▸ J6g xb n hnn.1 hnn.2 w
        have HbK : Hid (J1l p (p.ins k) s = (decide (n < 0) || decide (lg < v.b))) := by
         show _ = _;unfold J1l; rw [HI.out]; dsimp only;rw [hxb, hv, hlg]; simp
        have b0 : 0 <= b := by omega
        have b1 : b < 8 := by omega
        have ic0 : 0 <= ic := by omega
        have ic1 : ic < p.rl := by omega
        have Hxb : Hid (s b.toNat = ⟨xb.b, xb.s⟩) := hxb;clear hlg hxb hv hI hnn;obtain ⟨vb, vs⟩ := v;obtain ⟨xbb, xbs⟩ := xb;unfold kn at Cix;dsimp only at Cix HbK Hxb;obtain ⟨T, HT⟩ : ∃ T : World -> Prop, Hid (∀ w', T w' ↔ More w3 w') := ⟨_, fun _ => Iff.rfl⟩;have HT0 : T w3.drew := (HT.out _).2 (More.refl _).drew;have hneT : Nonempty { w' // T w' } := ⟨⟨_, HT0⟩⟩;have HMt : Hid (More wm w3) := HM8.out.trans HM3.out;have k0 : ∀ i : { w' // T w' }, i.val.cell? ⟨lb, k * 2 + 1, none⟩ = some (.slice (some ⟨gs, 0, none⟩) 8 cs) := fun i => (HMt.out.trans ((HT.out _).1 i.property)).cell c1
        have k1 : ∀ i : { w' // T w' }, i.val.cell? ⟨gs, b.toNat * 2, none⟩ = some (.int .i64 xbb) := fun i => by have := ((Hks.out.more (HMt.out.trans ((HT.out _).1 i.property))) b.toNat (by omega)).1.1; rw [Hxb.out] at this; exact this
        have k2 : ∀ i : { w' // T w' }, i.val.cell? ⟨gs, b.toNat * 2 + 1, none⟩ = some (.bool xbs) := fun i => by have := ((Hks.out.more (HMt.out.trans ((HT.out _).1 i.property))) b.toNat (by omega)).1.2; rw [Hxb.out] at this; exact this
        have k3 : ∀ i : { w' // T w' }, i.val.cell? ⟨wm.heap.size, 2, none⟩ = some (.int .i64 b) := fun i => (HB3.out.more ((HT.out _).1 i.property)).cell rfl
        have k4 : ∀ i : { w' // T w' }, i.val.cell? ⟨wm.heap.size, 4, none⟩ = some (.int .i64 n) := fun i => (HB3.out.more ((HT.out _).1 i.property)).cell rfl
        have k5 : True := trivial;have k6 : True := trivial;have k7 : True := trivial;go_wp2_with (fail)
        clear i0;refine J1i (S := T) (by kernel_rfl) HT0 ?_;refine J07 0 rfl (by kernel_rfl) HT0 (by kernel_rfl) (fun K hK => ?_); go_simp; refine hK _ _ ?_; clear hK K;refine J07 1 rfl (by kernel_rfl) HT0 (by kernel_rfl) (fun K hK => ?_); go_simp; refine hK _ _ ?_; clear hK K;refine J07 2 rfl (by kernel_rfl) HT0 (by kernel_rfl) (fun K hK => ?_); go_simp; refine hK _ _ ?_; clear hK K;refine J07 3 rfl (by kernel_rfl) HT0 (by kernel_rfl) (fun K hK => ?_); go_simp; refine hK _ _ ?_; clear hK K;refine J07 4 rfl (by kernel_rfl) HT0 (by kernel_rfl) (fun K hK => ?_); go_simp; refine hK _ _ ?_; clear hK K;refine J07 5 rfl (by kernel_rfl) HT0 (by kernel_rfl) (fun K hK => ?_); go_simp; refine hK _ _ ?_; clear hK K;refine J07 6 rfl (by kernel_rfl) HT0 (by kernel_rfl) (fun K hK => ?_); go_simp; refine hK _ _ ?_; clear hK K;refine J07 7 rfl (by kernel_rfl) HT0 (by kernel_rfl) (fun K hK => ?_); go_simp; refine hK _ _ ?_; clear hK K;refine J07 8 rfl (by kernel_rfl) HT0 (by kernel_rfl) (fun K hK => ?_); go_simp; refine hK _ _ ?_; clear hK K;refine J07 9 rfl (by kernel_rfl) HT0 (by kernel_rfl) (fun K hK => ?_); go_simp; refine hK _ _ ?_; clear hK K;refine J07 10 rfl (by kernel_rfl) HT0 (by kernel_rfl) (fun K hK => ?_); go_simp; refine hK _ _ ?_; clear hK K;refine J3o 11 12 (by kernel_rfl) ?_ ?_
        ·-- the call, then the new block
         refine J08 rfl (by kernel_rfl) (fun K hK => ?_); go_simp;refine (Cix.out _).mono ?_;rintro e w5 ⟨rfl, m5⟩;have M5 : Hid (More w3 w5) := (More.refl _).drew.trans m5;clear m5
         go_simp
         refine hK _ _ ((HT.out _).2 M5.out) ?_; clear hK K;refine J12 12 (by kernel_rfl) ?_;refine J08 rfl (by kernel_rfl) (fun K hK => ?_); go_simp;refine hK _ _ ((HT.out _).2 (M5.out.alloc _ _)) ?_; clear hK K;refine J12 13 (by kernel_rfl) ?_;refine J08 rfl (by kernel_rfl) (fun K hK => ?_); go_simp;obtain ⟨w6, Hw6⟩ : ∃ w6 : World, Hid (w6 = w5.alloc (.cells #[.int .i64 vb, .bool vs] 59)) := ⟨_, rfl⟩;have HM6 : Hid (More w3 w6) := Hw6.out ▸ M5.out.alloc _ _;obtain ⟨bx, Hbx⟩ : ∃ bx, Hid (bx = w5.heap.size) := ⟨_, rfl⟩;have HB6 : Hid (Blk w6 bx #[.int .i64 vb, .bool vs] 59) := Hw6.out ▸ Hbx.out ▸ Blk.last _ _ _;rw [<- Hw6.out, <- Hbx.out];refine hK _ _ ((HT.out _).2 HM6.out) ?_; clear hK K;refine J42 (by kernel_rfl) ?_;clear k0 k1 k2 k3 k4 k5 k6 k7 hneT HT0;have HMy : Hid (More wm w6) := (HM8.out.trans HM3.out).trans HM6.out;have HBi : Hid (Blk w6 wm.heap.size #[.int .i64 _, .int .i64 a, .int .i64 b, .int .i64 ic, .int .i64 n] 53) := HB3.out.more HM6.out;obtain ⟨X, HX⟩ : ∃ X : World -> Prop, Hid (∀ w', X w' ↔ More w6 w') := ⟨_, fun _ => Iff.rfl⟩;have HX0 : X w6.drew := (HX.out _).2 (More.refl _).drew;have hneX : Nonempty { w' // X w' } := ⟨⟨_, HX0⟩⟩;have x0 : ∀ i : { w' // X w' }, i.val.cell? ⟨bx, 0, none⟩ = some (.int .i64 vb) := fun i => (HB6.out.more ((HX.out _).1 i.property)).cell rfl
         have x1 : ∀ i : { w' // X w' }, i.val.cell? ⟨wm.heap.size, 4, none⟩ = some (.int .i64 n) := fun i => (HBi.out.more ((HX.out _).1 i.property)).cell rfl
         have x2 : ∀ i : { w' // X w' }, i.val.cell? ⟨wm.heap.size, 3, none⟩ = some (.int .i64 ic) := fun i => (HBi.out.more ((HX.out _).1 i.property)).cell rfl
         have x3 : ∀ i : { w' // X w' }, i.val.cell? ⟨w.heap.size, 0, none⟩ = some (.slice (some ⟨rb, ro, none⟩) p.rl rc) := fun i => (HMy.out.trans ((HX.out _).1 i.property)).cell p0
         have x4 : ∀ i : { w' // X w' }, i.val.cell? ⟨rb, ro + ic.toNat * 2, none⟩ = some (.int .i64 lg) := fun i => Hlg.out _ (HMy.out.trans ((HX.out _).1 i.property))
         have x5 : True := trivial;go_wp2_with (fail)
         refine J01 (S := X) [(0, true), (1, true), (2, true), (3, true), (4, true), (5, true), (6, true), (7, true), (8, true), (9, true), (10, true), (11, true), (12, true), (13, true), (14, true), (15, true), (16, true), (17, true), (18, true)] (by kernel_rfl) (by kernel_rfl) (by kernel_rfl) HX0 ?_
         iterate 2 (refine J00 rfl (by kernel_rfl) (fun K hK => ?_); go_simp; refine hK _ _ ?_; clear hK K)
         cases bb with
         | true =>
          iterate 3 (refine J2e rfl HX0 (by kernel_rfl) (fun K hK => ?_); go_simp; refine hK _ _ ?_; clear hK K)
          refine J0s rfl rfl (by kernel_rfl) rfl (fun K hK => ?_); go_simp; refine hK _ _ ?_; clear hK K
          (refine J00 rfl (by kernel_rfl) (fun K hK => ?_); go_simp; refine hK _ _ ?_; clear hK K)
          iterate 10 (refine J2e rfl HX0 (by kernel_rfl) (fun K hK => ?_); go_simp; refine hK _ _ ?_; clear hK K)
          refine J0s rfl rfl (by kernel_rfl) rfl (fun K hK => ?_); go_simp; refine hK _ _ ?_; clear hK K
          (refine J00 rfl (by kernel_rfl) (fun K hK => ?_); go_simp; refine hK _ _ ?_; clear hK K)
          have Hck : Hid (J0e p L = (4, (k : Int))) := by
           show _ = _;have hf : J0t p k s = 4 := by unfold J0t; rw [<- HO.out]; rfl
           rw [Hn2.out, hf]; rfl
          refine J04 ?_;clear x0 x1 x2 x3 x4 x5 hneX HX0;have HMz : Hid (More W0 w6.drew) := (((HMm.out.trans HM8.out).trans HM3.out).trans HM6.out).drew;have t0 : w6.cell? ⟨w.heap.size + 1, 0, none⟩ = some (.int .i64 0) := (HRES.out.more (((HMm.out.trans HM8.out).trans HM3.out).trans HM6.out)).cell rfl;have t1 : w6.cell? ⟨w.heap.size + 1, 1, none⟩ = some (.int .i64 0) := (HRES.out.more (((HMm.out.trans HM8.out).trans HM3.out).trans HM6.out)).cell rfl;have u0 : w6.frozen? ⟨w.heap.size + 1, 0, none⟩ = false := (HRES.out.more (((HMm.out.trans HM8.out).trans HM3.out).trans HM6.out)).frozen 0;have u1 : w6.frozen? ⟨w.heap.size + 1, 1, none⟩ = false := (HRES.out.more (((HMm.out.trans HM8.out).trans HM3.out).trans HM6.out)).frozen 1;go_wp2;refine bodyPost_ret (v := flt 4 k) (by simp [flt, results, Tryz.results4, go_sem, *]) rfl ?_;have hE := HP.out L HV2.out.2 _ (((HM0.out.trans (((HMm.out.trans HM8.out).trans HM3.out).trans HM6.out)).setCell (a := ⟨w.heap.size + 1, 0, none⟩) (by dsimp only; omega) (.int .i64 4)).setCell (a := ⟨w.heap.size + 1, 1, none⟩) (by dsimp only; omega) (.int .i64 k)).drew;rw [Hck.out] at hE;exact hE
         | false =>
          by_cases hn0 : n < 0
          ·have hdn : decide (n < 0) = true := by simp [hn0]
           have Hbd : Hid (J1l p (p.ins k) s = true) := by show _ = _; rw [HbK.out, hdn]; rfl
           iterate 3 (refine J00 rfl (by kernel_rfl) (fun K hK => ?_); go_simp; refine hK _ _ ?_; clear hK K)
           refine J0o rfl rfl (by kernel_rfl) rfl (fun K hK => ?_); go_simp; refine hK _ _ ?_; clear hK K
           (refine J00 rfl (by kernel_rfl) (fun K hK => ?_); go_simp; refine hK _ _ ?_; clear hK K)
           iterate 10 (refine J2e rfl HX0 (by kernel_rfl) (fun K hK => ?_); go_simp; refine hK _ _ ?_; clear hK K)
           refine J0s rfl rfl (by kernel_rfl) rfl (fun K hK => ?_); go_simp; refine hK _ _ ?_; clear hK K
           (refine J00 rfl (by kernel_rfl) (fun K hK => ?_); go_simp; refine hK _ _ ?_; clear hK K)
           have Hck : Hid (J0e p L = (4, (k : Int))) := by
            show _ = _;have hf : J0t p k s = 4 := by unfold J0t; rw [Hbd.out, Bool.or_true]; rfl
            rw [Hn2.out, hf]; rfl
           refine J04 ?_;clear x0 x1 x2 x3 x4 x5 hneX HX0;have HMz : Hid (More W0 w6.drew) := (((HMm.out.trans HM8.out).trans HM3.out).trans HM6.out).drew;have t0 : w6.cell? ⟨w.heap.size + 1, 0, none⟩ = some (.int .i64 0) := (HRES.out.more (((HMm.out.trans HM8.out).trans HM3.out).trans HM6.out)).cell rfl;have t1 : w6.cell? ⟨w.heap.size + 1, 1, none⟩ = some (.int .i64 0) := (HRES.out.more (((HMm.out.trans HM8.out).trans HM3.out).trans HM6.out)).cell rfl;have u0 : w6.frozen? ⟨w.heap.size + 1, 0, none⟩ = false := (HRES.out.more (((HMm.out.trans HM8.out).trans HM3.out).trans HM6.out)).frozen 0;have u1 : w6.frozen? ⟨w.heap.size + 1, 1, none⟩ = false := (HRES.out.more (((HMm.out.trans HM8.out).trans HM3.out).trans HM6.out)).frozen 1;go_wp2;refine bodyPost_ret (v := flt 4 k) (by simp [flt, results, Tryz.results4, go_sem, *]) rfl ?_;have hE := HP.out L HV2.out.2 _ (((HM0.out.trans (((HMm.out.trans HM8.out).trans HM3.out).trans HM6.out)).setCell (a := ⟨w.heap.size + 1, 0, none⟩) (by dsimp only; omega) (.int .i64 4)).setCell (a := ⟨w.heap.size + 1, 1, none⟩) (by dsimp only; omega) (.int .i64 k)).drew;rw [Hck.out] at hE;exact hE
          ·have hdn : decide (n < 0) = false := by simp [hn0]
           iterate 3 (refine J00 rfl (by kernel_rfl) (fun K hK => ?_); go_simp; refine hK _ _ ?_; clear hK K)
           refine J0o rfl rfl (by kernel_rfl) rfl (fun K hK => ?_); go_simp; refine hK _ _ ?_; clear hK K
           iterate 11 (refine J00 rfl (by kernel_rfl) (fun K hK => ?_); go_simp; refine hK _ _ ?_; clear hK K)
           refine J0o rfl rfl (by kernel_rfl) rfl (fun K hK => ?_); go_simp; refine hK _ _ ?_; clear hK K
           (refine J00 rfl (by kernel_rfl) (fun K hK => ?_); go_simp; refine hK _ _ ?_; clear hK K)
           by_cases hlv : lg < vb
           ·have Hbd : Hid (J1l p (p.ins k) s = true) := by show _ = _; rw [HbK.out, hdn, decide_eq_true hlv]; rfl
            have Hck : Hid (J0e p L = (4, (k : Int))) := by
             show _ = _;have hf : J0t p k s = 4 := by unfold J0t; rw [Hbd.out, Bool.or_true]; rfl
             rw [Hn2.out, hf]; rfl
            refine J04 ?_;clear x0 x1 x2 x3 x4 x5 hneX HX0;have HMz : Hid (More W0 w6.drew) := (((HMm.out.trans HM8.out).trans HM3.out).trans HM6.out).drew;have t0 : w6.cell? ⟨w.heap.size + 1, 0, none⟩ = some (.int .i64 0) := (HRES.out.more (((HMm.out.trans HM8.out).trans HM3.out).trans HM6.out)).cell rfl;have t1 : w6.cell? ⟨w.heap.size + 1, 1, none⟩ = some (.int .i64 0) := (HRES.out.more (((HMm.out.trans HM8.out).trans HM3.out).trans HM6.out)).cell rfl;have u0 : w6.frozen? ⟨w.heap.size + 1, 0, none⟩ = false := (HRES.out.more (((HMm.out.trans HM8.out).trans HM3.out).trans HM6.out)).frozen 0;have u1 : w6.frozen? ⟨w.heap.size + 1, 1, none⟩ = false := (HRES.out.more (((HMm.out.trans HM8.out).trans HM3.out).trans HM6.out)).frozen 1;go_wp2;refine bodyPost_ret (v := flt 4 k) (by simp [flt, results, Tryz.results4, go_sem, *]) rfl ?_;have hE := HP.out L HV2.out.2 _ (((HM0.out.trans (((HMm.out.trans HM8.out).trans HM3.out).trans HM6.out)).setCell (a := ⟨w.heap.size + 1, 0, none⟩) (by dsimp only; omega) (.int .i64 4)).setCell (a := ⟨w.heap.size + 1, 1, none⟩) (by dsimp only; omega) (.int .i64 k)).drew;rw [Hck.out] at hE;exact hE
           ·have hdl : decide (lg < vb) = false := by simp [hlv]
            have Hno : Hid ((outK p k || J1l p (p.ins k) s) = false) := by show _ = _; rw [<- HO.out, HbK.out, hdn, hdl]; rfl
            refine J04 ?_;clear x0 x1 x2 x3 x4 x5 hneX HX0;have HMd : Hid (More w3 w6.drew) := HM6.out.drew;obtain ⟨w7, Hw7⟩ : ∃ w7 : World, Hid (w7 = w6.drew) := ⟨_, rfl⟩;have HMe : Hid (More w3 w7) := Hw7.out ▸ HMd.out;rw [<- Hw7.out];have HMx : Hid (More wm w7) := (HM8.out.trans HM3.out).trans HMe.out;have HBx : Hid (Blk w7 wm.heap.size #[.int .i64 _, .int .i64 a, .int .i64 b, .int .i64 ic, .int .i64 n] 53) := (HB8.out.more HM3.out).more HMe.out;obtain ⟨U, HU⟩ : ∃ U : World -> Prop, Hid (∀ w', U w' ↔ More w7 w') := ⟨_, fun _ => Iff.rfl⟩;have HU0 : U w7.drew := (HU.out _).2 (More.refl _).drew;have hneU : Nonempty { w' // U w' } := ⟨⟨_, HU0⟩⟩;have g0 : ∀ i : { w' // U w' }, i.val.cell? ⟨w.heap.size, 0, none⟩ = some (.slice (some ⟨rb, ro, none⟩) p.rl rc) := fun i => (HMx.out.trans ((HU.out _).1 i.property)).cell p0
            have g1 : ∀ i : { w' // U w' }, i.val.cell? ⟨w.heap.size, 1, none⟩ = some (.slice (some ⟨cb, co, none⟩) cl cc) := fun i => (HMx.out.trans ((HU.out _).1 i.property)).cell p1
            have g2 : ∀ i : { w' // U w' }, i.val.cell? ⟨lb, k * 2 + 1, none⟩ = some (.slice (some ⟨gs, 0, none⟩) 8 cs) := fun i => (HMx.out.trans ((HU.out _).1 i.property)).cell c1
            have g3 : ∀ i : { w' // U w' }, i.val.cell? ⟨wm.heap.size, 0, none⟩ = some (.int .i64 _) := fun i => (HBx.out.more ((HU.out _).1 i.property)).cell rfl
            have g4 : ∀ i : { w' // U w' }, i.val.cell? ⟨wm.heap.size, 1, none⟩ = some (.int .i64 a) := fun i => (HBx.out.more ((HU.out _).1 i.property)).cell rfl
            have g5 : ∀ i : { w' // U w' }, i.val.cell? ⟨wm.heap.size, 2, none⟩ = some (.int .i64 b) := fun i => (HBx.out.more ((HU.out _).1 i.property)).cell rfl
            have g6 : ∀ i : { w' // U w' }, i.val.cell? ⟨wm.heap.size, 3, none⟩ = some (.int .i64 ic) := fun i => (HBx.out.more ((HU.out _).1 i.property)).cell rfl
            have g7 : ∀ i : { w' // U w' }, i.val.cell? ⟨wm.heap.size, 4, none⟩ = some (.int .i64 n) := fun i => (HBx.out.more ((HU.out _).1 i.property)).cell rfl
            go_wp2_with (fail)
            refine J01 (S := U) [(0, true), (1, true), (2, true), (3, true), (4, true), (5, true), (6, true), (7, false)] (by kernel_rfl) (by kernel_rfl) (by kernel_rfl) HU0 ?_
            iterate 7 (refine J00 rfl (by kernel_rfl) (fun K hK => ?_); go_simp; refine hK _ _ ?_; clear hK K)
            refine J02 rfl (by kernel_rfl) (fun K hK => ?_); go_simp;refine (Csec.out _ (HMx.out.drew)).mono ?_;rintro e w9 ⟨rfl, m9⟩;have HM9 : Hid (More w7 w9) := (More.refl _).drew.trans m9;have HU9 : U w9 := (HU.out _).2 HM9.out;clear m9;cases sc with
            | true =>
             have Hck : Hid (J0e p L = (5, (k : Int))) := by
              show _ = _;have hf : J0t p k s = 5 := by unfold J0t; rw [Hno.out, Hsc2.out]; rfl
              rw [Hn2.out, hf]; rfl
             go_simp
             refine hK _ _ HU9 ?_; clear hK K;refine J04 ?_;clear g0 g1 g2 g3 g4 g5 g6 g7 hneU HU0 HU9;have t0 := (HRES.out.more ((HMm.out.trans HMx.out).trans HM9.out)).cell (j := 0) (v := .int .i64 0) rfl;have t1 := (HRES.out.more ((HMm.out.trans HMx.out).trans HM9.out)).cell (j := 1) (v := .int .i64 0) rfl;have u0 := (HRES.out.more ((HMm.out.trans HMx.out).trans HM9.out)).frozen 0;have u1 := (HRES.out.more ((HMm.out.trans HMx.out).trans HM9.out)).frozen 1;go_wp2;refine bodyPost_ret (v := flt 5 k) (by simp [flt, results, Tryz.results4, go_sem, *]) rfl ?_;have hE := HP.out L HV2.out.2 _ (((HM0.out.trans ((HMm.out.trans HMx.out).trans HM9.out)).setCell (a := ⟨w.heap.size + 1, 0, none⟩) (by dsimp only; omega) (.int .i64 5)).setCell (a := ⟨w.heap.size + 1, 1, none⟩) (by dsimp only; omega) (.int .i64 k));rw [Hck.out] at hE;exact hE
            | false =>
             have Hck : Hid (J0e p L = scanK p L g (k + 1)) := by
              show _ = _;have hf : J0t p k s = 0 := by unfold J0t; rw [Hno.out, Hsc2.out]; rfl
              rw [Hn2.out, if_pos hf]
             go_simp
             refine hK _ _ HU9 ?_; clear hK K;refine J04 ?_;clear g0 g1 g2 g3 g4 g5 g6 g7 hneU HU0 HU9;go_wp2;go_roundg g
             case measure => omega
             case rel => exact ⟨k + 1, by omega, by first | rfl | simp, (HMw.out.trans HMx.out).trans HM9.out, Hck.out⟩
        ·-- the new block, then the call
         refine J08 rfl (by kernel_rfl) (fun K hK => ?_); go_simp;refine hK _ _ ((HT.out _).2 ((More.refl _).drew.alloc _ _)) ?_; clear hK K;refine J12 11 (by kernel_rfl) ?_;refine J08 rfl (by kernel_rfl) (fun K hK => ?_); go_simp;refine (Cix.out _).mono ?_;rintro e w5 ⟨rfl, m5⟩;have M5 : Hid (More w3 w5) := ((More.refl _).drew.alloc _ _).trans m5;have HB5 : Hid (Blk w5 w3.heap.size #[.int .i64 0, .bool false] 59) := (Blk.last w3.drew _ _).more m5;clear m5
         go_simp
         refine hK _ _ ((HT.out _).2 M5.out) ?_; clear hK K;refine J12 13 (by kernel_rfl) ?_;have y0 := HB5.out.cell (j := 0) (v := .int .i64 0) rfl;have y1 := HB5.out.cell (j := 1) (v := .bool false) rfl;have y2 := HB5.out.frozen 0;have y3 := HB5.out.frozen 1;refine J08 rfl (by kernel_rfl) (fun K hK => ?_); go_simp;obtain ⟨w6, Hw6⟩ : ∃ w6 : World, Hid (w6 = (w5.setCell ⟨w3.heap.size, 0, none⟩ (.int .i64 vb)).setCell ⟨w3.heap.size, 1, none⟩ (.bool vs)) := ⟨_, rfl⟩;have HM6 : Hid (More w3 w6) := Hw6.out ▸ (M5.out.setCell (Nat.le_refl _) _).setCell (Nat.le_refl _) _;obtain ⟨bx, Hbx⟩ : ∃ bx, Hid (bx = w3.heap.size) := ⟨_, rfl⟩
         have HB6 : Hid (Blk w6 bx #[.int .i64 vb, .bool vs] 59) := by
          show Blk _ _ _ _;rw [Hw6.out, Hbx.out];have h1 := HB5.out;unfold Blk at h1 |-;simp [World.setCell, Array.getElem?_modify, h1]
         rw [<- Hw6.out];simp only [<- Hbx.out];clear y0 y1 y2 y3;refine hK _ _ ((HT.out _).2 HM6.out) ?_; clear hK K;refine J42 (by kernel_rfl) ?_;clear k0 k1 k2 k3 k4 k5 k6 k7 hneT HT0;have HMy : Hid (More wm w6) := (HM8.out.trans HM3.out).trans HM6.out;have HBi : Hid (Blk w6 wm.heap.size #[.int .i64 _, .int .i64 a, .int .i64 b, .int .i64 ic, .int .i64 n] 53) := HB3.out.more HM6.out;obtain ⟨X, HX⟩ : ∃ X : World -> Prop, Hid (∀ w', X w' ↔ More w6 w') := ⟨_, fun _ => Iff.rfl⟩;have HX0 : X w6.drew := (HX.out _).2 (More.refl _).drew;have hneX : Nonempty { w' // X w' } := ⟨⟨_, HX0⟩⟩;have x0 : ∀ i : { w' // X w' }, i.val.cell? ⟨bx, 0, none⟩ = some (.int .i64 vb) := fun i => (HB6.out.more ((HX.out _).1 i.property)).cell rfl
         have x1 : ∀ i : { w' // X w' }, i.val.cell? ⟨wm.heap.size, 4, none⟩ = some (.int .i64 n) := fun i => (HBi.out.more ((HX.out _).1 i.property)).cell rfl
         have x2 : ∀ i : { w' // X w' }, i.val.cell? ⟨wm.heap.size, 3, none⟩ = some (.int .i64 ic) := fun i => (HBi.out.more ((HX.out _).1 i.property)).cell rfl
         have x3 : ∀ i : { w' // X w' }, i.val.cell? ⟨w.heap.size, 0, none⟩ = some (.slice (some ⟨rb, ro, none⟩) p.rl rc) := fun i => (HMy.out.trans ((HX.out _).1 i.property)).cell p0
         have x4 : ∀ i : { w' // X w' }, i.val.cell? ⟨rb, ro + ic.toNat * 2, none⟩ = some (.int .i64 lg) := fun i => Hlg.out _ (HMy.out.trans ((HX.out _).1 i.property))
         have x5 : True := trivial;go_wp2_with (fail)
         refine J01 (S := X) [(0, true), (1, true), (2, true), (3, true), (4, true), (5, true), (6, true), (7, true), (8, true), (9, true), (10, true), (11, true), (12, true), (13, true), (14, true), (15, true), (16, true), (17, true), (18, true)] (by kernel_rfl) (by kernel_rfl) (by kernel_rfl) HX0 ?_
         iterate 2 (refine J00 rfl (by kernel_rfl) (fun K hK => ?_); go_simp; refine hK _ _ ?_; clear hK K)
         cases bb with
         | true =>
          iterate 3 (refine J2e rfl HX0 (by kernel_rfl) (fun K hK => ?_); go_simp; refine hK _ _ ?_; clear hK K)
          refine J0s rfl rfl (by kernel_rfl) rfl (fun K hK => ?_); go_simp; refine hK _ _ ?_; clear hK K
          (refine J00 rfl (by kernel_rfl) (fun K hK => ?_); go_simp; refine hK _ _ ?_; clear hK K)
          iterate 10 (refine J2e rfl HX0 (by kernel_rfl) (fun K hK => ?_); go_simp; refine hK _ _ ?_; clear hK K)
          refine J0s rfl rfl (by kernel_rfl) rfl (fun K hK => ?_); go_simp; refine hK _ _ ?_; clear hK K
          (refine J00 rfl (by kernel_rfl) (fun K hK => ?_); go_simp; refine hK _ _ ?_; clear hK K)
          have Hck : Hid (J0e p L = (4, (k : Int))) := by
           show _ = _;have hf : J0t p k s = 4 := by unfold J0t; rw [<- HO.out]; rfl
           rw [Hn2.out, hf]; rfl
          refine J04 ?_;clear x0 x1 x2 x3 x4 x5 hneX HX0;have HMz : Hid (More W0 w6.drew) := (((HMm.out.trans HM8.out).trans HM3.out).trans HM6.out).drew;have t0 : w6.cell? ⟨w.heap.size + 1, 0, none⟩ = some (.int .i64 0) := (HRES.out.more (((HMm.out.trans HM8.out).trans HM3.out).trans HM6.out)).cell rfl;have t1 : w6.cell? ⟨w.heap.size + 1, 1, none⟩ = some (.int .i64 0) := (HRES.out.more (((HMm.out.trans HM8.out).trans HM3.out).trans HM6.out)).cell rfl;have u0 : w6.frozen? ⟨w.heap.size + 1, 0, none⟩ = false := (HRES.out.more (((HMm.out.trans HM8.out).trans HM3.out).trans HM6.out)).frozen 0;have u1 : w6.frozen? ⟨w.heap.size + 1, 1, none⟩ = false := (HRES.out.more (((HMm.out.trans HM8.out).trans HM3.out).trans HM6.out)).frozen 1;go_wp2;refine bodyPost_ret (v := flt 4 k) (by simp [flt, results, Tryz.results4, go_sem, *]) rfl ?_;have hE := HP.out L HV2.out.2 _ (((HM0.out.trans (((HMm.out.trans HM8.out).trans HM3.out).trans HM6.out)).setCell (a := ⟨w.heap.size + 1, 0, none⟩) (by dsimp only; omega) (.int .i64 4)).setCell (a := ⟨w.heap.size + 1, 1, none⟩) (by dsimp only; omega) (.int .i64 k)).drew;rw [Hck.out] at hE;exact hE
         | false =>
          by_cases hn0 : n < 0
          ·have hdn : decide (n < 0) = true := by simp [hn0]
           have Hbd : Hid (J1l p (p.ins k) s = true) := by show _ = _; rw [HbK.out, hdn]; rfl
           iterate 3 (refine J00 rfl (by kernel_rfl) (fun K hK => ?_); go_simp; refine hK _ _ ?_; clear hK K)
           refine J0o rfl rfl (by kernel_rfl) rfl (fun K hK => ?_); go_simp; refine hK _ _ ?_; clear hK K
           (refine J00 rfl (by kernel_rfl) (fun K hK => ?_); go_simp; refine hK _ _ ?_; clear hK K)
           iterate 10 (refine J2e rfl HX0 (by kernel_rfl) (fun K hK => ?_); go_simp; refine hK _ _ ?_; clear hK K)
           refine J0s rfl rfl (by kernel_rfl) rfl (fun K hK => ?_); go_simp; refine hK _ _ ?_; clear hK K
           (refine J00 rfl (by kernel_rfl) (fun K hK => ?_); go_simp; refine hK _ _ ?_; clear hK K)
           have Hck : Hid (J0e p L = (4, (k : Int))) := by
            show _ = _;have hf : J0t p k s = 4 := by unfold J0t; rw [Hbd.out, Bool.or_true]; rfl
            rw [Hn2.out, hf]; rfl
           refine J04 ?_;clear x0 x1 x2 x3 x4 x5 hneX HX0;have HMz : Hid (More W0 w6.drew) := (((HMm.out.trans HM8.out).trans HM3.out).trans HM6.out).drew;have t0 : w6.cell? ⟨w.heap.size + 1, 0, none⟩ = some (.int .i64 0) := (HRES.out.more (((HMm.out.trans HM8.out).trans HM3.out).trans HM6.out)).cell rfl;have t1 : w6.cell? ⟨w.heap.size + 1, 1, none⟩ = some (.int .i64 0) := (HRES.out.more (((HMm.out.trans HM8.out).trans HM3.out).trans HM6.out)).cell rfl;have u0 : w6.frozen? ⟨w.heap.size + 1, 0, none⟩ = false := (HRES.out.more (((HMm.out.trans HM8.out).trans HM3.out).trans HM6.out)).frozen 0;have u1 : w6.frozen? ⟨w.heap.size + 1, 1, none⟩ = false := (HRES.out.more (((HMm.out.trans HM8.out).trans HM3.out).trans HM6.out)).frozen 1;go_wp2;refine bodyPost_ret (v := flt 4 k) (by simp [flt, results, Tryz.results4, go_sem, *]) rfl ?_;have hE := HP.out L HV2.out.2 _ (((HM0.out.trans (((HMm.out.trans HM8.out).trans HM3.out).trans HM6.out)).setCell (a := ⟨w.heap.size + 1, 0, none⟩) (by dsimp only; omega) (.int .i64 4)).setCell (a := ⟨w.heap.size + 1, 1, none⟩) (by dsimp only; omega) (.int .i64 k)).drew;rw [Hck.out] at hE;exact hE
          ·have hdn : decide (n < 0) = false := by simp [hn0]
           iterate 3 (refine J00 rfl (by kernel_rfl) (fun K hK => ?_); go_simp; refine hK _ _ ?_; clear hK K)
           refine J0o rfl rfl (by kernel_rfl) rfl (fun K hK => ?_); go_simp; refine hK _ _ ?_; clear hK K
           iterate 11 (refine J00 rfl (by kernel_rfl) (fun K hK => ?_); go_simp; refine hK _ _ ?_; clear hK K)
           refine J0o rfl rfl (by kernel_rfl) rfl (fun K hK => ?_); go_simp; refine hK _ _ ?_; clear hK K
           (refine J00 rfl (by kernel_rfl) (fun K hK => ?_); go_simp; refine hK _ _ ?_; clear hK K)
           by_cases hlv : lg < vb
           ·have Hbd : Hid (J1l p (p.ins k) s = true) := by show _ = _; rw [HbK.out, hdn, decide_eq_true hlv]; rfl
            have Hck : Hid (J0e p L = (4, (k : Int))) := by
             show _ = _;have hf : J0t p k s = 4 := by unfold J0t; rw [Hbd.out, Bool.or_true]; rfl
             rw [Hn2.out, hf]; rfl
            refine J04 ?_;clear x0 x1 x2 x3 x4 x5 hneX HX0;have HMz : Hid (More W0 w6.drew) := (((HMm.out.trans HM8.out).trans HM3.out).trans HM6.out).drew;have t0 : w6.cell? ⟨w.heap.size + 1, 0, none⟩ = some (.int .i64 0) := (HRES.out.more (((HMm.out.trans HM8.out).trans HM3.out).trans HM6.out)).cell rfl;have t1 : w6.cell? ⟨w.heap.size + 1, 1, none⟩ = some (.int .i64 0) := (HRES.out.more (((HMm.out.trans HM8.out).trans HM3.out).trans HM6.out)).cell rfl;have u0 : w6.frozen? ⟨w.heap.size + 1, 0, none⟩ = false := (HRES.out.more (((HMm.out.trans HM8.out).trans HM3.out).trans HM6.out)).frozen 0;have u1 : w6.frozen? ⟨w.heap.size + 1, 1, none⟩ = false := (HRES.out.more (((HMm.out.trans HM8.out).trans HM3.out).trans HM6.out)).frozen 1;go_wp2;refine bodyPost_ret (v := flt 4 k) (by simp [flt, results, Tryz.results4, go_sem, *]) rfl ?_;have hE := HP.out L HV2.out.2 _ (((HM0.out.trans (((HMm.out.trans HM8.out).trans HM3.out).trans HM6.out)).setCell (a := ⟨w.heap.size + 1, 0, none⟩) (by dsimp only; omega) (.int .i64 4)).setCell (a := ⟨w.heap.size + 1, 1, none⟩) (by dsimp only; omega) (.int .i64 k)).drew;rw [Hck.out] at hE;exact hE
           ·have hdl : decide (lg < vb) = false := by simp [hlv]
            have Hno : Hid ((outK p k || J1l p (p.ins k) s) = false) := by show _ = _; rw [<- HO.out, HbK.out, hdn, hdl]; rfl
            refine J04 ?_;clear x0 x1 x2 x3 x4 x5 hneX HX0;have HMd : Hid (More w3 w6.drew) := HM6.out.drew;obtain ⟨w7, Hw7⟩ : ∃ w7 : World, Hid (w7 = w6.drew) := ⟨_, rfl⟩;have HMe : Hid (More w3 w7) := Hw7.out ▸ HMd.out;rw [<- Hw7.out];have HMx : Hid (More wm w7) := (HM8.out.trans HM3.out).trans HMe.out;have HBx : Hid (Blk w7 wm.heap.size #[.int .i64 _, .int .i64 a, .int .i64 b, .int .i64 ic, .int .i64 n] 53) := (HB8.out.more HM3.out).more HMe.out;obtain ⟨U, HU⟩ : ∃ U : World -> Prop, Hid (∀ w', U w' ↔ More w7 w') := ⟨_, fun _ => Iff.rfl⟩;have HU0 : U w7.drew := (HU.out _).2 (More.refl _).drew;have hneU : Nonempty { w' // U w' } := ⟨⟨_, HU0⟩⟩;have g0 : ∀ i : { w' // U w' }, i.val.cell? ⟨w.heap.size, 0, none⟩ = some (.slice (some ⟨rb, ro, none⟩) p.rl rc) := fun i => (HMx.out.trans ((HU.out _).1 i.property)).cell p0
            have g1 : ∀ i : { w' // U w' }, i.val.cell? ⟨w.heap.size, 1, none⟩ = some (.slice (some ⟨cb, co, none⟩) cl cc) := fun i => (HMx.out.trans ((HU.out _).1 i.property)).cell p1
            have g2 : ∀ i : { w' // U w' }, i.val.cell? ⟨lb, k * 2 + 1, none⟩ = some (.slice (some ⟨gs, 0, none⟩) 8 cs) := fun i => (HMx.out.trans ((HU.out _).1 i.property)).cell c1
            have g3 : ∀ i : { w' // U w' }, i.val.cell? ⟨wm.heap.size, 0, none⟩ = some (.int .i64 _) := fun i => (HBx.out.more ((HU.out _).1 i.property)).cell rfl
            have g4 : ∀ i : { w' // U w' }, i.val.cell? ⟨wm.heap.size, 1, none⟩ = some (.int .i64 a) := fun i => (HBx.out.more ((HU.out _).1 i.property)).cell rfl
            have g5 : ∀ i : { w' // U w' }, i.val.cell? ⟨wm.heap.size, 2, none⟩ = some (.int .i64 b) := fun i => (HBx.out.more ((HU.out _).1 i.property)).cell rfl
            have g6 : ∀ i : { w' // U w' }, i.val.cell? ⟨wm.heap.size, 3, none⟩ = some (.int .i64 ic) := fun i => (HBx.out.more ((HU.out _).1 i.property)).cell rfl
            have g7 : ∀ i : { w' // U w' }, i.val.cell? ⟨wm.heap.size, 4, none⟩ = some (.int .i64 n) := fun i => (HBx.out.more ((HU.out _).1 i.property)).cell rfl
            go_wp2_with (fail)
            refine J01 (S := U) [(0, true), (1, true), (2, true), (3, true), (4, true), (5, true), (6, true), (7, false)] (by kernel_rfl) (by kernel_rfl) (by kernel_rfl) HU0 ?_
            iterate 7 (refine J00 rfl (by kernel_rfl) (fun K hK => ?_); go_simp; refine hK _ _ ?_; clear hK K)
            refine J02 rfl (by kernel_rfl) (fun K hK => ?_); go_simp;refine (Csec.out _ (HMx.out.drew)).mono ?_;rintro e w9 ⟨rfl, m9⟩;have HM9 : Hid (More w7 w9) := (More.refl _).drew.trans m9;have HU9 : U w9 := (HU.out _).2 HM9.out;clear m9;cases sc with
            | true =>
             have Hck : Hid (J0e p L = (5, (k : Int))) := by
              show _ = _;have hf : J0t p k s = 5 := by unfold J0t; rw [Hno.out, Hsc2.out]; rfl
              rw [Hn2.out, hf]; rfl
             go_simp
             refine hK _ _ HU9 ?_; clear hK K;refine J04 ?_;clear g0 g1 g2 g3 g4 g5 g6 g7 hneU HU0 HU9;have t0 := (HRES.out.more ((HMm.out.trans HMx.out).trans HM9.out)).cell (j := 0) (v := .int .i64 0) rfl;have t1 := (HRES.out.more ((HMm.out.trans HMx.out).trans HM9.out)).cell (j := 1) (v := .int .i64 0) rfl;have u0 := (HRES.out.more ((HMm.out.trans HMx.out).trans HM9.out)).frozen 0;have u1 := (HRES.out.more ((HMm.out.trans HMx.out).trans HM9.out)).frozen 1;go_wp2;refine bodyPost_ret (v := flt 5 k) (by simp [flt, results, Tryz.results4, go_sem, *]) rfl ?_;have hE := HP.out L HV2.out.2 _ (((HM0.out.trans ((HMm.out.trans HMx.out).trans HM9.out)).setCell (a := ⟨w.heap.size + 1, 0, none⟩) (by dsimp only; omega) (.int .i64 5)).setCell (a := ⟨w.heap.size + 1, 1, none⟩) (by dsimp only; omega) (.int .i64 k));rw [Hck.out] at hE;exact hE
            | false =>
             have Hck : Hid (J0e p L = scanK p L g (k + 1)) := by
              show _ = _;have hf : J0t p k s = 0 := by unfold J0t; rw [Hno.out, Hsc2.out]; rfl
              rw [Hn2.out, if_pos hf]
             go_simp
             refine hK _ _ HU9 ?_; clear hK K;refine J04 ?_;clear g0 g1 g2 g3 g4 g5 g6 g7 hneU HU0 HU9;go_wp2;go_roundg g
             case measure => omega
             case rel => exact ⟨k + 1, by omega, by first | rfl | simp, (HMw.out.trans HMx.out).trans HM9.out, Hck.out⟩
      ·have e3 : (op == 3) = false := by simp; omega
       have e4 : (op == 4) = false := by simp; omega
       have Hbd : Hid (J1l p (p.ins k) s = false) := by
        show _ = _;unfold J1l; rw [HI.out]; dsimp only
        simp; omega
       clear hop;cases bb with
       | true =>
        have Hck : Hid (J0e p L = (4, (k : Int))) := by
         show _ = _;have hf : J0t p k s = 4 := by unfold J0t; rw [<- HO.out]; rfl
         rw [Hn2.out, hf]; rfl
        have t0 := (HRES.out.more ((HMm.out.trans HM8.out).trans HM3.out)).cell (j := 0) (v := .int .i64 0) rfl;have t1 := (HRES.out.more ((HMm.out.trans HM8.out).trans HM3.out)).cell (j := 1) (v := .int .i64 0) rfl;have u0 := (HRES.out.more ((HMm.out.trans HM8.out).trans HM3.out)).frozen 0;have u1 := (HRES.out.more ((HMm.out.trans HM8.out).trans HM3.out)).frozen 1;go_wp2;refine bodyPost_ret (v := flt 4 k) (by simp [flt, results, Tryz.results4, go_sem, *]) rfl ?_;have hE := HP.out L HV2.out.2 _ (((HM0.out.trans ((HMm.out.trans HM8.out).trans HM3.out)).setCell (a := ⟨w.heap.size + 1, 0, none⟩) (by dsimp only; omega) (.int .i64 4)).setCell (a := ⟨w.heap.size + 1, 1, none⟩) (by dsimp only; omega) (.int .i64 k));rw [Hck.out] at hE;exact hE
       | false =>
        have Hno : Hid ((outK p k || J1l p (p.ins k) s) = false) := by show _ = _; rw [<- HO.out, Hbd.out]; rfl
        have HMx : Hid (More wm w3) := (HM8.out.trans HM3.out).trans Hrf.out;have HBx : Hid (Blk w3 wm.heap.size #[.int .i64 op, .int .i64 a, .int .i64 b, .int .i64 ic, .int .i64 n] 53) := (HB8.out.more HM3.out).more Hrf.out;obtain ⟨U, HU⟩ : ∃ U : World -> Prop, Hid (∀ w', U w' ↔ More w3 w') := ⟨_, fun _ => Iff.rfl⟩;have HU0 : U w3.drew := (HU.out _).2 (More.refl _).drew;have hneU : Nonempty { w' // U w' } := ⟨⟨_, HU0⟩⟩;have g0 : ∀ i : { w' // U w' }, i.val.cell? ⟨w.heap.size, 0, none⟩ = some (.slice ra p.rl rc) := fun i => (HMx.out.trans ((HU.out _).1 i.property)).cell p0
        have g1 : ∀ i : { w' // U w' }, i.val.cell? ⟨w.heap.size, 1, none⟩ = some (.slice (some ⟨cb, co, none⟩) cl cc) := fun i => (HMx.out.trans ((HU.out _).1 i.property)).cell p1
        have g2 : ∀ i : { w' // U w' }, i.val.cell? ⟨lb, k * 2 + 1, none⟩ = some (.slice (some ⟨gs, 0, none⟩) 8 cs) := fun i => (HMx.out.trans ((HU.out _).1 i.property)).cell c1
        have g3 : ∀ i : { w' // U w' }, i.val.cell? ⟨wm.heap.size, 0, none⟩ = some (.int .i64 op) := fun i => (HBx.out.more ((HU.out _).1 i.property)).cell rfl
        have g4 : ∀ i : { w' // U w' }, i.val.cell? ⟨wm.heap.size, 1, none⟩ = some (.int .i64 a) := fun i => (HBx.out.more ((HU.out _).1 i.property)).cell rfl
        have g5 : ∀ i : { w' // U w' }, i.val.cell? ⟨wm.heap.size, 2, none⟩ = some (.int .i64 b) := fun i => (HBx.out.more ((HU.out _).1 i.property)).cell rfl
        have g6 : ∀ i : { w' // U w' }, i.val.cell? ⟨wm.heap.size, 3, none⟩ = some (.int .i64 ic) := fun i => (HBx.out.more ((HU.out _).1 i.property)).cell rfl
        have g7 : ∀ i : { w' // U w' }, i.val.cell? ⟨wm.heap.size, 4, none⟩ = some (.int .i64 n) := fun i => (HBx.out.more ((HU.out _).1 i.property)).cell rfl
        go_wp2_with (fail)
        refine J01 (S := U) [(0, true), (1, true), (2, true), (3, true), (4, true), (5, true), (6, true), (7, false)] (by kernel_rfl) (by kernel_rfl) (by kernel_rfl) HU0 ?_
        iterate 7 (refine J00 rfl (by kernel_rfl) (fun K hK => ?_); go_simp; refine hK _ _ ?_; clear hK K)
        refine J02 rfl (by kernel_rfl) (fun K hK => ?_); go_simp;refine (Csec.out _ (HMx.out.drew)).mono ?_;rintro e w9 ⟨rfl, m9⟩;have HM9 : Hid (More w3 w9) := (More.refl _).drew.trans m9;have HU9 : U w9 := (HU.out _).2 HM9.out;clear m9;cases sc with
        | true =>
         have Hck : Hid (J0e p L = (5, (k : Int))) := by
          show _ = _;have hf : J0t p k s = 5 := by unfold J0t; rw [Hno.out, Hsc2.out]; rfl
          rw [Hn2.out, hf]; rfl
         go_simp
         refine hK _ _ HU9 ?_; clear hK K;refine J04 ?_;clear g0 g1 g2 g3 g4 g5 g6 g7 hneU HU0 HU9;have t0 := (HRES.out.more ((HMm.out.trans HMx.out).trans HM9.out)).cell (j := 0) (v := .int .i64 0) rfl;have t1 := (HRES.out.more ((HMm.out.trans HMx.out).trans HM9.out)).cell (j := 1) (v := .int .i64 0) rfl;have u0 := (HRES.out.more ((HMm.out.trans HMx.out).trans HM9.out)).frozen 0;have u1 := (HRES.out.more ((HMm.out.trans HMx.out).trans HM9.out)).frozen 1;go_wp2;refine bodyPost_ret (v := flt 5 k) (by simp [flt, results, Tryz.results4, go_sem, *]) rfl ?_;have hE := HP.out L HV2.out.2 _ (((HM0.out.trans ((HMm.out.trans HMx.out).trans HM9.out)).setCell (a := ⟨w.heap.size + 1, 0, none⟩) (by dsimp only; omega) (.int .i64 5)).setCell (a := ⟨w.heap.size + 1, 1, none⟩) (by dsimp only; omega) (.int .i64 k));rw [Hck.out] at hE;exact hE
        | false =>
         have Hck : Hid (J0e p L = scanK p L g (k + 1)) := by
          show _ = _;have hf : J0t p k s = 0 := by unfold J0t; rw [Hno.out, Hsc2.out]; rfl
          rw [Hn2.out, if_pos hf]
         go_simp
         refine hK _ _ HU9 ?_; clear hK K;refine J04 ?_;clear g0 g1 g2 g3 g4 g5 g6 g7 hneU HU0 HU9;go_wp2;go_roundg g
         case measure => omega
         case rel => exact ⟨k + 1, by omega, by first | rfl | simp, (HMw.out.trans HMx.out).trans HM9.out, Hck.out⟩
end
section
open Go.RowKit
theorem Jhq (u v : Value) (l : List Se) (w : World) (hu : SeenAt w u l) (hv : SeenAt w v l) :
  Calls Tryz.prog 27 #[u, v] w fun e w' => e = .returned (.bool true) /\ More w w' := by
 obtain ⟨a, b, o, c, rfl, ha, h1, hb⟩ := hu;obtain ⟨a', b', o', c', rfl, ha', h1', _⟩ := hv;obtain ⟨n, hn⟩ : ∃ n, l.length = n := ⟨_, rfl⟩
 have H : Hid ((0 < n -> a = some ⟨b, o, none⟩) /\ SeesAt w b o l /\ (0 < n -> a' = some ⟨b', o', none⟩) /\ SeesAt w b' o' l /\ n < 4611686018427387904 /\ l.length = n) := by
  subst hn; exact ⟨ha, h1, ha', h1', hb, rfl⟩
 rw [hn];clear ha h1 ha' h1' hb hn;go_enter Tryz.func27, Tryz.ntmps27;go_wp2;go_loopg [5] n (fun q i wr => ∃ k : Nat, k + q = n /\ i = .int .i64 k /\ More w wr)
 case atStart => exact ⟨0, by omega, rfl, More.refl _⟩
 case round =>
  obtain ⟨k, hkg, rfl, m⟩ := hrel;have Hm : Hid (More w wr) := m;clear m;cases gk with
  | zero =>
   obtain rfl : k = n := by omega
   go_wp2;go_ret;exact ⟨rfl, Hm.out⟩
  | succ q =>
   have hk : k < n := by omega
   have hk' : (k : Int) < (n : Int) := by omega
   have hk0 : (0 : Int) <= (k : Int) := by omega
   obtain rfl := H.out.1 (by omega);obtain rfl := H.out.2.2.1 (by omega);obtain ⟨s, Hs⟩ : ∃ s, Hid (l[k]? = some s) := ⟨_, List.getElem?_eq_getElem (by have := H.out.2.2.2.2.2; omega)⟩;have q1 := (H.out.2.1.more Hm.out) k s Hs.out;have q2 := (H.out.2.2.2.1.more Hm.out) k s Hs.out;obtain ⟨x, y, z⟩ := s;obtain ⟨S, HS⟩ : ∃ S : World -> Prop, Hid (∀ w', S w' ↔ More wr w') := ⟨fun w' => More wr w', fun _ => Iff.rfl⟩;have k0 : ∀ i : { w' // S w' }, i.val.cell? ⟨b, o + k * 3, none⟩ = some (.int .i64 x) := fun i => ((HS.out _).1 i.property).cell q1.1
   have k1 : ∀ i : { w' // S w' }, i.val.cell? ⟨b, o + k * 3 + 1, none⟩ = some (.int .i64 y) := fun i => ((HS.out _).1 i.property).cell q1.2.1
   have k2 : ∀ i : { w' // S w' }, i.val.cell? ⟨b, o + k * 3 + 2, none⟩ = some (.int .i64 z) := fun i => ((HS.out _).1 i.property).cell q1.2.2
   have d0 : ∀ i : { w' // S w' }, i.val.cell? ⟨b', o' + k * 3, none⟩ = some (.int .i64 x) := fun i => ((HS.out _).1 i.property).cell q2.1
   have d1 : ∀ i : { w' // S w' }, i.val.cell? ⟨b', o' + k * 3 + 1, none⟩ = some (.int .i64 y) := fun i => ((HS.out _).1 i.property).cell q2.2.1
   have d2 : ∀ i : { w' // S w' }, i.val.cell? ⟨b', o' + k * 3 + 2, none⟩ = some (.int .i64 z) := fun i => ((HS.out _).1 i.property).cell q2.2.2
   have hne : Nonempty { w' // S w' } := ⟨⟨wr, (HS.out _).2 (More.refl _)⟩⟩;clear q1 q2;go_wp2_with (fail)
   refine J01 (S := S) [(0, true), (1, true), (2, true), (3, true), (4, true), (5, true), (6, true), (7, true), (8, true)] (by kernel_rfl) (by kernel_rfl) (by kernel_rfl) ((HS.out _).2 (More.refl _).drew) ?_
   iterate 9 (refine J00 rfl (by kernel_rfl) (fun K hK => ?_); go_simp; refine hK _ _ ?_; clear hK K)
   refine J04 ?_;clear k0 k1 k2 d0 d1 d2 hne;go_wp2;go_roundg q
   case measure => omega
   case rel => exact ⟨k + 1, by omega, by first | rfl | (simp; unfold wrap64; have := H.out.2.2.2.2.1; omega), Hm.out.drew⟩
end
section
open Go.RowKit
set_option linter.unusedSimpArgs false
set_option linter.unusedVariables false
set_option maxRecDepth 8000
theorem Ja4 (p : Prg) (l : Loc) (w : World) (hp : PIn w p l) (hf : p.Fit) :
  Calls Tryz.prog 4 #[.agg #[.slice l.ra p.rl l.rc, .slice l.ca p.cl l.cc]] w fun e w' => ∃ f : Int × Int, Told p f /\ e = .returned (.agg #[.int .i64 f.1, .int .i64 f.2]) /\ More w w' := by
 by_cases hok : p.Ok 200 8
 ·refine (Jdj p l w hp hok (fun i hi => (hf.ins i hi).2.2.2.2) (fun w1 m1 => Jgv p l w1 (hp.more m1) hok)).mono ?_
  rintro e w' ⟨l', h1, rfl, m⟩;exact ⟨_, .inr ⟨hok, l', h1, rfl⟩, rfl, m⟩
 ·refine (Ja3 _ _ ⟨_, _, _, rfl⟩ ⟨_, _, _, rfl⟩ w (fun w2 m2 => ?_)).mono (fun e w' ⟨h1, h2⟩ => ⟨(2, 0), .inl ⟨hok, rfl⟩, h1, h2⟩)
  refine (Jeo p l _ (hp.more m2)).mono ?_;rintro e w' ⟨r, rfl, hr, m⟩;cases r with
  | false => exact ⟨rfl, m⟩
  | true => exact absurd (hr.1 rfl) hok
structure Like8 (p h : Prg) : Prop where
 ok : h.Ok 8000 10
 fit : h.Fit
 rl : p.rl = h.rl
 reg : ∀ i, i < p.rl -> p.log i = h.log i /\ p.sec i = h.sec i
theorem Like8.fits {p h : Prg} (k : Like8 p h) {ml : Nat} {len : Nat -> Nat} (hf : J1t p.rl p.log ml len) : J1t h.rl h.log ml len :=
 ⟨k.ok.1, hf.2.1.trans k.rl, fun i hi => by rw [hf.2.2 i (by rw [k.rl]; exact hi), (k.reg i (by rw [k.rl]; exact hi)).1]⟩
end
section
open Go.RowKit
set_option linter.unusedSimpArgs false
set_option linter.unusedVariables false
section
variable {p h : Prg} {st : Nat -> Nat} {X : Int} {l : KV} {m : Mem} {s t : St}

theorem Hdn.lt (S : Hdn p h st X) {k o : Nat} (hk : k < p.cl) (ho : o < sizeK p k) : st k + o < h.cl := by
 have := S.mono p.cl k hk (Nat.le_refl _);rw [S.cl]; omega

end
section
variable {p h : Prg} {st : Nat -> Nat} {X : Int}

theorem Hdn.from_ (S : Hdn p h st X) : ∀ (n : Nat), n <= p.cl -> ∀ q, q < st n -> ∃ k o, k < n /\ o < sizeK p k /\ q = st k + o
 | 0, _, q, hq => by rw [S.s0] at hq; omega
 | n + 1, hn, q, hq => by
  have e := S.next n (by omega);by_cases c : q < st n
  ·obtain ⟨k, o, h1, h2, h3⟩ := S.from_ n (by omega) q c
   exact ⟨k, o, by omega, h2, h3⟩
  ·exact ⟨n, q - st n, by omega, by omega, by omega⟩
theorem Hdn.most (S : Hdn p h st X) : ∀ (n : Nat), n <= p.cl -> n <= st n /\ st n <= 3 * n
 | 0, _ => by rw [S.s0]; omega
 | n + 1, hn => by
  have e := S.next n (by omega);have := S.most n (by omega);have := J2t p n;omega

theorem Jbj {rl : Nat} {log log' : Nat -> Int} {cl cl' : Nat} {i : Ins} (hi : InsOk rl log cl 8 i) (hl : ∀ c, c < rl -> log c = log' c) (h7 : ¬ (i.op = 7 \/ i.op = 8)) : InsOk rl log' cl' 10 i := by
 have up : ∀ x, Reg 8 x -> Reg 10 x := fun x q => by unfold Reg at *; omega
 have wd : ∀ c n, Rgn rl c -> Wrd log c n -> Wrd log' c n := fun c n q w => by
  unfold Rgn at q;unfold Wrd at *;rw [<- hl c.toNat (by omega)]; exact w
 unfold InsOk at *;by_cases q1 : i.op = 1
 ·rw [if_pos q1] at *; exact ⟨up _ hi.1, hi.2⟩
 rw [if_neg q1] at *;by_cases q2 : i.op = 2
 ·rw [if_pos q2] at *; exact ⟨up _ hi.1, up _ hi.2.1, hi.2.2⟩
 rw [if_neg q2] at *;by_cases q3 : i.op = 3
 ·rw [if_pos q3] at *; exact ⟨up _ hi.1, up _ hi.2.1, hi.2.2⟩
 rw [if_neg q3] at *;by_cases q4 : i.op = 4
 ·rw [if_pos q4] at *; exact ⟨up _ hi.1, up _ hi.2.1, hi.2.2⟩
 rw [if_neg q4] at *;by_cases q5 : i.op = 5
 ·rw [if_pos q5] at *; exact ⟨up _ hi.1, hi.2.1, hi.2.2.1, wd _ _ hi.2.2.1 hi.2.2.2⟩
 rw [if_neg q5] at *;by_cases q6 : i.op = 6
 ·rw [if_pos q6] at *; exact ⟨up _ hi.1, hi.2.1, hi.2.2.1, wd _ _ hi.2.2.1 hi.2.2.2⟩
 rw [if_neg q6, if_neg (fun q => h7 (.inl q)), if_neg (fun q => h7 (.inr q))] at *;by_cases q9 : i.op = 9
 ·rw [if_pos q9] at *; exact ⟨up _ hi.1, hi.2⟩
 rw [if_neg q9] at *;by_cases q10 : i.op = 10
 ·rw [if_pos q10] at *; exact ⟨up _ hi.1, up _ hi.2.1, hi.2.2⟩
 rw [if_neg q10] at *;by_cases q11 : i.op = 11
 ·rw [if_pos q11] at *; exact ⟨up _ hi.1, hi.2⟩
 rw [if_neg q11] at *;by_cases q12 : i.op = 12
 ·rw [if_pos q12] at *; exact hi
 rw [if_neg q12] at *;exact ⟨hi.1, up _ hi.2.1, up _ hi.2.2.1, up _ hi.2.2.2.1, hi.2.2.2.2⟩

theorem Jij (S : Hdn p h st X) (ok : p.Ok 200 8) (hf : p.Fit) (q : Nat) (hq : q < h.cl) : InsOk h.rl h.log h.cl 10 (h.ins q) /\ (h.ins q).fits := by
 rw [S.cl] at hq;obtain ⟨k, o, hk, ho, rfl⟩ := S.from_ p.cl (Nat.le_refl _) q hq;have hi := ok.2.2.2 k hk;have hfit := hf.ins k hk;unfold Ins.fits at hfit;have hX : Reg 10 X := by unfold Reg; rcases S.x with e | e <;> omega
 have iX : I64 X := by unfold I64; rcases S.x with e | e <;> omega
 have i0 : I64 0 := by unfold I64; omega
 rw [<- S.rl];have small := S.most p.cl (Nat.le_refl _);have c200 := ok.2.2.1;by_cases m : (p.ins k).op = 3 \/ (p.ins k).op = 4
 ·rw [J58 m] at ho
  obtain ⟨m0, m1, m2⟩ := S.mem k hk m;have hr : Reg 8 (p.ins k).a /\ Reg 8 (p.ins k).b /\ Rgn p.rl (p.ins k).c := by unfold InsOk at hi; rcases m with m | m <;> simpa [m] using hi
  obtain ⟨ra, rb, rc⟩ := hr;have hcr : (p.ins k).c.toNat < p.rl := by unfold Rgn at rc; omega
  have hlog := ok.1.2 _ hcr;have h64 := J1b (k := (p.log (p.ins k).c.toNat).toNat) (by omega);have ra' : Reg 10 (p.ins k).a := by unfold Reg at *; omega
  have rb' : Reg 10 (p.ins k).b := by unfold Reg at *; omega
  have hoo : o = 0 \/ o = 1 \/ o = 2 := by omega
  rcases hoo with rfl | rfl | rfl
  ·rw [Nat.add_zero, m0]
   refine ⟨?_, ⟨by unfold I64; dsimp only; omega, iX, hfit.2.2.1, i0, hfit.2.2.2.2⟩⟩;unfold InsOk
   simp
   exact ⟨hX, rb'⟩
  ·rw [m1]
   refine ⟨?_, ⟨by unfold I64; dsimp only; omega, iX, i0, i0, by unfold I64 J0c; dsimp only; omega⟩⟩;unfold InsOk
   simp
   exact ⟨hX, by unfold J0c; omega⟩
  ·rw [m2]
   refine ⟨?_, ⟨hfit.1, hfit.2.1, iX, hfit.2.2.2.1, i0⟩⟩;unfold InsOk;rcases m with m | m <;> simp [m] <;> exact ⟨ra', hX, rc⟩
 ·rw [J44 m] at ho
  obtain rfl : o = 0 := by omega
  rw [Nat.add_zero];by_cases w : (p.ins k).op = 7 \/ (p.ins k).op = 8
  ·rw [S.go k hk w]
   have hn : Plc p.cl (p.ins k).n := by unfold InsOk at hi; rcases w with w | w <;> simp [w] at hi <;> simp [hi]
   unfold Plc at hn;have hn2 : (p.ins k).n.toNat < p.cl := by omega
   have hlt := S.lt (o := 0) hn2 (J2t p _).1;rw [Nat.add_zero] at hlt;have hcl := S.cl;have hP : Plc h.cl (st (p.ins k).n.toNat : Int) := by unfold Plc; omega
   refine ⟨?_, ⟨hfit.1, hfit.2.1, hfit.2.2.1, hfit.2.2.2.1, by unfold I64; dsimp only; omega⟩⟩;unfold InsOk Reg at hi;unfold InsOk Reg;rcases w with w | w <;> simp [w] at hi <;> simp [w, hP]
   ·exact ⟨hi.1, hi.2.1, hi.2.2.1⟩
   ·omega
  ·rw [S.copy k hk m w]
   exact ⟨Jbj hi (fun c hc => (S.reg c hc).1) w, hfit⟩

theorem Jj8 (S : Hdn p h st X) (ok : p.Ok 200 8) (hf : p.Fit) : Like8 p h := by
 have small := S.most p.cl (Nat.le_refl _);have c200 := ok.2.2.1;have c1 := ok.2.1;have hcl := S.cl;refine ⟨⟨⟨by rw [<- S.rl]; exact ok.1.1, fun i hi => ?_⟩, by omega, by omega, fun q hq => (Jij S ok hf q hq).1⟩, ⟨by rw [<- S.rl]; exact hf.rl, ?_, fun i hi => ?_, fun q hq => (Jij S ok hf q hq).2⟩, S.rl, S.reg⟩
 ·rw [<- (S.reg i (by rw [S.rl]; exact hi)).1]; exact ok.1.2 i (by rw [S.rl]; exact hi)
 ·have : 600 <= maxLen := by decide
  omega
 ·rw [<- (S.reg i (by rw [S.rl]; exact hi)).1]; exact hf.log i (by rw [S.rl]; exact hi)

end
def maskL (p : Prg) (i : Ins) : List Ins :=
 if i.op = 3 \/ i.op = 4 then [⟨10, 8, i.b, 0, i.n⟩, ⟨11, 8, 0, 0, J0c (p.log i.c.toNat)⟩, ⟨i.op, i.a, 8, i.c, 0⟩] else [i]
section
variable (M : Ins -> List Ins) (g : Nat -> Ins)
def codeG : Nat -> List Ins
 | 0 => []
 | n + 1 => codeG n ++ M (g n)
def J0k (n : Nat) : Nat := (codeG M g n).length
def leadG (i : Ins) : Ins := if i.op = 7 \/ i.op = 8 then ⟨i.op, i.a, i.b, i.c, (J0k M g i.n.toNat : Int)⟩ else i
def hardG (cl q : Nat) : Ins := leadG M g ((codeG M g cl).getD q ⟨0, 0, 0, 0, 0⟩)
theorem J1o (n : Nat) : J0k M g (n + 1) = J0k M g n + (M (g n)).length := by
 unfold J0k; rw [codeG, List.length_append]
theorem Jbd : ∀ (n k o : Nat), k < n -> o < (M (g k)).length -> (codeG M g n)[J0k M g k + o]? = (M (g k))[o]?
 | 0, k, o, h, _ => absurd h (Nat.not_lt_zero _)
 | n + 1, k, o, h, ho => by
  rw [codeG];by_cases e : k = n
  ·subst e
   rw [List.getElem?_append_right (by unfold J0k; omega)]
   congr 1
   unfold J0k; omega
  ·have h2 := Jbd n k o (by omega) ho
   have hlt : J0k M g k + o < (codeG M g n).length := by
    have e1 : (M (g k))[o]? ≠ none := by
     rw [Ne, List.getElem?_eq_none_iff]; omega
    rw [<- h2] at e1;rw [Ne, List.getElem?_eq_none_iff] at e1;omega
   rw [List.getElem?_append_left hlt];exact h2
theorem J8b {cl k o : Nat} {i : Ins} (hk : k < cl) (e : (M (g k))[o]? = some i) : hardG M g cl (J0k M g k + o) = leadG M g i := by
 unfold hardG;rw [List.getD_eq_getElem?_getD, Jbd M g cl k o hk (List.getElem?_eq_some_iff.1 e).1, e]
 rfl
theorem J2p {i : Ins} (h : ¬ (i.op = 7 \/ i.op = 8)) : leadG M g i = i := by unfold leadG; rw [if_neg h]
end
abbrev codeL (p : Prg) : Nat -> List Ins := codeG (maskL p) p.ins
abbrev J0m (p : Prg) : Nat -> Nat := J0k (maskL p) p.ins
abbrev hardL (p : Prg) : Nat -> Ins := hardG (maskL p) p.ins p.cl
def hardP (p : Prg) : Prg := ⟨p.rl, p.log, p.sec, J0m p p.cl, hardL p⟩

theorem J2z (p : Prg) (n : Nat) : (maskL p (p.ins n)).length = sizeK p n := by
 unfold maskL sizeK
 split <;> rfl
theorem J2u (p : Prg) (n : Nat) : J0m p (n + 1) = J0m p n + sizeK p n := (J1o _ _ n).trans (by rw [J2z])
theorem J4v (p : Prg) : ∀ n, J0m p n <= 3 * n
 | 0 => Nat.le_refl _
 | n + 1 => by
  have := J4v p n;have := (J2t p n).2;rw [J2u]; omega
theorem J52 (p : Prg) (k o : Nat) (i : Ins) (hk : k < p.cl) (e : (maskL p (p.ins k))[o]? = some i) : hardL p (J0m p k + o) = leadG (maskL p) p.ins i := J8b _ _ hk e

theorem J6f (p : Prg) : Hdn p (hardP p) (J0m p) 8 := by
 refine ⟨.inl rfl, rfl, fun i hi => ⟨rfl, rfl⟩, rfl, fun k hk => J2u p k, rfl, fun k hk hm => ?_, fun k hk hg => ?_, fun k hk hm hg => ?_⟩
 ·have hs := J58 hm
  have e : maskL p (p.ins k) = [⟨10, 8, (p.ins k).b, 0, (p.ins k).n⟩, ⟨11, 8, 0, 0, J0c (p.log (p.ins k).c.toNat)⟩, ⟨(p.ins k).op, (p.ins k).a, 8, (p.ins k).c, 0⟩] := by unfold maskL; rw [if_pos hm]
  refine ⟨?_, ?_, ?_⟩
  ·have := J52 p k 0 _ hk (by rw [e]; rfl)
   rw [J2p _ _ (by dsimp only; omega)] at this;exact this
  ·have := J52 p k 1 _ hk (by rw [e]; rfl)
   rw [J2p _ _ (by dsimp only; omega)] at this;exact this
  ·have := J52 p k 2 _ hk (by rw [e]; rfl)
   rw [J2p _ _ (by dsimp only; omega)] at this;exact this
 ·have hs : sizeK p k = 1 := J44 (by omega)
  have e : maskL p (p.ins k) = [p.ins k] := by unfold maskL; rw [if_neg (by omega)]
  have := J52 p k 0 _ hk (by rw [e]; rfl);unfold leadG at this;rw [if_pos hg] at this;exact this
 ·have hs : sizeK p k = 1 := J44 hm
  have e : maskL p (p.ins k) = [p.ins k] := by unfold maskL; rw [if_neg hm]
  have := J52 p k 0 _ hk (by rw [e]; rfl);rw [J2p _ _ hg] at this;exact this

def flatI : List Ins -> List Value
 | [] => []
 | i :: l => .int .i64 i.op :: .int .i64 i.a :: .int .i64 i.b :: .int .i64 i.c :: .int .i64 i.n :: flatI l
theorem J2g : ∀ l : List Ins, (flatI l).length = l.length * 5
 | [] => rfl
 | s :: l => by simp [flatI, J2g l]; omega
theorem J2f : ∀ l l' : List Ins, flatI (l ++ l') = flatI l ++ flatI l'
 | [], _ => rfl
 | s :: l, l' => by simp [flatI, J2f l l']
theorem J8a : ∀ (l : List Ins) (i : Nat) (s : Ins), l[i]? = some s -> (flatI l)[i * 5]? = some (.int .i64 s.op) /\ (flatI l)[i * 5 + 1]? = some (.int .i64 s.a) /\ (flatI l)[i * 5 + 2]? = some (.int .i64 s.b) /\ (flatI l)[i * 5 + 3]? = some (.int .i64 s.c) /\ (flatI l)[i * 5 + 4]? = some (.int .i64 s.n)
 | [], i, s, h => by simp at h
 | x :: l, 0, s, h => by simp at h; subst h; simp [flatI]
 | x :: l, i + 1, s, h => by
  have := J8a l i s (by simpa using h);rw [show (i + 1) * 5 = i * 5 + 1 + 1 + 1 + 1 + 1 by omega, flatI];simpa using this
theorem J3x : ∀ (l : List Ins), ∀ u ∈ flatI l, u.oneCell' = true
 | [], u, h => by simp [flatI] at h
 | i :: l, u, h => by
  simp only [flatI, List.mem_cons] at h;rcases h with rfl | rfl | rfl | rfl | rfl | h
  ·rfl
  ·rfl
  ·rfl
  ·rfl
  ·rfl
  ·exact J3x l u h
end
section
open Go.RowKit
set_option linter.unusedVariables false
def encW (i : Ins) : Int := (((i.op * 16 + i.a) * 16 + i.b) * 16 + i.c) * 16384 + (if i.n < 0 then i.n + 16384 else i.n)
def decW (u : Int) : Ins := ⟨u / 16384 / 16 / 16 / 16, u / 16384 / 16 / 16 % 16, u / 16384 / 16 % 16, u / 16384 % 16, if 8192 <= u % 16384 then u % 16384 - 16384 else u % 16384⟩
abbrev N14 (n : Int) : Prop := -8192 <= n /\ n <= 8191
def W32 (u : Int) : Prop := 0 <= u /\ u < 4294967296
structure Small (i : Ins) : Prop where
 op : 0 <= i.op /\ i.op < 64
 a : 0 <= i.a /\ i.a < 16
 b : 0 <= i.b /\ i.b < 16
 c : 0 <= i.c /\ i.c < 16

theorem J61 {rl : Nat} {log : Nat -> Int} {cl : Nat} {i : Ins} (hrl : rl <= 6) (h : InsOk rl log cl 10 i) : Small i := by
 unfold InsOk Reg Rgn Plc Wrd at h;by_cases h1 : i.op = 1
 ·rw [if_pos h1] at h; exact ⟨by omega, by omega, by omega, by omega⟩
 rw [if_neg h1] at h;by_cases h2 : i.op = 2
 ·rw [if_pos h2] at h; exact ⟨by omega, by omega, by omega, by omega⟩
 rw [if_neg h2] at h;by_cases h3 : i.op = 3
 ·rw [if_pos h3] at h; exact ⟨by omega, by omega, by omega, by omega⟩
 rw [if_neg h3] at h;by_cases h4 : i.op = 4
 ·rw [if_pos h4] at h; exact ⟨by omega, by omega, by omega, by omega⟩
 rw [if_neg h4] at h;by_cases h5 : i.op = 5
 ·rw [if_pos h5] at h; exact ⟨by omega, by omega, by omega, by omega⟩
 rw [if_neg h5] at h;by_cases h6 : i.op = 6
 ·rw [if_pos h6] at h; exact ⟨by omega, by omega, by omega, by omega⟩
 rw [if_neg h6] at h;by_cases h7 : i.op = 7
 ·rw [if_pos h7] at h; exact ⟨by omega, by omega, by omega, by omega⟩
 rw [if_neg h7] at h;by_cases h8 : i.op = 8
 ·rw [if_pos h8] at h; exact ⟨by omega, by omega, by omega, by omega⟩
 rw [if_neg h8] at h;by_cases h9 : i.op = 9
 ·rw [if_pos h9] at h; exact ⟨by omega, by omega, by omega, by omega⟩
 rw [if_neg h9] at h;by_cases h10 : i.op = 10
 ·rw [if_pos h10] at h; exact ⟨by omega, by omega, by omega, by omega⟩
 rw [if_neg h10] at h;by_cases h11 : i.op = 11
 ·rw [if_pos h11] at h; exact ⟨by omega, by omega, by omega, by omega⟩
 rw [if_neg h11] at h;by_cases h12 : i.op = 12
 ·rw [if_pos h12] at h; exact ⟨by omega, by omega, by omega, by omega⟩
 rw [if_neg h12] at h;exact ⟨by omega, by omega, by omega, by omega⟩

theorem Jj6 {i : Ins} (s : Small i) (n : N14 i.n) : W32 (encW i) := by
 obtain ⟨h1, h2, h3, h4⟩ := s;unfold N14 at n;unfold W32 encW
 split <;> omega
theorem Jj5 {i : Ins} (s : Small i) (n : N14 i.n) : decW (encW i) = i := by
 obtain ⟨op, a, b, c, m⟩ := i;obtain ⟨h1, h2, h3, h4⟩ := s;unfold N14 at n;dsimp only at h1 h2 h3 h4 n
 have e : ∃ r, 0 <= r /\ r < 16384 /\ (if m < 0 then m + 16384 else m) = r /\ (if 8192 <= r then r - 16384 else r) = m := by
  by_cases hm : m < 0
  ·exact ⟨m + 16384, by omega, by omega, by rw [if_pos hm], by rw [if_pos (by omega)]; omega⟩
  ·exact ⟨m, by omega, by omega, by rw [if_neg hm], by rw [if_neg (by omega)]⟩
 obtain ⟨r, r0, r1, e1, e2⟩ := e;unfold decW encW;dsimp only;rw [e1];have q1 : ((((op * 16 + a) * 16 + b) * 16 + c) * 16384 + r) / 16384 = ((op * 16 + a) * 16 + b) * 16 + c := by omega
 have q2 : ((((op * 16 + a) * 16 + b) * 16 + c) * 16384 + r) % 16384 = r := by omega
 have q3 : (((op * 16 + a) * 16 + b) * 16 + c) / 16 = (op * 16 + a) * 16 + b := by omega
 have q4 : (((op * 16 + a) * 16 + b) * 16 + c) % 16 = c := by omega
 have q5 : ((op * 16 + a) * 16 + b) / 16 = op * 16 + a := by omega
 have q6 : ((op * 16 + a) * 16 + b) % 16 = b := by omega
 have q7 : (op * 16 + a) / 16 = op := by omega
 have q8 : (op * 16 + a) % 16 = a := by omega
 rw [q2, e2, q1, q4, q3, q6, q5, q8, q7]
def PutR (p : Prg) (f : Int × Int) : Prop :=
 (¬ p.Ok 8000 10 /\ f = (2, 0)) \/ (p.Ok 8000 10 /\ ∃ k : Nat, k < p.cl /\ (∀ j, j < k -> N14 (p.ins j).n) /\ ¬ N14 (p.ins k).n /\ f = (3, (k : Int))) \/ (p.Ok 8000 10 /\ (∀ j, j < p.cl -> N14 (p.ins j).n) /\ f = (0, 0))
theorem PutR.one {p : Prg} {f g : Int × Int} (h : PutR p f) (k : PutR p g) : f = g := by
 rcases h with ⟨h1, rfl⟩ | ⟨h1, a, h2, h3, h4, rfl⟩ | ⟨h1, h2, rfl⟩
 ·rcases k with ⟨_, rfl⟩ | ⟨k1, _⟩ | ⟨k1, _⟩
  ·rfl
  ·exact absurd k1 h1
  ·exact absurd k1 h1
 ·rcases k with ⟨k1, _⟩ | ⟨_, b, k2, k3, k4, rfl⟩ | ⟨_, k2, _⟩
  ·exact absurd h1 k1
  ·rcases Nat.lt_trichotomy a b with q | q | q
   ·exact absurd (k3 a q) h4
   ·rw [q]
   ·exact absurd (h3 b q) k4
  ·exact absurd (k2 a h2) h4
 ·rcases k with ⟨k1, _⟩ | ⟨_, b, k2, k3, k4, rfl⟩ | ⟨_, k2, rfl⟩
  ·exact absurd h1 k1
  ·exact absurd (h2 b k2) k4
  ·rfl
def WordsAt (w : World) (b o n : Nat) (f : Nat -> Int) : Prop := ∀ i, i < n -> w.cell? ⟨b, o + i, none⟩ = some (.int .u32 (f i))
theorem WordsAt.more {w w' : World} (m : More w w') {b o n : Nat} {f : Nat -> Int} (h : WordsAt w b o n f) : WordsAt w' b o n f := fun i hi => m.cell (h i hi)
end
end Go.Proofs.YtlbfbjeilfcjeaaGreat
